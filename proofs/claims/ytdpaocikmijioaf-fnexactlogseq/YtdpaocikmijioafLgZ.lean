/-
  A log that came in as an argument: its value written out, and what its rows read as. No statement is proved here.
-/
import Derived.Test.YtdpaocikmijioafLgA
import Derived.Test.YtdpaocikmijioafStO
import Derived.ProofKit
import Derived.ChangeArms
import Derived.Deep.Slices
namespace Go.Proofs.Ytdpaocikmijioaf
open Go.ChangeShapes Go.WideShapes Go.ChangeAt Go.RowKit

section
variable {H : Type} {enc : TypeId × Value → H} {w : World} {base : Nat} {spare : Nat → Bool} {held : Bool}

def StaAt (w : World) (p : Two) (s : Sta) : Prop := Rw encI 6 w p.1 s.1 ∧ Rw encF 2 w p.2 s.2 ∧ Big s.1 ∧ s.1.length ≤ 9223372036854775807 ∧ s.2.length ≤ 9223372036854775807
set_option maxRecDepth 100000 in
theorem sta_of_cells {fuel : Nat} {cs : List Value} {x : DataW H × List MemPlace} (h : DataW.trod enc Try.prog w base spare held fuel 28 cs = some x) :
    ∃ p : Two, cs = encS p ∧ ∃ s : Sta, StaAt w p s := by
  obtain ⟨xs, n, _, hx, hl, hlen, hfs⟩ := DataW.trod_struct Try.underlying28 h
  have hl2 : cs.length = 2 := hl.trans (by kernel_rfl)
  have c1 : Try.prog.cellsOf 25 = 1 := by kernel_rfl
  have c2 : Try.prog.cellsOf 26 = 1 := by kernel_rfl
  match cs, hl2 with
  | [v0, v1], _ =>
    have h0 : DataW.trod enc Try.prog w base spare held n 25 [v0] = xs[0]? := by
      have := hfs 0 _ rfl
      simpa [c1] using this
    have h1 : DataW.trod enc Try.prog w base spare held n 26 [v1] = xs[1]? := by
      have := hfs 1 _ rfl
      simpa [c2] using this
    match xs, hlen with
    | [y0, y1], _ =>
      simp only [List.getElem?_cons_zero, List.getElem?_cons_succ] at h0 h1
      obtain ⟨ai, ni, ci, xs, rfl, l1, r1, q1⟩ := rw_of_slice (ec := encI) (k := 6) (Q := fun y => y.2.2.2.2.2.size ≤ maxLen ∧ FitN y.1 ∧ FitK y.2) Try.underlying25 (by kernel_rfl) (by omega) (fun _ _ _ h => itm_of_cells h) h0
      obtain ⟨af, nf, cf, fs, rfl, l2, r2, q2⟩ := rw_of_slice (ec := encF) (k := 2) (Q := fun y => FitN y.1 ∧ FitN y.2) Try.underlying26 (by kernel_rfl) (by omega) (fun _ _ _ h => flr_of_cells h) h1
      unfold maxLen at l1 l2
      refine ⟨(.slice ai ni ci, .slice af nf cf), rfl, (xs, fs), r1, r2, fun k x hx => (q1 k x hx).1, ?_, ?_⟩
      · rw [← r1.len.1]; exact l1
      · rw [← r2.len.1]; exact l2

set_option maxRecDepth 100000 in
theorem open_log {r : Reach} {b0 : Nat} {v : Value} {d : DataW H} {p : List MemPlace}
    (hv : Value.okWide Try.prog w r b0 46 v) (h : DataW.Trod enc Try.prog w base spare held 46 v d p) :
    ∃ (c f : Int) (a : Option Addr) (n cap : Nat) (ss : List Sta), v = .agg #[.int .i64 c, .int .i64 f, .slice a n cap] ∧ n ≤ 9223372036854775807 ∧ RwS w (.slice a n cap) ss ∧ BigS ss ∧ FitN c ∧ FitN f := by
  obtain ⟨cs, rfl, hsz⟩ := okWide_struct Try.underlying46 hv
  have hs3 : cs.size = 3 := hsz.trans (by kernel_rfl)
  have c1 : Try.prog.cellsOf 44 = 1 := by kernel_rfl
  have ci : Try.prog.cellsOf 3 = 1 := by kernel_rfl
  obtain ⟨l⟩ := cs
  match l, hs3 with
  | [v0, v1, v2], _ =>
    obtain ⟨fuel, hf⟩ := h
    obtain ⟨xs, n, _, hx, hl, hlen, hfs⟩ := DataW.trod_struct Try.underlying46 hf
    have h0 : DataW.trod enc Try.prog w base spare held n 3 [v0] = xs[0]? := by
      have := hfs 0 _ rfl
      simpa [Value.cells, ci] using this
    have h1 : DataW.trod enc Try.prog w base spare held n 3 [v1] = xs[1]? := by
      have := hfs 1 _ rfl
      simpa [Value.cells, ci] using this
    have h2 : DataW.trod enc Try.prog w base spare held n 44 [v2] = xs[2]? := by
      have := hfs 2 _ rfl
      simpa [Value.cells, c1] using this
    match xs, hlen with
    | [y0, y1, y2], _ =>
      simp only [List.getElem?_cons_zero, List.getElem?_cons_succ] at h0 h1 h2
      obtain ⟨n0, e0, -, f0⟩ := DataW.trod_int Try.underlying3 h0
      obtain ⟨n1, e1, -, f1⟩ := DataW.trod_int Try.underlying3 h1
      simp only [List.cons.injEq, and_true] at e0 e1
      subst e0 e1
      obtain ⟨a, m, cap, ps, rfl, l1, r1, q1⟩ := rw_of_slice (ec := encS) (k := 2) (Q := fun y => ∃ s : Sta, StaAt w y s) Try.underlying44 (by kernel_rfl) (by omega) (fun _ _ _ h => sta_of_cells h) h2
      obtain ⟨ss, hsl, hss⟩ := list_of (p := fun i s => ∀ y, ps[i]? = some y → StaAt w y s) ps.length (fun i hi => by
        obtain ⟨s, hs⟩ := q1 i ps[i] (by simp [hi])
        exact ⟨s, fun y hy => by simp [hi] at hy; subst hy; exact hs⟩)
      unfold maxLen at l1
      refine ⟨n0, n1, a, m, cap, ss, rfl, l1, ⟨ps, r1, hsl.symm, fun i p s hp hs => ⟨(hss i s hs p hp).1, (hss i s hs p hp).2.1⟩⟩, fun i s hs => ?_, fit_of f0, fit_of f1⟩
      have hi : i < ps.length := by rw [← hsl]; exact (List.getElem?_eq_some_iff.1 hs).1
      exact (hss i s hs ps[i] (by simp [hi])).2.2
end
end Go.Proofs.Ytdpaocikmijioaf
