/-
  A state that came in as an argument: its value written out, and what its rows read as. No statement is proved here.
-/
import Derived.Test.YtjlocbimkfocnaaStA
import Derived.Test.YtjlocbimkfocnaaRwI
import Derived.ProofKit
import Derived.ChangeArms
import Derived.Deep.Slices
namespace Go.Proofs.Ytjlocbimkfocnaa
open Go.ChangeShapes Go.WideShapes Go.ChangeAt Go.RowKit

def FitK (e : Key) : Prop := FitN e.1 ∧ FitN e.2.1 ∧ FitN e.2.2.1 ∧ FitN e.2.2.2.1
/-- Each number is one of this machine. -/
def FitI (xs : List Itm) : Prop := ∀ (k : Nat) (x : Itm), xs[k]? = some x → FitN x.1 ∧ FitK x.2
def FitF (fs : List Flr) : Prop := ∀ (k : Nat) (x : Flr), fs[k]? = some x → FitN x.1 ∧ FitN x.2

section
variable {H : Type} {enc : TypeId × Value → H} {w : World} {base : Nat} {spare : Nat → Bool} {held : Bool}

set_option maxRecDepth 100000 in
theorem ent_of_cells {fuel : Nat} {cs : List Value} {x : DataW H × List MemPlace} (h : DataW.trod enc Try.prog w base spare held fuel 146 cs = some x) :
    ∃ e : Key, cs = [.int .i64 e.1, .int .i64 e.2.1, .int .i64 e.2.2.1, .int .i64 e.2.2.2.1, .string e.2.2.2.2] ∧ e.2.2.2.2.size ≤ maxLen ∧ FitK e := by
  obtain ⟨xs, n, _, hx, hl, hlen, hfs⟩ := DataW.trod_struct Try.underlying146 h
  have hl5 : cs.length = 5 := hl.trans (by kernel_rfl)
  have ci : Try.prog.cellsOf 3 = 1 := by kernel_rfl
  have cst : Try.prog.cellsOf 9 = 1 := by kernel_rfl
  match cs, hl5 with
  | [c0, c1, c2, c3, c4], _ =>
    have h0 : DataW.trod enc Try.prog w base spare held n 3 [c0] = xs[0]? := by
      have := hfs 0 _ rfl
      simpa [ci] using this
    have h1 : DataW.trod enc Try.prog w base spare held n 3 [c1] = xs[1]? := by
      have := hfs 1 _ rfl
      simpa [ci] using this
    have h2 : DataW.trod enc Try.prog w base spare held n 3 [c2] = xs[2]? := by
      have := hfs 2 _ rfl
      simpa [ci] using this
    have h3 : DataW.trod enc Try.prog w base spare held n 3 [c3] = xs[3]? := by
      have := hfs 3 _ rfl
      simpa [ci] using this
    have h4 : DataW.trod enc Try.prog w base spare held n 9 [c4] = xs[4]? := by
      have := hfs 4 _ rfl
      simpa [cst] using this
    match xs, hlen with
    | [y0, y1, y2, y3, y4], _ =>
      simp only [List.getElem?_cons_zero, List.getElem?_cons_succ] at h0 h1 h2 h3 h4
      obtain ⟨n0, e0, -, f0⟩ := DataW.trod_int Try.underlying3 h0
      obtain ⟨n1, e1, -, f1⟩ := DataW.trod_int Try.underlying3 h1
      obtain ⟨n2, e2, -, f2⟩ := DataW.trod_int Try.underlying3 h2
      obtain ⟨n3, e3, -, f3⟩ := DataW.trod_int Try.underlying3 h3
      obtain ⟨s, e4, -, f4⟩ := DataW.trod_string Try.underlying9 h4
      simp only [List.cons.injEq, and_true] at e0 e1 e2 e3 e4
      exact ⟨(n0, n1, n2, n3, s), by rw [e0, e1, e2, e3, e4], f4, fit_of f0, fit_of f1, fit_of f2, fit_of f3⟩

set_option maxRecDepth 100000 in
theorem itm_of_cells {fuel : Nat} {cs : List Value} {x : DataW H × List MemPlace} (h : DataW.trod enc Try.prog w base spare held fuel 148 cs = some x) :
    ∃ y : Itm, cs = encI y ∧ y.2.2.2.2.2.size ≤ maxLen ∧ FitN y.1 ∧ FitK y.2 := by
  obtain ⟨xs, n, _, hx, hl, hlen, hfs⟩ := DataW.trod_struct Try.underlying148 h
  have hl6 : cs.length = 6 := hl.trans (by kernel_rfl)
  have ci : Try.prog.cellsOf 3 = 1 := by kernel_rfl
  have ce : Try.prog.cellsOf 146 = 5 := by kernel_rfl
  match cs, hl6 with
  | [c0, c1, c2, c3, c4, c5], _ =>
    have h0 : DataW.trod enc Try.prog w base spare held n 3 [c0] = xs[0]? := by
      have := hfs 0 _ rfl
      simpa [ci] using this
    have h1 : DataW.trod enc Try.prog w base spare held n 146 [c1, c2, c3, c4, c5] = xs[1]? := by
      have := hfs 1 _ rfl
      simpa [ce] using this
    match xs, hlen with
    | [y0, y1], _ =>
      simp only [List.getElem?_cons_zero, List.getElem?_cons_succ] at h0 h1
      obtain ⟨n0, e0, -, f0⟩ := DataW.trod_int Try.underlying3 h0
      obtain ⟨e, e1, f1, f2⟩ := ent_of_cells h1
      simp only [List.cons.injEq, and_true] at e0 e1
      obtain ⟨d1, d2, d3, d4, d5⟩ := e1
      exact ⟨(n0, e), by rw [e0, d1, d2, d3, d4, d5]; rfl, f1, fit_of f0, f2⟩

set_option maxRecDepth 100000 in
theorem flr_of_cells {fuel : Nat} {cs : List Value} {x : DataW H × List MemPlace} (h : DataW.trod enc Try.prog w base spare held fuel 151 cs = some x) :
    ∃ y : Flr, cs = encF y ∧ FitN y.1 ∧ FitN y.2 := by
  obtain ⟨xs, n, _, hx, hl, hlen, hfs⟩ := DataW.trod_struct Try.underlying151 h
  have hl2 : cs.length = 2 := hl.trans (by kernel_rfl)
  have ci : Try.prog.cellsOf 3 = 1 := by kernel_rfl
  match cs, hl2 with
  | [c0, c1], _ =>
    have h0 : DataW.trod enc Try.prog w base spare held n 3 [c0] = xs[0]? := by
      have := hfs 0 _ rfl
      simpa [ci] using this
    have h1 : DataW.trod enc Try.prog w base spare held n 3 [c1] = xs[1]? := by
      have := hfs 1 _ rfl
      simpa [ci] using this
    match xs, hlen with
    | [y0, y1], _ =>
      simp only [List.getElem?_cons_zero, List.getElem?_cons_succ] at h0 h1
      obtain ⟨n0, e0, -, f0⟩ := DataW.trod_int Try.underlying3 h0
      obtain ⟨n1, e1, -, f1⟩ := DataW.trod_int Try.underlying3 h1
      simp only [List.cons.injEq, and_true] at e0 e1
      exact ⟨(n0, n1), by rw [e0, e1]; rfl, fit_of f0, fit_of f1⟩

set_option maxRecDepth 100000 in
theorem open_state {r : Reach} {b0 : Nat} {v : Value} {d : DataW H} {p : List MemPlace}
    (hv : Value.okWide Try.prog w r b0 41 v) (h : DataW.Trod enc Try.prog w base spare held 41 v d p) :
    ∃ ai ni ci xs af nf cf fs, v = .agg #[.slice ai ni ci, .slice af nf cf] ∧ ni ≤ 9223372036854775807 ∧ nf ≤ 9223372036854775807 ∧ Rw encI 6 w (.slice ai ni ci) xs ∧ Rw encF 2 w (.slice af nf cf) fs ∧ Big xs ∧ FitI xs ∧ FitF fs := by
  obtain ⟨cs, rfl, hsz⟩ := okWide_struct Try.underlying41 hv
  have hs2 : cs.size = 2 := hsz.trans (by kernel_rfl)
  have c1 : Try.prog.cellsOf 38 = 1 := by kernel_rfl
  have c2 : Try.prog.cellsOf 39 = 1 := by kernel_rfl
  obtain ⟨l⟩ := cs
  match l, hs2 with
  | [v0, v1], _ =>
    obtain ⟨fuel, hf⟩ := h
    obtain ⟨xs, n, _, hx, hl, hlen, hfs⟩ := DataW.trod_struct Try.underlying41 hf
    have h0 : DataW.trod enc Try.prog w base spare held n 38 [v0] = xs[0]? := by
      have := hfs 0 _ rfl
      simpa [Value.cells, c1] using this
    have h1 : DataW.trod enc Try.prog w base spare held n 39 [v1] = xs[1]? := by
      have := hfs 1 _ rfl
      simpa [Value.cells, c2] using this
    match xs, hlen with
    | [y0, y1], _ =>
      simp only [List.getElem?_cons_zero, List.getElem?_cons_succ] at h0 h1
      obtain ⟨ai, ni, ci, xs, rfl, l1, r1, q1⟩ := rw_of_slice (ec := encI) (k := 6) (Q := fun y => y.2.2.2.2.2.size ≤ maxLen ∧ FitN y.1 ∧ FitK y.2) Try.underlying38 (by kernel_rfl) (by omega) (fun _ _ _ h => itm_of_cells h) h0
      obtain ⟨af, nf, cf, fs, rfl, l2, r2, q2⟩ := rw_of_slice (ec := encF) (k := 2) (Q := fun y => FitN y.1 ∧ FitN y.2) Try.underlying39 (by kernel_rfl) (by omega) (fun _ _ _ h => flr_of_cells h) h1
      unfold maxLen at l1 l2
      exact ⟨ai, ni, ci, xs, af, nf, cf, fs, rfl, l1, l2, r1, r2, fun k x hx => (q1 k x hx).1, fun k x hx => (q1 k x hx).2, q2⟩
end
end Go.Proofs.Ytjlocbimkfocnaa
