/-
  A table that came in as an argument: its value written out, and what its rows read as. No statement is proved here.
-/
import Derived.Test.YtighiahppjekeabGreatGrA
namespace Go.Proofs.YtighiahppjekeabGreat
open Go.ChangeShapes Go.WideShapes Go.ChangeAt Go.RowKit

section
variable {H : Type} {enc : TypeId × Value → H} {w : World} {base : Nat} {spare : Nat → Bool} {held : Bool}
def RowAt (w : World) (p : Value) (r : List Int) : Prop := RwN w p r ∧ nilV p ∧ r.length ≤ 9223372036854775807 ∧ FitNs r
set_option maxRecDepth 100000 in
theorem row_of_cells {fuel : Nat} {cs : List Value} {x : DataW H × List MemPlace} (h : DataW.trod enc Tryz.prog w base spare held fuel 43 cs = some x) : ∃ p : Value, cs = encV p ∧ ∃ r, RowAt w p r := by
  have hcs : ∃ p, cs = [p] := by
    rcases Deep.open_slice Tryz.underlying43 h with ⟨e, -⟩ | ⟨a, len, cap, m, n, D, Pl, e, -⟩
    · exact ⟨_, e⟩
    · exact ⟨_, e⟩
  obtain ⟨p, rfl⟩ := hcs
  refine ⟨p, rfl, ?_⟩
  obtain ⟨a, n, c, ns, rfl, l1, r1, q1⟩ := rw_of_slice (ec := encN) (k := 1) (Q := FitN) Tryz.underlying43 (by kernel_rfl) (by omega) (fun _ _ _ h => int_of_cells h) h
  refine ⟨ns, r1, ?_, by have := r1.len.1; unfold maxLen at l1; omega, q1⟩
  intro n' c' e
  rcases Deep.open_slice Tryz.underlying43 h with ⟨h1, -⟩ | ⟨a, len, cap, m, n, D, Pl, h1, -⟩
  · simp only [List.cons.injEq, and_true] at h1
    rw [e] at h1
    simp only [Value.slice.injEq] at h1
    exact h1.2.2
  · simp only [List.cons.injEq, and_true] at h1
    rw [e] at h1
    simp at h1
set_option maxRecDepth 100000 in
theorem open_grid {r : Reach} {b0 : Nat} {v : Value} {d : DataW H} {p : List MemPlace}
    (hv : Value.okWide Tryz.prog w r b0 26 v) (h : DataW.Trod enc Tryz.prog w base spare held 26 v d p) :
    ∃ a n c t, v = .slice a n c ∧ n ≤ 9223372036854775807 ∧ RwG w (.slice a n c) t ∧ BigG t ∧ ∀ (i : Nat) (q : List Int), t[i]? = some q → FitNs q := by
  obtain ⟨a0, l0, c0, rfl⟩ := Go.WideShapes.okWide_slice Tryz.underlying26 hv
  obtain ⟨fuel, hf⟩ := h
  obtain ⟨a, m, cap, ps, e, l1, r1, q1⟩ := rw_of_slice (ec := encV) (k := 1) (Q := fun y => ∃ r, RowAt w y r) Tryz.underlying26 (by kernel_rfl) (by omega) (fun _ _ _ h => row_of_cells h) (c := .slice a0 l0 c0) (by simpa [Value.cells] using hf)
  obtain ⟨t, hsl, hss⟩ := list_of (p := fun i s => ∀ y, ps[i]? = some y → RowAt w y s) ps.length (fun i hi => by
    obtain ⟨s, hs⟩ := q1 i ps[i] (by simp [hi])
    exact ⟨s, fun y hy => by simp [hi] at hy; subst hy; exact hs⟩)
  unfold maxLen at l1
  have hps : ∀ (i : Nat) (s : List Int), t[i]? = some s → ∃ y, ps[i]? = some y ∧ RowAt w y s := fun i s hs => by
    have hi : i < ps.length := by rw [← hsl]; exact (List.getElem?_eq_some_iff.1 hs).1
    exact ⟨ps[i], by simp [hi], hss i s hs ps[i] (by simp [hi])⟩
  refine ⟨a, m, cap, t, e, l1, ⟨ps, r1, hsl.symm, fun i p s hp hs => ?_⟩, fun i s hs => ?_, fun i s hs => ?_⟩
  · have := hss i s hs p hp
    exact ⟨this.1, this.2.1⟩
  · obtain ⟨y, -, hy⟩ := hps i s hs; exact hy.2.2.1
  · obtain ⟨y, -, hy⟩ := hps i s hs; exact hy.2.2.2
end
end Go.Proofs.YtighiahppjekeabGreat
