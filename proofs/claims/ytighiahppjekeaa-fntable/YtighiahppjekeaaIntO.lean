/-
  A slice of numbers, and a tree, as an argument, opened; the laws' helpers on slices of numbers, said of values. No statement is proved here.
-/
import Derived.Test.YtighiahppjekeaaIntS
import Derived.Test.YtighiahppjekeaaRwI
import Derived.Test.YtighiahppjekeaaStO
namespace Go.Proofs.Ytighiahppjekeaa
open Go.RowKit

def FitNs (ns : List Int) : Prop := ∀ (k : Nat) (x : Int), ns[k]? = some x → FitN x
section
variable {H : Type} {enc : TypeId × Value → H} {w : World} {base : Nat} {spare : Nat → Bool} {held : Bool}
theorem int_of_cells {fuel : Nat} {cs : List Value} {x : DataW H × List MemPlace} (h : DataW.trod enc Try.prog w base spare held fuel 3 cs = some x) : ∃ y : Int, cs = encN y ∧ FitN y := by
  obtain ⟨n0, e0, -, f0⟩ := DataW.trod_int Try.underlying3 h
  exact ⟨n0, by rw [e0]; rfl, fit_of f0⟩
set_option maxRecDepth 100000 in
theorem open_numrow {r : Reach} {b0 : Nat} {v : Value} {d : DataW H} {p : List MemPlace}
    (hv : Value.okWide Try.prog w r b0 30 v) (h : DataW.Trod enc Try.prog w base spare held 30 v d p) :
    ∃ a n c ns, v = .slice a n c ∧ n ≤ 9223372036854775807 ∧ RwN w (.slice a n c) ns ∧ FitNs ns := by
  obtain ⟨a0, l0, c0, rfl⟩ := Go.WideShapes.okWide_slice Try.underlying30 hv
  obtain ⟨fuel, hf⟩ := h
  obtain ⟨a, n, c, ns, e, l1, r1, q1⟩ := rw_of_slice (ec := encN) (k := 1) (Q := FitN) Try.underlying30 (by kernel_rfl) (by omega) (fun _ _ _ h => int_of_cells h) (c := .slice a0 l0 c0) (by simpa [Value.cells] using hf)
  unfold maxLen at l1
  exact ⟨a, n, c, ns, e, l1, r1, q1⟩
end
end Go.Proofs.Ytighiahppjekeaa
