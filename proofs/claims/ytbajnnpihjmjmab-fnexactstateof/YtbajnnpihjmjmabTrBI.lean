/-
  The bytes of a state: the program's. No statement is proved here.
-/
import Derived.Test.YtbajnnpihjmjmabTrB
import Derived.Test.YtbajnnpihjmjmabApp2
namespace Go.Proofs.Ytbajnnpihjmjmab
open Go.RowKit

theorem okE_fits {e : Key} (h : okE e.1 e.2.1 e.2.2.1 e.2.2.2.1 e.2.2.2.2 = true) : (0 ≤ e.1 ∧ e.1 ≤ 1000) ∧ (0 ≤ e.2.1 ∧ e.2.1 ≤ 1) ∧ (0 ≤ e.2.2.1 ∧ e.2.2.1 ≤ 100000) ∧ (0 ≤ e.2.2.2.1 ∧ e.2.2.2.1 ≤ 1000) ∧ (e.2.2.2.2.size : Int) ≤ 8 := by
  simp only [okE, Bool.and_eq_true, inB_iff, decide_eq_true_eq] at h
  obtain ⟨⟨⟨⟨a, b⟩, c⟩, d⟩, e⟩ := h
  exact ⟨⟨by omega, a.2⟩, b, c, d, e⟩
/-- A block of numbers, as it is laid for a call, reads as its numbers. -/
theorem rwN_blk {w : World} {g : Nat} {ns : List Int} {fz : Nat × Nat} (h : w.heap[g]? = some (.cells (ns.map (Value.int .i64)).toArray 3 fz)) : RwN w (.slice (some ⟨g, 0, none⟩) ns.length ns.length) ns := by
  refine ⟨_, _, rfl, Nat.le_refl _, .inr ⟨g, 0, rfl, (Array.getElem?_eq_some_iff.1 h).1, fun i x hx j hj => ?_⟩⟩
  obtain rfl : j = 0 := by omega
  obtain ⟨hi, rfl⟩ := List.getElem?_eq_some_iff.1 hx
  simp only [World.cell?, h]
  simp [encN, hi]
/-- While a state's bytes are made: the argument, what is made. -/
structure B2 (w X : World) (v1 v2 : Value) (v : Value) (bs : List Int) : Prop where
  bel : Below w.heap.size w X
  ka : X.heap[w.heap.size]? = some (.cells #[v1, v2] 26 (0, 0))
  ob : OwB w.heap.size X v bs
section
variable {w X Y : World} {v1 v2 v v' : Value} {bs cs : List Int}
theorem B2.lt (h : B2 w X v1 v2 v bs) : w.heap.size < X.heap.size := (Array.getElem?_eq_some_iff.1 h.ka).1
theorem B2.later (h : B2 w X v1 v2 v bs) (b : Below X.heap.size X Y) : B2 w Y v1 v2 v bs := by
  exact ⟨h.bel.trans (b.mono h.bel.size), (b.block _ h.lt).trans h.ka, owns_later h.ob b (Nat.le_refl _)⟩
theorem B2.app (h : B2 w X v1 v2 v bs) (ho : OwB w.heap.size Y v' cs) (hg : X.grownBy Y v.ownBlock) : B2 w Y v1 v2 v' cs :=
  ⟨h.bel.grown hg h.bel.size (fun k hk => (h.ob.lt k hk).1), (hg.block _ h.lt (fun q => own_ne h.ob h.ka (by decide) q.symm)).trans h.ka, ho⟩
/-- A block of another kind stays as it was. -/
theorem B2.keep (h : B2 w X v1 v2 v bs) (hg : X.grownBy Y v.ownBlock) {g : Nat} {zs : Array Value} {T : TypeId} {fz : Nat × Nat} (hk : X.heap[g]? = some (.cells zs T fz)) (hT : (5 : Nat) ≠ T) : Y.heap[g]? = some (.cells zs T fz) :=
  (hg.block _ (Array.getElem?_eq_some_iff.1 hk).1 (fun q => own_ne h.ob hk hT q.symm)).trans hk
end
theorem fit1 (a : Int) (h : -9223372036854775808 ≤ a ∧ a ≤ 9223372036854775807) : ∀ (k : Nat) (x : Int), [a][k]? = some x → -9223372036854775808 ≤ x ∧ x ≤ 9223372036854775807 := by
  intro k x hx
  have := List.mem_of_getElem? hx
  simp at this; subst this; exact h
theorem fit2 {a b : Int} (h1 : -9223372036854775808 ≤ a ∧ a ≤ 9223372036854775807) (h2 : -9223372036854775808 ≤ b ∧ b ≤ 9223372036854775807) : ∀ (k : Nat) (x : Int), [a, b][k]? = some x → -9223372036854775808 ≤ x ∧ x ≤ 9223372036854775807 := by
  intro k x hx
  have := List.mem_of_getElem? hx
  simp at this; rcases this with rfl | rfl <;> assumption
theorem fit5 {a b c d e : Int} (h1 : -9223372036854775808 ≤ a ∧ a ≤ 9223372036854775807) (h2 : -9223372036854775808 ≤ b ∧ b ≤ 9223372036854775807) (h3 : -9223372036854775808 ≤ c ∧ c ≤ 9223372036854775807) (h4 : -9223372036854775808 ≤ d ∧ d ≤ 9223372036854775807) (h5 : -9223372036854775808 ≤ e ∧ e ≤ 9223372036854775807) : ∀ (k : Nat) (x : Int), [a, b, c, d, e][k]? = some x → -9223372036854775808 ≤ x ∧ x ≤ 9223372036854775807 := by
  intro k x hx
  have := List.mem_of_getElem? hx
  simp at this; rcases this with rfl | rfl | rfl | rfl | rfl <;> assumption

end Go.Proofs.Ytbajnnpihjmjmab
