/-
  Trees and sums in memory. No program here, no statement is proved here.
-/
import Derived.Test.YtbajnnpihjmjmabIntS
import Derived.Test.YtbajnnpihjmjmabTrn
import Derived.Test.YtbajnnpihjmjmabSt3
namespace Go.Proofs.Ytbajnnpihjmjmab
open Go.RowKit

abbrev TreB (v : Value) (r : Int) : Obj := .cells #[v, .int .i64 r] 47 (0, 0)
def Fit64 (a : Int) : Prop := -9223372036854775808 ≤ a ∧ a ≤ 9223372036854775807
theorem fit4 {a b c d : Int} (h1 : Fit64 a) (h2 : Fit64 b) (h3 : Fit64 c) (h4 : Fit64 d) : ∀ (k : Nat) (x : Int), [a, b, c, d][k]? = some x → -9223372036854775808 ≤ x ∧ x ≤ 9223372036854775807 := by
  intro k x hx
  have := List.mem_of_getElem? hx
  simp at this; rcases this with rfl | rfl | rfl | rfl <;> assumption
/-- A block of numbers, of whatever kind, that the call itself laid. -/
theorem owN_blk {w : World} {g base : Nat} {E : TypeId} {ns : List Int} (hb : base ≤ g) (hl : ns.length ≤ 1000000) (h : w.heap[g]? = some (.cells (ns.map (Value.int .i64)).toArray E (0, 0))) : Ow encN 1 E base w (.slice (some ⟨g, 0, none⟩) ns.length ns.length) ns :=
  ⟨by rw [flatN]; simp, .inr ⟨g, ns.length, _, rfl, hb, h, Nat.le_refl _, by unfold maxLen; omega, by simp, by rw [flatN]; simp [List.take_of_length_le]⟩⟩
theorem rwS_blk {w : World} {g : Nat} {E : TypeId} {ns : List Int} {fz : Nat × Nat} (h : w.heap[g]? = some (.cells (ns.map (Value.int .i64)).toArray E fz)) : RwN w (.slice (some ⟨g, 0, none⟩) ns.length ns.length) ns := by
  refine ⟨_, _, rfl, Nat.le_refl _, .inr ⟨g, 0, rfl, (Array.getElem?_eq_some_iff.1 h).1, fun i x hx j hj => ?_⟩⟩
  obtain rfl : j = 0 := by omega
  obtain ⟨hi, rfl⟩ := List.getElem?_eq_some_iff.1 hx
  simp only [World.cell?, h]
  simp [encN, hi]

theorem fill4 (ls : List Int) (h : ls.length = 4) (k : Nat) (hk : k ≤ 4) : (ls.take k ++ List.replicate (4 - k) 0).length = 4 := by simp; omega
/-- A tree as it is told: its leaves are a row of the call's own. -/
def OwT (base : Nat) (w : World) (v : Value) (ns : List Int) : Prop := ∃ E : TypeId, Ow encN 1 E base w v ns
end Go.Proofs.Ytbajnnpihjmjmab
