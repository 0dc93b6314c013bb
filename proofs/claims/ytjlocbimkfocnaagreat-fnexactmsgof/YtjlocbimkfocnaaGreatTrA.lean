/-
  Trees and sums in memory. No program here, no statement is proved here.
-/
import Derived.Test.YtjlocbimkfocnaaGreatIntS
import Derived.Test.YtjlocbimkfocnaaGreatTrn
import Derived.Test.YtjlocbimkfocnaaGreatApp2
namespace Go.Proofs.YtjlocbimkfocnaaGreat
open Go.RowKit

abbrev SumB (a b c d : Int) : Obj := .cells #[.int .i64 a, .int .i64 b, .int .i64 c, .int .i64 d] 118 (0, 0)
abbrev TreB (v : Value) (r : Int) : Obj := .cells #[v, .int .i64 r] 26 (0, 0)
def Fit64 (a : Int) : Prop := -9223372036854775808 ≤ a ∧ a ≤ 9223372036854775807
theorem fit4 {a b c d : Int} (h1 : Fit64 a) (h2 : Fit64 b) (h3 : Fit64 c) (h4 : Fit64 d) : ∀ (k : Nat) (x : Int), [a, b, c, d][k]? = some x → -9223372036854775808 ≤ x ∧ x ≤ 9223372036854775807 := by
  intro k x hx
  have := List.mem_of_getElem? hx
  simp at this; rcases this with rfl | rfl | rfl | rfl <;> assumption
/-- A block of numbers, of whatever kind, that the call itself laid. -/
theorem owN_blk {w : World} {g base : Nat} {E : TypeId} {ns : List Int} (hb : base ≤ g) (hl : ns.length ≤ 1000000) (h : w.heap[g]? = some (.cells (ns.map (Value.int .i64)).toArray E (0, 0))) : Ow encN 1 E base w (.slice (some ⟨g, 0, none⟩) ns.length ns.length) ns :=
  ⟨by rw [flatN]; simp, .inr ⟨g, ns.length, _, rfl, hb, h, Nat.le_refl _, by unfold maxLen; omega, by simp, by rw [flatN]; simp [List.take_of_length_le]⟩⟩
theorem rwS_blk {w : World} {g : Nat} {E : TypeId} {ns : List Int} {fz : Nat × Nat} (h : w.heap[g]? = some (.cells (ns.map (Value.int .i64)).toArray E fz)) : RwN w (.slice (some ⟨g, 0, none⟩) ns.length ns.length) ns := by
  refine ⟨_, _, rfl, Nat.le_refl _, .inr ⟨g, 0, rfl, (Array.getElem?_eq_some_iff.1 h).1, fun i x hx j hj => ?_⟩⟩
  obtain rfl : j = 0 := by omega
  obtain ⟨hi, rfl⟩ := List.getElem?_eq_some_iff.1 hx
  simp only [World.cell?, h]
  simp [encN, hi]
/-- While a tree is made of its sums: the sums, the result's variable. -/
structure C9 (w W : World) (a b c d : Int) : Prop where
  bel : Below w.heap.size w W
  ka : W.heap[w.heap.size]? = some (SumB a b c d)
  kr : W.heap[w.heap.size + 1]? = some (TreB (.slice none 0 0) 0)
section
variable {w W Y : World} {a b c d : Int}
theorem C9.lt (h : C9 w W a b c d) : w.heap.size + 1 < W.heap.size := (Array.getElem?_eq_some_iff.1 h.kr).1
theorem C9.later (h : C9 w W a b c d) (k : Below W.heap.size W Y) : C9 w Y a b c d := by
  have := h.lt
  exact ⟨h.bel.trans (k.mono h.bel.size), (k.block _ (by omega)).trans h.ka, (k.block _ h.lt).trans h.kr⟩
theorem C9.drewH (h : Hid (C9 w W a b c d)) : Hid (C9 w W.drew a b c d) := hide ((unhide h).later ((Below.refl _ _).drew))
theorem C9.rw (h : C9 w W a b c d) : RwN W (.slice (some ⟨w.heap.size, 0, none⟩) 4 4) [a, b, c, d] := rwS_blk (ns := [a, b, c, d]) h.ka
theorem C9.bs (h : Hid (C9 w W a b c d)) (x y : Value) : Below w.heap.size w ((W.setCell ⟨w.heap.size + 1, 0, none⟩ x).setCell ⟨w.heap.size + 1, 1, none⟩ y) := ((unhide h).bel.setCell (p := ⟨w.heap.size + 1, 0, none⟩) (by simp) _).setCell (p := ⟨w.heap.size + 1, 1, none⟩) (by simp) _
end
theorem C9.new (w : World) (a b c d : Int) : C9 w ((w.alloc (SumB a b c d)).alloc (TreB (.slice none 0 0) 0)) a b c d :=
  ⟨((Below.refl w.heap.size w).alloc (Nat.le_refl _) _).alloc (by simp) _, lowB2 w _ _, newB2 w _ _⟩

theorem fill4 (ls : List Int) (h : ls.length = 4) (k : Nat) (hk : k ≤ 4) : (ls.take k ++ List.replicate (4 - k) 0).length = 4 := by simp; omega
/-- A tree as it is told: its leaves are a row of the call's own. -/
def OwT (base : Nat) (w : World) (v : Value) (ns : List Int) : Prop := ∃ E : TypeId, Ow encN 1 E base w v ns
end Go.Proofs.YtjlocbimkfocnaaGreat
