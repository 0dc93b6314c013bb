/-
  Small helpers of the draws. No statement is proved here.
-/
import Derived.Test.YtdpaocikmijioabGreatDraw
namespace Go.Proofs.YtdpaocikmijioabGreat
open Go.RowKit

theorem Cur.later {w w' : World} {g : Nat} {v : Value} {xs : List Int} (h : Cur w g v xs) {B : Nat} (hb : Below B w w') (hB : w.heap.size ≤ B) : Cur w' g v xs := by
  obtain ⟨⟨i, k, hg, hi⟩, hs, hn⟩ := h
  have hlt : g < w.heap.size := (Array.getElem?_eq_some_iff.1 hg).1
  exact ⟨⟨i, k, (hb.block g (by omega)).trans hg, hi⟩, hs.below hb hB, hn⟩
theorem seg_new (w : World) (e : TypeId) (cs : List Value) (n : Nat) (hn : cs.length = n) (h : n ≤ 1000) : SegV (w.alloc (.cells cs.toArray e)) (.slice (some ⟨w.heap.size, 0, none⟩) n n) cs :=
  segv_of_owns (World.ownsRow_lit (base := 0) (size := 1) w cs.toArray n (Nat.zero_le _) (by unfold maxLen; omega) (by simp; omega))
/-- The block that was laid behind the cursor is not the cursor's. -/
theorem not_cur {w w1 : World} (h : w1.heap.size = w.heap.size + 1) (n c : Nat) : ∀ a n' c', Value.slice (some ⟨w1.heap.size, 0, none⟩) n c = .slice (some a) n' c' → a.block ≠ w.heap.size := by
  intro a n' c' he
  simp only [Value.slice.injEq, Option.some.injEq] at he
  rw [← he.1]
  show w1.heap.size ≠ w.heap.size
  omega

theorem below_cur {w w1 w2 : World} {o : Obj} (b1 : Below w.heap.size w w1) (hg : (w1.alloc o).grownBy w2 (some w.heap.size)) : Below w.heap.size w w2 :=
  (b1.alloc b1.size o).grown hg (by have := b1.size; simp; omega) (fun k hk => by simp at hk; omega)

theorem big_no (a : Option Addr) (n cap : Nat) (w : World) (h : ¬ 1048576 < n) : Calls Tryz.prog 6 #[.slice a n cap] w fun e w' => e = .returned (.bool false) ∧ w = w' := by
  have hd : decide (1048576 < (n : Int)) = false := by simp; omega
  go_enter Tryz.func6, Tryz.ntmps6
  go_wp2
  go_ret
  exact ⟨by rw [← hd]; rfl, rfl⟩
end Go.Proofs.YtdpaocikmijioabGreat
