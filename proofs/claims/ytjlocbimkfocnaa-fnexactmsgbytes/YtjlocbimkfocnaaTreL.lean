/-
  The helpers of the laws on trees. No statement is proved here.
-/
import Derived.Test.YtjlocbimkfocnaaTrA
import Derived.Test.YtjlocbimkfocnaaIntO
namespace Go.Proofs.Ytjlocbimkfocnaa
open Go.RowKit

set_option maxHeartbeats 4000000 in
set_option maxRecDepth 100000 in
theorem totree_any (a : Option Addr) (n c : Nat) (ns : List Int) (q : Int) (w : World) (hn : n ≤ 1073741824) (h : RwN w (.slice a n c) ns) :
    Calls Try.prog 50 #[.agg #[.slice a n c, .int .i64 q]] w fun e w' => ∃ a1 c1, e = .returned (.agg #[.slice a1 n c1, .int .i64 q]) ∧ OwN w.heap.size w' (.slice a1 n c1) ns ∧ Below w.heap.size w w' := by
  have HR := hide h
  clear h
  go_enter Try.func50, Try.ntmps50
  go_wp2_with fail
  have bW : Below w.heap.size w (((w.alloc (.cells #[.slice a n c, .int .i64 q] 37)).alloc (TreB (.slice none 0 0) 0)).alloc (TreB (.slice none 0 0) 0)) := (((Below.refl w.heap.size w).alloc (Nat.le_refl _) _).alloc (by simp) _).alloc (by simp <;> omega) _
  refine (toints_v a n c ns _ hn ((unhide HR).later bW)).mono ?_
  rintro e w1 ⟨a1, c1, rfl, o1, b1⟩
  have BL := hide (bW.trans (b1.mono (by simp; omega)))
  have KA := hide ((b1.block w.heap.size (by simp; omega)).trans (lowB3 w _ _ _))
  have KR := hide ((b1.block (w.heap.size + 1) (by simp)).trans (midB3 w _ _ _))
  have KO := hide ((b1.block (w.heap.size + 1 + 1) (by simp)).trans (newB3 w _ _ _))
  have O1 := hide (Ow.base (base' := w.heap.size + 1 + 1 + 1) o1 (by simp))
  have z1 : w.heap.size + 1 + 1 < w1.heap.size := (Array.getElem?_eq_some_iff.1 (unhide KO)).1
  clear bW b1 o1
  obtain ⟨a0, a1', -⟩ := blk_cells2 (unhide KA)
  obtain ⟨r0, r1, rf⟩ := blk_cells2 (unhide KR)
  obtain ⟨t0, t1, tf⟩ := blk_cells2 (unhide KO)
  have zA : w.heap.size < w1.heap.size := by omega
  go_wp2
  exact bodyPost_ret (v := .agg #[.slice a1 n c1, .int .i64 q]) (by simp [results, Try.results50, go_sem, r0, r1]) rfl ⟨a1, c1, rfl, Ow.base (((((unhide O1).set ⟨w.heap.size + 1 + 1, 0, none⟩ (by simp) _).set ⟨w.heap.size + 1 + 1, 1, none⟩ (by simp) _).set ⟨w.heap.size + 1, 0, none⟩ (by simp <;> omega) _).set ⟨w.heap.size + 1, 1, none⟩ (by simp <;> omega) _) (by omega), ((((unhide BL).setCell (p := ⟨w.heap.size + 1 + 1, 0, none⟩) (by simp <;> omega) _).setCell (p := ⟨w.heap.size + 1 + 1, 1, none⟩) (by simp <;> omega) _).setCell (p := ⟨w.heap.size + 1, 0, none⟩) (by simp) _).setCell (p := ⟨w.heap.size + 1, 1, none⟩) (by simp) _⟩
set_option maxHeartbeats 4000000 in
set_option maxRecDepth 100000 in
theorem eqtree_same (a a1 : Option Addr) (n c c1 : Nat) (ns : List Int) (q : Int) (w : World) (hn : n ≤ 140737488351232) (h : RwN w (.slice a n c) ns) (h1 : RwN w (.slice a1 n c1) ns) :
    Calls Try.prog 60 #[.agg #[.slice a n c, .int .i64 q], .agg #[.slice a1 n c1, .int .i64 q]] w fun e w' => e = .returned (.bool true) ∧ Below w.heap.size w w' := by
  have HR := hide h
  have HR1 := hide h1
  have hne : (q != q) = false := by simp
  clear h h1
  go_enter Try.func60, Try.ntmps60
  go_wp2_with fail
  have bW : Below w.heap.size w ((w.alloc (TreB (.slice a n c) q)).alloc (TreB (.slice a1 n c1) q)) := ((Below.refl w.heap.size w).alloc (Nat.le_refl _) _).alloc (by simp) _
  refine (eqints_v a a1 n c c1 ns _ hn ((unhide HR).later bW) ((unhide HR1).later bW)).mono ?_
  rintro e w1 ⟨rfl, b1⟩
  have BL := hide (bW.trans (b1.mono (by simp <;> omega)))
  obtain ⟨a0, a1', -⟩ := blk_cells2 ((b1.block w.heap.size (by simp <;> omega)).trans (lowB2 w _ _))
  obtain ⟨r0, r1, -⟩ := blk_cells2 ((b1.block (w.heap.size + 1) (by simp)).trans (newB2 w _ _))
  have z1 : w.heap.size + 1 < w1.heap.size := by have := b1.size; simp at this; omega
  have zA : w.heap.size < w1.heap.size := by omega
  clear bW b1
  go_wp2
  go_ret
  exact ⟨rfl, unhide BL⟩
set_option maxHeartbeats 4000000 in
theorem marktree_v {E : TypeId} (base : Nat) (a : Option Addr) (n c : Nat) (ns : List Int) (q k : Int) (w : World) (hn : n ≤ 140737488351232) (hk0 : 0 ≤ k) (hk1 : k ≤ 140737488351232) (h : Ow encN 1 E base w (.slice a n c) ns) :
    Calls Try.prog 64 #[.agg #[.slice a n c, .int .i64 q], .int .i64 k] w fun e w' => e = .returned (.int .i64 (k + n)) ∧ Ow encN 1 E base w' (.slice a n c) (markN k n) ∧ w.grownBy w' (Value.slice a n c).ownBlock := by
  have HO := hide (World.ownsRow.alloc h (TreB (.slice a n c) q))
  clear h
  go_enter Try.func64, Try.ntmps64
  go_wp2_with fail
  refine (markints_v base a n c ns k _ hn hk0 hk1 (unhide HO)).mono ?_
  rintro e w1 ⟨rfl, o1, g1⟩
  have O1 := hide o1
  have G1 := hide (grown_on (World.grownBy_alloc w (TreB (.slice a n c) q) (Value.slice a n c).ownBlock) g1)
  clear o1 g1
  go_wp2
  go_ret
  exact ⟨rfl, unhide O1, unhide G1⟩
set_option maxHeartbeats 4000000 in
theorem sztree_any (a : Option Addr) (n c : Nat) (q left : Int) (w : World) (hn : n ≤ 9223372036854775807) (h0 : 0 ≤ left) (h1 : left ≤ 1048576) :
    Calls Try.prog 43 #[.agg #[.slice a n c, .int .i64 q], .int .i64 left] w fun e w' => ((e = .returned (.int .i64 (-1)) ∧ left < n) ∨ (e = .returned (.int .i64 (left - n)) ∧ (n : Int) ≤ left)) ∧ Below w.heap.size w w' := by
  have hsz : Calls Try.prog 44 #[.slice a n c, .int .i64 left] (w.alloc (.cells #[.slice a n c, .int .i64 q] 37)) fun e w' => e = .returned (.int .i64 (if left < n then -1 else left - n)) ∧ w.alloc (.cells #[.slice a n c, .int .i64 q] 37) = w' := by
    by_cases hl : left < n
    · have hd : decide (left - (n : Int) < 0) = true := by simp; omega
      rw [if_pos hl]
      go_enter Try.func44, Try.ntmps44
      go_wp2
      go_ret
      exact ⟨rfl, rfl⟩
    · have hd : decide (left - (n : Int) < 0) = false := by simp; omega
      rw [if_neg hl]
      go_enter Try.func44, Try.ntmps44
      go_wp2
      go_ret
      exact ⟨rfl, rfl⟩
  by_cases hl : left < n
  · rw [if_pos hl] at hsz
    go_enter Try.func43, Try.ntmps43
    go_wp2_with fail
    refine hsz.mono ?_
    rintro e _ ⟨rfl, rfl⟩
    clear hsz
    go_wp2
    go_ret
    exact ⟨.inl ⟨rfl, hl⟩, (Below.refl _ _).alloc (Nat.le_refl _) _⟩
  · rw [if_neg hl] at hsz
    have hd : decide (left - (n : Int) < 0) = false := by simp; omega
    go_enter Try.func43, Try.ntmps43
    go_wp2_with fail
    refine hsz.mono ?_
    rintro e _ ⟨rfl, rfl⟩
    clear hsz
    go_wp2
    go_ret
    exact ⟨.inr ⟨rfl, by omega⟩, (Below.refl _ _).alloc (Nat.le_refl _) _⟩
end Go.Proofs.Ytjlocbimkfocnaa
