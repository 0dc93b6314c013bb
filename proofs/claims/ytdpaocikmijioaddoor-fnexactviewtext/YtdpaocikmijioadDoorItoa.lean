/-
  The program's Digits (the library's Itoa) returns the text that the list function 'digs' says, where the library's table of powers reads as it is laid. No statement is proved here.
-/
import Derived.Test.YtdpaocikmijioadDoorDigP
import Derived.Test.YtdpaocikmijioadDoorShelf
import Derived.Lib.ItoaNum
import Derived.WalkSmall
namespace Go.Proofs.YtdpaocikmijioadDoor
open Go.RowKit

theorem dgs_dec (f u : Nat) (acc : List Int) (h0 : u ≠ 0) (hu : u < 10 ^ f) : (dgs f u acc).map (fun n => UInt8.ofNat n.toNat) = Lib.decDigits u ++ acc.map (fun n => UInt8.ofNat n.toNat) := by
  induction f generalizing u acc with
  | zero => simp at hu; exact absurd hu h0
  | succ f ih =>
    rw [dgs_step _ _ _ h0, Lib.decDigits]
    have e1 : (48 + (u : Int) % 10).toNat = 48 + u % 10 := by omega
    by_cases h : u < 10
    · rw [dif_pos h, show u / 10 = 0 by omega, dgs_zero, List.map_cons, e1, show u % 10 = u by omega]
      rfl
    · rw [dif_neg h, ih _ _ (by omega) (pow_step f u hu), List.map_cons, e1]
      simp
theorem digs_itoa (n : Int) (h1 : -9223372036854775808 ≤ n) (h2 : n ≤ 9223372036854775807) : strOfNums (digs n) = ⟨(Lib.itoa n).toArray⟩ := by
  unfold strOfNums digs Lib.itoa
  by_cases h0 : n = 0
  · subst h0
    rw [if_pos rfl, if_neg (by omega), Lib.decDigits, dif_pos (by decide)]
    rfl
  · rw [if_neg h0]
    by_cases hn : n < 0
    · rw [if_pos hn, if_pos hn, List.map_cons, dgs_dec 20 n.natAbs [] (by omega) (by omega)]
      simp
    · rw [if_neg hn, if_neg hn, dgs_dec 20 n.natAbs [] (by omega) (by omega), show n.natAbs = n.toNat by omega]
      simp
theorem below_grow (w : World) (k : Nat) (os : Array Obj) : Below w.heap.size w (Sort.grow (w.drewN k) os) :=
  ⟨rfl, rfl, rfl, by show w.heap.size ≤ (w.heap ++ os).size; simp, fun j hj => by
    show (w.heap ++ os)[j]? = w.heap[j]?
    rw [Array.getElem?_append_left hj]⟩
theorem gPow : Tryd.prog.globalNamed "internal/strconv.uint64pow10" = some 1 := by kernel_rfl
/-- The table reads on as it read. -/
theorem tab_later {w w' : World} (h : Lib.TabIs Tryd.prog w "internal/strconv.uint64pow10" .u64 Lib.pow10Tab) {B : Nat} (hb : Below B w w') (hB : 1 < B) : Lib.TabIs Tryd.prog w' "internal/strconv.uint64pow10" .u64 Lib.pow10Tab :=
  var?_below hb gPow hB h
theorem tab_lt {w : World} (h : Lib.TabIs Tryd.prog w "internal/strconv.uint64pow10" .u64 Lib.pow10Tab) : 1 < w.heap.size :=
  World.block_lt_of_cell? w _ (h.cell gPow 0 (by decide))

set_option maxHeartbeats 1000000 in
theorem idigits_any (n : Int) (w : World) (h1 : -9223372036854775808 ≤ n) (h2 : n ≤ 9223372036854775807) (hT : Lib.TabIs Tryd.prog w "internal/strconv.uint64pow10" .u64 Lib.pow10Tab) :
    Calls Tryd.prog 25 #[.int .i64 n] w fun e w' => e = .returned (.string (strOfNums (digs n))) ∧ Below w.heap.size w w' := by
  have HC := hide (Tryd.strconv_Itoa n h1 h2 w hT)
  have HE := hide (digs_itoa n h1 h2)
  clear hT
  go_enter Tryd.func25, Tryd.ntmps25
  go_wp2_with fail
  refine (unhide HC).mono ?_
  rintro e w' ⟨rfl, k, os, rfl⟩
  rw [← unhide HE]
  go_wp2
  go_ret
  exact ⟨rfl, below_grow w k os⟩
end Go.Proofs.YtdpaocikmijioadDoor
