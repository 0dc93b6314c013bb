/-
  Decimal digits as a function on lists ('dgs', 'digs'), and two laws of the walk for texts that are put together of bytes. No statement is proved here.
-/
import Derived.Test.YtdpaocikmijioadDoorBase
import Derived.Laws.BytesArg
import Derived.Laws.Concat
namespace Go.Proofs.YtdpaocikmijioadDoor
open Go.RowKit

def dgs : Nat → Nat → List Int → List Int
  | 0, _, acc => acc
  | f + 1, n, acc => if n = 0 then acc else dgs f (n / 10) ((48 + (n : Int) % 10) :: acc)
def digs (n : Int) : List Int := if n = 0 then [48] else if n < 0 then 45 :: dgs 20 n.natAbs [] else dgs 20 n.natAbs []

theorem dgs_zero (f : Nat) (acc : List Int) : dgs f 0 acc = acc := by cases f <;> simp [dgs]
theorem dgs_step (f n : Nat) (acc : List Int) (h : n ≠ 0) : dgs (f + 1) n acc = dgs f (n / 10) ((48 + (n : Int) % 10) :: acc) := by simp [dgs, h]
theorem dgs_length (f n : Nat) (acc : List Int) : (dgs f n acc).length ≤ f + acc.length := by
  induction f generalizing n acc with
  | zero => simp [dgs]
  | succ f ih =>
    by_cases h : n = 0
    · subst h; rw [dgs_zero]; omega
    · rw [dgs_step f n acc h]
      have := ih (n / 10) ((48 + (n : Int) % 10) :: acc)
      simp at this; omega
theorem digs_length (n : Int) : (digs n).length ≤ 21 := by
  unfold digs
  have := dgs_length 20 n.natAbs []
  simp at this
  split
  · simp
  · split
    · simp; omega
    · omega
theorem str_append (xs ys : List Int) : strOfNums xs ++ strOfNums ys = strOfNums (xs ++ ys) := by
  unfold strOfNums
  rw [ByteArray.mk_append_mk]; simp
theorem add_run {P : Program} (xs ys : List Int) (hx : xs.length ≤ 1000000) (hy : ys.length ≤ 1000000) (w : World) : (Op.stringOp .add (strOfNums xs) (strOfNums ys)).run P w = .ok (.string (strOfNums (xs ++ ys))) w := by
  rw [run_string_add_sum w _ _ (by rw [strOfNums_size, strOfNums_size]; omega), str_append]
theorem pow_step (f n : Nat) (h : n < 10 ^ (f + 1)) : n / 10 < 10 ^ f := by
  rw [Nat.pow_succ] at h
  exact Nat.div_lt_of_lt_mul (by rw [Nat.mul_comm]; exact h)
theorem conv_one (wr : World) (x : Int) : (convert 67 9 (.slice (some ⟨wr.heap.size, 0, none⟩) 1 1)).run Tryd.prog (wr.alloc (.cells #[.int .u8 x] 5)) = .ok (.string (strOfNums [x])) (wr.alloc (.cells #[.int .u8 x] 5)) :=
  run_convert_bytes_arg (P := Tryd.prog) _ 67 5 Tryd.underlying67 Tryd.underlying5 wr.heap.size 0 1 1 [x] rfl (fun i hi => by
    have h0 : i = 0 := by omega
    subst h0
    simp) 9 Tryd.underlying9

end Go.Proofs.YtdpaocikmijioadDoor
