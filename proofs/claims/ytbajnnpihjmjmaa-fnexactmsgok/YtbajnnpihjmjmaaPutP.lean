/-
  The bytes of a number as a function on lists ('putN'). No statement is proved here.
-/
import Derived.Test.YtbajnnpihjmjmaaBase
namespace Go.Proofs.Ytbajnnpihjmjmaa
open Go.RowKit

/-- The bytes of a number, seven bits a byte; the first word is how many bytes more there may be. -/
def putf : Nat → Nat → List Int
  | 0, n => [(n : Int)]
  | k + 1, n => if n < 128 then [(n : Int)] else ((n % 128 + 128 : Nat) : Int) :: putf k (n / 128)
def putN (n : Int) : List Int := if 0 ≤ n ∧ n ≤ 2147483647 then putf 4 n.toNat else []

theorem putf_small (k n : Nat) (h : n < 128) : putf k n = [(n : Int)] := by
  cases k with
  | zero => rfl
  | succ k => simp [putf, h]
theorem putf_length (k n : Nat) : (putf k n).length ≤ k + 1 := by
  induction k generalizing n with
  | zero => simp [putf]
  | succ k ih =>
    by_cases h : n < 128
    · simp [putf, h]
    · have := ih (n / 128)
      simp [putf, h]; omega
theorem putN_length (n : Int) : (putN n).length ≤ 5 := by
  unfold putN
  split
  · exact putf_length 4 _
  · simp

theorem pow_le (j m : Nat) (h : m < 128 ^ (5 - j)) : m < 34359738368 :=
  Nat.lt_of_lt_of_le h (Nat.le_trans (Nat.pow_le_pow_right (by omega) (by omega : 5 - j ≤ 5)) (by decide))
theorem step_lt (j m : Nat) (hj : j ≤ 4) (hm : m < 128 ^ (5 - j)) (h : 128 ≤ m) : j < 4 := by
  rcases Nat.lt_or_ge j 4 with h' | h'
  · exact h'
  · have e : 5 - j = 1 := by omega
    rw [e] at hm
    omega
theorem step_pow (j m : Nat) (hj : j < 4) (hm : m < 128 ^ (5 - j)) : m / 128 < 128 ^ (5 - (j + 1)) := by
  have e : 5 - j = (5 - (j + 1)) + 1 := by omega
  rw [e, Nat.pow_succ] at hm
  exact Nat.div_lt_of_lt_mul (by rw [Nat.mul_comm]; exact hm)
theorem step_put (j m : Nat) (ys zs : List Int) (hj : j < 4) (h : 128 ≤ m) (hys : ys ++ putf (4 - j) m = zs) : (ys ++ [((m % 128 + 128 : Nat) : Int)]) ++ putf (4 - (j + 1)) (m / 128) = zs := by
  have e : 4 - j = (4 - (j + 1)) + 1 := by omega
  rw [e] at hys
  have hlt : ¬ m < 128 := by omega
  simp only [putf, hlt, if_false] at hys
  simpa using hys

end Go.Proofs.Ytbajnnpihjmjmaa
