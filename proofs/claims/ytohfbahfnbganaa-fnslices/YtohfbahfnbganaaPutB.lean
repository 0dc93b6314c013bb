/-
  The bytes of a number as a function on lists ('putN'). No statement is proved here.
  The bytes of a text as a function on lists ('putT'). No statement is proved here.
  Numbers and texts as bytes, each within its bounds: plain lists. No program; no statement is proved here.
-/
import Derived.Test.YtohfbahfnbganaaBase
import Derived.Test.YtohfbahfnbganaaMTxt
import Derived.Lib.AppendStr
import Derived.Lib.ConvBytes
namespace Go.Proofs.Ytohfbahfnbganaa
open Go.RowKit

/-- The bytes of a number, seven bits a byte; the first word is how many bytes more there may be. -/
def putf : Nat → Nat → List Int
  | 0, n => [(n : Int)]
  | k + 1, n => if n < 128 then [(n : Int)] else ((n % 128 + 128 : Nat) : Int) :: putf k (n / 128)
def putN (n : Int) : List Int := if 0 ≤ n ∧ n ≤ 2147483647 then putf 4 n.toNat else []

theorem putf_small (k n : Nat) (h : n < 128) : putf k n = [(n : Int)] := by
  cases k with
  | zero => rfl
  | succ k => simp [putf, h]
theorem putf_length (k n : Nat) : (putf k n).length ≤ k + 1 := by
  induction k generalizing n with
  | zero => simp [putf]
  | succ k ih =>
    by_cases h : n < 128
    · simp [putf, h]
    · have := ih (n / 128)
      simp [putf, h]; omega
theorem putN_length (n : Int) : (putN n).length ≤ 5 := by
  unfold putN
  split
  · exact putf_length 4 _
  · simp

theorem pow_le (j m : Nat) (h : m < 128 ^ (5 - j)) : m < 34359738368 :=
  Nat.lt_of_lt_of_le h (Nat.le_trans (Nat.pow_le_pow_right (by omega) (by omega : 5 - j ≤ 5)) (by decide))
theorem step_lt (j m : Nat) (hj : j ≤ 4) (hm : m < 128 ^ (5 - j)) (h : 128 ≤ m) : j < 4 := by
  rcases Nat.lt_or_ge j 4 with h' | h'
  · exact h'
  · have e : 5 - j = 1 := by omega
    rw [e] at hm
    omega
theorem step_pow (j m : Nat) (hj : j < 4) (hm : m < 128 ^ (5 - j)) : m / 128 < 128 ^ (5 - (j + 1)) := by
  have e : 5 - j = (5 - (j + 1)) + 1 := by omega
  rw [e, Nat.pow_succ] at hm
  exact Nat.div_lt_of_lt_mul (by rw [Nat.mul_comm]; exact hm)
theorem step_put (j m : Nat) (ys zs : List Int) (hj : j < 4) (h : 128 ≤ m) (hys : ys ++ putf (4 - j) m = zs) : (ys ++ [((m % 128 + 128 : Nat) : Int)]) ++ putf (4 - (j + 1)) (m / 128) = zs := by
  have e : 4 - j = (4 - (j + 1)) + 1 := by omega
  rw [e] at hys
  have hlt : ¬ m < 128 := by omega
  simp only [putf, hlt, if_false] at hys
  simpa using hys

end Go.Proofs.Ytohfbahfnbganaa

namespace Go.Proofs.Ytohfbahfnbganaa
open Go.RowKit

def putT (l : List Int) : List Int := putN l.length ++ l

theorem strCells_bl (s : ByteArray) : Lib.strCells s = (bl s).map (Value.int .u8) := by
  unfold Lib.strCells bl
  rw [List.map_map]
  rfl
theorem below_bytesWorld (w : World) (e : TypeId) (s : ByteArray) : Below w.heap.size w (Lib.bytesWorld w e s) :=
  ⟨rfl, rfl, rfl, by rw [Lib.bytesWorld_size]; omega, fun k hk => Lib.bytesWorld_at_old w e s k hk⟩

end Go.Proofs.Ytohfbahfnbganaa

namespace Go.Proofs.Ytohfbahfnbganaa

theorem putf_bytes (k n : Nat) (h : n < 128 ^ (k + 1)) : ∀ z ∈ putf k n, 0 ≤ z ∧ z ≤ 255 := by
  induction k generalizing n with
  | zero => intro z hz; simp [putf] at hz; simp at h; omega
  | succ k ih =>
    by_cases hn : n < 128
    · rw [putf_small _ _ hn]; intro z hz; simp at hz; omega
    · have e : putf (k + 1) n = ((n % 128 + 128 : Nat) : Int) :: putf k (n / 128) := by simp [putf, hn]
      rw [e]
      intro z hz
      rcases List.mem_cons.1 hz with rfl | hz
      · omega
      · refine ih (n / 128) ?_ z hz
        rw [Nat.pow_succ] at h
        exact Nat.div_lt_of_lt_mul (by rw [Nat.mul_comm]; exact h)
theorem putN_bytes (n : Int) : ∀ z ∈ putN n, 0 ≤ z ∧ z ≤ 255 := by
  unfold putN
  split
  · exact putf_bytes 4 _ (by omega)
  · simp
theorem putf_ne (k n : Nat) : putf k n ≠ [] := by
  cases k with
  | zero => simp [putf]
  | succ k => by_cases h : n < 128 <;> simp [putf, h]
theorem putN_pos (n : Int) (h0 : 0 ≤ n) (h1 : n ≤ 2147483647) : 0 < (putN n).length := by
  rw [show putN n = putf 4 n.toNat by simp [putN, h0, h1]]
  exact List.length_pos_iff.2 (putf_ne _ _)
theorem bl_bytes (s : ByteArray) : ∀ z ∈ bl s, 0 ≤ z ∧ z ≤ 255 := by
  intro z hz
  unfold bl at hz
  obtain ⟨c, _, rfl⟩ := List.mem_map.1 hz
  have := c.toNat_lt
  omega
theorem putT_bytes (l : List Int) (h : ∀ z ∈ l, 0 ≤ z ∧ z ≤ 255) : ∀ z ∈ putT l, 0 ≤ z ∧ z ≤ 255 := by
  intro z hz
  unfold putT at hz
  rcases List.mem_append.1 hz with hz | hz
  · exact putN_bytes _ z hz
  · exact h z hz
end Go.Proofs.Ytohfbahfnbganaa
