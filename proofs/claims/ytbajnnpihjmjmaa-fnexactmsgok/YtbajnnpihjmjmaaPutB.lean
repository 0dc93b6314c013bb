/-
  Numbers and texts as bytes, each within its bounds: plain lists. No program; no statement is proved here.
-/
import Derived.Test.YtbajnnpihjmjmaaPutTP
namespace Go.Proofs.Ytbajnnpihjmjmaa

theorem putf_bytes (k n : Nat) (h : n < 128 ^ (k + 1)) : ∀ z ∈ putf k n, 0 ≤ z ∧ z ≤ 255 := by
  induction k generalizing n with
  | zero => intro z hz; simp [putf] at hz; simp at h; omega
  | succ k ih =>
    by_cases hn : n < 128
    · rw [putf_small _ _ hn]; intro z hz; simp at hz; omega
    · have e : putf (k + 1) n = ((n % 128 + 128 : Nat) : Int) :: putf k (n / 128) := by simp [putf, hn]
      rw [e]
      intro z hz
      rcases List.mem_cons.1 hz with rfl | hz
      · omega
      · refine ih (n / 128) ?_ z hz
        rw [Nat.pow_succ] at h
        exact Nat.div_lt_of_lt_mul (by rw [Nat.mul_comm]; exact h)
theorem putN_bytes (n : Int) : ∀ z ∈ putN n, 0 ≤ z ∧ z ≤ 255 := by
  unfold putN
  split
  · exact putf_bytes 4 _ (by omega)
  · simp
theorem putf_ne (k n : Nat) : putf k n ≠ [] := by
  cases k with
  | zero => simp [putf]
  | succ k => by_cases h : n < 128 <;> simp [putf, h]
theorem putN_pos (n : Int) (h0 : 0 ≤ n) (h1 : n ≤ 2147483647) : 0 < (putN n).length := by
  rw [show putN n = putf 4 n.toNat by simp [putN, h0, h1]]
  exact List.length_pos_iff.2 (putf_ne _ _)
theorem bl_bytes (s : ByteArray) : ∀ z ∈ bl s, 0 ≤ z ∧ z ≤ 255 := by
  intro z hz
  unfold bl at hz
  obtain ⟨c, _, rfl⟩ := List.mem_map.1 hz
  have := c.toNat_lt
  omega
theorem putT_bytes (l : List Int) (h : ∀ z ∈ l, 0 ≤ z ∧ z ≤ 255) : ∀ z ∈ putT l, 0 ≤ z ∧ z ≤ 255 := by
  intro z hz
  unfold putT at hz
  rcases List.mem_append.1 hz with hz | hz
  · exact putN_bytes _ z hz
  · exact h z hz
end Go.Proofs.Ytbajnnpihjmjmaa
