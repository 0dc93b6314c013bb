/-
  What is written is read as it was, on lists: a number, a text. No program; no statement is proved here.
-/
import Derived.Test.YtbajnnpihjmjmabPutB
import Derived.Test.YtbajnnpihjmjmabGetTP
namespace Go.Proofs.Ytbajnnpihjmjmab

theorem gnum_put (k f n : Nat) (u m r : Int) (post : List Int) (hk : n < 128 ^ (k + 1)) (hf : k < f) (h0 : n ≠ 0 ∨ u = 1) (hu : 0 < u) (hle : m + n * u ≤ 2147483647) :
    gnum f u m (putf k n ++ post) r = some (m + n * u, r + (putf k n).length) := by
  induction k generalizing f n u m r with
  | zero =>
    obtain ⟨f', rfl⟩ : ∃ f', f = f' + 1 := ⟨f - 1, by omega⟩
    have hn : (n : Int) < 128 := by simp at hk; omega
    show gnum (f' + 1) u m ((n : Int) :: post) r = _
    rw [gnum_end _ _ _ _ _ _ hn (by omega)]
    rfl
  | succ k ih =>
    obtain ⟨f', rfl⟩ : ∃ f', f = f' + 1 := ⟨f - 1, by omega⟩
    by_cases h : n < 128
    · rw [putf_small _ _ h]
      show gnum (f' + 1) u m ((n : Int) :: post) r = _
      rw [gnum_end _ _ _ _ _ _ (by omega) (by omega)]
      rfl
    · have e : putf (k + 1) n = ((n % 128 + 128 : Nat) : Int) :: putf k (n / 128) := by simp [putf, h]
      have hd : n / 128 < 128 ^ (k + 1) := by
        rw [Nat.pow_succ] at hk
        exact Nat.div_lt_of_lt_mul (by rw [Nat.mul_comm]; exact hk)
      have hsum : m + (((n % 128 + 128 : Nat) : Int) - 128) * u + ((n / 128 : Nat) : Int) * (u * 128) = m + n * u := by
        have h1 : (n : Int) = ((n % 128 : Nat) : Int) + 128 * ((n / 128 : Nat) : Int) := by omega
        have h2 : (((n % 128 + 128 : Nat) : Int) - 128) = ((n % 128 : Nat) : Int) := by omega
        rw [h2]
        conv => rhs; rw [h1]
        rw [Int.add_mul, Int.mul_comm u 128, ← Int.mul_assoc, Int.mul_comm ((n / 128 : Nat) : Int) 128, Int.add_assoc]
      rw [e, List.cons_append, gnum_more _ _ _ _ _ _ (by omega), ih f' (n / 128) (u * 128) _ (r + 1) hd (by omega) (.inl (by omega)) (by omega) (by rw [hsum]; exact hle), hsum, List.length_cons]
      congr 2
      omega

theorem getN_put (pre post : List Int) (n : Int) (h0 : 0 ≤ n) (h1 : n ≤ 2147483647) : getN (pre ++ putN n ++ post) pre.length = some (n, (pre.length : Int) + (putN n).length) := by
  have e : putN n = putf 4 n.toNat := by simp [putN, h0, h1]
  unfold getN
  rw [if_neg (by omega), List.append_assoc, Int.toNat_natCast, List.drop_left, e, gnum_put 4 5 n.toNat 1 0 pre.length post (by omega) (by omega) (.inr rfl) (by omega) (by omega)]
  congr 2
  omega

theorem getT_put (pre l : List Int) (hl : l.length ≤ 2147483647) : getT (pre ++ putT l) pre.length = some (l, ((pre ++ putT l).length : Int)) := by
  have h := getN_put pre l l.length (by omega) (by omega)
  have e : pre ++ putT l = pre ++ putN l.length ++ l := by unfold putT; rw [List.append_assoc]
  unfold getT
  rw [e, h]
  simp only
  have hlen : ((pre ++ putN l.length ++ l).length : Int) = (pre.length : Int) + (putN l.length).length + l.length := by simp; omega
  rw [if_neg (by rw [hlen]; omega), hlen]
  have hq : ((pre.length : Int) + ((putN l.length).length : Int)).toNat = (pre ++ putN l.length).length := by simp; omega
  rw [hq, List.drop_left, Int.toNat_natCast, List.take_length]

end Go.Proofs.Ytbajnnpihjmjmab
