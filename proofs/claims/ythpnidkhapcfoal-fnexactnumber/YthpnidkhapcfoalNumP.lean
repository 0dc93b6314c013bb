/-
  Numbers in decimal digits, as functions on lists of bytes: what the program reads ('numOf') is what the specification reads ('specNum'). No program, no statement is proved here.
-/
import Derived.Test.YthpnidkhapcfoalDigits
namespace Go.Proofs.Ythpnidkhapcfoal

/-- What the program reads, byte by byte: none above 999999. -/
def rdig : List Int → Int → Option Int
  | [], n => some n
  | c :: r, n => if c < 48 ∨ 57 < c then none else if 999999 < n * 10 + (c - 48) then none else rdig r (n * 10 + (c - 48))
/-- What the specification reads. -/
def vdig : List Int → Int → Option Int
  | [], n => some n
  | c :: r, n => if c < 48 ∨ 57 < c then none else vdig r (10 * n + c - 48)
def numOf (l : List Int) : Option Int := if l = [] ∨ (l.headD 0 = 48 ∧ 1 < l.length) then none else rdig l 0
def specNum (l : List Int) : Option Int := if l.length < 1 ∨ 6 < l.length then none else
  match vdig l 0 with
  | none => none
  | some n => if digs n = l then some n else none

theorem vdig_grow (l : List Int) (n m : Int) (hn : 0 ≤ n) (h : vdig l n = some m) : n * 10 ^ l.length ≤ m ∧ m < (n + 1) * 10 ^ l.length := by
  induction l generalizing n with
  | nil => simp [vdig] at h; subst h; simp; omega
  | cons c r ih =>
    simp only [vdig] at h
    split at h
    · simp at h
    · rename_i hc
      have := ih (10 * n + c - 48) (by omega) h
      rw [List.length_cons, Int.pow_succ]
      have hp : (0 : Int) < 10 ^ r.length := Int.pow_pos (by decide)
      constructor
      · refine Int.le_trans ?_ this.1
        rw [show n * (10 ^ r.length * 10) = (n * 10) * 10 ^ r.length by rw [Int.mul_comm (10 ^ r.length) 10, ← Int.mul_assoc]]
        exact Int.mul_le_mul_of_nonneg_right (by omega) (by omega)
      · refine Int.lt_of_lt_of_le this.2 ?_
        rw [show (n + 1) * (10 ^ r.length * 10) = ((n + 1) * 10) * 10 ^ r.length by rw [Int.mul_comm (10 ^ r.length) 10, ← Int.mul_assoc]]
        exact Int.mul_le_mul_of_nonneg_right (by omega) (by omega)

theorem rdig_some (l : List Int) (n m : Int) (hn : 0 ≤ n) (hn' : n ≤ 999999) (h : rdig l n = some m) : vdig l n = some m ∧ m ≤ 999999 := by
  induction l generalizing n with
  | nil => simp [rdig] at h; subst h; simp [vdig, hn']
  | cons c r ih =>
    simp only [rdig] at h
    split at h
    · simp at h
    · rename_i hc
      split at h
      · simp at h
      · rename_i hb
        have := ih (n * 10 + (c - 48)) (by omega) (by omega) h
        refine ⟨?_, this.2⟩
        simp only [vdig, hc, if_false]
        rw [show 10 * n + c - 48 = n * 10 + (c - 48) by omega]
        exact this.1

theorem rdig_of (l : List Int) (n m : Int) (hn : 0 ≤ n) (h : vdig l n = some m) (hm : m ≤ 999999) : rdig l n = some m := by
  induction l generalizing n with
  | nil => simp [vdig] at h; subst h; simp [rdig]
  | cons c r ih =>
    simp only [vdig] at h
    split at h
    · simp at h
    · rename_i hc
      have hg := vdig_grow r _ _ (by omega) h
      have hp : (1 : Int) ≤ 10 ^ r.length := Int.pow_pos (by decide)
      have hle : 10 * n + c - 48 ≤ (10 * n + c - 48) * 10 ^ r.length := by
        have := Int.mul_le_mul_of_nonneg_left hp (show 0 ≤ 10 * n + c - 48 by omega)
        simpa using this
      have e : 10 * n + c - 48 = n * 10 + (c - 48) := by omega
      simp only [rdig, hc, if_false]
      rw [if_neg (by omega)]
      rw [e] at h
      exact ih _ (by omega) h

theorem vdig_snoc (l : List Int) (c n : Int) : vdig (l ++ [c]) n = (vdig l n).bind fun m => if c < 48 ∨ 57 < c then none else some (10 * m + c - 48) := by
  induction l generalizing n with
  | nil => simp [vdig]
  | cons d r ih =>
    simp only [List.cons_append, vdig]
    split
    · rfl
    · exact ih _

/-- The digits of a number that was read with no nought ahead are what was read. -/
theorem dgs_of (k : Nat) (l : List Int) (hk : l.length = k + 1) (m : Int) (j : Nat) (acc : List Int) (h : vdig l 0 = some m) (hh : l.headD 0 ≠ 48) : 0 < m ∧ dgs (l.length + j) m.toNat acc = l ++ acc := by
  induction k generalizing l m j acc with
  | zero =>
    match l, hk with
    | [c], _ =>
      simp [vdig] at h
      simp at hh
      obtain ⟨hc, rfl⟩ := h
      have h0 : (c - 48).toNat ≠ 0 := by omega
      refine ⟨by omega, ?_⟩
      show dgs (1 + j) _ _ = _
      rw [Nat.add_comm, dgs_step _ _ _ h0, show (c - 48).toNat / 10 = 0 by omega, dgs_zero]
      simp
      omega
  | succ k ih =>
    have hne : l ≠ [] := by intro h; simp [h] at hk
    obtain ⟨l', c, rfl⟩ : ∃ l' c, l = l' ++ [c] := ⟨l.dropLast, l.getLast hne, (List.dropLast_concat_getLast hne).symm⟩
    simp at hk
    rw [vdig_snoc] at h
    match hv : vdig l' 0 with
    | none => rw [hv] at h; simp at h
    | some m' =>
      rw [hv] at h
      simp only [Option.bind_some] at h
      split at h
      · simp at h
      · rename_i hc
        simp at h
        subst h
        have hl' : l' ≠ [] := by intro h; simp [h] at hk
        have hh' : l'.headD 0 ≠ 48 := by
          cases l' with
          | nil => exact absurd rfl hl'
          | cons d r => simpa using hh
        have := ih l' hk m' (j := j) (acc := c :: acc) hv hh'
        refine ⟨by omega, ?_⟩
        have h0 : (10 * m' + c - 48).toNat ≠ 0 := by omega
        rw [show (l' ++ [c]).length + j = (l'.length + j) + 1 by simp; omega, dgs_step _ _ _ h0, show (10 * m' + c - 48).toNat / 10 = m'.toNat by omega,
          show (48 + ((10 * m' + c - 48).toNat : Int) % 10) = c by omega, this.2]
        simp

theorem dgs_head (f n : Nat) (acc : List Int) (h0 : n ≠ 0) (hn : n < 10 ^ f) : (dgs f n acc).headD 0 ≠ 48 := by
  induction f generalizing n acc with
  | zero => simp at hn; exact absurd hn h0
  | succ f ih =>
    rw [dgs_step _ _ _ h0]
    by_cases h : n / 10 = 0
    · rw [h, dgs_zero]; simp; omega
    · exact ih _ _ h (pow_step f n hn)

theorem num_same (l : List Int) : specNum l = numOf l := by
  unfold specNum
  by_cases h0 : l = []
  · simp [h0, numOf]
  · have hl : 1 ≤ l.length := by cases l with
      | nil => exact absurd rfl h0
      | cons => simp
    by_cases hz : l.headD 0 = 48 ∧ 1 < l.length
    · rw [show numOf l = none from if_pos (.inr hz)]
      by_cases h6 : 6 < l.length
      · rw [if_pos (.inr h6)]
      · rw [if_neg (by omega)]
        match hv : vdig l 0 with
        | none => rfl
        | some m =>
          have hg := vdig_grow l 0 m (by omega) hv
          simp only
          rw [if_neg]
          intro hd
          by_cases hm : m = 0
          · subst hm
            have : l.length = 1 := by rw [← hd]; rfl
            omega
          · have hb : m < 10 ^ 20 := by
              refine Int.lt_of_lt_of_le hg.2 ?_
              have := Nat.pow_le_pow_right (n := 10) (by decide) (show l.length ≤ 20 by omega)
              have h2 : ((10 ^ l.length : Nat) : Int) ≤ ((10 ^ 20 : Nat) : Int) := by exact_mod_cast this
              simpa using h2
            have hm0 : 0 ≤ m := by have := hg.1; simp at this; exact this
            have e : digs m = dgs 20 m.natAbs [] := by unfold digs; rw [if_neg hm, if_neg (by omega)]
            have := dgs_head 20 m.natAbs [] (by omega) (by omega)
            rw [← e, hd] at this
            exact this hz.1
    · rw [show numOf l = rdig l 0 from if_neg (by intro h; rcases h with h | h; exact h0 h; exact hz h)]
      by_cases h6 : 6 < l.length
      · rw [if_pos (.inr h6)]
        match hr : rdig l 0 with
        | none => rfl
        | some m =>
          exfalso
          have ⟨hv, hm⟩ := rdig_some l 0 m (by omega) (by omega) hr
          match l, h0 with
          | c :: r, _ =>
            have hc : c ≠ 48 := by intro h; exact hz ⟨by simpa using h, by omega⟩
            simp only [vdig] at hv
            split at hv
            · simp at hv
            · rename_i hcc
              have hg := (vdig_grow r _ _ (by omega) hv).1
              have hr6 : 6 ≤ r.length := by simp at h6; omega
              have := Nat.pow_le_pow_right (n := 10) (by decide) hr6
              have h2 : ((10 ^ 6 : Nat) : Int) ≤ ((10 ^ r.length : Nat) : Int) := by exact_mod_cast this
              have h3 : (1000000 : Int) ≤ 10 ^ r.length := by simpa using h2
              have h4 : (10 : Int) ^ r.length ≤ (10 * 0 + c - 48) * 10 ^ r.length := by
                have := Int.mul_le_mul_of_nonneg_right (show (1 : Int) ≤ 10 * 0 + c - 48 by omega) (show (0 : Int) ≤ 10 ^ r.length by omega)
                simpa using this
              omega
      · rw [if_neg (by omega)]
        match hv : vdig l 0 with
        | none =>
          match hr : rdig l 0 with
          | none => rfl
          | some m => have := (rdig_some l 0 m (by omega) (by omega) hr).1; rw [hv] at this; simp at this
        | some m =>
          have hg := vdig_grow l 0 m (by omega) hv
          have hm6 : m < 1000000 := by
            refine Int.lt_of_lt_of_le hg.2 ?_
            have := Nat.pow_le_pow_right (n := 10) (by decide) (show l.length ≤ 6 by omega)
            have h2 : ((10 ^ l.length : Nat) : Int) ≤ ((10 ^ 6 : Nat) : Int) := by exact_mod_cast this
            simpa using h2
          rw [rdig_of l 0 m (by omega) hv (by omega)]
          simp only
          rw [if_pos]
          by_cases h48 : l.headD 0 = 48
          · have h1 : l.length = 1 := by
              rcases Nat.lt_or_ge 1 l.length with h | h
              · exact absurd ⟨h48, h⟩ hz
              · omega
            match l, h1 with
            | [c], _ =>
              simp at h48
              subst h48
              simp [vdig] at hv
              subst hv
              rfl
          · have ⟨hp, hd⟩ := dgs_of (l.length - 1) l (by omega) m (20 - l.length) [] hv h48
            unfold digs
            rw [if_neg (by omega), if_neg (by omega), show m.natAbs = m.toNat by omega, show (20 : Nat) = l.length + (20 - l.length) by omega, hd]
            simp
end Go.Proofs.Ythpnidkhapcfoal
