/-
  The greater of two, of three: in any order, however bracketed, it is the same. No program here, no statement is proved here.
-/
import Derived.Test.YtbajnnpihjmjmaaEntMax
namespace Go.Proofs.Ytbajnnpihjmjmaa
open Go.RowKit

abbrev Key := Int × Int × Int × Int × ByteArray
def mx (x y : Key) : Key := if keyC x y < 0 then y else x

theorem mx_comm (x y : Key) : mx x y = mx y x := by
  have a := keyC_is.anti x y
  have z := keyC_is.zero x y
  unfold mx
  by_cases h : keyC x y < 0
  · rw [if_pos h, if_neg (by omega)]
  · rw [if_neg h]
    by_cases h0 : keyC x y = 0
    · rw [if_neg (by omega)]; exact z.mp h0
    · rw [if_pos (by omega)]
theorem mx_assoc (x y z : Key) : mx (mx x y) z = mx x (mx y z) := by
  have t1 := keyC_is.trans x z y
  have t2 := keyC_is.trans x y z
  have a := keyC_is.anti y z
  unfold mx
  by_cases h1 : keyC x y < 0 <;> by_cases h2 : keyC y z < 0
  · have h3 : keyC x z < 0 := by
      by_cases h : keyC x z < 0
      · exact h
      · have := t1 (by omega) (by omega); omega
    simp only [h1, h2, h3, if_true]
  · simp only [h1, h2, if_true, if_false]
  · simp only [h1, h2, if_true, if_false]
  · have h3 : ¬ keyC x z < 0 := by have := t2 (by omega) (by omega); omega
    simp only [h1, h2, h3, if_false]
theorem mx_self (x : Key) : mx x x = x := by unfold mx; split <;> rfl
theorem mx_le (x y : Key) : 0 ≤ keyC (mx x y) x ∧ 0 ≤ keyC (mx x y) y ∧ (keyC (mx x y) x = 0 ∨ keyC (mx x y) y = 0) := by
  have a := keyC_is.anti x y
  have z1 := (keyC_is.zero x x).mpr rfl
  have z2 := (keyC_is.zero y y).mpr rfl
  unfold mx
  by_cases h : keyC x y < 0
  · rw [if_pos h]; exact ⟨by omega, by omega, .inr z2⟩
  · rw [if_neg h]; exact ⟨by omega, by omega, .inl z1⟩

theorem isMax_mx (ai ar ab av : Int) (ad : ByteArray) (bi br bb bv : Int) (bd : ByteArray) (xi xr xb xv : Int) (xd : ByteArray) : IsMax ai ar ab av ad bi br bb bv bd xi xr xb xv xd ↔ (xi, xr, xb, xv, xd) = mx (ai, ar, ab, av, ad) (bi, br, bb, bv, bd) := by
  unfold IsMax mx
  rw [cmpE_key]
  by_cases h : keyC (ai, ar, ab, av, ad) (bi, br, bb, bv, bd) < 0
  · rw [if_pos h]
    simp only [h, Prod.mk.injEq, true_and, show ¬ (0 ≤ keyC (ai, ar, ab, av, ad) (bi, br, bb, bv, bd)) by omega, false_and, or_false]
  · rw [if_neg h]
    simp only [h, Prod.mk.injEq, true_and, show 0 ≤ keyC (ai, ar, ab, av, ad) (bi, br, bb, bv, bd) by omega, false_and, false_or]

theorem isMax_size (ai ar ab av : Int) (ad : ByteArray) (bi br bb bv : Int) (bd : ByteArray) (xi xr xb xv : Int) (xd : ByteArray) (h : IsMax ai ar ab av ad bi br bb bv bd xi xr xb xv xd) (ha : ad.size ≤ 9) (hb : bd.size ≤ 9) : xd.size ≤ 9 := by
  rcases h with ⟨_, _, _, _, _, rfl⟩ | ⟨_, _, _, _, _, rfl⟩
  · exact hb
  · exact ha
theorem isMax_comm (ai ar ab av : Int) (ad : ByteArray) (bi br bb bv : Int) (bd : ByteArray) (xi xr xb xv : Int) (xd : ByteArray) (h : IsMax ai ar ab av ad bi br bb bv bd xi xr xb xv xd) : IsMax bi br bb bv bd ai ar ab av ad xi xr xb xv xd := by
  rw [isMax_mx] at h ⊢
  rw [h, mx_comm]
theorem isMax_self (ai ar ab av : Int) (ad : ByteArray) : IsMax ai ar ab av ad ai ar ab av ad ai ar ab av ad := by rw [isMax_mx, mx_self]
theorem isMax_assoc (ai ar ab av : Int) (ad : ByteArray) (bi br bb bv : Int) (bd : ByteArray) (di dr db dv : Int) (dd : ByteArray) (mi mr mb mv : Int) (md : ByteArray) (qi qr qb qv : Int) (qd : ByteArray) (ri rr rb rv : Int) (rd : ByteArray) (h1 : IsMax ai ar ab av ad bi br bb bv bd mi mr mb mv md) (h2 : IsMax mi mr mb mv md di dr db dv dd qi qr qb qv qd) (h3 : IsMax bi br bb bv bd di dr db dv dd ri rr rb rv rd) : IsMax ai ar ab av ad ri rr rb rv rd qi qr qb qv qd := by
  rw [isMax_mx] at h1 h2 h3 ⊢
  rw [h2, h1, h3, mx_assoc]
theorem isMax_le (ai ar ab av : Int) (ad : ByteArray) (bi br bb bv : Int) (bd : ByteArray) (mi mr mb mv : Int) (md : ByteArray) (h : IsMax ai ar ab av ad bi br bb bv bd mi mr mb mv md) : 0 ≤ cmpE mi mr mb mv md ai ar ab av ad ∧ 0 ≤ cmpE mi mr mb mv md bi br bb bv bd ∧ (cmpE mi mr mb mv md ai ar ab av ad = 0 ∨ cmpE mi mr mb mv md bi br bb bv bd = 0) := by
  rw [isMax_mx] at h
  rw [cmpE_key, cmpE_key, h]
  exact mx_le _ _
theorem cmpE_trans (ai ar ab av : Int) (ad : ByteArray) (bi br bb bv : Int) (bd : ByteArray) (di dr db dv : Int) (dd : ByteArray) (h1 : 0 ≤ cmpE ai ar ab av ad bi br bb bv bd) (h2 : 0 ≤ cmpE bi br bb bv bd di dr db dv dd) : 0 ≤ cmpE ai ar ab av ad di dr db dv dd := by
  rw [cmpE_key] at h1 h2 ⊢
  exact keyC_is.trans _ _ _ h1 h2
theorem cmpE_self (ai ar ab av : Int) (ad : ByteArray) : cmpE ai ar ab av ad ai ar ab av ad = 0 := by rw [cmpE_key]; exact (keyC_is.zero _ _).mpr rfl
end Go.Proofs.Ytbajnnpihjmjmaa
