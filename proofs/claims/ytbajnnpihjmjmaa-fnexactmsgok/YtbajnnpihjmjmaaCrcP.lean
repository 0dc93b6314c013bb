/-
  A list of bytes and the same list with one byte that is another one have two check sums, and a check sum is not below 0. No program; no statement is proved here.
-/
import Derived.Test.YtbajnnpihjmjmaaBase
namespace Go.Proofs.Ytbajnnpihjmjmaa
open Go.RowKit

def ncBit (q : Nat) : Nat := if q % 2 = 1 then q / 2 ^^^ 3988292384 else q / 2
def ncIt : Nat → Nat → Nat
  | 0, q => q
  | n + 1, q => ncBit (ncIt n q)
def ncByte (q z : Nat) : Nat := ncIt 8 (q ^^^ z)

theorem xor_nat (a b : Nat) (ha : a < 9223372036854775808) (hb : b < 9223372036854775808) : bits .xor .i64 (a : Int) (b : Int) = ((a ^^^ b : Nat) : Int) := by
  have hx : a ^^^ b < 2 ^ 63 := Nat.xor_lt_two_pow (by omega) (by omega)
  have h1 : (BitVec.ofInt 64 (a : Int)).toNat = a := by
    rw [BitVec.ofInt_natCast, BitVec.toNat_ofNat]; exact Nat.mod_eq_of_lt (by omega)
  have h2 : (BitVec.ofInt 64 (b : Int)).toNat = b := by
    rw [BitVec.ofInt_natCast, BitVec.toNat_ofNat]; exact Nat.mod_eq_of_lt (by omega)
  show IntKind.i64.wrap ((BitVec.ofInt 64 (a : Int) ^^^ BitVec.ofInt 64 (b : Int)).toNat : Int) = _
  rw [BitVec.toNat_xor, h1, h2, IntKind.wrap_i64]
  omega
theorem ncBit_lt (q : Nat) (h : q < 2 ^ 32) : ncBit q < 2 ^ 32 := by
  unfold ncBit
  split
  · exact Nat.xor_lt_two_pow (by omega) (by decide)
  · omega
theorem ncIt_lt (n q : Nat) (h : q < 2 ^ 32) : ncIt n q < 2 ^ 32 := by
  induction n with
  | zero => exact h
  | succ n ih => exact ncBit_lt _ ih
theorem ncByte_lt (q z : Nat) (h : q < 2 ^ 32) (hz : z < 256) : ncByte q z < 2 ^ 32 := ncIt_lt 8 _ (Nat.xor_lt_two_pow h (by omega))
theorem crcBit_nat (q : Nat) (h : q < 2 ^ 32) : crcBit (q : Int) = (ncBit q : Int) := by
  unfold crcBit ncBit
  have hm : (q : Int).tmod 2 = ((q % 2 : Nat) : Int) := by rw [Int.tmod_eq_emod_of_nonneg (by omega)]; omega
  have hd : (q : Int).tdiv 2 = ((q / 2 : Nat) : Int) := by rw [Int.tdiv_eq_ediv_of_nonneg (by omega)]; omega
  have hw : wrap64 ((q / 2 : Nat) : Int) = ((q / 2 : Nat) : Int) := IntWalk.wrap64_in _ (by omega)
  rw [hm, hd, hw]
  by_cases ho : q % 2 = 1
  · rw [if_pos (by rw [ho]; rfl), if_pos ho]
    exact xor_nat (q / 2) 3988292384 (by omega) (by decide)
  · rw [if_neg (by simp; omega), if_neg ho]
theorem crcIt_nat (n q : Nat) (h : q < 2 ^ 32) : crcIt n (q : Int) = (ncIt n q : Int) := by
  induction n with
  | zero => rfl
  | succ n ih => show crcBit (crcIt n q) = _; rw [ih, crcBit_nat _ (ncIt_lt n q h)]; rfl
theorem crcByte_nat (q z : Nat) (h : q < 2 ^ 32) (hz : z < 256) : crcByte (q : Int) (z : Int) = (ncByte q z : Int) := by
  unfold crcByte
  rw [IntWalk.wrap64_in _ (by omega), xor_nat q z (by omega) (by omega), crcIt_nat _ _ (Nat.xor_lt_two_pow h (by omega))]
  rfl
theorem xor_cancel (a b c : Nat) (h : a ^^^ c = b ^^^ c) : a = b := by
  have := congrArg (fun x => x ^^^ c) h
  simpa [Nat.xor_assoc] using this
theorem ncBit_inj (a b : Nat) (ha : a < 2 ^ 32) (hb : b < 2 ^ 32) (h : ncBit a = ncBit b) : a = b := by
  have key : ∀ x y : Nat, x < 2 ^ 31 → y < 2 ^ 31 → x ^^^ 3988292384 ≠ y := by
    intro x y hx hy he
    have h1 : (x ^^^ 3988292384).testBit 31 = true := by
      rw [Nat.testBit_xor, Nat.testBit_lt_two_pow hx]; rfl
    rw [he, Nat.testBit_lt_two_pow hy] at h1
    exact absurd h1 (by decide)
  unfold ncBit at h
  by_cases h1 : a % 2 = 1
  · rw [if_pos h1] at h
    by_cases h2 : b % 2 = 1
    · rw [if_pos h2] at h
      have := xor_cancel _ _ _ h
      omega
    · rw [if_neg h2] at h
      exact absurd h (key _ _ (by omega) (by omega))
  · rw [if_neg h1] at h
    by_cases h2 : b % 2 = 1
    · rw [if_pos h2] at h
      exact absurd h.symm (key _ _ (by omega) (by omega))
    · rw [if_neg h2] at h
      omega
theorem ncIt_inj (n a b : Nat) (ha : a < 2 ^ 32) (hb : b < 2 ^ 32) (h : ncIt n a = ncIt n b) : a = b := by
  induction n with
  | zero => exact h
  | succ n ih => exact ih (ncBit_inj _ _ (ncIt_lt n a ha) (ncIt_lt n b hb) h)
def ncRun (q : Nat) (l : List Nat) : Nat := l.foldl ncByte q
theorem ncRun_lt (l : List Nat) (q : Nat) (h : q < 2 ^ 32) (hl : ∀ z ∈ l, z < 256) : ncRun q l < 2 ^ 32 := by
  induction l generalizing q with
  | nil => exact h
  | cons z l ih => exact ih _ (ncByte_lt q z h (hl z (by simp))) (fun y hy => hl y (by simp [hy]))
theorem ncRun_inj (l : List Nat) (a b : Nat) (ha : a < 2 ^ 32) (hb : b < 2 ^ 32) (hl : ∀ z ∈ l, z < 256) (h : ncRun a l = ncRun b l) : a = b := by
  induction l generalizing a b with
  | nil => exact h
  | cons z l ih =>
    have hz := hl z (by simp)
    have := ih _ _ (ncByte_lt a z ha hz) (ncByte_lt b z hb hz) (fun y hy => hl y (by simp [hy])) h
    have := ncIt_inj 8 _ _ (Nat.xor_lt_two_pow ha (by omega)) (Nat.xor_lt_two_pow hb (by omega)) this
    exact xor_cancel _ _ _ this
theorem crcRun_nat (l : List Int) (hl : ∀ z ∈ l, 0 ≤ z ∧ z ≤ 255) (q : Nat) (h : q < 2 ^ 32) : l.foldl crcByte (q : Int) = (ncRun q (l.map Int.toNat) : Int) := by
  induction l generalizing q with
  | nil => rfl
  | cons z l ih =>
    have hz := hl z (by simp)
    have e : (z : Int) = ((z.toNat : Nat) : Int) := by omega
    rw [List.foldl_cons]
    conv => lhs; arg 2; rw [e]
    rw [crcByte_nat q z.toNat h (by omega), ih (fun y hy => hl y (by simp [hy])) _ (ncByte_lt q _ h (by omega))]
    rfl
theorem crcOf_nat (l : List Int) (hl : ∀ z ∈ l, 0 ≤ z ∧ z ≤ 255) : crcOf l = ((ncRun 4294967295 (l.map Int.toNat) ^^^ 4294967295 : Nat) : Int) := by
  have hb : ∀ z ∈ l.map Int.toNat, z < 256 := by
    intro z hz
    obtain ⟨y, hy, rfl⟩ := List.mem_map.1 hz
    have := hl y hy
    omega
  have := ncRun_lt (l.map Int.toNat) 4294967295 (by decide) hb
  unfold crcOf crcRun
  rw [show (4294967295 : Int) = ((4294967295 : Nat) : Int) from rfl, crcRun_nat l hl _ (by decide)]
  exact xor_nat _ 4294967295 (by omega) (by decide)
theorem crcOf_nonneg (l : List Int) (hl : ∀ z ∈ l, 0 ≤ z ∧ z ≤ 255) : 0 ≤ crcOf l := by rw [crcOf_nat l hl]; omega
theorem crcOf_range (l : List Int) (hl : ∀ z ∈ l, 0 ≤ z ∧ z ≤ 255) : crcOf l ≤ 4294967295 := by
  rw [crcOf_nat l hl]
  have hb : ∀ z ∈ l.map Int.toNat, z < 256 := by
    intro z hz
    obtain ⟨y, hy, rfl⟩ := List.mem_map.1 hz
    have := hl y hy
    omega
  have := Nat.xor_lt_two_pow (ncRun_lt (l.map Int.toNat) 4294967295 (by decide) hb) (show 4294967295 < 2 ^ 32 by decide)
  omega
theorem crcOf_ne (A B : List Int) (y z : Int) (hl : ∀ x ∈ A ++ y :: B, 0 ≤ x ∧ x ≤ 255) (hl' : ∀ x ∈ A ++ z :: B, 0 ≤ x ∧ x ≤ 255) (hne : y ≠ z) : crcOf (A ++ y :: B) ≠ crcOf (A ++ z :: B) := by
  rw [crcOf_nat _ hl, crcOf_nat _ hl']
  intro h
  have h1 : ncRun 4294967295 ((A ++ y :: B).map Int.toNat) ^^^ 4294967295 = ncRun 4294967295 ((A ++ z :: B).map Int.toNat) ^^^ 4294967295 := by exact_mod_cast h
  have h2 := xor_cancel _ _ _ h1
  have hA : ∀ x ∈ A.map Int.toNat, x < 256 := by
    intro x hx
    obtain ⟨t, ht, rfl⟩ := List.mem_map.1 hx
    have := hl t (by simp [ht])
    omega
  have hB : ∀ x ∈ B.map Int.toNat, x < 256 := by
    intro x hx
    obtain ⟨t, ht, rfl⟩ := List.mem_map.1 hx
    have := hl t (by simp [ht])
    omega
  have hy := hl y (by simp)
  have hz := hl' z (by simp)
  have hq := ncRun_lt (A.map Int.toNat) 4294967295 (by decide) hA
  simp only [List.map_append, List.map_cons, ncRun, List.foldl_append, List.foldl_cons] at h2
  have h3 := ncRun_inj (B.map Int.toNat) _ _ (ncByte_lt _ y.toNat hq (by omega)) (ncByte_lt _ z.toNat hq (by omega)) hB h2
  have h4 := ncIt_inj 8 _ _ (Nat.xor_lt_two_pow hq (by omega)) (Nat.xor_lt_two_pow hq (by omega)) h3
  rw [Nat.xor_comm _ y.toNat, Nat.xor_comm _ z.toNat] at h4
  have h5 := xor_cancel _ _ _ h4
  omega

/-- A byte that is raised by 1 to 255 is another byte. -/
theorem new_byte (z t : Int) (_hz0 : 0 ≤ z) (_hz1 : z ≤ 255) (ht0 : 0 ≤ t) : ∃ y, IntKind.u8.wrap (z + IntKind.u8.wrap (IntKind.i64.wrap (1 + t.tmod 255))) = y ∧ 0 ≤ y ∧ y ≤ 255 ∧ y ≠ z := by
  refine ⟨_, rfl, ?_⟩
  rw [Int.tmod_eq_emod_of_nonneg ht0]
  have h := Int.emod_nonneg t (show (255 : Int) ≠ 0 by decide)
  have h' := Int.emod_lt_of_pos t (show (0 : Int) < 255 by decide)
  generalize t % 255 = r at h h'
  rw [IntKind.wrap_i64, IntKind.wrap_u8, IntKind.wrap_u8]
  omega
end Go.Proofs.Ytbajnnpihjmjmaa
