/-
  A list of bytes and the same list with one byte that is another one have two check sums, and a check sum is not below 0. No program; no statement is proved here.
  The tree of sums as functions on lists: leaves, slices, bytes, sums. No program here, no statement is proved here.
  Rows of numbers in memory. No program here, no statement is proved here.
  The program's PutNum returns, in memory of its own, the bytes that 'putN' says, and turns nothing that was there. No statement is proved here.
  The specification's PutNum returns, in memory of its own, the bytes that 'putN' says, and turns nothing that was there. No statement is proved here.
  The program's check sum returns the list function 'crcOf' of the bytes that it is handed, and turns nothing. No statement is proved here.
  The specification's check sum returns the list function 'crcOf' of the bytes that it is handed, and turns nothing. No statement is proved here.
-/
import Derived.Test.YtdpaocikmijioabGreatBase
import Derived.Test.YtdpaocikmijioabGreatVwP
import Derived.Test.YtdpaocikmijioabGreatPutB
import Derived.Test.YtdpaocikmijioabGreatRwO
import Derived.Test.YtdpaocikmijioabGreatPutP
namespace Go.Proofs.YtdpaocikmijioabGreat
open Go.RowKit

def ncBit (q : Nat) : Nat := if q % 2 = 1 then q / 2 ^^^ 3988292384 else q / 2
def ncIt : Nat → Nat → Nat
  | 0, q => q
  | n + 1, q => ncBit (ncIt n q)
def ncByte (q z : Nat) : Nat := ncIt 8 (q ^^^ z)

theorem xor_nat (a b : Nat) (ha : a < 9223372036854775808) (hb : b < 9223372036854775808) : bits .xor .i64 (a : Int) (b : Int) = ((a ^^^ b : Nat) : Int) := by
  have hx : a ^^^ b < 2 ^ 63 := Nat.xor_lt_two_pow (by omega) (by omega)
  have h1 : (BitVec.ofInt 64 (a : Int)).toNat = a := by
    rw [BitVec.ofInt_natCast, BitVec.toNat_ofNat]; exact Nat.mod_eq_of_lt (by omega)
  have h2 : (BitVec.ofInt 64 (b : Int)).toNat = b := by
    rw [BitVec.ofInt_natCast, BitVec.toNat_ofNat]; exact Nat.mod_eq_of_lt (by omega)
  show IntKind.i64.wrap ((BitVec.ofInt 64 (a : Int) ^^^ BitVec.ofInt 64 (b : Int)).toNat : Int) = _
  rw [BitVec.toNat_xor, h1, h2, IntKind.wrap_i64]
  omega
theorem ncBit_lt (q : Nat) (h : q < 2 ^ 32) : ncBit q < 2 ^ 32 := by
  unfold ncBit
  split
  · exact Nat.xor_lt_two_pow (by omega) (by decide)
  · omega
theorem ncIt_lt (n q : Nat) (h : q < 2 ^ 32) : ncIt n q < 2 ^ 32 := by
  induction n with
  | zero => exact h
  | succ n ih => exact ncBit_lt _ ih
theorem ncByte_lt (q z : Nat) (h : q < 2 ^ 32) (hz : z < 256) : ncByte q z < 2 ^ 32 := ncIt_lt 8 _ (Nat.xor_lt_two_pow h (by omega))
theorem crcBit_nat (q : Nat) (h : q < 2 ^ 32) : crcBit (q : Int) = (ncBit q : Int) := by
  unfold crcBit ncBit
  have hm : (q : Int).tmod 2 = ((q % 2 : Nat) : Int) := by rw [Int.tmod_eq_emod_of_nonneg (by omega)]; omega
  have hd : (q : Int).tdiv 2 = ((q / 2 : Nat) : Int) := by rw [Int.tdiv_eq_ediv_of_nonneg (by omega)]; omega
  have hw : wrap64 ((q / 2 : Nat) : Int) = ((q / 2 : Nat) : Int) := IntWalk.wrap64_in _ (by omega)
  rw [hm, hd, hw]
  by_cases ho : q % 2 = 1
  · rw [if_pos (by rw [ho]; rfl), if_pos ho]
    exact xor_nat (q / 2) 3988292384 (by omega) (by decide)
  · rw [if_neg (by simp; omega), if_neg ho]
theorem crcIt_nat (n q : Nat) (h : q < 2 ^ 32) : crcIt n (q : Int) = (ncIt n q : Int) := by
  induction n with
  | zero => rfl
  | succ n ih => show crcBit (crcIt n q) = _; rw [ih, crcBit_nat _ (ncIt_lt n q h)]; rfl
theorem crcByte_nat (q z : Nat) (h : q < 2 ^ 32) (hz : z < 256) : crcByte (q : Int) (z : Int) = (ncByte q z : Int) := by
  unfold crcByte
  rw [IntWalk.wrap64_in _ (by omega), xor_nat q z (by omega) (by omega), crcIt_nat _ _ (Nat.xor_lt_two_pow h (by omega))]
  rfl
theorem xor_cancel (a b c : Nat) (h : a ^^^ c = b ^^^ c) : a = b := by
  have := congrArg (fun x => x ^^^ c) h
  simpa [Nat.xor_assoc] using this
theorem ncBit_inj (a b : Nat) (ha : a < 2 ^ 32) (hb : b < 2 ^ 32) (h : ncBit a = ncBit b) : a = b := by
  have key : ∀ x y : Nat, x < 2 ^ 31 → y < 2 ^ 31 → x ^^^ 3988292384 ≠ y := by
    intro x y hx hy he
    have h1 : (x ^^^ 3988292384).testBit 31 = true := by
      rw [Nat.testBit_xor, Nat.testBit_lt_two_pow hx]; rfl
    rw [he, Nat.testBit_lt_two_pow hy] at h1
    exact absurd h1 (by decide)
  unfold ncBit at h
  by_cases h1 : a % 2 = 1
  · rw [if_pos h1] at h
    by_cases h2 : b % 2 = 1
    · rw [if_pos h2] at h
      have := xor_cancel _ _ _ h
      omega
    · rw [if_neg h2] at h
      exact absurd h (key _ _ (by omega) (by omega))
  · rw [if_neg h1] at h
    by_cases h2 : b % 2 = 1
    · rw [if_pos h2] at h
      exact absurd h.symm (key _ _ (by omega) (by omega))
    · rw [if_neg h2] at h
      omega
theorem ncIt_inj (n a b : Nat) (ha : a < 2 ^ 32) (hb : b < 2 ^ 32) (h : ncIt n a = ncIt n b) : a = b := by
  induction n with
  | zero => exact h
  | succ n ih => exact ih (ncBit_inj _ _ (ncIt_lt n a ha) (ncIt_lt n b hb) h)
def ncRun (q : Nat) (l : List Nat) : Nat := l.foldl ncByte q
theorem ncRun_lt (l : List Nat) (q : Nat) (h : q < 2 ^ 32) (hl : ∀ z ∈ l, z < 256) : ncRun q l < 2 ^ 32 := by
  induction l generalizing q with
  | nil => exact h
  | cons z l ih => exact ih _ (ncByte_lt q z h (hl z (by simp))) (fun y hy => hl y (by simp [hy]))
theorem ncRun_inj (l : List Nat) (a b : Nat) (ha : a < 2 ^ 32) (hb : b < 2 ^ 32) (hl : ∀ z ∈ l, z < 256) (h : ncRun a l = ncRun b l) : a = b := by
  induction l generalizing a b with
  | nil => exact h
  | cons z l ih =>
    have hz := hl z (by simp)
    have := ih _ _ (ncByte_lt a z ha hz) (ncByte_lt b z hb hz) (fun y hy => hl y (by simp [hy])) h
    have := ncIt_inj 8 _ _ (Nat.xor_lt_two_pow ha (by omega)) (Nat.xor_lt_two_pow hb (by omega)) this
    exact xor_cancel _ _ _ this
theorem crcRun_nat (l : List Int) (hl : ∀ z ∈ l, 0 ≤ z ∧ z ≤ 255) (q : Nat) (h : q < 2 ^ 32) : l.foldl crcByte (q : Int) = (ncRun q (l.map Int.toNat) : Int) := by
  induction l generalizing q with
  | nil => rfl
  | cons z l ih =>
    have hz := hl z (by simp)
    have e : (z : Int) = ((z.toNat : Nat) : Int) := by omega
    rw [List.foldl_cons]
    conv => lhs; arg 2; rw [e]
    rw [crcByte_nat q z.toNat h (by omega), ih (fun y hy => hl y (by simp [hy])) _ (ncByte_lt q _ h (by omega))]
    rfl
theorem crcOf_nat (l : List Int) (hl : ∀ z ∈ l, 0 ≤ z ∧ z ≤ 255) : crcOf l = ((ncRun 4294967295 (l.map Int.toNat) ^^^ 4294967295 : Nat) : Int) := by
  have hb : ∀ z ∈ l.map Int.toNat, z < 256 := by
    intro z hz
    obtain ⟨y, hy, rfl⟩ := List.mem_map.1 hz
    have := hl y hy
    omega
  have := ncRun_lt (l.map Int.toNat) 4294967295 (by decide) hb
  unfold crcOf crcRun
  rw [show (4294967295 : Int) = ((4294967295 : Nat) : Int) from rfl, crcRun_nat l hl _ (by decide)]
  exact xor_nat _ 4294967295 (by omega) (by decide)
theorem crcOf_nonneg (l : List Int) (hl : ∀ z ∈ l, 0 ≤ z ∧ z ≤ 255) : 0 ≤ crcOf l := by rw [crcOf_nat l hl]; omega
theorem crcOf_range (l : List Int) (hl : ∀ z ∈ l, 0 ≤ z ∧ z ≤ 255) : crcOf l ≤ 4294967295 := by
  rw [crcOf_nat l hl]
  have hb : ∀ z ∈ l.map Int.toNat, z < 256 := by
    intro z hz
    obtain ⟨y, hy, rfl⟩ := List.mem_map.1 hz
    have := hl y hy
    omega
  have := Nat.xor_lt_two_pow (ncRun_lt (l.map Int.toNat) 4294967295 (by decide) hb) (show 4294967295 < 2 ^ 32 by decide)
  omega
theorem crcOf_ne (A B : List Int) (y z : Int) (hl : ∀ x ∈ A ++ y :: B, 0 ≤ x ∧ x ≤ 255) (hl' : ∀ x ∈ A ++ z :: B, 0 ≤ x ∧ x ≤ 255) (hne : y ≠ z) : crcOf (A ++ y :: B) ≠ crcOf (A ++ z :: B) := by
  rw [crcOf_nat _ hl, crcOf_nat _ hl']
  intro h
  have h1 : ncRun 4294967295 ((A ++ y :: B).map Int.toNat) ^^^ 4294967295 = ncRun 4294967295 ((A ++ z :: B).map Int.toNat) ^^^ 4294967295 := by exact_mod_cast h
  have h2 := xor_cancel _ _ _ h1
  have hA : ∀ x ∈ A.map Int.toNat, x < 256 := by
    intro x hx
    obtain ⟨t, ht, rfl⟩ := List.mem_map.1 hx
    have := hl t (by simp [ht])
    omega
  have hB : ∀ x ∈ B.map Int.toNat, x < 256 := by
    intro x hx
    obtain ⟨t, ht, rfl⟩ := List.mem_map.1 hx
    have := hl t (by simp [ht])
    omega
  have hy := hl y (by simp)
  have hz := hl' z (by simp)
  have hq := ncRun_lt (A.map Int.toNat) 4294967295 (by decide) hA
  simp only [List.map_append, List.map_cons, ncRun, List.foldl_append, List.foldl_cons] at h2
  have h3 := ncRun_inj (B.map Int.toNat) _ _ (ncByte_lt _ y.toNat hq (by omega)) (ncByte_lt _ z.toNat hq (by omega)) hB h2
  have h4 := ncIt_inj 8 _ _ (Nat.xor_lt_two_pow hq (by omega)) (Nat.xor_lt_two_pow hq (by omega)) h3
  rw [Nat.xor_comm _ y.toNat, Nat.xor_comm _ z.toNat] at h4
  have h5 := xor_cancel _ _ _ h4
  omega

/-- A byte that is raised by 1 to 255 is another byte. -/
theorem new_byte (z t : Int) (_hz0 : 0 ≤ z) (_hz1 : z ≤ 255) (ht0 : 0 ≤ t) : ∃ y, IntKind.u8.wrap (z + IntKind.u8.wrap (IntKind.i64.wrap (1 + t.tmod 255))) = y ∧ 0 ≤ y ∧ y ≤ 255 ∧ y ≠ z := by
  refine ⟨_, rfl, ?_⟩
  rw [Int.tmod_eq_emod_of_nonneg ht0]
  have h := Int.emod_nonneg t (show (255 : Int) ≠ 0 by decide)
  have h' := Int.emod_lt_of_pos t (show (0 : Int) < 255 by decide)
  generalize t % 255 = r at h h'
  rw [IntKind.wrap_i64, IntKind.wrap_u8, IntKind.wrap_u8]
  omega
end Go.Proofs.YtdpaocikmijioabGreat

namespace Go.Proofs.YtdpaocikmijioabGreat
open Go.RowKit

/-- The leaf of a node. -/
def lf (id : Int) : Int := if inB id 0 4 = true then crcOf (putN id) % 4 else -1
theorem lf_in {id : Int} (h : inB id 0 4 = true) : lf id = crcOf (putN id) % 4 ∧ 0 ≤ lf id ∧ lf id ≤ 3 := by
  have e : lf id = crcOf (putN id) % 4 := by rw [lf, if_pos h]
  rw [e]
  refine ⟨rfl, by omega, by omega⟩
theorem lf_out {id : Int} (h : inB id 0 4 = false) : lf id = -1 := by rw [lf, h]; rfl
theorem lf_nn (id : Int) : decide (0 ≤ lf id) = inB id 0 4 := by
  cases h : inB id 0 4
  · rw [lf_out h]; rfl
  · have := lf_in h; simp; omega
theorem lf_range (id : Int) : -1 ≤ lf id ∧ lf id ≤ 3 := by
  cases h : inB id 0 4
  · rw [lf_out h]; omega
  · have := lf_in h; omega

/-- Whether a number stands in a list. -/
def hasN (ls : List Int) (x : Int) : Bool := ls.any fun y => y == x
theorem hasN_iff {ls : List Int} {x : Int} : hasN ls x = true ↔ x ∈ ls := by simp [hasN]
theorem hasN_one {k x : Int} : hasN [k] x = (k == x) := by simp [hasN]
/-- The part of a state that lies in some leaves. -/
def slI (ls : List Int) (xs : List Itm) : List Itm := xs.filter fun x => hasN ls (lf x.1)
def slF (ls : List Int) (fs : List Flr) : List Flr := fs.filter fun f => hasN ls (lf f.1)
theorem find_sl {α : Type} (p : Int → Bool) (id : Int) : ∀ xs : List (Int × α), (xs.filter fun x => p x.1).find? (fun x => x.1 == id) = if p id = true then xs.find? (fun x => x.1 == id) else none
  | [] => by simp
  | x :: r => by
    have ih := find_sl p id r
    by_cases hx : x.1 = id
    · subst hx
      by_cases hp : p x.1 = true
      · simp [hp]
      · rw [List.filter_cons, if_neg hp, ih, if_neg hp, if_neg hp]
    · have hn : (x.1 == id) = false := by simpa using hx
      by_cases hp : p x.1 = true
      · rw [List.filter_cons, if_pos hp, List.find?_cons, List.find?_cons, hn]; exact ih
      · rw [List.filter_cons, if_neg hp, List.find?_cons, hn]; exact ih
theorem ent_sl (ls : List Int) (xs : List Itm) (id : Int) : ent (slI ls xs) id = if hasN ls (lf id) = true then ent xs id else none := by
  unfold ent slI
  rw [find_sl (fun i => hasN ls (lf i)) id xs]
  split <;> rfl
theorem flo_sl (ls : List Int) (fs : List Flr) (id : Int) : flo (slF ls fs) id = if hasN ls (lf id) = true then flo fs id else 0 := by
  unfold flo slF
  rw [find_sl (fun i => hasN ls (lf i)) id fs]
  split <;> rfl
theorem OkS.slice {xs : List Itm} {fs : List Flr} (h : OkS xs fs) (ls : List Int) : OkS (slI ls xs) (slF ls fs) := by
  refine ⟨h.px.sublist List.filter_sublist, h.pf.sublist List.filter_sublist, fun x hx => ?_, fun f hf => h.jf f (List.mem_filter.1 hf).1⟩
  obtain ⟨m, hp⟩ := List.mem_filter.1 hx
  have := h.ix x m
  refine ⟨this.1, this.2.1, this.2.2.1, ?_⟩
  rw [flo_sl, if_pos hp]
  exact this.2.2.2
theorem slI_len (ls : List Int) (xs : List Itm) : (slI ls xs).length ≤ xs.length := List.length_filter_le _ _
theorem slF_len (ls : List Int) (fs : List Flr) : (slF ls fs).length ≤ fs.length := List.length_filter_le _ _
theorem slI_pos {ls : List Int} {xs : List Itm} {k : Nat} {x : Itm} (hx : xs[k]? = some x) (h : hasN ls (lf x.1) = true) : slI ls (xs.take (k + 1)) = slI ls (xs.take k) ++ [x] := by
  rw [slI, take_filter hx, if_pos h]; rfl
theorem slI_neg {ls : List Int} {xs : List Itm} {k : Nat} {x : Itm} (hx : xs[k]? = some x) (h : hasN ls (lf x.1) = false) : slI ls (xs.take (k + 1)) = slI ls (xs.take k) := by
  rw [slI, take_filter hx, if_neg (by simp [h]), List.append_nil]; rfl
theorem slF_pos {ls : List Int} {xs : List Flr} {k : Nat} {x : Flr} (hx : xs[k]? = some x) (h : hasN ls (lf x.1) = true) : slF ls (xs.take (k + 1)) = slF ls (xs.take k) ++ [x] := by
  rw [slF, take_filter hx, if_pos h]; rfl
theorem slF_neg {ls : List Int} {xs : List Flr} {k : Nat} {x : Flr} (hx : xs[k]? = some x) (h : hasN ls (lf x.1) = false) : slF ls (xs.take (k + 1)) = slF ls (xs.take k) := by
  rw [slF, take_filter hx, if_neg (by simp [h]), List.append_nil]; rfl
theorem slI_k {ls : List Int} {xs : List Itm} {k : Nat} : (slI ls (xs.take k)).length ≤ k := Nat.le_trans (slI_len _ _) (by simp; omega)
theorem slF_k {ls : List Int} {xs : List Flr} {k : Nat} : (slF ls (xs.take k)).length ≤ k := Nat.le_trans (slF_len _ _) (by simp; omega)
/-- What is sliced of a state: of one that is not right, nothing. -/
def scI (ok : Bool) (ls : List Int) (xs : List Itm) : List Itm := if ok = true then slI ls xs else []
def scF (ok : Bool) (ls : List Int) (fs : List Flr) : List Flr := if ok = true then slF ls fs else []
theorem scI_len (ok : Bool) (ls : List Int) (xs : List Itm) : (scI ok ls xs).length ≤ xs.length := by
  cases ok
  · simp [scI]
  · exact slI_len _ _
theorem scF_len (ok : Bool) (ls : List Int) (fs : List Flr) : (scF ok ls fs).length ≤ fs.length := by
  cases ok
  · simp [scF]
  · exact slF_len _ _

/-- Numbers as bytes, one behind the other; an item's bytes, a floor's, a state's. -/
def nums (ns : List Int) : List Int := ns.flatMap putN
theorem nums_nil : nums [] = [] := rfl
theorem nums_cons (n : Int) (ns : List Int) : nums (n :: ns) = putN n ++ nums ns := by simp [nums]
theorem nums_one (n : Int) : nums [n] = putN n := by simp [nums]
theorem nums_take {ns : List Int} {k : Nat} {n : Int} (h : ns[k]? = some n) : nums (ns.take (k + 1)) = nums (ns.take k) ++ putN n := by
  rw [nums, List.take_add_one, h, List.flatMap_append]; simp [nums]
theorem nums_len (ns : List Int) : (nums ns).length ≤ ns.length * 5 := by
  induction ns with
  | nil => simp [nums]
  | cons n r ih =>
    rw [nums_cons, List.length_append, List.length_cons]
    have := putN_length n
    omega
theorem nums_bytes (ns : List Int) : ∀ z ∈ nums ns, 0 ≤ z ∧ z ≤ 255 := by
  intro z hz
  obtain ⟨n, _, h⟩ := List.mem_flatMap.1 hz
  exact putN_bytes n z h
def sbI (x : Itm) : List Int := nums [x.1, x.2.1, x.2.2.1, x.2.2.2.1, x.2.2.2.2.1] ++ putT (bl x.2.2.2.2.2)
def sbF (f : Flr) : List Int := nums [f.1, f.2]
def sbIs (xs : List Itm) : List Int := xs.flatMap sbI
def sbFs (fs : List Flr) : List Int := fs.flatMap sbF
def sb (xs : List Itm) (fs : List Flr) : List Int := (putN xs.length ++ sbIs xs) ++ (putN fs.length ++ sbFs fs)
theorem sbIs_take {xs : List Itm} {k : Nat} {x : Itm} (h : xs[k]? = some x) : sbIs (xs.take (k + 1)) = sbIs (xs.take k) ++ sbI x := by
  rw [sbIs, List.take_add_one, h, List.flatMap_append]; simp [sbIs]
theorem sbFs_take {xs : List Flr} {k : Nat} {x : Flr} (h : xs[k]? = some x) : sbFs (xs.take (k + 1)) = sbFs (xs.take k) ++ sbF x := by
  rw [sbFs, List.take_add_one, h, List.flatMap_append]; simp [sbFs]
theorem putT_len (l : List Int) : (putT l).length ≤ 5 + l.length := by
  rw [putT, List.length_append]
  have := putN_length l.length
  omega
theorem sbI_bytes (x : Itm) : ∀ z ∈ sbI x, 0 ≤ z ∧ z ≤ 255 := by
  intro z hz
  rcases List.mem_append.1 hz with h | h
  · exact nums_bytes _ z h
  · exact putT_bytes _ (bl_bytes _) z h
theorem sb_bytes (xs : List Itm) (fs : List Flr) : ∀ z ∈ sb xs fs, 0 ≤ z ∧ z ≤ 255 := by
  intro z hz
  rcases List.mem_append.1 hz with h | h
  · rcases List.mem_append.1 h with h | h
    · exact putN_bytes _ z h
    · obtain ⟨x, _, h⟩ := List.mem_flatMap.1 h
      exact sbI_bytes x z h
  · rcases List.mem_append.1 h with h | h
    · exact putN_bytes _ z h
    · obtain ⟨x, _, h⟩ := List.mem_flatMap.1 h
      exact nums_bytes _ z h
theorem sbI_len {x : Itm} (h : x.2.2.2.2.2.size ≤ 8) : (sbI x).length ≤ 38 := by
  rw [sbI, List.length_append]
  have h1 := nums_len [x.1, x.2.1, x.2.2.1, x.2.2.2.1, x.2.2.2.2.1]
  have h2 := putT_len (bl x.2.2.2.2.2)
  rw [bl_length] at h2
  simp at h1
  omega
theorem sbIs_len : ∀ {xs : List Itm}, (∀ x ∈ xs, x.2.2.2.2.2.size ≤ 8) → (sbIs xs).length ≤ xs.length * 38
  | [], _ => by simp [sbIs]
  | x :: r, h => by
    have h1 := sbI_len (h x (by simp))
    have h2 := sbIs_len (xs := r) (fun y hy => h y (by simp [hy]))
    have e : sbIs (x :: r) = sbI x ++ sbIs r := by simp [sbIs]
    rw [e, List.length_append, List.length_cons]
    omega
theorem sbFs_len : ∀ fs : List Flr, (sbFs fs).length ≤ fs.length * 10
  | [] => by simp [sbFs]
  | x :: r => by
    have h2 := sbFs_len r
    have h1 := nums_len [x.1, x.2]
    have e : sbFs (x :: r) = sbF x ++ sbFs r := by simp [sbFs]
    rw [e, List.length_append, List.length_cons, sbF]
    simp at h1
    omega
theorem OkS.small {xs : List Itm} {fs : List Flr} (h : OkS xs fs) : ∀ x ∈ xs, x.2.2.2.2.2.size ≤ 8 := fun x hx => okE_size (h.ix x hx).2.2.1
theorem sb_len {xs : List Itm} {fs : List Flr} (h : OkS xs fs) : (sb xs fs).length ≤ 250 := by
  have h1 := h.len5
  have h2 := sbIs_len h.small
  have h3 := sbFs_len fs
  have h4 := putN_length xs.length
  have h5 := putN_length fs.length
  rw [sb, List.length_append, List.length_append, List.length_append]
  omega
def sbS (xs : List Itm) (fs : List Flr) : List Int := if okS xs fs = true then sb xs fs else []
theorem sbS_len (xs : List Itm) (fs : List Flr) : (sbS xs fs).length ≤ 250 := by
  unfold sbS; split
  · rename_i h; exact sb_len ((okS_iff _ _).1 h)
  · simp
theorem sbS_bytes (xs : List Itm) (fs : List Flr) : ∀ z ∈ sbS xs fs, 0 ≤ z ∧ z ≤ 255 := by
  unfold sbS; split
  · exact sb_bytes _ _
  · intro z hz; simp at hz

/-- The sum of a leaf, of a tree's leaves, a tree. -/
def lsm (xs : List Itm) (fs : List Flr) (k : Int) : Int := if (okS xs fs && inB k 0 3) = true then crcOf (sb (slI [k] xs) (slF [k] fs)) % 1024 else 0
def rt (ls : List Int) : Int := crcOf (nums ls) % 1024
def trL (xs : List Itm) (fs : List Flr) : List Int := if okS xs fs = true then [lsm xs fs 0, lsm xs fs 1, lsm xs fs 2, lsm xs fs 3] else []
def trR (xs : List Itm) (fs : List Flr) : Int := if okS xs fs = true then rt [lsm xs fs 0, lsm xs fs 1, lsm xs fs 2, lsm xs fs 3] else 0
theorem lsm_range (xs : List Itm) (fs : List Flr) (k : Int) : 0 ≤ lsm xs fs k ∧ lsm xs fs k < 1024 := by
  unfold lsm
  split
  · omega
  · omega
theorem rt_range (ls : List Int) : 0 ≤ rt ls ∧ rt ls < 1024 := by
  rw [rt]
  omega
theorem trR_range (xs : List Itm) (fs : List Flr) : 0 ≤ trR xs fs ∧ trR xs fs < 1024 := by
  unfold trR; split
  · exact rt_range _
  · omega
theorem trL_at {xs : List Itm} {fs : List Flr} (h : okS xs fs = true) {k : Nat} (hk : k < 4) : (trL xs fs)[k]? = some (lsm xs fs k) := by
  rw [trL, if_pos h]
  rcases (by omega : k = 0 ∨ k = 1 ∨ k = 2 ∨ k = 3) with rfl | rfl | rfl | rfl <;> rfl
theorem trL_len (xs : List Itm) (fs : List Flr) : (trL xs fs).length = if okS xs fs = true then 4 else 0 := by
  unfold trL; split <;> rfl

/-- A tree that is touched where a node turned. -/
def tcOk (ts : List Int) (xs : List Itm) (fs : List Flr) (id : Int) : Bool := okS xs fs && inB id 0 4 && (ts.length == 4)
def tcL (ts : List Int) (xs : List Itm) (fs : List Flr) (id : Int) : List Int := if tcOk ts xs fs id = true then ts.set (lf id).toNat (lsm xs fs (lf id)) else ts
def tcR (ts : List Int) (r : Int) (xs : List Itm) (fs : List Flr) (id : Int) : Int := if tcOk ts xs fs id = true then rt (ts.set (lf id).toNat (lsm xs fs (lf id))) else r
/-- Where two trees are not the same. -/
def dfP (ts us : List Int) (k : Int) : Bool := !(ts.length == 4) || !(us.length == 4) || (ts.getD k.toNat 0 != us.getD k.toNat 0)
def dfL (ts : List Int) (r : Int) (us : List Int) (q : Int) : List Int := if r = q then [] else ([0, 1, 2, 3] : List Int).filter (dfP ts us)

/-! ### What the laws say -/
theorem slI_all {xs : List Itm} {fs : List Flr} (h : OkS xs fs) : slI [0, 1, 2, 3] xs = xs ∧ slF [0, 1, 2, 3] fs = fs := by
  have key : ∀ id : Int, 0 ≤ id → id ≤ 4 → hasN [0, 1, 2, 3] (lf id) = true := fun id h0 h1 => by
    have := lf_in (inB_iff.2 ⟨h0, h1⟩)
    rw [hasN_iff]
    simp
    omega
  exact ⟨List.filter_eq_self.2 fun x hx => key x.1 (h.ix x hx).1 (h.ix x hx).2.1, List.filter_eq_self.2 fun f hf => key f.1 (h.jf f hf).1 (h.jf f hf).2.1⟩
theorem hasN_app (A B : List Int) (x : Int) : hasN (A ++ B) x = (hasN A x || hasN B x) := by simp [hasN]
theorem OkS.slice_join {xs : List Itm} {fs : List Flr} (h : OkS xs fs) (A B : List Int) : joinI (slI A xs) (slF A fs) (slI B xs) (slF B fs) = slI (A ++ B) xs ∧ joinF (slF A fs) (slF B fs) = slF (A ++ B) fs := by
  have hA := h.slice A
  have hB := h.slice B
  have nn := h.flo_nn
  have f2 : ∀ id, fl2 (slF A fs) (slF B fs) id = flo (slF (A ++ B) fs) id := fun id => by
    have := nn id
    rw [(hA.fl2_nn hB id).2.2, flo_sl, flo_sl, flo_sl, hasN_app]
    cases hasN A (lf id) <;> cases hasN B (lf id) <;> simp <;> omega
  refine (hA.join hB).ext (h.slice _) (fun id => ?_) (fun id => (join_flo hA hB id).trans (f2 id))
  rw [join_ent' hA hB, f2, ent_sl, ent_sl, ent_sl, flo_sl, hasN_app]
  have hk := h.keep_ent id (f := flo fs id) (Int.le_refl _)
  cases hasN A (lf id) <;> cases hasN B (lf id) <;> simp [jE_self, jE_none, hk]
  · rfl
  · rw [jE_comm, jE_none, hk]
/-- Joined with one node's item, the leaves of others stay as they were. -/
theorem OkS.other_leaf {xs : List Itm} {fs : List Flr} (h : OkS xs fs) {id : Int} {e : Key} (h1 : OkS [(id, e)] []) {k : Int} (hk : lf id ≠ k) : slI [k] (joinI xs fs [(id, e)] []) = slI [k] xs ∧ slF [k] (joinF fs []) = slF [k] fs := by
  have hj := h.join h1
  refine (hj.slice [k]).ext (h.slice [k]) (fun i => ?_) (fun i => ?_)
  · rw [ent_sl, ent_sl, hasN_one]
    by_cases hi : k = lf i
    · rw [if_pos (by simpa using hi), if_pos (by simpa using hi), join_ent' h h1]
      have hne : id ≠ i := fun q => hk (by rw [q]; exact hi.symm)
      have e0 : ent [(id, e)] i = none := by simp [ent, hne]
      have f0 := h.flo_nn i
      have e1 : fl2 fs [] i = flo fs i := by rw [(h.fl2_nn h1 i).2.2, flo_nil]; omega
      rw [e0, jE_none, e1, h.keep_ent i (Int.le_refl _)]
    · rw [if_neg (by simpa using hi), if_neg (by simpa using hi)]
  · rw [flo_sl, flo_sl, join_flo h h1]
    have f0 := h.flo_nn i
    have e1 : fl2 fs [] i = flo fs i := by rw [(h.fl2_nn h1 i).2.2, flo_nil]; omega
    rw [e1]
theorem OkS.other_sum {xs : List Itm} {fs : List Flr} (h : OkS xs fs) {id : Int} {e : Key} (h1 : OkS [(id, e)] []) {k : Int} (hk : lf id ≠ k) : lsm (joinI xs fs [(id, e)] []) (joinF fs []) k = lsm xs fs k := by
  obtain ⟨a, b⟩ := h.other_leaf h1 hk
  rw [lsm, lsm, a, b, (okS_iff _ _).2 h, (okS_iff _ _).2 (h.join h1)]
theorem OkS.touched {xs : List Itm} {fs : List Flr} (h : OkS xs fs) {id : Int} {e : Key} (h1 : OkS [(id, e)] []) :
    tcL (trL xs fs) (joinI xs fs [(id, e)] []) (joinF fs []) id = trL (joinI xs fs [(id, e)] []) (joinF fs []) ∧ tcR (trL xs fs) (trR xs fs) (joinI xs fs [(id, e)] []) (joinF fs []) id = trR (joinI xs fs [(id, e)] []) (joinF fs []) := by
  have hj := (okS_iff _ _).2 (h.join h1)
  have hin := h1.ix (id, e) (by simp)
  have hb : inB id 0 4 = true := inB_iff.2 ⟨hin.1, hin.2.1⟩
  have hl := lf_in hb
  have hs := (okS_iff _ _).2 h
  have ht : trL xs fs = [lsm xs fs 0, lsm xs fs 1, lsm xs fs 2, lsm xs fs 3] := by rw [trL, if_pos hs]
  have hok : tcOk (trL xs fs) (joinI xs fs [(id, e)] []) (joinF fs []) id = true := by
    rw [tcOk, hj, hb, ht]; rfl
  have key : (trL xs fs).set (lf id).toNat (lsm (joinI xs fs [(id, e)] []) (joinF fs []) (lf id)) = trL (joinI xs fs [(id, e)] []) (joinF fs []) := by
    rw [ht, trL, if_pos hj]
    have o := fun k hk => h.other_sum h1 (k := k) hk
    rcases (by omega : lf id = 0 ∨ lf id = 1 ∨ lf id = 2 ∨ lf id = 3) with q | q | q | q
    · rw [o 1 (by omega), o 2 (by omega), o 3 (by omega), q]; rfl
    · rw [o 0 (by omega), o 2 (by omega), o 3 (by omega), q]; rfl
    · rw [o 0 (by omega), o 1 (by omega), o 3 (by omega), q]; rfl
    · rw [o 0 (by omega), o 1 (by omega), o 2 (by omega), q]; rfl
  refine ⟨by rw [tcL, if_pos hok, key], ?_⟩
  rw [tcR, if_pos hok, key, trL, if_pos hj, trR, if_pos hj]
theorem OkS.differ {xs : List Itm} {fs : List Flr} (h : OkS xs fs) {id : Int} {e : Key} (h1 : OkS [(id, e)] []) :
    let d := dfL (trL xs fs) (trR xs fs) (trL (joinI xs fs [(id, e)] []) (joinF fs [])) (trR (joinI xs fs [(id, e)] []) (joinF fs []))
    d = [] ∨ d = [lf id] := by
  intro d
  have hj := (okS_iff _ _).2 (h.join h1)
  have hin := h1.ix (id, e) (by simp)
  have hl : lf id = _ ∧ 0 ≤ lf id ∧ lf id ≤ 3 := lf_in (inB_iff.2 ⟨hin.1, hin.2.1⟩)
  have hs := (okS_iff _ _).2 h
  have ht : trL xs fs = [lsm xs fs 0, lsm xs fs 1, lsm xs fs 2, lsm xs fs 3] := by rw [trL, if_pos hs]
  have hu : trL (joinI xs fs [(id, e)] []) (joinF fs []) = [lsm (joinI xs fs [(id, e)] []) (joinF fs []) 0, lsm (joinI xs fs [(id, e)] []) (joinF fs []) 1, lsm (joinI xs fs [(id, e)] []) (joinF fs []) 2, lsm (joinI xs fs [(id, e)] []) (joinF fs []) 3] := by rw [trL, if_pos hj]
  have hd : d = dfL (trL xs fs) (trR xs fs) (trL (joinI xs fs [(id, e)] []) (joinF fs [])) (trR (joinI xs fs [(id, e)] []) (joinF fs [])) := rfl
  clear_value d
  subst hd
  unfold dfL
  split
  · exact .inl rfl
  · have o := fun k hk => h.other_sum h1 (k := k) hk
    have z : ∀ k : Nat, k < 4 → lf id ≠ k → dfP (trL xs fs) (trL (joinI xs fs [(id, e)] []) (joinF fs [])) k = false := fun k h4 hk => by
      have ho := o k hk
      rw [dfP, ht, hu]
      rcases (by omega : k = 0 ∨ k = 1 ∨ k = 2 ∨ k = 3) with rfl | rfl | rfl | rfl <;> simp_all
    have z0 := z 0 (by omega); have z1 := z 1 (by omega); have z2 := z 2 (by omega); have z3 := z 3 (by omega)
    simp only [Int.cast_ofNat_Int] at z0 z1 z2 z3
    simp only [List.filter_cons, List.filter_nil]
    rcases (by omega : lf id = 0 ∨ lf id = 1 ∨ lf id = 2 ∨ lf id = 3) with q | q | q | q
    · rw [z1 (by omega), z2 (by omega), z3 (by omega), q]; simp only [Bool.false_eq_true, if_false]; split <;> simp
    · rw [z0 (by omega), z2 (by omega), z3 (by omega), q]; simp only [Bool.false_eq_true, if_false]; split <;> simp
    · rw [z0 (by omega), z1 (by omega), z3 (by omega), q]; simp only [Bool.false_eq_true, if_false]; split <;> simp
    · rw [z0 (by omega), z1 (by omega), z2 (by omega), q]; simp only [Bool.false_eq_true, if_false]; split <;> simp
end Go.Proofs.YtdpaocikmijioabGreat

namespace Go.Proofs.YtdpaocikmijioabGreat
open Go.RowKit

def encN (n : Int) : List Value := [.int .i64 n]
theorem encN_len (n : Int) : (encN n).length = 1 := rfl
abbrev RwN := Rw encN 1
theorem Rw.atN {w : World} {a : Option Addr} {n cap : Nat} {ns : List Int} (h : RwN w (.slice a n cap) ns) {i : Nat} (hi : i < n) :
    ∃ z b off, ns[i]? = some z ∧ a = some ⟨b, off, none⟩ ∧ b < w.heap.size ∧ n ≤ cap ∧ w.cell? ⟨b, off + i, none⟩ = some (.int .i64 z) := by
  obtain ⟨z, b, off, h1, h2, h3, h4, h5⟩ := h.at hi
  refine ⟨z, b, off, h1, h2, h3, h4, ?_⟩
  have := h5 0 (by omega)
  rw [Nat.mul_one, Nat.add_zero] at this
  rw [this]; rfl
end Go.Proofs.YtdpaocikmijioabGreat

namespace Go.Proofs.YtdpaocikmijioabGreat
open Go.RowKit

set_option maxHeartbeats 1000000 in
set_option maxRecDepth 100000 in
theorem iputnum_any (n : Int) (w : World) (h1 : -9223372036854775808 ≤ n) (h2 : n ≤ 9223372036854775807) :
    Calls Tryz.prog 79 #[.int .i64 n] w fun e w' => ∃ v, e = .returned v ∧ w'.ownsRow w.heap.size 5 1 v (putN n).length ((putN n).map (Value.int .u8)) ∧ Below w.heap.size w w' := by
  obtain ⟨i0, hi, hz0, hz1, hz2⟩ := info_parts Tryz.infoByte
  by_cases hb : 0 ≤ n ∧ n ≤ 2147483647
  · have hd1 : decide (n < 0) = false := by simp; omega
    have hd2 : decide (2147483647 < n) = false := by simp; omega
    have HP := hide (show putN n = putf 4 n.toNat by simp [putN, hb])
    obtain ⟨hn0, hn1⟩ := hb
    go_enter Tryz.func79, Tryz.ntmps79
    go_wp2
    go_loopw [0, 3] (fun x v wr => ∃ (j m : Nat) (ys : List Int), j ≤ 4 ∧ x = .int .i64 m ∧ ys.length = j ∧ ys ++ putf (4 - j) m = putf 4 n.toNat ∧ m < 128 ^ (5 - j) ∧ wr.ownsRow w.heap.size 5 1 v j (ys.map (Value.int .u8)) ∧ Below w.heap.size w wr) (fun x _ _ => (intOf x).toNat)
    case atStart => exact ⟨0, n.toNat, [], by omega, by go_num, rfl, by simp, by omega, by simpa using World.ownsRow_nil _ _ _ _, Below.refl _ _⟩
    case round =>
      obtain ⟨j, m, ys, hj, rfl, hyl, hys, hm, hown, hbel⟩ := hrel
      have hmm := pow_le j m hm
      have hsz := hbel.size
      have HY := hide hys
      have HM := hide hm
      have HL := hide hyl
      have HB := hide hbel
      have HO := hide hown
      clear hys hm hyl hbel hown
      by_cases hlt : 128 ≤ m
      · have hj4 := step_lt j m hj (unhide HM) hlt
        go_wp2_with (first
          | (at_builtin; refine wpList_append_own _ rfl _ _ 22 rfl w.heap.size 5 i0 (.int .u8 0) 1 1 Tryz.underlying22 hi hz0 hz1 hz2 rfl (by decide) _ _ _ rfl ((unhide HO).alloc _) ⟨wr.heap.size, 0, none⟩ 1 1 [.int .u8 ((m : Int) % 128 + 128)] rfl rfl ?c1a ?c2a ?c3a ?c4a ?c5a ?_))
        case c1a =>
          intro j u hj
          match j, hj with
          | 0, hj => simp at hj; subst hj; simp [Addr.add]
        case c2a => intro u hu; simp at hu; subst hu; rfl
        case c3a => unfold maxLen; omega
        case c4a => omega
        case c5a => simp; omega
        intro v' w1 hown' hgrow _
        have R := own_step (unhide HO) (unhide HB) hsz hown' hgrow
        have R1 := hide R.1
        have R2 := hide R.2
        clear R hown' hgrow HO HB
        go_wp2
        go_roundw
        case rel => exact ⟨j + 1, m / 128, ys ++ [(m : Int) % 128 + 128], by omega, by go_num, by simp [unhide HL], step_put j m ys _ hj4 hlt (unhide HY), step_pow j m hj4 (unhide HM), R1.out, R2.out⟩
        case measure => simp [intOf]; omega
      · go_wp2_with (first
          | (at_builtin; refine wpList_append_own _ rfl _ _ 22 rfl w.heap.size 5 i0 (.int .u8 0) 1 1 Tryz.underlying22 hi hz0 hz1 hz2 rfl (by decide) _ _ _ rfl ((unhide HO).alloc _) ⟨wr.heap.size, 0, none⟩ 1 1 [.int .u8 ((m : Int))] rfl rfl ?c1b ?c2b ?c3b ?c4b ?c5b ?_))
        case c1b =>
          intro j u hj
          match j, hj with
          | 0, hj => simp at hj; subst hj; simp [Addr.add]
        case c2b => intro u hu; simp at hu; subst hu; rfl
        case c3b => unfold maxLen; omega
        case c4b => omega
        case c5b => simp; omega
        intro v' w1 hown' hgrow _
        have R := own_step (unhide HO) (unhide HB) hsz hown' hgrow
        have R1 := hide R.1
        have R2 := hide R.2
        clear R hown' hgrow HO HB
        go_wp2
        go_ret
        have e : putN n = ys ++ [(m : Int)] := by
          rw [unhide HP, ← unhide HY, putf_small _ _ (by omega)]
        rw [e]
        exact ⟨_, rfl, by have := R1.out; simpa [unhide HL] using this, R2.out⟩
  · have e : putN n = [] := by simp [putN, hb]
    rw [e]
    by_cases hneg : n < 0
    · go_enter Tryz.func79, Tryz.ntmps79
      go_wp2
      go_ret
      exact ⟨_, rfl, World.ownsRow_nil _ _ _ _, Below.refl _ _⟩
    · have hbig : 2147483647 < n := by omega
      clear hb e
      go_enter Tryz.func79, Tryz.ntmps79
      go_wp2
      go_ret
      exact ⟨_, rfl, World.ownsRow_nil _ _ _ _, Below.refl _ _⟩

end Go.Proofs.YtdpaocikmijioabGreat

namespace Go.Proofs.YtdpaocikmijioabGreat
open Go.RowKit

theorem l1in_any (x lo hi : Int) (w : World) :
    Calls Tryz.prog 62 #[.int .i64 x, .int .i64 lo, .int .i64 hi] w fun e w' => e = .returned (.bool (decide (lo ≤ x ∧ x ≤ hi))) ∧ w = w' := by
  by_cases h : lo ≤ x
  · have hd : decide (lo ≤ x) = true := by simpa using h
    go_enter Tryz.func62, Tryz.ntmps62
    go_wp2
    go_ret
    exact ⟨by simp [h], rfl⟩
  · have hd : decide (lo ≤ x) = false := by simpa using h
    go_enter Tryz.func62, Tryz.ntmps62
    go_wp2
    go_ret
    exact ⟨by simp, rfl⟩
set_option maxHeartbeats 1000000 in
set_option maxRecDepth 100000 in
theorem sputnum_any (n : Int) (w : World) (h1 : -9223372036854775808 ≤ n) (h2 : n ≤ 9223372036854775807) :
    Calls Tryz.prog 106 #[.int .i64 n] w fun e w' => ∃ v, e = .returned v ∧ w'.ownsRow w.heap.size 5 1 v (putN n).length ((putN n).map (Value.int .u8)) ∧ Below w.heap.size w w' := by
  obtain ⟨i0, hi, hz0, hz1, hz2⟩ := info_parts Tryz.infoByte
  by_cases hb : 0 ≤ n ∧ n ≤ 2147483647
  · have hd3 : decide (0 ≤ n ∧ n ≤ 2147483647) = true := by simp; omega
    have HP := hide (show putN n = putf 4 n.toNat by simp [putN, hb])
    obtain ⟨hn0, hn1⟩ := hb
    go_enter Tryz.func106, Tryz.ntmps106
    go_wp2_with (first | (go_at_call 62; refine (l1in_any _ _ _ _).mono ?_; rintro e _ ⟨rfl, rfl⟩; rw [hd3]))
    go_loopw [0, 3] (fun x v wr => ∃ (j m : Nat) (ys : List Int), j ≤ 4 ∧ x = .int .i64 m ∧ ys.length = j ∧ ys ++ putf (4 - j) m = putf 4 n.toNat ∧ m < 128 ^ (5 - j) ∧ wr.ownsRow w.heap.size 5 1 v j (ys.map (Value.int .u8)) ∧ Below w.heap.size w wr) (fun x _ _ => (intOf x).toNat)
    case atStart => exact ⟨0, n.toNat, [], by omega, by go_num, rfl, by simp, by omega, by simpa using World.ownsRow_made _ #[] 0 (Nat.le_refl _) (by simp [maxLen]) rfl, (Below.refl _ _).alloc (Nat.le_refl _) _⟩
    case round =>
      obtain ⟨j, m, ys, hj, rfl, hyl, hys, hm, hown, hbel⟩ := hrel
      have hmm := pow_le j m hm
      have hsz := hbel.size
      have HY := hide hys
      have HM := hide hm
      have HL := hide hyl
      have HB := hide hbel
      have HO := hide hown
      clear hys hm hyl hbel hown
      by_cases hlt : 128 ≤ m
      · have hj4 := step_lt j m hj (unhide HM) hlt
        go_wp2_with (first
          | (at_builtin; refine wpList_append_own _ rfl _ _ 22 rfl w.heap.size 5 i0 (.int .u8 0) 1 1 Tryz.underlying22 hi hz0 hz1 hz2 rfl (by decide) _ _ _ rfl ((unhide HO).alloc _) ⟨wr.heap.size, 0, none⟩ 1 1 [.int .u8 ((m : Int) % 128 + 128)] rfl rfl ?c1a ?c2a ?c3a ?c4a ?c5a ?_))
        case c1a =>
          intro j u hj
          match j, hj with
          | 0, hj => simp at hj; subst hj; simp [Addr.add]
        case c2a => intro u hu; simp at hu; subst hu; rfl
        case c3a => unfold maxLen; omega
        case c4a => omega
        case c5a => simp; omega
        intro v' w1 hown' hgrow _
        have R := own_step (unhide HO) (unhide HB) hsz hown' hgrow
        have R1 := hide R.1
        have R2 := hide R.2
        clear R hown' hgrow HO HB
        go_wp2
        go_roundw
        case rel => exact ⟨j + 1, m / 128, ys ++ [(m : Int) % 128 + 128], by omega, by go_num, by simp [unhide HL], step_put j m ys _ hj4 hlt (unhide HY), step_pow j m hj4 (unhide HM), R1.out, R2.out⟩
        case measure => simp [intOf]; omega
      · go_wp2_with (first
          | (at_builtin; refine wpList_append_own _ rfl _ _ 22 rfl w.heap.size 5 i0 (.int .u8 0) 1 1 Tryz.underlying22 hi hz0 hz1 hz2 rfl (by decide) _ _ _ rfl ((unhide HO).alloc _) ⟨wr.heap.size, 0, none⟩ 1 1 [.int .u8 ((m : Int))] rfl rfl ?c1b ?c2b ?c3b ?c4b ?c5b ?_))
        case c1b =>
          intro j u hj
          match j, hj with
          | 0, hj => simp at hj; subst hj; simp [Addr.add]
        case c2b => intro u hu; simp at hu; subst hu; rfl
        case c3b => unfold maxLen; omega
        case c4b => omega
        case c5b => simp; omega
        intro v' w1 hown' hgrow _
        have R := own_step (unhide HO) (unhide HB) hsz hown' hgrow
        have R1 := hide R.1
        have R2 := hide R.2
        clear R hown' hgrow HO HB
        go_wp2
        go_ret
        have e : putN n = ys ++ [(m : Int)] := by
          rw [unhide HP, ← unhide HY, putf_small _ _ (by omega)]
        rw [e]
        exact ⟨_, rfl, by have := R1.out; simpa [unhide HL] using this, R2.out⟩
  · have e : putN n = [] := by simp [putN, hb]
    rw [e]
    by_cases hneg : n < 0
    · go_enter Tryz.func106, Tryz.ntmps106
      go_wp2
      go_ret
      exact ⟨_, rfl, World.ownsRow_made _ #[] 0 (Nat.le_refl _) (by simp [maxLen]) rfl, (Below.refl _ _).alloc (Nat.le_refl _) _⟩
    · have hbig : 2147483647 < n := by omega
      clear hb e
      have hd1 : decide (0 ≤ n) = true := by simp; omega
      have hd2 : decide (n ≤ 2147483647) = false := by simp; omega
      go_enter Tryz.func106, Tryz.ntmps106
      go_wp2
      go_ret
      exact ⟨_, rfl, World.ownsRow_made _ #[] 0 (Nat.le_refl _) (by simp [maxLen]) rfl, (Below.refl _ _).alloc (Nat.le_refl _) _⟩
end Go.Proofs.YtdpaocikmijioabGreat

namespace Go.Proofs.YtdpaocikmijioabGreat
open Go.RowKit

set_option maxHeartbeats 1000000 in
theorem icrc_any (v : Value) (xs : List Int) (w : World) (hlen : xs.length ≤ 281474976710656) (hv : Seg w v xs) :
    Calls Tryz.prog 78 #[v] w fun e w' => e = .returned (.int .i64 (crcOf xs)) ∧ w = w' := by
  obtain ⟨a, cap, rfl, hcap, h⟩ := hv
  rcases h with rfl | ⟨b, off, rfl, _, hc⟩
  · go_enter Tryz.func78, Tryz.ntmps78
    go_wp2
    go_loop [3, 9] (fun s i => i = .int .i64 0 ∧ s = .int .i64 4294967295) (fun _ i => 0)
    case atStart => exact ⟨rfl, rfl⟩
    case round =>
      obtain ⟨rfl, rfl⟩ := hrel
      go_wp2
      go_ret
      exact ⟨rfl, rfl⟩
  · have HC := hide hc
    clear hc
    go_enter Tryz.func78, Tryz.ntmps78
    go_wp2
    go_loop [3, 9] (fun s i => ∃ k : Nat, k ≤ xs.length ∧ i = .int .i64 k ∧ s = .int .i64 (crcRun (xs.take k))) (fun _ i => xs.length - (intOf i).toNat)
    case atStart => exact ⟨0, Nat.zero_le _, rfl, rfl⟩
    case round =>
      obtain ⟨k, hk, rfl, rfl⟩ := hrel
      by_cases hlt : k < xs.length
      · have hcx := unhide HC k hlt
        generalize hz : xs.getD k 0 = z at hcx
        have HS : Hid (crcRun (xs.take (k + 1)) = crcIt 8 (bits BinOp.xor IntKind.i64 (crcRun (xs.take k)) (wrap64 z))) := crcRun_snoc xs k z hlt hz
        clear hz
        go_wp2
        go_loop [3, 17] (fun s i => ∃ j : Nat, j ≤ 8 ∧ i = .int .i64 j ∧ s = .int .i64 (crcIt j (bits BinOp.xor IntKind.i64 (crcRun (xs.take k)) (wrap64 z)))) (fun _ i => 8 - (intOf i).toNat)
        case atStart => exact ⟨0, Nat.zero_le _, rfl, rfl⟩
        case round =>
          obtain ⟨j, hj, rfl, rfl⟩ := hrel
          by_cases hlt2 : j < 8
          · go_wp2
            · go_round
              case rel => exact ⟨j + 1, by omega, by go_num, int_eq (crcIt_odd j _ ‹_›)⟩
              case measure => simp [intOf]; omega
            · go_round
              case rel => exact ⟨j + 1, by omega, by go_num, int_eq (crcIt_even j _ ‹_›)⟩
              case measure => simp [intOf]; omega
          · have hj8 : j = 8 := by omega
            subst hj8
            go_wp2
            go_round
            case rel => exact ⟨k + 1, by omega, by go_num, int_eq HS.out.symm⟩
            case measure => simp [intOf]; omega
      · go_wp2
        go_ret
        exact ⟨ret_int (by rw [List.take_of_length_le (by omega)]; rfl), rfl⟩

end Go.Proofs.YtdpaocikmijioabGreat

namespace Go.Proofs.YtdpaocikmijioabGreat
open Go.RowKit

set_option maxHeartbeats 1000000 in
theorem scrc_any (v : Value) (xs : List Int) (w : World) (hlen : xs.length ≤ 281474976710656) (hv : Seg w v xs) :
    Calls Tryz.prog 104 #[v] w fun e w' => e = .returned (.int .i64 (crcOf xs)) ∧ w = w' := by
  obtain ⟨a, cap, rfl, hcap, h⟩ := hv
  rcases h with rfl | ⟨b, off, rfl, _, hc⟩
  · go_enter Tryz.func104, Tryz.ntmps104
    go_wp2
    go_loop [3, 4] (fun s i => i = .int .i64 0 ∧ s = .int .i64 4294967295) (fun _ i => 0)
    case atStart => exact ⟨rfl, rfl⟩
    case round =>
      obtain ⟨rfl, rfl⟩ := hrel
      go_wp2
      go_ret
      exact ⟨rfl, rfl⟩
  · have HC := hide hc
    clear hc
    go_enter Tryz.func104, Tryz.ntmps104
    go_wp2
    go_loop [3, 4] (fun s i => ∃ k : Nat, k ≤ xs.length ∧ i = .int .i64 k ∧ s = .int .i64 (crcRun (xs.take k))) (fun _ i => xs.length - (intOf i).toNat)
    case atStart => exact ⟨0, Nat.zero_le _, rfl, rfl⟩
    case round =>
      obtain ⟨k, hk, rfl, rfl⟩ := hrel
      by_cases hlt : k < xs.length
      · have hcx := unhide HC k hlt
        generalize hz : xs.getD k 0 = z at hcx
        have HS : Hid (crcRun (xs.take (k + 1)) = crcIt 8 (bits BinOp.xor IntKind.i64 (crcRun (xs.take k)) (wrap64 z))) := crcRun_snoc xs k z hlt hz
        clear hz
        go_wp2
        go_loop [3, 5] (fun s i => ∃ j : Nat, j ≤ 8 ∧ i = .int .i64 j ∧ s = .int .i64 (crcIt j (bits BinOp.xor IntKind.i64 (crcRun (xs.take k)) (wrap64 z)))) (fun _ i => 8 - (intOf i).toNat)
        case atStart => exact ⟨0, Nat.zero_le _, rfl, rfl⟩
        case round =>
          obtain ⟨j, hj, rfl, rfl⟩ := hrel
          by_cases hlt2 : j < 8
          · go_wp2
            · go_round
              case rel => exact ⟨j + 1, by omega, by go_num, int_eq (crcIt_odd j _ ‹_›)⟩
              case measure => simp [intOf]; omega
            · go_round
              case rel => exact ⟨j + 1, by omega, by go_num, int_eq (crcIt_even j _ ‹_›)⟩
              case measure => simp [intOf]; omega
          · have hj8 : j = 8 := by omega
            subst hj8
            go_wp2
            go_round
            case rel => exact ⟨k + 1, by omega, by go_num, int_eq HS.out.symm⟩
            case measure => simp [intOf]; omega
      · go_wp2
        go_ret
        exact ⟨ret_int (by rw [List.take_of_length_le (by omega)]; rfl), rfl⟩
end Go.Proofs.YtdpaocikmijioabGreat
