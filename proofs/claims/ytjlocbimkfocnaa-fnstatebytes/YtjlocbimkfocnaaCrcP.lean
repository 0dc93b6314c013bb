/-
  Decimal digits as a function on lists ('dgs', 'digs'), and two laws of the walk for texts that are put together of bytes. No statement is proved here.
  Texts as lists of bytes ('bl'), and back ('strOfNums'). No statement is proved here.
  The laws' 'markText': a text of its own for each number. No statement is proved here.
  The bytes of a number as a function on lists ('putN'). No statement is proved here.
  The bytes of a text as a function on lists ('putT'). No statement is proved here.
  Numbers and texts as bytes, each within its bounds: plain lists. No program; no statement is proved here.
  A list of bytes and the same list with one byte that is another one have two check sums, and a check sum is not below 0. No program; no statement is proved here.
-/
import Derived.Test.YtjlocbimkfocnaaBase
import Derived.Laws.BytesArg
import Derived.Laws.Concat
import Derived.WalkLawsBesides
import Derived.BigQuiet
import Derived.Deep.QuietTactic
import Derived.Deep.RegionWith
import Derived.Lib.AppendStr
import Derived.Lib.ConvBytes
namespace Go.Proofs.Ytjlocbimkfocnaa
open Go.RowKit

def dgs : Nat → Nat → List Int → List Int
  | 0, _, acc => acc
  | f + 1, n, acc => if n = 0 then acc else dgs f (n / 10) ((48 + (n : Int) % 10) :: acc)
def digs (n : Int) : List Int := if n = 0 then [48] else if n < 0 then 45 :: dgs 20 n.natAbs [] else dgs 20 n.natAbs []

theorem dgs_zero (f : Nat) (acc : List Int) : dgs f 0 acc = acc := by cases f <;> simp [dgs]
theorem dgs_step (f n : Nat) (acc : List Int) (h : n ≠ 0) : dgs (f + 1) n acc = dgs f (n / 10) ((48 + (n : Int) % 10) :: acc) := by simp [dgs, h]
theorem dgs_length (f n : Nat) (acc : List Int) : (dgs f n acc).length ≤ f + acc.length := by
  induction f generalizing n acc with
  | zero => simp [dgs]
  | succ f ih =>
    by_cases h : n = 0
    · subst h; rw [dgs_zero]; omega
    · rw [dgs_step f n acc h]
      have := ih (n / 10) ((48 + (n : Int) % 10) :: acc)
      simp at this; omega
theorem digs_length (n : Int) : (digs n).length ≤ 21 := by
  unfold digs
  have := dgs_length 20 n.natAbs []
  simp at this
  split
  · simp
  · split
    · simp; omega
    · omega
theorem str_append (xs ys : List Int) : strOfNums xs ++ strOfNums ys = strOfNums (xs ++ ys) := by
  unfold strOfNums
  rw [ByteArray.mk_append_mk]; simp
theorem add_run {P : Program} (xs ys : List Int) (hx : xs.length ≤ 1000000) (hy : ys.length ≤ 1000000) (w : World) : (Op.stringOp .add (strOfNums xs) (strOfNums ys)).run P w = .ok (.string (strOfNums (xs ++ ys))) w := by
  rw [run_string_add_sum w _ _ (by rw [strOfNums_size, strOfNums_size]; omega), str_append]
theorem pow_step (f n : Nat) (h : n < 10 ^ (f + 1)) : n / 10 < 10 ^ f := by
  rw [Nat.pow_succ] at h
  exact Nat.div_lt_of_lt_mul (by rw [Nat.mul_comm]; exact h)
theorem conv_one (wr : World) (x : Int) : (convert 22 9 (.slice (some ⟨wr.heap.size, 0, none⟩) 1 1)).run Try.prog (wr.alloc (.cells #[.int .u8 x] 5)) = .ok (.string (strOfNums [x])) (wr.alloc (.cells #[.int .u8 x] 5)) :=
  run_convert_bytes_arg (P := Try.prog) _ 22 5 Try.underlying22 Try.underlying5 wr.heap.size 0 1 1 [x] rfl (fun i hi => by
    have h0 : i = 0 := by omega
    subst h0
    simp) 9 Try.underlying9

end Go.Proofs.Ytjlocbimkfocnaa

namespace Go.Proofs.Ytjlocbimkfocnaa
open Go.RowKit

def bl (s : ByteArray) : List Int := s.data.toList.map fun c => (c.toNat : Int)
theorem bl_length (s : ByteArray) : (bl s).length = s.size := by
  unfold bl
  rw [List.length_map]
  rfl
theorem bl_drop (s : ByteArray) (k z : Nat) (h : k < s.size) (hz : s[k].toNat = z) : (bl s).drop k = (z : Int) :: (bl s).drop (k + 1) := by
  subst hz
  unfold bl
  rw [← List.map_drop, ← List.map_drop, List.drop_eq_getElem_cons (show k < s.data.toList.length from h)]
  rfl

theorem isEmpty_of {s : ByteArray} (h : s.size = 0) : s.toList.isEmpty = true := by
  rw [ByteArray.toList_eq, List.isEmpty_iff]
  exact List.eq_nil_of_length_eq_zero h
theorem isEmpty_not {s : ByteArray} (h : ¬ s.size = 0) : s.toList.isEmpty = false := by
  rw [ByteArray.toList_eq]
  cases he : s.data.toList with
  | nil => exact absurd (show s.data.toList.length = 0 by rw [he]; rfl) h
  | cons c r => rfl
theorem byte_lt (s : ByteArray) (k z : Nat) (h : k < s.size) (hz : s[k].toNat = z) : z < 256 := by rw [← hz]; exact UInt8.toNat_lt _
theorem byte_back (c : Int) (h : 0 ≤ c ∧ c ≤ 255) : ((UInt8.ofNat c.toNat).toNat : Int) = c := by
  rw [UInt8.toNat_ofNat']
  omega
theorem bl_str (ds : List Int) (h : ∀ c ∈ ds, 0 ≤ c ∧ c ≤ 255) : bl (strOfNums ds) = ds := by
  unfold bl
  rw [strOfNums_data, List.map_map]
  conv => rhs; rw [← List.map_id ds]
  exact List.map_congr_left fun c hc => byte_back c (h c hc)
theorem str_bl (s : ByteArray) : strOfNums (bl s) = s := by
  apply ByteArray.ext
  apply Array.toList_inj.1
  rw [strOfNums_data]
  unfold bl
  rw [List.map_map]
  conv => rhs; rw [← List.map_id s.data.toList]
  apply List.map_congr_left
  intro c _
  simp
theorem str_eq (ds : List Int) (s : ByteArray) (h : ∀ c ∈ ds, 0 ≤ c ∧ c ≤ 255) : ((strOfNums ds).toList == s.toList) = decide (ds = bl s) := by
  rw [ByteArray.toList_eq, ByteArray.toList_eq]
  by_cases he : ds = bl s
  · rw [he, str_bl]; simp
  · have hne : ¬ (strOfNums ds).data.toList = s.data.toList := by
      intro h2
      apply he
      have : strOfNums ds = s := ByteArray.ext (Array.toList_inj.1 h2)
      rw [← this, bl_str ds h]
    simp only [he, decide_false, beq_eq_false_iff_ne, ne_eq]
    exact hne
theorem dgs_bytes (f n : Nat) (acc : List Int) (h : ∀ c ∈ acc, 0 ≤ c ∧ c ≤ 255) : ∀ c ∈ dgs f n acc, 0 ≤ c ∧ c ≤ 255 := by
  induction f generalizing n acc with
  | zero => simpa [dgs] using h
  | succ f ih =>
    by_cases h0 : n = 0
    · subst h0; rw [dgs_zero]; exact h
    · rw [dgs_step _ _ _ h0]
      apply ih
      intro c hc
      rcases List.mem_cons.1 hc with rfl | hc
      · omega
      · exact h c hc
theorem digs_bytes (n : Int) : ∀ c ∈ digs n, 0 ≤ c ∧ c ≤ 255 := by
  unfold digs
  split
  · intro c hc; simp at hc; omega
  · split
    · intro c hc
      rcases List.mem_cons.1 hc with rfl | hc
      · omega
      · exact dgs_bytes _ _ [] (by simp) c hc
    · exact dgs_bytes _ _ [] (by simp)

end Go.Proofs.Ytjlocbimkfocnaa

namespace Go.Proofs.Ytjlocbimkfocnaa
open Go.RowKit

def mtext (k : Nat) : List Int := if k = 0 then [109, 48] else 109 :: dgs 20 k []
set_option maxHeartbeats 2000000 in
set_option maxRecDepth 100000 in
theorem marktext_any (k : Nat) (w : World) (h2 : (k : Int) ≤ 1000000000000) :
    Calls Try.prog 119 #[.int .i64 k] w fun e w' => e = .returned (.string (strOfNums (mtext k))) ∧ Below w.heap.size w w' := by
  by_cases h0 : k = 0
  · subst h0
    have hd0 : decide ((0 : Int) ≤ 0) = true := rfl
    go_enter Try.func119, Try.ntmps119
    go_wp2
    go_ret
    exact ⟨rfl, Below.refl _ _⟩
  · have hd1 : decide ((k : Int) ≤ 0) = false := by simp; omega
    have HD := hide (show mtext k = 109 :: dgs 20 k [] by simp [mtext, h0])
    have hadd0 := fun (ds : List Int) (h : ds.length ≤ 20) wx => add_run (P := Try.prog) [109] ds (by simp) (by omega) wx
    have HA := hide hadd0
    clear hadd0
    go_enter Try.func119, Try.ntmps119
    go_wp2
    go_loopw [0, 3] (fun x v wr => ∃ (m f : Nat) (ds : List Int), x = .int .i64 m ∧ v = .string (strOfNums ds) ∧ ds.length + f ≤ 20 ∧ m < 10 ^ f ∧ (m : Int) ≤ 1000000000000 ∧ 109 :: dgs f m ds = mtext k ∧ Below w.heap.size w wr) (fun x _ _ => (intOf x).natAbs)
    case atStart => exact ⟨k, 20, [], rfl, rfl, by simp, by omega, h2, (unhide HD).symm, Below.refl _ _⟩
    case round =>
      obtain ⟨m, f, ds, rfl, rfl, hs, hm1, hm2, hdg, hb⟩ := hrel
      have HG := hide hdg
      have HM := hide hm1
      have HB := hide hb
      have hsz := hb.size
      clear hdg hm1 hb HD
      by_cases hm : m = 0
      · subst hm
        have e := unhide HG
        rw [dgs_zero] at e
        have E := hide e
        clear e HG
        have hadd := fun wx => unhide HA ds (by omega) wx
        have e45 : (⟨#[109]⟩ : ByteArray) = strOfNums [109] := rfl
        go_wp2
        go_ret
        exact ⟨by rw [← unhide E]; rfl, unhide HB⟩
      · have hmn : decide (0 < (m : Int)) = true := by simp; omega
        have hf : ∃ f', f = f' + 1 := by
          cases f with
          | zero => have := unhide HM; simp at this; exact absurd this hm
          | succ f' => exact ⟨f', rfl⟩
        obtain ⟨f', rfl⟩ := hf
        have hcv := fun x => conv_one wr x
        have hadd := fun x wx => add_run (P := Try.prog) [x] ds (by simp) (by omega) wx
        have HN := hide (show 109 :: dgs f' (m / 10) ((48 + (m : Int) % 10) :: ds) = mtext k by rw [← dgs_step f' m ds hm]; exact unhide HG)
        have HP := hide (pow_step f' m (unhide HM))
        clear HG HM HA
        go_wp2
        go_roundw
        case rel => exact ⟨m / 10, f', (48 + (m : Int) % 10) :: ds, by go_num, rfl, by simp; omega, unhide HP, by omega, unhide HN, (unhide HB).alloc hsz _⟩
        case measure => simp [intOf]; omega

end Go.Proofs.Ytjlocbimkfocnaa

namespace Go.Proofs.Ytjlocbimkfocnaa
open Go.RowKit

/-- The bytes of a number, seven bits a byte; the first word is how many bytes more there may be. -/
def putf : Nat → Nat → List Int
  | 0, n => [(n : Int)]
  | k + 1, n => if n < 128 then [(n : Int)] else ((n % 128 + 128 : Nat) : Int) :: putf k (n / 128)
def putN (n : Int) : List Int := if 0 ≤ n ∧ n ≤ 2147483647 then putf 4 n.toNat else []

theorem putf_small (k n : Nat) (h : n < 128) : putf k n = [(n : Int)] := by
  cases k with
  | zero => rfl
  | succ k => simp [putf, h]
theorem putf_length (k n : Nat) : (putf k n).length ≤ k + 1 := by
  induction k generalizing n with
  | zero => simp [putf]
  | succ k ih =>
    by_cases h : n < 128
    · simp [putf, h]
    · have := ih (n / 128)
      simp [putf, h]; omega
theorem putN_length (n : Int) : (putN n).length ≤ 5 := by
  unfold putN
  split
  · exact putf_length 4 _
  · simp

theorem pow_le (j m : Nat) (h : m < 128 ^ (5 - j)) : m < 34359738368 :=
  Nat.lt_of_lt_of_le h (Nat.le_trans (Nat.pow_le_pow_right (by omega) (by omega : 5 - j ≤ 5)) (by decide))
theorem step_lt (j m : Nat) (hj : j ≤ 4) (hm : m < 128 ^ (5 - j)) (h : 128 ≤ m) : j < 4 := by
  rcases Nat.lt_or_ge j 4 with h' | h'
  · exact h'
  · have e : 5 - j = 1 := by omega
    rw [e] at hm
    omega
theorem step_pow (j m : Nat) (hj : j < 4) (hm : m < 128 ^ (5 - j)) : m / 128 < 128 ^ (5 - (j + 1)) := by
  have e : 5 - j = (5 - (j + 1)) + 1 := by omega
  rw [e, Nat.pow_succ] at hm
  exact Nat.div_lt_of_lt_mul (by rw [Nat.mul_comm]; exact hm)
theorem step_put (j m : Nat) (ys zs : List Int) (hj : j < 4) (h : 128 ≤ m) (hys : ys ++ putf (4 - j) m = zs) : (ys ++ [((m % 128 + 128 : Nat) : Int)]) ++ putf (4 - (j + 1)) (m / 128) = zs := by
  have e : 4 - j = (4 - (j + 1)) + 1 := by omega
  rw [e] at hys
  have hlt : ¬ m < 128 := by omega
  simp only [putf, hlt, if_false] at hys
  simpa using hys

end Go.Proofs.Ytjlocbimkfocnaa

namespace Go.Proofs.Ytjlocbimkfocnaa
open Go.RowKit

def putT (l : List Int) : List Int := putN l.length ++ l

theorem strCells_bl (s : ByteArray) : Lib.strCells s = (bl s).map (Value.int .u8) := by
  unfold Lib.strCells bl
  rw [List.map_map]
  rfl
theorem below_bytesWorld (w : World) (e : TypeId) (s : ByteArray) : Below w.heap.size w (Lib.bytesWorld w e s) :=
  ⟨rfl, rfl, rfl, by rw [Lib.bytesWorld_size]; omega, fun k hk => Lib.bytesWorld_at_old w e s k hk⟩

end Go.Proofs.Ytjlocbimkfocnaa

namespace Go.Proofs.Ytjlocbimkfocnaa

theorem putf_bytes (k n : Nat) (h : n < 128 ^ (k + 1)) : ∀ z ∈ putf k n, 0 ≤ z ∧ z ≤ 255 := by
  induction k generalizing n with
  | zero => intro z hz; simp [putf] at hz; simp at h; omega
  | succ k ih =>
    by_cases hn : n < 128
    · rw [putf_small _ _ hn]; intro z hz; simp at hz; omega
    · have e : putf (k + 1) n = ((n % 128 + 128 : Nat) : Int) :: putf k (n / 128) := by simp [putf, hn]
      rw [e]
      intro z hz
      rcases List.mem_cons.1 hz with rfl | hz
      · omega
      · refine ih (n / 128) ?_ z hz
        rw [Nat.pow_succ] at h
        exact Nat.div_lt_of_lt_mul (by rw [Nat.mul_comm]; exact h)
theorem putN_bytes (n : Int) : ∀ z ∈ putN n, 0 ≤ z ∧ z ≤ 255 := by
  unfold putN
  split
  · exact putf_bytes 4 _ (by omega)
  · simp
theorem putf_ne (k n : Nat) : putf k n ≠ [] := by
  cases k with
  | zero => simp [putf]
  | succ k => by_cases h : n < 128 <;> simp [putf, h]
theorem putN_pos (n : Int) (h0 : 0 ≤ n) (h1 : n ≤ 2147483647) : 0 < (putN n).length := by
  rw [show putN n = putf 4 n.toNat by simp [putN, h0, h1]]
  exact List.length_pos_iff.2 (putf_ne _ _)
theorem bl_bytes (s : ByteArray) : ∀ z ∈ bl s, 0 ≤ z ∧ z ≤ 255 := by
  intro z hz
  unfold bl at hz
  obtain ⟨c, _, rfl⟩ := List.mem_map.1 hz
  have := c.toNat_lt
  omega
theorem putT_bytes (l : List Int) (h : ∀ z ∈ l, 0 ≤ z ∧ z ≤ 255) : ∀ z ∈ putT l, 0 ≤ z ∧ z ≤ 255 := by
  intro z hz
  unfold putT at hz
  rcases List.mem_append.1 hz with hz | hz
  · exact putN_bytes _ z hz
  · exact h z hz
end Go.Proofs.Ytjlocbimkfocnaa

namespace Go.Proofs.Ytjlocbimkfocnaa
open Go.RowKit

def ncBit (q : Nat) : Nat := if q % 2 = 1 then q / 2 ^^^ 3988292384 else q / 2
def ncIt : Nat → Nat → Nat
  | 0, q => q
  | n + 1, q => ncBit (ncIt n q)
def ncByte (q z : Nat) : Nat := ncIt 8 (q ^^^ z)

theorem xor_nat (a b : Nat) (ha : a < 9223372036854775808) (hb : b < 9223372036854775808) : bits .xor .i64 (a : Int) (b : Int) = ((a ^^^ b : Nat) : Int) := by
  have hx : a ^^^ b < 2 ^ 63 := Nat.xor_lt_two_pow (by omega) (by omega)
  have h1 : (BitVec.ofInt 64 (a : Int)).toNat = a := by
    rw [BitVec.ofInt_natCast, BitVec.toNat_ofNat]; exact Nat.mod_eq_of_lt (by omega)
  have h2 : (BitVec.ofInt 64 (b : Int)).toNat = b := by
    rw [BitVec.ofInt_natCast, BitVec.toNat_ofNat]; exact Nat.mod_eq_of_lt (by omega)
  show IntKind.i64.wrap ((BitVec.ofInt 64 (a : Int) ^^^ BitVec.ofInt 64 (b : Int)).toNat : Int) = _
  rw [BitVec.toNat_xor, h1, h2, IntKind.wrap_i64]
  omega
theorem ncBit_lt (q : Nat) (h : q < 2 ^ 32) : ncBit q < 2 ^ 32 := by
  unfold ncBit
  split
  · exact Nat.xor_lt_two_pow (by omega) (by decide)
  · omega
theorem ncIt_lt (n q : Nat) (h : q < 2 ^ 32) : ncIt n q < 2 ^ 32 := by
  induction n with
  | zero => exact h
  | succ n ih => exact ncBit_lt _ ih
theorem ncByte_lt (q z : Nat) (h : q < 2 ^ 32) (hz : z < 256) : ncByte q z < 2 ^ 32 := ncIt_lt 8 _ (Nat.xor_lt_two_pow h (by omega))
theorem crcBit_nat (q : Nat) (h : q < 2 ^ 32) : crcBit (q : Int) = (ncBit q : Int) := by
  unfold crcBit ncBit
  have hm : (q : Int).tmod 2 = ((q % 2 : Nat) : Int) := by rw [Int.tmod_eq_emod_of_nonneg (by omega)]; omega
  have hd : (q : Int).tdiv 2 = ((q / 2 : Nat) : Int) := by rw [Int.tdiv_eq_ediv_of_nonneg (by omega)]; omega
  have hw : wrap64 ((q / 2 : Nat) : Int) = ((q / 2 : Nat) : Int) := IntWalk.wrap64_in _ (by omega)
  rw [hm, hd, hw]
  by_cases ho : q % 2 = 1
  · rw [if_pos (by rw [ho]; rfl), if_pos ho]
    exact xor_nat (q / 2) 3988292384 (by omega) (by decide)
  · rw [if_neg (by simp; omega), if_neg ho]
theorem crcIt_nat (n q : Nat) (h : q < 2 ^ 32) : crcIt n (q : Int) = (ncIt n q : Int) := by
  induction n with
  | zero => rfl
  | succ n ih => show crcBit (crcIt n q) = _; rw [ih, crcBit_nat _ (ncIt_lt n q h)]; rfl
theorem crcByte_nat (q z : Nat) (h : q < 2 ^ 32) (hz : z < 256) : crcByte (q : Int) (z : Int) = (ncByte q z : Int) := by
  unfold crcByte
  rw [IntWalk.wrap64_in _ (by omega), xor_nat q z (by omega) (by omega), crcIt_nat _ _ (Nat.xor_lt_two_pow h (by omega))]
  rfl
theorem xor_cancel (a b c : Nat) (h : a ^^^ c = b ^^^ c) : a = b := by
  have := congrArg (fun x => x ^^^ c) h
  simpa [Nat.xor_assoc] using this
theorem ncBit_inj (a b : Nat) (ha : a < 2 ^ 32) (hb : b < 2 ^ 32) (h : ncBit a = ncBit b) : a = b := by
  have key : ∀ x y : Nat, x < 2 ^ 31 → y < 2 ^ 31 → x ^^^ 3988292384 ≠ y := by
    intro x y hx hy he
    have h1 : (x ^^^ 3988292384).testBit 31 = true := by
      rw [Nat.testBit_xor, Nat.testBit_lt_two_pow hx]; rfl
    rw [he, Nat.testBit_lt_two_pow hy] at h1
    exact absurd h1 (by decide)
  unfold ncBit at h
  by_cases h1 : a % 2 = 1
  · rw [if_pos h1] at h
    by_cases h2 : b % 2 = 1
    · rw [if_pos h2] at h
      have := xor_cancel _ _ _ h
      omega
    · rw [if_neg h2] at h
      exact absurd h (key _ _ (by omega) (by omega))
  · rw [if_neg h1] at h
    by_cases h2 : b % 2 = 1
    · rw [if_pos h2] at h
      exact absurd h.symm (key _ _ (by omega) (by omega))
    · rw [if_neg h2] at h
      omega
theorem ncIt_inj (n a b : Nat) (ha : a < 2 ^ 32) (hb : b < 2 ^ 32) (h : ncIt n a = ncIt n b) : a = b := by
  induction n with
  | zero => exact h
  | succ n ih => exact ih (ncBit_inj _ _ (ncIt_lt n a ha) (ncIt_lt n b hb) h)
def ncRun (q : Nat) (l : List Nat) : Nat := l.foldl ncByte q
theorem ncRun_lt (l : List Nat) (q : Nat) (h : q < 2 ^ 32) (hl : ∀ z ∈ l, z < 256) : ncRun q l < 2 ^ 32 := by
  induction l generalizing q with
  | nil => exact h
  | cons z l ih => exact ih _ (ncByte_lt q z h (hl z (by simp))) (fun y hy => hl y (by simp [hy]))
theorem ncRun_inj (l : List Nat) (a b : Nat) (ha : a < 2 ^ 32) (hb : b < 2 ^ 32) (hl : ∀ z ∈ l, z < 256) (h : ncRun a l = ncRun b l) : a = b := by
  induction l generalizing a b with
  | nil => exact h
  | cons z l ih =>
    have hz := hl z (by simp)
    have := ih _ _ (ncByte_lt a z ha hz) (ncByte_lt b z hb hz) (fun y hy => hl y (by simp [hy])) h
    have := ncIt_inj 8 _ _ (Nat.xor_lt_two_pow ha (by omega)) (Nat.xor_lt_two_pow hb (by omega)) this
    exact xor_cancel _ _ _ this
theorem crcRun_nat (l : List Int) (hl : ∀ z ∈ l, 0 ≤ z ∧ z ≤ 255) (q : Nat) (h : q < 2 ^ 32) : l.foldl crcByte (q : Int) = (ncRun q (l.map Int.toNat) : Int) := by
  induction l generalizing q with
  | nil => rfl
  | cons z l ih =>
    have hz := hl z (by simp)
    have e : (z : Int) = ((z.toNat : Nat) : Int) := by omega
    rw [List.foldl_cons]
    conv => lhs; arg 2; rw [e]
    rw [crcByte_nat q z.toNat h (by omega), ih (fun y hy => hl y (by simp [hy])) _ (ncByte_lt q _ h (by omega))]
    rfl
theorem crcOf_nat (l : List Int) (hl : ∀ z ∈ l, 0 ≤ z ∧ z ≤ 255) : crcOf l = ((ncRun 4294967295 (l.map Int.toNat) ^^^ 4294967295 : Nat) : Int) := by
  have hb : ∀ z ∈ l.map Int.toNat, z < 256 := by
    intro z hz
    obtain ⟨y, hy, rfl⟩ := List.mem_map.1 hz
    have := hl y hy
    omega
  have := ncRun_lt (l.map Int.toNat) 4294967295 (by decide) hb
  unfold crcOf crcRun
  rw [show (4294967295 : Int) = ((4294967295 : Nat) : Int) from rfl, crcRun_nat l hl _ (by decide)]
  exact xor_nat _ 4294967295 (by omega) (by decide)
theorem crcOf_nonneg (l : List Int) (hl : ∀ z ∈ l, 0 ≤ z ∧ z ≤ 255) : 0 ≤ crcOf l := by rw [crcOf_nat l hl]; omega
theorem crcOf_range (l : List Int) (hl : ∀ z ∈ l, 0 ≤ z ∧ z ≤ 255) : crcOf l ≤ 4294967295 := by
  rw [crcOf_nat l hl]
  have hb : ∀ z ∈ l.map Int.toNat, z < 256 := by
    intro z hz
    obtain ⟨y, hy, rfl⟩ := List.mem_map.1 hz
    have := hl y hy
    omega
  have := Nat.xor_lt_two_pow (ncRun_lt (l.map Int.toNat) 4294967295 (by decide) hb) (show 4294967295 < 2 ^ 32 by decide)
  omega
theorem crcOf_ne (A B : List Int) (y z : Int) (hl : ∀ x ∈ A ++ y :: B, 0 ≤ x ∧ x ≤ 255) (hl' : ∀ x ∈ A ++ z :: B, 0 ≤ x ∧ x ≤ 255) (hne : y ≠ z) : crcOf (A ++ y :: B) ≠ crcOf (A ++ z :: B) := by
  rw [crcOf_nat _ hl, crcOf_nat _ hl']
  intro h
  have h1 : ncRun 4294967295 ((A ++ y :: B).map Int.toNat) ^^^ 4294967295 = ncRun 4294967295 ((A ++ z :: B).map Int.toNat) ^^^ 4294967295 := by exact_mod_cast h
  have h2 := xor_cancel _ _ _ h1
  have hA : ∀ x ∈ A.map Int.toNat, x < 256 := by
    intro x hx
    obtain ⟨t, ht, rfl⟩ := List.mem_map.1 hx
    have := hl t (by simp [ht])
    omega
  have hB : ∀ x ∈ B.map Int.toNat, x < 256 := by
    intro x hx
    obtain ⟨t, ht, rfl⟩ := List.mem_map.1 hx
    have := hl t (by simp [ht])
    omega
  have hy := hl y (by simp)
  have hz := hl' z (by simp)
  have hq := ncRun_lt (A.map Int.toNat) 4294967295 (by decide) hA
  simp only [List.map_append, List.map_cons, ncRun, List.foldl_append, List.foldl_cons] at h2
  have h3 := ncRun_inj (B.map Int.toNat) _ _ (ncByte_lt _ y.toNat hq (by omega)) (ncByte_lt _ z.toNat hq (by omega)) hB h2
  have h4 := ncIt_inj 8 _ _ (Nat.xor_lt_two_pow hq (by omega)) (Nat.xor_lt_two_pow hq (by omega)) h3
  rw [Nat.xor_comm _ y.toNat, Nat.xor_comm _ z.toNat] at h4
  have h5 := xor_cancel _ _ _ h4
  omega

/-- A byte that is raised by 1 to 255 is another byte. -/
theorem new_byte (z t : Int) (_hz0 : 0 ≤ z) (_hz1 : z ≤ 255) (ht0 : 0 ≤ t) : ∃ y, IntKind.u8.wrap (z + IntKind.u8.wrap (IntKind.i64.wrap (1 + t.tmod 255))) = y ∧ 0 ≤ y ∧ y ≤ 255 ∧ y ≠ z := by
  refine ⟨_, rfl, ?_⟩
  rw [Int.tmod_eq_emod_of_nonneg ht0]
  have h := Int.emod_nonneg t (show (255 : Int) ≠ 0 by decide)
  have h' := Int.emod_lt_of_pos t (show (0 : Int) < 255 by decide)
  generalize t % 255 = r at h h'
  rw [IntKind.wrap_i64, IntKind.wrap_u8, IntKind.wrap_u8]
  omega
end Go.Proofs.Ytjlocbimkfocnaa
