/-
  The bytes of a number as a function on lists ('putN'). No statement is proved here.
  Decimal digits as a function on lists ('dgs', 'digs'), and two laws of the walk for texts that are put together of bytes. No statement is proved here.
  Texts as lists of bytes ('bl'), and back ('strOfNums'). No statement is proved here.
  The bytes of a text as a function on lists ('putT'). No statement is proved here.
  Numbers and texts as bytes, each within its bounds: plain lists. No program; no statement is proved here.
-/
import Derived.Test.YtohfbahfnbganaaGreatBase
import Derived.Laws.BytesArg
import Derived.Laws.Concat
import Derived.WalkLawsBesides
import Derived.Lib.AppendStr
import Derived.Lib.ConvBytes
namespace Go.Proofs.YtohfbahfnbganaaGreat
open Go.RowKit

/-- The bytes of a number, seven bits a byte; the first word is how many bytes more there may be. -/
def putf : Nat → Nat → List Int
  | 0, n => [(n : Int)]
  | k + 1, n => if n < 128 then [(n : Int)] else ((n % 128 + 128 : Nat) : Int) :: putf k (n / 128)
def putN (n : Int) : List Int := if 0 ≤ n ∧ n ≤ 2147483647 then putf 4 n.toNat else []

theorem putf_small (k n : Nat) (h : n < 128) : putf k n = [(n : Int)] := by
  cases k with
  | zero => rfl
  | succ k => simp [putf, h]
theorem putf_length (k n : Nat) : (putf k n).length ≤ k + 1 := by
  induction k generalizing n with
  | zero => simp [putf]
  | succ k ih =>
    by_cases h : n < 128
    · simp [putf, h]
    · have := ih (n / 128)
      simp [putf, h]; omega
theorem putN_length (n : Int) : (putN n).length ≤ 5 := by
  unfold putN
  split
  · exact putf_length 4 _
  · simp

theorem pow_le (j m : Nat) (h : m < 128 ^ (5 - j)) : m < 34359738368 :=
  Nat.lt_of_lt_of_le h (Nat.le_trans (Nat.pow_le_pow_right (by omega) (by omega : 5 - j ≤ 5)) (by decide))
theorem step_lt (j m : Nat) (hj : j ≤ 4) (hm : m < 128 ^ (5 - j)) (h : 128 ≤ m) : j < 4 := by
  rcases Nat.lt_or_ge j 4 with h' | h'
  · exact h'
  · have e : 5 - j = 1 := by omega
    rw [e] at hm
    omega
theorem step_pow (j m : Nat) (hj : j < 4) (hm : m < 128 ^ (5 - j)) : m / 128 < 128 ^ (5 - (j + 1)) := by
  have e : 5 - j = (5 - (j + 1)) + 1 := by omega
  rw [e, Nat.pow_succ] at hm
  exact Nat.div_lt_of_lt_mul (by rw [Nat.mul_comm]; exact hm)
theorem step_put (j m : Nat) (ys zs : List Int) (hj : j < 4) (h : 128 ≤ m) (hys : ys ++ putf (4 - j) m = zs) : (ys ++ [((m % 128 + 128 : Nat) : Int)]) ++ putf (4 - (j + 1)) (m / 128) = zs := by
  have e : 4 - j = (4 - (j + 1)) + 1 := by omega
  rw [e] at hys
  have hlt : ¬ m < 128 := by omega
  simp only [putf, hlt, if_false] at hys
  simpa using hys

end Go.Proofs.YtohfbahfnbganaaGreat

namespace Go.Proofs.YtohfbahfnbganaaGreat
open Go.RowKit

def dgs : Nat → Nat → List Int → List Int
  | 0, _, acc => acc
  | f + 1, n, acc => if n = 0 then acc else dgs f (n / 10) ((48 + (n : Int) % 10) :: acc)
def digs (n : Int) : List Int := if n = 0 then [48] else if n < 0 then 45 :: dgs 20 n.natAbs [] else dgs 20 n.natAbs []

theorem dgs_zero (f : Nat) (acc : List Int) : dgs f 0 acc = acc := by cases f <;> simp [dgs]
theorem dgs_step (f n : Nat) (acc : List Int) (h : n ≠ 0) : dgs (f + 1) n acc = dgs f (n / 10) ((48 + (n : Int) % 10) :: acc) := by simp [dgs, h]
theorem dgs_length (f n : Nat) (acc : List Int) : (dgs f n acc).length ≤ f + acc.length := by
  induction f generalizing n acc with
  | zero => simp [dgs]
  | succ f ih =>
    by_cases h : n = 0
    · subst h; rw [dgs_zero]; omega
    · rw [dgs_step f n acc h]
      have := ih (n / 10) ((48 + (n : Int) % 10) :: acc)
      simp at this; omega
theorem digs_length (n : Int) : (digs n).length ≤ 21 := by
  unfold digs
  have := dgs_length 20 n.natAbs []
  simp at this
  split
  · simp
  · split
    · simp; omega
    · omega
theorem str_append (xs ys : List Int) : strOfNums xs ++ strOfNums ys = strOfNums (xs ++ ys) := by
  unfold strOfNums
  rw [ByteArray.mk_append_mk]; simp
theorem add_run {P : Program} (xs ys : List Int) (hx : xs.length ≤ 1000000) (hy : ys.length ≤ 1000000) (w : World) : (Op.stringOp .add (strOfNums xs) (strOfNums ys)).run P w = .ok (.string (strOfNums (xs ++ ys))) w := by
  rw [run_string_add_sum w _ _ (by rw [strOfNums_size, strOfNums_size]; omega), str_append]
theorem pow_step (f n : Nat) (h : n < 10 ^ (f + 1)) : n / 10 < 10 ^ f := by
  rw [Nat.pow_succ] at h
  exact Nat.div_lt_of_lt_mul (by rw [Nat.mul_comm]; exact h)
theorem conv_one (wr : World) (x : Int) : (convert 22 9 (.slice (some ⟨wr.heap.size, 0, none⟩) 1 1)).run Tryz.prog (wr.alloc (.cells #[.int .u8 x] 5)) = .ok (.string (strOfNums [x])) (wr.alloc (.cells #[.int .u8 x] 5)) :=
  run_convert_bytes_arg (P := Tryz.prog) _ 22 5 Tryz.underlying22 Tryz.underlying5 wr.heap.size 0 1 1 [x] rfl (fun i hi => by
    have h0 : i = 0 := by omega
    subst h0
    simp) 9 Tryz.underlying9

end Go.Proofs.YtohfbahfnbganaaGreat

namespace Go.Proofs.YtohfbahfnbganaaGreat
open Go.RowKit

def bl (s : ByteArray) : List Int := s.data.toList.map fun c => (c.toNat : Int)
theorem bl_length (s : ByteArray) : (bl s).length = s.size := by
  unfold bl
  rw [List.length_map]
  rfl
theorem bl_drop (s : ByteArray) (k z : Nat) (h : k < s.size) (hz : s[k].toNat = z) : (bl s).drop k = (z : Int) :: (bl s).drop (k + 1) := by
  subst hz
  unfold bl
  rw [← List.map_drop, ← List.map_drop, List.drop_eq_getElem_cons (show k < s.data.toList.length from h)]
  rfl

theorem isEmpty_of {s : ByteArray} (h : s.size = 0) : s.toList.isEmpty = true := by
  rw [ByteArray.toList_eq, List.isEmpty_iff]
  exact List.eq_nil_of_length_eq_zero h
theorem isEmpty_not {s : ByteArray} (h : ¬ s.size = 0) : s.toList.isEmpty = false := by
  rw [ByteArray.toList_eq]
  cases he : s.data.toList with
  | nil => exact absurd (show s.data.toList.length = 0 by rw [he]; rfl) h
  | cons c r => rfl
theorem byte_lt (s : ByteArray) (k z : Nat) (h : k < s.size) (hz : s[k].toNat = z) : z < 256 := by rw [← hz]; exact UInt8.toNat_lt _
theorem byte_back (c : Int) (h : 0 ≤ c ∧ c ≤ 255) : ((UInt8.ofNat c.toNat).toNat : Int) = c := by
  rw [UInt8.toNat_ofNat']
  omega
theorem bl_str (ds : List Int) (h : ∀ c ∈ ds, 0 ≤ c ∧ c ≤ 255) : bl (strOfNums ds) = ds := by
  unfold bl
  rw [strOfNums_data, List.map_map]
  conv => rhs; rw [← List.map_id ds]
  exact List.map_congr_left fun c hc => byte_back c (h c hc)
theorem str_bl (s : ByteArray) : strOfNums (bl s) = s := by
  apply ByteArray.ext
  apply Array.toList_inj.1
  rw [strOfNums_data]
  unfold bl
  rw [List.map_map]
  conv => rhs; rw [← List.map_id s.data.toList]
  apply List.map_congr_left
  intro c _
  simp
theorem str_eq (ds : List Int) (s : ByteArray) (h : ∀ c ∈ ds, 0 ≤ c ∧ c ≤ 255) : ((strOfNums ds).toList == s.toList) = decide (ds = bl s) := by
  rw [ByteArray.toList_eq, ByteArray.toList_eq]
  by_cases he : ds = bl s
  · rw [he, str_bl]; simp
  · have hne : ¬ (strOfNums ds).data.toList = s.data.toList := by
      intro h2
      apply he
      have : strOfNums ds = s := ByteArray.ext (Array.toList_inj.1 h2)
      rw [← this, bl_str ds h]
    simp only [he, decide_false, beq_eq_false_iff_ne, ne_eq]
    exact hne
theorem dgs_bytes (f n : Nat) (acc : List Int) (h : ∀ c ∈ acc, 0 ≤ c ∧ c ≤ 255) : ∀ c ∈ dgs f n acc, 0 ≤ c ∧ c ≤ 255 := by
  induction f generalizing n acc with
  | zero => simpa [dgs] using h
  | succ f ih =>
    by_cases h0 : n = 0
    · subst h0; rw [dgs_zero]; exact h
    · rw [dgs_step _ _ _ h0]
      apply ih
      intro c hc
      rcases List.mem_cons.1 hc with rfl | hc
      · omega
      · exact h c hc
theorem digs_bytes (n : Int) : ∀ c ∈ digs n, 0 ≤ c ∧ c ≤ 255 := by
  unfold digs
  split
  · intro c hc; simp at hc; omega
  · split
    · intro c hc
      rcases List.mem_cons.1 hc with rfl | hc
      · omega
      · exact dgs_bytes _ _ [] (by simp) c hc
    · exact dgs_bytes _ _ [] (by simp)

end Go.Proofs.YtohfbahfnbganaaGreat

namespace Go.Proofs.YtohfbahfnbganaaGreat
open Go.RowKit

def putT (l : List Int) : List Int := putN l.length ++ l

theorem strCells_bl (s : ByteArray) : Lib.strCells s = (bl s).map (Value.int .u8) := by
  unfold Lib.strCells bl
  rw [List.map_map]
  rfl
theorem below_bytesWorld (w : World) (e : TypeId) (s : ByteArray) : Below w.heap.size w (Lib.bytesWorld w e s) :=
  ⟨rfl, rfl, rfl, by rw [Lib.bytesWorld_size]; omega, fun k hk => Lib.bytesWorld_at_old w e s k hk⟩

end Go.Proofs.YtohfbahfnbganaaGreat

namespace Go.Proofs.YtohfbahfnbganaaGreat

theorem putf_bytes (k n : Nat) (h : n < 128 ^ (k + 1)) : ∀ z ∈ putf k n, 0 ≤ z ∧ z ≤ 255 := by
  induction k generalizing n with
  | zero => intro z hz; simp [putf] at hz; simp at h; omega
  | succ k ih =>
    by_cases hn : n < 128
    · rw [putf_small _ _ hn]; intro z hz; simp at hz; omega
    · have e : putf (k + 1) n = ((n % 128 + 128 : Nat) : Int) :: putf k (n / 128) := by simp [putf, hn]
      rw [e]
      intro z hz
      rcases List.mem_cons.1 hz with rfl | hz
      · omega
      · refine ih (n / 128) ?_ z hz
        rw [Nat.pow_succ] at h
        exact Nat.div_lt_of_lt_mul (by rw [Nat.mul_comm]; exact h)
theorem putN_bytes (n : Int) : ∀ z ∈ putN n, 0 ≤ z ∧ z ≤ 255 := by
  unfold putN
  split
  · exact putf_bytes 4 _ (by omega)
  · simp
theorem putf_ne (k n : Nat) : putf k n ≠ [] := by
  cases k with
  | zero => simp [putf]
  | succ k => by_cases h : n < 128 <;> simp [putf, h]
theorem putN_pos (n : Int) (h0 : 0 ≤ n) (h1 : n ≤ 2147483647) : 0 < (putN n).length := by
  rw [show putN n = putf 4 n.toNat by simp [putN, h0, h1]]
  exact List.length_pos_iff.2 (putf_ne _ _)
theorem bl_bytes (s : ByteArray) : ∀ z ∈ bl s, 0 ≤ z ∧ z ≤ 255 := by
  intro z hz
  unfold bl at hz
  obtain ⟨c, _, rfl⟩ := List.mem_map.1 hz
  have := c.toNat_lt
  omega
theorem putT_bytes (l : List Int) (h : ∀ z ∈ l, 0 ≤ z ∧ z ≤ 255) : ∀ z ∈ putT l, 0 ≤ z ∧ z ≤ 255 := by
  intro z hz
  unfold putT at hz
  rcases List.mem_append.1 hz with hz | hz
  · exact putN_bytes _ z hz
  · exact h z hz
end Go.Proofs.YtohfbahfnbganaaGreat
