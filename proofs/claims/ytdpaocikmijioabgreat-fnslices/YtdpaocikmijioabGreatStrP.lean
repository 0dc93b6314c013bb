/-
  Texts as lists of bytes ('bl'), and back ('strOfNums'). No statement is proved here.
-/
import Derived.Test.YtdpaocikmijioabGreatDigP
import Derived.WalkLawsBesides
namespace Go.Proofs.YtdpaocikmijioabGreat
open Go.RowKit

def bl (s : ByteArray) : List Int := s.data.toList.map fun c => (c.toNat : Int)
theorem bl_length (s : ByteArray) : (bl s).length = s.size := by
  unfold bl
  rw [List.length_map]
  rfl
theorem bl_drop (s : ByteArray) (k z : Nat) (h : k < s.size) (hz : s[k].toNat = z) : (bl s).drop k = (z : Int) :: (bl s).drop (k + 1) := by
  subst hz
  unfold bl
  rw [← List.map_drop, ← List.map_drop, List.drop_eq_getElem_cons (show k < s.data.toList.length from h)]
  rfl

theorem isEmpty_of {s : ByteArray} (h : s.size = 0) : s.toList.isEmpty = true := by
  rw [ByteArray.toList_eq, List.isEmpty_iff]
  exact List.eq_nil_of_length_eq_zero h
theorem isEmpty_not {s : ByteArray} (h : ¬ s.size = 0) : s.toList.isEmpty = false := by
  rw [ByteArray.toList_eq]
  cases he : s.data.toList with
  | nil => exact absurd (show s.data.toList.length = 0 by rw [he]; rfl) h
  | cons c r => rfl
theorem byte_lt (s : ByteArray) (k z : Nat) (h : k < s.size) (hz : s[k].toNat = z) : z < 256 := by rw [← hz]; exact UInt8.toNat_lt _
theorem byte_back (c : Int) (h : 0 ≤ c ∧ c ≤ 255) : ((UInt8.ofNat c.toNat).toNat : Int) = c := by
  rw [UInt8.toNat_ofNat']
  omega
theorem bl_str (ds : List Int) (h : ∀ c ∈ ds, 0 ≤ c ∧ c ≤ 255) : bl (strOfNums ds) = ds := by
  unfold bl
  rw [strOfNums_data, List.map_map]
  conv => rhs; rw [← List.map_id ds]
  exact List.map_congr_left fun c hc => byte_back c (h c hc)
theorem str_bl (s : ByteArray) : strOfNums (bl s) = s := by
  apply ByteArray.ext
  apply Array.toList_inj.1
  rw [strOfNums_data]
  unfold bl
  rw [List.map_map]
  conv => rhs; rw [← List.map_id s.data.toList]
  apply List.map_congr_left
  intro c _
  simp
theorem str_eq (ds : List Int) (s : ByteArray) (h : ∀ c ∈ ds, 0 ≤ c ∧ c ≤ 255) : ((strOfNums ds).toList == s.toList) = decide (ds = bl s) := by
  rw [ByteArray.toList_eq, ByteArray.toList_eq]
  by_cases he : ds = bl s
  · rw [he, str_bl]; simp
  · have hne : ¬ (strOfNums ds).data.toList = s.data.toList := by
      intro h2
      apply he
      have : strOfNums ds = s := ByteArray.ext (Array.toList_inj.1 h2)
      rw [← this, bl_str ds h]
    simp only [he, decide_false, beq_eq_false_iff_ne, ne_eq]
    exact hne
theorem dgs_bytes (f n : Nat) (acc : List Int) (h : ∀ c ∈ acc, 0 ≤ c ∧ c ≤ 255) : ∀ c ∈ dgs f n acc, 0 ≤ c ∧ c ≤ 255 := by
  induction f generalizing n acc with
  | zero => simpa [dgs] using h
  | succ f ih =>
    by_cases h0 : n = 0
    · subst h0; rw [dgs_zero]; exact h
    · rw [dgs_step _ _ _ h0]
      apply ih
      intro c hc
      rcases List.mem_cons.1 hc with rfl | hc
      · omega
      · exact h c hc
theorem digs_bytes (n : Int) : ∀ c ∈ digs n, 0 ≤ c ∧ c ≤ 255 := by
  unfold digs
  split
  · intro c hc; simp at hc; omega
  · split
    · intro c hc
      rcases List.mem_cons.1 hc with rfl | hc
      · omega
      · exact dgs_bytes _ _ [] (by simp) c hc
    · exact dgs_bytes _ _ [] (by simp)

end Go.Proofs.YtdpaocikmijioabGreat
