/-
  Decimal digits as a function on lists ('dgs', 'digs'), and two laws of the walk for texts that are put together of bytes. No statement is proved here.
  Texts as lists of bytes ('bl'), and back ('strOfNums'). No statement is proved here.
  The laws' 'markText': a text of its own for each number. No statement is proved here.
-/
import Derived.Test.YtbajnnpihjmjmaaBase
import Derived.Laws.BytesArg
import Derived.Laws.Concat
import Derived.WalkLawsBesides
import Derived.BigQuiet
import Derived.Deep.QuietTactic
import Derived.Deep.RegionWith
namespace Go.Proofs.Ytbajnnpihjmjmaa
open Go.RowKit

def dgs : Nat → Nat → List Int → List Int
  | 0, _, acc => acc
  | f + 1, n, acc => if n = 0 then acc else dgs f (n / 10) ((48 + (n : Int) % 10) :: acc)
def digs (n : Int) : List Int := if n = 0 then [48] else if n < 0 then 45 :: dgs 20 n.natAbs [] else dgs 20 n.natAbs []

theorem dgs_zero (f : Nat) (acc : List Int) : dgs f 0 acc = acc := by cases f <;> simp [dgs]
theorem dgs_step (f n : Nat) (acc : List Int) (h : n ≠ 0) : dgs (f + 1) n acc = dgs f (n / 10) ((48 + (n : Int) % 10) :: acc) := by simp [dgs, h]
theorem dgs_length (f n : Nat) (acc : List Int) : (dgs f n acc).length ≤ f + acc.length := by
  induction f generalizing n acc with
  | zero => simp [dgs]
  | succ f ih =>
    by_cases h : n = 0
    · subst h; rw [dgs_zero]; omega
    · rw [dgs_step f n acc h]
      have := ih (n / 10) ((48 + (n : Int) % 10) :: acc)
      simp at this; omega
theorem digs_length (n : Int) : (digs n).length ≤ 21 := by
  unfold digs
  have := dgs_length 20 n.natAbs []
  simp at this
  split
  · simp
  · split
    · simp; omega
    · omega
theorem str_append (xs ys : List Int) : strOfNums xs ++ strOfNums ys = strOfNums (xs ++ ys) := by
  unfold strOfNums
  rw [ByteArray.mk_append_mk]; simp
theorem add_run {P : Program} (xs ys : List Int) (hx : xs.length ≤ 1000000) (hy : ys.length ≤ 1000000) (w : World) : (Op.stringOp .add (strOfNums xs) (strOfNums ys)).run P w = .ok (.string (strOfNums (xs ++ ys))) w := by
  rw [run_string_add_sum w _ _ (by rw [strOfNums_size, strOfNums_size]; omega), str_append]
theorem pow_step (f n : Nat) (h : n < 10 ^ (f + 1)) : n / 10 < 10 ^ f := by
  rw [Nat.pow_succ] at h
  exact Nat.div_lt_of_lt_mul (by rw [Nat.mul_comm]; exact h)
theorem conv_one (wr : World) (x : Int) : (convert 22 9 (.slice (some ⟨wr.heap.size, 0, none⟩) 1 1)).run Try.prog (wr.alloc (.cells #[.int .u8 x] 5)) = .ok (.string (strOfNums [x])) (wr.alloc (.cells #[.int .u8 x] 5)) :=
  run_convert_bytes_arg (P := Try.prog) _ 22 5 Try.underlying22 Try.underlying5 wr.heap.size 0 1 1 [x] rfl (fun i hi => by
    have h0 : i = 0 := by omega
    subst h0
    simp) 9 Try.underlying9

end Go.Proofs.Ytbajnnpihjmjmaa

namespace Go.Proofs.Ytbajnnpihjmjmaa
open Go.RowKit

def bl (s : ByteArray) : List Int := s.data.toList.map fun c => (c.toNat : Int)
theorem bl_length (s : ByteArray) : (bl s).length = s.size := by
  unfold bl
  rw [List.length_map]
  rfl
theorem bl_drop (s : ByteArray) (k z : Nat) (h : k < s.size) (hz : s[k].toNat = z) : (bl s).drop k = (z : Int) :: (bl s).drop (k + 1) := by
  subst hz
  unfold bl
  rw [← List.map_drop, ← List.map_drop, List.drop_eq_getElem_cons (show k < s.data.toList.length from h)]
  rfl

theorem isEmpty_of {s : ByteArray} (h : s.size = 0) : s.toList.isEmpty = true := by
  rw [ByteArray.toList_eq, List.isEmpty_iff]
  exact List.eq_nil_of_length_eq_zero h
theorem isEmpty_not {s : ByteArray} (h : ¬ s.size = 0) : s.toList.isEmpty = false := by
  rw [ByteArray.toList_eq]
  cases he : s.data.toList with
  | nil => exact absurd (show s.data.toList.length = 0 by rw [he]; rfl) h
  | cons c r => rfl
theorem byte_lt (s : ByteArray) (k z : Nat) (h : k < s.size) (hz : s[k].toNat = z) : z < 256 := by rw [← hz]; exact UInt8.toNat_lt _
theorem byte_back (c : Int) (h : 0 ≤ c ∧ c ≤ 255) : ((UInt8.ofNat c.toNat).toNat : Int) = c := by
  rw [UInt8.toNat_ofNat']
  omega
theorem bl_str (ds : List Int) (h : ∀ c ∈ ds, 0 ≤ c ∧ c ≤ 255) : bl (strOfNums ds) = ds := by
  unfold bl
  rw [strOfNums_data, List.map_map]
  conv => rhs; rw [← List.map_id ds]
  exact List.map_congr_left fun c hc => byte_back c (h c hc)
theorem str_bl (s : ByteArray) : strOfNums (bl s) = s := by
  apply ByteArray.ext
  apply Array.toList_inj.1
  rw [strOfNums_data]
  unfold bl
  rw [List.map_map]
  conv => rhs; rw [← List.map_id s.data.toList]
  apply List.map_congr_left
  intro c _
  simp
theorem str_eq (ds : List Int) (s : ByteArray) (h : ∀ c ∈ ds, 0 ≤ c ∧ c ≤ 255) : ((strOfNums ds).toList == s.toList) = decide (ds = bl s) := by
  rw [ByteArray.toList_eq, ByteArray.toList_eq]
  by_cases he : ds = bl s
  · rw [he, str_bl]; simp
  · have hne : ¬ (strOfNums ds).data.toList = s.data.toList := by
      intro h2
      apply he
      have : strOfNums ds = s := ByteArray.ext (Array.toList_inj.1 h2)
      rw [← this, bl_str ds h]
    simp only [he, decide_false, beq_eq_false_iff_ne, ne_eq]
    exact hne
theorem dgs_bytes (f n : Nat) (acc : List Int) (h : ∀ c ∈ acc, 0 ≤ c ∧ c ≤ 255) : ∀ c ∈ dgs f n acc, 0 ≤ c ∧ c ≤ 255 := by
  induction f generalizing n acc with
  | zero => simpa [dgs] using h
  | succ f ih =>
    by_cases h0 : n = 0
    · subst h0; rw [dgs_zero]; exact h
    · rw [dgs_step _ _ _ h0]
      apply ih
      intro c hc
      rcases List.mem_cons.1 hc with rfl | hc
      · omega
      · exact h c hc
theorem digs_bytes (n : Int) : ∀ c ∈ digs n, 0 ≤ c ∧ c ≤ 255 := by
  unfold digs
  split
  · intro c hc; simp at hc; omega
  · split
    · intro c hc
      rcases List.mem_cons.1 hc with rfl | hc
      · omega
      · exact dgs_bytes _ _ [] (by simp) c hc
    · exact dgs_bytes _ _ [] (by simp)

end Go.Proofs.Ytbajnnpihjmjmaa

namespace Go.Proofs.Ytbajnnpihjmjmaa
open Go.RowKit

def mtext (k : Nat) : List Int := if k = 0 then [109, 48] else 109 :: dgs 20 k []
set_option maxHeartbeats 2000000 in
set_option maxRecDepth 100000 in
theorem marktext_any (k : Nat) (w : World) (h2 : (k : Int) ≤ 1000000000000) :
    Calls Try.prog 121 #[.int .i64 k] w fun e w' => e = .returned (.string (strOfNums (mtext k))) ∧ Below w.heap.size w w' := by
  by_cases h0 : k = 0
  · subst h0
    have hd0 : decide ((0 : Int) ≤ 0) = true := rfl
    go_enter Try.func121, Try.ntmps121
    go_wp2
    go_ret
    exact ⟨rfl, Below.refl _ _⟩
  · have hd1 : decide ((k : Int) ≤ 0) = false := by simp; omega
    have HD := hide (show mtext k = 109 :: dgs 20 k [] by simp [mtext, h0])
    have hadd0 := fun (ds : List Int) (h : ds.length ≤ 20) wx => add_run (P := Try.prog) [109] ds (by simp) (by omega) wx
    have HA := hide hadd0
    clear hadd0
    go_enter Try.func121, Try.ntmps121
    go_wp2
    go_loopw [0, 3] (fun x v wr => ∃ (m f : Nat) (ds : List Int), x = .int .i64 m ∧ v = .string (strOfNums ds) ∧ ds.length + f ≤ 20 ∧ m < 10 ^ f ∧ (m : Int) ≤ 1000000000000 ∧ 109 :: dgs f m ds = mtext k ∧ Below w.heap.size w wr) (fun x _ _ => (intOf x).natAbs)
    case atStart => exact ⟨k, 20, [], rfl, rfl, by simp, by omega, h2, (unhide HD).symm, Below.refl _ _⟩
    case round =>
      obtain ⟨m, f, ds, rfl, rfl, hs, hm1, hm2, hdg, hb⟩ := hrel
      have HG := hide hdg
      have HM := hide hm1
      have HB := hide hb
      have hsz := hb.size
      clear hdg hm1 hb HD
      by_cases hm : m = 0
      · subst hm
        have e := unhide HG
        rw [dgs_zero] at e
        have E := hide e
        clear e HG
        have hadd := fun wx => unhide HA ds (by omega) wx
        have e45 : (⟨#[109]⟩ : ByteArray) = strOfNums [109] := rfl
        go_wp2
        go_ret
        exact ⟨by rw [← unhide E]; rfl, unhide HB⟩
      · have hmn : decide (0 < (m : Int)) = true := by simp; omega
        have hf : ∃ f', f = f' + 1 := by
          cases f with
          | zero => have := unhide HM; simp at this; exact absurd this hm
          | succ f' => exact ⟨f', rfl⟩
        obtain ⟨f', rfl⟩ := hf
        have hcv := fun x => conv_one wr x
        have hadd := fun x wx => add_run (P := Try.prog) [x] ds (by simp) (by omega) wx
        have HN := hide (show 109 :: dgs f' (m / 10) ((48 + (m : Int) % 10) :: ds) = mtext k by rw [← dgs_step f' m ds hm]; exact unhide HG)
        have HP := hide (pow_step f' m (unhide HM))
        clear HG HM HA
        go_wp2
        go_roundw
        case rel => exact ⟨m / 10, f', (48 + (m : Int) % 10) :: ds, by go_num, rfl, by simp; omega, unhide HP, by omega, unhide HN, (unhide HB).alloc hsz _⟩
        case measure => simp [intOf]; omega

end Go.Proofs.Ytbajnnpihjmjmaa
