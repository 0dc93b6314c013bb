/-
  The laws' 'markText': a text of its own for each number. No statement is proved here.
-/
import Derived.Test.YtnalnjokijbhbabStrP
import Derived.BigQuiet
import Derived.Deep.QuietTactic
import Derived.Deep.RegionWith
namespace Go.Proofs.Ytnalnjokijbhbab
open Go.RowKit

def mtext (k : Nat) : List Int := if k = 0 then [109, 48] else 109 :: dgs 20 k []
set_option maxHeartbeats 2000000 in
set_option maxRecDepth 100000 in
theorem marktext_any (k : Nat) (w : World) (h2 : (k : Int) ≤ 1000000000000) :
    Calls Try.prog 64 #[.int .i64 k] w fun e w' => e = .returned (.string (strOfNums (mtext k))) ∧ Below w.heap.size w w' := by
  by_cases h0 : k = 0
  · subst h0
    have hd0 : decide ((0 : Int) ≤ 0) = true := rfl
    go_enter Try.func64, Try.ntmps64
    go_wp2
    go_ret
    exact ⟨rfl, Below.refl _ _⟩
  · have hd1 : decide ((k : Int) ≤ 0) = false := by simp; omega
    have HD := hide (show mtext k = 109 :: dgs 20 k [] by simp [mtext, h0])
    have hadd0 := fun (ds : List Int) (h : ds.length ≤ 20) wx => add_run (P := Try.prog) [109] ds (by simp) (by omega) wx
    have HA := hide hadd0
    clear hadd0
    go_enter Try.func64, Try.ntmps64
    go_wp2
    go_loopw [0, 3] (fun x v wr => ∃ (m f : Nat) (ds : List Int), x = .int .i64 m ∧ v = .string (strOfNums ds) ∧ ds.length + f ≤ 20 ∧ m < 10 ^ f ∧ (m : Int) ≤ 1000000000000 ∧ 109 :: dgs f m ds = mtext k ∧ Below w.heap.size w wr) (fun x _ _ => (intOf x).natAbs)
    case atStart => exact ⟨k, 20, [], rfl, rfl, by simp, by omega, h2, (unhide HD).symm, Below.refl _ _⟩
    case round =>
      obtain ⟨m, f, ds, rfl, rfl, hs, hm1, hm2, hdg, hb⟩ := hrel
      have HG := hide hdg
      have HM := hide hm1
      have HB := hide hb
      have hsz := hb.size
      clear hdg hm1 hb HD
      by_cases hm : m = 0
      · subst hm
        have e := unhide HG
        rw [dgs_zero] at e
        have E := hide e
        clear e HG
        have hadd := fun wx => unhide HA ds (by omega) wx
        have e45 : (⟨#[109]⟩ : ByteArray) = strOfNums [109] := rfl
        go_wp2
        go_ret
        exact ⟨by rw [← unhide E]; rfl, unhide HB⟩
      · have hmn : decide (0 < (m : Int)) = true := by simp; omega
        have hf : ∃ f', f = f' + 1 := by
          cases f with
          | zero => have := unhide HM; simp at this; exact absurd this hm
          | succ f' => exact ⟨f', rfl⟩
        obtain ⟨f', rfl⟩ := hf
        have hcv := fun x => conv_one wr x
        have hadd := fun x wx => add_run (P := Try.prog) [x] ds (by simp) (by omega) wx
        have HN := hide (show 109 :: dgs f' (m / 10) ((48 + (m : Int) % 10) :: ds) = mtext k by rw [← dgs_step f' m ds hm]; exact unhide HG)
        have HP := hide (pow_step f' m (unhide HM))
        clear HG HM HA
        go_wp2
        go_roundw
        case rel => exact ⟨m / 10, f', (48 + (m : Int) % 10) :: ds, by go_num, rfl, by simp; omega, unhide HP, by omega, unhide HN, (unhide HB).alloc hsz _⟩
        case measure => simp [intOf]; omega

end Go.Proofs.Ytnalnjokijbhbab
