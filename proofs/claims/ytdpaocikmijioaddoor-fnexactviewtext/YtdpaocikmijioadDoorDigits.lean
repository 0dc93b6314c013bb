/-
  The specification's Digits returns the text that the list function 'digs' says (a sign ahead, then the decimal digits), and turns nothing that was there. No statement is proved here.
-/
import Derived.Test.YtdpaocikmijioadDoorDigP
namespace Go.Proofs.YtdpaocikmijioadDoor
open Go.RowKit

set_option maxHeartbeats 2000000 in
set_option maxRecDepth 100000 in
theorem sdigits_pos (n : Nat) (w : World) (h2 : (n : Int) ≤ 9223372036854775807) (h0 : n ≠ 0) :
    Calls Tryd.prog 20 #[.int .i64 n] w fun e w' => e = .returned (.string (strOfNums (digs n))) ∧ Below w.heap.size w w' := by
  have hd0 : ((n : Int) == 0) = false := by simpa using h0
  have hd1 : decide ((n : Int) < 0) = false := by simp
  have HD := hide (show digs n = dgs 20 n [] by simp [digs, h0])
  go_enter Tryd.func20, Tryd.ntmps20
  go_wp2
  go_loopw [0, 4] (fun x v wr => ∃ (m f : Nat) (ds : List Int), x = .int .i64 m ∧ v = .string (strOfNums ds) ∧ ds.length + f ≤ 20 ∧ m < 10 ^ f ∧ (m : Int) ≤ 9223372036854775807 ∧ dgs f m ds = digs n ∧ Below w.heap.size w wr) (fun x _ _ => (intOf x).natAbs)
  case atStart => exact ⟨n, 20, [], rfl, rfl, by simp, by omega, h2, (unhide HD).symm, Below.refl _ _⟩
  case round =>
    obtain ⟨m, f, ds, rfl, rfl, hs, hm1, hm2, hdg, hb⟩ := hrel
    have HG := hide hdg
    have HM := hide hm1
    have HB := hide hb
    have hsz := hb.size
    clear hdg hm1 hb HD
    by_cases hm : m = 0
    · subst hm
      have e := unhide HG
      rw [dgs_zero] at e
      subst e
      go_wp2
      go_ret
      exact ⟨rfl, unhide HB⟩
    · have hmn : ((m : Int) != 0) = true := by simpa using hm
      have hf : ∃ f', f = f' + 1 := by
        cases f with
        | zero => have := unhide HM; simp at this; exact absurd this hm
        | succ f' => exact ⟨f', rfl⟩
      obtain ⟨f', rfl⟩ := hf
      have hcv := fun x => conv_one wr x
      have hadd := fun x wx => add_run (P := Tryd.prog) [x] ds (by simp) (by omega) wx
      have hd3 : decide ((m : Int) % 10 < 0) = false := by simp; omega
      have HN := hide ((dgs_step f' m ds hm).symm.trans (unhide HG))
      have HP := hide (pow_step f' m (unhide HM))
      clear HG HM
      go_wp2
      go_roundw
      case rel => exact ⟨m / 10, f', (48 + (m : Int) % 10) :: ds, by go_num, rfl, by simp; omega, unhide HP, by omega, unhide HN, (unhide HB).alloc hsz _⟩
      case measure => simp [intOf]; omega
set_option maxHeartbeats 2000000 in
set_option maxRecDepth 100000 in
theorem sdigits_neg (n : Nat) (w : World) (h2 : (n : Int) ≤ 9223372036854775808) (h0 : n ≠ 0) :
    Calls Tryd.prog 20 #[.int .i64 (-(n : Int))] w fun e w' => e = .returned (.string (strOfNums (digs (-(n : Int))))) ∧ Below w.heap.size w w' := by
  have hd0 : (-(n : Int) == 0) = false := by simpa using h0
  have hd1 : decide (-(n : Int) < 0) = true := by simp; omega
  have hd1' : decide (0 < n) = true := by simp; omega
  have HD := hide (show digs (-(n : Int)) = 45 :: dgs 20 n [] by unfold digs; rw [if_neg (by omega), if_pos (by omega)]; simp)
  have hadd0 := fun (ds : List Int) (h : ds.length ≤ 20) wx => add_run (P := Tryd.prog) [45] ds (by simp) (by omega) wx
  have HA := hide hadd0
  clear hadd0
  go_enter Tryd.func20, Tryd.ntmps20
  go_wp2
  go_loopw [0, 4] (fun x v wr => ∃ (m f : Nat) (ds : List Int), x = .int .i64 (-(m : Int)) ∧ v = .string (strOfNums ds) ∧ ds.length + f ≤ 20 ∧ m < 10 ^ f ∧ (m : Int) ≤ 9223372036854775808 ∧ 45 :: dgs f m ds = digs (-(n : Int)) ∧ Below w.heap.size w wr) (fun x _ _ => (intOf x).natAbs)
  case atStart => exact ⟨n, 20, [], rfl, rfl, by simp, by omega, h2, (unhide HD).symm, Below.refl _ _⟩
  case round =>
    obtain ⟨m, f, ds, rfl, rfl, hs, hm1, hm2, hdg, hb⟩ := hrel
    have HG := hide hdg
    have HM := hide hm1
    have HB := hide hb
    have hsz := hb.size
    clear hdg hm1 hb HD
    by_cases hm : m = 0
    · subst hm
      have e := unhide HG
      rw [dgs_zero] at e
      have E := hide e
      clear e HG
      have hadd := fun wx => unhide HA ds (by omega) wx
      have e45 : (⟨#[45]⟩ : ByteArray) = strOfNums [45] := rfl
      go_wp2
      go_ret
      exact ⟨by rw [← unhide E]; rfl, unhide HB⟩
    · have hmn : (-(m : Int) != 0) = true := by simp; omega
      have hmod : (-(m : Int)).tmod 10 = -((m : Int) % 10) := by rw [Int.neg_tmod, Int.tmod_eq_emod_of_nonneg (by omega)]
      have hdiv : (-(m : Int)).tdiv 10 = -((m : Int) / 10) := by rw [Int.neg_tdiv, Int.tdiv_eq_ediv_of_nonneg (by omega)]
      have hf : ∃ f', f = f' + 1 := by
        cases f with
        | zero => have := unhide HM; simp at this; exact absurd this hm
        | succ f' => exact ⟨f', rfl⟩
      obtain ⟨f', rfl⟩ := hf
      have hcv := fun x => conv_one wr x
      have hadd := fun x wx => add_run (P := Tryd.prog) [x] ds (by simp) (by omega) wx
      have HN := hide (show 45 :: dgs f' (m / 10) ((48 + (m : Int) % 10) :: ds) = digs (-(n : Int)) by rw [← dgs_step f' m ds hm]; exact unhide HG)
      have HP := hide (pow_step f' m (unhide HM))
      clear HG HM HA
      by_cases hz : (m : Int) % 10 = 0
      · have hd3 : decide (-((m : Int) % 10) < 0) = false := by simp; omega
        have HN' := hide (show 45 :: dgs f' (m / 10) (48 :: ds) = digs (-(n : Int)) by have := unhide HN; rw [hz] at this; exact this)
        go_wp2
        go_roundw
        case rel => exact ⟨m / 10, f', 48 :: ds, by go_num, rfl, by simp; omega, unhide HP, by omega, unhide HN', (unhide HB).alloc hsz _⟩
        case measure => simp [intOf]; omega
      · have hd3 : decide (-((m : Int) % 10) < 0) = true := by simp; omega
        go_wp2
        go_roundw
        case rel => exact ⟨m / 10, f', (48 + (m : Int) % 10) :: ds, by go_num, rfl, by simp; omega, unhide HP, by omega, unhide HN, (unhide HB).alloc hsz _⟩
        case measure => simp [intOf]; omega
set_option maxHeartbeats 2000000 in
theorem sdigits_any (n : Int) (w : World) (h1 : -9223372036854775808 ≤ n) (h2 : n ≤ 9223372036854775807) :
    Calls Tryd.prog 20 #[.int .i64 n] w fun e w' => e = .returned (.string (strOfNums (digs n))) ∧ Below w.heap.size w w' := by
  by_cases h0 : n = 0
  · subst h0
    have hd0 : ((0 : Int) == 0) = true := rfl
    go_enter Tryd.func20, Tryd.ntmps20
    go_wp2
    go_ret
    exact ⟨rfl, Below.refl _ _⟩
  · by_cases hn : n < 0
    · have := sdigits_neg n.natAbs w (by omega) (by omega)
      have e : -(n.natAbs : Int) = n := by omega
      rw [e] at this
      exact this
    · have := sdigits_pos n.natAbs w (by omega) (by omega)
      have e : (n.natAbs : Int) = n := by omega
      rw [e] at this
      exact this
end Go.Proofs.YtdpaocikmijioadDoor
