/-
  The specification's Digits returns the text that the list function 'digs' says (a sign ahead, then the decimal digits), and turns nothing that was there. No statement is proved here.
-/
import Derived.Test.YthpnidkhapcfoalBytes
import Derived.Laws.BytesArg
import Derived.Laws.Concat
namespace Go.Proofs.Ythpnidkhapcfoal
open Go.RowKit

def dgs : Nat → Nat → List Int → List Int
  | 0, _, acc => acc
  | f + 1, n, acc => if n = 0 then acc else dgs f (n / 10) ((48 + (n : Int) % 10) :: acc)
def digs (n : Int) : List Int := if n = 0 then [48] else if n < 0 then 45 :: dgs 20 n.natAbs [] else dgs 20 n.natAbs []

theorem dgs_zero (f : Nat) (acc : List Int) : dgs f 0 acc = acc := by cases f <;> simp [dgs]
theorem dgs_step (f n : Nat) (acc : List Int) (h : n ≠ 0) : dgs (f + 1) n acc = dgs f (n / 10) ((48 + (n : Int) % 10) :: acc) := by simp [dgs, h]
theorem dgs_length (f n : Nat) (acc : List Int) : (dgs f n acc).length ≤ f + acc.length := by
  induction f generalizing n acc with
  | zero => simp [dgs]
  | succ f ih =>
    by_cases h : n = 0
    · subst h; rw [dgs_zero]; omega
    · rw [dgs_step f n acc h]
      have := ih (n / 10) ((48 + (n : Int) % 10) :: acc)
      simp at this; omega
theorem digs_length (n : Int) : (digs n).length ≤ 21 := by
  unfold digs
  have := dgs_length 20 n.natAbs []
  simp at this
  split
  · simp
  · split
    · simp; omega
    · omega
theorem str_append (xs ys : List Int) : strOfNums xs ++ strOfNums ys = strOfNums (xs ++ ys) := by
  unfold strOfNums
  rw [ByteArray.mk_append_mk]; simp
theorem add_run {P : Program} (xs ys : List Int) (hx : xs.length ≤ 1000000) (hy : ys.length ≤ 1000000) (w : World) : (Op.stringOp .add (strOfNums xs) (strOfNums ys)).run P w = .ok (.string (strOfNums (xs ++ ys))) w := by
  rw [run_string_add_sum w _ _ (by rw [strOfNums_size, strOfNums_size]; omega), str_append]
theorem pow_step (f n : Nat) (h : n < 10 ^ (f + 1)) : n / 10 < 10 ^ f := by
  rw [Nat.pow_succ] at h
  exact Nat.div_lt_of_lt_mul (by rw [Nat.mul_comm]; exact h)
theorem conv_one (wr : World) (x : Int) : (convert 25 9 (.slice (some ⟨wr.heap.size, 0, none⟩) 1 1)).run Try.prog (wr.alloc (.cells #[.int .u8 x] 5)) = .ok (.string (strOfNums [x])) (wr.alloc (.cells #[.int .u8 x] 5)) :=
  run_convert_bytes_arg (P := Try.prog) _ 25 5 Try.underlying25 Try.underlying5 wr.heap.size 0 1 1 [x] rfl (fun i hi => by
    have h0 : i = 0 := by omega
    subst h0
    simp) 9 Try.underlying9

set_option maxHeartbeats 2000000 in
set_option maxRecDepth 100000 in
theorem sdigits_pos (n : Nat) (w : World) (h2 : (n : Int) ≤ 9223372036854775807) (h0 : n ≠ 0) :
    Calls Try.prog 19 #[.int .i64 n] w fun e w' => e = .returned (.string (strOfNums (digs n))) ∧ Below w.heap.size w w' := by
  have hd0 : ((n : Int) == 0) = false := by simpa using h0
  have hd1 : decide ((n : Int) < 0) = false := by simp
  have HD := hide (show digs n = dgs 20 n [] by simp [digs, h0])
  go_enter Try.func19, Try.ntmps19
  go_wp2
  go_loopw [0, 4] (fun x v wr => ∃ (m f : Nat) (ds : List Int), x = .int .i64 m ∧ v = .string (strOfNums ds) ∧ ds.length + f ≤ 20 ∧ m < 10 ^ f ∧ (m : Int) ≤ 9223372036854775807 ∧ dgs f m ds = digs n ∧ Below w.heap.size w wr) (fun x _ _ => (intOf x).natAbs)
  case atStart => exact ⟨n, 20, [], rfl, rfl, by simp, by omega, h2, (unhide HD).symm, Below.refl _ _⟩
  case round =>
    obtain ⟨m, f, ds, rfl, rfl, hs, hm1, hm2, hdg, hb⟩ := hrel
    have HG := hide hdg
    have HM := hide hm1
    have HB := hide hb
    have hsz := hb.size
    clear hdg hm1 hb HD
    by_cases hm : m = 0
    · subst hm
      have e := unhide HG
      rw [dgs_zero] at e
      subst e
      go_wp2
      go_ret
      exact ⟨rfl, unhide HB⟩
    · have hmn : ((m : Int) != 0) = true := by simpa using hm
      have hf : ∃ f', f = f' + 1 := by
        cases f with
        | zero => have := unhide HM; simp at this; exact absurd this hm
        | succ f' => exact ⟨f', rfl⟩
      obtain ⟨f', rfl⟩ := hf
      have hcv := fun x => conv_one wr x
      have hadd := fun x wx => add_run (P := Try.prog) [x] ds (by simp) (by omega) wx
      have hd3 : decide ((m : Int) % 10 < 0) = false := by simp; omega
      have HN := hide ((dgs_step f' m ds hm).symm.trans (unhide HG))
      have HP := hide (pow_step f' m (unhide HM))
      clear HG HM
      go_wp2
      go_roundw
      case rel => exact ⟨m / 10, f', (48 + (m : Int) % 10) :: ds, by go_num, rfl, by simp; omega, unhide HP, by omega, unhide HN, (unhide HB).alloc hsz _⟩
      case measure => simp [intOf]; omega

set_option maxHeartbeats 2000000 in
set_option maxRecDepth 100000 in
theorem sdigits_neg (n : Nat) (w : World) (h2 : (n : Int) ≤ 9223372036854775808) (h0 : n ≠ 0) :
    Calls Try.prog 19 #[.int .i64 (-(n : Int))] w fun e w' => e = .returned (.string (strOfNums (digs (-(n : Int))))) ∧ Below w.heap.size w w' := by
  have hd0 : (-(n : Int) == 0) = false := by simpa using h0
  have hd1 : decide (-(n : Int) < 0) = true := by simp; omega
  have hd1' : decide (0 < n) = true := by simp; omega
  have HD := hide (show digs (-(n : Int)) = 45 :: dgs 20 n [] by unfold digs; rw [if_neg (by omega), if_pos (by omega)]; simp)
  have hadd0 := fun (ds : List Int) (h : ds.length ≤ 20) wx => add_run (P := Try.prog) [45] ds (by simp) (by omega) wx
  have HA := hide hadd0
  clear hadd0
  go_enter Try.func19, Try.ntmps19
  go_wp2
  go_loopw [0, 4] (fun x v wr => ∃ (m f : Nat) (ds : List Int), x = .int .i64 (-(m : Int)) ∧ v = .string (strOfNums ds) ∧ ds.length + f ≤ 20 ∧ m < 10 ^ f ∧ (m : Int) ≤ 9223372036854775808 ∧ 45 :: dgs f m ds = digs (-(n : Int)) ∧ Below w.heap.size w wr) (fun x _ _ => (intOf x).natAbs)
  case atStart => exact ⟨n, 20, [], rfl, rfl, by simp, by omega, h2, (unhide HD).symm, Below.refl _ _⟩
  case round =>
    obtain ⟨m, f, ds, rfl, rfl, hs, hm1, hm2, hdg, hb⟩ := hrel
    have HG := hide hdg
    have HM := hide hm1
    have HB := hide hb
    have hsz := hb.size
    clear hdg hm1 hb HD
    by_cases hm : m = 0
    · subst hm
      have e := unhide HG
      rw [dgs_zero] at e
      have E := hide e
      clear e HG
      have hadd := fun wx => unhide HA ds (by omega) wx
      have e45 : (⟨#[45]⟩ : ByteArray) = strOfNums [45] := rfl
      go_wp2
      go_ret
      exact ⟨by rw [← unhide E]; rfl, unhide HB⟩
    · have hmn : (-(m : Int) != 0) = true := by simp; omega
      have hmod : (-(m : Int)).tmod 10 = -((m : Int) % 10) := by rw [Int.neg_tmod, Int.tmod_eq_emod_of_nonneg (by omega)]
      have hdiv : (-(m : Int)).tdiv 10 = -((m : Int) / 10) := by rw [Int.neg_tdiv, Int.tdiv_eq_ediv_of_nonneg (by omega)]
      have hf : ∃ f', f = f' + 1 := by
        cases f with
        | zero => have := unhide HM; simp at this; exact absurd this hm
        | succ f' => exact ⟨f', rfl⟩
      obtain ⟨f', rfl⟩ := hf
      have hcv := fun x => conv_one wr x
      have hadd := fun x wx => add_run (P := Try.prog) [x] ds (by simp) (by omega) wx
      have HN := hide (show 45 :: dgs f' (m / 10) ((48 + (m : Int) % 10) :: ds) = digs (-(n : Int)) by rw [← dgs_step f' m ds hm]; exact unhide HG)
      have HP := hide (pow_step f' m (unhide HM))
      clear HG HM HA
      by_cases hz : (m : Int) % 10 = 0
      · have hd3 : decide (-((m : Int) % 10) < 0) = false := by simp; omega
        have HN' := hide (show 45 :: dgs f' (m / 10) (48 :: ds) = digs (-(n : Int)) by have := unhide HN; rw [hz] at this; exact this)
        go_wp2
        go_roundw
        case rel => exact ⟨m / 10, f', 48 :: ds, by go_num, rfl, by simp; omega, unhide HP, by omega, unhide HN', (unhide HB).alloc hsz _⟩
        case measure => simp [intOf]; omega
      · have hd3 : decide (-((m : Int) % 10) < 0) = true := by simp; omega
        go_wp2
        go_roundw
        case rel => exact ⟨m / 10, f', (48 + (m : Int) % 10) :: ds, by go_num, rfl, by simp; omega, unhide HP, by omega, unhide HN, (unhide HB).alloc hsz _⟩
        case measure => simp [intOf]; omega

set_option maxHeartbeats 2000000 in
theorem sdigits_any (n : Int) (w : World) (h1 : -9223372036854775808 ≤ n) (h2 : n ≤ 9223372036854775807) :
    Calls Try.prog 19 #[.int .i64 n] w fun e w' => e = .returned (.string (strOfNums (digs n))) ∧ Below w.heap.size w w' := by
  by_cases h0 : n = 0
  · subst h0
    have hd0 : ((0 : Int) == 0) = true := rfl
    go_enter Try.func19, Try.ntmps19
    go_wp2
    go_ret
    exact ⟨rfl, Below.refl _ _⟩
  · by_cases hn : n < 0
    · have := sdigits_neg n.natAbs w (by omega) (by omega)
      have e : -(n.natAbs : Int) = n := by omega
      rw [e] at this
      exact this
    · have := sdigits_pos n.natAbs w (by omega) (by omega)
      have e : (n.natAbs : Int) = n := by omega
      rw [e] at this
      exact this
end Go.Proofs.Ythpnidkhapcfoal
