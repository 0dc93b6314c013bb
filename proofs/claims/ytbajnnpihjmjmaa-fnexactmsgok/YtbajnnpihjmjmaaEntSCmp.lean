/-
  The specification's EntryCmp answers as the program's. No statement is proved here.
-/
import Derived.Test.YtbajnnpihjmjmaaEntCmp
namespace Go.Proofs.Ytbajnnpihjmjmaa
open Go.RowKit

def bitI (b : Bool) : Int := if b = true then 1 else 0
theorem bit_is (b : Bool) (w : World) : Calls Try.prog 133 #[.bool b] w fun e w' => e = .returned (.int .i64 (bitI b)) ∧ w = w' := by
  cases b
  all_goals
    go_enter Try.func133, Try.ntmps133
    go_wp2
    go_ret
    exact ⟨rfl, rfl⟩

theorem l2cmp_is (x y : Int) (w : World) : Calls Try.prog 132 #[.int .i64 x, .int .i64 y] w fun e w' => e = .returned (.int .i64 (cmpI x y)) ∧ w = w' := by
  rcases cmpI_ways x y with ⟨h1, h3⟩ | ⟨h1, h2, h3⟩ | ⟨h1, h2, h3⟩
  · rw [h3]
    clear h3
    go_enter Try.func132, Try.ntmps132
    go_wp2
    go_ret
    exact ⟨rfl, rfl⟩
  all_goals
    rw [h3]
    clear h3
    go_enter Try.func132, Try.ntmps132
    go_wp2_with fail
    refine (bit_is _ _).mono ?_
    rintro e _ ⟨rfl, rfl⟩
    go_wp2
    go_ret
    exact ⟨rfl, rfl⟩

theorem or4 (x0 x1 x2 x3 x4 : Int) : orL [x0, x1, x2, x3, x4] = if orL [x0, x1, x2, x3] = 0 then x4 else orL [x0, x1, x2, x3] := by
  simp only [orL]
  repeat' split
  all_goals simp_all

set_option maxHeartbeats 2000000 in
theorem scmp_any (ai ar ab av : Int) (ad : ByteArray) (bi br bb bv : Int) (bd : ByteArray) (w : World) :
    Calls Try.prog 125 #[.agg #[.int .i64 ai, .int .i64 ar, .int .i64 ab, .int .i64 av, .string ad], .agg #[.int .i64 bi, .int .i64 br, .int .i64 bb, .int .i64 bv, .string bd]] w fun e w' => e = .returned (.int .i64 (cmpE ai ar ab av ad bi br bb bv bd)) ∧ Below w.heap.size w w' := by
  have HE : Hid (cmpE ai ar ab av ad bi br bb bv bd = if orL [cmpI ai bi, cmpI ar br, cmpI ab bb, cmpI av bv] = 0 then cmpS ad bd else orL [cmpI ai bi, cmpI ar br, cmpI ab bb, cmpI av bv]) := or4 _ _ _ _ _
  go_enter Try.func125, Try.ntmps125
  go_wp2_with fail
  go_region_held3 (fun w' => w'.cell? ⟨w.heap.size, 0, none⟩ = some (.int .i64 ai) ∧ w'.cell? ⟨w.heap.size, 1, none⟩ = some (.int .i64 ar) ∧ w'.cell? ⟨w.heap.size, 2, none⟩ = some (.int .i64 ab) ∧ w'.cell? ⟨w.heap.size, 3, none⟩ = some (.int .i64 av) ∧ w'.cell? ⟨w.heap.size + 1, 0, none⟩ = some (.int .i64 bi) ∧ w'.cell? ⟨w.heap.size + 1, 1, none⟩ = some (.int .i64 br) ∧ w'.cell? ⟨w.heap.size + 1, 2, none⟩ = some (.int .i64 bb) ∧ w'.cell? ⟨w.heap.size + 1, 3, none⟩ = some (.int .i64 bv)) (go_keep)
    ((go_at_call 132; refine (l2cmp_is _ _ _).mono ?_; rintro e w' ⟨rfl, rfl⟩))
  obtain ⟨W, hW⟩ : ∃ W, W = (((w.alloc (.cells #[.int .i64 ai, .int .i64 ar, .int .i64 ab, .int .i64 av, .string ad] 63)).alloc (.cells #[.int .i64 bi, .int .i64 br, .int .i64 bb, .int .i64 bv, .string bd] 63)).alloc (.cells #[.int .i64 (cmpI ai bi), .int .i64 (cmpI ar br), .int .i64 (cmpI ab bb), .int .i64 (cmpI av bv)] 3)).drew := ⟨_, rfl⟩
  have HB : Hid (Below w.heap.size w W) := by rw [hW]; exact ((((Below.refl _ _).alloc (Nat.le_refl _) _).alloc (by simp) _).alloc (by simp <;> omega) _).drew
  have hcl := hide (show ∀ j, j < 4 → W.cell? ⟨w.heap.size + 1 + 1, j, none⟩ = some (.int .i64 ([cmpI ai bi, cmpI ar br, cmpI ab bb, cmpI av bv].getD j 0)) by
    intro j hj
    have hg := new2 w (.cells #[.int .i64 ai, .int .i64 ar, .int .i64 ab, .int .i64 av, .string ad] 63) (.cells #[.int .i64 bi, .int .i64 br, .int .i64 bb, .int .i64 bv, .string bd] 63) (.cells #[.int .i64 (cmpI ai bi), .int .i64 (cmpI ar br), .int .i64 (cmpI ab bb), .int .i64 (cmpI av bv)] 3)
    rw [← hW] at hg
    match j, hj with
    | 0, _ | 1, _ | 2, _ | 3, _ => simp [World.cell?, hg])
  have hda : W.cell? ⟨w.heap.size, 4, none⟩ = some (.string ad) := by rw [hW]; simp [go_sem]
  have hdb : W.cell? ⟨w.heap.size + 1, 4, none⟩ = some (.string bd) := by rw [hW]; simp [go_sem]
  rw [← hW]
  clear hW
  generalize hxs : [cmpI ai bi, cmpI ar br, cmpI ab bb, cmpI av bv] = xs at hcl HE
  have hxl : xs.length = 4 := by rw [← hxs]; rfl
  have HL := hide hxl
  clear hxs hxl
  go_wp2
  go_loop [6] (fun i => ∃ k : Nat, k ≤ 4 ∧ i = .int .i64 k ∧ orL (xs.drop k) = orL xs) (fun i => 4 - (intOf i).toNat)
  case atStart => exact ⟨0, Nat.zero_le _, rfl, rfl⟩
  case round =>
    obtain ⟨k, hk, rfl, hor⟩ := hrel
    have HO := hide hor
    clear hor
    by_cases hlt : k < 4
    · have hcx := unhide hcl k hlt
      have HS := hide (orL_step (xs := xs) (k := k) (by rw [unhide HL]; exact hlt))
      generalize xs.getD k 0 = z at hcx HS
      by_cases hz : z = 0
      · have hd : (z != 0) = false := by simpa using hz
        have HZ := hide hz
        clear hz
        go_wp2
        go_round
        case rel => exact ⟨k + 1, by omega, by go_num, by have := unhide HS; rw [if_pos (unhide HZ)] at this; rw [← this]; exact unhide HO⟩
        case measure => simp [intOf]; omega
      · have hd : (z != 0) = true := by simpa using hz
        have HZ := hide hz
        clear hz
        go_wp2
        go_ret
        exact ⟨ret_int (by
          have := unhide HS
          rw [if_neg (unhide HZ)] at this
          have e : orL xs = z := (unhide HO).symm.trans this
          rw [unhide HE, e, if_neg (unhide HZ)]), unhide HB⟩
    · have H0 := hide (show cmpE ai ar ab av ad bi br bb bv bd = cmpS ad bd by
        rw [unhide HE, if_pos]
        rw [← unhide HO, List.drop_of_length_le (by have := unhide HL; omega)]; rfl)
      clear HE HO
      rcases cmpS_ways ad bd with ⟨h1, h3⟩ | ⟨h1, h2, h3⟩ | ⟨h1, h2, h3⟩
      · rw [h3] at H0
        clear h3
        go_wp2
        go_ret
        exact ⟨ret_int (unhide H0).symm, unhide HB⟩
      all_goals
        rw [h3] at H0
        clear h3
        go_wp2_with fail
        refine (bit_is _ _).mono ?_
        rintro e _ ⟨rfl, rfl⟩
        go_wp2
        go_ret
        exact ⟨ret_int (unhide H0).symm, unhide HB⟩
end Go.Proofs.Ytbajnnpihjmjmaa
