/-
  EntryOk, the program's and the specification's: both answer by the five bounds. No statement is proved here.
-/
import Derived.Test.YtbajnnpihjmjmaaIn
namespace Go.Proofs.Ytbajnnpihjmjmaa
open Go.RowKit

def okE (ai ar ab av : Int) (ad : ByteArray) : Bool := inB ai 1 1000 && inB ar 0 1 && inB ab 0 100000 && inB av 0 1000 && decide ((ad.size : Int) ≤ 8)

theorem rankok_is (x : Int) (b : Bool) (hb : inB x 0 1 = b) (w : World) :
    Calls Try.prog 157 #[.int .i64 x] w fun e w' => e = .returned (.bool b) ∧ w = w' := by
  subst hb
  by_cases h1 : x = 0
  · subst h1
    go_enter Try.func157, Try.ntmps157
    go_wp2
    go_ret
    exact ⟨rfl, rfl⟩
  · have hd1 : (x == 0) = false := by simpa using h1
    by_cases h2 : x = 1
    · subst h2
      go_enter Try.func157, Try.ntmps157
      go_wp2
      go_ret
      exact ⟨rfl, rfl⟩
    · have hd2 : (x == 1) = false := by simpa using h2
      go_enter Try.func157, Try.ntmps157
      go_wp2
      go_ret
      exact ⟨by
        have hb : inB x 0 1 = false := by
          simp only [inB, Bool.and_eq_false_iff, decide_eq_false_iff_not]
          omega
        rw [hb]; rfl, rfl⟩

set_option maxHeartbeats 2000000 in
theorem sok_any (ai ar ab av : Int) (ad : ByteArray) (w : World) :
    Calls Try.prog 33 #[.agg #[.int .i64 ai, .int .i64 ar, .int .i64 ab, .int .i64 av, .string ad]] w fun e w' => e = .returned (.bool (okE ai ar ab av ad)) ∧ Below w.heap.size w w' := by

  have hb := (Below.refl w.heap.size w).alloc (Nat.le_refl _) (.cells #[.int .i64 ai, .int .i64 ar, .int .i64 ab, .int .i64 av, .string ad] 63)
  have HB := hide hb
  clear hb
  rcases Bool.eq_false_or_eq_true (inB ai 1 1000) with h | h
  rotate_left
  · have H0 := hide h
    clear h
    go_enter Try.func33, Try.ntmps33
    go_wp2_with fail
    refine (l1in_is _ 1 1000 _ (unhide H0) _).mono ?_
    rintro e _ ⟨rfl, rfl⟩
    go_wp2
    go_ret
    exact ⟨by simp only [okE, unhide H0]; rfl, unhide HB⟩
  have H0 := hide h
  clear h
  rcases Bool.eq_false_or_eq_true (inB ar 0 1) with h | h
  rotate_left
  · have H1 := hide h
    clear h
    go_enter Try.func33, Try.ntmps33
    go_wp2_with fail
    refine (l1in_is _ 1 1000 _ (unhide H0) _).mono ?_
    rintro e _ ⟨rfl, rfl⟩
    go_wp2_with fail
    refine (l1in_is _ 0 1 _ (unhide H1) _).mono ?_
    rintro e _ ⟨rfl, rfl⟩
    go_wp2
    go_ret
    exact ⟨by simp only [okE, unhide H0, unhide H1]; rfl, unhide HB⟩
  have H1 := hide h
  clear h
  rcases Bool.eq_false_or_eq_true (inB ab 0 100000) with h | h
  rotate_left
  · have H2 := hide h
    clear h
    go_enter Try.func33, Try.ntmps33
    go_wp2_with fail
    refine (l1in_is _ 1 1000 _ (unhide H0) _).mono ?_
    rintro e _ ⟨rfl, rfl⟩
    go_wp2_with fail
    refine (l1in_is _ 0 1 _ (unhide H1) _).mono ?_
    rintro e _ ⟨rfl, rfl⟩
    go_wp2_with fail
    refine (l1in_is _ 0 100000 _ (unhide H2) _).mono ?_
    rintro e _ ⟨rfl, rfl⟩
    go_wp2
    go_ret
    exact ⟨by simp only [okE, unhide H0, unhide H1, unhide H2]; rfl, unhide HB⟩
  have H2 := hide h
  clear h
  rcases Bool.eq_false_or_eq_true (inB av 0 1000) with h | h
  rotate_left
  · have H3 := hide h
    clear h
    go_enter Try.func33, Try.ntmps33
    go_wp2_with fail
    refine (l1in_is _ 1 1000 _ (unhide H0) _).mono ?_
    rintro e _ ⟨rfl, rfl⟩
    go_wp2_with fail
    refine (l1in_is _ 0 1 _ (unhide H1) _).mono ?_
    rintro e _ ⟨rfl, rfl⟩
    go_wp2_with fail
    refine (l1in_is _ 0 100000 _ (unhide H2) _).mono ?_
    rintro e _ ⟨rfl, rfl⟩
    go_wp2_with fail
    refine (l1in_is _ 0 1000 _ (unhide H3) _).mono ?_
    rintro e _ ⟨rfl, rfl⟩
    go_wp2
    go_ret
    exact ⟨by simp only [okE, unhide H0, unhide H1, unhide H2, unhide H3]; rfl, unhide HB⟩
  have H3 := hide h
  clear h
  rcases Bool.eq_false_or_eq_true (decide ((ad.size : Int) ≤ 8)) with h4 | h4
  · go_enter Try.func33, Try.ntmps33
    go_wp2_with fail
    refine (l1in_is _ 1 1000 _ (unhide H0) _).mono ?_
    rintro e _ ⟨rfl, rfl⟩
    go_wp2_with fail
    refine (l1in_is _ 0 1 _ (unhide H1) _).mono ?_
    rintro e _ ⟨rfl, rfl⟩
    go_wp2_with fail
    refine (l1in_is _ 0 100000 _ (unhide H2) _).mono ?_
    rintro e _ ⟨rfl, rfl⟩
    go_wp2_with fail
    refine (l1in_is _ 0 1000 _ (unhide H3) _).mono ?_
    rintro e _ ⟨rfl, rfl⟩
    go_wp2
    go_ret
    exact ⟨by simp only [okE, unhide H0, unhide H1, unhide H2, unhide H3, h4]; rfl, unhide HB⟩
  · go_enter Try.func33, Try.ntmps33
    go_wp2_with fail
    refine (l1in_is _ 1 1000 _ (unhide H0) _).mono ?_
    rintro e _ ⟨rfl, rfl⟩
    go_wp2_with fail
    refine (l1in_is _ 0 1 _ (unhide H1) _).mono ?_
    rintro e _ ⟨rfl, rfl⟩
    go_wp2_with fail
    refine (l1in_is _ 0 100000 _ (unhide H2) _).mono ?_
    rintro e _ ⟨rfl, rfl⟩
    go_wp2_with fail
    refine (l1in_is _ 0 1000 _ (unhide H3) _).mono ?_
    rintro e _ ⟨rfl, rfl⟩
    go_wp2
    go_ret
    exact ⟨by simp only [okE, unhide H0, unhide H1, unhide H2, unhide H3, h4]; rfl, unhide HB⟩

set_option maxHeartbeats 2000000 in
theorem iok_any (ai ar ab av : Int) (ad : ByteArray) (w : World) :
    Calls Try.prog 156 #[.agg #[.int .i64 ai, .int .i64 ar, .int .i64 ab, .int .i64 av, .string ad]] w fun e w' => e = .returned (.bool (okE ai ar ab av ad)) ∧ Below w.heap.size w w' := by

  have hb := (Below.refl w.heap.size w).alloc (Nat.le_refl _) (.cells #[.int .i64 ai, .int .i64 ar, .int .i64 ab, .int .i64 av, .string ad] 63)
  have HB := hide hb
  clear hb
  rcases Bool.eq_false_or_eq_true (inB ai 1 1000) with h | h
  rotate_left
  · have H0 := hide h
    clear h
    go_enter Try.func156, Try.ntmps156
    go_wp2_with fail
    refine (within_is _ 1 1000 _ (unhide H0) _).mono ?_
    rintro e _ ⟨rfl, rfl⟩
    go_wp2
    go_ret
    exact ⟨by simp only [okE, unhide H0]; rfl, unhide HB⟩
  have H0 := hide h
  clear h
  rcases Bool.eq_false_or_eq_true (inB ar 0 1) with h | h
  rotate_left
  · have H1 := hide h
    clear h
    go_enter Try.func156, Try.ntmps156
    go_wp2_with fail
    refine (within_is _ 1 1000 _ (unhide H0) _).mono ?_
    rintro e _ ⟨rfl, rfl⟩
    go_wp2_with fail
    refine (rankok_is _ _ (unhide H1) _).mono ?_
    rintro e _ ⟨rfl, rfl⟩
    go_wp2
    go_ret
    exact ⟨by simp only [okE, unhide H0, unhide H1]; rfl, unhide HB⟩
  have H1 := hide h
  clear h
  rcases Bool.eq_false_or_eq_true (inB ab 0 100000) with h | h
  rotate_left
  · have H2 := hide h
    clear h
    go_enter Try.func156, Try.ntmps156
    go_wp2_with fail
    refine (within_is _ 1 1000 _ (unhide H0) _).mono ?_
    rintro e _ ⟨rfl, rfl⟩
    go_wp2_with fail
    refine (rankok_is _ _ (unhide H1) _).mono ?_
    rintro e _ ⟨rfl, rfl⟩
    go_wp2_with fail
    refine (within_is _ 0 100000 _ (unhide H2) _).mono ?_
    rintro e _ ⟨rfl, rfl⟩
    go_wp2
    go_ret
    exact ⟨by simp only [okE, unhide H0, unhide H1, unhide H2]; rfl, unhide HB⟩
  have H2 := hide h
  clear h
  rcases Bool.eq_false_or_eq_true (inB av 0 1000) with h | h
  rotate_left
  · have H3 := hide h
    clear h
    go_enter Try.func156, Try.ntmps156
    go_wp2_with fail
    refine (within_is _ 1 1000 _ (unhide H0) _).mono ?_
    rintro e _ ⟨rfl, rfl⟩
    go_wp2_with fail
    refine (rankok_is _ _ (unhide H1) _).mono ?_
    rintro e _ ⟨rfl, rfl⟩
    go_wp2_with fail
    refine (within_is _ 0 100000 _ (unhide H2) _).mono ?_
    rintro e _ ⟨rfl, rfl⟩
    go_wp2_with fail
    refine (within_is _ 0 1000 _ (unhide H3) _).mono ?_
    rintro e _ ⟨rfl, rfl⟩
    go_wp2
    go_ret
    exact ⟨by simp only [okE, unhide H0, unhide H1, unhide H2, unhide H3]; rfl, unhide HB⟩
  have H3 := hide h
  clear h
  rcases Bool.eq_false_or_eq_true (decide ((ad.size : Int) ≤ 8)) with h4 | h4
  · go_enter Try.func156, Try.ntmps156
    go_wp2_with fail
    refine (within_is _ 1 1000 _ (unhide H0) _).mono ?_
    rintro e _ ⟨rfl, rfl⟩
    go_wp2_with fail
    refine (rankok_is _ _ (unhide H1) _).mono ?_
    rintro e _ ⟨rfl, rfl⟩
    go_wp2_with fail
    refine (within_is _ 0 100000 _ (unhide H2) _).mono ?_
    rintro e _ ⟨rfl, rfl⟩
    go_wp2_with fail
    refine (within_is _ 0 1000 _ (unhide H3) _).mono ?_
    rintro e _ ⟨rfl, rfl⟩
    go_wp2
    go_ret
    exact ⟨by simp only [okE, unhide H0, unhide H1, unhide H2, unhide H3, h4]; rfl, unhide HB⟩
  · go_enter Try.func156, Try.ntmps156
    go_wp2_with fail
    refine (within_is _ 1 1000 _ (unhide H0) _).mono ?_
    rintro e _ ⟨rfl, rfl⟩
    go_wp2_with fail
    refine (rankok_is _ _ (unhide H1) _).mono ?_
    rintro e _ ⟨rfl, rfl⟩
    go_wp2_with fail
    refine (within_is _ 0 100000 _ (unhide H2) _).mono ?_
    rintro e _ ⟨rfl, rfl⟩
    go_wp2_with fail
    refine (within_is _ 0 1000 _ (unhide H3) _).mono ?_
    rintro e _ ⟨rfl, rfl⟩
    go_wp2
    go_ret
    exact ⟨by simp only [okE, unhide H0, unhide H1, unhide H2, unhide H3, h4]; rfl, unhide HB⟩

end Go.Proofs.Ytbajnnpihjmjmaa
