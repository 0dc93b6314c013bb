/-
  Whether two messages are the same: the specification's and the program's. No statement is proved here.
-/
import Derived.Test.YtbajnnpihjmjmabMsM
import Derived.Test.YtbajnnpihjmjmabStEqP
import Derived.Test.YtbajnnpihjmjmabIStSame
import Derived.Test.YtbajnnpihjmjmabSStSame
import Derived.Test.YtbajnnpihjmjmabSt3
import Derived.Deep.QuietTactic
import Derived.BigQuiet
namespace Go.Proofs.Ytbajnnpihjmjmab
open Go.RowKit

theorem eqK_run (x y : Flr) (b : Bool) (hb : decide (x = y) = b) (W : World) : (Op.equalIn 10000 89 (.agg #[.int .i64 x.1, .int .i64 x.2]) (.agg #[.int .i64 y.1, .int .i64 y.2])).run Try.prog W = .ok b W := by
  subst hb
  obtain ⟨a0, a1⟩ := x
  obtain ⟨b0, b1⟩ := y
  have e : decide ((a0, a1) = (b0, b1)) = decide (a0 = b0 ∧ a1 = b1) := decide_eq_decide.mpr (by simp)
  rw [e]
  clear e
  go_simp
  repeat' split
  all_goals simp_all
set_option maxHeartbeats 2000000 in
theorem sleqn_any (a : Option Addr) (n cap : Nat) (a2 : Option Addr) (m cap2 : Nat) (xs ys : List Int) (r : Bool) (hr : Hid (decide (xs = ys) = r)) (w : World) (hn : n ≤ 140737488351232) (hm : m ≤ 140737488351232) (hx : Rw encN 1 w (.slice a n cap) xs) (hy : Rw encN 1 w (.slice a2 m cap2) ys) :
    Calls Try.prog 45 #[.slice a n cap, .slice a2 m cap2] w fun e w' => e = .returned (.bool r) ∧ Below w.heap.size w w' := by
  have HX := hide hx
  have HY := hide hy
  clear hx hy
  by_cases hnm : n = m
  rotate_left
  · have d0 := nb_false hnm
    obtain rfl : r = false := by rw [← unhide hr]; simpa using same_len (unhide HX).len.1 (unhide HY).len.1 hnm
    go_enter Try.func45, Try.ntmps45
    go_wp2
    go_ret
    exact ⟨rfl, Below.refl _ _⟩
  subst hnm
  have d0 : ((n : Int) != (n : Int)) = false := by simp
  go_enter Try.func45, Try.ntmps45
  go_wp2
  go_loopw [13] (fun i wr => ∃ k : Nat, k ≤ n ∧ i = .int .i64 k ∧ (∀ j : Nat, j < k → xs[j]? = ys[j]?) ∧ Below w.heap.size w wr) (fun i _ => n - (intOf i).toNat)
  case atStart => exact ⟨0, Nat.zero_le _, rfl, fun j hj => absurd hj (Nat.not_lt_zero _), Below.refl _ _⟩
  case round =>
    obtain ⟨k, hk, rfl, hno, hbel⟩ := hrel
    have HN := hide hno
    have HB := hide hbel
    have hsz := hbel.size
    clear hno
    by_cases hlt : k < n
    · obtain ⟨x, b, off, hx, rfl, hb, hcap, hc⟩ := (unhide HX).atN hlt
      obtain ⟨y, b2, off2, hy, rfl, hb2, hcap2, hc2⟩ := (unhide HY).atN hlt
      have l0 := later_some (w := wr) (b := b) (o := off + k) (v := .int .i64 x) (by omega) ((hbel.cell (p := ⟨b, off + k, none⟩) hb).trans hc)
      have m0 := later_some (w := wr) (b := b2) (o := off2 + k) (v := .int .i64 y) (by omega) ((hbel.cell (p := ⟨b2, off2 + k, none⟩) hb2).trans hc2)
      have HX1 := hide hx
      have HY1 := hide hy
      clear hc hc2 hx hy hbel
      rcases Bool.eq_false_or_eq_true (decide (x = y)) with he | he
      · have hrun : (x != y) = false := by have h := of_decide_eq_true he; simp [h]
        have HE := hide (same_step (unhide HX1) (unhide HY1) (of_decide_eq_true he) (unhide HN))
        clear he
        go_wp2_with fail
        refine wp_region_later (by kernel_rfl) (by kernel_rfl) ?_
        repeat (first | go_big_quiet_step (fail) | quiet_step (fail))
        refine wpQuiet_nil ?_
        intro w1 hb1
        have HB1 := hide ((unhide HB).trans (hb1.mono hsz))
        clear hb1 HB
        go_wp2
        go_roundw
        case rel => exact ⟨k + 1, by omega, by go_num, unhide HE, unhide HB1⟩
        case measure => simp [intOf]; omega
      · have hrun : (x != y) = true := by have h := of_decide_eq_false he; simp [h]
        obtain rfl : r = false := by rw [← unhide hr]; simpa using same_not (unhide HX1) (unhide HY1) (of_decide_eq_false he)
        clear he
        go_wp2_with fail
        refine wp_region_later (by kernel_rfl) (by kernel_rfl) ?_
        repeat (first | go_big_quiet_step (fail) | quiet_step (fail))
        refine wpQuiet_nil ?_
        intro w1 hb1
        have HB1 := hide ((unhide HB).trans (hb1.mono hsz))
        clear hb1 HB
        go_wp2
        go_ret
        exact ⟨rfl, unhide HB1⟩
    · obtain rfl : r = true := by
        rw [← unhide hr]
        have e : k = n := by omega
        simpa using same_all (unhide HX).len.1 (unhide HY).len.1 (e ▸ unhide HN)
      clear hbel
      go_wp2
      go_ret
      exact ⟨rfl, unhide HB⟩
set_option maxHeartbeats 2000000 in
theorem sleqk_any (a : Option Addr) (n cap : Nat) (a2 : Option Addr) (m cap2 : Nat) (xs ys : List Flr) (r : Bool) (hr : Hid (decide (xs = ys) = r)) (w : World) (hn : n ≤ 140737488351232) (hm : m ≤ 140737488351232) (hx : Rw encF 2 w (.slice a n cap) xs) (hy : Rw encF 2 w (.slice a2 m cap2) ys) :
    Calls Try.prog 47 #[.slice a n cap, .slice a2 m cap2] w fun e w' => e = .returned (.bool r) ∧ Below w.heap.size w w' := by
  have HX := hide hx
  have HY := hide hy
  clear hx hy
  by_cases hnm : n = m
  rotate_left
  · have d0 := nb_false hnm
    obtain rfl : r = false := by rw [← unhide hr]; simpa using same_len (unhide HX).len.1 (unhide HY).len.1 hnm
    go_enter Try.func47, Try.ntmps47
    go_wp2
    go_ret
    exact ⟨rfl, Below.refl _ _⟩
  subst hnm
  have d0 : ((n : Int) != (n : Int)) = false := by simp
  go_enter Try.func47, Try.ntmps47
  go_wp2
  go_loopw [13] (fun i wr => ∃ k : Nat, k ≤ n ∧ i = .int .i64 k ∧ (∀ j : Nat, j < k → xs[j]? = ys[j]?) ∧ Below w.heap.size w wr) (fun i _ => n - (intOf i).toNat)
  case atStart => exact ⟨0, Nat.zero_le _, rfl, fun j hj => absurd hj (Nat.not_lt_zero _), Below.refl _ _⟩
  case round =>
    obtain ⟨k, hk, rfl, hno, hbel⟩ := hrel
    have HN := hide hno
    have HB := hide hbel
    have hsz := hbel.size
    clear hno
    by_cases hlt : k < n
    · obtain ⟨x, b, off, hx, rfl, hb, hcap, hc⟩ := (unhide HX).at hlt
      obtain ⟨y, b2, off2, hy, rfl, hb2, hcap2, hc2⟩ := (unhide HY).at hlt
      have l0 := later_some (w := wr) (b := b) (o := off + k * 2) (v := .int .i64 x.1) (by omega) ((hbel.cell (p := ⟨b, off + k * 2, none⟩) hb).trans (hc 0 (by omega)))
      have l1 := later_some (w := wr) (b := b) (o := off + k * 2 + 1) (v := .int .i64 x.2) (by omega) ((hbel.cell (p := ⟨b, off + k * 2 + 1, none⟩) hb).trans (hc 1 (by omega)))
      have m0 := later_some (w := wr) (b := b2) (o := off2 + k * 2) (v := .int .i64 y.1) (by omega) ((hbel.cell (p := ⟨b2, off2 + k * 2, none⟩) hb2).trans (hc2 0 (by omega)))
      have m1 := later_some (w := wr) (b := b2) (o := off2 + k * 2 + 1) (v := .int .i64 y.2) (by omega) ((hbel.cell (p := ⟨b2, off2 + k * 2 + 1, none⟩) hb2).trans (hc2 1 (by omega)))
      have HX1 := hide hx
      have HY1 := hide hy
      clear hc hc2 hx hy hbel
      rcases Bool.eq_false_or_eq_true (decide (x = y)) with he | he
      · have hrun := eqK_run x y true he
        have HE := hide (same_step (unhide HX1) (unhide HY1) (of_decide_eq_true he) (unhide HN))
        clear he
        go_wp2_with fail
        refine wp_region_later (by kernel_rfl) (by kernel_rfl) ?_
        repeat (first | go_big_quiet_step (fail) | quiet_step (fail))
        refine wpQuiet_nil ?_
        intro w1 hb1
        have HB1 := hide ((unhide HB).trans (hb1.mono hsz))
        clear hb1 HB
        go_wp2
        go_roundw
        case rel => exact ⟨k + 1, by omega, by go_num, unhide HE, unhide HB1⟩
        case measure => simp [intOf]; omega
      · have hrun := eqK_run x y false he
        obtain rfl : r = false := by rw [← unhide hr]; simpa using same_not (unhide HX1) (unhide HY1) (of_decide_eq_false he)
        clear he
        go_wp2_with fail
        refine wp_region_later (by kernel_rfl) (by kernel_rfl) ?_
        repeat (first | go_big_quiet_step (fail) | quiet_step (fail))
        refine wpQuiet_nil ?_
        intro w1 hb1
        have HB1 := hide ((unhide HB).trans (hb1.mono hsz))
        clear hb1 HB
        go_wp2
        go_ret
        exact ⟨rfl, unhide HB1⟩
    · obtain rfl : r = true := by
        rw [← unhide hr]
        have e : k = n := by omega
        simpa using same_all (unhide HX).len.1 (unhide HY).len.1 (e ▸ unhide HN)
      clear hbel
      go_wp2
      go_ret
      exact ⟨rfl, unhide HB⟩
set_option maxHeartbeats 2000000 in
theorem l1same_any (a : Option Addr) (n cap : Nat) (a2 : Option Addr) (m cap2 : Nat) (xs ys : List Int) (r : Bool) (hr : Hid (decide (xs = ys) = r)) (w : World) (hn : n ≤ 140737488351232) (hm : m ≤ 140737488351232) (hx : Rw encN 1 w (.slice a n cap) xs) (hy : Rw encN 1 w (.slice a2 m cap2) ys) :
    Calls Try.prog 36 #[.slice a n cap, .slice a2 m cap2] w fun e w' => e = .returned (.bool r) ∧ Below w.heap.size w w' := by
  have HX := hide hx
  have HY := hide hy
  clear hx hy
  by_cases hnm : n = m
  rotate_left
  · have d0 := nb_false hnm
    obtain rfl : r = false := by rw [← unhide hr]; simpa using same_len (unhide HX).len.1 (unhide HY).len.1 hnm
    go_enter Try.func36, Try.ntmps36
    go_wp2
    go_ret
    exact ⟨rfl, Below.refl _ _⟩
  subst hnm
  have d0 : ((n : Int) != (n : Int)) = false := by simp
  go_enter Try.func36, Try.ntmps36
  go_wp2
  go_loopw [5] (fun i wr => ∃ k : Nat, k ≤ n ∧ i = .int .i64 k ∧ (∀ j : Nat, j < k → xs[j]? = ys[j]?) ∧ Below w.heap.size w wr) (fun i _ => n - (intOf i).toNat)
  case atStart => exact ⟨0, Nat.zero_le _, rfl, fun j hj => absurd hj (Nat.not_lt_zero _), Below.refl _ _⟩
  case round =>
    obtain ⟨k, hk, rfl, hno, hbel⟩ := hrel
    have HN := hide hno
    have HB := hide hbel
    have hsz := hbel.size
    clear hno
    by_cases hlt : k < n
    · obtain ⟨x, b, off, hx, rfl, hb, hcap, hc⟩ := (unhide HX).atN hlt
      obtain ⟨y, b2, off2, hy, rfl, hb2, hcap2, hc2⟩ := (unhide HY).atN hlt
      have l0 := later_some (w := wr) (b := b) (o := off + k) (v := .int .i64 x) (by omega) ((hbel.cell (p := ⟨b, off + k, none⟩) hb).trans hc)
      have m0 := later_some (w := wr) (b := b2) (o := off2 + k) (v := .int .i64 y) (by omega) ((hbel.cell (p := ⟨b2, off2 + k, none⟩) hb2).trans hc2)
      have HX1 := hide hx
      have HY1 := hide hy
      clear hc hc2 hx hy hbel
      rcases Bool.eq_false_or_eq_true (decide (x = y)) with he | he
      · have hrun : (x != y) = false := by have h := of_decide_eq_true he; simp [h]
        have HE := hide (same_step (unhide HX1) (unhide HY1) (of_decide_eq_true he) (unhide HN))
        clear he
        go_wp2_with fail
        refine wp_region_later (by kernel_rfl) (by kernel_rfl) ?_
        repeat (first | go_big_quiet_step (fail) | quiet_step (fail))
        refine wpQuiet_nil ?_
        intro w1 hb1
        have HB1 := hide ((unhide HB).trans (hb1.mono hsz))
        clear hb1 HB
        go_wp2
        go_roundw
        case rel => exact ⟨k + 1, by omega, by go_num, unhide HE, unhide HB1⟩
        case measure => simp [intOf]; omega
      · have hrun : (x != y) = true := by have h := of_decide_eq_false he; simp [h]
        obtain rfl : r = false := by rw [← unhide hr]; simpa using same_not (unhide HX1) (unhide HY1) (of_decide_eq_false he)
        clear he
        go_wp2_with fail
        refine wp_region_later (by kernel_rfl) (by kernel_rfl) ?_
        repeat (first | go_big_quiet_step (fail) | quiet_step (fail))
        refine wpQuiet_nil ?_
        intro w1 hb1
        have HB1 := hide ((unhide HB).trans (hb1.mono hsz))
        clear hb1 HB
        go_wp2
        go_ret
        exact ⟨rfl, unhide HB1⟩
    · obtain rfl : r = true := by
        rw [← unhide hr]
        have e : k = n := by omega
        simpa using same_all (unhide HX).len.1 (unhide HY).len.1 (e ▸ unhide HN)
      clear hbel
      go_wp2
      go_ret
      exact ⟨rfl, unhide HB⟩
set_option maxHeartbeats 2000000 in
theorem l10marks_any (a : Option Addr) (n cap : Nat) (a2 : Option Addr) (m cap2 : Nat) (xs ys : List Flr) (r : Bool) (hr : Hid (decide (xs = ys) = r)) (w : World) (hn : n ≤ 140737488351232) (hm : m ≤ 140737488351232) (hx : Rw encF 2 w (.slice a n cap) xs) (hy : Rw encF 2 w (.slice a2 m cap2) ys) :
    Calls Try.prog 38 #[.slice a n cap, .slice a2 m cap2] w fun e w' => e = .returned (.bool r) ∧ Below w.heap.size w w' := by
  have HX := hide hx
  have HY := hide hy
  clear hx hy
  by_cases hnm : n = m
  rotate_left
  · have d0 := nb_false hnm
    obtain rfl : r = false := by rw [← unhide hr]; simpa using same_len (unhide HX).len.1 (unhide HY).len.1 hnm
    go_enter Try.func38, Try.ntmps38
    go_wp2
    go_ret
    exact ⟨rfl, Below.refl _ _⟩
  subst hnm
  have d0 : ((n : Int) != (n : Int)) = false := by simp
  go_enter Try.func38, Try.ntmps38
  go_wp2
  go_loopw [5] (fun i wr => ∃ k : Nat, k ≤ n ∧ i = .int .i64 k ∧ (∀ j : Nat, j < k → xs[j]? = ys[j]?) ∧ Below w.heap.size w wr) (fun i _ => n - (intOf i).toNat)
  case atStart => exact ⟨0, Nat.zero_le _, rfl, fun j hj => absurd hj (Nat.not_lt_zero _), Below.refl _ _⟩
  case round =>
    obtain ⟨k, hk, rfl, hno, hbel⟩ := hrel
    have HN := hide hno
    have HB := hide hbel
    have hsz := hbel.size
    clear hno
    by_cases hlt : k < n
    · obtain ⟨x, b, off, hx, rfl, hb, hcap, hc⟩ := (unhide HX).at hlt
      obtain ⟨y, b2, off2, hy, rfl, hb2, hcap2, hc2⟩ := (unhide HY).at hlt
      have l0 := later_some (w := wr) (b := b) (o := off + k * 2) (v := .int .i64 x.1) (by omega) ((hbel.cell (p := ⟨b, off + k * 2, none⟩) hb).trans (hc 0 (by omega)))
      have l1 := later_some (w := wr) (b := b) (o := off + k * 2 + 1) (v := .int .i64 x.2) (by omega) ((hbel.cell (p := ⟨b, off + k * 2 + 1, none⟩) hb).trans (hc 1 (by omega)))
      have m0 := later_some (w := wr) (b := b2) (o := off2 + k * 2) (v := .int .i64 y.1) (by omega) ((hbel.cell (p := ⟨b2, off2 + k * 2, none⟩) hb2).trans (hc2 0 (by omega)))
      have m1 := later_some (w := wr) (b := b2) (o := off2 + k * 2 + 1) (v := .int .i64 y.2) (by omega) ((hbel.cell (p := ⟨b2, off2 + k * 2 + 1, none⟩) hb2).trans (hc2 1 (by omega)))
      have HX1 := hide hx
      have HY1 := hide hy
      clear hc hc2 hx hy hbel
      rcases Bool.eq_false_or_eq_true (decide (x = y)) with he | he
      · have hrun := eqK_run x y true he
        have HE := hide (same_step (unhide HX1) (unhide HY1) (of_decide_eq_true he) (unhide HN))
        clear he
        go_wp2_with fail
        refine wp_region_later (by kernel_rfl) (by kernel_rfl) ?_
        repeat (first | go_big_quiet_step (fail) | quiet_step (fail))
        refine wpQuiet_nil ?_
        intro w1 hb1
        have HB1 := hide ((unhide HB).trans (hb1.mono hsz))
        clear hb1 HB
        go_wp2
        go_roundw
        case rel => exact ⟨k + 1, by omega, by go_num, unhide HE, unhide HB1⟩
        case measure => simp [intOf]; omega
      · have hrun := eqK_run x y false he
        obtain rfl : r = false := by rw [← unhide hr]; simpa using same_not (unhide HX1) (unhide HY1) (of_decide_eq_false he)
        clear he
        go_wp2_with fail
        refine wp_region_later (by kernel_rfl) (by kernel_rfl) ?_
        repeat (first | go_big_quiet_step (fail) | quiet_step (fail))
        refine wpQuiet_nil ?_
        intro w1 hb1
        have HB1 := hide ((unhide HB).trans (hb1.mono hsz))
        clear hb1 HB
        go_wp2
        go_ret
        exact ⟨rfl, unhide HB1⟩
    · obtain rfl : r = true := by
        rw [← unhide hr]
        have e : k = n := by omega
        simpa using same_all (unhide HX).len.1 (unhide HY).len.1 (e ▸ unhide HN)
      clear hbel
      go_wp2
      go_ret
      exact ⟨rfl, unhide HB⟩
end Go.Proofs.Ytbajnnpihjmjmab
