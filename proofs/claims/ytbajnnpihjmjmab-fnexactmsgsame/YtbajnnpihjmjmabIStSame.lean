/-
  StateSame of the program: it answers whether both read the same. No statement is proved here.
-/
import Derived.Test.YtbajnnpihjmjmabStEqP
import Derived.Test.YtbajnnpihjmjmabRegs6
namespace Go.Proofs.Ytbajnnpihjmjmab
open Go.RowKit

set_option maxHeartbeats 2000000 in
theorem sleqi_any (a : Option Addr) (n cap : Nat) (a2 : Option Addr) (m cap2 : Nat) (xs ys : List Itm) (r : Bool) (hr : Hid (decide (xs = ys) = r)) (w : World) (hn : n ≤ 140737488351232) (hm : m ≤ 140737488351232) (hx : Rw encI 6 w (.slice a n cap) xs) (hy : Rw encI 6 w (.slice a2 m cap2) ys) :
    Calls Try.prog 73 #[.slice a n cap, .slice a2 m cap2] w fun e w' => e = .returned (.bool r) ∧ Below w.heap.size w w' := by
  have HX := hide hx
  have HY := hide hy
  clear hx hy
  by_cases hnm : n = m
  rotate_left
  · have d0 := nb_false hnm
    obtain rfl : r = false := by rw [← unhide hr]; simpa using same_len (unhide HX).len.1 (unhide HY).len.1 hnm
    go_enter Try.func73, Try.ntmps73
    go_wp2
    go_ret
    exact ⟨rfl, Below.refl _ _⟩
  subst hnm
  have d0 : ((n : Int) != (n : Int)) = false := by simp
  go_enter Try.func73, Try.ntmps73
  go_wp2
  go_loopw [13] (fun i wr => ∃ k : Nat, k ≤ n ∧ i = .int .i64 k ∧ (∀ j : Nat, j < k → xs[j]? = ys[j]?) ∧ Below w.heap.size w wr) (fun i _ => n - (intOf i).toNat)
  case atStart => exact ⟨0, Nat.zero_le _, rfl, fun j hj => absurd hj (Nat.not_lt_zero _), Below.refl _ _⟩
  case round =>
    obtain ⟨k, hk, rfl, hno, hbel⟩ := hrel
    have HN := hide hno
    have HB := hide hbel
    have hsz := hbel.size
    clear hno
    by_cases hlt : k < n
    · obtain ⟨x, b, off, hx, rfl, hb, hcap, hc⟩ := (unhide HX).at hlt
      obtain ⟨y, b2, off2, hy, rfl, hb2, hcap2, hc2⟩ := (unhide HY).at hlt
      have l0 := later_some (w := wr) (b := b) (o := off + k * 6) (v := .int .i64 x.1) (by omega) ((hbel.cell (p := ⟨b, off + k * 6, none⟩) hb).trans (hc 0 (by omega)))
      have l1 := later_some (w := wr) (b := b) (o := off + k * 6 + 1) (v := .int .i64 x.2.1) (by omega) ((hbel.cell (p := ⟨b, off + k * 6 + 1, none⟩) hb).trans (hc 1 (by omega)))
      have l2 := later_some (w := wr) (b := b) (o := off + k * 6 + 2) (v := .int .i64 x.2.2.1) (by omega) ((hbel.cell (p := ⟨b, off + k * 6 + 2, none⟩) hb).trans (hc 2 (by omega)))
      have l3 := later_some (w := wr) (b := b) (o := off + k * 6 + 3) (v := .int .i64 x.2.2.2.1) (by omega) ((hbel.cell (p := ⟨b, off + k * 6 + 3, none⟩) hb).trans (hc 3 (by omega)))
      have l4 := later_some (w := wr) (b := b) (o := off + k * 6 + 4) (v := .int .i64 x.2.2.2.2.1) (by omega) ((hbel.cell (p := ⟨b, off + k * 6 + 4, none⟩) hb).trans (hc 4 (by omega)))
      have l5 := later_some (w := wr) (b := b) (o := off + k * 6 + 5) (v := .string x.2.2.2.2.2) (by omega) ((hbel.cell (p := ⟨b, off + k * 6 + 5, none⟩) hb).trans (hc 5 (by omega)))
      have m0 := later_some (w := wr) (b := b2) (o := off2 + k * 6) (v := .int .i64 y.1) (by omega) ((hbel.cell (p := ⟨b2, off2 + k * 6, none⟩) hb2).trans (hc2 0 (by omega)))
      have m1 := later_some (w := wr) (b := b2) (o := off2 + k * 6 + 1) (v := .int .i64 y.2.1) (by omega) ((hbel.cell (p := ⟨b2, off2 + k * 6 + 1, none⟩) hb2).trans (hc2 1 (by omega)))
      have m2 := later_some (w := wr) (b := b2) (o := off2 + k * 6 + 2) (v := .int .i64 y.2.2.1) (by omega) ((hbel.cell (p := ⟨b2, off2 + k * 6 + 2, none⟩) hb2).trans (hc2 2 (by omega)))
      have m3 := later_some (w := wr) (b := b2) (o := off2 + k * 6 + 3) (v := .int .i64 y.2.2.2.1) (by omega) ((hbel.cell (p := ⟨b2, off2 + k * 6 + 3, none⟩) hb2).trans (hc2 3 (by omega)))
      have m4 := later_some (w := wr) (b := b2) (o := off2 + k * 6 + 4) (v := .int .i64 y.2.2.2.2.1) (by omega) ((hbel.cell (p := ⟨b2, off2 + k * 6 + 4, none⟩) hb2).trans (hc2 4 (by omega)))
      have m5 := later_some (w := wr) (b := b2) (o := off2 + k * 6 + 5) (v := .string y.2.2.2.2.2) (by omega) ((hbel.cell (p := ⟨b2, off2 + k * 6 + 5, none⟩) hb2).trans (hc2 5 (by omega)))
      have HX1 := hide hx
      have HY1 := hide hy
      clear hc hc2 hx hy hbel
      rcases Bool.eq_false_or_eq_true (decide (x = y)) with he | he
      · have hrun := eqI_run x y true he
        have HE := hide (same_step (unhide HX1) (unhide HY1) (of_decide_eq_true he) (unhide HN))
        clear he
        go_wp2_with fail
        refine wp_region_later (by kernel_rfl) (by kernel_rfl) ?_
        repeat (first | go_big_quiet_step (fail) | quiet_step (fail))
        refine wpQuiet_nil ?_
        intro w1 hb1
        have HB1 := hide ((unhide HB).trans (hb1.mono hsz))
        clear hb1 HB hrun
        go_wp2
        go_roundw
        case rel => exact ⟨k + 1, by omega, by go_num, unhide HE, unhide HB1⟩
        case measure => simp [intOf]; omega
      · have hrun := eqI_run x y false he
        obtain rfl : r = false := by rw [← unhide hr]; simpa using same_not (unhide HX1) (unhide HY1) (of_decide_eq_false he)
        clear he
        go_wp2_with fail
        refine wp_region_later (by kernel_rfl) (by kernel_rfl) ?_
        repeat (first | go_big_quiet_step (fail) | quiet_step (fail))
        refine wpQuiet_nil ?_
        intro w1 hb1
        have HB1 := hide ((unhide HB).trans (hb1.mono hsz))
        clear hb1 HB hrun
        go_wp2
        go_ret
        exact ⟨rfl, unhide HB1⟩
    · obtain rfl : r = true := by
        rw [← unhide hr]
        have e : k = n := by omega
        simpa using same_all (unhide HX).len.1 (unhide HY).len.1 (e ▸ unhide HN)
      clear hbel
      go_wp2
      go_ret
      exact ⟨rfl, unhide HB⟩

set_option maxHeartbeats 2000000 in
theorem sleqf_any (a : Option Addr) (n cap : Nat) (a2 : Option Addr) (m cap2 : Nat) (xs ys : List Flr) (r : Bool) (hr : Hid (decide (xs = ys) = r)) (w : World) (hn : n ≤ 140737488351232) (hm : m ≤ 140737488351232) (hx : Rw encF 2 w (.slice a n cap) xs) (hy : Rw encF 2 w (.slice a2 m cap2) ys) :
    Calls Try.prog 74 #[.slice a n cap, .slice a2 m cap2] w fun e w' => e = .returned (.bool r) ∧ Below w.heap.size w w' := by
  have HX := hide hx
  have HY := hide hy
  clear hx hy
  by_cases hnm : n = m
  rotate_left
  · have d0 := nb_false hnm
    obtain rfl : r = false := by rw [← unhide hr]; simpa using same_len (unhide HX).len.1 (unhide HY).len.1 hnm
    go_enter Try.func74, Try.ntmps74
    go_wp2
    go_ret
    exact ⟨rfl, Below.refl _ _⟩
  subst hnm
  have d0 : ((n : Int) != (n : Int)) = false := by simp
  go_enter Try.func74, Try.ntmps74
  go_wp2
  go_loopw [13] (fun i wr => ∃ k : Nat, k ≤ n ∧ i = .int .i64 k ∧ (∀ j : Nat, j < k → xs[j]? = ys[j]?) ∧ Below w.heap.size w wr) (fun i _ => n - (intOf i).toNat)
  case atStart => exact ⟨0, Nat.zero_le _, rfl, fun j hj => absurd hj (Nat.not_lt_zero _), Below.refl _ _⟩
  case round =>
    obtain ⟨k, hk, rfl, hno, hbel⟩ := hrel
    have HN := hide hno
    have HB := hide hbel
    have hsz := hbel.size
    clear hno
    by_cases hlt : k < n
    · obtain ⟨x, b, off, hx, rfl, hb, hcap, hc⟩ := (unhide HX).at hlt
      obtain ⟨y, b2, off2, hy, rfl, hb2, hcap2, hc2⟩ := (unhide HY).at hlt
      have l0 := later_some (w := wr) (b := b) (o := off + k * 2) (v := .int .i64 x.1) (by omega) ((hbel.cell (p := ⟨b, off + k * 2, none⟩) hb).trans (hc 0 (by omega)))
      have l1 := later_some (w := wr) (b := b) (o := off + k * 2 + 1) (v := .int .i64 x.2) (by omega) ((hbel.cell (p := ⟨b, off + k * 2 + 1, none⟩) hb).trans (hc 1 (by omega)))
      have m0 := later_some (w := wr) (b := b2) (o := off2 + k * 2) (v := .int .i64 y.1) (by omega) ((hbel.cell (p := ⟨b2, off2 + k * 2, none⟩) hb2).trans (hc2 0 (by omega)))
      have m1 := later_some (w := wr) (b := b2) (o := off2 + k * 2 + 1) (v := .int .i64 y.2) (by omega) ((hbel.cell (p := ⟨b2, off2 + k * 2 + 1, none⟩) hb2).trans (hc2 1 (by omega)))
      have HX1 := hide hx
      have HY1 := hide hy
      clear hc hc2 hx hy hbel
      rcases Bool.eq_false_or_eq_true (decide (x = y)) with he | he
      · have hrun := eqF_run x y true he
        have HE := hide (same_step (unhide HX1) (unhide HY1) (of_decide_eq_true he) (unhide HN))
        clear he
        go_wp2_with fail
        refine wp_region_later (by kernel_rfl) (by kernel_rfl) ?_
        repeat (first | go_big_quiet_step (fail) | quiet_step (fail))
        refine wpQuiet_nil ?_
        intro w1 hb1
        have HB1 := hide ((unhide HB).trans (hb1.mono hsz))
        clear hb1 HB hrun
        go_wp2
        go_roundw
        case rel => exact ⟨k + 1, by omega, by go_num, unhide HE, unhide HB1⟩
        case measure => simp [intOf]; omega
      · have hrun := eqF_run x y false he
        obtain rfl : r = false := by rw [← unhide hr]; simpa using same_not (unhide HX1) (unhide HY1) (of_decide_eq_false he)
        clear he
        go_wp2_with fail
        refine wp_region_later (by kernel_rfl) (by kernel_rfl) ?_
        repeat (first | go_big_quiet_step (fail) | quiet_step (fail))
        refine wpQuiet_nil ?_
        intro w1 hb1
        have HB1 := hide ((unhide HB).trans (hb1.mono hsz))
        clear hb1 HB hrun
        go_wp2
        go_ret
        exact ⟨rfl, unhide HB1⟩
    · obtain rfl : r = true := by
        rw [← unhide hr]
        have e : k = n := by omega
        simpa using same_all (unhide HX).len.1 (unhide HY).len.1 (e ▸ unhide HN)
      clear hbel
      go_wp2
      go_ret
      exact ⟨rfl, unhide HB⟩

set_option maxHeartbeats 2000000 in
theorem isame_any (ai : Option Addr) (ni ci : Nat) (xs : List Itm) (af : Option Addr) (nf cf : Nat) (fs : List Flr) (bi : Option Addr) (mi di : Nat) (ys : List Itm) (bf : Option Addr) (mf df : Nat) (gs : List Flr) (r : Bool) (hr : Hid ((decide (xs = ys) && decide (fs = gs)) = r)) (w : World)
    (hni : ni ≤ 140737488351232) (hnf : nf ≤ 140737488351232) (hmi : mi ≤ 140737488351232) (hmf : mf ≤ 140737488351232) (hx : Rw encI 6 w (.slice ai ni ci) xs) (hf : Rw encF 2 w (.slice af nf cf) fs) (hy : Rw encI 6 w (.slice bi mi di) ys) (hg : Rw encF 2 w (.slice bf mf df) gs) :
    Calls Try.prog 46 #[.agg #[.slice ai ni ci, .slice af nf cf], .agg #[.slice bi mi di, .slice bf mf df]] w fun e w' => e = .returned (.bool r) ∧ Below w.heap.size w w' := by
  have HX := hide hx
  have HY := hide hy
  have HF := hide hf
  have HG := hide hg
  clear hx hy hf hg
  obtain ⟨r1, hr1⟩ : ∃ r1, decide (xs = ys) = r1 := ⟨_, rfl⟩
  obtain ⟨r2, hr2⟩ : ∃ r2, decide (fs = gs) = r2 := ⟨_, rfl⟩
  have HR1 := hide hr1
  have HR2 := hide hr2
  have hrr := unhide hr
  rw [hr1, hr2] at hrr
  clear hr1 hr2 hr
  cases r1
  · obtain rfl : r = false := hrr.symm
    go_enter Try.func46, Try.ntmps46
    go_wp2_with fail
    refine (sleqi_any ai ni ci bi mi di xs ys _ HR1 _ hni hmi (((unhide HX).alloc _).alloc _) (((unhide HY).alloc _).alloc _)).mono ?_
    rintro e w1 ⟨rfl, b1⟩
    have HB := hide ((((Below.refl w.heap.size w).alloc (Nat.le_refl _) _).alloc (by simp) _).trans (b1.mono (by simp; omega)))
    clear b1
    go_wp2
    go_ret
    exact ⟨rfl, unhide HB⟩
  · obtain rfl : r = r2 := hrr.symm
    clear hrr
    go_enter Try.func46, Try.ntmps46
    go_wp2_with fail
    refine (sleqi_any ai ni ci bi mi di xs ys _ HR1 _ hni hmi (((unhide HX).alloc _).alloc _) (((unhide HY).alloc _).alloc _)).mono ?_
    rintro e w1 ⟨rfl, b1⟩
    obtain ⟨p0, p1, -⟩ := blk_cells2 ((b1.block w.heap.size (by simp; omega)).trans (lowB2 w _ _))
    obtain ⟨q0, q1, -⟩ := blk_cells2 ((b1.block (w.heap.size + 1) (by simp)).trans (newB2 w _ _))
    have HB := hide ((((Below.refl w.heap.size w).alloc (Nat.le_refl _) _).alloc (by simp) _).trans (b1.mono (by simp; omega)))
    clear b1
    go_wp2_with fail
    refine (sleqf_any af nf cf bf mf df fs gs _ HR2 _ hnf hmf ((unhide HF).later (unhide HB)) ((unhide HG).later (unhide HB))).mono ?_
    rintro e w2 ⟨rfl, b2⟩
    have HB2 := hide ((unhide HB).trans (b2.mono (unhide HB).size))
    clear b2
    go_wp2
    go_ret
    exact ⟨rfl, unhide HB2⟩
end Go.Proofs.Ytbajnnpihjmjmab
