/-
  FnExactStateLeq: at every two states StateLeq answers as the specification; it writes into no argument: at every argument the law answers true, with no panic, and writes into nothing that was there.
-/
import Derived.Test.YtdpaocikmijioadRows
import Derived.Test.YtdpaocikmijioadStA
import Derived.Test.YtdpaocikmijioadStT
import Derived.Test.YtdpaocikmijioadStE
import Derived.Test.YtdpaocikmijioadStO
import Derived.Test.YtdpaocikmijioadSt3
import Derived.Test.YtdpaocikmijioadVwL
import Derived.WalkKit
import Derived.ProofKit
import Derived.OpenShut
import Derived.ShutString
import Derived.ChangeOld
import Derived.Below
import Derived.Carry
namespace Go.Proofs.Ytdpaocikmijioad.fnExactStateLeq
open Go.ChangeShapes Go.WideShapes Go.ChangeAt Go.RowKit
open Go.ChangeMaps (open_string shut_string)

theorem own : ownKnob Try.prog.godebug = none := by kernel_rfl
theorem laidOut : laidOutB Try.prog = true := by kernel_rfl

set_option maxHeartbeats 8000000 in
set_option maxRecDepth 100000 in
theorem walk (w : World) (aiA : Option Addr) (niA ciA : Nat) (xsA : List Itm) (afA : Option Addr) (nfA cfA : Nat) (fsA : List Flr) (hniA : niA ≤ 9223372036854775807) (hnfA : nfA ≤ 9223372036854775807) (hxA : Rw encI 6 w (.slice aiA niA ciA) xsA) (hfA : Rw encF 2 w (.slice afA nfA cfA) fsA) (hbigA : Big xsA) (_ : FitI xsA) (_ : FitF fsA) (aiB : Option Addr) (niB ciB : Nat) (xsB : List Itm) (afB : Option Addr) (nfB cfB : Nat) (fsB : List Flr) (hniB : niB ≤ 9223372036854775807) (hnfB : nfB ≤ 9223372036854775807) (hxB : Rw encI 6 w (.slice aiB niB ciB) xsB) (hfB : Rw encF 2 w (.slice afB nfB cfB) fsB) (hbigB : Big xsB) (_ : FitI xsB) (_ : FitF fsB) :
    Calls Try.prog 4 #[.agg #[.slice aiA niA ciA, .slice afA nfA cfA], .agg #[.slice aiB niB ciB, .slice afB nfB cfB]] w fun e w' => e = .returned (.bool true) ∧ Below w.heap.size w w' := by
  have R_xA := hide hxA
  have R_fA := hide hfA
  have R_xB := hide hxB
  have R_fB := hide hfB
  clear hxA hfA hxB hfB
  obtain ⟨rs, hrs⟩ : ∃ rs, leqS xsA fsA xsB fsB = rs := ⟨_, rfl⟩
  have HRS := hide hrs
  clear hrs
  go_enter Try.func4, Try.ntmps4
  go_wp2_with fail
  refine (szstate_any aiA niA ciA xsA hbigA afA nfA cfA 1048576 (by omega) (by omega) _ hniA hnfA (((unhide R_xA).alloc _).alloc _)).mono ?_
  rintro e w1 ⟨h, b1⟩
  have cw1 := (((Below.refl w.heap.size w).alloc (Nat.le_refl _) _).alloc (by simp <;> omega) _).trans (b1.mono (by simp <;> omega))
  have zw1 := cw1.size
  have K_a : Hid (w1.heap[w.heap.size]? = some (.cells #[.slice aiA niA ciA, .slice afA nfA cfA] 25 (0, 0)) ∧ w.heap.size < w1.heap.size) := hide ⟨(b1.block _ (by simp <;> omega)).trans (lowB2 w _ _), by have := b1.size; simp at this; omega⟩
  have y_a := (unhide K_a).2
  have K_b : Hid (w1.heap[w.heap.size + 1]? = some (.cells #[.slice aiB niB ciB, .slice afB nfB cfB] 25 (0, 0)) ∧ w.heap.size + 1 < w1.heap.size) := hide ⟨(b1.block _ (by simp <;> omega)).trans (newB2 w _ _), by have := b1.size; simp at this; omega⟩
  have y_b := (unhide K_b).2
  have R_xA := hide ((unhide R_xA).later cw1)
  have R_fA := hide ((unhide R_fA).later cw1)
  have R_xB := hide ((unhide R_xB).later cw1)
  have R_fB := hide ((unhide R_fB).later cw1)
  have BL := hide cw1
  clear b1 cw1
  obtain ⟨a_0, a_1, -⟩ := blk_cells2 (unhide K_a).1
  have n_a := (unhide K_a).2
  obtain ⟨b_0, b_1, -⟩ := blk_cells2 (unhide K_b).1
  have n_b := (unhide K_b).2
  rcases h with rfl | ⟨r, rfl, hr1, hr2, hm1A, hm2A, hSA⟩
  · go_wp2
    go_ret
    exact ⟨rfl, unhide BL⟩
  have hd : decide (r < 0) = false := by simp; omega
  have HSA := hide hSA
  clear hSA
  go_wp2_with fail
  refine (szstate_any aiB niB ciB xsB hbigB afB nfB cfB r hr1 (by omega) _ hniB hnfB (unhide R_xB)).mono ?_
  rintro e w2 ⟨h, b2⟩
  clear a_0 a_1 n_a b_0 b_1 n_b
  have cw2 := b2
  have zw2 := cw2.size
  have K_a := hide (keptblk cw2 K_a)
  have K_b := hide (keptblk cw2 K_b)
  have R_xA := hide ((unhide R_xA).later cw2)
  have R_fA := hide ((unhide R_fA).later cw2)
  have R_xB := hide ((unhide R_xB).later cw2)
  have R_fB := hide ((unhide R_fB).later cw2)
  have BL := hide ((unhide BL).trans (cw2.mono (unhide BL).size))
  clear b2 cw2
  obtain ⟨a_0, a_1, -⟩ := blk_cells2 (unhide K_a).1
  have n_a := (unhide K_a).2
  obtain ⟨b_0, b_1, -⟩ := blk_cells2 (unhide K_b).1
  have n_b := (unhide K_b).2
  rcases h with rfl | ⟨s, rfl, hs1, hs2, hm1B, hm2B, hSB⟩
  · go_wp2
    go_ret
    exact ⟨rfl, unhide BL⟩
  have hd2 : decide (s < 0) = false := by simp; omega
  have HSB := hide hSB
  clear hSB
  clear a_0 a_1 n_a b_0 b_1 n_b
  obtain ⟨x0, x1, -⟩ := blk_cells2 (unhide K_a).1
  obtain ⟨y0, y1, -⟩ := blk_cells2 (unhide K_b).1
  have X0 := hide x0; have X1 := hide x1; have Y0 := hide y0; have Y1 := hide y1
  go_wp2_with fail
  clear x0 x1 y0 y1
  go_region_held3 (fun W => Below w2.heap.size w2 W ∧ W.cell? ⟨w.heap.size, 0, none⟩ = some (.slice aiA niA ciA) ∧ W.cell? ⟨w.heap.size, 1, none⟩ = some (.slice afA nfA cfA) ∧ W.cell? ⟨w.heap.size + 1, 0, none⟩ = some (.slice aiB niB ciB) ∧ W.cell? ⟨w.heap.size + 1, 1, none⟩ = some (.slice afB nfB cfB))
    (first | (with_reducible exact keep4 (unhide K_a).2 (unhide K_a).2 (unhide K_b).2 (unhide K_b).2 (unhide X0) (unhide X1) (unhide Y0) (unhide Y1) (Below.refl _ _)) | (with_reducible exact keep4 (unhide K_a).2 (unhide K_a).2 (unhide K_b).2 (unhide K_b).2 (unhide X0) (unhide X1) (unhide Y0) (unhide Y1) ((Below.refl _ _).drew)) | (with_reducible exact keep4 (unhide K_a).2 (unhide K_a).2 (unhide K_b).2 (unhide K_b).2 (unhide X0) (unhide X1) (unhide Y0) (unhide Y1) (by assumption)))
    (first
      | (go_at_call_of 10 (Value.agg #[Value.slice aiA niA ciA, Value.slice afA nfA cfA]); refine (tostate_any aiA niA ciA xsA afA nfA cfA fsA _ hm1A hm2A ?_ ?_).mono ?_; exact (unhide R_xA).later (kb1 (by assumption)); exact (unhide R_fA).later (kb1 (by assumption)); rintro e w3 ⟨ta1, tc1, tb1, td1, rfl, o1, o2, b6⟩; have R_tI1 := hide (o1.rw encI_len); have R_tF1 := hide (o2.rw encF_len); clear o1 o2; have bw3 := kb2 (by assumption) b6; clear b6)
      | (go_at_call_of 10 (Value.agg #[Value.slice aiB niB ciB, Value.slice afB nfB cfB]); refine (tostate_any aiB niB ciB xsB afB nfB cfB fsB _ hm1B hm2B ?_ ?_).mono ?_; exact (unhide R_xB).later (kb1 (by assumption)); exact (unhide R_fB).later (kb1 (by assumption)); rintro e w4 ⟨ta2, tc2, tb2, td2, rfl, o1, o2, b6⟩; have R_tI2 := hide (o1.rw encI_len); have R_tF2 := hide (o2.rw encF_len); clear o1 o2; have R_tI1 := hide ((unhide R_tI1).later b6); have R_tF1 := hide ((unhide R_tF1).later b6); have bw4 := kb2 (by assumption) b6; clear b6)
      | (go_at_call 13; refine (sleq_any ta1 niA tc1 xsA tb1 nfA td1 fsA ta2 niB tc2 xsB tb2 nfB td2 fsB rs HRS _ (by omega) (by omega) (by omega) (by omega) (unhide R_tI1) (unhide R_tF1) (unhide R_tI2) (unhide R_tF2)).mono ?_; rintro e w5 ⟨rfl, b8⟩; have bw5 := kb2 (by assumption) b8; clear b8))
  have cw5 : Below w2.heap.size w2 w5 := bw5
  clear X0 X1 Y0 Y1 bw3 bw4 bw5 R_tI1 R_tF1 R_tI2 R_tF2
  have K_a := hide (keptblk cw5 K_a)
  have K_b := hide (keptblk cw5 K_b)
  have R_xA := hide ((unhide R_xA).later cw5)
  have R_fA := hide ((unhide R_fA).later cw5)
  have R_xB := hide ((unhide R_xB).later cw5)
  have R_fB := hide ((unhide R_fB).later cw5)
  have BL := hide ((unhide BL).trans (cw5.mono (unhide BL).size))
  clear cw5
  obtain ⟨a_0, a_1, -⟩ := blk_cells2 (unhide K_a).1
  have n_a := (unhide K_a).2
  obtain ⟨b_0, b_1, -⟩ := blk_cells2 (unhide K_b).1
  have n_b := (unhide K_b).2
  go_wp2_with fail
  refine (tostate_any aiA niA ciA xsA afA nfA cfA fsA _ hm1A hm2A ((unhide R_xA)) ((unhide R_fA))).mono ?_
  rintro e w6 ⟨a1, c1, b1, d1, rfl, o1, o2, b6⟩
  clear a_0 a_1 n_a b_0 b_1 n_b
  have cw6 := b6
  have zw6 := cw6.size
  have K_a := hide (keptblk cw6 K_a)
  have K_b := hide (keptblk cw6 K_b)
  have R_xA := hide ((unhide R_xA).later cw6)
  have R_fA := hide ((unhide R_fA).later cw6)
  have R_xB := hide ((unhide R_xB).later cw6)
  have R_fB := hide ((unhide R_fB).later cw6)
  have BL := hide ((unhide BL).trans (cw6.mono (unhide BL).size))
  have R_I1 := hide (o1.rw encI_len)
  have R_F1 := hide (o2.rw encF_len)
  clear b6 cw6
  obtain ⟨a_0, a_1, -⟩ := blk_cells2 (unhide K_a).1
  have n_a := (unhide K_a).2
  obtain ⟨b_0, b_1, -⟩ := blk_cells2 (unhide K_b).1
  have n_b := (unhide K_b).2
  clear o1 o2
  go_wp2_with fail
  refine (tostate_any aiB niB ciB xsB afB nfB cfB fsB _ hm1B hm2B ((unhide R_xB).alloc _) ((unhide R_fB).alloc _)).mono ?_
  rintro e w7 ⟨a2, c2, b2, d2, rfl, o1, o2, b7⟩
  clear a_0 a_1 n_a b_0 b_1 n_b
  have cw7 := ((Below.refl w6.heap.size w6).alloc (Nat.le_refl _) _).trans (b7.mono (by simp <;> omega))
  have zw7 := cw7.size
  have K_a := hide (keptblk cw7 K_a)
  have K_b := hide (keptblk cw7 K_b)
  have K_x : Hid (w7.heap[w6.heap.size]? = some (.cells #[.slice a1 niA c1, .slice b1 nfA d1] 31 (0, 0)) ∧ w6.heap.size < w7.heap.size) := hide ⟨(b7.block _ (by simp <;> omega)).trans (newB1 w6 _), by have := b7.size; simp at this; omega⟩
  have y_x := (unhide K_x).2
  have R_xA := hide ((unhide R_xA).later cw7)
  have R_fA := hide ((unhide R_fA).later cw7)
  have R_xB := hide ((unhide R_xB).later cw7)
  have R_fB := hide ((unhide R_fB).later cw7)
  have R_I1 := hide ((unhide R_I1).later cw7)
  have R_F1 := hide ((unhide R_F1).later cw7)
  have BL := hide ((unhide BL).trans (cw7.mono (unhide BL).size))
  have R_I2 := hide (o1.rw encI_len)
  have R_F2 := hide (o2.rw encF_len)
  clear b7 cw7
  obtain ⟨a_0, a_1, -⟩ := blk_cells2 (unhide K_a).1
  have n_a := (unhide K_a).2
  obtain ⟨b_0, b_1, -⟩ := blk_cells2 (unhide K_b).1
  have n_b := (unhide K_b).2
  obtain ⟨x_0, x_1, -⟩ := blk_cells2 (unhide K_x).1
  have n_x := (unhide K_x).2
  clear o1 o2
  go_wp2_with fail
  refine (ileq_any a1 niA c1 xsA b1 nfA d1 fsA a2 niB c2 xsB b2 nfB d2 fsB rs HRS _ (by omega) (by omega) (by omega) (by omega) ((unhide R_I1).alloc _) ((unhide R_F1).alloc _) ((unhide R_I2).alloc _) ((unhide R_F2).alloc _)).mono ?_
  rintro e w8 ⟨rfl, b8⟩
  clear a_0 a_1 n_a b_0 b_1 n_b x_0 x_1 n_x
  have cw8 := ((Below.refl w7.heap.size w7).alloc (Nat.le_refl _) _).trans (b8.mono (by simp <;> omega))
  have zw8 := cw8.size
  have K_a := hide (keptblk cw8 K_a)
  have K_b := hide (keptblk cw8 K_b)
  have K_x := hide (keptblk cw8 K_x)
  have K_y : Hid (w8.heap[w7.heap.size]? = some (.cells #[.slice a2 niB c2, .slice b2 nfB d2] 31 (0, 0)) ∧ w7.heap.size < w8.heap.size) := hide ⟨(b8.block _ (by simp <;> omega)).trans (newB1 w7 _), by have := b8.size; simp at this; omega⟩
  have y_y := (unhide K_y).2
  have R_xA := hide ((unhide R_xA).later cw8)
  have R_fA := hide ((unhide R_fA).later cw8)
  have R_xB := hide ((unhide R_xB).later cw8)
  have R_fB := hide ((unhide R_fB).later cw8)
  have R_I1 := hide ((unhide R_I1).later cw8)
  have R_F1 := hide ((unhide R_F1).later cw8)
  have R_I2 := hide ((unhide R_I2).later cw8)
  have R_F2 := hide ((unhide R_F2).later cw8)
  have BL := hide ((unhide BL).trans (cw8.mono (unhide BL).size))
  clear b8 cw8
  obtain ⟨a_0, a_1, -⟩ := blk_cells2 (unhide K_a).1
  have n_a := (unhide K_a).2
  obtain ⟨b_0, b_1, -⟩ := blk_cells2 (unhide K_b).1
  have n_b := (unhide K_b).2
  obtain ⟨x_0, x_1, -⟩ := blk_cells2 (unhide K_x).1
  have n_x := (unhide K_x).2
  obtain ⟨y_0, y_1, -⟩ := blk_cells2 (unhide K_y).1
  have n_y := (unhide K_y).2
  have hne : (rs != rs) = false := by cases rs <;> rfl
  clear a_0 a_1 n_a b_0 b_1 n_b x_0 x_1 n_x y_0 y_1 n_y
  obtain ⟨x0, x1, -⟩ := blk_cells2 (unhide K_x).1
  obtain ⟨y0, y1, -⟩ := blk_cells2 (unhide K_a).1
  have X0 := hide x0; have X1 := hide x1; have Y0 := hide y0; have Y1 := hide y1
  go_wp2_with fail
  clear x0 x1 y0 y1
  go_region_held3 (fun W => Below w8.heap.size w8 W ∧ W.cell? ⟨w6.heap.size, 0, none⟩ = some (.slice a1 niA c1) ∧ W.cell? ⟨w6.heap.size, 1, none⟩ = some (.slice b1 nfA d1) ∧ W.cell? ⟨w.heap.size, 0, none⟩ = some (.slice aiA niA ciA) ∧ W.cell? ⟨w.heap.size, 1, none⟩ = some (.slice afA nfA cfA))
    (first | (with_reducible exact keep4 (unhide K_x).2 (unhide K_x).2 (unhide K_a).2 (unhide K_a).2 (unhide X0) (unhide X1) (unhide Y0) (unhide Y1) (Below.refl _ _)) | (with_reducible exact keep4 (unhide K_x).2 (unhide K_x).2 (unhide K_a).2 (unhide K_a).2 (unhide X0) (unhide X1) (unhide Y0) (unhide Y1) ((Below.refl _ _).drew)) | (with_reducible exact keep4 (unhide K_x).2 (unhide K_x).2 (unhide K_a).2 (unhide K_a).2 (unhide X0) (unhide X1) (unhide Y0) (unhide Y1) (by assumption)))
    (first
      | (go_at_call 10; refine (tostate_any _ _ _ xsA _ _ _ fsA _ hm1A hm2A ?_ ?_).mono ?_; exact (unhide R_xA).later (kb1 (by assumption)); exact (unhide R_fA).later (kb1 (by assumption)); rintro e w9 ⟨ta, tb, tc, td, rfl, o1, o2, b6⟩; have O5 := hide (o1.rw encI_len); have O6 := hide (o2.rw encF_len); clear o1 o2; have b6k := kb2 (by assumption) b6; clear b6)
      | (go_at_call 12; refine (eqstate_same _ _ _ _ _ xsA _ _ _ _ _ fsA _ (by omega) (by omega) ?_ (unhide O5) ?_ (unhide O6)).mono ?_; exact (unhide R_I1).later (kb1 (by assumption)); exact (unhide R_F1).later (kb1 (by assumption)); rintro e w10 ⟨rfl, b7⟩; have b7k := kb2 (by assumption) b7; clear b7))
  have cw10 : Below w8.heap.size w8 w10 := b7k
  clear X0 X1 Y0 Y1 b6k b7k O5 O6
  have K_a := hide (keptblk cw10 K_a)
  have K_b := hide (keptblk cw10 K_b)
  have K_x := hide (keptblk cw10 K_x)
  have K_y := hide (keptblk cw10 K_y)
  have R_xA := hide ((unhide R_xA).later cw10)
  have R_fA := hide ((unhide R_fA).later cw10)
  have R_xB := hide ((unhide R_xB).later cw10)
  have R_fB := hide ((unhide R_fB).later cw10)
  have R_I1 := hide ((unhide R_I1).later cw10)
  have R_F1 := hide ((unhide R_F1).later cw10)
  have R_I2 := hide ((unhide R_I2).later cw10)
  have R_F2 := hide ((unhide R_F2).later cw10)
  have BL := hide ((unhide BL).trans (cw10.mono (unhide BL).size))
  clear cw10
  obtain ⟨a_0, a_1, -⟩ := blk_cells2 (unhide K_a).1
  have n_a := (unhide K_a).2
  obtain ⟨b_0, b_1, -⟩ := blk_cells2 (unhide K_b).1
  have n_b := (unhide K_b).2
  obtain ⟨x_0, x_1, -⟩ := blk_cells2 (unhide K_x).1
  have n_x := (unhide K_x).2
  obtain ⟨y_0, y_1, -⟩ := blk_cells2 (unhide K_y).1
  have n_y := (unhide K_y).2
  clear a_0 a_1 n_a b_0 b_1 n_b x_0 x_1 n_x y_0 y_1 n_y
  obtain ⟨x0, x1, -⟩ := blk_cells2 (unhide K_y).1
  obtain ⟨y0, y1, -⟩ := blk_cells2 (unhide K_b).1
  have X0 := hide x0; have X1 := hide x1; have Y0 := hide y0; have Y1 := hide y1
  go_wp2_with fail
  clear x0 x1 y0 y1
  go_region_held3 (fun W => Below w10.heap.size w10 W ∧ W.cell? ⟨w7.heap.size, 0, none⟩ = some (.slice a2 niB c2) ∧ W.cell? ⟨w7.heap.size, 1, none⟩ = some (.slice b2 nfB d2) ∧ W.cell? ⟨w.heap.size + 1, 0, none⟩ = some (.slice aiB niB ciB) ∧ W.cell? ⟨w.heap.size + 1, 1, none⟩ = some (.slice afB nfB cfB))
    (first | (with_reducible exact keep4 (unhide K_y).2 (unhide K_y).2 (unhide K_b).2 (unhide K_b).2 (unhide X0) (unhide X1) (unhide Y0) (unhide Y1) (Below.refl _ _)) | (with_reducible exact keep4 (unhide K_y).2 (unhide K_y).2 (unhide K_b).2 (unhide K_b).2 (unhide X0) (unhide X1) (unhide Y0) (unhide Y1) ((Below.refl _ _).drew)) | (with_reducible exact keep4 (unhide K_y).2 (unhide K_y).2 (unhide K_b).2 (unhide K_b).2 (unhide X0) (unhide X1) (unhide Y0) (unhide Y1) (by assumption)))
    (first
      | (go_at_call 10; refine (tostate_any _ _ _ xsB _ _ _ fsB _ hm1B hm2B ?_ ?_).mono ?_; exact (unhide R_xB).later (kb1 (by assumption)); exact (unhide R_fB).later (kb1 (by assumption)); rintro e w11 ⟨ta, tb, tc, td, rfl, o1, o2, b6⟩; have O5 := hide (o1.rw encI_len); have O6 := hide (o2.rw encF_len); clear o1 o2; have b6k := kb2 (by assumption) b6; clear b6)
      | (go_at_call 12; refine (eqstate_same _ _ _ _ _ xsB _ _ _ _ _ fsB _ (by omega) (by omega) ?_ (unhide O5) ?_ (unhide O6)).mono ?_; exact (unhide R_I2).later (kb1 (by assumption)); exact (unhide R_F2).later (kb1 (by assumption)); rintro e w12 ⟨rfl, b7⟩; have b7k := kb2 (by assumption) b7; clear b7))
  have cw12 : Below w10.heap.size w10 w12 := b7k
  clear X0 X1 Y0 Y1 b6k b7k O5 O6
  have K_a := hide (keptblk cw12 K_a)
  have K_b := hide (keptblk cw12 K_b)
  have K_x := hide (keptblk cw12 K_x)
  have K_y := hide (keptblk cw12 K_y)
  have R_xA := hide ((unhide R_xA).later cw12)
  have R_fA := hide ((unhide R_fA).later cw12)
  have R_xB := hide ((unhide R_xB).later cw12)
  have R_fB := hide ((unhide R_fB).later cw12)
  have R_I1 := hide ((unhide R_I1).later cw12)
  have R_F1 := hide ((unhide R_F1).later cw12)
  have R_I2 := hide ((unhide R_I2).later cw12)
  have R_F2 := hide ((unhide R_F2).later cw12)
  have BL := hide ((unhide BL).trans (cw12.mono (unhide BL).size))
  clear cw12
  obtain ⟨a_0, a_1, -⟩ := blk_cells2 (unhide K_a).1
  have n_a := (unhide K_a).2
  obtain ⟨b_0, b_1, -⟩ := blk_cells2 (unhide K_b).1
  have n_b := (unhide K_b).2
  obtain ⟨x_0, x_1, -⟩ := blk_cells2 (unhide K_x).1
  have n_x := (unhide K_x).2
  obtain ⟨y_0, y_1, -⟩ := blk_cells2 (unhide K_y).1
  have n_y := (unhide K_y).2
  go_wp2
  go_ret
  exact ⟨rfl, unhide BL⟩

set_option maxHeartbeats 4000000 in
set_option maxRecDepth 100000 in
theorem lifted (os : Os) (started : os.Started) (H : Type) (enc : TypeId × Value → H) :
    ReturnsInHanded {} Try.checked os 4 .any (Rows.fnExactStateLeqSpec.pre6 enc Try.prog Try.f4 Rows.fnExactStateLeqRow.domain false) (Rows.fnExactStateLeqSpec.post enc Try.prog Try.f4 false true false false) := by
  refine returnsInHanded_of_change (C := Try.checked) own started (by kernel_rfl) Try.func4
    (ChangeSpec.witness6 (enc := enc) (C := Try.checked) false ⟨#[], #[.agg #[.slice none 0 0, .slice none 0 0], .agg #[.slice none 0 0, .slice none 0 0]], []⟩ 8 (by kernel_rfl) (by kernel_rfl) (by kernel_rfl) (by kernel_rfl)) ?_
  intro W base args ds gs before hval0 hW hcnd _
  have hval : ∀ (j : Nat) t v, Try.f4.params[j]? = some t → args[j]? = some v → Value.okWide Try.prog W .any base t v := hval0
  have hW' := hW
  obtain ⟨p, q, hA0, hV, rfl, hfz, hnd⟩ := hW
  have hA : DataW.TrodAll enc Try.prog W 0 (fun _ => true) true Try.f4.params.toList args.toList ds p := hA0
  rw [Try.params4] at hA hval
  obtain ⟨v0, vs0, d0, ds0, p0, q0, hargs0, rfl, rfl, h0, r0⟩ := trodAll_cons hA
  obtain ⟨v1, vs1, d1, ds1, p1, q1, hargs1, rfl, rfl, h1, r1⟩ := trodAll_cons r0
  obtain ⟨rfl, rfl, rfl⟩ := trodAll_nil r1
  obtain rfl : args = #[v0, v1] := by cases args; simp_all
  obtain ⟨rfl, rfl⟩ := trodVars_none hV
  have k0 := h0
  have lt0 : ∀ x ∈ p0, x.block < W.heap.size := by obtain ⟨m, hm⟩ := k0; exact DataW.trod_lt m _ _ _ hm
  have k1 := h1
  have lt1 : ∀ x ∈ p1, x.block < W.heap.size := by obtain ⟨m, hm⟩ := k1; exact DataW.trod_lt m _ _ _ hm
  obtain ⟨xai, xni, xci, xxs, xaf, xnf, xcf, xfs, rfl, xh1, xh2, xh3, xh4, xh5, xh6, xh7⟩ := open_state (hval 0 25 v0 rfl rfl) h0
  obtain ⟨yai, yni, yci, yxs, yaf, ynf, ycf, yfs, rfl, yh1, yh2, yh3, yh4, yh5, yh6, yh7⟩ := open_state (hval 1 25 v1 rfl rfl) h1
  clear hA0 hval0
  refine (walk W xai xni xci xxs xaf xnf xcf xfs xh1 xh2 xh3 xh4 xh5 xh6 xh7 yai yni yci yxs yaf ynf ycf yfs yh1 yh2 yh3 yh4 yh5 yh6 yh7).mono fun e W' ⟨he, bel⟩ => ?_
  subst he
  exact ⟨_, rfl, _, _, _, [], _, [], hW', trodAll_mk1 (shut_bool Try.underlying4 _), (trodAll_cons_mk (Below.trod laidOut (by kernel_rfl) (of_decide_eq_true (by kernel_rfl)) k0 bel lt0) (trodAll_cons_mk (Below.trod laidOut (by kernel_rfl) (of_decide_eq_true (by kernel_rfl)) k1 bel lt1) trodAll_mk0)), rfl, bel.frame _, fun h => by cases h⟩

theorem over : Rows.fnExactStateLeqRow.holds Try.pinned (OpenSpec.ofChange Rows.fnExactStateLeqSpec) :=
  OpenClaim.holds_of_wide 4 Try.f4 rfl rfl rfl rfl rfl rfl rfl ⟨rfl, rfl, rfl, rfl, rfl⟩ rfl rfl rfl rfl rfl (by kernel_rfl) Try.func4 (by kernel_rfl)
    (of_decide_eq_true (by kernel_rfl)) (by unfold Func.isWrapper; first | (rw [if_pos (by decide +kernel)]; kernel_rfl) | (rw [if_neg (by decide +kernel)]; exact ⟨rfl, rfl⟩))
    (fun os started H enc _ => lifted os started H enc)

theorem proved : Rows.FnExactStateLeqSaid := over
#print axioms proved
end Go.Proofs.Ytdpaocikmijioad.fnExactStateLeq
namespace Go.Proofs.Ytdpaocikmijioad
theorem fnExactStateLeq_holds : Rows.FnExactStateLeqSaid := fnExactStateLeq.proved
end Go.Proofs.Ytdpaocikmijioad
