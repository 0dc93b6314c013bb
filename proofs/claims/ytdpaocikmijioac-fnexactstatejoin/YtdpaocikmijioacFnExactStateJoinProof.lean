/-
  FnExactStateJoin: the program’s StateJoin answers as the specification’s at every two states that the law measures, and keeps no part of its arguments nor of its answers.
-/
import Derived.Test.YtdpaocikmijioacRows
import Derived.Test.YtdpaocikmijioacStO
import Derived.Test.YtdpaocikmijioacStBx
import Derived.Test.YtdpaocikmijioacIJoin
import Derived.Test.YtdpaocikmijioacSJoin2
import Derived.Test.YtdpaocikmijioacStH
import Derived.Test.YtdpaocikmijioacStE
import Derived.Test.YtdpaocikmijioacStT
import Derived.WalkKit
import Derived.ProofKit
import Derived.OpenShut
import Derived.ShutString
import Derived.ChangeOld
import Derived.Below
import Derived.Carry
namespace Go.Proofs.Ytdpaocikmijioac.fnExactStateJoin
open Go.ChangeShapes Go.WideShapes Go.ChangeAt Go.RowKit
open Go.ChangeMaps (open_string shut_string)

theorem own : ownKnob Try.prog.godebug = none := by kernel_rfl
theorem laidOut : laidOutB Try.prog = true := by kernel_rfl

set_option maxHeartbeats 8000000 in
set_option maxRecDepth 100000 in
theorem walk (w : World) (aiA : Option Addr) (niA ciA : Nat) (xsA : List Itm) (afA : Option Addr) (nfA cfA : Nat) (fsA : List Flr) (hniA : niA ≤ 9223372036854775807) (hnfA : nfA ≤ 9223372036854775807) (hxA : Rw encI 6 w (.slice aiA niA ciA) xsA) (hfA : Rw encF 2 w (.slice afA nfA cfA) fsA) (hbigA : Big xsA) (_ : FitI xsA) (_ : FitF fsA) (aiB : Option Addr) (niB ciB : Nat) (xsB : List Itm) (afB : Option Addr) (nfB cfB : Nat) (fsB : List Flr) (hniB : niB ≤ 9223372036854775807) (hnfB : nfB ≤ 9223372036854775807) (hxB : Rw encI 6 w (.slice aiB niB ciB) xsB) (hfB : Rw encF 2 w (.slice afB nfB cfB) fsB) (hbigB : Big xsB) (_ : FitI xsB) (_ : FitF fsB) :
    Calls Try.prog 5 #[.agg #[.slice aiA niA ciA, .slice afA nfA cfA], .agg #[.slice aiB niB ciB, .slice afB nfB cfB]] w fun e w' => e = .returned (.bool true) ∧ Below w.heap.size w w' := by
  have R_xA := hide hxA
  have R_fA := hide hfA
  have R_xB := hide hxB
  have R_fB := hide hfB
  clear hxA hfA hxB hfB
  have O_xA := R_xA
  have O_fA := R_fA
  have O_xB := R_xB
  have O_fB := R_fB
  obtain ⟨ok, hok⟩ : ∃ ok, (okS xsA fsA && okS xsB fsB) = ok := ⟨_, rfl⟩
  have HOK := hide hok
  have hl1 := jnI_len ok xsA fsA xsB fsB
  have hl2 := jnF_len ok fsA fsB
  obtain ⟨n1, hn1⟩ : ∃ n, (jnI ok xsA fsA xsB fsB).length = n := ⟨_, rfl⟩
  obtain ⟨n2, hn2⟩ : ∃ n, (jnF ok fsA fsB).length = n := ⟨_, rfl⟩
  rw [hn1] at hl1
  rw [hn2] at hl2
  have HN1 := hide hn1
  have HN2 := hide hn2
  clear hok hn1 hn2
  have hne : (ok != ok) = false := by cases ok <;> rfl
  go_enter Try.func5, Try.ntmps5
  go_wp2_with fail
  refine (szstate_any aiA niA ciA xsA hbigA afA nfA cfA 1048576 (by omega) (by omega) _ hniA hnfA (((unhide R_xA).alloc _).alloc _)).mono ?_
  rintro e w1 ⟨h, b1⟩
  have cw1 := (((Below.refl w.heap.size w).alloc (Nat.le_refl _) _).alloc (by simp <;> omega) _).trans (b1.mono (by simp <;> omega))
  have zw1 := cw1.size
  have K_a : Hid (w1.heap[w.heap.size]? = some (.cells #[.slice aiA niA ciA, .slice afA nfA cfA] 43 (0, 0)) ∧ w.heap.size < w1.heap.size) := hide ⟨(b1.block _ (by simp <;> omega)).trans (lowB2 w _ _), by have := b1.size; simp at this; omega⟩
  have y_a := (unhide K_a).2
  have K_b : Hid (w1.heap[w.heap.size + 1]? = some (.cells #[.slice aiB niB ciB, .slice afB nfB cfB] 43 (0, 0)) ∧ w.heap.size + 1 < w1.heap.size) := hide ⟨(b1.block _ (by simp <;> omega)).trans (newB2 w _ _), by have := b1.size; simp at this; omega⟩
  have y_b := (unhide K_b).2
  have R_xA := hide ((unhide R_xA).later cw1)
  have R_fA := hide ((unhide R_fA).later cw1)
  have R_xB := hide ((unhide R_xB).later cw1)
  have R_fB := hide ((unhide R_fB).later cw1)
  have BL := hide cw1
  clear b1 cw1
  obtain ⟨a_0, a_1, -⟩ := blk_cells2 (unhide K_a).1
  have n_a := (unhide K_a).2
  obtain ⟨b_0, b_1, -⟩ := blk_cells2 (unhide K_b).1
  have n_b := (unhide K_b).2
  rcases h with rfl | ⟨r, rfl, hr1, hr2, hm1A, hm2A, hSA⟩
  · go_wp2
    go_ret
    exact ⟨rfl, unhide BL⟩
  have hd : decide (r < 0) = false := by simp; omega
  have HSA := hide hSA
  clear hSA
  go_wp2_with fail
  refine (szstate_any aiB niB ciB xsB hbigB afB nfB cfB r hr1 (by omega) _ hniB hnfB (unhide R_xB)).mono ?_
  rintro e w2 ⟨h, b2⟩
  clear a_0 a_1 n_a b_0 b_1 n_b
  have cw2 := b2
  have zw2 := cw2.size
  have K_a := hide (keptblk cw2 K_a)
  have K_b := hide (keptblk cw2 K_b)
  have R_xA := hide ((unhide R_xA).later cw2)
  have R_fA := hide ((unhide R_fA).later cw2)
  have R_xB := hide ((unhide R_xB).later cw2)
  have R_fB := hide ((unhide R_fB).later cw2)
  have BL := hide ((unhide BL).trans (cw2.mono (unhide BL).size))
  clear b2 cw2
  obtain ⟨a_0, a_1, -⟩ := blk_cells2 (unhide K_a).1
  have n_a := (unhide K_a).2
  obtain ⟨b_0, b_1, -⟩ := blk_cells2 (unhide K_b).1
  have n_b := (unhide K_b).2
  rcases h with rfl | ⟨s, rfl, hs1, hs2, hm1B, hm2B, hSB⟩
  · go_wp2
    go_ret
    exact ⟨rfl, unhide BL⟩
  have hd2 : decide (s < 0) = false := by simp; omega
  have HSB := hide hSB
  clear hSB
  clear a_0 a_1 n_a b_0 b_1 n_b
  obtain ⟨x0, x1, -⟩ := blk_cells2 (unhide K_a).1
  obtain ⟨y0, y1, -⟩ := blk_cells2 (unhide K_b).1
  have X0 := hide x0; have X1 := hide x1; have Y0 := hide y0; have Y1 := hide y1
  go_wp2_with fail
  clear x0 x1 y0 y1
  go_cut [6, 7] from 27 to 34 (fun p q wx => ∃ (g : Nat) (a1 : Option Addr) (c1 : Nat) (a2 : Option Addr) (c2 : Nat), p = .pointer (some ⟨g, 0, none⟩) ∧ q = .bool ok ∧ Fin w2 wx g (.slice a1 n1 c1) (.slice a2 n2 c2) (jnI ok xsA fsA xsB fsB) (jnF ok fsA fsB))
  case first =>
    go_region_held3 (fun W => Below w2.heap.size w2 W ∧ W.cell? ⟨w.heap.size, 0, none⟩ = some (.slice aiA niA ciA) ∧ W.cell? ⟨w.heap.size, 1, none⟩ = some (.slice afA nfA cfA) ∧ W.cell? ⟨w.heap.size + 1, 0, none⟩ = some (.slice aiB niB ciB) ∧ W.cell? ⟨w.heap.size + 1, 1, none⟩ = some (.slice afB nfB cfB))
      (first | (with_reducible exact keep4 (unhide K_a).2 (unhide K_a).2 (unhide K_b).2 (unhide K_b).2 (unhide X0) (unhide X1) (unhide Y0) (unhide Y1) (Below.refl _ _)) | (with_reducible exact keep4 (unhide K_a).2 (unhide K_a).2 (unhide K_b).2 (unhide K_b).2 (unhide X0) (unhide X1) (unhide Y0) (unhide Y1) ((Below.refl _ _).drew)) | (with_reducible exact keep4 (unhide K_a).2 (unhide K_a).2 (unhide K_b).2 (unhide K_b).2 (unhide X0) (unhide X1) (unhide Y0) (unhide Y1) (by assumption)) | (with_reducible exact keep4 (unhide K_a).2 (unhide K_a).2 (unhide K_b).2 (unhide K_b).2 (unhide X0) (unhide X1) (unhide Y0) (unhide Y1) (kal (Below.refl _ _))) | (with_reducible exact keep4 (unhide K_a).2 (unhide K_a).2 (unhide K_b).2 (unhide K_b).2 (unhide X0) (unhide X1) (unhide Y0) (unhide Y1) (kal ((Below.refl _ _).drew))) | (with_reducible exact keep4 (unhide K_a).2 (unhide K_a).2 (unhide K_b).2 (unhide K_b).2 (unhide X0) (unhide X1) (unhide Y0) (unhide Y1) ((kal (Below.refl _ _)).drew)) | (with_reducible exact keep4 (unhide K_a).2 (unhide K_a).2 (unhide K_b).2 (unhide K_b).2 (unhide X0) (unhide X1) (unhide Y0) (unhide Y1) (kal (by assumption))) | (with_reducible exact keep4 (unhide K_a).2 (unhide K_a).2 (unhide K_b).2 (unhide K_b).2 (unhide X0) (unhide X1) (unhide Y0) (unhide Y1) (kset (by assumption) (by assumption))))
      (first
        | (go_at_call_of 19 (Value.agg #[Value.slice aiA niA ciA, Value.slice afA nfA cfA]); refine (tostate_any aiA niA ciA xsA afA nfA cfA fsA _ hm1A hm2A ?_ ?_).mono ?_; exact (unhide R_xA).later (kb1 (by assumption)); exact (unhide R_fA).later (kb1 (by assumption)); rintro e w3 ⟨ta1, tc1, tb1, td1, rfl, o1, o2, b6⟩; have R_tI1 := hide (o1.rw encI_len); have R_tF1 := hide (o2.rw encF_len); clear o1 o2; have bw3 := kb2 (by assumption) b6; have zw3 := bw3.size; (first | (with_reducible have M := hide (Bx.newD (P := w2) b6 (by omega))) | (with_reducible have M := hide (Bx.new (P := w2) b6 (by omega))) | (with_reducible have M := hide (Bx.kept M b6)) | skip); clear b6)
        | (go_at_call_of 19 (Value.agg #[Value.slice aiB niB ciB, Value.slice afB nfB cfB]); refine (tostate_any aiB niB ciB xsB afB nfB cfB fsB _ hm1B hm2B ?_ ?_).mono ?_; exact (unhide R_xB).later (kb1 (by assumption)); exact (unhide R_fB).later (kb1 (by assumption)); rintro e w4 ⟨ta2, tc2, tb2, td2, rfl, o1, o2, b6⟩; have R_tI2 := hide (o1.rw encI_len); have R_tF2 := hide (o2.rw encF_len); clear o1 o2; (first | (with_reducible have R_tI1 := hide ((unhide R_tI1).later b6); with_reducible have R_tF1 := hide ((unhide R_tF1).later b6)) | (with_reducible have R_tI1 := hide ((unhide R_tI1).later2 b6); with_reducible have R_tF1 := hide ((unhide R_tF1).later2 b6))); have bw4 := kb2 (by assumption) b6; have zw4 := bw4.size; (first | (with_reducible have M := hide (Bx.newD (P := w2) b6 (by omega))) | (with_reducible have M := hide (Bx.new (P := w2) b6 (by omega))) | (with_reducible have M := hide (Bx.kept M b6)) | skip); clear b6)
        | (go_at_call 22; refine (sjoin_any ta1 niA tc1 xsA tb1 nfA td1 fsA ta2 niB tc2 xsB tb2 nfB td2 fsB ok HOK n1 n2 HN1 HN2 _ (by omega) (by omega) (by omega) (by omega) ?_ ?_ ?_ ?_).mono ?_; (first | exact unhide R_tI1 | exact (unhide R_tI1).alloc _); (first | exact unhide R_tF1 | exact (unhide R_tF1).alloc _); (first | exact unhide R_tI2 | exact (unhide R_tI2).alloc _); (first | exact unhide R_tF2 | exact (unhide R_tF2).alloc _); rintro e w5 ⟨ra1, rc1, ra2, rc2, rfl, o1, o2, b8⟩; have O1 := hide o1; have O2 := hide o2; clear o1 o2; have bw5 := kb2 (by assumption) b8; (first | (with_reducible have M2 := hide (Bf.new (P := w2) b8 (by omega)); clear b8; obtain ⟨q0, q1, qf⟩ := blk_cells2 (unhide M2).bx.blk) | (with_reducible have M2 := hide (Bf.kept M b8); clear b8; obtain ⟨q0, q1, qf⟩ := blk_cells2 (unhide M2).bx.blk) | clear b8)))
    all_goals
      go_wp2_with fail
      go_meet
      first
        | with_reducible exact ⟨_, _, _, _, _, rfl, rfl, Fin.set bw5 (by first | omega | (simp; omega)) M2 O1 O2⟩
        | with_reducible exact ⟨_, _, _, _, _, rfl, rfl, Fin.new bw5 (by first | omega | (simp; omega)) O1 O2⟩
  case rest =>
    obtain ⟨gs, wa1, wc1, wa2, wc2, rfl, rfl, hfin⟩ := hcut
    have cwc := hfin.bel
    have zwc := cwc.size
    have ge_gs := hfin.ge
    have lt_gs := hfin.lt
    have K_s := hide (And.intro hfin.blk hfin.lt)
    have R_oW1 := hide hfin.o1; have R_oW2 := hide hfin.o2
    have L_oW1 := hide (World.ownsRow.lt hfin.o1); have L_oW2 := hide (World.ownsRow.lt hfin.o2)
    clear hfin X0 X1 Y0 Y1
    have K_a := hide (keptblk cwc K_a)
    have K_b := hide (keptblk cwc K_b)
    have R_xA := hide ((unhide R_xA).later cwc)
    have R_fA := hide ((unhide R_fA).later cwc)
    have R_xB := hide ((unhide R_xB).later cwc)
    have R_fB := hide ((unhide R_fB).later cwc)
    have BL := hide ((unhide BL).trans (cwc.mono (unhide BL).size))
    clear cwc
    obtain ⟨a_0, a_1, -⟩ := blk_cells2 (unhide K_a).1
    have n_a := (unhide K_a).2
    obtain ⟨b_0, b_1, -⟩ := blk_cells2 (unhide K_b).1
    have n_b := (unhide K_b).2
    obtain ⟨s_0, s_1, -⟩ := blk_cells2 (unhide K_s).1
    have n_s := (unhide K_s).2
    go_wp2_with fail
    refine (tostate_any aiA niA ciA xsA afA nfA cfA fsA _ hm1A hm2A ((unhide R_xA)) ((unhide R_fA))).mono ?_
    rintro e w6 ⟨a1, c1, b1, d1, rfl, o1, o2, b6⟩
    clear a_0 a_1 n_a b_0 b_1 n_b s_0 s_1 n_s
    have cw6 := b6
    have zw6 := cw6.size
    have K_a := hide (keptblk cw6 K_a)
    have K_b := hide (keptblk cw6 K_b)
    have K_s := hide (keptblk cw6 K_s)
    have R_xA := hide ((unhide R_xA).later cw6)
    have R_fA := hide ((unhide R_fA).later cw6)
    have R_xB := hide ((unhide R_xB).later cw6)
    have R_fB := hide ((unhide R_fB).later cw6)
    have R_oW1 := hide ((unhide R_oW1).later cw6)
    have R_oW2 := hide ((unhide R_oW2).later cw6)
    have BL := hide ((unhide BL).trans (cw6.mono (unhide BL).size))
    have R_oX1 := hide (o1)
    have L_oX1 := hide (World.ownsRow.lt (unhide R_oX1))
    have R_oX2 := hide (o2)
    have L_oX2 := hide (World.ownsRow.lt (unhide R_oX2))
    clear b6 cw6
    obtain ⟨a_0, a_1, -⟩ := blk_cells2 (unhide K_a).1
    have n_a := (unhide K_a).2
    obtain ⟨b_0, b_1, -⟩ := blk_cells2 (unhide K_b).1
    have n_b := (unhide K_b).2
    obtain ⟨s_0, s_1, -⟩ := blk_cells2 (unhide K_s).1
    have n_s := (unhide K_s).2
    clear o1 o2
    go_wp2_with fail
    refine (tostate_any aiB niB ciB xsB afB nfB cfB fsB _ hm1B hm2B ((unhide R_xB).alloc _) ((unhide R_fB).alloc _)).mono ?_
    rintro e w7 ⟨a2, c2, b2, d2, rfl, o1, o2, b7⟩
    clear a_0 a_1 n_a b_0 b_1 n_b s_0 s_1 n_s
    have cw7 := ((Below.refl w6.heap.size w6).alloc (Nat.le_refl _) _).trans (b7.mono (by simp <;> omega))
    have zw7 := cw7.size
    have K_a := hide (keptblk cw7 K_a)
    have K_b := hide (keptblk cw7 K_b)
    have K_s := hide (keptblk cw7 K_s)
    have K_x : Hid (w7.heap[w6.heap.size]? = some (.cells #[.slice a1 niA c1, .slice b1 nfA d1] 30 (0, 0)) ∧ w6.heap.size < w7.heap.size) := hide ⟨(b7.block _ (by simp <;> omega)).trans (newB1 w6 _), by have := b7.size; simp at this; omega⟩
    have y_x := (unhide K_x).2
    have R_xA := hide ((unhide R_xA).later cw7)
    have R_fA := hide ((unhide R_fA).later cw7)
    have R_xB := hide ((unhide R_xB).later cw7)
    have R_fB := hide ((unhide R_fB).later cw7)
    have R_oW1 := hide ((unhide R_oW1).later cw7)
    have R_oW2 := hide ((unhide R_oW2).later cw7)
    have R_oX1 := hide ((unhide R_oX1).later cw7)
    have R_oX2 := hide ((unhide R_oX2).later cw7)
    have BL := hide ((unhide BL).trans (cw7.mono (unhide BL).size))
    have R_oY1 := hide (Ow.base (base' := (w6.heap.size + 1)) o1 (by simp))
    have L_oY1 := hide (World.ownsRow.lt (unhide R_oY1))
    have R_oY2 := hide (Ow.base (base' := (w6.heap.size + 1)) o2 (by simp))
    have L_oY2 := hide (World.ownsRow.lt (unhide R_oY2))
    clear b7 cw7
    obtain ⟨a_0, a_1, -⟩ := blk_cells2 (unhide K_a).1
    have n_a := (unhide K_a).2
    obtain ⟨b_0, b_1, -⟩ := blk_cells2 (unhide K_b).1
    have n_b := (unhide K_b).2
    obtain ⟨s_0, s_1, -⟩ := blk_cells2 (unhide K_s).1
    have n_s := (unhide K_s).2
    obtain ⟨x_0, x_1, -⟩ := blk_cells2 (unhide K_x).1
    have n_x := (unhide K_x).2
    clear o1 o2
    go_wp2_with fail
    refine (ijoin_any a1 niA c1 xsA b1 nfA d1 fsA a2 niB c2 xsB b2 nfB d2 fsB ok HOK n1 n2 HN1 HN2 _ (by omega) (by omega) (by omega) (by omega) (((unhide R_oX1).rw encI_len).alloc _) (((unhide R_oX2).rw encF_len).alloc _) (((unhide R_oY1).rw encI_len).alloc _) (((unhide R_oY2).rw encF_len).alloc _)).mono ?_
    rintro e w8 ⟨g1, e1, g2, e2, rfl, o1, o2, b8⟩
    clear a_0 a_1 n_a b_0 b_1 n_b s_0 s_1 n_s x_0 x_1 n_x
    have cw8 := ((Below.refl w7.heap.size w7).alloc (Nat.le_refl _) _).trans (b8.mono (by simp <;> omega))
    have zw8 := cw8.size
    have K_a := hide (keptblk cw8 K_a)
    have K_b := hide (keptblk cw8 K_b)
    have K_s := hide (keptblk cw8 K_s)
    have K_x := hide (keptblk cw8 K_x)
    have K_y : Hid (w8.heap[w7.heap.size]? = some (.cells #[.slice a2 niB c2, .slice b2 nfB d2] 30 (0, 0)) ∧ w7.heap.size < w8.heap.size) := hide ⟨(b8.block _ (by simp <;> omega)).trans (newB1 w7 _), by have := b8.size; simp at this; omega⟩
    have y_y := (unhide K_y).2
    have R_xA := hide ((unhide R_xA).later cw8)
    have R_fA := hide ((unhide R_fA).later cw8)
    have R_xB := hide ((unhide R_xB).later cw8)
    have R_fB := hide ((unhide R_fB).later cw8)
    have R_oW1 := hide ((unhide R_oW1).later cw8)
    have R_oW2 := hide ((unhide R_oW2).later cw8)
    have R_oX1 := hide ((unhide R_oX1).later cw8)
    have R_oX2 := hide ((unhide R_oX2).later cw8)
    have R_oY1 := hide ((unhide R_oY1).later cw8)
    have R_oY2 := hide ((unhide R_oY2).later cw8)
    have BL := hide ((unhide BL).trans (cw8.mono (unhide BL).size))
    have R_oG1 := hide (Ow.base (base' := (w7.heap.size + 1)) o1 (by simp))
    have L_oG1 := hide (World.ownsRow.lt (unhide R_oG1))
    have R_oG2 := hide (Ow.base (base' := (w7.heap.size + 1)) o2 (by simp))
    have L_oG2 := hide (World.ownsRow.lt (unhide R_oG2))
    clear b8 cw8
    obtain ⟨a_0, a_1, -⟩ := blk_cells2 (unhide K_a).1
    have n_a := (unhide K_a).2
    obtain ⟨b_0, b_1, -⟩ := blk_cells2 (unhide K_b).1
    have n_b := (unhide K_b).2
    obtain ⟨s_0, s_1, -⟩ := blk_cells2 (unhide K_s).1
    have n_s := (unhide K_s).2
    obtain ⟨x_0, x_1, -⟩ := blk_cells2 (unhide K_x).1
    have n_x := (unhide K_x).2
    obtain ⟨y_0, y_1, -⟩ := blk_cells2 (unhide K_y).1
    have n_y := (unhide K_y).2
    clear o1 o2
    go_wp2_with fail
    refine (eqstate_same _ _ _ _ _ (jnI ok xsA fsA xsB fsB) _ _ _ _ _ (jnF ok fsA fsB) _ (by omega) (by omega) (((unhide R_oG1).rw encI_len).alloc _) (((unhide R_oW1).rw encI_len).alloc _) (((unhide R_oG2).rw encF_len).alloc _) (((unhide R_oW2).rw encF_len).alloc _)).mono ?_
    rintro e w9 ⟨rfl, b9⟩
    clear a_0 a_1 n_a b_0 b_1 n_b s_0 s_1 n_s x_0 x_1 n_x y_0 y_1 n_y
    have cw9 := ((Below.refl w8.heap.size w8).alloc (Nat.le_refl _) _).trans (b9.mono (by simp <;> omega))
    have zw9 := cw9.size
    have K_a := hide (keptblk cw9 K_a)
    have K_b := hide (keptblk cw9 K_b)
    have K_s := hide (keptblk cw9 K_s)
    have K_x := hide (keptblk cw9 K_x)
    have K_y := hide (keptblk cw9 K_y)
    have K_g : Hid (w9.heap[w8.heap.size]? = some (.cells #[.slice g1 n1 e1, .slice g2 n2 e2] 30 (0, 0)) ∧ w8.heap.size < w9.heap.size) := hide ⟨(b9.block _ (by simp <;> omega)).trans (newB1 w8 _), by have := b9.size; simp at this; omega⟩
    have y_g := (unhide K_g).2
    have R_xA := hide ((unhide R_xA).later cw9)
    have R_fA := hide ((unhide R_fA).later cw9)
    have R_xB := hide ((unhide R_xB).later cw9)
    have R_fB := hide ((unhide R_fB).later cw9)
    have R_oW1 := hide ((unhide R_oW1).later cw9)
    have R_oW2 := hide ((unhide R_oW2).later cw9)
    have R_oX1 := hide ((unhide R_oX1).later cw9)
    have R_oX2 := hide ((unhide R_oX2).later cw9)
    have R_oY1 := hide ((unhide R_oY1).later cw9)
    have R_oY2 := hide ((unhide R_oY2).later cw9)
    have R_oG1 := hide ((unhide R_oG1).later cw9)
    have R_oG2 := hide ((unhide R_oG2).later cw9)
    have BL := hide ((unhide BL).trans (cw9.mono (unhide BL).size))
    clear b9 cw9
    obtain ⟨a_0, a_1, -⟩ := blk_cells2 (unhide K_a).1
    have n_a := (unhide K_a).2
    obtain ⟨b_0, b_1, -⟩ := blk_cells2 (unhide K_b).1
    have n_b := (unhide K_b).2
    obtain ⟨s_0, s_1, -⟩ := blk_cells2 (unhide K_s).1
    have n_s := (unhide K_s).2
    obtain ⟨x_0, x_1, -⟩ := blk_cells2 (unhide K_x).1
    have n_x := (unhide K_x).2
    obtain ⟨y_0, y_1, -⟩ := blk_cells2 (unhide K_y).1
    have n_y := (unhide K_y).2
    obtain ⟨g_0, g_1, -⟩ := blk_cells2 (unhide K_g).1
    have n_g := (unhide K_g).2
    clear a_0 a_1 n_a b_0 b_1 n_b g_0 g_1 n_g s_0 s_1 n_s x_0 x_1 n_x y_0 y_1 n_y
    obtain ⟨x0, x1, -⟩ := blk_cells2 (unhide K_x).1
    obtain ⟨y0, y1, -⟩ := blk_cells2 (unhide K_a).1
    have X0 := hide x0; have X1 := hide x1; have Y0 := hide y0; have Y1 := hide y1
    go_wp2_with fail
    clear x0 x1 y0 y1
    go_region_held3 (fun W => Below w9.heap.size w9 W ∧ W.cell? ⟨w6.heap.size, 0, none⟩ = some (.slice a1 niA c1) ∧ W.cell? ⟨w6.heap.size, 1, none⟩ = some (.slice b1 nfA d1) ∧ W.cell? ⟨w.heap.size, 0, none⟩ = some (.slice aiA niA ciA) ∧ W.cell? ⟨w.heap.size, 1, none⟩ = some (.slice afA nfA cfA))
      (first | (with_reducible exact keep4 (unhide K_x).2 (unhide K_x).2 (unhide K_a).2 (unhide K_a).2 (unhide X0) (unhide X1) (unhide Y0) (unhide Y1) (Below.refl _ _)) | (with_reducible exact keep4 (unhide K_x).2 (unhide K_x).2 (unhide K_a).2 (unhide K_a).2 (unhide X0) (unhide X1) (unhide Y0) (unhide Y1) ((Below.refl _ _).drew)) | (with_reducible exact keep4 (unhide K_x).2 (unhide K_x).2 (unhide K_a).2 (unhide K_a).2 (unhide X0) (unhide X1) (unhide Y0) (unhide Y1) (by assumption)))
      (first
        | (go_at_call 19; refine (tostate_any _ _ _ xsA _ _ _ fsA _ hm1A hm2A ?_ ?_).mono ?_; exact (unhide R_xA).later (kb1 (by assumption)); exact (unhide R_fA).later (kb1 (by assumption)); rintro e w10 ⟨ta, tb, tc, td, rfl, o1, o2, b6⟩; have O5 := hide (o1.rw encI_len); have O6 := hide (o2.rw encF_len); clear o1 o2; have b6k := kb2 (by assumption) b6; clear b6)
        | (go_at_call 21; refine (eqstate_same _ _ _ _ _ xsA _ _ _ _ _ fsA _ (by omega) (by omega) ?_ (unhide O5) ?_ (unhide O6)).mono ?_; exact ((unhide R_oX1).rw encI_len).later (kb1 (by assumption)); exact ((unhide R_oX2).rw encF_len).later (kb1 (by assumption)); rintro e w11 ⟨rfl, b7⟩; have b7k := kb2 (by assumption) b7; clear b7))
    have cw11 : Below w9.heap.size w9 w11 := b7k
    clear X0 X1 Y0 Y1 b6k b7k O5 O6
    have K_a := hide (keptblk cw11 K_a)
    have K_b := hide (keptblk cw11 K_b)
    have K_s := hide (keptblk cw11 K_s)
    have K_x := hide (keptblk cw11 K_x)
    have K_y := hide (keptblk cw11 K_y)
    have K_g := hide (keptblk cw11 K_g)
    have R_xA := hide ((unhide R_xA).later cw11)
    have R_fA := hide ((unhide R_fA).later cw11)
    have R_xB := hide ((unhide R_xB).later cw11)
    have R_fB := hide ((unhide R_fB).later cw11)
    have R_oW1 := hide ((unhide R_oW1).later cw11)
    have R_oW2 := hide ((unhide R_oW2).later cw11)
    have R_oX1 := hide ((unhide R_oX1).later cw11)
    have R_oX2 := hide ((unhide R_oX2).later cw11)
    have R_oY1 := hide ((unhide R_oY1).later cw11)
    have R_oY2 := hide ((unhide R_oY2).later cw11)
    have R_oG1 := hide ((unhide R_oG1).later cw11)
    have R_oG2 := hide ((unhide R_oG2).later cw11)
    have BL := hide ((unhide BL).trans (cw11.mono (unhide BL).size))
    clear cw11
    obtain ⟨a_0, a_1, -⟩ := blk_cells2 (unhide K_a).1
    have n_a := (unhide K_a).2
    obtain ⟨b_0, b_1, -⟩ := blk_cells2 (unhide K_b).1
    have n_b := (unhide K_b).2
    obtain ⟨s_0, s_1, -⟩ := blk_cells2 (unhide K_s).1
    have n_s := (unhide K_s).2
    obtain ⟨x_0, x_1, -⟩ := blk_cells2 (unhide K_x).1
    have n_x := (unhide K_x).2
    obtain ⟨y_0, y_1, -⟩ := blk_cells2 (unhide K_y).1
    have n_y := (unhide K_y).2
    obtain ⟨g_0, g_1, -⟩ := blk_cells2 (unhide K_g).1
    have n_g := (unhide K_g).2
    clear a_0 a_1 n_a b_0 b_1 n_b g_0 g_1 n_g s_0 s_1 n_s x_0 x_1 n_x y_0 y_1 n_y
    obtain ⟨x0, x1, -⟩ := blk_cells2 (unhide K_y).1
    obtain ⟨y0, y1, -⟩ := blk_cells2 (unhide K_b).1
    have X0 := hide x0; have X1 := hide x1; have Y0 := hide y0; have Y1 := hide y1
    go_wp2_with fail
    clear x0 x1 y0 y1
    go_region_held3 (fun W => Below w11.heap.size w11 W ∧ W.cell? ⟨w7.heap.size, 0, none⟩ = some (.slice a2 niB c2) ∧ W.cell? ⟨w7.heap.size, 1, none⟩ = some (.slice b2 nfB d2) ∧ W.cell? ⟨w.heap.size + 1, 0, none⟩ = some (.slice aiB niB ciB) ∧ W.cell? ⟨w.heap.size + 1, 1, none⟩ = some (.slice afB nfB cfB))
      (first | (with_reducible exact keep4 (unhide K_y).2 (unhide K_y).2 (unhide K_b).2 (unhide K_b).2 (unhide X0) (unhide X1) (unhide Y0) (unhide Y1) (Below.refl _ _)) | (with_reducible exact keep4 (unhide K_y).2 (unhide K_y).2 (unhide K_b).2 (unhide K_b).2 (unhide X0) (unhide X1) (unhide Y0) (unhide Y1) ((Below.refl _ _).drew)) | (with_reducible exact keep4 (unhide K_y).2 (unhide K_y).2 (unhide K_b).2 (unhide K_b).2 (unhide X0) (unhide X1) (unhide Y0) (unhide Y1) (by assumption)))
      (first
        | (go_at_call 19; refine (tostate_any _ _ _ xsB _ _ _ fsB _ hm1B hm2B ?_ ?_).mono ?_; exact (unhide R_xB).later (kb1 (by assumption)); exact (unhide R_fB).later (kb1 (by assumption)); rintro e w12 ⟨ta, tb, tc, td, rfl, o1, o2, b6⟩; have O5 := hide (o1.rw encI_len); have O6 := hide (o2.rw encF_len); clear o1 o2; have b6k := kb2 (by assumption) b6; clear b6)
        | (go_at_call 21; refine (eqstate_same _ _ _ _ _ xsB _ _ _ _ _ fsB _ (by omega) (by omega) ?_ (unhide O5) ?_ (unhide O6)).mono ?_; exact ((unhide R_oY1).rw encI_len).later (kb1 (by assumption)); exact ((unhide R_oY2).rw encF_len).later (kb1 (by assumption)); rintro e w13 ⟨rfl, b7⟩; have b7k := kb2 (by assumption) b7; clear b7))
    have cw13 : Below w11.heap.size w11 w13 := b7k
    clear X0 X1 Y0 Y1 b6k b7k O5 O6
    have K_a := hide (keptblk cw13 K_a)
    have K_b := hide (keptblk cw13 K_b)
    have K_s := hide (keptblk cw13 K_s)
    have K_x := hide (keptblk cw13 K_x)
    have K_y := hide (keptblk cw13 K_y)
    have K_g := hide (keptblk cw13 K_g)
    have R_xA := hide ((unhide R_xA).later cw13)
    have R_fA := hide ((unhide R_fA).later cw13)
    have R_xB := hide ((unhide R_xB).later cw13)
    have R_fB := hide ((unhide R_fB).later cw13)
    have R_oW1 := hide ((unhide R_oW1).later cw13)
    have R_oW2 := hide ((unhide R_oW2).later cw13)
    have R_oX1 := hide ((unhide R_oX1).later cw13)
    have R_oX2 := hide ((unhide R_oX2).later cw13)
    have R_oY1 := hide ((unhide R_oY1).later cw13)
    have R_oY2 := hide ((unhide R_oY2).later cw13)
    have R_oG1 := hide ((unhide R_oG1).later cw13)
    have R_oG2 := hide ((unhide R_oG2).later cw13)
    have BL := hide ((unhide BL).trans (cw13.mono (unhide BL).size))
    clear cw13
    obtain ⟨a_0, a_1, -⟩ := blk_cells2 (unhide K_a).1
    have n_a := (unhide K_a).2
    obtain ⟨b_0, b_1, -⟩ := blk_cells2 (unhide K_b).1
    have n_b := (unhide K_b).2
    obtain ⟨s_0, s_1, -⟩ := blk_cells2 (unhide K_s).1
    have n_s := (unhide K_s).2
    obtain ⟨x_0, x_1, -⟩ := blk_cells2 (unhide K_x).1
    have n_x := (unhide K_x).2
    obtain ⟨y_0, y_1, -⟩ := blk_cells2 (unhide K_y).1
    have n_y := (unhide K_y).2
    obtain ⟨g_0, g_1, -⟩ := blk_cells2 (unhide K_g).1
    have n_g := (unhide K_g).2
    go_wp2_with fail
    refine (markS_any _ a1 niA c1 _ b1 nfA d1 _ 1 (by omega) (by omega) _ (by omega) (by omega) (unhide R_oX1) (unhide R_oX2)).mono ?_
    rintro e w14 ⟨rfl, o1, o2, t1⟩
    clear a_0 a_1 n_a b_0 b_1 n_b g_0 g_1 n_g s_0 s_1 n_s x_0 x_1 n_x y_0 y_1 n_y
    have zw14 := t1.size
    have K_a := hide (t1.kept K_a (fun q => by rcases q with q | q; (first | (have := unhide L_oX1 _ q; omega) | (exact absurd q (by simp [Value.ownBlock]))); (first | (have := unhide L_oX2 _ q; omega) | (exact absurd q (by simp [Value.ownBlock])))))
    have K_b := hide (t1.kept K_b (fun q => by rcases q with q | q; (first | (have := unhide L_oX1 _ q; omega) | (exact absurd q (by simp [Value.ownBlock]))); (first | (have := unhide L_oX2 _ q; omega) | (exact absurd q (by simp [Value.ownBlock])))))
    have K_s := hide (t1.kept K_s (fun q => by rcases q with q | q; (first | (have := unhide L_oX1 _ q; omega) | (exact absurd q (by simp [Value.ownBlock]))); (first | (have := unhide L_oX2 _ q; omega) | (exact absurd q (by simp [Value.ownBlock])))))
    have K_x := hide (t1.kept K_x (fun q => by rcases q with q | q; (first | (have := unhide L_oX1 _ q; omega) | (exact absurd q (by simp [Value.ownBlock]))); (first | (have := unhide L_oX2 _ q; omega) | (exact absurd q (by simp [Value.ownBlock])))))
    have K_y := hide (t1.kept K_y (fun q => by rcases q with q | q; (first | (have := unhide L_oX1 _ q; omega) | (exact absurd q (by simp [Value.ownBlock]))); (first | (have := unhide L_oX2 _ q; omega) | (exact absurd q (by simp [Value.ownBlock])))))
    have K_g := hide (t1.kept K_g (fun q => by rcases q with q | q; (first | (have := unhide L_oX1 _ q; omega) | (exact absurd q (by simp [Value.ownBlock]))); (first | (have := unhide L_oX2 _ q; omega) | (exact absurd q (by simp [Value.ownBlock])))))
    have R_oW1 := hide (t1.own (unhide R_oW1) (fun i hi => fun q => by have := unhide L_oW1 _ hi; rcases q with q | q; (first | (have := unhide L_oX1 _ q; omega) | (exact absurd q (by simp [Value.ownBlock]))); (first | (have := unhide L_oX2 _ q; omega) | (exact absurd q (by simp [Value.ownBlock])))))
    have R_oW2 := hide (t1.own (unhide R_oW2) (fun i hi => fun q => by have := unhide L_oW2 _ hi; rcases q with q | q; (first | (have := unhide L_oX1 _ q; omega) | (exact absurd q (by simp [Value.ownBlock]))); (first | (have := unhide L_oX2 _ q; omega) | (exact absurd q (by simp [Value.ownBlock])))))
    have R_oY1 := hide (t1.own (unhide R_oY1) (fun i hi => fun q => by have := unhide L_oY1 _ hi; rcases q with q | q; (first | (have := unhide L_oX1 _ q; omega) | (exact absurd q (by simp [Value.ownBlock]))); (first | (have := unhide L_oX2 _ q; omega) | (exact absurd q (by simp [Value.ownBlock])))))
    have R_oY2 := hide (t1.own (unhide R_oY2) (fun i hi => fun q => by have := unhide L_oY2 _ hi; rcases q with q | q; (first | (have := unhide L_oX1 _ q; omega) | (exact absurd q (by simp [Value.ownBlock]))); (first | (have := unhide L_oX2 _ q; omega) | (exact absurd q (by simp [Value.ownBlock])))))
    have R_oG1 := hide (t1.own (unhide R_oG1) (fun i hi => fun q => by have := unhide L_oG1 _ hi; rcases q with q | q; (first | (have := unhide L_oX1 _ q; omega) | (exact absurd q (by simp [Value.ownBlock]))); (first | (have := unhide L_oX2 _ q; omega) | (exact absurd q (by simp [Value.ownBlock])))))
    have R_oG2 := hide (t1.own (unhide R_oG2) (fun i hi => fun q => by have := unhide L_oG2 _ hi; rcases q with q | q; (first | (have := unhide L_oX1 _ q; omega) | (exact absurd q (by simp [Value.ownBlock]))); (first | (have := unhide L_oX2 _ q; omega) | (exact absurd q (by simp [Value.ownBlock])))))
    have BL := hide (Trn.below (unhide BL) t1 (unhide BL).size (fun i q => by rcases q with q | q; (first | (have := unhide L_oX1 _ q; omega) | (exact absurd q (by simp [Value.ownBlock]))); (first | (have := unhide L_oX2 _ q; omega) | (exact absurd q (by simp [Value.ownBlock])))))
    have R_xA := hide ((unhide O_xA).later (unhide BL))
    have R_fA := hide ((unhide O_fA).later (unhide BL))
    have R_xB := hide ((unhide O_xB).later (unhide BL))
    have R_fB := hide ((unhide O_fB).later (unhide BL))
    have R_oX1 := hide o1; have R_oX2 := hide o2
    clear o1 o2 t1
    obtain ⟨a_0, a_1, -⟩ := blk_cells2 (unhide K_a).1
    have n_a := (unhide K_a).2
    obtain ⟨b_0, b_1, -⟩ := blk_cells2 (unhide K_b).1
    have n_b := (unhide K_b).2
    obtain ⟨s_0, s_1, -⟩ := blk_cells2 (unhide K_s).1
    have n_s := (unhide K_s).2
    obtain ⟨x_0, x_1, -⟩ := blk_cells2 (unhide K_x).1
    have n_x := (unhide K_x).2
    obtain ⟨y_0, y_1, -⟩ := blk_cells2 (unhide K_y).1
    have n_y := (unhide K_y).2
    obtain ⟨g_0, g_1, -⟩ := blk_cells2 (unhide K_g).1
    have n_g := (unhide K_g).2
    go_wp2_with fail
    refine (markS_any _ a2 niB c2 _ b2 nfB d2 _ (1 + 6 * (niA : Int) + 2 * (nfA : Int)) (by omega) (by omega) _ (by omega) (by omega) (unhide R_oY1) (unhide R_oY2)).mono ?_
    rintro e w15 ⟨rfl, o1, o2, t1⟩
    clear a_0 a_1 n_a b_0 b_1 n_b g_0 g_1 n_g s_0 s_1 n_s x_0 x_1 n_x y_0 y_1 n_y
    have zw15 := t1.size
    have K_a := hide (t1.kept K_a (fun q => by rcases q with q | q; (first | (have := unhide L_oY1 _ q; omega) | (exact absurd q (by simp [Value.ownBlock]))); (first | (have := unhide L_oY2 _ q; omega) | (exact absurd q (by simp [Value.ownBlock])))))
    have K_b := hide (t1.kept K_b (fun q => by rcases q with q | q; (first | (have := unhide L_oY1 _ q; omega) | (exact absurd q (by simp [Value.ownBlock]))); (first | (have := unhide L_oY2 _ q; omega) | (exact absurd q (by simp [Value.ownBlock])))))
    have K_s := hide (t1.kept K_s (fun q => by rcases q with q | q; (first | (have := unhide L_oY1 _ q; omega) | (exact absurd q (by simp [Value.ownBlock]))); (first | (have := unhide L_oY2 _ q; omega) | (exact absurd q (by simp [Value.ownBlock])))))
    have K_x := hide (t1.kept K_x (fun q => by rcases q with q | q; (first | (have := unhide L_oY1 _ q; omega) | (exact absurd q (by simp [Value.ownBlock]))); (first | (have := unhide L_oY2 _ q; omega) | (exact absurd q (by simp [Value.ownBlock])))))
    have K_y := hide (t1.kept K_y (fun q => by rcases q with q | q; (first | (have := unhide L_oY1 _ q; omega) | (exact absurd q (by simp [Value.ownBlock]))); (first | (have := unhide L_oY2 _ q; omega) | (exact absurd q (by simp [Value.ownBlock])))))
    have K_g := hide (t1.kept K_g (fun q => by rcases q with q | q; (first | (have := unhide L_oY1 _ q; omega) | (exact absurd q (by simp [Value.ownBlock]))); (first | (have := unhide L_oY2 _ q; omega) | (exact absurd q (by simp [Value.ownBlock])))))
    have R_oW1 := hide (t1.own (unhide R_oW1) (fun i hi => fun q => by have := unhide L_oW1 _ hi; rcases q with q | q; (first | (have := unhide L_oY1 _ q; omega) | (exact absurd q (by simp [Value.ownBlock]))); (first | (have := unhide L_oY2 _ q; omega) | (exact absurd q (by simp [Value.ownBlock])))))
    have R_oW2 := hide (t1.own (unhide R_oW2) (fun i hi => fun q => by have := unhide L_oW2 _ hi; rcases q with q | q; (first | (have := unhide L_oY1 _ q; omega) | (exact absurd q (by simp [Value.ownBlock]))); (first | (have := unhide L_oY2 _ q; omega) | (exact absurd q (by simp [Value.ownBlock])))))
    have R_oX1 := hide (t1.own (unhide R_oX1) (fun i hi => fun q => by have := unhide L_oX1 _ hi; rcases q with q | q; (first | (have := unhide L_oY1 _ q; omega) | (exact absurd q (by simp [Value.ownBlock]))); (first | (have := unhide L_oY2 _ q; omega) | (exact absurd q (by simp [Value.ownBlock])))))
    have R_oX2 := hide (t1.own (unhide R_oX2) (fun i hi => fun q => by have := unhide L_oX2 _ hi; rcases q with q | q; (first | (have := unhide L_oY1 _ q; omega) | (exact absurd q (by simp [Value.ownBlock]))); (first | (have := unhide L_oY2 _ q; omega) | (exact absurd q (by simp [Value.ownBlock])))))
    have R_oG1 := hide (t1.own (unhide R_oG1) (fun i hi => fun q => by have := unhide L_oG1 _ hi; rcases q with q | q; (first | (have := unhide L_oY1 _ q; omega) | (exact absurd q (by simp [Value.ownBlock]))); (first | (have := unhide L_oY2 _ q; omega) | (exact absurd q (by simp [Value.ownBlock])))))
    have R_oG2 := hide (t1.own (unhide R_oG2) (fun i hi => fun q => by have := unhide L_oG2 _ hi; rcases q with q | q; (first | (have := unhide L_oY1 _ q; omega) | (exact absurd q (by simp [Value.ownBlock]))); (first | (have := unhide L_oY2 _ q; omega) | (exact absurd q (by simp [Value.ownBlock])))))
    have BL := hide (Trn.below (unhide BL) t1 (unhide BL).size (fun i q => by rcases q with q | q; (first | (have := unhide L_oY1 _ q; omega) | (exact absurd q (by simp [Value.ownBlock]))); (first | (have := unhide L_oY2 _ q; omega) | (exact absurd q (by simp [Value.ownBlock])))))
    have R_xA := hide ((unhide O_xA).later (unhide BL))
    have R_fA := hide ((unhide O_fA).later (unhide BL))
    have R_xB := hide ((unhide O_xB).later (unhide BL))
    have R_fB := hide ((unhide O_fB).later (unhide BL))
    have R_oY1 := hide o1; have R_oY2 := hide o2
    clear o1 o2 t1
    obtain ⟨a_0, a_1, -⟩ := blk_cells2 (unhide K_a).1
    have n_a := (unhide K_a).2
    obtain ⟨b_0, b_1, -⟩ := blk_cells2 (unhide K_b).1
    have n_b := (unhide K_b).2
    obtain ⟨s_0, s_1, -⟩ := blk_cells2 (unhide K_s).1
    have n_s := (unhide K_s).2
    obtain ⟨x_0, x_1, -⟩ := blk_cells2 (unhide K_x).1
    have n_x := (unhide K_x).2
    obtain ⟨y_0, y_1, -⟩ := blk_cells2 (unhide K_y).1
    have n_y := (unhide K_y).2
    obtain ⟨g_0, g_1, -⟩ := blk_cells2 (unhide K_g).1
    have n_g := (unhide K_g).2
    have hq0 : decide ((1 + 6 * (niA : Int) + 2 * (nfA : Int)) + 6 * (niB : Int) + 2 * (nfB : Int) < 0) = false := by simp; omega
    go_wp2_with fail
    refine (eqstate_same _ _ _ _ _ (jnI ok xsA fsA xsB fsB) _ _ _ _ _ (jnF ok fsA fsB) _ (by omega) (by omega) (((unhide R_oG1).rw encI_len)) (((unhide R_oW1).rw encI_len)) (((unhide R_oG2).rw encF_len)) (((unhide R_oW2).rw encF_len))).mono ?_
    rintro e w16 ⟨rfl, b16⟩
    clear a_0 a_1 n_a b_0 b_1 n_b g_0 g_1 n_g s_0 s_1 n_s x_0 x_1 n_x y_0 y_1 n_y
    have cw16 := b16
    have zw16 := cw16.size
    have K_a := hide (keptblk cw16 K_a)
    have K_b := hide (keptblk cw16 K_b)
    have K_s := hide (keptblk cw16 K_s)
    have K_x := hide (keptblk cw16 K_x)
    have K_y := hide (keptblk cw16 K_y)
    have K_g := hide (keptblk cw16 K_g)
    have R_xA := hide ((unhide R_xA).later cw16)
    have R_fA := hide ((unhide R_fA).later cw16)
    have R_xB := hide ((unhide R_xB).later cw16)
    have R_fB := hide ((unhide R_fB).later cw16)
    have R_oW1 := hide ((unhide R_oW1).later cw16)
    have R_oW2 := hide ((unhide R_oW2).later cw16)
    have R_oX1 := hide ((unhide R_oX1).later cw16)
    have R_oX2 := hide ((unhide R_oX2).later cw16)
    have R_oY1 := hide ((unhide R_oY1).later cw16)
    have R_oY2 := hide ((unhide R_oY2).later cw16)
    have R_oG1 := hide ((unhide R_oG1).later cw16)
    have R_oG2 := hide ((unhide R_oG2).later cw16)
    have BL := hide ((unhide BL).trans (cw16.mono (unhide BL).size))
    clear b16 cw16
    obtain ⟨a_0, a_1, -⟩ := blk_cells2 (unhide K_a).1
    have n_a := (unhide K_a).2
    obtain ⟨b_0, b_1, -⟩ := blk_cells2 (unhide K_b).1
    have n_b := (unhide K_b).2
    obtain ⟨s_0, s_1, -⟩ := blk_cells2 (unhide K_s).1
    have n_s := (unhide K_s).2
    obtain ⟨x_0, x_1, -⟩ := blk_cells2 (unhide K_x).1
    have n_x := (unhide K_x).2
    obtain ⟨y_0, y_1, -⟩ := blk_cells2 (unhide K_y).1
    have n_y := (unhide K_y).2
    obtain ⟨g_0, g_1, -⟩ := blk_cells2 (unhide K_g).1
    have n_g := (unhide K_g).2
    go_wp2_with fail
    refine (markS_any _ g1 n1 e1 _ g2 n2 e2 _ 1 (by omega) (by omega) _ (by omega) (by omega) (unhide R_oG1) (unhide R_oG2)).mono ?_
    rintro e w17 ⟨rfl, o1, o2, t1⟩
    clear a_0 a_1 n_a b_0 b_1 n_b g_0 g_1 n_g s_0 s_1 n_s x_0 x_1 n_x y_0 y_1 n_y
    have zw17 := t1.size
    have K_a := hide (t1.kept K_a (fun q => by rcases q with q | q; (first | (have := unhide L_oG1 _ q; omega) | (exact absurd q (by simp [Value.ownBlock]))); (first | (have := unhide L_oG2 _ q; omega) | (exact absurd q (by simp [Value.ownBlock])))))
    have K_b := hide (t1.kept K_b (fun q => by rcases q with q | q; (first | (have := unhide L_oG1 _ q; omega) | (exact absurd q (by simp [Value.ownBlock]))); (first | (have := unhide L_oG2 _ q; omega) | (exact absurd q (by simp [Value.ownBlock])))))
    have K_s := hide (t1.kept K_s (fun q => by rcases q with q | q; (first | (have := unhide L_oG1 _ q; omega) | (exact absurd q (by simp [Value.ownBlock]))); (first | (have := unhide L_oG2 _ q; omega) | (exact absurd q (by simp [Value.ownBlock])))))
    have K_x := hide (t1.kept K_x (fun q => by rcases q with q | q; (first | (have := unhide L_oG1 _ q; omega) | (exact absurd q (by simp [Value.ownBlock]))); (first | (have := unhide L_oG2 _ q; omega) | (exact absurd q (by simp [Value.ownBlock])))))
    have K_y := hide (t1.kept K_y (fun q => by rcases q with q | q; (first | (have := unhide L_oG1 _ q; omega) | (exact absurd q (by simp [Value.ownBlock]))); (first | (have := unhide L_oG2 _ q; omega) | (exact absurd q (by simp [Value.ownBlock])))))
    have K_g := hide (t1.kept K_g (fun q => by rcases q with q | q; (first | (have := unhide L_oG1 _ q; omega) | (exact absurd q (by simp [Value.ownBlock]))); (first | (have := unhide L_oG2 _ q; omega) | (exact absurd q (by simp [Value.ownBlock])))))
    have R_oW1 := hide (t1.own (unhide R_oW1) (fun i hi => fun q => by have := unhide L_oW1 _ hi; rcases q with q | q; (first | (have := unhide L_oG1 _ q; omega) | (exact absurd q (by simp [Value.ownBlock]))); (first | (have := unhide L_oG2 _ q; omega) | (exact absurd q (by simp [Value.ownBlock])))))
    have R_oW2 := hide (t1.own (unhide R_oW2) (fun i hi => fun q => by have := unhide L_oW2 _ hi; rcases q with q | q; (first | (have := unhide L_oG1 _ q; omega) | (exact absurd q (by simp [Value.ownBlock]))); (first | (have := unhide L_oG2 _ q; omega) | (exact absurd q (by simp [Value.ownBlock])))))
    have R_oX1 := hide (t1.own (unhide R_oX1) (fun i hi => fun q => by have := unhide L_oX1 _ hi; rcases q with q | q; (first | (have := unhide L_oG1 _ q; omega) | (exact absurd q (by simp [Value.ownBlock]))); (first | (have := unhide L_oG2 _ q; omega) | (exact absurd q (by simp [Value.ownBlock])))))
    have R_oX2 := hide (t1.own (unhide R_oX2) (fun i hi => fun q => by have := unhide L_oX2 _ hi; rcases q with q | q; (first | (have := unhide L_oG1 _ q; omega) | (exact absurd q (by simp [Value.ownBlock]))); (first | (have := unhide L_oG2 _ q; omega) | (exact absurd q (by simp [Value.ownBlock])))))
    have R_oY1 := hide (t1.own (unhide R_oY1) (fun i hi => fun q => by have := unhide L_oY1 _ hi; rcases q with q | q; (first | (have := unhide L_oG1 _ q; omega) | (exact absurd q (by simp [Value.ownBlock]))); (first | (have := unhide L_oG2 _ q; omega) | (exact absurd q (by simp [Value.ownBlock])))))
    have R_oY2 := hide (t1.own (unhide R_oY2) (fun i hi => fun q => by have := unhide L_oY2 _ hi; rcases q with q | q; (first | (have := unhide L_oG1 _ q; omega) | (exact absurd q (by simp [Value.ownBlock]))); (first | (have := unhide L_oG2 _ q; omega) | (exact absurd q (by simp [Value.ownBlock])))))
    have BL := hide (Trn.below (unhide BL) t1 (unhide BL).size (fun i q => by rcases q with q | q; (first | (have := unhide L_oG1 _ q; omega) | (exact absurd q (by simp [Value.ownBlock]))); (first | (have := unhide L_oG2 _ q; omega) | (exact absurd q (by simp [Value.ownBlock])))))
    have R_xA := hide ((unhide O_xA).later (unhide BL))
    have R_fA := hide ((unhide O_fA).later (unhide BL))
    have R_xB := hide ((unhide O_xB).later (unhide BL))
    have R_fB := hide ((unhide O_fB).later (unhide BL))
    have R_oG1 := hide o1; have R_oG2 := hide o2
    clear o1 o2 t1
    obtain ⟨a_0, a_1, -⟩ := blk_cells2 (unhide K_a).1
    have n_a := (unhide K_a).2
    obtain ⟨b_0, b_1, -⟩ := blk_cells2 (unhide K_b).1
    have n_b := (unhide K_b).2
    obtain ⟨s_0, s_1, -⟩ := blk_cells2 (unhide K_s).1
    have n_s := (unhide K_s).2
    obtain ⟨x_0, x_1, -⟩ := blk_cells2 (unhide K_x).1
    have n_x := (unhide K_x).2
    obtain ⟨y_0, y_1, -⟩ := blk_cells2 (unhide K_y).1
    have n_y := (unhide K_y).2
    obtain ⟨g_0, g_1, -⟩ := blk_cells2 (unhide K_g).1
    have n_g := (unhide K_g).2
    go_wp2_with fail
    refine (heldS_any g1 n1 e1 g2 n2 e2 1 (by omega) (by omega) _ (by omega) (by omega) ((unhide R_oG1).rw encI_len) ((unhide R_oG2).rw encF_len)).mono ?_
    rintro e w18 ⟨rfl, b18⟩
    clear a_0 a_1 n_a b_0 b_1 n_b g_0 g_1 n_g s_0 s_1 n_s x_0 x_1 n_x y_0 y_1 n_y
    have cw18 := b18
    have zw18 := cw18.size
    have K_a := hide (keptblk cw18 K_a)
    have K_b := hide (keptblk cw18 K_b)
    have K_s := hide (keptblk cw18 K_s)
    have K_x := hide (keptblk cw18 K_x)
    have K_y := hide (keptblk cw18 K_y)
    have K_g := hide (keptblk cw18 K_g)
    have R_xA := hide ((unhide R_xA).later cw18)
    have R_fA := hide ((unhide R_fA).later cw18)
    have R_xB := hide ((unhide R_xB).later cw18)
    have R_fB := hide ((unhide R_fB).later cw18)
    have R_oW1 := hide ((unhide R_oW1).later cw18)
    have R_oW2 := hide ((unhide R_oW2).later cw18)
    have R_oX1 := hide ((unhide R_oX1).later cw18)
    have R_oX2 := hide ((unhide R_oX2).later cw18)
    have R_oY1 := hide ((unhide R_oY1).later cw18)
    have R_oY2 := hide ((unhide R_oY2).later cw18)
    have R_oG1 := hide ((unhide R_oG1).later cw18)
    have R_oG2 := hide ((unhide R_oG2).later cw18)
    have BL := hide ((unhide BL).trans (cw18.mono (unhide BL).size))
    clear b18 cw18
    obtain ⟨a_0, a_1, -⟩ := blk_cells2 (unhide K_a).1
    have n_a := (unhide K_a).2
    obtain ⟨b_0, b_1, -⟩ := blk_cells2 (unhide K_b).1
    have n_b := (unhide K_b).2
    obtain ⟨s_0, s_1, -⟩ := blk_cells2 (unhide K_s).1
    have n_s := (unhide K_s).2
    obtain ⟨x_0, x_1, -⟩ := blk_cells2 (unhide K_x).1
    have n_x := (unhide K_x).2
    obtain ⟨y_0, y_1, -⟩ := blk_cells2 (unhide K_y).1
    have n_y := (unhide K_y).2
    obtain ⟨g_0, g_1, -⟩ := blk_cells2 (unhide K_g).1
    have n_g := (unhide K_g).2
    have hq1 : decide ((1 : Int) + 6 * (n1 : Int) + 2 * (n2 : Int) < 0) = false := by simp; omega
    have hq2 : ((1 : Int) + 6 * (n1 : Int) + 2 * (n2 : Int) != 1 + 6 * (n1 : Int) + 2 * (n2 : Int)) = false := by simp
    clear a_0 a_1 n_a b_0 b_1 n_b g_0 g_1 n_g s_0 s_1 n_s x_0 x_1 n_x y_0 y_1 n_y
    obtain ⟨x0, x1, -⟩ := blk_cells2 (unhide K_a).1
    obtain ⟨y0, y1, -⟩ := blk_cells2 (unhide K_b).1
    have X0 := hide x0; have X1 := hide x1; have Y0 := hide y0; have Y1 := hide y1
    go_wp2_with fail
    clear x0 x1 y0 y1
    go_cut [15, 16] from 94 to 101 (fun p q wx => ∃ (g : Nat) (a1 : Option Addr) (c1 : Nat) (a2 : Option Addr) (c2 : Nat), p = .pointer (some ⟨g, 0, none⟩) ∧ q = .bool ok ∧ Fin w18 wx g (.slice a1 n1 c1) (.slice a2 n2 c2) (jnI ok xsA fsA xsB fsB) (jnF ok fsA fsB))
    case first =>
      go_region_held3 (fun W => Below w18.heap.size w18 W ∧ W.cell? ⟨w.heap.size, 0, none⟩ = some (.slice aiA niA ciA) ∧ W.cell? ⟨w.heap.size, 1, none⟩ = some (.slice afA nfA cfA) ∧ W.cell? ⟨w.heap.size + 1, 0, none⟩ = some (.slice aiB niB ciB) ∧ W.cell? ⟨w.heap.size + 1, 1, none⟩ = some (.slice afB nfB cfB))
        (first | (with_reducible exact keep4 (unhide K_a).2 (unhide K_a).2 (unhide K_b).2 (unhide K_b).2 (unhide X0) (unhide X1) (unhide Y0) (unhide Y1) (Below.refl _ _)) | (with_reducible exact keep4 (unhide K_a).2 (unhide K_a).2 (unhide K_b).2 (unhide K_b).2 (unhide X0) (unhide X1) (unhide Y0) (unhide Y1) ((Below.refl _ _).drew)) | (with_reducible exact keep4 (unhide K_a).2 (unhide K_a).2 (unhide K_b).2 (unhide K_b).2 (unhide X0) (unhide X1) (unhide Y0) (unhide Y1) (by assumption)) | (with_reducible exact keep4 (unhide K_a).2 (unhide K_a).2 (unhide K_b).2 (unhide K_b).2 (unhide X0) (unhide X1) (unhide Y0) (unhide Y1) (kal (Below.refl _ _))) | (with_reducible exact keep4 (unhide K_a).2 (unhide K_a).2 (unhide K_b).2 (unhide K_b).2 (unhide X0) (unhide X1) (unhide Y0) (unhide Y1) (kal ((Below.refl _ _).drew))) | (with_reducible exact keep4 (unhide K_a).2 (unhide K_a).2 (unhide K_b).2 (unhide K_b).2 (unhide X0) (unhide X1) (unhide Y0) (unhide Y1) ((kal (Below.refl _ _)).drew)) | (with_reducible exact keep4 (unhide K_a).2 (unhide K_a).2 (unhide K_b).2 (unhide K_b).2 (unhide X0) (unhide X1) (unhide Y0) (unhide Y1) (kal (by assumption))) | (with_reducible exact keep4 (unhide K_a).2 (unhide K_a).2 (unhide K_b).2 (unhide K_b).2 (unhide X0) (unhide X1) (unhide Y0) (unhide Y1) (kset (by assumption) (by assumption))))
        (first
          | (go_at_call_of 19 (Value.agg #[Value.slice aiA niA ciA, Value.slice afA nfA cfA]); refine (tostate_any aiA niA ciA xsA afA nfA cfA fsA _ hm1A hm2A ?_ ?_).mono ?_; exact (unhide R_xA).later (kb1 (by assumption)); exact (unhide R_fA).later (kb1 (by assumption)); rintro e w19 ⟨ta1, tc1, tb1, td1, rfl, o1, o2, b6⟩; have R_tI1 := hide (o1.rw encI_len); have R_tF1 := hide (o2.rw encF_len); clear o1 o2; have bw19 := kb2 (by assumption) b6; have zw19 := bw19.size; (first | (with_reducible have M := hide (Bx.newD (P := w18) b6 (by omega))) | (with_reducible have M := hide (Bx.new (P := w18) b6 (by omega))) | (with_reducible have M := hide (Bx.kept M b6)) | skip); clear b6)
          | (go_at_call_of 19 (Value.agg #[Value.slice aiB niB ciB, Value.slice afB nfB cfB]); refine (tostate_any aiB niB ciB xsB afB nfB cfB fsB _ hm1B hm2B ?_ ?_).mono ?_; exact (unhide R_xB).later (kb1 (by assumption)); exact (unhide R_fB).later (kb1 (by assumption)); rintro e w20 ⟨ta2, tc2, tb2, td2, rfl, o1, o2, b6⟩; have R_tI2 := hide (o1.rw encI_len); have R_tF2 := hide (o2.rw encF_len); clear o1 o2; (first | (with_reducible have R_tI1 := hide ((unhide R_tI1).later b6); with_reducible have R_tF1 := hide ((unhide R_tF1).later b6)) | (with_reducible have R_tI1 := hide ((unhide R_tI1).later2 b6); with_reducible have R_tF1 := hide ((unhide R_tF1).later2 b6))); have bw20 := kb2 (by assumption) b6; have zw20 := bw20.size; (first | (with_reducible have M := hide (Bx.newD (P := w18) b6 (by omega))) | (with_reducible have M := hide (Bx.new (P := w18) b6 (by omega))) | (with_reducible have M := hide (Bx.kept M b6)) | skip); clear b6)
          | (go_at_call 23; refine (ijoin_any ta1 niA tc1 xsA tb1 nfA td1 fsA ta2 niB tc2 xsB tb2 nfB td2 fsB ok HOK n1 n2 HN1 HN2 _ (by omega) (by omega) (by omega) (by omega) ?_ ?_ ?_ ?_).mono ?_; (first | exact unhide R_tI1 | exact (unhide R_tI1).alloc _); (first | exact unhide R_tF1 | exact (unhide R_tF1).alloc _); (first | exact unhide R_tI2 | exact (unhide R_tI2).alloc _); (first | exact unhide R_tF2 | exact (unhide R_tF2).alloc _); rintro e w21 ⟨ra1, rc1, ra2, rc2, rfl, o1, o2, b8⟩; have O1 := hide o1; have O2 := hide o2; clear o1 o2; have bw21 := kb2 (by assumption) b8; (first | (with_reducible have M2 := hide (Bf.new (P := w18) b8 (by omega)); clear b8; obtain ⟨q0, q1, qf⟩ := blk_cells2 (unhide M2).bx.blk) | (with_reducible have M2 := hide (Bf.kept M b8); clear b8; obtain ⟨q0, q1, qf⟩ := blk_cells2 (unhide M2).bx.blk) | clear b8)))
      all_goals
        go_wp2_with fail
        go_meet
        first
          | with_reducible exact ⟨_, _, _, _, _, rfl, rfl, Fin.set bw21 (by first | omega | (simp; omega)) M2 O1 O2⟩
          | with_reducible exact ⟨_, _, _, _, _, rfl, rfl, Fin.new bw21 (by first | omega | (simp; omega)) O1 O2⟩
    case rest =>
      obtain ⟨gh, ha1, hc1, ha2, hc2, rfl, rfl, hfin⟩ := hcut
      have cwc := hfin.bel
      have zwc := cwc.size
      have ge_gh := hfin.ge
      have lt_gh := hfin.lt
      have K_h := hide (And.intro hfin.blk hfin.lt)
      have R_oH1 := hide hfin.o1; have R_oH2 := hide hfin.o2
      have L_oH1 := hide (World.ownsRow.lt hfin.o1); have L_oH2 := hide (World.ownsRow.lt hfin.o2)
      clear hfin X0 X1 Y0 Y1
      have K_a := hide (keptblk cwc K_a)
      have K_b := hide (keptblk cwc K_b)
      have K_s := hide (keptblk cwc K_s)
      have K_x := hide (keptblk cwc K_x)
      have K_y := hide (keptblk cwc K_y)
      have K_g := hide (keptblk cwc K_g)
      have R_xA := hide ((unhide R_xA).later cwc)
      have R_fA := hide ((unhide R_fA).later cwc)
      have R_xB := hide ((unhide R_xB).later cwc)
      have R_fB := hide ((unhide R_fB).later cwc)
      have R_oW1 := hide ((unhide R_oW1).later cwc)
      have R_oW2 := hide ((unhide R_oW2).later cwc)
      have R_oX1 := hide ((unhide R_oX1).later cwc)
      have R_oX2 := hide ((unhide R_oX2).later cwc)
      have R_oY1 := hide ((unhide R_oY1).later cwc)
      have R_oY2 := hide ((unhide R_oY2).later cwc)
      have R_oG1 := hide ((unhide R_oG1).later cwc)
      have R_oG2 := hide ((unhide R_oG2).later cwc)
      have BL := hide ((unhide BL).trans (cwc.mono (unhide BL).size))
      clear cwc
      obtain ⟨a_0, a_1, -⟩ := blk_cells2 (unhide K_a).1
      have n_a := (unhide K_a).2
      obtain ⟨b_0, b_1, -⟩ := blk_cells2 (unhide K_b).1
      have n_b := (unhide K_b).2
      obtain ⟨s_0, s_1, -⟩ := blk_cells2 (unhide K_s).1
      have n_s := (unhide K_s).2
      obtain ⟨x_0, x_1, -⟩ := blk_cells2 (unhide K_x).1
      have n_x := (unhide K_x).2
      obtain ⟨y_0, y_1, -⟩ := blk_cells2 (unhide K_y).1
      have n_y := (unhide K_y).2
      obtain ⟨g_0, g_1, -⟩ := blk_cells2 (unhide K_g).1
      have n_g := (unhide K_g).2
      obtain ⟨h_0, h_1, -⟩ := blk_cells2 (unhide K_h).1
      have n_h := (unhide K_h).2
      go_wp2_with fail
      refine (eqstate_same _ _ _ _ _ (jnI ok xsA fsA xsB fsB) _ _ _ _ _ (jnF ok fsA fsB) _ (by omega) (by omega) (((unhide R_oH1).rw encI_len)) (((unhide R_oW1).rw encI_len)) (((unhide R_oH2).rw encF_len)) (((unhide R_oW2).rw encF_len))).mono ?_
      rintro e w22 ⟨rfl, b22⟩
      clear a_0 a_1 n_a b_0 b_1 n_b g_0 g_1 n_g h_0 h_1 n_h s_0 s_1 n_s x_0 x_1 n_x y_0 y_1 n_y
      have cw22 := b22
      have zw22 := cw22.size
      have K_a := hide (keptblk cw22 K_a)
      have K_b := hide (keptblk cw22 K_b)
      have K_s := hide (keptblk cw22 K_s)
      have K_x := hide (keptblk cw22 K_x)
      have K_y := hide (keptblk cw22 K_y)
      have K_g := hide (keptblk cw22 K_g)
      have K_h := hide (keptblk cw22 K_h)
      have R_xA := hide ((unhide R_xA).later cw22)
      have R_fA := hide ((unhide R_fA).later cw22)
      have R_xB := hide ((unhide R_xB).later cw22)
      have R_fB := hide ((unhide R_fB).later cw22)
      have R_oW1 := hide ((unhide R_oW1).later cw22)
      have R_oW2 := hide ((unhide R_oW2).later cw22)
      have R_oX1 := hide ((unhide R_oX1).later cw22)
      have R_oX2 := hide ((unhide R_oX2).later cw22)
      have R_oY1 := hide ((unhide R_oY1).later cw22)
      have R_oY2 := hide ((unhide R_oY2).later cw22)
      have R_oG1 := hide ((unhide R_oG1).later cw22)
      have R_oG2 := hide ((unhide R_oG2).later cw22)
      have R_oH1 := hide ((unhide R_oH1).later cw22)
      have R_oH2 := hide ((unhide R_oH2).later cw22)
      have BL := hide ((unhide BL).trans (cw22.mono (unhide BL).size))
      clear b22 cw22
      obtain ⟨a_0, a_1, -⟩ := blk_cells2 (unhide K_a).1
      have n_a := (unhide K_a).2
      obtain ⟨b_0, b_1, -⟩ := blk_cells2 (unhide K_b).1
      have n_b := (unhide K_b).2
      obtain ⟨s_0, s_1, -⟩ := blk_cells2 (unhide K_s).1
      have n_s := (unhide K_s).2
      obtain ⟨x_0, x_1, -⟩ := blk_cells2 (unhide K_x).1
      have n_x := (unhide K_x).2
      obtain ⟨y_0, y_1, -⟩ := blk_cells2 (unhide K_y).1
      have n_y := (unhide K_y).2
      obtain ⟨g_0, g_1, -⟩ := blk_cells2 (unhide K_g).1
      have n_g := (unhide K_g).2
      obtain ⟨h_0, h_1, -⟩ := blk_cells2 (unhide K_h).1
      have n_h := (unhide K_h).2
      go_wp2_with fail
      refine (heldS_any g1 n1 e1 g2 n2 e2 1 (by omega) (by omega) _ (by omega) (by omega) ((unhide R_oG1).rw encI_len) ((unhide R_oG2).rw encF_len)).mono ?_
      rintro e w23 ⟨rfl, b23⟩
      clear a_0 a_1 n_a b_0 b_1 n_b g_0 g_1 n_g h_0 h_1 n_h s_0 s_1 n_s x_0 x_1 n_x y_0 y_1 n_y
      have cw23 := b23
      have zw23 := cw23.size
      have K_a := hide (keptblk cw23 K_a)
      have K_b := hide (keptblk cw23 K_b)
      have K_s := hide (keptblk cw23 K_s)
      have K_x := hide (keptblk cw23 K_x)
      have K_y := hide (keptblk cw23 K_y)
      have K_g := hide (keptblk cw23 K_g)
      have K_h := hide (keptblk cw23 K_h)
      have R_xA := hide ((unhide R_xA).later cw23)
      have R_fA := hide ((unhide R_fA).later cw23)
      have R_xB := hide ((unhide R_xB).later cw23)
      have R_fB := hide ((unhide R_fB).later cw23)
      have R_oW1 := hide ((unhide R_oW1).later cw23)
      have R_oW2 := hide ((unhide R_oW2).later cw23)
      have R_oX1 := hide ((unhide R_oX1).later cw23)
      have R_oX2 := hide ((unhide R_oX2).later cw23)
      have R_oY1 := hide ((unhide R_oY1).later cw23)
      have R_oY2 := hide ((unhide R_oY2).later cw23)
      have R_oG1 := hide ((unhide R_oG1).later cw23)
      have R_oG2 := hide ((unhide R_oG2).later cw23)
      have R_oH1 := hide ((unhide R_oH1).later cw23)
      have R_oH2 := hide ((unhide R_oH2).later cw23)
      have BL := hide ((unhide BL).trans (cw23.mono (unhide BL).size))
      clear b23 cw23
      obtain ⟨a_0, a_1, -⟩ := blk_cells2 (unhide K_a).1
      have n_a := (unhide K_a).2
      obtain ⟨b_0, b_1, -⟩ := blk_cells2 (unhide K_b).1
      have n_b := (unhide K_b).2
      obtain ⟨s_0, s_1, -⟩ := blk_cells2 (unhide K_s).1
      have n_s := (unhide K_s).2
      obtain ⟨x_0, x_1, -⟩ := blk_cells2 (unhide K_x).1
      have n_x := (unhide K_x).2
      obtain ⟨y_0, y_1, -⟩ := blk_cells2 (unhide K_y).1
      have n_y := (unhide K_y).2
      obtain ⟨g_0, g_1, -⟩ := blk_cells2 (unhide K_g).1
      have n_g := (unhide K_g).2
      obtain ⟨h_0, h_1, -⟩ := blk_cells2 (unhide K_h).1
      have n_h := (unhide K_h).2
      go_wp2
      go_ret
      exact ⟨rfl, unhide BL⟩

set_option maxHeartbeats 4000000 in
set_option maxRecDepth 100000 in
theorem lifted (os : Os) (started : os.Started) (H : Type) (enc : TypeId × Value → H) :
    ReturnsInHanded {} Try.checked os 5 .any (Rows.fnExactStateJoinSpec.pre6 enc Try.prog Try.f5 Rows.fnExactStateJoinRow.domain false) (Rows.fnExactStateJoinSpec.post enc Try.prog Try.f5 false true false false) := by
  refine returnsInHanded_of_change (C := Try.checked) own started (by kernel_rfl) Try.func5
    (ChangeSpec.witness6 (enc := enc) (C := Try.checked) false ⟨#[], #[.agg #[.slice none 0 0, .slice none 0 0], .agg #[.slice none 0 0, .slice none 0 0]], []⟩ 8 (by kernel_rfl) (by kernel_rfl) (by kernel_rfl) (by kernel_rfl)) ?_
  intro W base args ds gs before hval0 hW hcnd _
  have hval : ∀ (j : Nat) t v, Try.f5.params[j]? = some t → args[j]? = some v → Value.okWide Try.prog W .any base t v := hval0
  have hW' := hW
  obtain ⟨p, q, hA0, hV, rfl, hfz, hnd⟩ := hW
  have hA : DataW.TrodAll enc Try.prog W 0 (fun _ => true) true Try.f5.params.toList args.toList ds p := hA0
  rw [Try.params5] at hA hval
  obtain ⟨v0, vs0, d0, ds0, p0, q0, hargs0, rfl, rfl, h0, r0⟩ := trodAll_cons hA
  obtain ⟨v1, vs1, d1, ds1, p1, q1, hargs1, rfl, rfl, h1, r1⟩ := trodAll_cons r0
  obtain ⟨rfl, rfl, rfl⟩ := trodAll_nil r1
  obtain rfl : args = #[v0, v1] := by cases args; simp_all
  obtain ⟨rfl, rfl⟩ := trodVars_none hV
  have k0 := h0
  have lt0 : ∀ x ∈ p0, x.block < W.heap.size := by obtain ⟨m, hm⟩ := k0; exact DataW.trod_lt m _ _ _ hm
  have k1 := h1
  have lt1 : ∀ x ∈ p1, x.block < W.heap.size := by obtain ⟨m, hm⟩ := k1; exact DataW.trod_lt m _ _ _ hm
  obtain ⟨aai, ani, aci, axs, aaf, anf, acf, afs, rfl, ah1, ah2, ah3, ah4, ah5, ah6, ah7⟩ := open_state (hval 0 43 v0 rfl rfl) h0
  obtain ⟨bai, bni, bci, bxs, baf, bnf, bcf, bfs, rfl, bh1, bh2, bh3, bh4, bh5, bh6, bh7⟩ := open_state (hval 1 43 v1 rfl rfl) h1
  clear hA0 hval0
  refine (walk W aai ani aci axs aaf anf acf afs ah1 ah2 ah3 ah4 ah5 ah6 ah7 bai bni bci bxs baf bnf bcf bfs bh1 bh2 bh3 bh4 bh5 bh6 bh7).mono fun e W' ⟨he, bel⟩ => ?_
  subst he
  exact ⟨_, rfl, _, _, _, [], _, [], hW', trodAll_mk1 (shut_bool Try.underlying4 _), (trodAll_cons_mk (Below.trod laidOut (by kernel_rfl) (of_decide_eq_true (by kernel_rfl)) k0 bel lt0) (trodAll_cons_mk (Below.trod laidOut (by kernel_rfl) (of_decide_eq_true (by kernel_rfl)) k1 bel lt1) trodAll_mk0)), rfl, bel.frame _, fun h => by cases h⟩

theorem over : Rows.fnExactStateJoinRow.holds Try.pinned (OpenSpec.ofChange Rows.fnExactStateJoinSpec) :=
  OpenClaim.holds_of_wide 5 Try.f5 rfl rfl rfl rfl rfl rfl rfl ⟨rfl, rfl, rfl, rfl, rfl⟩ rfl rfl rfl rfl rfl (by kernel_rfl) Try.func5 (by kernel_rfl)
    (of_decide_eq_true (by kernel_rfl)) (by unfold Func.isWrapper; first | (rw [if_pos (by decide +kernel)]; kernel_rfl) | (rw [if_neg (by decide +kernel)]; exact ⟨rfl, rfl⟩))
    (fun os started H enc _ => lifted os started H enc)

theorem proved : Rows.FnExactStateJoinSaid := over
#print axioms proved
end Go.Proofs.Ytdpaocikmijioac.fnExactStateJoin
namespace Go.Proofs.Ytdpaocikmijioac
theorem fnExactStateJoin_holds : Rows.FnExactStateJoinSaid := fnExactStateJoin.proved
end Go.Proofs.Ytdpaocikmijioac
