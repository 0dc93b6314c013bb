/-
  At every tree, state and number the program’s TreeTouch answers as the specification’s does, writes into no argument, and its answer owns its memory.
-/
import Derived.Test.YtdpaocikmijioafRows
import Derived.Test.YtdpaocikmijioafStA
import Derived.Test.YtdpaocikmijioafStT
import Derived.Test.YtdpaocikmijioafStE
import Derived.Test.YtdpaocikmijioafStO
import Derived.Test.YtdpaocikmijioafSt3
import Derived.Test.YtdpaocikmijioafStM
import Derived.Test.YtdpaocikmijioafTrZ
import Derived.WalkKit
import Derived.ProofKit
import Derived.OpenShut
import Derived.ShutString
import Derived.ChangeOld
import Derived.Below
import Derived.Carry
namespace Go.Proofs.Ytdpaocikmijioaf.fnExactTreeTouch
open Go.ChangeShapes Go.WideShapes Go.ChangeAt Go.RowKit
open Go.ChangeMaps (open_string shut_string)

theorem own : ownKnob Try.prog.godebug = none := by kernel_rfl
theorem laidOut : laidOutB Try.prog = true := by kernel_rfl

set_option maxHeartbeats 4000000 in
set_option maxRecDepth 100000 in
theorem walk (w : World) (aA : Option Addr) (nA cA : Nat) (sA : List Int) (qA : Int) (hnA : nA ≤ 9223372036854775807) (hA : RwN w (.slice aA nA cA) sA) (hfs : FitNs sA) (_ : FitN qA) (ai : Option Addr) (ni ci : Nat) (xs : List Itm) (af : Option Addr) (nf cf : Nat) (fs : List Flr) (hni : ni ≤ 9223372036854775807) (hnf : nf ≤ 9223372036854775807) (hx : Rw encI 6 w (.slice ai ni ci) xs) (hf : Rw encF 2 w (.slice af nf cf) fs) (hbig : Big xs) (_ : FitI xs) (_ : FitF fs) (id : Int) (_ : (Lit.int .i64 id).wf = true) :
    Calls Try.prog 3 #[.agg #[.slice aA nA cA, .int .i64 qA], .agg #[.slice ai ni ci, .slice af nf cf], .int .i64 id] w fun e w' => e = .returned (.bool true) ∧ Below w.heap.size w w' := by
  have R_A := hide hA
  have R_x := hide hx
  have R_f := hide hf
  have O_A := R_A
  have O_x := R_x
  have O_f := R_f
  have HFS := hide hfs
  clear hA hx hf hfs
  obtain ⟨q1, hq1'⟩ : ∃ q, tcR sA qA xs fs id = q := ⟨_, rfl⟩
  have HQ := hide hq1'
  clear hq1'
  go_enter Try.func3, Try.ntmps3
  go_wp2_with fail
  refine (sztree_any aA nA cA qA ((1048576 : Int)) _ hnA (by omega) (by omega)).mono ?_
  rintro e w1 ⟨h, b1⟩
  have cw1 := (((Below.refl w.heap.size w).alloc (Nat.le_refl _) _).alloc (by simp <;> omega) _).trans (b1.mono (by simp <;> omega))
  have zw1 := cw1.size
  have K_a : Hid (w1.heap[w.heap.size]? = some (.cells #[.slice aA nA cA, .int .i64 qA] 24 (0, 0)) ∧ w.heap.size < w1.heap.size) := hide ⟨(b1.block _ (by simp <;> omega)).trans (lowB2 w _ _), by have := b1.size; simp at this; omega⟩
  have y_a := (unhide K_a).2
  have K_b : Hid (w1.heap[w.heap.size + 1]? = some (.cells #[.slice ai ni ci, .slice af nf cf] 28 (0, 0)) ∧ w.heap.size + 1 < w1.heap.size) := hide ⟨(b1.block _ (by simp <;> omega)).trans (newB2 w _ _), by have := b1.size; simp at this; omega⟩
  have y_b := (unhide K_b).2
  have R_A := hide ((unhide R_A).later cw1)
  have R_x := hide ((unhide R_x).later cw1)
  have R_f := hide ((unhide R_f).later cw1)
  have BL := hide cw1
  clear b1 cw1
  obtain ⟨a_0, a_1, -⟩ := blk_cells2 (unhide K_a).1
  have n_a := (unhide K_a).2
  obtain ⟨b_0, b_1, -⟩ := blk_cells2 (unhide K_b).1
  have n_b := (unhide K_b).2
  rcases h with ⟨rfl, hbA⟩ | ⟨rfl, hbA⟩
  · go_wp2
    go_ret
    exact ⟨rfl, unhide BL⟩
  have hdA : decide (((1048576 : Int)) - (nA : Int) < 0) = false := by simp; omega
  go_wp2_with fail
  refine (szstate_any ai ni ci xs hbig af nf cf ((1048576 : Int) - (nA : Int)) (by omega) (by omega) _ hni hnf (unhide R_x)).mono ?_
  rintro e w2 ⟨h, b2⟩
  clear a_0 a_1 n_a b_0 b_1 n_b
  have cw2 := b2
  have zw2 := cw2.size
  have K_a := hide (keptblk cw2 K_a)
  have K_b := hide (keptblk cw2 K_b)
  have R_A := hide ((unhide R_A).later cw2)
  have R_x := hide ((unhide R_x).later cw2)
  have R_f := hide ((unhide R_f).later cw2)
  have BL := hide ((unhide BL).trans (cw2.mono (unhide BL).size))
  clear b2 cw2
  obtain ⟨a_0, a_1, -⟩ := blk_cells2 (unhide K_a).1
  have n_a := (unhide K_a).2
  obtain ⟨b_0, b_1, -⟩ := blk_cells2 (unhide K_b).1
  have n_b := (unhide K_b).2
  rcases h with rfl | ⟨r, rfl, hr1, hr2, hm1, hm2, hS⟩
  · go_wp2
    go_ret
    exact ⟨rfl, unhide BL⟩
  have hd : decide (r < 0) = false := by simp; omega
  have HS := hide hS
  clear hS
  clear a_0 a_1 n_a b_0 b_1 n_b
  obtain ⟨x0, x1, -⟩ := blk_cells2 (unhide K_a).1
  obtain ⟨y0, y1, -⟩ := blk_cells2 (unhide K_b).1
  have X0 := hide x0; have X1 := hide x1; have Y0 := hide y0; have Y1 := hide y1
  go_wp2_with fail
  clear x0 x1 y0 y1
  go_cut [8] from 26 to 31 (fun p wx => ∃ (g : Nat) (a1 : Option Addr) (c1 : Nat), p = .pointer (some ⟨g, 0, none⟩) ∧ FinT w2 wx g (.slice a1 nA c1) q1 (tcL sA xs fs id))
  case first =>
    go_region_held3 (fun W => Below w2.heap.size w2 W ∧ W.cell? ⟨w.heap.size, 0, none⟩ = some (.slice aA nA cA) ∧ W.cell? ⟨w.heap.size, 1, none⟩ = some (.int .i64 qA) ∧ W.cell? ⟨w.heap.size + 1, 0, none⟩ = some (.slice ai ni ci) ∧ W.cell? ⟨w.heap.size + 1, 1, none⟩ = some (.slice af nf cf))
      (first | (with_reducible exact keep4 (unhide K_a).2 (unhide K_a).2 (unhide K_b).2 (unhide K_b).2 (unhide X0) (unhide X1) (unhide Y0) (unhide Y1) (Below.refl _ _)) | (with_reducible exact keep4 (unhide K_a).2 (unhide K_a).2 (unhide K_b).2 (unhide K_b).2 (unhide X0) (unhide X1) (unhide Y0) (unhide Y1) ((Below.refl _ _).drew)) | (with_reducible exact keep4 (unhide K_a).2 (unhide K_a).2 (unhide K_b).2 (unhide K_b).2 (unhide X0) (unhide X1) (unhide Y0) (unhide Y1) (by assumption)) | (with_reducible exact keep4 (unhide K_a).2 (unhide K_a).2 (unhide K_b).2 (unhide K_b).2 (unhide X0) (unhide X1) (unhide Y0) (unhide Y1) (kal (Below.refl _ _))) | (with_reducible exact keep4 (unhide K_a).2 (unhide K_a).2 (unhide K_b).2 (unhide K_b).2 (unhide X0) (unhide X1) (unhide Y0) (unhide Y1) (kal ((Below.refl _ _).drew))) | (with_reducible exact keep4 (unhide K_a).2 (unhide K_a).2 (unhide K_b).2 (unhide K_b).2 (unhide X0) (unhide X1) (unhide Y0) (unhide Y1) ((kal (Below.refl _ _)).drew)) | (with_reducible exact keep4 (unhide K_a).2 (unhide K_a).2 (unhide K_b).2 (unhide K_b).2 (unhide X0) (unhide X1) (unhide Y0) (unhide Y1) (kal (by assumption))) | (with_reducible exact keep4 (unhide K_a).2 (unhide K_a).2 (unhide K_b).2 (unhide K_b).2 (unhide X0) (unhide X1) (unhide Y0) (unhide Y1) (ksetT (by assumption) (by assumption))))
      (first
        | (go_at_call 11; refine (totree_any aA nA cA sA qA _ (by omega) ?_).mono ?_; exact (unhide R_A).later (kb1 (by assumption)); rintro e w3 ⟨ta1, tc1, rfl, o1, b6⟩; have R_t1 := hide (o1.rw encN_len); have NT := hide (Ow.nilok o1); clear o1; have bw3 := kb2 (by assumption) b6; have zw3 := bw3.size; (first | (with_reducible have M := hide (BxT.newD (P := w2) b6 (by omega))) | (with_reducible have M := hide (BxT.new (P := w2) b6 (by omega))) | (with_reducible have M := hide (BxT.kept M b6)) | skip); clear b6)
        | (go_at_call 12; refine (tostate_any ai ni ci xs af nf cf fs _ hm1 hm2 ?_ ?_).mono ?_; exact (unhide R_x).later (kb1 (by assumption)); exact (unhide R_f).later (kb1 (by assumption)); rintro e w4 ⟨ta2, tc2, tb2, td2, rfl, o1, o2, b6⟩; have R_tI := hide (o1.rw encI_len); have R_tF := hide (o2.rw encF_len); clear o1 o2; (first | (with_reducible have R_t1 := hide ((unhide R_t1).later b6)) | (with_reducible have R_t1 := hide ((unhide R_t1).later2 b6))); have bw4 := kb2 (by assumption) b6; have zw4 := bw4.size; (first | (with_reducible have M := hide (BxT.newD (P := w2) b6 (by omega))) | (with_reducible have M := hide (BxT.new (P := w2) b6 (by omega))) | (with_reducible have M := hide (BxT.kept M b6)) | skip); clear b6)
        | (go_at_call 10; refine (streetouch_any ta1 nA tc1 sA qA ta2 ni tc2 xs tb2 nf td2 fs id q1 HQ _ (by omega) (unhide NT) (fun k x h => unhide HFS k x h) (by omega) (by omega) ?_ ?_ ?_).mono ?_; (first | exact unhide R_t1 | exact (unhide R_t1).alloc _); (first | exact unhide R_tI | exact (unhide R_tI).alloc _); (first | exact unhide R_tF | exact (unhide R_tF).alloc _); rintro e w5 ⟨ra1, rc1, rfl, o1, b8⟩; have O1 := hide (owT_of o1); clear o1; have bw5 := kb2 (by assumption) b8; (first | (with_reducible have M2 := hide (BfT.new (P := w2) b8 (by omega)); clear b8; obtain ⟨q0, q1x, qf⟩ := blk_cells2 (unhide M2).bx.blk) | (with_reducible have M2 := hide (BfT.kept M b8); clear b8; obtain ⟨q0, q1x, qf⟩ := blk_cells2 (unhide M2).bx.blk) | clear b8)))
    all_goals
      go_wp2_with fail
      go_meet
      first
        | with_reducible exact ⟨_, _, _, rfl, FinT.set bw5 (by first | omega | (simp; omega)) M2 O1⟩
        | with_reducible exact ⟨_, _, _, rfl, FinT.new bw5 (by first | omega | (simp; omega)) O1⟩
  case rest =>
    obtain ⟨gs, wa, wk, rfl, hfin⟩ := hcut
    obtain ⟨E0, hfo⟩ := hfin.o1
    have cwc := hfin.bel
    have zwc := cwc.size
    have ge_gs := hfin.ge
    have lt_gs := hfin.lt
    have K_s := hide (And.intro hfin.blk hfin.lt)
    have R_oW := hide hfo
    have L_oW := hide (World.ownsRow.lt hfo)
    clear hfin hfo X0 X1 Y0 Y1
    have K_a := hide (keptblk cwc K_a)
    have K_b := hide (keptblk cwc K_b)
    have R_A := hide ((unhide R_A).later cwc)
    have R_x := hide ((unhide R_x).later cwc)
    have R_f := hide ((unhide R_f).later cwc)
    have BL := hide ((unhide BL).trans (cwc.mono (unhide BL).size))
    clear cwc
    obtain ⟨a_0, a_1, -⟩ := blk_cells2 (unhide K_a).1
    have n_a := (unhide K_a).2
    obtain ⟨b_0, b_1, -⟩ := blk_cells2 (unhide K_b).1
    have n_b := (unhide K_b).2
    obtain ⟨s_0, s_1, -⟩ := blk_cells2 (unhide K_s).1
    have n_s := (unhide K_s).2
    go_wp2_with fail
    refine (totree_any aA nA cA sA qA _ (by omega) ((unhide R_A))).mono ?_
    rintro e w6 ⟨aX, cX, rfl, o1, b6⟩
    clear a_0 a_1 n_a b_0 b_1 n_b s_0 s_1 n_s
    have cw6 := b6
    have zw6 := cw6.size
    have K_a := hide (keptblk cw6 K_a)
    have K_b := hide (keptblk cw6 K_b)
    have K_s := hide (keptblk cw6 K_s)
    have R_A := hide ((unhide R_A).later cw6)
    have R_x := hide ((unhide R_x).later cw6)
    have R_f := hide ((unhide R_f).later cw6)
    have R_oW := hide ((unhide R_oW).later cw6)
    have BL := hide ((unhide BL).trans (cw6.mono (unhide BL).size))
    have R_oX := hide (o1)
    have L_oX := hide (World.ownsRow.lt (unhide R_oX))
    clear b6 cw6
    obtain ⟨a_0, a_1, -⟩ := blk_cells2 (unhide K_a).1
    have n_a := (unhide K_a).2
    obtain ⟨b_0, b_1, -⟩ := blk_cells2 (unhide K_b).1
    have n_b := (unhide K_b).2
    obtain ⟨s_0, s_1, -⟩ := blk_cells2 (unhide K_s).1
    have n_s := (unhide K_s).2
    clear o1
    go_wp2_with fail
    refine (tostate_any ai ni ci xs af nf cf fs _ hm1 hm2 ((unhide R_x).alloc _) ((unhide R_f).alloc _)).mono ?_
    rintro e w7 ⟨a2, c2, b2, d2, rfl, o1, o2, b7⟩
    clear a_0 a_1 n_a b_0 b_1 n_b s_0 s_1 n_s
    have cw7 := ((Below.refl w6.heap.size w6).alloc (Nat.le_refl _) _).trans (b7.mono (by simp <;> omega))
    have zw7 := cw7.size
    have K_a := hide (keptblk cw7 K_a)
    have K_b := hide (keptblk cw7 K_b)
    have K_s := hide (keptblk cw7 K_s)
    have K_x : Hid (w7.heap[w6.heap.size]? = some (.cells #[.slice aX nA cX, .int .i64 qA] 31 (0, 0)) ∧ w6.heap.size < w7.heap.size) := hide ⟨(b7.block _ (by simp <;> omega)).trans (newB1 w6 _), by have := b7.size; simp at this; omega⟩
    have y_x := (unhide K_x).2
    have R_A := hide ((unhide R_A).later cw7)
    have R_x := hide ((unhide R_x).later cw7)
    have R_f := hide ((unhide R_f).later cw7)
    have R_oW := hide ((unhide R_oW).later cw7)
    have R_oX := hide ((unhide R_oX).later cw7)
    have BL := hide ((unhide BL).trans (cw7.mono (unhide BL).size))
    have R_oY1 := hide (Ow.base (base' := (w6.heap.size + 1)) o1 (by simp))
    have L_oY1 := hide (World.ownsRow.lt (unhide R_oY1))
    have R_oY2 := hide (Ow.base (base' := (w6.heap.size + 1)) o2 (by simp))
    have L_oY2 := hide (World.ownsRow.lt (unhide R_oY2))
    clear b7 cw7
    obtain ⟨a_0, a_1, -⟩ := blk_cells2 (unhide K_a).1
    have n_a := (unhide K_a).2
    obtain ⟨b_0, b_1, -⟩ := blk_cells2 (unhide K_b).1
    have n_b := (unhide K_b).2
    obtain ⟨s_0, s_1, -⟩ := blk_cells2 (unhide K_s).1
    have n_s := (unhide K_s).2
    obtain ⟨x_0, x_1, -⟩ := blk_cells2 (unhide K_x).1
    have n_x := (unhide K_x).2
    clear o1 o2
    go_wp2_with fail
    refine (itreetouch_any aX nA cX sA qA a2 ni c2 xs b2 nf d2 fs id q1 HQ _ (by omega) (Ow.nilok (unhide R_oX)) (fun k x h => unhide HFS k x h) (by omega) (by omega) (((unhide R_oX).rw encN_len).alloc _) (((unhide R_oY1).rw encI_len).alloc _) (((unhide R_oY2).rw encF_len).alloc _)).mono ?_
    rintro e w8 ⟨ga, gc, rfl, ⟨E1, o1⟩, b8⟩
    clear a_0 a_1 n_a b_0 b_1 n_b s_0 s_1 n_s x_0 x_1 n_x
    have cw8 := ((Below.refl w7.heap.size w7).alloc (Nat.le_refl _) _).trans (b8.mono (by simp <;> omega))
    have zw8 := cw8.size
    have K_a := hide (keptblk cw8 K_a)
    have K_b := hide (keptblk cw8 K_b)
    have K_s := hide (keptblk cw8 K_s)
    have K_x := hide (keptblk cw8 K_x)
    have K_y : Hid (w8.heap[w7.heap.size]? = some (.cells #[.slice a2 ni c2, .slice b2 nf d2] 37 (0, 0)) ∧ w7.heap.size < w8.heap.size) := hide ⟨(b8.block _ (by simp <;> omega)).trans (newB1 w7 _), by have := b8.size; simp at this; omega⟩
    have y_y := (unhide K_y).2
    have R_A := hide ((unhide R_A).later cw8)
    have R_x := hide ((unhide R_x).later cw8)
    have R_f := hide ((unhide R_f).later cw8)
    have R_oW := hide ((unhide R_oW).later cw8)
    have R_oX := hide ((unhide R_oX).later cw8)
    have R_oY1 := hide ((unhide R_oY1).later cw8)
    have R_oY2 := hide ((unhide R_oY2).later cw8)
    have BL := hide ((unhide BL).trans (cw8.mono (unhide BL).size))
    have R_oG := hide (Ow.base (base' := (w7.heap.size + 1)) o1 (by simp))
    have L_oG := hide (World.ownsRow.lt (unhide R_oG))
    clear b8 cw8
    obtain ⟨a_0, a_1, -⟩ := blk_cells2 (unhide K_a).1
    have n_a := (unhide K_a).2
    obtain ⟨b_0, b_1, -⟩ := blk_cells2 (unhide K_b).1
    have n_b := (unhide K_b).2
    obtain ⟨s_0, s_1, -⟩ := blk_cells2 (unhide K_s).1
    have n_s := (unhide K_s).2
    obtain ⟨x_0, x_1, -⟩ := blk_cells2 (unhide K_x).1
    have n_x := (unhide K_x).2
    obtain ⟨y_0, y_1, -⟩ := blk_cells2 (unhide K_y).1
    have n_y := (unhide K_y).2
    clear o1
    go_wp2_with fail
    refine (eqtree_same ga wa nA gc wk (tcL sA xs fs id) q1 _ (by omega) (((unhide R_oG).rw encN_len).alloc _) (((unhide R_oW).rw encN_len).alloc _)).mono ?_
    rintro e w9 ⟨rfl, b9⟩
    clear a_0 a_1 n_a b_0 b_1 n_b s_0 s_1 n_s x_0 x_1 n_x y_0 y_1 n_y
    have cw9 := ((Below.refl w8.heap.size w8).alloc (Nat.le_refl _) _).trans (b9.mono (by simp <;> omega))
    have zw9 := cw9.size
    have K_a := hide (keptblk cw9 K_a)
    have K_b := hide (keptblk cw9 K_b)
    have K_s := hide (keptblk cw9 K_s)
    have K_x := hide (keptblk cw9 K_x)
    have K_y := hide (keptblk cw9 K_y)
    have K_g : Hid (w9.heap[w8.heap.size]? = some (.cells #[.slice ga nA gc, .int .i64 q1] 31 (0, 0)) ∧ w8.heap.size < w9.heap.size) := hide ⟨(b9.block _ (by simp <;> omega)).trans (newB1 w8 _), by have := b9.size; simp at this; omega⟩
    have y_g := (unhide K_g).2
    have R_A := hide ((unhide R_A).later cw9)
    have R_x := hide ((unhide R_x).later cw9)
    have R_f := hide ((unhide R_f).later cw9)
    have R_oW := hide ((unhide R_oW).later cw9)
    have R_oX := hide ((unhide R_oX).later cw9)
    have R_oY1 := hide ((unhide R_oY1).later cw9)
    have R_oY2 := hide ((unhide R_oY2).later cw9)
    have R_oG := hide ((unhide R_oG).later cw9)
    have BL := hide ((unhide BL).trans (cw9.mono (unhide BL).size))
    clear b9 cw9
    obtain ⟨a_0, a_1, -⟩ := blk_cells2 (unhide K_a).1
    have n_a := (unhide K_a).2
    obtain ⟨b_0, b_1, -⟩ := blk_cells2 (unhide K_b).1
    have n_b := (unhide K_b).2
    obtain ⟨s_0, s_1, -⟩ := blk_cells2 (unhide K_s).1
    have n_s := (unhide K_s).2
    obtain ⟨x_0, x_1, -⟩ := blk_cells2 (unhide K_x).1
    have n_x := (unhide K_x).2
    obtain ⟨y_0, y_1, -⟩ := blk_cells2 (unhide K_y).1
    have n_y := (unhide K_y).2
    obtain ⟨g_0, g_1, -⟩ := blk_cells2 (unhide K_g).1
    have n_g := (unhide K_g).2
    clear a_0 a_1 n_a b_0 b_1 n_b g_0 g_1 n_g s_0 s_1 n_s x_0 x_1 n_x y_0 y_1 n_y
    obtain ⟨x0, x1, -⟩ := blk_cells2 (unhide K_x).1
    obtain ⟨y0, y1, -⟩ := blk_cells2 (unhide K_a).1
    have X0 := hide x0; have X1 := hide x1; have Y0 := hide y0; have Y1 := hide y1
    go_wp2_with fail
    clear x0 x1 y0 y1
    go_region_held3 (fun W => Below w9.heap.size w9 W ∧ W.cell? ⟨w6.heap.size, 0, none⟩ = some (.slice aX nA cX) ∧ W.cell? ⟨w6.heap.size, 1, none⟩ = some (.int .i64 qA) ∧ W.cell? ⟨w.heap.size, 0, none⟩ = some (.slice aA nA cA) ∧ W.cell? ⟨w.heap.size, 1, none⟩ = some (.int .i64 qA))
      (first | (with_reducible exact keep4 (unhide K_x).2 (unhide K_x).2 (unhide K_a).2 (unhide K_a).2 (unhide X0) (unhide X1) (unhide Y0) (unhide Y1) (Below.refl _ _)) | (with_reducible exact keep4 (unhide K_x).2 (unhide K_x).2 (unhide K_a).2 (unhide K_a).2 (unhide X0) (unhide X1) (unhide Y0) (unhide Y1) ((Below.refl _ _).drew)) | (with_reducible exact keep4 (unhide K_x).2 (unhide K_x).2 (unhide K_a).2 (unhide K_a).2 (unhide X0) (unhide X1) (unhide Y0) (unhide Y1) (by assumption)))
      (first
        | (go_at_call 11; refine (totree_any aA nA cA sA qA _ (by omega) ?_).mono ?_; exact (unhide R_A).later (kb1 (by assumption)); rintro e w10 ⟨ta, tc, rfl, o1, b6⟩; have O5 := hide (o1.rw encN_len); clear o1; have b6k := kb2 (by assumption) b6; clear b6)
        | (go_at_call 14; refine (eqtree_same aX _ nA cX _ sA qA _ (by omega) ?_ (unhide O5)).mono ?_; exact ((unhide R_oX).rw encN_len).later (kb1 (by assumption)); rintro e w11 ⟨rfl, b7⟩; have b7k := kb2 (by assumption) b7; clear b7))
    have cw11 : Below w9.heap.size w9 w11 := b7k
    have zw11 := cw11.size
    clear X0 X1 Y0 Y1 b6k b7k O5
    have K_a := hide (keptblk cw11 K_a)
    have K_b := hide (keptblk cw11 K_b)
    have K_s := hide (keptblk cw11 K_s)
    have K_x := hide (keptblk cw11 K_x)
    have K_y := hide (keptblk cw11 K_y)
    have K_g := hide (keptblk cw11 K_g)
    have R_A := hide ((unhide R_A).later cw11)
    have R_x := hide ((unhide R_x).later cw11)
    have R_f := hide ((unhide R_f).later cw11)
    have R_oW := hide ((unhide R_oW).later cw11)
    have R_oX := hide ((unhide R_oX).later cw11)
    have R_oY1 := hide ((unhide R_oY1).later cw11)
    have R_oY2 := hide ((unhide R_oY2).later cw11)
    have R_oG := hide ((unhide R_oG).later cw11)
    have BL := hide ((unhide BL).trans (cw11.mono (unhide BL).size))
    clear cw11
    obtain ⟨a_0, a_1, -⟩ := blk_cells2 (unhide K_a).1
    have n_a := (unhide K_a).2
    obtain ⟨b_0, b_1, -⟩ := blk_cells2 (unhide K_b).1
    have n_b := (unhide K_b).2
    obtain ⟨s_0, s_1, -⟩ := blk_cells2 (unhide K_s).1
    have n_s := (unhide K_s).2
    obtain ⟨x_0, x_1, -⟩ := blk_cells2 (unhide K_x).1
    have n_x := (unhide K_x).2
    obtain ⟨y_0, y_1, -⟩ := blk_cells2 (unhide K_y).1
    have n_y := (unhide K_y).2
    obtain ⟨g_0, g_1, -⟩ := blk_cells2 (unhide K_g).1
    have n_g := (unhide K_g).2
    clear a_0 a_1 n_a b_0 b_1 n_b g_0 g_1 n_g s_0 s_1 n_s x_0 x_1 n_x y_0 y_1 n_y
    obtain ⟨x0, x1, -⟩ := blk_cells2 (unhide K_y).1
    obtain ⟨y0, y1, -⟩ := blk_cells2 (unhide K_b).1
    have X0 := hide x0; have X1 := hide x1; have Y0 := hide y0; have Y1 := hide y1
    go_wp2_with fail
    clear x0 x1 y0 y1
    go_region_held3 (fun W => Below w11.heap.size w11 W ∧ W.cell? ⟨w7.heap.size, 0, none⟩ = some (.slice a2 ni c2) ∧ W.cell? ⟨w7.heap.size, 1, none⟩ = some (.slice b2 nf d2) ∧ W.cell? ⟨w.heap.size + 1, 0, none⟩ = some (.slice ai ni ci) ∧ W.cell? ⟨w.heap.size + 1, 1, none⟩ = some (.slice af nf cf))
      (first | (with_reducible exact keep4 (unhide K_y).2 (unhide K_y).2 (unhide K_b).2 (unhide K_b).2 (unhide X0) (unhide X1) (unhide Y0) (unhide Y1) (Below.refl _ _)) | (with_reducible exact keep4 (unhide K_y).2 (unhide K_y).2 (unhide K_b).2 (unhide K_b).2 (unhide X0) (unhide X1) (unhide Y0) (unhide Y1) ((Below.refl _ _).drew)) | (with_reducible exact keep4 (unhide K_y).2 (unhide K_y).2 (unhide K_b).2 (unhide K_b).2 (unhide X0) (unhide X1) (unhide Y0) (unhide Y1) (by assumption)))
      (first
        | (go_at_call 12; refine (tostate_any _ _ _ xs _ _ _ fs _ hm1 hm2 ?_ ?_).mono ?_; exact (unhide R_x).later (kb1 (by assumption)); exact (unhide R_f).later (kb1 (by assumption)); rintro e w12 ⟨ta, tb, tc, td, rfl, o1, o2, b6⟩; have O5 := hide (o1.rw encI_len); have O6 := hide (o2.rw encF_len); clear o1 o2; have b6k := kb2 (by assumption) b6; clear b6)
        | (go_at_call 15; refine (eqstate_same _ _ _ _ _ xs _ _ _ _ _ fs _ (by omega) (by omega) ?_ (unhide O5) ?_ (unhide O6)).mono ?_; exact ((unhide R_oY1).rw encI_len).later (kb1 (by assumption)); exact ((unhide R_oY2).rw encF_len).later (kb1 (by assumption)); rintro e w13 ⟨rfl, b7⟩; have b7k := kb2 (by assumption) b7; clear b7))
    have cw13 : Below w11.heap.size w11 w13 := b7k
    clear X0 X1 Y0 Y1 b6k b7k O5 O6
    have K_a := hide (keptblk cw13 K_a)
    have K_b := hide (keptblk cw13 K_b)
    have K_s := hide (keptblk cw13 K_s)
    have K_x := hide (keptblk cw13 K_x)
    have K_y := hide (keptblk cw13 K_y)
    have K_g := hide (keptblk cw13 K_g)
    have R_A := hide ((unhide R_A).later cw13)
    have R_x := hide ((unhide R_x).later cw13)
    have R_f := hide ((unhide R_f).later cw13)
    have R_oW := hide ((unhide R_oW).later cw13)
    have R_oX := hide ((unhide R_oX).later cw13)
    have R_oY1 := hide ((unhide R_oY1).later cw13)
    have R_oY2 := hide ((unhide R_oY2).later cw13)
    have R_oG := hide ((unhide R_oG).later cw13)
    have BL := hide ((unhide BL).trans (cw13.mono (unhide BL).size))
    clear cw13
    obtain ⟨a_0, a_1, -⟩ := blk_cells2 (unhide K_a).1
    have n_a := (unhide K_a).2
    obtain ⟨b_0, b_1, -⟩ := blk_cells2 (unhide K_b).1
    have n_b := (unhide K_b).2
    obtain ⟨s_0, s_1, -⟩ := blk_cells2 (unhide K_s).1
    have n_s := (unhide K_s).2
    obtain ⟨x_0, x_1, -⟩ := blk_cells2 (unhide K_x).1
    have n_x := (unhide K_x).2
    obtain ⟨y_0, y_1, -⟩ := blk_cells2 (unhide K_y).1
    have n_y := (unhide K_y).2
    obtain ⟨g_0, g_1, -⟩ := blk_cells2 (unhide K_g).1
    have n_g := (unhide K_g).2
    go_wp2_with fail
    refine (marktree_v _ aX nA cX _ qA 1 _ (by omega) (by omega) (by omega) (unhide R_oX)).mono ?_
    rintro e w14 ⟨rfl, o1, g1w⟩
    have t1 := Trn.of_grown g1w
    clear a_0 a_1 n_a b_0 b_1 n_b g_0 g_1 n_g s_0 s_1 n_s x_0 x_1 n_x y_0 y_1 n_y
    have zw14 := t1.size
    have K_a := hide (t1.kept K_a (fun q => by (first | (have := unhide L_oX _ q; omega) | (exact absurd q (by simp [Value.ownBlock])))))
    have K_b := hide (t1.kept K_b (fun q => by (first | (have := unhide L_oX _ q; omega) | (exact absurd q (by simp [Value.ownBlock])))))
    have K_s := hide (t1.kept K_s (fun q => by (first | (have := unhide L_oX _ q; omega) | (exact absurd q (by simp [Value.ownBlock])))))
    have K_x := hide (t1.kept K_x (fun q => by (first | (have := unhide L_oX _ q; omega) | (exact absurd q (by simp [Value.ownBlock])))))
    have K_y := hide (t1.kept K_y (fun q => by (first | (have := unhide L_oX _ q; omega) | (exact absurd q (by simp [Value.ownBlock])))))
    have K_g := hide (t1.kept K_g (fun q => by (first | (have := unhide L_oX _ q; omega) | (exact absurd q (by simp [Value.ownBlock])))))
    have R_oW := hide (t1.own (unhide R_oW) (fun i hi => fun q => by have := unhide L_oW _ hi; (first | (have := unhide L_oX _ q; omega) | (exact absurd q (by simp [Value.ownBlock])))))
    have R_oY1 := hide (t1.own (unhide R_oY1) (fun i hi => fun q => by have := unhide L_oY1 _ hi; (first | (have := unhide L_oX _ q; omega) | (exact absurd q (by simp [Value.ownBlock])))))
    have R_oY2 := hide (t1.own (unhide R_oY2) (fun i hi => fun q => by have := unhide L_oY2 _ hi; (first | (have := unhide L_oX _ q; omega) | (exact absurd q (by simp [Value.ownBlock])))))
    have R_oG := hide (t1.own (unhide R_oG) (fun i hi => fun q => by have := unhide L_oG _ hi; (first | (have := unhide L_oX _ q; omega) | (exact absurd q (by simp [Value.ownBlock])))))
    have BL := hide (Trn.below (unhide BL) t1 (unhide BL).size (fun i q => by (first | (have := unhide L_oX _ q; omega) | (exact absurd q (by simp [Value.ownBlock])))))
    have R_A := hide ((unhide O_A).later (unhide BL))
    have R_x := hide ((unhide O_x).later (unhide BL))
    have R_f := hide ((unhide O_f).later (unhide BL))
    have R_oX := hide o1
    clear o1 t1 g1w
    obtain ⟨a_0, a_1, -⟩ := blk_cells2 (unhide K_a).1
    have n_a := (unhide K_a).2
    obtain ⟨b_0, b_1, -⟩ := blk_cells2 (unhide K_b).1
    have n_b := (unhide K_b).2
    obtain ⟨s_0, s_1, -⟩ := blk_cells2 (unhide K_s).1
    have n_s := (unhide K_s).2
    obtain ⟨x_0, x_1, -⟩ := blk_cells2 (unhide K_x).1
    have n_x := (unhide K_x).2
    obtain ⟨y_0, y_1, -⟩ := blk_cells2 (unhide K_y).1
    have n_y := (unhide K_y).2
    obtain ⟨g_0, g_1, -⟩ := blk_cells2 (unhide K_g).1
    have n_g := (unhide K_g).2
    go_wp2_with fail
    refine (markS_any _ a2 ni c2 _ b2 nf d2 _ (1 + (nA : Int)) (by omega) (by omega) _ (by omega) (by omega) (unhide R_oY1) (unhide R_oY2)).mono ?_
    rintro e w15 ⟨rfl, o1, o2, t1⟩
    clear a_0 a_1 n_a b_0 b_1 n_b g_0 g_1 n_g s_0 s_1 n_s x_0 x_1 n_x y_0 y_1 n_y
    have zw15 := t1.size
    have K_a := hide (t1.kept K_a (fun q => by rcases q with q | q; (first | (have := unhide L_oY1 _ q; omega) | (exact absurd q (by simp [Value.ownBlock]))); (first | (have := unhide L_oY2 _ q; omega) | (exact absurd q (by simp [Value.ownBlock])))))
    have K_b := hide (t1.kept K_b (fun q => by rcases q with q | q; (first | (have := unhide L_oY1 _ q; omega) | (exact absurd q (by simp [Value.ownBlock]))); (first | (have := unhide L_oY2 _ q; omega) | (exact absurd q (by simp [Value.ownBlock])))))
    have K_s := hide (t1.kept K_s (fun q => by rcases q with q | q; (first | (have := unhide L_oY1 _ q; omega) | (exact absurd q (by simp [Value.ownBlock]))); (first | (have := unhide L_oY2 _ q; omega) | (exact absurd q (by simp [Value.ownBlock])))))
    have K_x := hide (t1.kept K_x (fun q => by rcases q with q | q; (first | (have := unhide L_oY1 _ q; omega) | (exact absurd q (by simp [Value.ownBlock]))); (first | (have := unhide L_oY2 _ q; omega) | (exact absurd q (by simp [Value.ownBlock])))))
    have K_y := hide (t1.kept K_y (fun q => by rcases q with q | q; (first | (have := unhide L_oY1 _ q; omega) | (exact absurd q (by simp [Value.ownBlock]))); (first | (have := unhide L_oY2 _ q; omega) | (exact absurd q (by simp [Value.ownBlock])))))
    have K_g := hide (t1.kept K_g (fun q => by rcases q with q | q; (first | (have := unhide L_oY1 _ q; omega) | (exact absurd q (by simp [Value.ownBlock]))); (first | (have := unhide L_oY2 _ q; omega) | (exact absurd q (by simp [Value.ownBlock])))))
    have R_oW := hide (t1.own (unhide R_oW) (fun i hi => fun q => by have := unhide L_oW _ hi; rcases q with q | q; (first | (have := unhide L_oY1 _ q; omega) | (exact absurd q (by simp [Value.ownBlock]))); (first | (have := unhide L_oY2 _ q; omega) | (exact absurd q (by simp [Value.ownBlock])))))
    have R_oX := hide (t1.own (unhide R_oX) (fun i hi => fun q => by have := unhide L_oX _ hi; rcases q with q | q; (first | (have := unhide L_oY1 _ q; omega) | (exact absurd q (by simp [Value.ownBlock]))); (first | (have := unhide L_oY2 _ q; omega) | (exact absurd q (by simp [Value.ownBlock])))))
    have R_oG := hide (t1.own (unhide R_oG) (fun i hi => fun q => by have := unhide L_oG _ hi; rcases q with q | q; (first | (have := unhide L_oY1 _ q; omega) | (exact absurd q (by simp [Value.ownBlock]))); (first | (have := unhide L_oY2 _ q; omega) | (exact absurd q (by simp [Value.ownBlock])))))
    have BL := hide (Trn.below (unhide BL) t1 (unhide BL).size (fun i q => by rcases q with q | q; (first | (have := unhide L_oY1 _ q; omega) | (exact absurd q (by simp [Value.ownBlock]))); (first | (have := unhide L_oY2 _ q; omega) | (exact absurd q (by simp [Value.ownBlock])))))
    have R_A := hide ((unhide O_A).later (unhide BL))
    have R_x := hide ((unhide O_x).later (unhide BL))
    have R_f := hide ((unhide O_f).later (unhide BL))
    have R_oY1 := hide o1; have R_oY2 := hide o2
    clear o1 o2 t1
    obtain ⟨a_0, a_1, -⟩ := blk_cells2 (unhide K_a).1
    have n_a := (unhide K_a).2
    obtain ⟨b_0, b_1, -⟩ := blk_cells2 (unhide K_b).1
    have n_b := (unhide K_b).2
    obtain ⟨s_0, s_1, -⟩ := blk_cells2 (unhide K_s).1
    have n_s := (unhide K_s).2
    obtain ⟨x_0, x_1, -⟩ := blk_cells2 (unhide K_x).1
    have n_x := (unhide K_x).2
    obtain ⟨y_0, y_1, -⟩ := blk_cells2 (unhide K_y).1
    have n_y := (unhide K_y).2
    obtain ⟨g_0, g_1, -⟩ := blk_cells2 (unhide K_g).1
    have n_g := (unhide K_g).2
    have hq0 : decide ((1 : Int) + (nA : Int) + 6 * (ni : Int) + 2 * (nf : Int) < 0) = false := by simp; omega
    go_wp2_with fail
    refine (eqtree_same ga wa nA gc wk (tcL sA xs fs id) q1 _ (by omega) (((unhide R_oG).rw encN_len)) (((unhide R_oW).rw encN_len))).mono ?_
    rintro e w16 ⟨rfl, b16⟩
    clear a_0 a_1 n_a b_0 b_1 n_b g_0 g_1 n_g s_0 s_1 n_s x_0 x_1 n_x y_0 y_1 n_y
    have cw16 := b16
    have zw16 := cw16.size
    have K_a := hide (keptblk cw16 K_a)
    have K_b := hide (keptblk cw16 K_b)
    have K_s := hide (keptblk cw16 K_s)
    have K_x := hide (keptblk cw16 K_x)
    have K_y := hide (keptblk cw16 K_y)
    have K_g := hide (keptblk cw16 K_g)
    have R_A := hide ((unhide R_A).later cw16)
    have R_x := hide ((unhide R_x).later cw16)
    have R_f := hide ((unhide R_f).later cw16)
    have R_oW := hide ((unhide R_oW).later cw16)
    have R_oX := hide ((unhide R_oX).later cw16)
    have R_oY1 := hide ((unhide R_oY1).later cw16)
    have R_oY2 := hide ((unhide R_oY2).later cw16)
    have R_oG := hide ((unhide R_oG).later cw16)
    have BL := hide ((unhide BL).trans (cw16.mono (unhide BL).size))
    clear b16 cw16
    obtain ⟨a_0, a_1, -⟩ := blk_cells2 (unhide K_a).1
    have n_a := (unhide K_a).2
    obtain ⟨b_0, b_1, -⟩ := blk_cells2 (unhide K_b).1
    have n_b := (unhide K_b).2
    obtain ⟨s_0, s_1, -⟩ := blk_cells2 (unhide K_s).1
    have n_s := (unhide K_s).2
    obtain ⟨x_0, x_1, -⟩ := blk_cells2 (unhide K_x).1
    have n_x := (unhide K_x).2
    obtain ⟨y_0, y_1, -⟩ := blk_cells2 (unhide K_y).1
    have n_y := (unhide K_y).2
    obtain ⟨g_0, g_1, -⟩ := blk_cells2 (unhide K_g).1
    have n_g := (unhide K_g).2
    go_wp2_with fail
    refine (marktree_v _ ga nA gc _ q1 1 _ (by omega) (by omega) (by omega) (unhide R_oG)).mono ?_
    rintro e w17 ⟨rfl, o1, g1w⟩
    have t1 := Trn.of_grown g1w
    clear a_0 a_1 n_a b_0 b_1 n_b g_0 g_1 n_g s_0 s_1 n_s x_0 x_1 n_x y_0 y_1 n_y
    have zw17 := t1.size
    have K_a := hide (t1.kept K_a (fun q => by (first | (have := unhide L_oG _ q; omega) | (exact absurd q (by simp [Value.ownBlock])))))
    have K_b := hide (t1.kept K_b (fun q => by (first | (have := unhide L_oG _ q; omega) | (exact absurd q (by simp [Value.ownBlock])))))
    have K_s := hide (t1.kept K_s (fun q => by (first | (have := unhide L_oG _ q; omega) | (exact absurd q (by simp [Value.ownBlock])))))
    have K_x := hide (t1.kept K_x (fun q => by (first | (have := unhide L_oG _ q; omega) | (exact absurd q (by simp [Value.ownBlock])))))
    have K_y := hide (t1.kept K_y (fun q => by (first | (have := unhide L_oG _ q; omega) | (exact absurd q (by simp [Value.ownBlock])))))
    have K_g := hide (t1.kept K_g (fun q => by (first | (have := unhide L_oG _ q; omega) | (exact absurd q (by simp [Value.ownBlock])))))
    have R_oW := hide (t1.own (unhide R_oW) (fun i hi => fun q => by have := unhide L_oW _ hi; (first | (have := unhide L_oG _ q; omega) | (exact absurd q (by simp [Value.ownBlock])))))
    have R_oX := hide (t1.own (unhide R_oX) (fun i hi => fun q => by have := unhide L_oX _ hi; (first | (have := unhide L_oG _ q; omega) | (exact absurd q (by simp [Value.ownBlock])))))
    have R_oY1 := hide (t1.own (unhide R_oY1) (fun i hi => fun q => by have := unhide L_oY1 _ hi; (first | (have := unhide L_oG _ q; omega) | (exact absurd q (by simp [Value.ownBlock])))))
    have R_oY2 := hide (t1.own (unhide R_oY2) (fun i hi => fun q => by have := unhide L_oY2 _ hi; (first | (have := unhide L_oG _ q; omega) | (exact absurd q (by simp [Value.ownBlock])))))
    have BL := hide (Trn.below (unhide BL) t1 (unhide BL).size (fun i q => by (first | (have := unhide L_oG _ q; omega) | (exact absurd q (by simp [Value.ownBlock])))))
    have R_A := hide ((unhide O_A).later (unhide BL))
    have R_x := hide ((unhide O_x).later (unhide BL))
    have R_f := hide ((unhide O_f).later (unhide BL))
    have R_oG := hide o1
    clear o1 t1 g1w
    obtain ⟨a_0, a_1, -⟩ := blk_cells2 (unhide K_a).1
    have n_a := (unhide K_a).2
    obtain ⟨b_0, b_1, -⟩ := blk_cells2 (unhide K_b).1
    have n_b := (unhide K_b).2
    obtain ⟨s_0, s_1, -⟩ := blk_cells2 (unhide K_s).1
    have n_s := (unhide K_s).2
    obtain ⟨x_0, x_1, -⟩ := blk_cells2 (unhide K_x).1
    have n_x := (unhide K_x).2
    obtain ⟨y_0, y_1, -⟩ := blk_cells2 (unhide K_y).1
    have n_y := (unhide K_y).2
    obtain ⟨g_0, g_1, -⟩ := blk_cells2 (unhide K_g).1
    have n_g := (unhide K_g).2
    go_wp2_with fail
    refine (heldtree_v ga nA gc q1 1 _ (by omega) (by omega) (by omega) ((unhide R_oG).rw encN_len)).mono ?_
    rintro e w18 ⟨rfl, b18⟩
    clear a_0 a_1 n_a b_0 b_1 n_b g_0 g_1 n_g s_0 s_1 n_s x_0 x_1 n_x y_0 y_1 n_y
    have cw18 := b18
    have zw18 := cw18.size
    have K_a := hide (keptblk cw18 K_a)
    have K_b := hide (keptblk cw18 K_b)
    have K_s := hide (keptblk cw18 K_s)
    have K_x := hide (keptblk cw18 K_x)
    have K_y := hide (keptblk cw18 K_y)
    have K_g := hide (keptblk cw18 K_g)
    have R_A := hide ((unhide R_A).later cw18)
    have R_x := hide ((unhide R_x).later cw18)
    have R_f := hide ((unhide R_f).later cw18)
    have R_oW := hide ((unhide R_oW).later cw18)
    have R_oX := hide ((unhide R_oX).later cw18)
    have R_oY1 := hide ((unhide R_oY1).later cw18)
    have R_oY2 := hide ((unhide R_oY2).later cw18)
    have R_oG := hide ((unhide R_oG).later cw18)
    have BL := hide ((unhide BL).trans (cw18.mono (unhide BL).size))
    clear b18 cw18
    obtain ⟨a_0, a_1, -⟩ := blk_cells2 (unhide K_a).1
    have n_a := (unhide K_a).2
    obtain ⟨b_0, b_1, -⟩ := blk_cells2 (unhide K_b).1
    have n_b := (unhide K_b).2
    obtain ⟨s_0, s_1, -⟩ := blk_cells2 (unhide K_s).1
    have n_s := (unhide K_s).2
    obtain ⟨x_0, x_1, -⟩ := blk_cells2 (unhide K_x).1
    have n_x := (unhide K_x).2
    obtain ⟨y_0, y_1, -⟩ := blk_cells2 (unhide K_y).1
    have n_y := (unhide K_y).2
    obtain ⟨g_0, g_1, -⟩ := blk_cells2 (unhide K_g).1
    have n_g := (unhide K_g).2
    have hq1 : decide ((1 : Int) + (nA : Int) < 0) = false := by simp; omega
    have hq2 : ((1 : Int) + (nA : Int) != 1 + (nA : Int)) = false := by simp
    clear a_0 a_1 n_a b_0 b_1 n_b g_0 g_1 n_g s_0 s_1 n_s x_0 x_1 n_x y_0 y_1 n_y
    obtain ⟨x0, x1, -⟩ := blk_cells2 (unhide K_a).1
    obtain ⟨y0, y1, -⟩ := blk_cells2 (unhide K_b).1
    have X0 := hide x0; have X1 := hide x1; have Y0 := hide y0; have Y1 := hide y1
    go_wp2_with fail
    clear x0 x1 y0 y1
    go_cut [15] from 79 to 84 (fun p wx => ∃ (g : Nat) (a1 : Option Addr) (c1 : Nat), p = .pointer (some ⟨g, 0, none⟩) ∧ FinT w18 wx g (.slice a1 nA c1) q1 (tcL sA xs fs id))
    case first =>
      go_region_held3 (fun W => Below w18.heap.size w18 W ∧ W.cell? ⟨w.heap.size, 0, none⟩ = some (.slice aA nA cA) ∧ W.cell? ⟨w.heap.size, 1, none⟩ = some (.int .i64 qA) ∧ W.cell? ⟨w.heap.size + 1, 0, none⟩ = some (.slice ai ni ci) ∧ W.cell? ⟨w.heap.size + 1, 1, none⟩ = some (.slice af nf cf))
        (first | (with_reducible exact keep4 (unhide K_a).2 (unhide K_a).2 (unhide K_b).2 (unhide K_b).2 (unhide X0) (unhide X1) (unhide Y0) (unhide Y1) (Below.refl _ _)) | (with_reducible exact keep4 (unhide K_a).2 (unhide K_a).2 (unhide K_b).2 (unhide K_b).2 (unhide X0) (unhide X1) (unhide Y0) (unhide Y1) ((Below.refl _ _).drew)) | (with_reducible exact keep4 (unhide K_a).2 (unhide K_a).2 (unhide K_b).2 (unhide K_b).2 (unhide X0) (unhide X1) (unhide Y0) (unhide Y1) (by assumption)) | (with_reducible exact keep4 (unhide K_a).2 (unhide K_a).2 (unhide K_b).2 (unhide K_b).2 (unhide X0) (unhide X1) (unhide Y0) (unhide Y1) (kal (Below.refl _ _))) | (with_reducible exact keep4 (unhide K_a).2 (unhide K_a).2 (unhide K_b).2 (unhide K_b).2 (unhide X0) (unhide X1) (unhide Y0) (unhide Y1) (kal ((Below.refl _ _).drew))) | (with_reducible exact keep4 (unhide K_a).2 (unhide K_a).2 (unhide K_b).2 (unhide K_b).2 (unhide X0) (unhide X1) (unhide Y0) (unhide Y1) ((kal (Below.refl _ _)).drew)) | (with_reducible exact keep4 (unhide K_a).2 (unhide K_a).2 (unhide K_b).2 (unhide K_b).2 (unhide X0) (unhide X1) (unhide Y0) (unhide Y1) (kal (by assumption))) | (with_reducible exact keep4 (unhide K_a).2 (unhide K_a).2 (unhide K_b).2 (unhide K_b).2 (unhide X0) (unhide X1) (unhide Y0) (unhide Y1) (ksetT (by assumption) (by assumption))))
        (first
          | (go_at_call 11; refine (totree_any aA nA cA sA qA _ (by omega) ?_).mono ?_; exact (unhide R_A).later (kb1 (by assumption)); rintro e w19 ⟨ta1, tc1, rfl, o1, b6⟩; have R_t1 := hide (o1.rw encN_len); have NT := hide (Ow.nilok o1); clear o1; have bw19 := kb2 (by assumption) b6; have zw19 := bw19.size; (first | (with_reducible have M := hide (BxT.newD (P := w18) b6 (by omega))) | (with_reducible have M := hide (BxT.new (P := w18) b6 (by omega))) | (with_reducible have M := hide (BxT.kept M b6)) | skip); clear b6)
          | (go_at_call 12; refine (tostate_any ai ni ci xs af nf cf fs _ hm1 hm2 ?_ ?_).mono ?_; exact (unhide R_x).later (kb1 (by assumption)); exact (unhide R_f).later (kb1 (by assumption)); rintro e w20 ⟨ta2, tc2, tb2, td2, rfl, o1, o2, b6⟩; have R_tI := hide (o1.rw encI_len); have R_tF := hide (o2.rw encF_len); clear o1 o2; (first | (with_reducible have R_t1 := hide ((unhide R_t1).later b6)) | (with_reducible have R_t1 := hide ((unhide R_t1).later2 b6))); have bw20 := kb2 (by assumption) b6; have zw20 := bw20.size; (first | (with_reducible have M := hide (BxT.newD (P := w18) b6 (by omega))) | (with_reducible have M := hide (BxT.new (P := w18) b6 (by omega))) | (with_reducible have M := hide (BxT.kept M b6)) | skip); clear b6)
          | (go_at_call 13; refine (itreetouch_any ta1 nA tc1 sA qA ta2 ni tc2 xs tb2 nf td2 fs id q1 HQ _ (by omega) (unhide NT) (fun k x h => unhide HFS k x h) (by omega) (by omega) ?_ ?_ ?_).mono ?_; (first | exact unhide R_t1 | exact (unhide R_t1).alloc _); (first | exact unhide R_tI | exact (unhide R_tI).alloc _); (first | exact unhide R_tF | exact (unhide R_tF).alloc _); rintro e w21 ⟨ra1, rc1, rfl, o1, b8⟩; have O1 := hide (o1); clear o1; have bw21 := kb2 (by assumption) b8; (first | (with_reducible have M2 := hide (BfT.new (P := w18) b8 (by omega)); clear b8; obtain ⟨q0, q1x, qf⟩ := blk_cells2 (unhide M2).bx.blk) | (with_reducible have M2 := hide (BfT.kept M b8); clear b8; obtain ⟨q0, q1x, qf⟩ := blk_cells2 (unhide M2).bx.blk) | clear b8)))
      all_goals
        go_wp2_with fail
        go_meet
        first
          | with_reducible exact ⟨_, _, _, rfl, FinT.set bw21 (by first | omega | (simp; omega)) M2 O1⟩
          | with_reducible exact ⟨_, _, _, rfl, FinT.new bw21 (by first | omega | (simp; omega)) O1⟩
    case rest =>
      obtain ⟨gh, ha, hc, rfl, hfin⟩ := hcut
      obtain ⟨E2, hfo⟩ := hfin.o1
      have cwc := hfin.bel
      have zwc := cwc.size
      have ge_gh := hfin.ge
      have lt_gh := hfin.lt
      have K_h := hide (And.intro hfin.blk hfin.lt)
      have R_oH := hide hfo
      have L_oH := hide (World.ownsRow.lt hfo)
      clear hfin hfo X0 X1 Y0 Y1
      have K_a := hide (keptblk cwc K_a)
      have K_b := hide (keptblk cwc K_b)
      have K_s := hide (keptblk cwc K_s)
      have K_x := hide (keptblk cwc K_x)
      have K_y := hide (keptblk cwc K_y)
      have K_g := hide (keptblk cwc K_g)
      have R_A := hide ((unhide R_A).later cwc)
      have R_x := hide ((unhide R_x).later cwc)
      have R_f := hide ((unhide R_f).later cwc)
      have R_oW := hide ((unhide R_oW).later cwc)
      have R_oX := hide ((unhide R_oX).later cwc)
      have R_oY1 := hide ((unhide R_oY1).later cwc)
      have R_oY2 := hide ((unhide R_oY2).later cwc)
      have R_oG := hide ((unhide R_oG).later cwc)
      have BL := hide ((unhide BL).trans (cwc.mono (unhide BL).size))
      clear cwc
      obtain ⟨a_0, a_1, -⟩ := blk_cells2 (unhide K_a).1
      have n_a := (unhide K_a).2
      obtain ⟨b_0, b_1, -⟩ := blk_cells2 (unhide K_b).1
      have n_b := (unhide K_b).2
      obtain ⟨s_0, s_1, -⟩ := blk_cells2 (unhide K_s).1
      have n_s := (unhide K_s).2
      obtain ⟨x_0, x_1, -⟩ := blk_cells2 (unhide K_x).1
      have n_x := (unhide K_x).2
      obtain ⟨y_0, y_1, -⟩ := blk_cells2 (unhide K_y).1
      have n_y := (unhide K_y).2
      obtain ⟨g_0, g_1, -⟩ := blk_cells2 (unhide K_g).1
      have n_g := (unhide K_g).2
      obtain ⟨h_0, h_1, -⟩ := blk_cells2 (unhide K_h).1
      have n_h := (unhide K_h).2
      go_wp2_with fail
      refine (eqtree_same ha wa nA hc wk (tcL sA xs fs id) q1 _ (by omega) (((unhide R_oH).rw encN_len)) (((unhide R_oW).rw encN_len))).mono ?_
      rintro e w22 ⟨rfl, b22⟩
      clear a_0 a_1 n_a b_0 b_1 n_b g_0 g_1 n_g h_0 h_1 n_h s_0 s_1 n_s x_0 x_1 n_x y_0 y_1 n_y
      have cw22 := b22
      have zw22 := cw22.size
      have K_a := hide (keptblk cw22 K_a)
      have K_b := hide (keptblk cw22 K_b)
      have K_s := hide (keptblk cw22 K_s)
      have K_x := hide (keptblk cw22 K_x)
      have K_y := hide (keptblk cw22 K_y)
      have K_g := hide (keptblk cw22 K_g)
      have K_h := hide (keptblk cw22 K_h)
      have R_A := hide ((unhide R_A).later cw22)
      have R_x := hide ((unhide R_x).later cw22)
      have R_f := hide ((unhide R_f).later cw22)
      have R_oW := hide ((unhide R_oW).later cw22)
      have R_oX := hide ((unhide R_oX).later cw22)
      have R_oY1 := hide ((unhide R_oY1).later cw22)
      have R_oY2 := hide ((unhide R_oY2).later cw22)
      have R_oG := hide ((unhide R_oG).later cw22)
      have R_oH := hide ((unhide R_oH).later cw22)
      have BL := hide ((unhide BL).trans (cw22.mono (unhide BL).size))
      clear b22 cw22
      obtain ⟨a_0, a_1, -⟩ := blk_cells2 (unhide K_a).1
      have n_a := (unhide K_a).2
      obtain ⟨b_0, b_1, -⟩ := blk_cells2 (unhide K_b).1
      have n_b := (unhide K_b).2
      obtain ⟨s_0, s_1, -⟩ := blk_cells2 (unhide K_s).1
      have n_s := (unhide K_s).2
      obtain ⟨x_0, x_1, -⟩ := blk_cells2 (unhide K_x).1
      have n_x := (unhide K_x).2
      obtain ⟨y_0, y_1, -⟩ := blk_cells2 (unhide K_y).1
      have n_y := (unhide K_y).2
      obtain ⟨g_0, g_1, -⟩ := blk_cells2 (unhide K_g).1
      have n_g := (unhide K_g).2
      obtain ⟨h_0, h_1, -⟩ := blk_cells2 (unhide K_h).1
      have n_h := (unhide K_h).2
      go_wp2_with fail
      refine (heldtree_v ga nA gc q1 1 _ (by omega) (by omega) (by omega) ((unhide R_oG).rw encN_len)).mono ?_
      rintro e w23 ⟨rfl, b23⟩
      clear a_0 a_1 n_a b_0 b_1 n_b g_0 g_1 n_g h_0 h_1 n_h s_0 s_1 n_s x_0 x_1 n_x y_0 y_1 n_y
      have cw23 := b23
      have zw23 := cw23.size
      have K_a := hide (keptblk cw23 K_a)
      have K_b := hide (keptblk cw23 K_b)
      have K_s := hide (keptblk cw23 K_s)
      have K_x := hide (keptblk cw23 K_x)
      have K_y := hide (keptblk cw23 K_y)
      have K_g := hide (keptblk cw23 K_g)
      have K_h := hide (keptblk cw23 K_h)
      have R_A := hide ((unhide R_A).later cw23)
      have R_x := hide ((unhide R_x).later cw23)
      have R_f := hide ((unhide R_f).later cw23)
      have R_oW := hide ((unhide R_oW).later cw23)
      have R_oX := hide ((unhide R_oX).later cw23)
      have R_oY1 := hide ((unhide R_oY1).later cw23)
      have R_oY2 := hide ((unhide R_oY2).later cw23)
      have R_oG := hide ((unhide R_oG).later cw23)
      have R_oH := hide ((unhide R_oH).later cw23)
      have BL := hide ((unhide BL).trans (cw23.mono (unhide BL).size))
      clear b23 cw23
      obtain ⟨a_0, a_1, -⟩ := blk_cells2 (unhide K_a).1
      have n_a := (unhide K_a).2
      obtain ⟨b_0, b_1, -⟩ := blk_cells2 (unhide K_b).1
      have n_b := (unhide K_b).2
      obtain ⟨s_0, s_1, -⟩ := blk_cells2 (unhide K_s).1
      have n_s := (unhide K_s).2
      obtain ⟨x_0, x_1, -⟩ := blk_cells2 (unhide K_x).1
      have n_x := (unhide K_x).2
      obtain ⟨y_0, y_1, -⟩ := blk_cells2 (unhide K_y).1
      have n_y := (unhide K_y).2
      obtain ⟨g_0, g_1, -⟩ := blk_cells2 (unhide K_g).1
      have n_g := (unhide K_g).2
      obtain ⟨h_0, h_1, -⟩ := blk_cells2 (unhide K_h).1
      have n_h := (unhide K_h).2
      go_wp2
      go_ret
      exact ⟨rfl, unhide BL⟩

set_option maxHeartbeats 4000000 in
set_option maxRecDepth 100000 in
theorem lifted (os : Os) (started : os.Started) (H : Type) (enc : TypeId × Value → H) :
    ReturnsInHanded {} Try.checked os 3 .any (Rows.fnExactTreeTouchSpec.pre6 enc Try.prog Try.f3 Rows.fnExactTreeTouchRow.domain false) (Rows.fnExactTreeTouchSpec.post enc Try.prog Try.f3 false true false false) := by
  refine returnsInHanded_of_change (C := Try.checked) own started (by kernel_rfl) Try.func3
    (ChangeSpec.witness6 (enc := enc) (C := Try.checked) false ⟨#[], #[.agg #[.slice none 0 0, .int .i64 0], .agg #[.slice none 0 0, .slice none 0 0], .int .i64 0], []⟩ 8 (by kernel_rfl) (by kernel_rfl) (by kernel_rfl) (by kernel_rfl)) ?_
  intro W base args ds gs before hval0 hW hcnd _
  have hval : ∀ (j : Nat) t v, Try.f3.params[j]? = some t → args[j]? = some v → Value.okWide Try.prog W .any base t v := hval0
  have hW' := hW
  obtain ⟨p, q, hA0, hV, rfl, hfz, hnd⟩ := hW
  have hA : DataW.TrodAll enc Try.prog W 0 (fun _ => true) true Try.f3.params.toList args.toList ds p := hA0
  rw [Try.params3] at hA hval
  obtain ⟨v0, vs0, d0, ds0, p0, q0, hargs0, rfl, rfl, h0, r0⟩ := trodAll_cons hA
  obtain ⟨v1, vs1, d1, ds1, p1, q1, hargs1, rfl, rfl, h1, r1⟩ := trodAll_cons r0
  obtain ⟨v2, vs2, d2, ds2, p2, q2, hargs2, rfl, rfl, h2, r2⟩ := trodAll_cons r1
  obtain ⟨rfl, rfl, rfl⟩ := trodAll_nil r2
  obtain rfl : args = #[v0, v1, v2] := by cases args; simp_all
  obtain ⟨rfl, rfl⟩ := trodVars_none hV
  have k0 := h0
  have lt0 : ∀ x ∈ p0, x.block < W.heap.size := by obtain ⟨m, hm⟩ := k0; exact DataW.trod_lt m _ _ _ hm
  have k1 := h1
  have lt1 : ∀ x ∈ p1, x.block < W.heap.size := by obtain ⟨m, hm⟩ := k1; exact DataW.trod_lt m _ _ _ hm
  have k2 := h2
  have lt2 : ∀ x ∈ p2, x.block < W.heap.size := by obtain ⟨m, hm⟩ := k2; exact DataW.trod_lt m _ _ _ hm
  obtain ⟨Aa, An, Ac, As, Aq, rfl, Ah1, Ah2, Ah3, Ah4⟩ := open_tree (hval 0 24 v0 rfl rfl) h0
  obtain ⟨sai, sni, sci, sxs, saf, snf, scf, sfs, rfl, sh1, sh2, sh3, sh4, sh5, sh6, sh7⟩ := open_state (hval 1 28 v1 rfl rfl) h1
  obtain ⟨id, rfl, -, -, wid⟩ := open_int Try.underlying3 (hval 2 3 v2 rfl rfl) h2
  clear hA0 hval0
  refine (walk W Aa An Ac As Aq Ah1 Ah2 Ah3 Ah4 sai sni sci sxs saf snf scf sfs sh1 sh2 sh3 sh4 sh5 sh6 sh7 id wid).mono fun e W' ⟨he, bel⟩ => ?_
  subst he
  exact ⟨_, rfl, _, _, _, [], _, [], hW', trodAll_mk1 (shut_bool Try.underlying4 _), (trodAll_cons_mk (Below.trod laidOut (by kernel_rfl) (of_decide_eq_true (by kernel_rfl)) k0 bel lt0) (trodAll_cons_mk (Below.trod laidOut (by kernel_rfl) (of_decide_eq_true (by kernel_rfl)) k1 bel lt1) (trodAll_cons_mk (Below.trod laidOut (by kernel_rfl) (of_decide_eq_true (by kernel_rfl)) k2 bel lt2) trodAll_mk0))), rfl, bel.frame _, fun h => by cases h⟩

theorem over : Rows.fnExactTreeTouchRow.holds Try.pinned (OpenSpec.ofChange Rows.fnExactTreeTouchSpec) :=
  OpenClaim.holds_of_wide 3 Try.f3 rfl rfl rfl rfl rfl rfl rfl ⟨rfl, rfl, rfl, rfl, rfl⟩ rfl rfl rfl rfl rfl (by kernel_rfl) Try.func3 (by kernel_rfl)
    (of_decide_eq_true (by kernel_rfl)) (by unfold Func.isWrapper; first | (rw [if_pos (by decide +kernel)]; kernel_rfl) | (rw [if_neg (by decide +kernel)]; exact ⟨rfl, rfl⟩))
    (fun os started H enc _ => lifted os started H enc)

theorem proved : Rows.FnExactTreeTouchSaid := over
#print axioms proved
end Go.Proofs.Ytdpaocikmijioaf.fnExactTreeTouch
namespace Go.Proofs.Ytdpaocikmijioaf
theorem fnExactTreeTouch_holds : Rows.FnExactTreeTouchSaid := fnExactTreeTouch.proved
end Go.Proofs.Ytdpaocikmijioaf
