/-
  At every argument SayBeat answers as the specification, it writes into no argument, and its answer owns its memory, behind another call too; for every input, by the statement given.
-/
import Derived.Test.YtdpaocikmijioadRows
import Derived.Test.YtdpaocikmijioadStA
import Derived.Test.YtdpaocikmijioadStT
import Derived.Test.YtdpaocikmijioadStE
import Derived.Test.YtdpaocikmijioadStO
import Derived.Test.YtdpaocikmijioadSt3
import Derived.Test.YtdpaocikmijioadStM
import Derived.Test.YtdpaocikmijioadStH
import Derived.Test.YtdpaocikmijioadSyS
import Derived.Test.YtdpaocikmijioadSyT
import Derived.WalkKit
import Derived.ProofKit
import Derived.OpenShut
import Derived.ShutString
import Derived.ChangeOld
import Derived.Below
import Derived.Carry
namespace Go.Proofs.Ytdpaocikmijioad.fnExactSayBeat
open Go.ChangeShapes Go.WideShapes Go.ChangeAt Go.RowKit
open Go.ChangeMaps (open_string shut_string)

theorem own : ownKnob Try.prog.godebug = none := by kernel_rfl
theorem laidOut : laidOutB Try.prog = true := by kernel_rfl

set_option maxHeartbeats 4000000 in
set_option maxRecDepth 100000 in
theorem walk (w : World) (ai : Option Addr) (ni ci : Nat) (xs : List Itm) (af : Option Addr) (nf cf : Nat) (fs : List Flr) (hni : ni ≤ 9223372036854775807) (hnf : nf ≤ 9223372036854775807) (hx : Rw encI 6 w (.slice ai ni ci) xs) (hf : Rw encF 2 w (.slice af nf cf) fs) (hbig : Big xs) (_ : FitI xs) (_ : FitF fs) (id : Int) (_ : (Lit.int .i64 id).wf = true) :
    Calls Try.prog 7 #[.agg #[.slice ai ni ci, .slice af nf cf], .int .i64 id] w fun e w' => e = .returned (.bool true) ∧ Below w.heap.size w w' := by
  have R_x := hide hx
  have R_f := hide hf
  clear hx hf
  have O_x := R_x
  have O_f := R_f
  have hl1 := sayL_len 1 ⟨#[]⟩ xs fs id
  obtain ⟨n, hn⟩ : ∃ n, (sayL 1 ⟨#[]⟩ xs fs id).length = n := ⟨_, rfl⟩
  obtain ⟨c, hc⟩ : ∃ c, sayC 1 ⟨#[]⟩ xs fs id = c := ⟨_, rfl⟩
  rw [hn] at hl1
  have HN := hide hn
  have HC := hide hc
  have hne : (c != c) = false := by simp
  clear hn hc
  go_enter Try.func7, Try.ntmps7
  go_wp2_with fail
  refine (szstate_any ai ni ci xs hbig af nf cf 1048576 (by omega) (by omega) _ hni hnf ((unhide R_x).alloc _)).mono ?_
  rintro e w1 ⟨h, b1⟩
  have cw1 := ((Below.refl w.heap.size w).alloc (Nat.le_refl _) _).trans (b1.mono (by simp <;> omega))
  have zw1 := cw1.size
  have K_a : Hid (w1.heap[w.heap.size]? = some (.cells #[.slice ai ni ci, .slice af nf cf] 25 (0, 0)) ∧ w.heap.size < w1.heap.size) := hide ⟨(b1.block _ (by simp <;> omega)).trans (newB1 w _), by have := b1.size; simp at this; omega⟩
  have y_a := (unhide K_a).2
  have R_x := hide ((unhide R_x).later cw1)
  have R_f := hide ((unhide R_f).later cw1)
  have BL := hide cw1
  clear b1 cw1
  obtain ⟨a_0, a_1, -⟩ := blk_cells2 (unhide K_a).1
  have n_a := (unhide K_a).2
  rcases h with rfl | ⟨r, rfl, hr1, hr2, hm1, hm2, hS⟩
  · go_wp2
    go_ret
    exact ⟨rfl, unhide BL⟩
  have hd : decide (r < 0) = false := by simp; omega
  have HS := hide hS
  clear hS
  go_wp2_with fail
  refine (tostate_any ai ni ci xs af nf cf fs _ hm1 hm2 (unhide R_x) (unhide R_f)).mono ?_
  rintro e w2 ⟨a1, c1, b1, d1, rfl, o1, o2, b2⟩
  clear a_0 a_1 n_a
  have cw2 := b2
  have zw2 := cw2.size
  have K_a := hide (keptblk cw2 K_a)
  have R_x := hide ((unhide R_x).later cw2)
  have R_f := hide ((unhide R_f).later cw2)
  have BL := hide ((unhide BL).trans (cw2.mono (unhide BL).size))
  have R_I1 := hide (o1.rw encI_len)
  have R_F1 := hide (o2.rw encF_len)
  clear b2 cw2
  obtain ⟨a_0, a_1, -⟩ := blk_cells2 (unhide K_a).1
  have n_a := (unhide K_a).2
  clear o1 o2
  go_wp2_with fail
  refine (ssay1_any a1 ni c1 xs b1 nf d1 fs id n HN c HC _ (by omega) (by omega) (unhide R_I1) (unhide R_F1)).mono ?_
  rintro e w3 ⟨wa1, wc1, rfl, o1, b3⟩
  clear a_0 a_1 n_a
  have cw3 := b3
  have zw3 := cw3.size
  have K_a := hide (keptblk cw3 K_a)
  have R_x := hide ((unhide R_x).later cw3)
  have R_f := hide ((unhide R_f).later cw3)
  clear R_I1
  clear R_F1
  have BL := hide ((unhide BL).trans (cw3.mono (unhide BL).size))
  have R_oW1 := hide (o1)
  have L_oW1 := hide (World.ownsRow.lt (unhide R_oW1))
  clear b3 cw3
  obtain ⟨a_0, a_1, -⟩ := blk_cells2 (unhide K_a).1
  have n_a := (unhide K_a).2
  clear o1
  go_wp2_with fail
  refine (tostate_any ai ni ci xs af nf cf fs _ hm1 hm2 ((unhide R_x).alloc _) ((unhide R_f).alloc _)).mono ?_
  rintro e w4 ⟨a2, c2, b2, d2, rfl, o1, o2, b4⟩
  clear a_0 a_1 n_a
  have cw4 := ((Below.refl w3.heap.size w3).alloc (Nat.le_refl _) _).trans (b4.mono (by simp <;> omega))
  have zw4 := cw4.size
  have K_a := hide (keptblk cw4 K_a)
  have K_s : Hid (w4.heap[w3.heap.size]? = some (.cells #[.slice wa1 n wc1, .slice none 0 0] 31 (0, 0)) ∧ w3.heap.size < w4.heap.size) := hide ⟨(b4.block _ (by simp <;> omega)).trans (newB1 w3 _), by have := b4.size; simp at this; omega⟩
  have y_s := (unhide K_s).2
  have R_x := hide ((unhide R_x).later cw4)
  have R_f := hide ((unhide R_f).later cw4)
  have R_oW1 := hide ((unhide R_oW1).later cw4)
  have BL := hide ((unhide BL).trans (cw4.mono (unhide BL).size))
  have R_oX1 := hide (Ow.base (base' := (w3.heap.size + 1)) o1 (by simp))
  have L_oX1 := hide (World.ownsRow.lt (unhide R_oX1))
  have R_oX2 := hide (Ow.base (base' := (w3.heap.size + 1)) o2 (by simp))
  have L_oX2 := hide (World.ownsRow.lt (unhide R_oX2))
  clear b4 cw4
  obtain ⟨a_0, a_1, -⟩ := blk_cells2 (unhide K_a).1
  have n_a := (unhide K_a).2
  obtain ⟨s_0, s_1, -⟩ := blk_cells2 (unhide K_s).1
  have n_s := (unhide K_s).2
  clear o1 o2
  go_wp2_with fail
  refine (isay1_any a2 ni c2 xs b2 nf d2 fs id n HN c HC _ (by omega) (by omega) (((unhide R_oX1).rw encI_len).alloc _) (((unhide R_oX2).rw encF_len).alloc _)).mono ?_
  rintro e w5 ⟨g1, e1, rfl, o1, b5⟩
  clear a_0 a_1 n_a s_0 s_1 n_s
  have cw5 := ((Below.refl w4.heap.size w4).alloc (Nat.le_refl _) _).trans (b5.mono (by simp <;> omega))
  have zw5 := cw5.size
  have K_a := hide (keptblk cw5 K_a)
  have K_s := hide (keptblk cw5 K_s)
  have K_x : Hid (w5.heap[w4.heap.size]? = some (.cells #[.slice a2 ni c2, .slice b2 nf d2] 31 (0, 0)) ∧ w4.heap.size < w5.heap.size) := hide ⟨(b5.block _ (by simp <;> omega)).trans (newB1 w4 _), by have := b5.size; simp at this; omega⟩
  have y_x := (unhide K_x).2
  have R_x := hide ((unhide R_x).later cw5)
  have R_f := hide ((unhide R_f).later cw5)
  have R_oW1 := hide ((unhide R_oW1).later cw5)
  have R_oX1 := hide ((unhide R_oX1).later cw5)
  have R_oX2 := hide ((unhide R_oX2).later cw5)
  have BL := hide ((unhide BL).trans (cw5.mono (unhide BL).size))
  have R_oG1 := hide (Ow.base (base' := (w4.heap.size + 1)) o1 (by simp))
  have L_oG1 := hide (World.ownsRow.lt (unhide R_oG1))
  clear b5 cw5
  obtain ⟨a_0, a_1, -⟩ := blk_cells2 (unhide K_a).1
  have n_a := (unhide K_a).2
  obtain ⟨s_0, s_1, -⟩ := blk_cells2 (unhide K_s).1
  have n_s := (unhide K_s).2
  obtain ⟨x_0, x_1, -⟩ := blk_cells2 (unhide K_x).1
  have n_x := (unhide K_x).2
  clear o1
  go_wp2_with fail
  refine (eqstate_same _ _ _ _ _ (sayL 1 ⟨#[]⟩ xs fs id) _ _ _ _ _ [] _ (by omega) (by omega) (((unhide R_oG1).rw encI_len).alloc _) (((unhide R_oW1).rw encI_len).alloc _) Rw.nil Rw.nil).mono ?_
  rintro e w6 ⟨rfl, b6⟩
  clear a_0 a_1 n_a s_0 s_1 n_s x_0 x_1 n_x
  have cw6 := ((Below.refl w5.heap.size w5).alloc (Nat.le_refl _) _).trans (b6.mono (by simp <;> omega))
  have zw6 := cw6.size
  have K_a := hide (keptblk cw6 K_a)
  have K_s := hide (keptblk cw6 K_s)
  have K_x := hide (keptblk cw6 K_x)
  have K_g : Hid (w6.heap[w5.heap.size]? = some (.cells #[.slice g1 n e1, .slice none 0 0] 31 (0, 0)) ∧ w5.heap.size < w6.heap.size) := hide ⟨(b6.block _ (by simp <;> omega)).trans (newB1 w5 _), by have := b6.size; simp at this; omega⟩
  have y_g := (unhide K_g).2
  have R_x := hide ((unhide R_x).later cw6)
  have R_f := hide ((unhide R_f).later cw6)
  have R_oW1 := hide ((unhide R_oW1).later cw6)
  have R_oX1 := hide ((unhide R_oX1).later cw6)
  have R_oX2 := hide ((unhide R_oX2).later cw6)
  have R_oG1 := hide ((unhide R_oG1).later cw6)
  have BL := hide ((unhide BL).trans (cw6.mono (unhide BL).size))
  clear b6 cw6
  obtain ⟨a_0, a_1, -⟩ := blk_cells2 (unhide K_a).1
  have n_a := (unhide K_a).2
  obtain ⟨s_0, s_1, -⟩ := blk_cells2 (unhide K_s).1
  have n_s := (unhide K_s).2
  obtain ⟨x_0, x_1, -⟩ := blk_cells2 (unhide K_x).1
  have n_x := (unhide K_x).2
  obtain ⟨g_0, g_1, -⟩ := blk_cells2 (unhide K_g).1
  have n_g := (unhide K_g).2
  clear a_0 a_1 n_a g_0 g_1 n_g s_0 s_1 n_s x_0 x_1 n_x
  obtain ⟨x0, x1, -⟩ := blk_cells2 (unhide K_x).1
  obtain ⟨y0, y1, -⟩ := blk_cells2 (unhide K_a).1
  have X0 := hide x0; have X1 := hide x1; have Y0 := hide y0; have Y1 := hide y1
  go_wp2_with fail
  clear x0 x1 y0 y1
  go_region_held3 (fun W => Below w6.heap.size w6 W ∧ W.cell? ⟨w4.heap.size, 0, none⟩ = some (.slice a2 ni c2) ∧ W.cell? ⟨w4.heap.size, 1, none⟩ = some (.slice b2 nf d2) ∧ W.cell? ⟨w.heap.size, 0, none⟩ = some (.slice ai ni ci) ∧ W.cell? ⟨w.heap.size, 1, none⟩ = some (.slice af nf cf))
    (first | (with_reducible exact keep4 (unhide K_x).2 (unhide K_x).2 (unhide K_a).2 (unhide K_a).2 (unhide X0) (unhide X1) (unhide Y0) (unhide Y1) (Below.refl _ _)) | (with_reducible exact keep4 (unhide K_x).2 (unhide K_x).2 (unhide K_a).2 (unhide K_a).2 (unhide X0) (unhide X1) (unhide Y0) (unhide Y1) ((Below.refl _ _).drew)) | (with_reducible exact keep4 (unhide K_x).2 (unhide K_x).2 (unhide K_a).2 (unhide K_a).2 (unhide X0) (unhide X1) (unhide Y0) (unhide Y1) (by assumption)))
    (first
      | (go_at_call 10; refine (tostate_any _ _ _ xs _ _ _ fs _ hm1 hm2 ?_ ?_).mono ?_; exact (unhide R_x).later (kb1 (by assumption)); exact (unhide R_f).later (kb1 (by assumption)); rintro e w7 ⟨ta, tb, tc, td, rfl, o1, o2, b6⟩; have O5 := hide (o1.rw encI_len); have O6 := hide (o2.rw encF_len); clear o1 o2; have b6k := kb2 (by assumption) b6; clear b6)
      | (go_at_call 12; refine (eqstate_same _ _ _ _ _ xs _ _ _ _ _ fs _ (by omega) (by omega) ?_ (unhide O5) ?_ (unhide O6)).mono ?_; exact ((unhide R_oX1).rw encI_len).later (kb1 (by assumption)); exact ((unhide R_oX2).rw encF_len).later (kb1 (by assumption)); rintro e w8 ⟨rfl, b7⟩; have b7k := kb2 (by assumption) b7; clear b7))
  have cw8 : Below w6.heap.size w6 w8 := b7k
  clear X0 X1 Y0 Y1 b6k b7k O5 O6
  have K_a := hide (keptblk cw8 K_a)
  have K_s := hide (keptblk cw8 K_s)
  have K_x := hide (keptblk cw8 K_x)
  have K_g := hide (keptblk cw8 K_g)
  have R_x := hide ((unhide R_x).later cw8)
  have R_f := hide ((unhide R_f).later cw8)
  have R_oW1 := hide ((unhide R_oW1).later cw8)
  have R_oX1 := hide ((unhide R_oX1).later cw8)
  have R_oX2 := hide ((unhide R_oX2).later cw8)
  have R_oG1 := hide ((unhide R_oG1).later cw8)
  have BL := hide ((unhide BL).trans (cw8.mono (unhide BL).size))
  clear cw8
  obtain ⟨a_0, a_1, -⟩ := blk_cells2 (unhide K_a).1
  have n_a := (unhide K_a).2
  obtain ⟨s_0, s_1, -⟩ := blk_cells2 (unhide K_s).1
  have n_s := (unhide K_s).2
  obtain ⟨x_0, x_1, -⟩ := blk_cells2 (unhide K_x).1
  have n_x := (unhide K_x).2
  obtain ⟨g_0, g_1, -⟩ := blk_cells2 (unhide K_g).1
  have n_g := (unhide K_g).2
  go_wp2_with fail
  refine (markS_any _ a2 ni c2 _ b2 nf d2 _ 1 (by omega) (by omega) _ (by omega) (by omega) (unhide R_oX1) (unhide R_oX2)).mono ?_
  rintro e w9 ⟨rfl, o1, o2, t1⟩
  clear a_0 a_1 n_a g_0 g_1 n_g s_0 s_1 n_s x_0 x_1 n_x
  have zw9 := t1.size
  have K_a := hide (t1.kept K_a (fun q => by rcases q with q | q; (first | (have := unhide L_oX1 _ q; omega) | (exact absurd q (by simp [Value.ownBlock]))); (first | (have := unhide L_oX2 _ q; omega) | (exact absurd q (by simp [Value.ownBlock])))))
  have K_s := hide (t1.kept K_s (fun q => by rcases q with q | q; (first | (have := unhide L_oX1 _ q; omega) | (exact absurd q (by simp [Value.ownBlock]))); (first | (have := unhide L_oX2 _ q; omega) | (exact absurd q (by simp [Value.ownBlock])))))
  have K_x := hide (t1.kept K_x (fun q => by rcases q with q | q; (first | (have := unhide L_oX1 _ q; omega) | (exact absurd q (by simp [Value.ownBlock]))); (first | (have := unhide L_oX2 _ q; omega) | (exact absurd q (by simp [Value.ownBlock])))))
  have K_g := hide (t1.kept K_g (fun q => by rcases q with q | q; (first | (have := unhide L_oX1 _ q; omega) | (exact absurd q (by simp [Value.ownBlock]))); (first | (have := unhide L_oX2 _ q; omega) | (exact absurd q (by simp [Value.ownBlock])))))
  have R_oW1 := hide (t1.own (unhide R_oW1) (fun i hi => fun q => by have := unhide L_oW1 _ hi; rcases q with q | q; (first | (have := unhide L_oX1 _ q; omega) | (exact absurd q (by simp [Value.ownBlock]))); (first | (have := unhide L_oX2 _ q; omega) | (exact absurd q (by simp [Value.ownBlock])))))
  have R_oG1 := hide (t1.own (unhide R_oG1) (fun i hi => fun q => by have := unhide L_oG1 _ hi; rcases q with q | q; (first | (have := unhide L_oX1 _ q; omega) | (exact absurd q (by simp [Value.ownBlock]))); (first | (have := unhide L_oX2 _ q; omega) | (exact absurd q (by simp [Value.ownBlock])))))
  have BL := hide (Trn.below (unhide BL) t1 (unhide BL).size (fun i q => by rcases q with q | q; (first | (have := unhide L_oX1 _ q; omega) | (exact absurd q (by simp [Value.ownBlock]))); (first | (have := unhide L_oX2 _ q; omega) | (exact absurd q (by simp [Value.ownBlock])))))
  have R_x := hide ((unhide O_x).later (unhide BL))
  have R_f := hide ((unhide O_f).later (unhide BL))
  have R_oX1 := hide o1; have R_oX2 := hide o2
  clear o1 o2 t1
  obtain ⟨a_0, a_1, -⟩ := blk_cells2 (unhide K_a).1
  have n_a := (unhide K_a).2
  obtain ⟨s_0, s_1, -⟩ := blk_cells2 (unhide K_s).1
  have n_s := (unhide K_s).2
  obtain ⟨x_0, x_1, -⟩ := blk_cells2 (unhide K_x).1
  have n_x := (unhide K_x).2
  obtain ⟨g_0, g_1, -⟩ := blk_cells2 (unhide K_g).1
  have n_g := (unhide K_g).2
  have hq0 : decide ((1 : Int) + 6 * (ni : Int) + 2 * (nf : Int) < 0) = false := by simp; omega
  go_wp2_with fail
  refine (eqstate_same _ _ _ _ _ (sayL 1 ⟨#[]⟩ xs fs id) _ _ _ _ _ [] _ (by omega) (by omega) (((unhide R_oG1).rw encI_len)) (((unhide R_oW1).rw encI_len)) Rw.nil Rw.nil).mono ?_
  rintro e w10 ⟨rfl, b10⟩
  clear a_0 a_1 n_a g_0 g_1 n_g s_0 s_1 n_s x_0 x_1 n_x
  have cw10 := b10
  have zw10 := cw10.size
  have K_a := hide (keptblk cw10 K_a)
  have K_s := hide (keptblk cw10 K_s)
  have K_x := hide (keptblk cw10 K_x)
  have K_g := hide (keptblk cw10 K_g)
  have R_x := hide ((unhide R_x).later cw10)
  have R_f := hide ((unhide R_f).later cw10)
  have R_oW1 := hide ((unhide R_oW1).later cw10)
  have R_oX1 := hide ((unhide R_oX1).later cw10)
  have R_oX2 := hide ((unhide R_oX2).later cw10)
  have R_oG1 := hide ((unhide R_oG1).later cw10)
  have BL := hide ((unhide BL).trans (cw10.mono (unhide BL).size))
  clear b10 cw10
  obtain ⟨a_0, a_1, -⟩ := blk_cells2 (unhide K_a).1
  have n_a := (unhide K_a).2
  obtain ⟨s_0, s_1, -⟩ := blk_cells2 (unhide K_s).1
  have n_s := (unhide K_s).2
  obtain ⟨x_0, x_1, -⟩ := blk_cells2 (unhide K_x).1
  have n_x := (unhide K_x).2
  obtain ⟨g_0, g_1, -⟩ := blk_cells2 (unhide K_g).1
  have n_g := (unhide K_g).2
  have R_oZ2 : Hid (OwF (w4.heap.size + 1) w10 (.slice none 0 0) []) := hide (World.ownsRow_nil _ _ _ _)
  have L_oZ2 := hide (World.ownsRow.lt (unhide R_oZ2))
  go_wp2_with fail
  refine (markS_any (w4.heap.size + 1) g1 n e1 _ none 0 0 [] 1 (by omega) (by omega) _ (by omega) (by omega) (unhide R_oG1) (unhide R_oZ2)).mono ?_
  rintro e w11 ⟨rfl, o1, o2, t1⟩
  clear a_0 a_1 n_a g_0 g_1 n_g s_0 s_1 n_s x_0 x_1 n_x
  have zw11 := t1.size
  have K_a := hide (t1.kept K_a (fun q => by rcases q with q | q; (first | (have := unhide L_oG1 _ q; omega) | (exact absurd q (by simp [Value.ownBlock]))); (first | (have := unhide L_oZ2 _ q; omega) | (exact absurd q (by simp [Value.ownBlock])))))
  have K_s := hide (t1.kept K_s (fun q => by rcases q with q | q; (first | (have := unhide L_oG1 _ q; omega) | (exact absurd q (by simp [Value.ownBlock]))); (first | (have := unhide L_oZ2 _ q; omega) | (exact absurd q (by simp [Value.ownBlock])))))
  have K_x := hide (t1.kept K_x (fun q => by rcases q with q | q; (first | (have := unhide L_oG1 _ q; omega) | (exact absurd q (by simp [Value.ownBlock]))); (first | (have := unhide L_oZ2 _ q; omega) | (exact absurd q (by simp [Value.ownBlock])))))
  have K_g := hide (t1.kept K_g (fun q => by rcases q with q | q; (first | (have := unhide L_oG1 _ q; omega) | (exact absurd q (by simp [Value.ownBlock]))); (first | (have := unhide L_oZ2 _ q; omega) | (exact absurd q (by simp [Value.ownBlock])))))
  have R_oW1 := hide (t1.own (unhide R_oW1) (fun i hi => fun q => by have := unhide L_oW1 _ hi; rcases q with q | q; (first | (have := unhide L_oG1 _ q; omega) | (exact absurd q (by simp [Value.ownBlock]))); (first | (have := unhide L_oZ2 _ q; omega) | (exact absurd q (by simp [Value.ownBlock])))))
  have R_oX1 := hide (t1.own (unhide R_oX1) (fun i hi => fun q => by have := unhide L_oX1 _ hi; rcases q with q | q; (first | (have := unhide L_oG1 _ q; omega) | (exact absurd q (by simp [Value.ownBlock]))); (first | (have := unhide L_oZ2 _ q; omega) | (exact absurd q (by simp [Value.ownBlock])))))
  have R_oX2 := hide (t1.own (unhide R_oX2) (fun i hi => fun q => by have := unhide L_oX2 _ hi; rcases q with q | q; (first | (have := unhide L_oG1 _ q; omega) | (exact absurd q (by simp [Value.ownBlock]))); (first | (have := unhide L_oZ2 _ q; omega) | (exact absurd q (by simp [Value.ownBlock])))))
  have BL := hide (Trn.below (unhide BL) t1 (unhide BL).size (fun i q => by rcases q with q | q; (first | (have := unhide L_oG1 _ q; omega) | (exact absurd q (by simp [Value.ownBlock]))); (first | (have := unhide L_oZ2 _ q; omega) | (exact absurd q (by simp [Value.ownBlock])))))
  have R_x := hide ((unhide O_x).later (unhide BL))
  have R_f := hide ((unhide O_f).later (unhide BL))
  have R_oG1 := hide o1; have R_oZ2 := hide o2
  clear o1 o2 t1
  obtain ⟨a_0, a_1, -⟩ := blk_cells2 (unhide K_a).1
  have n_a := (unhide K_a).2
  obtain ⟨s_0, s_1, -⟩ := blk_cells2 (unhide K_s).1
  have n_s := (unhide K_s).2
  obtain ⟨x_0, x_1, -⟩ := blk_cells2 (unhide K_x).1
  have n_x := (unhide K_x).2
  obtain ⟨g_0, g_1, -⟩ := blk_cells2 (unhide K_g).1
  have n_g := (unhide K_g).2
  go_wp2_with fail
  refine (heldS_any g1 n e1 none 0 0 1 (by omega) (by omega) _ (by omega) (by omega) ((unhide R_oG1).rw encI_len) ((unhide R_oZ2).rw encF_len)).mono ?_
  rintro e w12 ⟨rfl, b12⟩
  clear a_0 a_1 n_a g_0 g_1 n_g s_0 s_1 n_s x_0 x_1 n_x
  have cw12 := b12
  have zw12 := cw12.size
  have K_a := hide (keptblk cw12 K_a)
  have K_s := hide (keptblk cw12 K_s)
  have K_x := hide (keptblk cw12 K_x)
  have K_g := hide (keptblk cw12 K_g)
  have R_x := hide ((unhide R_x).later cw12)
  have R_f := hide ((unhide R_f).later cw12)
  have R_oW1 := hide ((unhide R_oW1).later cw12)
  have R_oX1 := hide ((unhide R_oX1).later cw12)
  have R_oX2 := hide ((unhide R_oX2).later cw12)
  have R_oG1 := hide ((unhide R_oG1).later cw12)
  have R_oZ2 := hide ((unhide R_oZ2).later cw12)
  have BL := hide ((unhide BL).trans (cw12.mono (unhide BL).size))
  clear b12 cw12
  obtain ⟨a_0, a_1, -⟩ := blk_cells2 (unhide K_a).1
  have n_a := (unhide K_a).2
  obtain ⟨s_0, s_1, -⟩ := blk_cells2 (unhide K_s).1
  have n_s := (unhide K_s).2
  obtain ⟨x_0, x_1, -⟩ := blk_cells2 (unhide K_x).1
  have n_x := (unhide K_x).2
  obtain ⟨g_0, g_1, -⟩ := blk_cells2 (unhide K_g).1
  have n_g := (unhide K_g).2
  have hq1 : decide ((1 : Int) + 6 * (n : Int) + 2 * ((0 : Nat) : Int) < 0) = false := by simp; omega
  have hq2 : ((1 : Int) + 6 * (n : Int) + 2 * ((0 : Nat) : Int) != 1 + 6 * (n : Int) + 2 * ((0 : Nat) : Int)) = false := by simp
  go_wp2_with fail
  refine (tostate_any ai ni ci xs af nf cf fs _ hm1 hm2 (unhide R_x) (unhide R_f)).mono ?_
  rintro e w13 ⟨a3, c3, b3, d3, rfl, o1, o2, b13⟩
  clear a_0 a_1 n_a g_0 g_1 n_g s_0 s_1 n_s x_0 x_1 n_x
  have cw13 := b13
  have zw13 := cw13.size
  have K_a := hide (keptblk cw13 K_a)
  have K_s := hide (keptblk cw13 K_s)
  have K_x := hide (keptblk cw13 K_x)
  have K_g := hide (keptblk cw13 K_g)
  have R_x := hide ((unhide R_x).later cw13)
  have R_f := hide ((unhide R_f).later cw13)
  have R_oW1 := hide ((unhide R_oW1).later cw13)
  have R_oX1 := hide ((unhide R_oX1).later cw13)
  have R_oX2 := hide ((unhide R_oX2).later cw13)
  have R_oG1 := hide ((unhide R_oG1).later cw13)
  have R_oZ2 := hide ((unhide R_oZ2).later cw13)
  have BL := hide ((unhide BL).trans (cw13.mono (unhide BL).size))
  have R_I3 := hide (o1.rw encI_len)
  have R_F3 := hide (o2.rw encF_len)
  clear b13 cw13
  obtain ⟨a_0, a_1, -⟩ := blk_cells2 (unhide K_a).1
  have n_a := (unhide K_a).2
  obtain ⟨s_0, s_1, -⟩ := blk_cells2 (unhide K_s).1
  have n_s := (unhide K_s).2
  obtain ⟨x_0, x_1, -⟩ := blk_cells2 (unhide K_x).1
  have n_x := (unhide K_x).2
  obtain ⟨g_0, g_1, -⟩ := blk_cells2 (unhide K_g).1
  have n_g := (unhide K_g).2
  clear o1 o2
  go_wp2_with fail
  refine (isay1_any a3 ni c3 xs b3 nf d3 fs id n HN c HC _ (by omega) (by omega) (unhide R_I3) (unhide R_F3)).mono ?_
  rintro e w14 ⟨h1, k1, rfl, o1, b14⟩
  clear a_0 a_1 n_a g_0 g_1 n_g s_0 s_1 n_s x_0 x_1 n_x
  have cw14 := b14
  have zw14 := cw14.size
  have K_a := hide (keptblk cw14 K_a)
  have K_s := hide (keptblk cw14 K_s)
  have K_x := hide (keptblk cw14 K_x)
  have K_g := hide (keptblk cw14 K_g)
  have R_x := hide ((unhide R_x).later cw14)
  have R_f := hide ((unhide R_f).later cw14)
  have R_oW1 := hide ((unhide R_oW1).later cw14)
  have R_oX1 := hide ((unhide R_oX1).later cw14)
  have R_oX2 := hide ((unhide R_oX2).later cw14)
  have R_oG1 := hide ((unhide R_oG1).later cw14)
  have R_oZ2 := hide ((unhide R_oZ2).later cw14)
  clear R_I3
  clear R_F3
  have BL := hide ((unhide BL).trans (cw14.mono (unhide BL).size))
  have R_oH1 := hide (o1)
  have L_oH1 := hide (World.ownsRow.lt (unhide R_oH1))
  clear b14 cw14
  obtain ⟨a_0, a_1, -⟩ := blk_cells2 (unhide K_a).1
  have n_a := (unhide K_a).2
  obtain ⟨s_0, s_1, -⟩ := blk_cells2 (unhide K_s).1
  have n_s := (unhide K_s).2
  obtain ⟨x_0, x_1, -⟩ := blk_cells2 (unhide K_x).1
  have n_x := (unhide K_x).2
  obtain ⟨g_0, g_1, -⟩ := blk_cells2 (unhide K_g).1
  have n_g := (unhide K_g).2
  clear o1
  go_wp2_with fail
  refine (eqstate_same _ _ _ _ _ (sayL 1 ⟨#[]⟩ xs fs id) _ _ _ _ _ [] _ (by omega) (by omega) (((unhide R_oH1).rw encI_len).alloc _) (((unhide R_oW1).rw encI_len).alloc _) Rw.nil Rw.nil).mono ?_
  rintro e w15 ⟨rfl, b15⟩
  clear a_0 a_1 n_a g_0 g_1 n_g s_0 s_1 n_s x_0 x_1 n_x
  have cw15 := ((Below.refl w14.heap.size w14).alloc (Nat.le_refl _) _).trans (b15.mono (by simp <;> omega))
  have zw15 := cw15.size
  have K_a := hide (keptblk cw15 K_a)
  have K_s := hide (keptblk cw15 K_s)
  have K_x := hide (keptblk cw15 K_x)
  have K_g := hide (keptblk cw15 K_g)
  have K_h : Hid (w15.heap[w14.heap.size]? = some (.cells #[.slice h1 n k1, .slice none 0 0] 31 (0, 0)) ∧ w14.heap.size < w15.heap.size) := hide ⟨(b15.block _ (by simp <;> omega)).trans (newB1 w14 _), by have := b15.size; simp at this; omega⟩
  have y_h := (unhide K_h).2
  have R_x := hide ((unhide R_x).later cw15)
  have R_f := hide ((unhide R_f).later cw15)
  have R_oW1 := hide ((unhide R_oW1).later cw15)
  have R_oX1 := hide ((unhide R_oX1).later cw15)
  have R_oX2 := hide ((unhide R_oX2).later cw15)
  have R_oG1 := hide ((unhide R_oG1).later cw15)
  have R_oZ2 := hide ((unhide R_oZ2).later cw15)
  have R_oH1 := hide ((unhide R_oH1).later cw15)
  have BL := hide ((unhide BL).trans (cw15.mono (unhide BL).size))
  clear b15 cw15
  obtain ⟨a_0, a_1, -⟩ := blk_cells2 (unhide K_a).1
  have n_a := (unhide K_a).2
  obtain ⟨s_0, s_1, -⟩ := blk_cells2 (unhide K_s).1
  have n_s := (unhide K_s).2
  obtain ⟨x_0, x_1, -⟩ := blk_cells2 (unhide K_x).1
  have n_x := (unhide K_x).2
  obtain ⟨g_0, g_1, -⟩ := blk_cells2 (unhide K_g).1
  have n_g := (unhide K_g).2
  obtain ⟨h_0, h_1, -⟩ := blk_cells2 (unhide K_h).1
  have n_h := (unhide K_h).2
  go_wp2_with fail
  refine (heldS_any g1 n e1 none 0 0 1 (by omega) (by omega) _ (by omega) (by omega) ((unhide R_oG1).rw encI_len) ((unhide R_oZ2).rw encF_len)).mono ?_
  rintro e w16 ⟨rfl, b16⟩
  clear a_0 a_1 n_a g_0 g_1 n_g h_0 h_1 n_h s_0 s_1 n_s x_0 x_1 n_x
  have cw16 := b16
  have zw16 := cw16.size
  have K_a := hide (keptblk cw16 K_a)
  have K_s := hide (keptblk cw16 K_s)
  have K_x := hide (keptblk cw16 K_x)
  have K_g := hide (keptblk cw16 K_g)
  have K_h := hide (keptblk cw16 K_h)
  have R_x := hide ((unhide R_x).later cw16)
  have R_f := hide ((unhide R_f).later cw16)
  have R_oW1 := hide ((unhide R_oW1).later cw16)
  have R_oX1 := hide ((unhide R_oX1).later cw16)
  have R_oX2 := hide ((unhide R_oX2).later cw16)
  have R_oG1 := hide ((unhide R_oG1).later cw16)
  have R_oZ2 := hide ((unhide R_oZ2).later cw16)
  have R_oH1 := hide ((unhide R_oH1).later cw16)
  have BL := hide ((unhide BL).trans (cw16.mono (unhide BL).size))
  clear b16 cw16
  obtain ⟨a_0, a_1, -⟩ := blk_cells2 (unhide K_a).1
  have n_a := (unhide K_a).2
  obtain ⟨s_0, s_1, -⟩ := blk_cells2 (unhide K_s).1
  have n_s := (unhide K_s).2
  obtain ⟨x_0, x_1, -⟩ := blk_cells2 (unhide K_x).1
  have n_x := (unhide K_x).2
  obtain ⟨g_0, g_1, -⟩ := blk_cells2 (unhide K_g).1
  have n_g := (unhide K_g).2
  obtain ⟨h_0, h_1, -⟩ := blk_cells2 (unhide K_h).1
  have n_h := (unhide K_h).2
  go_wp2
  go_ret
  exact ⟨rfl, unhide BL⟩

set_option maxHeartbeats 4000000 in
set_option maxRecDepth 100000 in
theorem lifted (os : Os) (started : os.Started) (H : Type) (enc : TypeId × Value → H) :
    ReturnsInHanded {} Try.checked os 7 .any (Rows.fnExactSayBeatSpec.pre6 enc Try.prog Try.f7 Rows.fnExactSayBeatRow.domain false) (Rows.fnExactSayBeatSpec.post enc Try.prog Try.f7 false true false false) := by
  refine returnsInHanded_of_change (C := Try.checked) own started (by kernel_rfl) Try.func7
    (ChangeSpec.witness6 (enc := enc) (C := Try.checked) false ⟨#[], #[.agg #[.slice none 0 0, .slice none 0 0], .int .i64 0], []⟩ 8 (by kernel_rfl) (by kernel_rfl) (by kernel_rfl) (by kernel_rfl)) ?_
  intro W base args ds gs before hval0 hW hcnd _
  have hval : ∀ (j : Nat) t v, Try.f7.params[j]? = some t → args[j]? = some v → Value.okWide Try.prog W .any base t v := hval0
  have hW' := hW
  obtain ⟨p, q, hA0, hV, rfl, hfz, hnd⟩ := hW
  have hA : DataW.TrodAll enc Try.prog W 0 (fun _ => true) true Try.f7.params.toList args.toList ds p := hA0
  rw [Try.params7] at hA hval
  obtain ⟨v0, vs0, d0, ds0, p0, q0, hargs0, rfl, rfl, h0, r0⟩ := trodAll_cons hA
  obtain ⟨v1, vs1, d1, ds1, p1, q1, hargs1, rfl, rfl, h1, r1⟩ := trodAll_cons r0
  obtain ⟨rfl, rfl, rfl⟩ := trodAll_nil r1
  obtain rfl : args = #[v0, v1] := by cases args; simp_all
  obtain ⟨rfl, rfl⟩ := trodVars_none hV
  have k0 := h0
  have lt0 : ∀ x ∈ p0, x.block < W.heap.size := by obtain ⟨m, hm⟩ := k0; exact DataW.trod_lt m _ _ _ hm
  have k1 := h1
  have lt1 : ∀ x ∈ p1, x.block < W.heap.size := by obtain ⟨m, hm⟩ := k1; exact DataW.trod_lt m _ _ _ hm
  obtain ⟨aai, ani, aci, axs, aaf, anf, acf, afs, rfl, ah1, ah2, ah3, ah4, ah5, ah6, ah7⟩ := open_state (hval 0 25 v0 rfl rfl) h0
  obtain ⟨id, rfl, -, -, wid⟩ := open_int Try.underlying3 (hval 1 3 v1 rfl rfl) h1
  clear hA0 hval0
  refine (walk W aai ani aci axs aaf anf acf afs ah1 ah2 ah3 ah4 ah5 ah6 ah7 id wid).mono fun e W' ⟨he, bel⟩ => ?_
  subst he
  exact ⟨_, rfl, _, _, _, [], _, [], hW', trodAll_mk1 (shut_bool Try.underlying4 _), (trodAll_cons_mk (Below.trod laidOut (by kernel_rfl) (of_decide_eq_true (by kernel_rfl)) k0 bel lt0) (trodAll_cons_mk (Below.trod laidOut (by kernel_rfl) (of_decide_eq_true (by kernel_rfl)) k1 bel lt1) trodAll_mk0)), rfl, bel.frame _, fun h => by cases h⟩

theorem over : Rows.fnExactSayBeatRow.holds Try.pinned (OpenSpec.ofChange Rows.fnExactSayBeatSpec) :=
  OpenClaim.holds_of_wide 7 Try.f7 rfl rfl rfl rfl rfl rfl rfl ⟨rfl, rfl, rfl, rfl, rfl⟩ rfl rfl rfl rfl rfl (by kernel_rfl) Try.func7 (by kernel_rfl)
    (of_decide_eq_true (by kernel_rfl)) (by unfold Func.isWrapper; first | (rw [if_pos (by decide +kernel)]; kernel_rfl) | (rw [if_neg (by decide +kernel)]; exact ⟨rfl, rfl⟩))
    (fun os started H enc _ => lifted os started H enc)

theorem proved : Rows.FnExactSayBeatSaid := over
#print axioms proved
end Go.Proofs.Ytdpaocikmijioad.fnExactSayBeat
namespace Go.Proofs.Ytdpaocikmijioad
theorem fnExactSayBeat_holds : Rows.FnExactSayBeatSaid := fnExactSayBeat.proved
end Go.Proofs.Ytdpaocikmijioad
