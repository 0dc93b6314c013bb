/-
  At every message MsgBytes answers as the specification, writes into no argument, and its answer owns its memory: the law answers true. No condition but the law’s own: where lists and texts are together greater than 1048576 it says nothing.
-/
import Derived.Test.YtjlocbimkfocnaaRows
import Derived.Test.YtjlocbimkfocnaaMsO
import Derived.Test.YtjlocbimkfocnaaMsL
import Derived.Test.YtjlocbimkfocnaaMsN
import Derived.Test.YtjlocbimkfocnaaMsBt
import Derived.Test.YtjlocbimkfocnaaMsBx
import Derived.Test.YtjlocbimkfocnaaByO
import Derived.WalkKit
import Derived.ProofKit
import Derived.OpenShut
import Derived.ShutString
import Derived.ChangeOld
import Derived.Below
import Derived.Carry
namespace Go.Proofs.Ytjlocbimkfocnaa.fnExactMsgBytes
open Go.ChangeShapes Go.WideShapes Go.ChangeAt Go.RowKit
open Go.ChangeMaps (open_string shut_string)

theorem own : ownKnob Try.prog.godebug = none := by kernel_rfl
theorem laidOut : laidOutB Try.prog = true := by kernel_rfl

set_option maxHeartbeats 8000000 in
set_option maxRecDepth 100000 in
theorem walk (w : World) (m : Mg) (p : Mp) (hsz : SzM p 9223372036854775807) (hx : RwM w m p) (hbig : Big m.its) (_ : FitMg m) :
    Calls Try.prog 4 #[.agg #[.int .i64 m.k, .int .i64 m.f, .int .i64 m.t, .int .i64 m.n, .int .i64 m.h, .slice p.ta p.tn p.tc, .int .i64 m.tr, .slice p.va p.vn p.vc, .slice p.la p.ln p.lc, .slice p.xa p.xn p.xc, .slice p.ya p.yn p.yc, .slice p.ka p.kn p.kc]] w fun e w' => e = .returned (.bool true) ∧ Below w.heap.size w w' := by
  have R_x := hide hx
  clear hx
  have O_x := R_x
  obtain ⟨ok, hok⟩ : ∃ ok, Hid (okM m = ok) := ⟨_, hide rfl⟩
  have hl1 := msB_len m
  obtain ⟨n1, hn1⟩ : ∃ n, (msB m).length = n := ⟨_, rfl⟩
  rw [hn1] at hl1
  have HN1 := hide hn1
  clear hn1
  go_enter Try.func4, Try.ntmps4
  go_wp2_with fail
  refine (szmsg_any m p hbig 1048576 (by omega) (by omega) _ hsz ((unhide R_x).alloc _)).mono ?_
  rintro e w1 ⟨h, b1⟩
  have cw1 := ((Below.refl w.heap.size w).alloc (Nat.le_refl _) _).trans (b1.mono (by simp <;> omega))
  have zw1 := cw1.size
  have K_a : Hid (w1.heap[w.heap.size]? = some (.cells #[.int .i64 m.k, .int .i64 m.f, .int .i64 m.t, .int .i64 m.n, .int .i64 m.h, .slice p.ta p.tn p.tc, .int .i64 m.tr, .slice p.va p.vn p.vc, .slice p.la p.ln p.lc, .slice p.xa p.xn p.xc, .slice p.ya p.yn p.yc, .slice p.ka p.kn p.kc] 44 (0, 0)) ∧ w.heap.size < w1.heap.size) := hide ⟨(b1.block _ (by simp <;> omega)).trans (newB1 w _), by have := b1.size; simp at this; omega⟩
  have y_a := (unhide K_a).2
  have R_x := hide ((unhide R_x).later cw1)
  have BL := hide cw1
  clear b1 cw1
  obtain ⟨a_0, a_1, a_2, a_3, a_4, a_5, a_6, a_7, a_8, a_9, a_10, a_11, -⟩ := msg_cells (unhide K_a).1
  have n_a := (unhide K_a).2
  rcases h with rfl | ⟨rx, rfl, hr0x, hr1x, hSx, -⟩
  · go_wp2
    go_ret
    exact ⟨rfl, unhide BL⟩
  have hdx : decide (rx < 0) = false := by simp; omega
  have S_x : SzM p 140737488351232 := ⟨by have := hSx.t; omega, by have := hSx.v; omega, by have := hSx.l; omega, by have := hSx.x; omega, by have := hSx.y; omega, by have := hSx.k; omega⟩
  clear hsz
  go_wp2_with fail
  refine (tomsg_any m _ _ hSx ((unhide R_x))).mono ?_
  rintro e w2 ⟨q1, rfl, o1, s1, b2⟩
  clear a_0 a_1 a_2 a_3 a_4 a_5 a_6 a_7 a_8 a_9 a_10 a_11 n_a
  have cw2 := b2
  have zw2 := cw2.size
  have K_a := hide (keptblk cw2 K_a)
  have R_x := hide ((unhide R_x).later cw2)
  have BL := hide ((unhide BL).trans (cw2.mono (unhide BL).size))
  have R_g1 := hide (o1)
  clear b2 cw2
  obtain ⟨a_0, a_1, a_2, a_3, a_4, a_5, a_6, a_7, a_8, a_9, a_10, a_11, -⟩ := msg_cells (unhide K_a).1
  have n_a := (unhide K_a).2
  have S_g1 : SzM q1 140737488351232 := ⟨by have := s1.t; omega, by have := s1.v; omega, by have := s1.l; omega, by have := s1.x; omega, by have := s1.y; omega, by have := s1.k; omega⟩
  clear o1 s1
  go_wp2_with fail
  refine (smsgbytes_any m q1 ok hok _ S_g1 (unhide R_g1).rw).mono ?_
  rintro e w3 ⟨va, rfl, o1, b3⟩
  clear a_0 a_1 a_2 a_3 a_4 a_5 a_6 a_7 a_8 a_9 a_10 a_11 n_a
  have cw3 := b3
  have zw3 := cw3.size
  have K_a := hide (keptblk cw3 K_a)
  have R_x := hide ((unhide R_x).later cw3)
  clear R_g1
  have BL := hide ((unhide BL).trans (cw3.mono (unhide BL).size))
  have R_oW := hide (owY_iff.2 o1)
  have L_oW := hide (World.ownsRow.lt (unhide R_oW))
  clear b3 cw3
  obtain ⟨a_0, a_1, a_2, a_3, a_4, a_5, a_6, a_7, a_8, a_9, a_10, a_11, -⟩ := msg_cells (unhide K_a).1
  have n_a := (unhide K_a).2
  clear o1 S_g1
  go_wp2_with fail
  refine (tomsg_any m _ _ hSx (unhide R_x)).mono ?_
  rintro e w4 ⟨q2, rfl, o1, s1, b4⟩
  clear a_0 a_1 a_2 a_3 a_4 a_5 a_6 a_7 a_8 a_9 a_10 a_11 n_a
  have cw4 := b4
  have zw4 := cw4.size
  have K_a := hide (keptblk cw4 K_a)
  have R_x := hide ((unhide R_x).later cw4)
  have R_oW := hide ((unhide R_oW).later cw4)
  have BL := hide ((unhide BL).trans (cw4.mono (unhide BL).size))
  have R_g2 := hide (o1)
  clear b4 cw4
  obtain ⟨a_0, a_1, a_2, a_3, a_4, a_5, a_6, a_7, a_8, a_9, a_10, a_11, -⟩ := msg_cells (unhide K_a).1
  have n_a := (unhide K_a).2
  have S_g2 : SzM q2 140737488351232 := ⟨by have := s1.t; omega, by have := s1.v; omega, by have := s1.l; omega, by have := s1.x; omega, by have := s1.y; omega, by have := s1.k; omega⟩
  have S_h2 := s1
  have L_g2 := hide (OwMg.blocks o1)
  clear o1 s1
  go_wp2_with fail
  refine (imsgbytes_any m q2 ok hok _ S_g2 ((unhide R_g2).rw.alloc _)).mono ?_
  rintro e w5 ⟨vg, rfl, o1, b5⟩
  clear a_0 a_1 a_2 a_3 a_4 a_5 a_6 a_7 a_8 a_9 a_10 a_11 n_a
  have cw5 := ((Below.refl w4.heap.size w4).alloc (Nat.le_refl _) _).trans (b5.mono (by simp <;> omega))
  have zw5 := cw5.size
  have K_a := hide (keptblk cw5 K_a)
  have K_x : Hid (w5.heap[w4.heap.size]? = some (.cells #[.int .i64 m.k, .int .i64 m.f, .int .i64 m.t, .int .i64 m.n, .int .i64 m.h, .slice q2.ta q2.tn q2.tc, .int .i64 m.tr, .slice q2.va q2.vn q2.vc, .slice q2.la q2.ln q2.lc, .slice q2.xa q2.xn q2.xc, .slice q2.ya q2.yn q2.yc, .slice q2.ka q2.kn q2.kc] 50 (0, 0)) ∧ w4.heap.size < w5.heap.size) := hide ⟨(b5.block _ (by simp <;> omega)).trans (newB1 w4 _), by have := b5.size; simp at this; omega⟩
  have y_x := (unhide K_x).2
  have R_x := hide ((unhide R_x).later cw5)
  have R_oW := hide ((unhide R_oW).later cw5)
  have R_g2 := hide ((unhide R_g2).later cw5)
  have BL := hide ((unhide BL).trans (cw5.mono (unhide BL).size))
  have R_oG := hide (Ow.base (base' := (w4.heap.size + 1)) (owY_iff.2 o1) (by simp))
  have L_oG := hide (World.ownsRow.lt (unhide R_oG))
  clear b5 cw5
  obtain ⟨a_0, a_1, a_2, a_3, a_4, a_5, a_6, a_7, a_8, a_9, a_10, a_11, -⟩ := msg_cells (unhide K_a).1
  have n_a := (unhide K_a).2
  obtain ⟨x_0, x_1, x_2, x_3, x_4, x_5, x_6, x_7, x_8, x_9, x_10, x_11, -⟩ := msg_cells (unhide K_x).1
  have n_x := (unhide K_x).2
  clear o1
  go_wp2_with fail
  refine (eqbytes_v vg va (msB m) _ (by have := unhide HN1; omega) (owY_seg (unhide R_oG)) (owY_seg (unhide R_oW))).mono ?_
  rintro e w6 ⟨rfl, b6⟩
  clear a_0 a_1 a_2 a_3 a_4 a_5 a_6 a_7 a_8 a_9 a_10 a_11 n_a x_0 x_1 x_2 x_3 x_4 x_5 x_6 x_7 x_8 x_9 x_10 x_11 n_x
  have cw6 := b6
  have zw6 := cw6.size
  have K_a := hide (keptblk cw6 K_a)
  have K_x := hide (keptblk cw6 K_x)
  have R_x := hide ((unhide R_x).later cw6)
  have R_oW := hide ((unhide R_oW).later cw6)
  have R_g2 := hide ((unhide R_g2).later cw6)
  have R_oG := hide ((unhide R_oG).later cw6)
  have BL := hide ((unhide BL).trans (cw6.mono (unhide BL).size))
  clear b6 cw6
  obtain ⟨a_0, a_1, a_2, a_3, a_4, a_5, a_6, a_7, a_8, a_9, a_10, a_11, -⟩ := msg_cells (unhide K_a).1
  have n_a := (unhide K_a).2
  obtain ⟨x_0, x_1, x_2, x_3, x_4, x_5, x_6, x_7, x_8, x_9, x_10, x_11, -⟩ := msg_cells (unhide K_x).1
  have n_x := (unhide K_x).2
  clear a_0 a_1 a_2 a_3 a_4 a_5 a_6 a_7 a_8 a_9 a_10 a_11 n_a x_0 x_1 x_2 x_3 x_4 x_5 x_6 x_7 x_8 x_9 x_10 x_11 n_x
  obtain ⟨px0, px1, px2, px3, px4, px5, px6, px7, px8, px9, pxa, pxb, -⟩ := msg_cells (unhide K_x).1
  obtain ⟨qx0, qx1, qx2, qx3, qx4, qx5, qx6, qx7, qx8, qx9, qxa, qxb, -⟩ := msg_cells (unhide K_a).1
  have nx := (unhide K_x).2
  have na := (unhide K_a).2
  go_wp2_with fail
  clear px0 px1 px2 px3 px4 px5 px6 px7 px8 px9 pxa pxb qx0 qx1 qx2 qx3 qx4 qx5 qx6 qx7 qx8 qx9 qxa qxb nx na
  go_region_held3 (fun W => Below w6.heap.size w6 W ∧ (W.cell? ⟨w4.heap.size, 0, none⟩ = some (.int .i64 m.k) ∧ W.cell? ⟨w4.heap.size, 1, none⟩ = some (.int .i64 m.f) ∧ W.cell? ⟨w4.heap.size, 2, none⟩ = some (.int .i64 m.t) ∧ W.cell? ⟨w4.heap.size, 3, none⟩ = some (.int .i64 m.n) ∧ W.cell? ⟨w4.heap.size, 4, none⟩ = some (.int .i64 m.h) ∧ W.cell? ⟨w4.heap.size, 5, none⟩ = some (.slice q2.ta q2.tn q2.tc) ∧ W.cell? ⟨w4.heap.size, 6, none⟩ = some (.int .i64 m.tr) ∧ W.cell? ⟨w4.heap.size, 7, none⟩ = some (.slice q2.va q2.vn q2.vc) ∧ W.cell? ⟨w4.heap.size, 8, none⟩ = some (.slice q2.la q2.ln q2.lc) ∧ W.cell? ⟨w4.heap.size, 9, none⟩ = some (.slice q2.xa q2.xn q2.xc) ∧ W.cell? ⟨w4.heap.size, 10, none⟩ = some (.slice q2.ya q2.yn q2.yc) ∧ W.cell? ⟨w4.heap.size, 11, none⟩ = some (.slice q2.ka q2.kn q2.kc)) ∧ (W.cell? ⟨w.heap.size, 0, none⟩ = some (.int .i64 m.k) ∧ W.cell? ⟨w.heap.size, 1, none⟩ = some (.int .i64 m.f) ∧ W.cell? ⟨w.heap.size, 2, none⟩ = some (.int .i64 m.t) ∧ W.cell? ⟨w.heap.size, 3, none⟩ = some (.int .i64 m.n) ∧ W.cell? ⟨w.heap.size, 4, none⟩ = some (.int .i64 m.h) ∧ W.cell? ⟨w.heap.size, 5, none⟩ = some (.slice p.ta p.tn p.tc) ∧ W.cell? ⟨w.heap.size, 6, none⟩ = some (.int .i64 m.tr) ∧ W.cell? ⟨w.heap.size, 7, none⟩ = some (.slice p.va p.vn p.vc) ∧ W.cell? ⟨w.heap.size, 8, none⟩ = some (.slice p.la p.ln p.lc) ∧ W.cell? ⟨w.heap.size, 9, none⟩ = some (.slice p.xa p.xn p.xc) ∧ W.cell? ⟨w.heap.size, 10, none⟩ = some (.slice p.ya p.yn p.yc) ∧ W.cell? ⟨w.heap.size, 11, none⟩ = some (.slice p.ka p.kn p.kc)))
    (first | (with_reducible exact keepMM K_x K_a (Below.refl _ _)) | (with_reducible exact keepMM K_x K_a ((Below.refl _ _).drew)) | (with_reducible exact keepMM K_x K_a (by assumption)))
    (first
      | (go_at_call 16; refine (tomsg_any m _ _ hSx ?_).mono ?_; exact (unhide R_x).later (kb1 (by assumption)); rintro e w7 ⟨qq, rfl, o1, sq, b6⟩; have O5 := hide o1.rw; clear o1; have b6k := kb2 (by assumption) b6; clear b6)
      | (go_at_call 19; refine (eqmsg_same m q2 _ _ S_g2 ?_ (unhide O5)).mono ?_; exact (unhide R_g2).rw.later (kb1 (by assumption)); rintro e w8 ⟨rfl, b7⟩; have b7k := kb2 (by assumption) b7; clear b7))
  have cw8 : Below w6.heap.size w6 w8 := b7k
  clear b6k b7k O5 sq
  have K_a := hide (keptblk cw8 K_a)
  have K_x := hide (keptblk cw8 K_x)
  have R_x := hide ((unhide R_x).later cw8)
  have R_oW := hide ((unhide R_oW).later cw8)
  have R_g2 := hide ((unhide R_g2).later cw8)
  have R_oG := hide ((unhide R_oG).later cw8)
  have BL := hide ((unhide BL).trans (cw8.mono (unhide BL).size))
  clear cw8
  obtain ⟨a_0, a_1, a_2, a_3, a_4, a_5, a_6, a_7, a_8, a_9, a_10, a_11, -⟩ := msg_cells (unhide K_a).1
  have n_a := (unhide K_a).2
  obtain ⟨x_0, x_1, x_2, x_3, x_4, x_5, x_6, x_7, x_8, x_9, x_10, x_11, -⟩ := msg_cells (unhide K_x).1
  have n_x := (unhide K_x).2
  go_wp2_with fail
  refine (markmsg_any _ m q2 1 (by omega) (by omega) _ S_h2 (unhide R_g2)).mono ?_
  rintro e w9 ⟨rfl, -, t1⟩
  clear a_0 a_1 a_2 a_3 a_4 a_5 a_6 a_7 a_8 a_9 a_10 a_11 n_a x_0 x_1 x_2 x_3 x_4 x_5 x_6 x_7 x_8 x_9 x_10 x_11 n_x
  have zw9 := t1.size
  have K_a := hide (t1.kept K_a (fun q => by have := unhide L_g2 _ q; omega))
  have K_x := hide (t1.kept K_x (fun q => by have := unhide L_g2 _ q; omega))
  have R_oW := hide (t1.own (unhide R_oW) (fun i hi => fun q => by have := unhide L_g2 _ q; have := unhide L_oW _ hi; omega))
  have R_oG := hide (t1.own (unhide R_oG) (fun i hi => fun q => by have := unhide L_g2 _ q; have := unhide L_oG _ hi; omega))
  have BL := hide (Trn.below (unhide BL) t1 (unhide BL).size (fun i q => by have := unhide L_g2 _ q; omega))
  have R_x := hide ((unhide O_x).later (unhide BL))
  clear t1 R_g2
  obtain ⟨a_0, a_1, a_2, a_3, a_4, a_5, a_6, a_7, a_8, a_9, a_10, a_11, -⟩ := msg_cells (unhide K_a).1
  have n_a := (unhide K_a).2
  obtain ⟨x_0, x_1, x_2, x_3, x_4, x_5, x_6, x_7, x_8, x_9, x_10, x_11, -⟩ := msg_cells (unhide K_x).1
  have n_x := (unhide K_x).2
  have hq0 : decide ((1 : Int) + q2.tn + q2.vn + q2.ln + 6 * q2.xn + 2 * q2.yn + 2 * q2.kn < 0) = false := by simp; omega
  clear S_g2 S_h2
  go_wp2_with fail
  refine (eqbytes_v vg va (msB m) _ (by have := unhide HN1; omega) (owY_seg (unhide R_oG)) (owY_seg (unhide R_oW))).mono ?_
  rintro e w10 ⟨rfl, b10⟩
  clear a_0 a_1 a_2 a_3 a_4 a_5 a_6 a_7 a_8 a_9 a_10 a_11 n_a x_0 x_1 x_2 x_3 x_4 x_5 x_6 x_7 x_8 x_9 x_10 x_11 n_x
  have cw10 := b10
  have zw10 := cw10.size
  have K_a := hide (keptblk cw10 K_a)
  have K_x := hide (keptblk cw10 K_x)
  have R_x := hide ((unhide R_x).later cw10)
  have R_oW := hide ((unhide R_oW).later cw10)
  have R_oG := hide ((unhide R_oG).later cw10)
  have BL := hide ((unhide BL).trans (cw10.mono (unhide BL).size))
  clear b10 cw10
  obtain ⟨a_0, a_1, a_2, a_3, a_4, a_5, a_6, a_7, a_8, a_9, a_10, a_11, -⟩ := msg_cells (unhide K_a).1
  have n_a := (unhide K_a).2
  obtain ⟨x_0, x_1, x_2, x_3, x_4, x_5, x_6, x_7, x_8, x_9, x_10, x_11, -⟩ := msg_cells (unhide K_x).1
  have n_x := (unhide K_x).2
  go_wp2_with fail
  refine (markbytes_v _ vg n1 (msB m) HN1 _ (by omega) (unhide R_oG)).mono ?_
  rintro e w11 ⟨rfl, o1, g1w⟩
  have t1 := Trn.of_grown g1w
  clear a_0 a_1 a_2 a_3 a_4 a_5 a_6 a_7 a_8 a_9 a_10 a_11 n_a x_0 x_1 x_2 x_3 x_4 x_5 x_6 x_7 x_8 x_9 x_10 x_11 n_x
  have zw11 := t1.size
  have K_a := hide (t1.kept K_a (fun q => by (first | (have := unhide L_oG _ q; omega) | (exact absurd q (by simp [Value.ownBlock])))))
  have K_x := hide (t1.kept K_x (fun q => by (first | (have := unhide L_oG _ q; omega) | (exact absurd q (by simp [Value.ownBlock])))))
  have R_oW := hide (t1.own (unhide R_oW) (fun i hi => fun q => by have := unhide L_oW _ hi; (first | (have := unhide L_oG _ q; omega) | (exact absurd q (by simp [Value.ownBlock])))))
  have BL := hide (Trn.below (unhide BL) t1 (unhide BL).size (fun i q => by (first | (have := unhide L_oG _ q; omega) | (exact absurd q (by simp [Value.ownBlock])))))
  have R_x := hide ((unhide O_x).later (unhide BL))
  have R_oG := hide o1
  clear o1 t1 g1w
  obtain ⟨a_0, a_1, a_2, a_3, a_4, a_5, a_6, a_7, a_8, a_9, a_10, a_11, -⟩ := msg_cells (unhide K_a).1
  have n_a := (unhide K_a).2
  obtain ⟨x_0, x_1, x_2, x_3, x_4, x_5, x_6, x_7, x_8, x_9, x_10, x_11, -⟩ := msg_cells (unhide K_x).1
  have n_x := (unhide K_x).2
  go_wp2_with fail
  refine (heldbytes_v vg n1 _ (by omega) (owY_seg (unhide R_oG))).mono ?_
  rintro e w12 ⟨rfl, b12⟩
  clear a_0 a_1 a_2 a_3 a_4 a_5 a_6 a_7 a_8 a_9 a_10 a_11 n_a x_0 x_1 x_2 x_3 x_4 x_5 x_6 x_7 x_8 x_9 x_10 x_11 n_x
  have cw12 := b12
  have zw12 := cw12.size
  have K_a := hide (keptblk cw12 K_a)
  have K_x := hide (keptblk cw12 K_x)
  have R_x := hide ((unhide R_x).later cw12)
  have R_oW := hide ((unhide R_oW).later cw12)
  have R_oG := hide ((unhide R_oG).later cw12)
  have BL := hide ((unhide BL).trans (cw12.mono (unhide BL).size))
  clear b12 cw12
  obtain ⟨a_0, a_1, a_2, a_3, a_4, a_5, a_6, a_7, a_8, a_9, a_10, a_11, -⟩ := msg_cells (unhide K_a).1
  have n_a := (unhide K_a).2
  obtain ⟨x_0, x_1, x_2, x_3, x_4, x_5, x_6, x_7, x_8, x_9, x_10, x_11, -⟩ := msg_cells (unhide K_x).1
  have n_x := (unhide K_x).2
  have hq1 : decide ((1 : Int) + (n1 : Int) < 0) = false := by simp; omega
  have hq2 : ((1 : Int) + (n1 : Int) != 1 + (n1 : Int)) = false := by simp
  go_wp2_with fail
  refine (tomsg_any m _ _ hSx ((unhide R_x))).mono ?_
  rintro e w13 ⟨q3, rfl, o1, s1, b13⟩
  clear a_0 a_1 a_2 a_3 a_4 a_5 a_6 a_7 a_8 a_9 a_10 a_11 n_a x_0 x_1 x_2 x_3 x_4 x_5 x_6 x_7 x_8 x_9 x_10 x_11 n_x
  have cw13 := b13
  have zw13 := cw13.size
  have K_a := hide (keptblk cw13 K_a)
  have K_x := hide (keptblk cw13 K_x)
  have R_x := hide ((unhide R_x).later cw13)
  have R_oW := hide ((unhide R_oW).later cw13)
  have R_oG := hide ((unhide R_oG).later cw13)
  have BL := hide ((unhide BL).trans (cw13.mono (unhide BL).size))
  have R_g3 := hide (o1)
  clear b13 cw13
  obtain ⟨a_0, a_1, a_2, a_3, a_4, a_5, a_6, a_7, a_8, a_9, a_10, a_11, -⟩ := msg_cells (unhide K_a).1
  have n_a := (unhide K_a).2
  obtain ⟨x_0, x_1, x_2, x_3, x_4, x_5, x_6, x_7, x_8, x_9, x_10, x_11, -⟩ := msg_cells (unhide K_x).1
  have n_x := (unhide K_x).2
  have S_g3 : SzM q3 140737488351232 := ⟨by have := s1.t; omega, by have := s1.v; omega, by have := s1.l; omega, by have := s1.x; omega, by have := s1.y; omega, by have := s1.k; omega⟩
  clear o1 s1
  go_wp2_with fail
  refine (imsgbytes_any m q3 ok hok _ S_g3 (unhide R_g3).rw).mono ?_
  rintro e w14 ⟨vh, rfl, o1, b14⟩
  clear a_0 a_1 a_2 a_3 a_4 a_5 a_6 a_7 a_8 a_9 a_10 a_11 n_a x_0 x_1 x_2 x_3 x_4 x_5 x_6 x_7 x_8 x_9 x_10 x_11 n_x
  have cw14 := b14
  have zw14 := cw14.size
  have K_a := hide (keptblk cw14 K_a)
  have K_x := hide (keptblk cw14 K_x)
  have R_x := hide ((unhide R_x).later cw14)
  have R_oW := hide ((unhide R_oW).later cw14)
  have R_oG := hide ((unhide R_oG).later cw14)
  clear R_g3
  have BL := hide ((unhide BL).trans (cw14.mono (unhide BL).size))
  have R_oH := hide (owY_iff.2 o1)
  have L_oH := hide (World.ownsRow.lt (unhide R_oH))
  clear b14 cw14
  obtain ⟨a_0, a_1, a_2, a_3, a_4, a_5, a_6, a_7, a_8, a_9, a_10, a_11, -⟩ := msg_cells (unhide K_a).1
  have n_a := (unhide K_a).2
  obtain ⟨x_0, x_1, x_2, x_3, x_4, x_5, x_6, x_7, x_8, x_9, x_10, x_11, -⟩ := msg_cells (unhide K_x).1
  have n_x := (unhide K_x).2
  clear o1 S_g3
  go_wp2_with fail
  refine (eqbytes_v vh va (msB m) _ (by have := unhide HN1; omega) (owY_seg (unhide R_oH)) (owY_seg (unhide R_oW))).mono ?_
  rintro e w15 ⟨rfl, b15⟩
  clear a_0 a_1 a_2 a_3 a_4 a_5 a_6 a_7 a_8 a_9 a_10 a_11 n_a x_0 x_1 x_2 x_3 x_4 x_5 x_6 x_7 x_8 x_9 x_10 x_11 n_x
  have cw15 := b15
  have zw15 := cw15.size
  have K_a := hide (keptblk cw15 K_a)
  have K_x := hide (keptblk cw15 K_x)
  have R_x := hide ((unhide R_x).later cw15)
  have R_oW := hide ((unhide R_oW).later cw15)
  have R_oG := hide ((unhide R_oG).later cw15)
  have R_oH := hide ((unhide R_oH).later cw15)
  have BL := hide ((unhide BL).trans (cw15.mono (unhide BL).size))
  clear b15 cw15
  obtain ⟨a_0, a_1, a_2, a_3, a_4, a_5, a_6, a_7, a_8, a_9, a_10, a_11, -⟩ := msg_cells (unhide K_a).1
  have n_a := (unhide K_a).2
  obtain ⟨x_0, x_1, x_2, x_3, x_4, x_5, x_6, x_7, x_8, x_9, x_10, x_11, -⟩ := msg_cells (unhide K_x).1
  have n_x := (unhide K_x).2
  go_wp2_with fail
  refine (heldbytes_v vg n1 _ (by omega) (owY_seg (unhide R_oG))).mono ?_
  rintro e w16 ⟨rfl, b16⟩
  clear a_0 a_1 a_2 a_3 a_4 a_5 a_6 a_7 a_8 a_9 a_10 a_11 n_a x_0 x_1 x_2 x_3 x_4 x_5 x_6 x_7 x_8 x_9 x_10 x_11 n_x
  have cw16 := b16
  have zw16 := cw16.size
  have K_a := hide (keptblk cw16 K_a)
  have K_x := hide (keptblk cw16 K_x)
  have R_x := hide ((unhide R_x).later cw16)
  have R_oW := hide ((unhide R_oW).later cw16)
  have R_oG := hide ((unhide R_oG).later cw16)
  have R_oH := hide ((unhide R_oH).later cw16)
  have BL := hide ((unhide BL).trans (cw16.mono (unhide BL).size))
  clear b16 cw16
  obtain ⟨a_0, a_1, a_2, a_3, a_4, a_5, a_6, a_7, a_8, a_9, a_10, a_11, -⟩ := msg_cells (unhide K_a).1
  have n_a := (unhide K_a).2
  obtain ⟨x_0, x_1, x_2, x_3, x_4, x_5, x_6, x_7, x_8, x_9, x_10, x_11, -⟩ := msg_cells (unhide K_x).1
  have n_x := (unhide K_x).2
  go_wp2
  go_ret
  exact ⟨rfl, unhide BL⟩

set_option maxHeartbeats 4000000 in
set_option maxRecDepth 100000 in
theorem lifted (os : Os) (started : os.Started) (H : Type) (enc : TypeId × Value → H) :
    ReturnsInHanded {} Try.checked os 4 .any (Rows.fnExactMsgBytesSpec.pre6 enc Try.prog Try.f4 Rows.fnExactMsgBytesRow.domain false) (Rows.fnExactMsgBytesSpec.post enc Try.prog Try.f4 false true false false) := by
  refine returnsInHanded_of_change (C := Try.checked) own started (by kernel_rfl) Try.func4
    (ChangeSpec.witness6 (enc := enc) (C := Try.checked) false ⟨#[], #[.agg #[.int .i64 0, .int .i64 0, .int .i64 0, .int .i64 0, .int .i64 0, .slice none 0 0, .int .i64 0, .slice none 0 0, .slice none 0 0, .slice none 0 0, .slice none 0 0, .slice none 0 0]], []⟩ 8 (by kernel_rfl) (by kernel_rfl) (by kernel_rfl) (by kernel_rfl)) ?_
  intro W base args ds gs before hval0 hW hcnd _
  have hval : ∀ (j : Nat) t v, Try.f4.params[j]? = some t → args[j]? = some v → Value.okWide Try.prog W .any base t v := hval0
  have hW' := hW
  obtain ⟨p, q, hA0, hV, rfl, hfz, hnd⟩ := hW
  have hA : DataW.TrodAll enc Try.prog W 0 (fun _ => true) true Try.f4.params.toList args.toList ds p := hA0
  rw [Try.params4] at hA hval
  obtain ⟨v0, vs0, d0, ds0, p0, q0, hargs0, rfl, rfl, h0, r0⟩ := trodAll_cons hA
  obtain ⟨rfl, rfl, rfl⟩ := trodAll_nil r0
  obtain rfl : args = #[v0] := by cases args; simp_all
  obtain ⟨rfl, rfl⟩ := trodVars_none hV
  have k0 := h0
  have lt0 : ∀ x ∈ p0, x.block < W.heap.size := by obtain ⟨m, hm⟩ := k0; exact DataW.trod_lt m _ _ _ hm
  obtain ⟨mm, mp, rfl, mh1, mh2, mh3, mh4⟩ := open_msg (hval 0 44 v0 rfl rfl) h0
  clear hA0 hval0
  refine (walk W mm mp mh1 mh2 mh3 mh4).mono fun e W' ⟨he, bel⟩ => ?_
  subst he
  exact ⟨_, rfl, _, _, _, [], _, [], hW', trodAll_mk1 (shut_bool Try.underlying4 _), (trodAll_cons_mk (Below.trod laidOut (by kernel_rfl) (of_decide_eq_true (by kernel_rfl)) k0 bel lt0) trodAll_mk0), rfl, bel.frame _, fun h => by cases h⟩

theorem over : Rows.fnExactMsgBytesRow.holds Try.pinned (OpenSpec.ofChange Rows.fnExactMsgBytesSpec) :=
  OpenClaim.holds_of_wide 4 Try.f4 rfl rfl rfl rfl rfl rfl rfl ⟨rfl, rfl, rfl, rfl, rfl⟩ rfl rfl rfl rfl rfl (by kernel_rfl) Try.func4 (by kernel_rfl)
    (of_decide_eq_true (by kernel_rfl)) (by unfold Func.isWrapper; first | (rw [if_pos (by decide +kernel)]; kernel_rfl) | (rw [if_neg (by decide +kernel)]; exact ⟨rfl, rfl⟩))
    (fun os started H enc _ => lifted os started H enc)

theorem proved : Rows.FnExactMsgBytesSaid := over
#print axioms proved
end Go.Proofs.Ytjlocbimkfocnaa.fnExactMsgBytes
namespace Go.Proofs.Ytjlocbimkfocnaa
theorem fnExactMsgBytes_holds : Rows.FnExactMsgBytesSaid := fnExactMsgBytes.proved
end Go.Proofs.Ytjlocbimkfocnaa
