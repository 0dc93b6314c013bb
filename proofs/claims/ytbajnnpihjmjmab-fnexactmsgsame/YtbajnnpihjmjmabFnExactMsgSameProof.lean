/-
  At every two messages MsgSame answers as the specification and writes into no argument: the law answers true. No condition but the law’s own: where lists and texts are together greater than 1048576 it says nothing.
-/
import Derived.Test.YtbajnnpihjmjmabRows
import Derived.Test.YtbajnnpihjmjmabMsO
import Derived.Test.YtbajnnpihjmjmabMsT
import Derived.Test.YtbajnnpihjmjmabMsL
import Derived.WalkKit
import Derived.ProofKit
import Derived.OpenShut
import Derived.ShutString
import Derived.ChangeOld
import Derived.Below
import Derived.Carry
namespace Go.Proofs.Ytbajnnpihjmjmab.fnExactMsgSame
open Go.ChangeShapes Go.WideShapes Go.ChangeAt Go.RowKit
open Go.ChangeMaps (open_string shut_string)

theorem own : ownKnob Try.prog.godebug = none := by kernel_rfl
theorem laidOut : laidOutB Try.prog = true := by kernel_rfl

set_option maxHeartbeats 16000000 in
set_option maxRecDepth 100000 in
theorem walk (w : World) (m : Mg) (p : Mp) (hsz : SzM p 9223372036854775807) (hx : RwM w m p) (hbig : Big m.its) (_ : FitMg m) (n : Mg) (q : Mp) (hsy : SzM q 9223372036854775807) (hy : RwM w n q) (hbiy : Big n.its) (_ : FitMg n) :
    Calls Try.prog 4 #[.agg #[.int .i64 m.k, .int .i64 m.f, .int .i64 m.t, .int .i64 m.n, .int .i64 m.h, .slice p.ta p.tn p.tc, .int .i64 m.tr, .slice p.va p.vn p.vc, .slice p.la p.ln p.lc, .slice p.xa p.xn p.xc, .slice p.ya p.yn p.yc, .slice p.ka p.kn p.kc], .agg #[.int .i64 n.k, .int .i64 n.f, .int .i64 n.t, .int .i64 n.n, .int .i64 n.h, .slice q.ta q.tn q.tc, .int .i64 n.tr, .slice q.va q.vn q.vc, .slice q.la q.ln q.lc, .slice q.xa q.xn q.xc, .slice q.ya q.yn q.yc, .slice q.ka q.kn q.kc]] w fun e w' => e = .returned (.bool true) ∧ Below w.heap.size w w' := by
  have R_x := hide hx
  have R_y := hide hy
  clear hx hy
  obtain ⟨rr, hrr⟩ : ∃ rr, Hid (smM m n = rr) := ⟨_, hide rfl⟩
  have hne : (rr != rr) = false := by cases rr <;> rfl
  go_enter Try.func4, Try.ntmps4
  go_wp2_with fail
  refine (szmsg_any m p hbig 1048576 (by omega) (by omega) _ hsz (((unhide R_x).alloc _).alloc _)).mono ?_
  rintro e w1 ⟨h, b1⟩
  have cw1 := (((Below.refl w.heap.size w).alloc (Nat.le_refl _) _).alloc (by simp <;> omega) _).trans (b1.mono (by simp <;> omega))
  have zw1 := cw1.size
  have K_a : Hid (w1.heap[w.heap.size]? = some (.cells #[.int .i64 m.k, .int .i64 m.f, .int .i64 m.t, .int .i64 m.n, .int .i64 m.h, .slice p.ta p.tn p.tc, .int .i64 m.tr, .slice p.va p.vn p.vc, .slice p.la p.ln p.lc, .slice p.xa p.xn p.xc, .slice p.ya p.yn p.yc, .slice p.ka p.kn p.kc] 44 (0, 0)) ∧ w.heap.size < w1.heap.size) := hide ⟨(b1.block _ (by simp <;> omega)).trans (lowB2 w _ _), by have := b1.size; simp at this; omega⟩
  have y_a := (unhide K_a).2
  have K_b : Hid (w1.heap[w.heap.size + 1]? = some (.cells #[.int .i64 n.k, .int .i64 n.f, .int .i64 n.t, .int .i64 n.n, .int .i64 n.h, .slice q.ta q.tn q.tc, .int .i64 n.tr, .slice q.va q.vn q.vc, .slice q.la q.ln q.lc, .slice q.xa q.xn q.xc, .slice q.ya q.yn q.yc, .slice q.ka q.kn q.kc] 44 (0, 0)) ∧ w.heap.size + 1 < w1.heap.size) := hide ⟨(b1.block _ (by simp <;> omega)).trans (newB2 w _ _), by have := b1.size; simp at this; omega⟩
  have y_b := (unhide K_b).2
  have R_x := hide ((unhide R_x).later cw1)
  have R_y := hide ((unhide R_y).later cw1)
  have BL := hide cw1
  clear b1 cw1
  obtain ⟨a_0, a_1, a_2, a_3, a_4, a_5, a_6, a_7, a_8, a_9, a_10, a_11, -⟩ := msg_cells (unhide K_a).1
  have n_a := (unhide K_a).2
  obtain ⟨b_0, b_1, b_2, b_3, b_4, b_5, b_6, b_7, b_8, b_9, b_10, b_11, -⟩ := msg_cells (unhide K_b).1
  have n_b := (unhide K_b).2
  rcases h with rfl | ⟨rx, rfl, hr0x, hr1x, hSx, -⟩
  · go_wp2
    go_ret
    exact ⟨rfl, unhide BL⟩
  have hdx : decide (rx < 0) = false := by simp; omega
  clear hsz
  go_wp2_with fail
  refine (szmsg_any n q hbiy rx (by omega) (by omega) _ hsy ((unhide R_y))).mono ?_
  rintro e w2 ⟨h, b2⟩
  clear a_0 a_1 a_2 a_3 a_4 a_5 a_6 a_7 a_8 a_9 a_10 a_11 n_a b_0 b_1 b_2 b_3 b_4 b_5 b_6 b_7 b_8 b_9 b_10 b_11 n_b
  have cw2 := b2
  have zw2 := cw2.size
  have K_a := hide (keptblk cw2 K_a)
  have K_b := hide (keptblk cw2 K_b)
  have R_x := hide ((unhide R_x).later cw2)
  have R_y := hide ((unhide R_y).later cw2)
  have BL := hide ((unhide BL).trans (cw2.mono (unhide BL).size))
  clear b2 cw2
  obtain ⟨a_0, a_1, a_2, a_3, a_4, a_5, a_6, a_7, a_8, a_9, a_10, a_11, -⟩ := msg_cells (unhide K_a).1
  have n_a := (unhide K_a).2
  obtain ⟨b_0, b_1, b_2, b_3, b_4, b_5, b_6, b_7, b_8, b_9, b_10, b_11, -⟩ := msg_cells (unhide K_b).1
  have n_b := (unhide K_b).2
  rcases h with rfl | ⟨ry, rfl, hr0y, hr1y, hSy, -⟩
  · go_wp2
    go_ret
    exact ⟨rfl, unhide BL⟩
  have hdy : decide (ry < 0) = false := by simp; omega
  have S_y : SzM q 140737488351232 := ⟨by have := hSy.t; omega, by have := hSy.v; omega, by have := hSy.l; omega, by have := hSy.x; omega, by have := hSy.y; omega, by have := hSy.k; omega⟩
  clear hsy
  clear a_0 a_1 a_2 a_3 a_4 a_5 a_6 a_7 a_8 a_9 a_10 a_11 n_a b_0 b_1 b_2 b_3 b_4 b_5 b_6 b_7 b_8 b_9 b_10 b_11 n_b
  obtain ⟨px0, px1, px2, px3, px4, px5, px6, px7, px8, px9, pxa, pxb, -⟩ := msg_cells (unhide K_a).1
  obtain ⟨qx0, qx1, qx2, qx3, qx4, qx5, qx6, qx7, qx8, qx9, qxa, qxb, -⟩ := msg_cells (unhide K_b).1
  have nx := (unhide K_a).2
  have na := (unhide K_b).2
  go_wp2_with fail
  clear px0 px1 px2 px3 px4 px5 px6 px7 px8 px9 pxa pxb qx0 qx1 qx2 qx3 qx4 qx5 qx6 qx7 qx8 qx9 qxa qxb nx na
  go_region_held3 (fun W => Below w2.heap.size w2 W ∧ (W.cell? ⟨w.heap.size, 0, none⟩ = some (.int .i64 m.k) ∧ W.cell? ⟨w.heap.size, 1, none⟩ = some (.int .i64 m.f) ∧ W.cell? ⟨w.heap.size, 2, none⟩ = some (.int .i64 m.t) ∧ W.cell? ⟨w.heap.size, 3, none⟩ = some (.int .i64 m.n) ∧ W.cell? ⟨w.heap.size, 4, none⟩ = some (.int .i64 m.h) ∧ W.cell? ⟨w.heap.size, 5, none⟩ = some (.slice p.ta p.tn p.tc) ∧ W.cell? ⟨w.heap.size, 6, none⟩ = some (.int .i64 m.tr) ∧ W.cell? ⟨w.heap.size, 7, none⟩ = some (.slice p.va p.vn p.vc) ∧ W.cell? ⟨w.heap.size, 8, none⟩ = some (.slice p.la p.ln p.lc) ∧ W.cell? ⟨w.heap.size, 9, none⟩ = some (.slice p.xa p.xn p.xc) ∧ W.cell? ⟨w.heap.size, 10, none⟩ = some (.slice p.ya p.yn p.yc) ∧ W.cell? ⟨w.heap.size, 11, none⟩ = some (.slice p.ka p.kn p.kc)) ∧ (W.cell? ⟨w.heap.size + 1, 0, none⟩ = some (.int .i64 n.k) ∧ W.cell? ⟨w.heap.size + 1, 1, none⟩ = some (.int .i64 n.f) ∧ W.cell? ⟨w.heap.size + 1, 2, none⟩ = some (.int .i64 n.t) ∧ W.cell? ⟨w.heap.size + 1, 3, none⟩ = some (.int .i64 n.n) ∧ W.cell? ⟨w.heap.size + 1, 4, none⟩ = some (.int .i64 n.h) ∧ W.cell? ⟨w.heap.size + 1, 5, none⟩ = some (.slice q.ta q.tn q.tc) ∧ W.cell? ⟨w.heap.size + 1, 6, none⟩ = some (.int .i64 n.tr) ∧ W.cell? ⟨w.heap.size + 1, 7, none⟩ = some (.slice q.va q.vn q.vc) ∧ W.cell? ⟨w.heap.size + 1, 8, none⟩ = some (.slice q.la q.ln q.lc) ∧ W.cell? ⟨w.heap.size + 1, 9, none⟩ = some (.slice q.xa q.xn q.xc) ∧ W.cell? ⟨w.heap.size + 1, 10, none⟩ = some (.slice q.ya q.yn q.yc) ∧ W.cell? ⟨w.heap.size + 1, 11, none⟩ = some (.slice q.ka q.kn q.kc)))
    (first | (with_reducible exact keepMM K_a K_b (Below.refl _ _)) | (with_reducible exact keepMM K_a K_b ((Below.refl _ _).drew)) | (with_reducible exact keepMM K_a K_b (by assumption)))
    (first
      | (go_at_call_of 15 (Value.agg #[.int .i64 m.k, .int .i64 m.f, .int .i64 m.t, .int .i64 m.n, .int .i64 m.h, .slice p.ta p.tn p.tc, .int .i64 m.tr, .slice p.va p.vn p.vc, .slice p.la p.ln p.lc, .slice p.xa p.xn p.xc, .slice p.ya p.yn p.yc, .slice p.ka p.kn p.kc]); refine (tomsg_any m p _ hSx ?_).mono ?_; exact (unhide R_x).later (kb1 (by assumption)); rintro e w3 ⟨t1, rfl, o1, st1, b6⟩; have RT1 := hide o1.rw; clear o1; have bw3 := kb2 (by assumption) b6; clear b6)
      | (go_at_call_of 15 (Value.agg #[.int .i64 n.k, .int .i64 n.f, .int .i64 n.t, .int .i64 n.n, .int .i64 n.h, .slice q.ta q.tn q.tc, .int .i64 n.tr, .slice q.va q.vn q.vc, .slice q.la q.ln q.lc, .slice q.xa q.xn q.xc, .slice q.ya q.yn q.yc, .slice q.ka q.kn q.kc]); refine (tomsg_any n q _ hSy ?_).mono ?_; exact (unhide R_y).later (kb1 (by assumption)); rintro e w4 ⟨t2, rfl, o1, st2, b6⟩; have RT2 := hide o1.rw; clear o1; have RT1 := hide ((unhide RT1).later b6); have bw4 := kb2 (by assumption) b6; clear b6)
      | (go_at_call 14; refine (smsgsame_any m n t1 t2 rr hrr _ ⟨by have := st1.t; omega, by have := st1.v; omega, by have := st1.l; omega, by have := st1.x; omega, by have := st1.y; omega, by have := st1.k; omega⟩ ⟨by have := st2.t; omega, by have := st2.v; omega, by have := st2.l; omega, by have := st2.x; omega, by have := st2.y; omega, by have := st2.k; omega⟩ (unhide RT1) (unhide RT2)).mono ?_; rintro e w5 ⟨rfl, b8⟩; have bw5 := kb2 (by assumption) b8; clear b8))
  have cw5 : Below w2.heap.size w2 w5 := bw5
  clear bw3 bw4 bw5 RT1 RT2 st1 st2
  have K_a := hide (keptblk cw5 K_a)
  have K_b := hide (keptblk cw5 K_b)
  have R_x := hide ((unhide R_x).later cw5)
  have R_y := hide ((unhide R_y).later cw5)
  have BL := hide ((unhide BL).trans (cw5.mono (unhide BL).size))
  clear cw5
  obtain ⟨a_0, a_1, a_2, a_3, a_4, a_5, a_6, a_7, a_8, a_9, a_10, a_11, -⟩ := msg_cells (unhide K_a).1
  have n_a := (unhide K_a).2
  obtain ⟨b_0, b_1, b_2, b_3, b_4, b_5, b_6, b_7, b_8, b_9, b_10, b_11, -⟩ := msg_cells (unhide K_b).1
  have n_b := (unhide K_b).2
  go_wp2_with fail
  refine (tomsg_any m _ _ hSx ((unhide R_x))).mono ?_
  rintro e w6 ⟨q1, rfl, o1, s1, b6⟩
  clear a_0 a_1 a_2 a_3 a_4 a_5 a_6 a_7 a_8 a_9 a_10 a_11 n_a b_0 b_1 b_2 b_3 b_4 b_5 b_6 b_7 b_8 b_9 b_10 b_11 n_b
  have cw6 := b6
  have zw6 := cw6.size
  have K_a := hide (keptblk cw6 K_a)
  have K_b := hide (keptblk cw6 K_b)
  have R_x := hide ((unhide R_x).later cw6)
  have R_y := hide ((unhide R_y).later cw6)
  have BL := hide ((unhide BL).trans (cw6.mono (unhide BL).size))
  have R_g1 := hide (o1)
  clear b6 cw6
  obtain ⟨a_0, a_1, a_2, a_3, a_4, a_5, a_6, a_7, a_8, a_9, a_10, a_11, -⟩ := msg_cells (unhide K_a).1
  have n_a := (unhide K_a).2
  obtain ⟨b_0, b_1, b_2, b_3, b_4, b_5, b_6, b_7, b_8, b_9, b_10, b_11, -⟩ := msg_cells (unhide K_b).1
  have n_b := (unhide K_b).2
  have S_g1 : SzM q1 140737488351232 := ⟨by have := s1.t; omega, by have := s1.v; omega, by have := s1.l; omega, by have := s1.x; omega, by have := s1.y; omega, by have := s1.k; omega⟩
  clear o1 s1
  go_wp2_with fail
  refine (tomsg_any n _ _ hSy ((unhide R_y).alloc _)).mono ?_
  rintro e w7 ⟨q2, rfl, o1, s1, b7⟩
  clear a_0 a_1 a_2 a_3 a_4 a_5 a_6 a_7 a_8 a_9 a_10 a_11 n_a b_0 b_1 b_2 b_3 b_4 b_5 b_6 b_7 b_8 b_9 b_10 b_11 n_b
  have cw7 := ((Below.refl w6.heap.size w6).alloc (Nat.le_refl _) _).trans (b7.mono (by simp <;> omega))
  have zw7 := cw7.size
  have K_a := hide (keptblk cw7 K_a)
  have K_b := hide (keptblk cw7 K_b)
  have K_x : Hid (w7.heap[w6.heap.size]? = some (.cells #[.int .i64 m.k, .int .i64 m.f, .int .i64 m.t, .int .i64 m.n, .int .i64 m.h, .slice q1.ta q1.tn q1.tc, .int .i64 m.tr, .slice q1.va q1.vn q1.vc, .slice q1.la q1.ln q1.lc, .slice q1.xa q1.xn q1.xc, .slice q1.ya q1.yn q1.yc, .slice q1.ka q1.kn q1.kc] 50 (0, 0)) ∧ w6.heap.size < w7.heap.size) := hide ⟨(b7.block _ (by simp <;> omega)).trans (newB1 w6 _), by have := b7.size; simp at this; omega⟩
  have y_x := (unhide K_x).2
  have R_x := hide ((unhide R_x).later cw7)
  have R_y := hide ((unhide R_y).later cw7)
  have R_g1 := hide ((unhide R_g1).later cw7)
  have BL := hide ((unhide BL).trans (cw7.mono (unhide BL).size))
  have R_g2 := hide (o1)
  clear b7 cw7
  obtain ⟨a_0, a_1, a_2, a_3, a_4, a_5, a_6, a_7, a_8, a_9, a_10, a_11, -⟩ := msg_cells (unhide K_a).1
  have n_a := (unhide K_a).2
  obtain ⟨b_0, b_1, b_2, b_3, b_4, b_5, b_6, b_7, b_8, b_9, b_10, b_11, -⟩ := msg_cells (unhide K_b).1
  have n_b := (unhide K_b).2
  obtain ⟨x_0, x_1, x_2, x_3, x_4, x_5, x_6, x_7, x_8, x_9, x_10, x_11, -⟩ := msg_cells (unhide K_x).1
  have n_x := (unhide K_x).2
  have S_g2 : SzM q2 140737488351232 := ⟨by have := s1.t; omega, by have := s1.v; omega, by have := s1.l; omega, by have := s1.x; omega, by have := s1.y; omega, by have := s1.k; omega⟩
  clear o1 s1
  go_wp2_with fail
  refine (imsgsame_any m n q1 q2 rr hrr _ S_g1 S_g2 ((unhide R_g1).rw.alloc _) ((unhide R_g2).rw.alloc _)).mono ?_
  rintro e w8 ⟨rfl, b8⟩
  clear a_0 a_1 a_2 a_3 a_4 a_5 a_6 a_7 a_8 a_9 a_10 a_11 n_a b_0 b_1 b_2 b_3 b_4 b_5 b_6 b_7 b_8 b_9 b_10 b_11 n_b x_0 x_1 x_2 x_3 x_4 x_5 x_6 x_7 x_8 x_9 x_10 x_11 n_x
  have cw8 := ((Below.refl w7.heap.size w7).alloc (Nat.le_refl _) _).trans (b8.mono (by simp <;> omega))
  have zw8 := cw8.size
  have K_a := hide (keptblk cw8 K_a)
  have K_b := hide (keptblk cw8 K_b)
  have K_x := hide (keptblk cw8 K_x)
  have K_y : Hid (w8.heap[w7.heap.size]? = some (.cells #[.int .i64 n.k, .int .i64 n.f, .int .i64 n.t, .int .i64 n.n, .int .i64 n.h, .slice q2.ta q2.tn q2.tc, .int .i64 n.tr, .slice q2.va q2.vn q2.vc, .slice q2.la q2.ln q2.lc, .slice q2.xa q2.xn q2.xc, .slice q2.ya q2.yn q2.yc, .slice q2.ka q2.kn q2.kc] 50 (0, 0)) ∧ w7.heap.size < w8.heap.size) := hide ⟨(b8.block _ (by simp <;> omega)).trans (newB1 w7 _), by have := b8.size; simp at this; omega⟩
  have y_y := (unhide K_y).2
  have R_x := hide ((unhide R_x).later cw8)
  have R_y := hide ((unhide R_y).later cw8)
  have R_g1 := hide ((unhide R_g1).later cw8)
  have R_g2 := hide ((unhide R_g2).later cw8)
  have BL := hide ((unhide BL).trans (cw8.mono (unhide BL).size))
  clear b8 cw8
  obtain ⟨a_0, a_1, a_2, a_3, a_4, a_5, a_6, a_7, a_8, a_9, a_10, a_11, -⟩ := msg_cells (unhide K_a).1
  have n_a := (unhide K_a).2
  obtain ⟨b_0, b_1, b_2, b_3, b_4, b_5, b_6, b_7, b_8, b_9, b_10, b_11, -⟩ := msg_cells (unhide K_b).1
  have n_b := (unhide K_b).2
  obtain ⟨x_0, x_1, x_2, x_3, x_4, x_5, x_6, x_7, x_8, x_9, x_10, x_11, -⟩ := msg_cells (unhide K_x).1
  have n_x := (unhide K_x).2
  obtain ⟨y_0, y_1, y_2, y_3, y_4, y_5, y_6, y_7, y_8, y_9, y_10, y_11, -⟩ := msg_cells (unhide K_y).1
  have n_y := (unhide K_y).2
  clear a_0 a_1 a_2 a_3 a_4 a_5 a_6 a_7 a_8 a_9 a_10 a_11 n_a b_0 b_1 b_2 b_3 b_4 b_5 b_6 b_7 b_8 b_9 b_10 b_11 n_b x_0 x_1 x_2 x_3 x_4 x_5 x_6 x_7 x_8 x_9 x_10 x_11 n_x y_0 y_1 y_2 y_3 y_4 y_5 y_6 y_7 y_8 y_9 y_10 y_11 n_y
  obtain ⟨px0, px1, px2, px3, px4, px5, px6, px7, px8, px9, pxa, pxb, -⟩ := msg_cells (unhide K_x).1
  obtain ⟨qx0, qx1, qx2, qx3, qx4, qx5, qx6, qx7, qx8, qx9, qxa, qxb, -⟩ := msg_cells (unhide K_a).1
  have nx := (unhide K_x).2
  have na := (unhide K_a).2
  go_wp2_with fail
  clear px0 px1 px2 px3 px4 px5 px6 px7 px8 px9 pxa pxb qx0 qx1 qx2 qx3 qx4 qx5 qx6 qx7 qx8 qx9 qxa qxb nx na
  go_region_held3 (fun W => Below w8.heap.size w8 W ∧ (W.cell? ⟨w6.heap.size, 0, none⟩ = some (.int .i64 m.k) ∧ W.cell? ⟨w6.heap.size, 1, none⟩ = some (.int .i64 m.f) ∧ W.cell? ⟨w6.heap.size, 2, none⟩ = some (.int .i64 m.t) ∧ W.cell? ⟨w6.heap.size, 3, none⟩ = some (.int .i64 m.n) ∧ W.cell? ⟨w6.heap.size, 4, none⟩ = some (.int .i64 m.h) ∧ W.cell? ⟨w6.heap.size, 5, none⟩ = some (.slice q1.ta q1.tn q1.tc) ∧ W.cell? ⟨w6.heap.size, 6, none⟩ = some (.int .i64 m.tr) ∧ W.cell? ⟨w6.heap.size, 7, none⟩ = some (.slice q1.va q1.vn q1.vc) ∧ W.cell? ⟨w6.heap.size, 8, none⟩ = some (.slice q1.la q1.ln q1.lc) ∧ W.cell? ⟨w6.heap.size, 9, none⟩ = some (.slice q1.xa q1.xn q1.xc) ∧ W.cell? ⟨w6.heap.size, 10, none⟩ = some (.slice q1.ya q1.yn q1.yc) ∧ W.cell? ⟨w6.heap.size, 11, none⟩ = some (.slice q1.ka q1.kn q1.kc)) ∧ (W.cell? ⟨w.heap.size, 0, none⟩ = some (.int .i64 m.k) ∧ W.cell? ⟨w.heap.size, 1, none⟩ = some (.int .i64 m.f) ∧ W.cell? ⟨w.heap.size, 2, none⟩ = some (.int .i64 m.t) ∧ W.cell? ⟨w.heap.size, 3, none⟩ = some (.int .i64 m.n) ∧ W.cell? ⟨w.heap.size, 4, none⟩ = some (.int .i64 m.h) ∧ W.cell? ⟨w.heap.size, 5, none⟩ = some (.slice p.ta p.tn p.tc) ∧ W.cell? ⟨w.heap.size, 6, none⟩ = some (.int .i64 m.tr) ∧ W.cell? ⟨w.heap.size, 7, none⟩ = some (.slice p.va p.vn p.vc) ∧ W.cell? ⟨w.heap.size, 8, none⟩ = some (.slice p.la p.ln p.lc) ∧ W.cell? ⟨w.heap.size, 9, none⟩ = some (.slice p.xa p.xn p.xc) ∧ W.cell? ⟨w.heap.size, 10, none⟩ = some (.slice p.ya p.yn p.yc) ∧ W.cell? ⟨w.heap.size, 11, none⟩ = some (.slice p.ka p.kn p.kc)))
    (first | (with_reducible exact keepMM K_x K_a (Below.refl _ _)) | (with_reducible exact keepMM K_x K_a ((Below.refl _ _).drew)) | (with_reducible exact keepMM K_x K_a (by assumption)))
    (first
      | (go_at_call 15; refine (tomsg_any m _ _ hSx ?_).mono ?_; exact (unhide R_x).later (kb1 (by assumption)); rintro e w9 ⟨qq, rfl, o1, sq, b6⟩; have O5 := hide o1.rw; clear o1; have b6k := kb2 (by assumption) b6; clear b6)
      | (go_at_call 17; refine (eqmsg_same m q1 _ _ S_g1 ?_ (unhide O5)).mono ?_; exact (unhide R_g1).rw.later (kb1 (by assumption)); rintro e w10 ⟨rfl, b7⟩; have b7k := kb2 (by assumption) b7; clear b7))
  have cw10 : Below w8.heap.size w8 w10 := b7k
  clear b6k b7k O5 sq
  have K_a := hide (keptblk cw10 K_a)
  have K_b := hide (keptblk cw10 K_b)
  have K_x := hide (keptblk cw10 K_x)
  have K_y := hide (keptblk cw10 K_y)
  have R_x := hide ((unhide R_x).later cw10)
  have R_y := hide ((unhide R_y).later cw10)
  have R_g1 := hide ((unhide R_g1).later cw10)
  have R_g2 := hide ((unhide R_g2).later cw10)
  have BL := hide ((unhide BL).trans (cw10.mono (unhide BL).size))
  clear cw10
  obtain ⟨a_0, a_1, a_2, a_3, a_4, a_5, a_6, a_7, a_8, a_9, a_10, a_11, -⟩ := msg_cells (unhide K_a).1
  have n_a := (unhide K_a).2
  obtain ⟨b_0, b_1, b_2, b_3, b_4, b_5, b_6, b_7, b_8, b_9, b_10, b_11, -⟩ := msg_cells (unhide K_b).1
  have n_b := (unhide K_b).2
  obtain ⟨x_0, x_1, x_2, x_3, x_4, x_5, x_6, x_7, x_8, x_9, x_10, x_11, -⟩ := msg_cells (unhide K_x).1
  have n_x := (unhide K_x).2
  obtain ⟨y_0, y_1, y_2, y_3, y_4, y_5, y_6, y_7, y_8, y_9, y_10, y_11, -⟩ := msg_cells (unhide K_y).1
  have n_y := (unhide K_y).2
  clear a_0 a_1 a_2 a_3 a_4 a_5 a_6 a_7 a_8 a_9 a_10 a_11 n_a b_0 b_1 b_2 b_3 b_4 b_5 b_6 b_7 b_8 b_9 b_10 b_11 n_b x_0 x_1 x_2 x_3 x_4 x_5 x_6 x_7 x_8 x_9 x_10 x_11 n_x y_0 y_1 y_2 y_3 y_4 y_5 y_6 y_7 y_8 y_9 y_10 y_11 n_y
  obtain ⟨px0, px1, px2, px3, px4, px5, px6, px7, px8, px9, pxa, pxb, -⟩ := msg_cells (unhide K_y).1
  obtain ⟨qx0, qx1, qx2, qx3, qx4, qx5, qx6, qx7, qx8, qx9, qxa, qxb, -⟩ := msg_cells (unhide K_b).1
  have nx := (unhide K_y).2
  have na := (unhide K_b).2
  go_wp2_with fail
  clear px0 px1 px2 px3 px4 px5 px6 px7 px8 px9 pxa pxb qx0 qx1 qx2 qx3 qx4 qx5 qx6 qx7 qx8 qx9 qxa qxb nx na
  go_region_held3 (fun W => Below w10.heap.size w10 W ∧ (W.cell? ⟨w7.heap.size, 0, none⟩ = some (.int .i64 n.k) ∧ W.cell? ⟨w7.heap.size, 1, none⟩ = some (.int .i64 n.f) ∧ W.cell? ⟨w7.heap.size, 2, none⟩ = some (.int .i64 n.t) ∧ W.cell? ⟨w7.heap.size, 3, none⟩ = some (.int .i64 n.n) ∧ W.cell? ⟨w7.heap.size, 4, none⟩ = some (.int .i64 n.h) ∧ W.cell? ⟨w7.heap.size, 5, none⟩ = some (.slice q2.ta q2.tn q2.tc) ∧ W.cell? ⟨w7.heap.size, 6, none⟩ = some (.int .i64 n.tr) ∧ W.cell? ⟨w7.heap.size, 7, none⟩ = some (.slice q2.va q2.vn q2.vc) ∧ W.cell? ⟨w7.heap.size, 8, none⟩ = some (.slice q2.la q2.ln q2.lc) ∧ W.cell? ⟨w7.heap.size, 9, none⟩ = some (.slice q2.xa q2.xn q2.xc) ∧ W.cell? ⟨w7.heap.size, 10, none⟩ = some (.slice q2.ya q2.yn q2.yc) ∧ W.cell? ⟨w7.heap.size, 11, none⟩ = some (.slice q2.ka q2.kn q2.kc)) ∧ (W.cell? ⟨w.heap.size + 1, 0, none⟩ = some (.int .i64 n.k) ∧ W.cell? ⟨w.heap.size + 1, 1, none⟩ = some (.int .i64 n.f) ∧ W.cell? ⟨w.heap.size + 1, 2, none⟩ = some (.int .i64 n.t) ∧ W.cell? ⟨w.heap.size + 1, 3, none⟩ = some (.int .i64 n.n) ∧ W.cell? ⟨w.heap.size + 1, 4, none⟩ = some (.int .i64 n.h) ∧ W.cell? ⟨w.heap.size + 1, 5, none⟩ = some (.slice q.ta q.tn q.tc) ∧ W.cell? ⟨w.heap.size + 1, 6, none⟩ = some (.int .i64 n.tr) ∧ W.cell? ⟨w.heap.size + 1, 7, none⟩ = some (.slice q.va q.vn q.vc) ∧ W.cell? ⟨w.heap.size + 1, 8, none⟩ = some (.slice q.la q.ln q.lc) ∧ W.cell? ⟨w.heap.size + 1, 9, none⟩ = some (.slice q.xa q.xn q.xc) ∧ W.cell? ⟨w.heap.size + 1, 10, none⟩ = some (.slice q.ya q.yn q.yc) ∧ W.cell? ⟨w.heap.size + 1, 11, none⟩ = some (.slice q.ka q.kn q.kc)))
    (first | (with_reducible exact keepMM K_y K_b (Below.refl _ _)) | (with_reducible exact keepMM K_y K_b ((Below.refl _ _).drew)) | (with_reducible exact keepMM K_y K_b (by assumption)))
    (first
      | (go_at_call 15; refine (tomsg_any n _ _ hSy ?_).mono ?_; exact (unhide R_y).later (kb1 (by assumption)); rintro e w11 ⟨qq, rfl, o1, sq, b6⟩; have O5 := hide o1.rw; clear o1; have b6k := kb2 (by assumption) b6; clear b6)
      | (go_at_call 17; refine (eqmsg_same n q2 _ _ S_g2 ?_ (unhide O5)).mono ?_; exact (unhide R_g2).rw.later (kb1 (by assumption)); rintro e w12 ⟨rfl, b7⟩; have b7k := kb2 (by assumption) b7; clear b7))
  have cw12 : Below w10.heap.size w10 w12 := b7k
  clear b6k b7k O5 sq
  have K_a := hide (keptblk cw12 K_a)
  have K_b := hide (keptblk cw12 K_b)
  have K_x := hide (keptblk cw12 K_x)
  have K_y := hide (keptblk cw12 K_y)
  have R_x := hide ((unhide R_x).later cw12)
  have R_y := hide ((unhide R_y).later cw12)
  have R_g1 := hide ((unhide R_g1).later cw12)
  have R_g2 := hide ((unhide R_g2).later cw12)
  have BL := hide ((unhide BL).trans (cw12.mono (unhide BL).size))
  clear cw12
  obtain ⟨a_0, a_1, a_2, a_3, a_4, a_5, a_6, a_7, a_8, a_9, a_10, a_11, -⟩ := msg_cells (unhide K_a).1
  have n_a := (unhide K_a).2
  obtain ⟨b_0, b_1, b_2, b_3, b_4, b_5, b_6, b_7, b_8, b_9, b_10, b_11, -⟩ := msg_cells (unhide K_b).1
  have n_b := (unhide K_b).2
  obtain ⟨x_0, x_1, x_2, x_3, x_4, x_5, x_6, x_7, x_8, x_9, x_10, x_11, -⟩ := msg_cells (unhide K_x).1
  have n_x := (unhide K_x).2
  obtain ⟨y_0, y_1, y_2, y_3, y_4, y_5, y_6, y_7, y_8, y_9, y_10, y_11, -⟩ := msg_cells (unhide K_y).1
  have n_y := (unhide K_y).2
  go_wp2
  go_ret
  exact ⟨rfl, unhide BL⟩

set_option maxHeartbeats 4000000 in
set_option maxRecDepth 100000 in
theorem lifted (os : Os) (started : os.Started) (H : Type) (enc : TypeId × Value → H) :
    ReturnsInHanded {} Try.checked os 4 .any (Rows.fnExactMsgSameSpec.pre6 enc Try.prog Try.f4 Rows.fnExactMsgSameRow.domain false) (Rows.fnExactMsgSameSpec.post enc Try.prog Try.f4 false true false false) := by
  refine returnsInHanded_of_change (C := Try.checked) own started (by kernel_rfl) Try.func4
    (ChangeSpec.witness6 (enc := enc) (C := Try.checked) false ⟨#[], #[.agg #[.int .i64 0, .int .i64 0, .int .i64 0, .int .i64 0, .int .i64 0, .slice none 0 0, .int .i64 0, .slice none 0 0, .slice none 0 0, .slice none 0 0, .slice none 0 0, .slice none 0 0], .agg #[.int .i64 0, .int .i64 0, .int .i64 0, .int .i64 0, .int .i64 0, .slice none 0 0, .int .i64 0, .slice none 0 0, .slice none 0 0, .slice none 0 0, .slice none 0 0, .slice none 0 0]], []⟩ 8 (by kernel_rfl) (by kernel_rfl) (by kernel_rfl) (by kernel_rfl)) ?_
  intro W base args ds gs before hval0 hW hcnd _
  have hval : ∀ (j : Nat) t v, Try.f4.params[j]? = some t → args[j]? = some v → Value.okWide Try.prog W .any base t v := hval0
  have hW' := hW
  obtain ⟨p, q, hA0, hV, rfl, hfz, hnd⟩ := hW
  have hA : DataW.TrodAll enc Try.prog W 0 (fun _ => true) true Try.f4.params.toList args.toList ds p := hA0
  rw [Try.params4] at hA hval
  obtain ⟨v0, vs0, d0, ds0, p0, q0, hargs0, rfl, rfl, h0, r0⟩ := trodAll_cons hA
  obtain ⟨v1, vs1, d1, ds1, p1, q1, hargs1, rfl, rfl, h1, r1⟩ := trodAll_cons r0
  obtain ⟨rfl, rfl, rfl⟩ := trodAll_nil r1
  obtain rfl : args = #[v0, v1] := by cases args; simp_all
  obtain ⟨rfl, rfl⟩ := trodVars_none hV
  have k0 := h0
  have lt0 : ∀ x ∈ p0, x.block < W.heap.size := by obtain ⟨m, hm⟩ := k0; exact DataW.trod_lt m _ _ _ hm
  have k1 := h1
  have lt1 : ∀ x ∈ p1, x.block < W.heap.size := by obtain ⟨m, hm⟩ := k1; exact DataW.trod_lt m _ _ _ hm
  obtain ⟨xm, xp, rfl, xh1, xh2, xh3, xh4⟩ := open_msg (hval 0 44 v0 rfl rfl) h0
  obtain ⟨ym, yp, rfl, yh1, yh2, yh3, yh4⟩ := open_msg (hval 1 44 v1 rfl rfl) h1
  clear hA0 hval0
  refine (walk W xm xp xh1 xh2 xh3 xh4 ym yp yh1 yh2 yh3 yh4).mono fun e W' ⟨he, bel⟩ => ?_
  subst he
  exact ⟨_, rfl, _, _, _, [], _, [], hW', trodAll_mk1 (shut_bool Try.underlying4 _), (trodAll_cons_mk (Below.trod laidOut (by kernel_rfl) (of_decide_eq_true (by kernel_rfl)) k0 bel lt0) (trodAll_cons_mk (Below.trod laidOut (by kernel_rfl) (of_decide_eq_true (by kernel_rfl)) k1 bel lt1) trodAll_mk0)), rfl, bel.frame _, fun h => by cases h⟩

theorem over : Rows.fnExactMsgSameRow.holds Try.pinned (OpenSpec.ofChange Rows.fnExactMsgSameSpec) :=
  OpenClaim.holds_of_wide 4 Try.f4 rfl rfl rfl rfl rfl rfl rfl ⟨rfl, rfl, rfl, rfl, rfl⟩ rfl rfl rfl rfl rfl (by kernel_rfl) Try.func4 (by kernel_rfl)
    (of_decide_eq_true (by kernel_rfl)) (by unfold Func.isWrapper; first | (rw [if_pos (by decide +kernel)]; kernel_rfl) | (rw [if_neg (by decide +kernel)]; exact ⟨rfl, rfl⟩))
    (fun os started H enc _ => lifted os started H enc)

theorem proved : Rows.FnExactMsgSameSaid := over
#print axioms proved
end Go.Proofs.Ytbajnnpihjmjmab.fnExactMsgSame
namespace Go.Proofs.Ytbajnnpihjmjmab
theorem fnExactMsgSame_holds : Rows.FnExactMsgSameSaid := fnExactMsgSame.proved
end Go.Proofs.Ytbajnnpihjmjmab
