/-
  At every message MsgOk answers as the specification and writes into no argument: the law answers true. No condition but the law’s own: where lists and texts are together greater than 1048576 it says nothing.
-/
import Derived.Test.YtbajnnpihjmjmaaRows
import Derived.Test.YtbajnnpihjmjmaaMsO
import Derived.Test.YtbajnnpihjmjmaaMsG
import Derived.Test.YtbajnnpihjmjmaaMsL
import Derived.WalkKit
import Derived.ProofKit
import Derived.OpenShut
import Derived.ShutString
import Derived.ChangeOld
import Derived.Below
import Derived.Carry
namespace Go.Proofs.Ytbajnnpihjmjmaa.fnExactMsgOk
open Go.ChangeShapes Go.WideShapes Go.ChangeAt Go.RowKit
open Go.ChangeMaps (open_string shut_string)

theorem own : ownKnob Try.prog.godebug = none := by kernel_rfl
theorem laidOut : laidOutB Try.prog = true := by kernel_rfl

set_option maxHeartbeats 8000000 in
set_option maxRecDepth 100000 in
theorem walk (w : World) (m : Mg) (p : Mp) (hsz : SzM p 9223372036854775807) (hx : RwM w m p) (hbig : Big m.its) (_ : FitMg m) :
    Calls Try.prog 4 #[.agg #[.int .i64 m.k, .int .i64 m.f, .int .i64 m.t, .int .i64 m.n, .int .i64 m.h, .slice p.ta p.tn p.tc, .int .i64 m.tr, .slice p.va p.vn p.vc, .slice p.la p.ln p.lc, .slice p.xa p.xn p.xc, .slice p.ya p.yn p.yc, .slice p.ka p.kn p.kc]] w fun e w' => e = .returned (.bool true) ∧ Below w.heap.size w w' := by
  have R_x := hide hx
  clear hx
  obtain ⟨ok, hok⟩ : ∃ ok, Hid (okM m = ok) := ⟨_, hide rfl⟩
  have hne : (ok != ok) = false := by cases ok <;> rfl
  go_enter Try.func4, Try.ntmps4
  go_wp2_with fail
  refine (szmsg_any m p hbig 1048576 (by omega) (by omega) _ hsz ((unhide R_x).alloc _)).mono ?_
  rintro e w1 ⟨h, b1⟩
  have cw1 := ((Below.refl w.heap.size w).alloc (Nat.le_refl _) _).trans (b1.mono (by simp <;> omega))
  have zw1 := cw1.size
  have K_a : Hid (w1.heap[w.heap.size]? = some (.cells #[.int .i64 m.k, .int .i64 m.f, .int .i64 m.t, .int .i64 m.n, .int .i64 m.h, .slice p.ta p.tn p.tc, .int .i64 m.tr, .slice p.va p.vn p.vc, .slice p.la p.ln p.lc, .slice p.xa p.xn p.xc, .slice p.ya p.yn p.yc, .slice p.ka p.kn p.kc] 44 (0, 0)) ∧ w.heap.size < w1.heap.size) := hide ⟨(b1.block _ (by simp <;> omega)).trans (newB1 w _), by have := b1.size; simp at this; omega⟩
  have y_a := (unhide K_a).2
  have R_x := hide ((unhide R_x).later cw1)
  have BL := hide cw1
  clear b1 cw1
  obtain ⟨a_0, a_1, a_2, a_3, a_4, a_5, a_6, a_7, a_8, a_9, a_10, a_11, -⟩ := msg_cells (unhide K_a).1
  have n_a := (unhide K_a).2
  rcases h with rfl | ⟨rx, rfl, hr0x, hr1x, hSx, -⟩
  · go_wp2
    go_ret
    exact ⟨rfl, unhide BL⟩
  have hdx : decide (rx < 0) = false := by simp; omega
  have S_x : SzM p 140737488351232 := ⟨by have := hSx.t; omega, by have := hSx.v; omega, by have := hSx.l; omega, by have := hSx.x; omega, by have := hSx.y; omega, by have := hSx.k; omega⟩
  clear hsz
  go_wp2_with fail
  refine (tomsg_any m _ _ hSx ((unhide R_x))).mono ?_
  rintro e w2 ⟨q1, rfl, o1, s1, b2⟩
  clear a_0 a_1 a_2 a_3 a_4 a_5 a_6 a_7 a_8 a_9 a_10 a_11 n_a
  have cw2 := b2
  have zw2 := cw2.size
  have K_a := hide (keptblk cw2 K_a)
  have R_x := hide ((unhide R_x).later cw2)
  have BL := hide ((unhide BL).trans (cw2.mono (unhide BL).size))
  have R_g1 := hide (o1)
  clear b2 cw2
  obtain ⟨a_0, a_1, a_2, a_3, a_4, a_5, a_6, a_7, a_8, a_9, a_10, a_11, -⟩ := msg_cells (unhide K_a).1
  have n_a := (unhide K_a).2
  have S_g1 : SzM q1 140737488351232 := ⟨by have := s1.t; omega, by have := s1.v; omega, by have := s1.l; omega, by have := s1.x; omega, by have := s1.y; omega, by have := s1.k; omega⟩
  clear o1 s1
  go_wp2_with fail
  refine (smsgok_any m q1 ok hok _ S_g1 (unhide R_g1).rw).mono ?_
  rintro e w3 ⟨rfl, b3⟩
  clear a_0 a_1 a_2 a_3 a_4 a_5 a_6 a_7 a_8 a_9 a_10 a_11 n_a
  have cw3 := b3
  have zw3 := cw3.size
  have K_a := hide (keptblk cw3 K_a)
  have R_x := hide ((unhide R_x).later cw3)
  clear R_g1
  have BL := hide ((unhide BL).trans (cw3.mono (unhide BL).size))
  clear b3 cw3
  obtain ⟨a_0, a_1, a_2, a_3, a_4, a_5, a_6, a_7, a_8, a_9, a_10, a_11, -⟩ := msg_cells (unhide K_a).1
  have n_a := (unhide K_a).2
  go_wp2_with fail
  refine (tomsg_any m _ _ hSx ((unhide R_x))).mono ?_
  rintro e w4 ⟨q2, rfl, o1, s1, b4⟩
  clear a_0 a_1 a_2 a_3 a_4 a_5 a_6 a_7 a_8 a_9 a_10 a_11 n_a
  have cw4 := b4
  have zw4 := cw4.size
  have K_a := hide (keptblk cw4 K_a)
  have R_x := hide ((unhide R_x).later cw4)
  have BL := hide ((unhide BL).trans (cw4.mono (unhide BL).size))
  have R_g2 := hide (o1)
  clear b4 cw4
  obtain ⟨a_0, a_1, a_2, a_3, a_4, a_5, a_6, a_7, a_8, a_9, a_10, a_11, -⟩ := msg_cells (unhide K_a).1
  have n_a := (unhide K_a).2
  have S_g2 : SzM q2 140737488351232 := ⟨by have := s1.t; omega, by have := s1.v; omega, by have := s1.l; omega, by have := s1.x; omega, by have := s1.y; omega, by have := s1.k; omega⟩
  clear o1 s1
  go_wp2_with fail
  refine (imsgok_any m q2 ok hok _ S_g2 ((unhide R_g2).rw.alloc _)).mono ?_
  rintro e w5 ⟨rfl, b5⟩
  clear a_0 a_1 a_2 a_3 a_4 a_5 a_6 a_7 a_8 a_9 a_10 a_11 n_a
  have cw5 := ((Below.refl w4.heap.size w4).alloc (Nat.le_refl _) _).trans (b5.mono (by simp <;> omega))
  have zw5 := cw5.size
  have K_a := hide (keptblk cw5 K_a)
  have K_x : Hid (w5.heap[w4.heap.size]? = some (.cells #[.int .i64 m.k, .int .i64 m.f, .int .i64 m.t, .int .i64 m.n, .int .i64 m.h, .slice q2.ta q2.tn q2.tc, .int .i64 m.tr, .slice q2.va q2.vn q2.vc, .slice q2.la q2.ln q2.lc, .slice q2.xa q2.xn q2.xc, .slice q2.ya q2.yn q2.yc, .slice q2.ka q2.kn q2.kc] 50 (0, 0)) ∧ w4.heap.size < w5.heap.size) := hide ⟨(b5.block _ (by simp <;> omega)).trans (newB1 w4 _), by have := b5.size; simp at this; omega⟩
  have y_x := (unhide K_x).2
  have R_x := hide ((unhide R_x).later cw5)
  have R_g2 := hide ((unhide R_g2).later cw5)
  have BL := hide ((unhide BL).trans (cw5.mono (unhide BL).size))
  clear b5 cw5
  obtain ⟨a_0, a_1, a_2, a_3, a_4, a_5, a_6, a_7, a_8, a_9, a_10, a_11, -⟩ := msg_cells (unhide K_a).1
  have n_a := (unhide K_a).2
  obtain ⟨x_0, x_1, x_2, x_3, x_4, x_5, x_6, x_7, x_8, x_9, x_10, x_11, -⟩ := msg_cells (unhide K_x).1
  have n_x := (unhide K_x).2
  clear a_0 a_1 a_2 a_3 a_4 a_5 a_6 a_7 a_8 a_9 a_10 a_11 n_a x_0 x_1 x_2 x_3 x_4 x_5 x_6 x_7 x_8 x_9 x_10 x_11 n_x
  obtain ⟨px0, px1, px2, px3, px4, px5, px6, px7, px8, px9, pxa, pxb, -⟩ := msg_cells (unhide K_x).1
  obtain ⟨qx0, qx1, qx2, qx3, qx4, qx5, qx6, qx7, qx8, qx9, qxa, qxb, -⟩ := msg_cells (unhide K_a).1
  have nx := (unhide K_x).2
  have na := (unhide K_a).2
  go_wp2_with fail
  clear px0 px1 px2 px3 px4 px5 px6 px7 px8 px9 pxa pxb qx0 qx1 qx2 qx3 qx4 qx5 qx6 qx7 qx8 qx9 qxa qxb nx na
  go_region_held3 (fun W => Below w5.heap.size w5 W ∧ (W.cell? ⟨w4.heap.size, 0, none⟩ = some (.int .i64 m.k) ∧ W.cell? ⟨w4.heap.size, 1, none⟩ = some (.int .i64 m.f) ∧ W.cell? ⟨w4.heap.size, 2, none⟩ = some (.int .i64 m.t) ∧ W.cell? ⟨w4.heap.size, 3, none⟩ = some (.int .i64 m.n) ∧ W.cell? ⟨w4.heap.size, 4, none⟩ = some (.int .i64 m.h) ∧ W.cell? ⟨w4.heap.size, 5, none⟩ = some (.slice q2.ta q2.tn q2.tc) ∧ W.cell? ⟨w4.heap.size, 6, none⟩ = some (.int .i64 m.tr) ∧ W.cell? ⟨w4.heap.size, 7, none⟩ = some (.slice q2.va q2.vn q2.vc) ∧ W.cell? ⟨w4.heap.size, 8, none⟩ = some (.slice q2.la q2.ln q2.lc) ∧ W.cell? ⟨w4.heap.size, 9, none⟩ = some (.slice q2.xa q2.xn q2.xc) ∧ W.cell? ⟨w4.heap.size, 10, none⟩ = some (.slice q2.ya q2.yn q2.yc) ∧ W.cell? ⟨w4.heap.size, 11, none⟩ = some (.slice q2.ka q2.kn q2.kc)) ∧ (W.cell? ⟨w.heap.size, 0, none⟩ = some (.int .i64 m.k) ∧ W.cell? ⟨w.heap.size, 1, none⟩ = some (.int .i64 m.f) ∧ W.cell? ⟨w.heap.size, 2, none⟩ = some (.int .i64 m.t) ∧ W.cell? ⟨w.heap.size, 3, none⟩ = some (.int .i64 m.n) ∧ W.cell? ⟨w.heap.size, 4, none⟩ = some (.int .i64 m.h) ∧ W.cell? ⟨w.heap.size, 5, none⟩ = some (.slice p.ta p.tn p.tc) ∧ W.cell? ⟨w.heap.size, 6, none⟩ = some (.int .i64 m.tr) ∧ W.cell? ⟨w.heap.size, 7, none⟩ = some (.slice p.va p.vn p.vc) ∧ W.cell? ⟨w.heap.size, 8, none⟩ = some (.slice p.la p.ln p.lc) ∧ W.cell? ⟨w.heap.size, 9, none⟩ = some (.slice p.xa p.xn p.xc) ∧ W.cell? ⟨w.heap.size, 10, none⟩ = some (.slice p.ya p.yn p.yc) ∧ W.cell? ⟨w.heap.size, 11, none⟩ = some (.slice p.ka p.kn p.kc)))
    (first | (with_reducible exact keepMM K_x K_a (Below.refl _ _)) | (with_reducible exact keepMM K_x K_a ((Below.refl _ _).drew)) | (with_reducible exact keepMM K_x K_a (by assumption)))
    (first
      | (go_at_call 17; refine (tomsg_any m _ _ hSx ?_).mono ?_; exact (unhide R_x).later (kb1 (by assumption)); rintro e w6 ⟨qq, rfl, o1, sq, b6⟩; have O5 := hide o1.rw; clear o1; have b6k := kb2 (by assumption) b6; clear b6)
      | (go_at_call 19; refine (eqmsg_same m q2 _ _ S_g2 ?_ (unhide O5)).mono ?_; exact (unhide R_g2).rw.later (kb1 (by assumption)); rintro e w7 ⟨rfl, b7⟩; have b7k := kb2 (by assumption) b7; clear b7))
  have cw7 : Below w5.heap.size w5 w7 := b7k
  clear b6k b7k O5 sq
  have K_a := hide (keptblk cw7 K_a)
  have K_x := hide (keptblk cw7 K_x)
  have R_x := hide ((unhide R_x).later cw7)
  have R_g2 := hide ((unhide R_g2).later cw7)
  have BL := hide ((unhide BL).trans (cw7.mono (unhide BL).size))
  clear cw7
  obtain ⟨a_0, a_1, a_2, a_3, a_4, a_5, a_6, a_7, a_8, a_9, a_10, a_11, -⟩ := msg_cells (unhide K_a).1
  have n_a := (unhide K_a).2
  obtain ⟨x_0, x_1, x_2, x_3, x_4, x_5, x_6, x_7, x_8, x_9, x_10, x_11, -⟩ := msg_cells (unhide K_x).1
  have n_x := (unhide K_x).2
  go_wp2
  go_ret
  exact ⟨rfl, unhide BL⟩

set_option maxHeartbeats 4000000 in
set_option maxRecDepth 100000 in
theorem lifted (os : Os) (started : os.Started) (H : Type) (enc : TypeId × Value → H) :
    ReturnsInHanded {} Try.checked os 4 .any (Rows.fnExactMsgOkSpec.pre6 enc Try.prog Try.f4 Rows.fnExactMsgOkRow.domain false) (Rows.fnExactMsgOkSpec.post enc Try.prog Try.f4 false true false false) := by
  refine returnsInHanded_of_change (C := Try.checked) own started (by kernel_rfl) Try.func4
    (ChangeSpec.witness6 (enc := enc) (C := Try.checked) false ⟨#[], #[.agg #[.int .i64 0, .int .i64 0, .int .i64 0, .int .i64 0, .int .i64 0, .slice none 0 0, .int .i64 0, .slice none 0 0, .slice none 0 0, .slice none 0 0, .slice none 0 0, .slice none 0 0]], []⟩ 8 (by kernel_rfl) (by kernel_rfl) (by kernel_rfl) (by kernel_rfl)) ?_
  intro W base args ds gs before hval0 hW hcnd _
  have hval : ∀ (j : Nat) t v, Try.f4.params[j]? = some t → args[j]? = some v → Value.okWide Try.prog W .any base t v := hval0
  have hW' := hW
  obtain ⟨p, q, hA0, hV, rfl, hfz, hnd⟩ := hW
  have hA : DataW.TrodAll enc Try.prog W 0 (fun _ => true) true Try.f4.params.toList args.toList ds p := hA0
  rw [Try.params4] at hA hval
  obtain ⟨v0, vs0, d0, ds0, p0, q0, hargs0, rfl, rfl, h0, r0⟩ := trodAll_cons hA
  obtain ⟨rfl, rfl, rfl⟩ := trodAll_nil r0
  obtain rfl : args = #[v0] := by cases args; simp_all
  obtain ⟨rfl, rfl⟩ := trodVars_none hV
  have k0 := h0
  have lt0 : ∀ x ∈ p0, x.block < W.heap.size := by obtain ⟨m, hm⟩ := k0; exact DataW.trod_lt m _ _ _ hm
  obtain ⟨xm, xp, rfl, xh1, xh2, xh3, xh4⟩ := open_msg (hval 0 44 v0 rfl rfl) h0
  clear hA0 hval0
  refine (walk W xm xp xh1 xh2 xh3 xh4).mono fun e W' ⟨he, bel⟩ => ?_
  subst he
  exact ⟨_, rfl, _, _, _, [], _, [], hW', trodAll_mk1 (shut_bool Try.underlying4 _), (trodAll_cons_mk (Below.trod laidOut (by kernel_rfl) (of_decide_eq_true (by kernel_rfl)) k0 bel lt0) trodAll_mk0), rfl, bel.frame _, fun h => by cases h⟩

theorem over : Rows.fnExactMsgOkRow.holds Try.pinned (OpenSpec.ofChange Rows.fnExactMsgOkSpec) :=
  OpenClaim.holds_of_wide 4 Try.f4 rfl rfl rfl rfl rfl rfl rfl ⟨rfl, rfl, rfl, rfl, rfl⟩ rfl rfl rfl rfl rfl (by kernel_rfl) Try.func4 (by kernel_rfl)
    (of_decide_eq_true (by kernel_rfl)) (by unfold Func.isWrapper; first | (rw [if_pos (by decide +kernel)]; kernel_rfl) | (rw [if_neg (by decide +kernel)]; exact ⟨rfl, rfl⟩))
    (fun os started H enc _ => lifted os started H enc)

theorem proved : Rows.FnExactMsgOkSaid := over
#print axioms proved
end Go.Proofs.Ytbajnnpihjmjmaa.fnExactMsgOk
namespace Go.Proofs.Ytbajnnpihjmjmaa
theorem fnExactMsgOk_holds : Rows.FnExactMsgOkSaid := fnExactMsgOk.proved
end Go.Proofs.Ytbajnnpihjmjmaa
