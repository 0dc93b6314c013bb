/-
  At every log and number LogSince answers as the specification, field by field; it writes into no argument and keeps nothing of one; its answer owns its memory, behind another call too. No conditions but the statement’s own.
-/
import Derived.Test.YtdpaocikmijioafGreatRows
import Derived.Test.YtdpaocikmijioafGreatLgZ
import Derived.Test.YtdpaocikmijioafGreatLgM
import Derived.WalkKit
import Derived.ProofKit
import Derived.OpenShut
import Derived.ShutString
import Derived.ChangeOld
import Derived.Below
import Derived.Carry
namespace Go.Proofs.YtdpaocikmijioafGreat.fnExactLogSince
open Go.ChangeShapes Go.WideShapes Go.ChangeAt Go.RowKit
open Go.ChangeMaps (open_string shut_string)

theorem own : ownKnob Tryz.prog.godebug = none := by kernel_rfl
theorem laidOut : laidOutB Tryz.prog = true := by kernel_rfl

theorem lsn5 {c f : Int} {ss : List Sta} {seq : Int} {ok : Bool} (h : kps c f ss seq = ok) : (lsn ok f seq ss).1.length ≤ 5 ∧ (lsn ok f seq ss).2.length ≤ 5 := by
  cases ok
  · simp [lsn]
  · obtain ⟨k, m, -, -, hk, hok, -⟩ := kps_parts rfl h
    rw [lsn, if_pos rfl]
    exact (jnL_ok (okL_drop hok _)).len5

set_option maxHeartbeats 8000000 in
set_option maxRecDepth 100000 in
theorem walk (w : World) (c f : Int) (a : Option Addr) (n cap : Nat) (ss : List Sta) (hn : n ≤ 9223372036854775807) (hx : RwS w (.slice a n cap) ss) (hbig : BigS ss) (_ : FitN c) (_ : FitN f) (seq : Int) (_ : (Lit.int .i64 seq).wf = true) :
    Calls Tryz.prog 3 #[LgV c f (.slice a n cap), .int .i64 seq] w fun e w' => e = .returned (.bool true) ∧ Below w.heap.size w w' := by
  have R_x := hide hx
  have O_x := R_x
  clear hx
  obtain ⟨ok, hok⟩ : ∃ ok, kps c f ss seq = ok := ⟨_, rfl⟩
  obtain ⟨hl1, hl2⟩ := lsn5 hok
  obtain ⟨n1, hm1⟩ : ∃ n, (lsn ok f seq ss).1.length = n := ⟨_, rfl⟩
  obtain ⟨n2, hm2⟩ : ∃ n, (lsn ok f seq ss).2.length = n := ⟨_, rfl⟩
  rw [hm1] at hl1
  rw [hm2] at hl2
  have HOK := hide hok
  have HN1 := hide hm1
  have HN2 := hide hm2
  have hne : (ok != ok) = false := by cases ok <;> rfl
  clear hok hm1 hm2
  go_enter Tryz.func3, Tryz.ntmps3
  go_wp2_with fail
  refine (szlog_any c f a n cap ss hbig 1048576 (by omega) (by omega) _ hn ((unhide R_x).alloc _)).mono ?_
  rintro e w1 ⟨h, b1⟩
  have cw1 := ((Below.refl w.heap.size w).alloc (Nat.le_refl _) _).trans (b1.mono (by simp <;> omega))
  have zw1 := cw1.size
  have K_a : Hid (w1.heap[w.heap.size]? = some (.cells #[.int .i64 c, .int .i64 f, .slice a n cap] 24 (0, 0)) ∧ w.heap.size < w1.heap.size) := hide ⟨(b1.block _ (by simp <;> omega)).trans (newB1 w _), by have := b1.size; simp at this; omega⟩
  have y_a := (unhide K_a).2
  have R_x := hide ((unhide R_x).later cw1)
  have BL := hide cw1
  clear b1 cw1
  obtain ⟨a_0, a_1, a_2, -⟩ := blk_cells3 (unhide K_a).1
  have n_a := (unhide K_a).2
  rcases h with rfl | ⟨r, rfl, hr1, hr2, hS⟩
  · go_wp2
    go_ret
    exact ⟨rfl, unhide BL⟩
  have hd : decide (r < 0) = false := by simp; omega
  have hn1 : n ≤ 1048576 := by omega
  have ht1 : tot ss ≤ 1048576 := by omega
  have HS := hide hS
  clear hS hn
  have hq0 : decide (ndS 1 ss < 0) = false := by have := ndS_le ss 1; simp; omega
  go_wp2_with fail
  refine (tolog_any c f a n cap ss _ hn1 ht1 (unhide R_x)).mono ?_
  rintro e w2 ⟨a1, c1, rfl, o1, b2⟩
  clear a_0 a_1 a_2 n_a
  have cw2 := b2
  have zw2 := cw2.size
  have K_a := hide (keptblk cw2 K_a)
  have R_x := hide ((unhide R_x).later cw2)
  have BL := hide ((unhide BL).trans (cw2.mono (unhide BL).size))
  have R_s1 := hide (o1)
  clear b2 cw2
  obtain ⟨a_0, a_1, a_2, -⟩ := blk_cells3 (unhide K_a).1
  have n_a := (unhide K_a).2
  clear o1
  go_wp2_with fail
  refine (slogsince_any c f a1 n c1 ss seq ok HOK n1 n2 HN1 HN2 _ (by omega) (by omega) (unhide R_s1).rw).mono ?_
  rintro e w3 ⟨wa1, wc1, wa2, wc2, rfl, o1, o2, b3⟩
  clear a_0 a_1 a_2 n_a
  have cw3 := b3
  have zw3 := cw3.size
  have K_a := hide (keptblk cw3 K_a)
  have R_x := hide ((unhide R_x).later cw3)
  clear R_s1
  have BL := hide ((unhide BL).trans (cw3.mono (unhide BL).size))
  have R_oW1 := hide (o1)
  have L_oW1 := hide (World.ownsRow.lt (unhide R_oW1))
  have R_oW2 := hide (o2)
  have L_oW2 := hide (World.ownsRow.lt (unhide R_oW2))
  clear b3 cw3
  obtain ⟨a_0, a_1, a_2, -⟩ := blk_cells3 (unhide K_a).1
  have n_a := (unhide K_a).2
  clear o1 o2
  go_wp2_with fail
  refine (tolog_any c f a n cap ss _ hn1 ht1 ((unhide R_x).alloc _)).mono ?_
  rintro e w4 ⟨a2, c2, rfl, o1, b4⟩
  clear a_0 a_1 a_2 n_a
  have cw4 := ((Below.refl w3.heap.size w3).alloc (Nat.le_refl _) _).trans (b4.mono (by simp <;> omega))
  have zw4 := cw4.size
  have K_a := hide (keptblk cw4 K_a)
  have K_s : Hid (w4.heap[w3.heap.size]? = some (.cells #[.slice wa1 n1 wc1, .slice wa2 n2 wc2] 29 (0, 0)) ∧ w3.heap.size < w4.heap.size) := hide ⟨(b4.block _ (by simp <;> omega)).trans (newB1 w3 _), by have := b4.size; simp at this; omega⟩
  have y_s := (unhide K_s).2
  have R_x := hide ((unhide R_x).later cw4)
  have R_oW1 := hide ((unhide R_oW1).later cw4)
  have R_oW2 := hide ((unhide R_oW2).later cw4)
  have BL := hide ((unhide BL).trans (cw4.mono (unhide BL).size))
  have R_s2 := hide (OwS.mono (lo' := w3.heap.size + 1) o1 (by simp) (Nat.le_refl _))
  clear b4 cw4
  obtain ⟨a_0, a_1, a_2, -⟩ := blk_cells3 (unhide K_a).1
  have n_a := (unhide K_a).2
  obtain ⟨s_0, s_1, -⟩ := blk_cells2 (unhide K_s).1
  have n_s := (unhide K_s).2
  clear o1
  go_wp2_with fail
  refine (ilogsince_any c f a2 n c2 ss seq ok HOK n1 n2 HN1 HN2 _ (by omega) (by omega) ((unhide R_s2).rw.alloc _)).mono ?_
  rintro e w5 ⟨g1, e1, g2, e2, rfl, o1, o2, b5⟩
  clear a_0 a_1 a_2 n_a s_0 s_1 n_s
  have cw5 := ((Below.refl w4.heap.size w4).alloc (Nat.le_refl _) _).trans (b5.mono (by simp <;> omega))
  have zw5 := cw5.size
  have K_a := hide (keptblk cw5 K_a)
  have K_s := hide (keptblk cw5 K_s)
  have K_x : Hid (w5.heap[w4.heap.size]? = some (.cells #[.int .i64 c, .int .i64 f, .slice a2 n c2] 34 (0, 0)) ∧ w4.heap.size < w5.heap.size) := hide ⟨(b5.block _ (by simp <;> omega)).trans (newB1 w4 _), by have := b5.size; simp at this; omega⟩
  have y_x := (unhide K_x).2
  have R_x := hide ((unhide R_x).later cw5)
  have R_oW1 := hide ((unhide R_oW1).later cw5)
  have R_oW2 := hide ((unhide R_oW2).later cw5)
  have R_s2 := hide ((unhide R_s2).later cw5)
  have BL := hide ((unhide BL).trans (cw5.mono (unhide BL).size))
  have R_oG1 := hide (Ow.base (base' := (w4.heap.size + 1)) o1 (by simp))
  have L_oG1 := hide (World.ownsRow.lt (unhide R_oG1))
  have R_oG2 := hide (Ow.base (base' := (w4.heap.size + 1)) o2 (by simp))
  have L_oG2 := hide (World.ownsRow.lt (unhide R_oG2))
  clear b5 cw5
  obtain ⟨a_0, a_1, a_2, -⟩ := blk_cells3 (unhide K_a).1
  have n_a := (unhide K_a).2
  obtain ⟨s_0, s_1, -⟩ := blk_cells2 (unhide K_s).1
  have n_s := (unhide K_s).2
  obtain ⟨x_0, x_1, x_2, -⟩ := blk_cells3 (unhide K_x).1
  have n_x := (unhide K_x).2
  clear o1 o2
  go_wp2_with fail
  refine (eqstate_same _ _ _ _ _ (lsn ok f seq ss).1 _ _ _ _ _ (lsn ok f seq ss).2 _ (by omega) (by omega) (((unhide R_oG1).rw encI_len).alloc _) (((unhide R_oW1).rw encI_len).alloc _) (((unhide R_oG2).rw encF_len).alloc _) (((unhide R_oW2).rw encF_len).alloc _)).mono ?_
  rintro e w6 ⟨rfl, b6⟩
  clear a_0 a_1 a_2 n_a s_0 s_1 n_s x_0 x_1 x_2 n_x
  have cw6 := ((Below.refl w5.heap.size w5).alloc (Nat.le_refl _) _).trans (b6.mono (by simp <;> omega))
  have zw6 := cw6.size
  have K_a := hide (keptblk cw6 K_a)
  have K_s := hide (keptblk cw6 K_s)
  have K_x := hide (keptblk cw6 K_x)
  have K_g : Hid (w6.heap[w5.heap.size]? = some (.cells #[.slice g1 n1 e1, .slice g2 n2 e2] 29 (0, 0)) ∧ w5.heap.size < w6.heap.size) := hide ⟨(b6.block _ (by simp <;> omega)).trans (newB1 w5 _), by have := b6.size; simp at this; omega⟩
  have y_g := (unhide K_g).2
  have R_x := hide ((unhide R_x).later cw6)
  have R_oW1 := hide ((unhide R_oW1).later cw6)
  have R_oW2 := hide ((unhide R_oW2).later cw6)
  have R_s2 := hide ((unhide R_s2).later cw6)
  have R_oG1 := hide ((unhide R_oG1).later cw6)
  have R_oG2 := hide ((unhide R_oG2).later cw6)
  have BL := hide ((unhide BL).trans (cw6.mono (unhide BL).size))
  clear b6 cw6
  obtain ⟨a_0, a_1, a_2, -⟩ := blk_cells3 (unhide K_a).1
  have n_a := (unhide K_a).2
  obtain ⟨s_0, s_1, -⟩ := blk_cells2 (unhide K_s).1
  have n_s := (unhide K_s).2
  obtain ⟨x_0, x_1, x_2, -⟩ := blk_cells3 (unhide K_x).1
  have n_x := (unhide K_x).2
  obtain ⟨g_0, g_1, -⟩ := blk_cells2 (unhide K_g).1
  have n_g := (unhide K_g).2
  clear a_0 a_1 a_2 n_a g_0 g_1 n_g s_0 s_1 n_s x_0 x_1 x_2 n_x
  obtain ⟨x0, x1, x2, -⟩ := blk_cells3 (unhide K_x).1
  obtain ⟨y0, y1, y2, -⟩ := blk_cells3 (unhide K_a).1
  go_wp2_with fail
  clear x0 x1 x2 y0 y1 y2
  go_region_held3 (fun W => Below w6.heap.size w6 W ∧ W.cell? ⟨w4.heap.size, 0, none⟩ = some (.int .i64 c) ∧ W.cell? ⟨w4.heap.size, 1, none⟩ = some (.int .i64 f) ∧ W.cell? ⟨w4.heap.size, 2, none⟩ = some (.slice a2 n c2) ∧ W.cell? ⟨w.heap.size, 0, none⟩ = some (.int .i64 c) ∧ W.cell? ⟨w.heap.size, 1, none⟩ = some (.int .i64 f) ∧ W.cell? ⟨w.heap.size, 2, none⟩ = some (.slice a n cap))
    (first | (with_reducible exact keepL K_x K_a (Below.refl _ _)) | (with_reducible exact keepL K_x K_a ((Below.refl _ _).drew)) | (with_reducible exact keepL K_x K_a (by assumption)))
    (first
      | (go_at_call 6; refine (tolog_any _ _ _ _ _ ss _ hn1 ht1 ?_).mono ?_; exact (unhide R_x).later (kb1 (by assumption)); rintro e w7 ⟨ta, tc, rfl, o1, b6⟩; have O5 := hide o1.rw; clear o1; have b6k := kb2 (by assumption) b6; clear b6)
      | (go_at_call 9; refine (eqlog_same _ _ _ _ _ _ _ ss _ (by omega) (by omega) ?_ (unhide O5)).mono ?_; exact (unhide R_s2).rw.later (kb1 (by assumption)); rintro e w8 ⟨rfl, b7⟩; have b7k := kb2 (by assumption) b7; clear b7))
  have cw8 : Below w6.heap.size w6 w8 := b7k
  clear b6k b7k O5
  have K_a := hide (keptblk cw8 K_a)
  have K_s := hide (keptblk cw8 K_s)
  have K_x := hide (keptblk cw8 K_x)
  have K_g := hide (keptblk cw8 K_g)
  have R_x := hide ((unhide R_x).later cw8)
  have R_oW1 := hide ((unhide R_oW1).later cw8)
  have R_oW2 := hide ((unhide R_oW2).later cw8)
  have R_s2 := hide ((unhide R_s2).later cw8)
  have R_oG1 := hide ((unhide R_oG1).later cw8)
  have R_oG2 := hide ((unhide R_oG2).later cw8)
  have BL := hide ((unhide BL).trans (cw8.mono (unhide BL).size))
  clear cw8
  obtain ⟨a_0, a_1, a_2, -⟩ := blk_cells3 (unhide K_a).1
  have n_a := (unhide K_a).2
  obtain ⟨s_0, s_1, -⟩ := blk_cells2 (unhide K_s).1
  have n_s := (unhide K_s).2
  obtain ⟨x_0, x_1, x_2, -⟩ := blk_cells3 (unhide K_x).1
  have n_x := (unhide K_x).2
  obtain ⟨g_0, g_1, -⟩ := blk_cells2 (unhide K_g).1
  have n_g := (unhide K_g).2
  go_wp2_with fail
  refine (marklog_any _ _ c f a2 n c2 ss 1 (by omega) (by omega) _ (by omega) (by omega) (SzS.tot ht1) (unhide R_s2)).mono ?_
  rintro e w9 ⟨rfl, o1, t1⟩
  clear a_0 a_1 a_2 n_a g_0 g_1 n_g s_0 s_1 n_s x_0 x_1 x_2 n_x
  have zw9 := t1.size
  have K_a := hide (t1.kept K_a (fun q => by have q2 : _ ∧ _ := q; omega))
  have K_s := hide (t1.kept K_s (fun q => by have q2 : _ ∧ _ := q; omega))
  have K_x := hide (t1.kept K_x (fun q => by have q2 : _ ∧ _ := q; omega))
  have K_g := hide (t1.kept K_g (fun q => by have q2 : _ ∧ _ := q; omega))
  have R_oW1 := hide (t1.own (unhide R_oW1) (fun i hi => fun q => by have q2 : _ ∧ _ := q; have := unhide L_oW1 _ hi; omega))
  have R_oW2 := hide (t1.own (unhide R_oW2) (fun i hi => fun q => by have q2 : _ ∧ _ := q; have := unhide L_oW2 _ hi; omega))
  have R_oG1 := hide (t1.own (unhide R_oG1) (fun i hi => fun q => by have q2 : _ ∧ _ := q; have := unhide L_oG1 _ hi; omega))
  have R_oG2 := hide (t1.own (unhide R_oG2) (fun i hi => fun q => by have q2 : _ ∧ _ := q; have := unhide L_oG2 _ hi; omega))
  have BL := hide (Trn.below (unhide BL) t1 (unhide BL).size (fun i q => by have q2 : _ ∧ _ := q; omega))
  have R_x := hide ((unhide O_x).later (unhide BL))
  have R_s2 := hide o1
  clear o1 t1
  obtain ⟨a_0, a_1, a_2, -⟩ := blk_cells3 (unhide K_a).1
  have n_a := (unhide K_a).2
  obtain ⟨s_0, s_1, -⟩ := blk_cells2 (unhide K_s).1
  have n_s := (unhide K_s).2
  obtain ⟨x_0, x_1, x_2, -⟩ := blk_cells3 (unhide K_x).1
  have n_x := (unhide K_x).2
  obtain ⟨g_0, g_1, -⟩ := blk_cells2 (unhide K_g).1
  have n_g := (unhide K_g).2
  go_wp2_with fail
  refine (eqstate_same _ _ _ _ _ (lsn ok f seq ss).1 _ _ _ _ _ (lsn ok f seq ss).2 _ (by omega) (by omega) (((unhide R_oG1).rw encI_len)) (((unhide R_oW1).rw encI_len)) (((unhide R_oG2).rw encF_len)) (((unhide R_oW2).rw encF_len))).mono ?_
  rintro e w10 ⟨rfl, b10⟩
  clear a_0 a_1 a_2 n_a g_0 g_1 n_g s_0 s_1 n_s x_0 x_1 x_2 n_x
  have cw10 := b10
  have zw10 := cw10.size
  have K_a := hide (keptblk cw10 K_a)
  have K_s := hide (keptblk cw10 K_s)
  have K_x := hide (keptblk cw10 K_x)
  have K_g := hide (keptblk cw10 K_g)
  have R_x := hide ((unhide R_x).later cw10)
  have R_oW1 := hide ((unhide R_oW1).later cw10)
  have R_oW2 := hide ((unhide R_oW2).later cw10)
  have R_s2 := hide ((unhide R_s2).later cw10)
  have R_oG1 := hide ((unhide R_oG1).later cw10)
  have R_oG2 := hide ((unhide R_oG2).later cw10)
  have BL := hide ((unhide BL).trans (cw10.mono (unhide BL).size))
  clear b10 cw10
  obtain ⟨a_0, a_1, a_2, -⟩ := blk_cells3 (unhide K_a).1
  have n_a := (unhide K_a).2
  obtain ⟨s_0, s_1, -⟩ := blk_cells2 (unhide K_s).1
  have n_s := (unhide K_s).2
  obtain ⟨x_0, x_1, x_2, -⟩ := blk_cells3 (unhide K_x).1
  have n_x := (unhide K_x).2
  obtain ⟨g_0, g_1, -⟩ := blk_cells2 (unhide K_g).1
  have n_g := (unhide K_g).2
  clear R_s2
  go_wp2_with fail
  refine (markS_any _ g1 n1 e1 _ g2 n2 e2 _ 1 (by omega) (by omega) _ (by omega) (by omega) (unhide R_oG1) (unhide R_oG2)).mono ?_
  rintro e w11 ⟨rfl, o1, o2, t1⟩
  clear a_0 a_1 a_2 n_a g_0 g_1 n_g s_0 s_1 n_s x_0 x_1 x_2 n_x
  have zw11 := t1.size
  have K_a := hide (t1.kept K_a (fun q => by rcases q with q | q; (first | (have := unhide L_oG1 _ q; omega) | (exact absurd q (by simp [Value.ownBlock]))); (first | (have := unhide L_oG2 _ q; omega) | (exact absurd q (by simp [Value.ownBlock])))))
  have K_s := hide (t1.kept K_s (fun q => by rcases q with q | q; (first | (have := unhide L_oG1 _ q; omega) | (exact absurd q (by simp [Value.ownBlock]))); (first | (have := unhide L_oG2 _ q; omega) | (exact absurd q (by simp [Value.ownBlock])))))
  have K_x := hide (t1.kept K_x (fun q => by rcases q with q | q; (first | (have := unhide L_oG1 _ q; omega) | (exact absurd q (by simp [Value.ownBlock]))); (first | (have := unhide L_oG2 _ q; omega) | (exact absurd q (by simp [Value.ownBlock])))))
  have K_g := hide (t1.kept K_g (fun q => by rcases q with q | q; (first | (have := unhide L_oG1 _ q; omega) | (exact absurd q (by simp [Value.ownBlock]))); (first | (have := unhide L_oG2 _ q; omega) | (exact absurd q (by simp [Value.ownBlock])))))
  have R_oW1 := hide (t1.own (unhide R_oW1) (fun i hi => fun q => by have := unhide L_oW1 _ hi; rcases q with q | q; (first | (have := unhide L_oG1 _ q; omega) | (exact absurd q (by simp [Value.ownBlock]))); (first | (have := unhide L_oG2 _ q; omega) | (exact absurd q (by simp [Value.ownBlock])))))
  have R_oW2 := hide (t1.own (unhide R_oW2) (fun i hi => fun q => by have := unhide L_oW2 _ hi; rcases q with q | q; (first | (have := unhide L_oG1 _ q; omega) | (exact absurd q (by simp [Value.ownBlock]))); (first | (have := unhide L_oG2 _ q; omega) | (exact absurd q (by simp [Value.ownBlock])))))
  have BL := hide (Trn.below (unhide BL) t1 (unhide BL).size (fun i q => by rcases q with q | q; (first | (have := unhide L_oG1 _ q; omega) | (exact absurd q (by simp [Value.ownBlock]))); (first | (have := unhide L_oG2 _ q; omega) | (exact absurd q (by simp [Value.ownBlock])))))
  have R_x := hide ((unhide O_x).later (unhide BL))
  have R_oG1 := hide o1; have R_oG2 := hide o2
  clear o1 o2 t1
  obtain ⟨a_0, a_1, a_2, -⟩ := blk_cells3 (unhide K_a).1
  have n_a := (unhide K_a).2
  obtain ⟨s_0, s_1, -⟩ := blk_cells2 (unhide K_s).1
  have n_s := (unhide K_s).2
  obtain ⟨x_0, x_1, x_2, -⟩ := blk_cells3 (unhide K_x).1
  have n_x := (unhide K_x).2
  obtain ⟨g_0, g_1, -⟩ := blk_cells2 (unhide K_g).1
  have n_g := (unhide K_g).2
  go_wp2_with fail
  refine (heldS_any g1 n1 e1 g2 n2 e2 1 (by omega) (by omega) _ (by omega) (by omega) ((unhide R_oG1).rw encI_len) ((unhide R_oG2).rw encF_len)).mono ?_
  rintro e w12 ⟨rfl, b12⟩
  clear a_0 a_1 a_2 n_a g_0 g_1 n_g s_0 s_1 n_s x_0 x_1 x_2 n_x
  have cw12 := b12
  have zw12 := cw12.size
  have K_a := hide (keptblk cw12 K_a)
  have K_s := hide (keptblk cw12 K_s)
  have K_x := hide (keptblk cw12 K_x)
  have K_g := hide (keptblk cw12 K_g)
  have R_x := hide ((unhide R_x).later cw12)
  have R_oW1 := hide ((unhide R_oW1).later cw12)
  have R_oW2 := hide ((unhide R_oW2).later cw12)
  have R_oG1 := hide ((unhide R_oG1).later cw12)
  have R_oG2 := hide ((unhide R_oG2).later cw12)
  have BL := hide ((unhide BL).trans (cw12.mono (unhide BL).size))
  clear b12 cw12
  obtain ⟨a_0, a_1, a_2, -⟩ := blk_cells3 (unhide K_a).1
  have n_a := (unhide K_a).2
  obtain ⟨s_0, s_1, -⟩ := blk_cells2 (unhide K_s).1
  have n_s := (unhide K_s).2
  obtain ⟨x_0, x_1, x_2, -⟩ := blk_cells3 (unhide K_x).1
  have n_x := (unhide K_x).2
  obtain ⟨g_0, g_1, -⟩ := blk_cells2 (unhide K_g).1
  have n_g := (unhide K_g).2
  have hq1 : decide ((1 : Int) + 6 * (n1 : Int) + 2 * (n2 : Int) < 0) = false := by simp; omega
  have hq2 : ((1 : Int) + 6 * (n1 : Int) + 2 * (n2 : Int) != 1 + 6 * (n1 : Int) + 2 * (n2 : Int)) = false := by simp
  go_wp2_with fail
  refine (tolog_any c f a n cap ss _ hn1 ht1 (unhide R_x)).mono ?_
  rintro e w13 ⟨a3, c3, rfl, o1, b13⟩
  clear a_0 a_1 a_2 n_a g_0 g_1 n_g s_0 s_1 n_s x_0 x_1 x_2 n_x
  have cw13 := b13
  have zw13 := cw13.size
  have K_a := hide (keptblk cw13 K_a)
  have K_s := hide (keptblk cw13 K_s)
  have K_x := hide (keptblk cw13 K_x)
  have K_g := hide (keptblk cw13 K_g)
  have R_x := hide ((unhide R_x).later cw13)
  have R_oW1 := hide ((unhide R_oW1).later cw13)
  have R_oW2 := hide ((unhide R_oW2).later cw13)
  have R_oG1 := hide ((unhide R_oG1).later cw13)
  have R_oG2 := hide ((unhide R_oG2).later cw13)
  have BL := hide ((unhide BL).trans (cw13.mono (unhide BL).size))
  have R_s3 := hide (o1)
  clear b13 cw13
  obtain ⟨a_0, a_1, a_2, -⟩ := blk_cells3 (unhide K_a).1
  have n_a := (unhide K_a).2
  obtain ⟨s_0, s_1, -⟩ := blk_cells2 (unhide K_s).1
  have n_s := (unhide K_s).2
  obtain ⟨x_0, x_1, x_2, -⟩ := blk_cells3 (unhide K_x).1
  have n_x := (unhide K_x).2
  obtain ⟨g_0, g_1, -⟩ := blk_cells2 (unhide K_g).1
  have n_g := (unhide K_g).2
  clear o1
  go_wp2_with fail
  refine (ilogsince_any c f a3 n c3 ss seq ok HOK n1 n2 HN1 HN2 _ (by omega) (by omega) (unhide R_s3).rw).mono ?_
  rintro e w14 ⟨h1, k1, h2, k2, rfl, o1, o2, b14⟩
  clear a_0 a_1 a_2 n_a g_0 g_1 n_g s_0 s_1 n_s x_0 x_1 x_2 n_x
  have cw14 := b14
  have zw14 := cw14.size
  have K_a := hide (keptblk cw14 K_a)
  have K_s := hide (keptblk cw14 K_s)
  have K_x := hide (keptblk cw14 K_x)
  have K_g := hide (keptblk cw14 K_g)
  have R_x := hide ((unhide R_x).later cw14)
  have R_oW1 := hide ((unhide R_oW1).later cw14)
  have R_oW2 := hide ((unhide R_oW2).later cw14)
  have R_oG1 := hide ((unhide R_oG1).later cw14)
  have R_oG2 := hide ((unhide R_oG2).later cw14)
  clear R_s3
  have BL := hide ((unhide BL).trans (cw14.mono (unhide BL).size))
  have R_oH1 := hide (o1)
  have L_oH1 := hide (World.ownsRow.lt (unhide R_oH1))
  have R_oH2 := hide (o2)
  have L_oH2 := hide (World.ownsRow.lt (unhide R_oH2))
  clear b14 cw14
  obtain ⟨a_0, a_1, a_2, -⟩ := blk_cells3 (unhide K_a).1
  have n_a := (unhide K_a).2
  obtain ⟨s_0, s_1, -⟩ := blk_cells2 (unhide K_s).1
  have n_s := (unhide K_s).2
  obtain ⟨x_0, x_1, x_2, -⟩ := blk_cells3 (unhide K_x).1
  have n_x := (unhide K_x).2
  obtain ⟨g_0, g_1, -⟩ := blk_cells2 (unhide K_g).1
  have n_g := (unhide K_g).2
  clear o1 o2
  go_wp2_with fail
  refine (eqstate_same _ _ _ _ _ (lsn ok f seq ss).1 _ _ _ _ _ (lsn ok f seq ss).2 _ (by omega) (by omega) (((unhide R_oH1).rw encI_len).alloc _) (((unhide R_oW1).rw encI_len).alloc _) (((unhide R_oH2).rw encF_len).alloc _) (((unhide R_oW2).rw encF_len).alloc _)).mono ?_
  rintro e w15 ⟨rfl, b15⟩
  clear a_0 a_1 a_2 n_a g_0 g_1 n_g s_0 s_1 n_s x_0 x_1 x_2 n_x
  have cw15 := ((Below.refl w14.heap.size w14).alloc (Nat.le_refl _) _).trans (b15.mono (by simp <;> omega))
  have zw15 := cw15.size
  have K_a := hide (keptblk cw15 K_a)
  have K_s := hide (keptblk cw15 K_s)
  have K_x := hide (keptblk cw15 K_x)
  have K_g := hide (keptblk cw15 K_g)
  have K_h : Hid (w15.heap[w14.heap.size]? = some (.cells #[.slice h1 n1 k1, .slice h2 n2 k2] 29 (0, 0)) ∧ w14.heap.size < w15.heap.size) := hide ⟨(b15.block _ (by simp <;> omega)).trans (newB1 w14 _), by have := b15.size; simp at this; omega⟩
  have y_h := (unhide K_h).2
  have R_x := hide ((unhide R_x).later cw15)
  have R_oW1 := hide ((unhide R_oW1).later cw15)
  have R_oW2 := hide ((unhide R_oW2).later cw15)
  have R_oG1 := hide ((unhide R_oG1).later cw15)
  have R_oG2 := hide ((unhide R_oG2).later cw15)
  have R_oH1 := hide ((unhide R_oH1).later cw15)
  have R_oH2 := hide ((unhide R_oH2).later cw15)
  have BL := hide ((unhide BL).trans (cw15.mono (unhide BL).size))
  clear b15 cw15
  obtain ⟨a_0, a_1, a_2, -⟩ := blk_cells3 (unhide K_a).1
  have n_a := (unhide K_a).2
  obtain ⟨s_0, s_1, -⟩ := blk_cells2 (unhide K_s).1
  have n_s := (unhide K_s).2
  obtain ⟨x_0, x_1, x_2, -⟩ := blk_cells3 (unhide K_x).1
  have n_x := (unhide K_x).2
  obtain ⟨g_0, g_1, -⟩ := blk_cells2 (unhide K_g).1
  have n_g := (unhide K_g).2
  obtain ⟨h_0, h_1, -⟩ := blk_cells2 (unhide K_h).1
  have n_h := (unhide K_h).2
  go_wp2_with fail
  refine (heldS_any g1 n1 e1 g2 n2 e2 1 (by omega) (by omega) _ (by omega) (by omega) ((unhide R_oG1).rw encI_len) ((unhide R_oG2).rw encF_len)).mono ?_
  rintro e w16 ⟨rfl, b16⟩
  clear a_0 a_1 a_2 n_a g_0 g_1 n_g h_0 h_1 n_h s_0 s_1 n_s x_0 x_1 x_2 n_x
  have cw16 := b16
  have zw16 := cw16.size
  have K_a := hide (keptblk cw16 K_a)
  have K_s := hide (keptblk cw16 K_s)
  have K_x := hide (keptblk cw16 K_x)
  have K_g := hide (keptblk cw16 K_g)
  have K_h := hide (keptblk cw16 K_h)
  have R_x := hide ((unhide R_x).later cw16)
  have R_oW1 := hide ((unhide R_oW1).later cw16)
  have R_oW2 := hide ((unhide R_oW2).later cw16)
  have R_oG1 := hide ((unhide R_oG1).later cw16)
  have R_oG2 := hide ((unhide R_oG2).later cw16)
  have R_oH1 := hide ((unhide R_oH1).later cw16)
  have R_oH2 := hide ((unhide R_oH2).later cw16)
  have BL := hide ((unhide BL).trans (cw16.mono (unhide BL).size))
  clear b16 cw16
  obtain ⟨a_0, a_1, a_2, -⟩ := blk_cells3 (unhide K_a).1
  have n_a := (unhide K_a).2
  obtain ⟨s_0, s_1, -⟩ := blk_cells2 (unhide K_s).1
  have n_s := (unhide K_s).2
  obtain ⟨x_0, x_1, x_2, -⟩ := blk_cells3 (unhide K_x).1
  have n_x := (unhide K_x).2
  obtain ⟨g_0, g_1, -⟩ := blk_cells2 (unhide K_g).1
  have n_g := (unhide K_g).2
  obtain ⟨h_0, h_1, -⟩ := blk_cells2 (unhide K_h).1
  have n_h := (unhide K_h).2
  go_wp2
  go_ret
  exact ⟨rfl, unhide BL⟩

set_option maxHeartbeats 4000000 in
set_option maxRecDepth 100000 in
theorem lifted (os : Os) (started : os.Started) (H : Type) (enc : TypeId × Value → H) :
    ReturnsInHanded {} Tryz.checked os 3 .any (Rows.fnExactLogSinceSpec.pre6 enc Tryz.prog Tryz.f3 Rows.fnExactLogSinceRow.domain false) (Rows.fnExactLogSinceSpec.post enc Tryz.prog Tryz.f3 false true false false) := by
  refine returnsInHanded_of_change (C := Tryz.checked) own started (by kernel_rfl) Tryz.func3
    (ChangeSpec.witness6 (enc := enc) (C := Tryz.checked) false ⟨#[], #[.agg #[.int .i64 0, .int .i64 0, .slice none 0 0], .int .i64 0], []⟩ 8 (by kernel_rfl) (by kernel_rfl) (by kernel_rfl) (by kernel_rfl)) ?_
  intro W base args ds gs before hval0 hW hcnd _
  have hval : ∀ (j : Nat) t v, Tryz.f3.params[j]? = some t → args[j]? = some v → Value.okWide Tryz.prog W .any base t v := hval0
  have hW' := hW
  obtain ⟨p, q, hA0, hV, rfl, hfz, hnd⟩ := hW
  have hA : DataW.TrodAll enc Tryz.prog W 0 (fun _ => true) true Tryz.f3.params.toList args.toList ds p := hA0
  rw [Tryz.params3] at hA hval
  obtain ⟨v0, vs0, d0, ds0, p0, q0, hargs0, rfl, rfl, h0, r0⟩ := trodAll_cons hA
  obtain ⟨v1, vs1, d1, ds1, p1, q1, hargs1, rfl, rfl, h1, r1⟩ := trodAll_cons r0
  obtain ⟨rfl, rfl, rfl⟩ := trodAll_nil r1
  obtain rfl : args = #[v0, v1] := by cases args; simp_all
  obtain ⟨rfl, rfl⟩ := trodVars_none hV
  have k0 := h0
  have lt0 : ∀ x ∈ p0, x.block < W.heap.size := by obtain ⟨m, hm⟩ := k0; exact DataW.trod_lt m _ _ _ hm
  have k1 := h1
  have lt1 : ∀ x ∈ p1, x.block < W.heap.size := by obtain ⟨m, hm⟩ := k1; exact DataW.trod_lt m _ _ _ hm
  obtain ⟨lc, lf, la, ln, lcap, lss, rfl, lh1, lh2, lh3, lh4, lh5⟩ := open_log (hval 0 24 v0 rfl rfl) h0
  obtain ⟨seq, rfl, -, -, wseq⟩ := open_int Tryz.underlying3 (hval 1 3 v1 rfl rfl) h1
  clear hA0 hval0
  refine (walk W lc lf la ln lcap lss lh1 lh2 lh3 lh4 lh5 seq wseq).mono fun e W' ⟨he, bel⟩ => ?_
  subst he
  exact ⟨_, rfl, _, _, _, [], _, [], hW', trodAll_mk1 (shut_bool Tryz.underlying4 _), (trodAll_cons_mk (Below.trod laidOut (by kernel_rfl) (of_decide_eq_true (by kernel_rfl)) k0 bel lt0) (trodAll_cons_mk (Below.trod laidOut (by kernel_rfl) (of_decide_eq_true (by kernel_rfl)) k1 bel lt1) trodAll_mk0)), rfl, bel.frame _, fun h => by cases h⟩

theorem over : Rows.fnExactLogSinceRow.holds Tryz.pinned (OpenSpec.ofChange Rows.fnExactLogSinceSpec) :=
  OpenClaim.holds_of_wide 3 Tryz.f3 rfl rfl rfl rfl rfl rfl rfl ⟨rfl, rfl, rfl, rfl, rfl⟩ rfl rfl rfl rfl rfl (by kernel_rfl) Tryz.func3 (by kernel_rfl)
    (of_decide_eq_true (by kernel_rfl)) (by unfold Func.isWrapper; first | (rw [if_pos (by decide +kernel)]; kernel_rfl) | (rw [if_neg (by decide +kernel)]; exact ⟨rfl, rfl⟩))
    (fun os started H enc _ => lifted os started H enc)

theorem proved : Rows.FnExactLogSinceSaid := over
#print axioms proved
end Go.Proofs.YtdpaocikmijioafGreat.fnExactLogSince
namespace Go.Proofs.YtdpaocikmijioafGreat
theorem fnExactLogSince_holds : Rows.FnExactLogSinceSaid := fnExactLogSince.proved
end Go.Proofs.YtdpaocikmijioafGreat
