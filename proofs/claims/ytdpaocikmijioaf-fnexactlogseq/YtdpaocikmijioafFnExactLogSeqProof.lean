/-
  At every log LogSeq answers as the specification, field by field; it writes into no argument. No conditions but the statement’s own.
-/
import Derived.Test.YtdpaocikmijioafRows
import Derived.Test.YtdpaocikmijioafLgK
import Derived.Test.YtdpaocikmijioafLgZ
import Derived.WalkKit
import Derived.ProofKit
import Derived.OpenShut
import Derived.ShutString
import Derived.ChangeOld
import Derived.Below
import Derived.Carry
namespace Go.Proofs.Ytdpaocikmijioaf.fnExactLogSeq
open Go.ChangeShapes Go.WideShapes Go.ChangeAt Go.RowKit
open Go.ChangeMaps (open_string shut_string)

theorem own : ownKnob Try.prog.godebug = none := by kernel_rfl
theorem laidOut : laidOutB Try.prog = true := by kernel_rfl

set_option maxHeartbeats 8000000 in
set_option maxRecDepth 100000 in
theorem walk (w : World) (c f : Int) (a : Option Addr) (n cap : Nat) (ss : List Sta) (hn : n ≤ 9223372036854775807) (hx : RwS w (.slice a n cap) ss) (hbig : BigS ss) (_ : FitN c) (_ : FitN f) :
    Calls Try.prog 5 #[LgV c f (.slice a n cap)] w fun e w' => e = .returned (.bool true) ∧ Below w.heap.size w w' := by
  have R_x := hide hx
  have O_x := R_x
  clear hx
  obtain ⟨sv, hok⟩ : ∃ sv, lsq c f ss = sv := ⟨_, rfl⟩
  have HOK := hide hok
  clear hok
  go_enter Try.func5, Try.ntmps5
  go_wp2_with fail
  refine (szlog_any c f a n cap ss hbig 1048576 (by omega) (by omega) _ hn ((unhide R_x).alloc _)).mono ?_
  rintro e w1 ⟨h, b1⟩
  have cw1 := ((Below.refl w.heap.size w).alloc (Nat.le_refl _) _).trans (b1.mono (by simp <;> omega))
  have zw1 := cw1.size
  have K_a : Hid (w1.heap[w.heap.size]? = some (.cells #[.int .i64 c, .int .i64 f, .slice a n cap] 46 (0, 0)) ∧ w.heap.size < w1.heap.size) := hide ⟨(b1.block _ (by simp <;> omega)).trans (newB1 w _), by have := b1.size; simp at this; omega⟩
  have y_a := (unhide K_a).2
  have R_x := hide ((unhide R_x).later cw1)
  have BL := hide cw1
  clear b1 cw1
  obtain ⟨a_0, a_1, a_2, -⟩ := blk_cells3 (unhide K_a).1
  have n_a := (unhide K_a).2
  rcases h with rfl | ⟨r, rfl, hr1, hr2, hS⟩
  · go_wp2
    go_ret
    exact ⟨rfl, unhide BL⟩
  have hd : decide (r < 0) = false := by simp; omega
  have hn1 : n ≤ 1048576 := by omega
  have ht1 : tot ss ≤ 1048576 := by omega
  have HS := hide hS
  clear hS hn
  go_wp2_with fail
  refine (tolog_any c f a n cap ss _ hn1 ht1 (unhide R_x)).mono ?_
  rintro e w2 ⟨a1, c1, rfl, o1, b2⟩
  clear a_0 a_1 a_2 n_a
  have cw2 := b2
  have zw2 := cw2.size
  have K_a := hide (keptblk cw2 K_a)
  have R_x := hide ((unhide R_x).later cw2)
  have BL := hide ((unhide BL).trans (cw2.mono (unhide BL).size))
  have R_s1 := hide (o1)
  clear b2 cw2
  obtain ⟨a_0, a_1, a_2, -⟩ := blk_cells3 (unhide K_a).1
  have n_a := (unhide K_a).2
  clear o1
  go_wp2_with fail
  refine (slogseq_any c f a1 n c1 ss sv HOK _ (by omega) (by omega) (unhide R_s1).rw).mono ?_
  rintro e w3 ⟨rfl, b3⟩
  clear a_0 a_1 a_2 n_a
  have cw3 := b3
  have zw3 := cw3.size
  have K_a := hide (keptblk cw3 K_a)
  have R_x := hide ((unhide R_x).later cw3)
  clear R_s1
  have BL := hide ((unhide BL).trans (cw3.mono (unhide BL).size))
  clear b3 cw3
  obtain ⟨a_0, a_1, a_2, -⟩ := blk_cells3 (unhide K_a).1
  have n_a := (unhide K_a).2
  go_wp2_with fail
  refine (tolog_any c f a n cap ss _ hn1 ht1 (unhide R_x)).mono ?_
  rintro e w4 ⟨a2, c2, rfl, o1, b4⟩
  clear a_0 a_1 a_2 n_a
  have cw4 := b4
  have zw4 := cw4.size
  have K_a := hide (keptblk cw4 K_a)
  have R_x := hide ((unhide R_x).later cw4)
  have BL := hide ((unhide BL).trans (cw4.mono (unhide BL).size))
  have R_s2 := hide (o1)
  clear b4 cw4
  obtain ⟨a_0, a_1, a_2, -⟩ := blk_cells3 (unhide K_a).1
  have n_a := (unhide K_a).2
  clear o1
  go_wp2_with fail
  refine (ilogseq_any c f a2 n c2 ss sv HOK _ (by omega) (by omega) ((unhide R_s2).rw.alloc _)).mono ?_
  rintro e w5 ⟨rfl, b5⟩
  clear a_0 a_1 a_2 n_a
  have cw5 := ((Below.refl w4.heap.size w4).alloc (Nat.le_refl _) _).trans (b5.mono (by simp <;> omega))
  have zw5 := cw5.size
  have K_a := hide (keptblk cw5 K_a)
  have K_x : Hid (w5.heap[w4.heap.size]? = some (.cells #[.int .i64 c, .int .i64 f, .slice a2 n c2] 51 (0, 0)) ∧ w4.heap.size < w5.heap.size) := hide ⟨(b5.block _ (by simp <;> omega)).trans (newB1 w4 _), by have := b5.size; simp at this; omega⟩
  have y_x := (unhide K_x).2
  have R_x := hide ((unhide R_x).later cw5)
  have R_s2 := hide ((unhide R_s2).later cw5)
  have BL := hide ((unhide BL).trans (cw5.mono (unhide BL).size))
  clear b5 cw5
  obtain ⟨a_0, a_1, a_2, -⟩ := blk_cells3 (unhide K_a).1
  have n_a := (unhide K_a).2
  obtain ⟨x_0, x_1, x_2, -⟩ := blk_cells3 (unhide K_x).1
  have n_x := (unhide K_x).2
  have hne : (sv != sv) = false := by simp
  clear a_0 a_1 a_2 n_a x_0 x_1 x_2 n_x
  obtain ⟨x0, x1, x2, -⟩ := blk_cells3 (unhide K_x).1
  obtain ⟨y0, y1, y2, -⟩ := blk_cells3 (unhide K_a).1
  go_wp2_with fail
  clear x0 x1 x2 y0 y1 y2
  go_region_held3 (fun W => Below w5.heap.size w5 W ∧ W.cell? ⟨w4.heap.size, 0, none⟩ = some (.int .i64 c) ∧ W.cell? ⟨w4.heap.size, 1, none⟩ = some (.int .i64 f) ∧ W.cell? ⟨w4.heap.size, 2, none⟩ = some (.slice a2 n c2) ∧ W.cell? ⟨w.heap.size, 0, none⟩ = some (.int .i64 c) ∧ W.cell? ⟨w.heap.size, 1, none⟩ = some (.int .i64 f) ∧ W.cell? ⟨w.heap.size, 2, none⟩ = some (.slice a n cap))
    (first | (with_reducible exact keepL K_x K_a (Below.refl _ _)) | (with_reducible exact keepL K_x K_a ((Below.refl _ _).drew)) | (with_reducible exact keepL K_x K_a (by assumption)))
    (first
      | (go_at_call 21; refine (tolog_any _ _ _ _ _ ss _ hn1 ht1 ?_).mono ?_; exact (unhide R_x).later (kb1 (by assumption)); rintro e w6 ⟨ta, tc, rfl, o1, b6⟩; have O5 := hide o1.rw; clear o1; have b6k := kb2 (by assumption) b6; clear b6)
      | (go_at_call 23; refine (eqlog_same _ _ _ _ _ _ _ ss _ (by omega) (by omega) ?_ (unhide O5)).mono ?_; exact (unhide R_s2).rw.later (kb1 (by assumption)); rintro e w7 ⟨rfl, b7⟩; have b7k := kb2 (by assumption) b7; clear b7))
  have cw7 : Below w5.heap.size w5 w7 := b7k
  clear b6k b7k O5
  have K_a := hide (keptblk cw7 K_a)
  have K_x := hide (keptblk cw7 K_x)
  have R_x := hide ((unhide R_x).later cw7)
  have R_s2 := hide ((unhide R_s2).later cw7)
  have BL := hide ((unhide BL).trans (cw7.mono (unhide BL).size))
  clear cw7
  obtain ⟨a_0, a_1, a_2, -⟩ := blk_cells3 (unhide K_a).1
  have n_a := (unhide K_a).2
  obtain ⟨x_0, x_1, x_2, -⟩ := blk_cells3 (unhide K_x).1
  have n_x := (unhide K_x).2
  go_wp2
  go_ret
  exact ⟨rfl, unhide BL⟩

set_option maxHeartbeats 4000000 in
set_option maxRecDepth 100000 in
theorem lifted (os : Os) (started : os.Started) (H : Type) (enc : TypeId × Value → H) :
    ReturnsInHanded {} Try.checked os 5 .any (Rows.fnExactLogSeqSpec.pre6 enc Try.prog Try.f5 Rows.fnExactLogSeqRow.domain false) (Rows.fnExactLogSeqSpec.post enc Try.prog Try.f5 false true false false) := by
  refine returnsInHanded_of_change (C := Try.checked) own started (by kernel_rfl) Try.func5
    (ChangeSpec.witness6 (enc := enc) (C := Try.checked) false ⟨#[], #[.agg #[.int .i64 0, .int .i64 0, .slice none 0 0]], []⟩ 8 (by kernel_rfl) (by kernel_rfl) (by kernel_rfl) (by kernel_rfl)) ?_
  intro W base args ds gs before hval0 hW hcnd _
  have hval : ∀ (j : Nat) t v, Try.f5.params[j]? = some t → args[j]? = some v → Value.okWide Try.prog W .any base t v := hval0
  have hW' := hW
  obtain ⟨p, q, hA0, hV, rfl, hfz, hnd⟩ := hW
  have hA : DataW.TrodAll enc Try.prog W 0 (fun _ => true) true Try.f5.params.toList args.toList ds p := hA0
  rw [Try.params5] at hA hval
  obtain ⟨v0, vs0, d0, ds0, p0, q0, hargs0, rfl, rfl, h0, r0⟩ := trodAll_cons hA
  obtain ⟨rfl, rfl, rfl⟩ := trodAll_nil r0
  obtain rfl : args = #[v0] := by cases args; simp_all
  obtain ⟨rfl, rfl⟩ := trodVars_none hV
  have k0 := h0
  have lt0 : ∀ x ∈ p0, x.block < W.heap.size := by obtain ⟨m, hm⟩ := k0; exact DataW.trod_lt m _ _ _ hm
  obtain ⟨lc, lf, la, ln, lcap, lss, rfl, lh1, lh2, lh3, lh4, lh5⟩ := open_log (hval 0 46 v0 rfl rfl) h0
  clear hA0 hval0
  refine (walk W lc lf la ln lcap lss lh1 lh2 lh3 lh4 lh5).mono fun e W' ⟨he, bel⟩ => ?_
  subst he
  exact ⟨_, rfl, _, _, _, [], _, [], hW', trodAll_mk1 (shut_bool Try.underlying4 _), (trodAll_cons_mk (Below.trod laidOut (by kernel_rfl) (of_decide_eq_true (by kernel_rfl)) k0 bel lt0) trodAll_mk0), rfl, bel.frame _, fun h => by cases h⟩

theorem over : Rows.fnExactLogSeqRow.holds Try.pinned (OpenSpec.ofChange Rows.fnExactLogSeqSpec) :=
  OpenClaim.holds_of_wide 5 Try.f5 rfl rfl rfl rfl rfl rfl rfl ⟨rfl, rfl, rfl, rfl, rfl⟩ rfl rfl rfl rfl rfl (by kernel_rfl) Try.func5 (by kernel_rfl)
    (of_decide_eq_true (by kernel_rfl)) (by unfold Func.isWrapper; first | (rw [if_pos (by decide +kernel)]; kernel_rfl) | (rw [if_neg (by decide +kernel)]; exact ⟨rfl, rfl⟩))
    (fun os started H enc _ => lifted os started H enc)

theorem proved : Rows.FnExactLogSeqSaid := over
#print axioms proved
end Go.Proofs.Ytdpaocikmijioaf.fnExactLogSeq
namespace Go.Proofs.Ytdpaocikmijioaf
theorem fnExactLogSeq_holds : Rows.FnExactLogSeqSaid := fnExactLogSeq.proved
end Go.Proofs.Ytdpaocikmijioaf
