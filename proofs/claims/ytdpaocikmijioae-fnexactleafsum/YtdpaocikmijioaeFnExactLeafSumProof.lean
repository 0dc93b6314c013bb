/-
  At every state and every number the program’s LeafSum answers as the specification’s does, and writes into no argument.
-/
import Derived.Test.YtdpaocikmijioaeRows
import Derived.Test.YtdpaocikmijioaeStA
import Derived.Test.YtdpaocikmijioaeStT
import Derived.Test.YtdpaocikmijioaeStE
import Derived.Test.YtdpaocikmijioaeStO
import Derived.Test.YtdpaocikmijioaeSt3
import Derived.Test.YtdpaocikmijioaeTrS
import Derived.WalkKit
import Derived.ProofKit
import Derived.OpenShut
import Derived.ShutString
import Derived.ChangeOld
import Derived.Below
import Derived.Carry
namespace Go.Proofs.Ytdpaocikmijioae.fnExactLeafSum
open Go.ChangeShapes Go.WideShapes Go.ChangeAt Go.RowKit
open Go.ChangeMaps (open_string shut_string)

theorem own : ownKnob Try.prog.godebug = none := by kernel_rfl
theorem laidOut : laidOutB Try.prog = true := by kernel_rfl

set_option maxHeartbeats 4000000 in
set_option maxRecDepth 100000 in
theorem walk (w : World) (ai : Option Addr) (ni ci : Nat) (xs : List Itm) (af : Option Addr) (nf cf : Nat) (fs : List Flr) (hni : ni ≤ 9223372036854775807) (hnf : nf ≤ 9223372036854775807) (hx : Rw encI 6 w (.slice ai ni ci) xs) (hf : Rw encF 2 w (.slice af nf cf) fs) (hbig : Big xs) (_ : FitI xs) (_ : FitF fs) (id : Int) (_ : (Lit.int .i64 id).wf = true) :
    Calls Try.prog 7 #[.agg #[.slice ai ni ci, .slice af nf cf], .int .i64 id] w fun e w' => e = .returned (.bool true) ∧ Below w.heap.size w w' := by
  have R_x := hide hx
  have R_f := hide hf
  clear hx hf
  obtain ⟨fv, hok⟩ : ∃ fv, lsm xs fs id = fv := ⟨_, rfl⟩
  have HOK := hide hok
  clear hok
  go_enter Try.func7, Try.ntmps7
  go_wp2_with fail
  refine (szstate_any ai ni ci xs hbig af nf cf 1048576 (by omega) (by omega) _ hni hnf ((unhide R_x).alloc _)).mono ?_
  rintro e w1 ⟨h, b1⟩
  have cw1 := ((Below.refl w.heap.size w).alloc (Nat.le_refl _) _).trans (b1.mono (by simp <;> omega))
  have zw1 := cw1.size
  have K_a : Hid (w1.heap[w.heap.size]? = some (.cells #[.slice ai ni ci, .slice af nf cf] 25 (0, 0)) ∧ w.heap.size < w1.heap.size) := hide ⟨(b1.block _ (by simp <;> omega)).trans (newB1 w _), by have := b1.size; simp at this; omega⟩
  have y_a := (unhide K_a).2
  have R_x := hide ((unhide R_x).later cw1)
  have R_f := hide ((unhide R_f).later cw1)
  have BL := hide cw1
  clear b1 cw1
  obtain ⟨a_0, a_1, -⟩ := blk_cells2 (unhide K_a).1
  have n_a := (unhide K_a).2
  rcases h with rfl | ⟨r, rfl, hr1, hr2, hm1, hm2, hS⟩
  · go_wp2
    go_ret
    exact ⟨rfl, unhide BL⟩
  have hd : decide (r < 0) = false := by simp; omega
  have HS := hide hS
  clear hS
  go_wp2_with fail
  refine (tostate_any ai ni ci xs af nf cf fs _ hm1 hm2 (unhide R_x) (unhide R_f)).mono ?_
  rintro e w2 ⟨a1, c1, b1, d1, rfl, o1, o2, b2⟩
  clear a_0 a_1 n_a
  have cw2 := b2
  have zw2 := cw2.size
  have K_a := hide (keptblk cw2 K_a)
  have R_x := hide ((unhide R_x).later cw2)
  have R_f := hide ((unhide R_f).later cw2)
  have BL := hide ((unhide BL).trans (cw2.mono (unhide BL).size))
  have R_I1 := hide (o1.rw encI_len)
  have R_F1 := hide (o2.rw encF_len)
  clear b2 cw2
  obtain ⟨a_0, a_1, -⟩ := blk_cells2 (unhide K_a).1
  have n_a := (unhide K_a).2
  clear o1 o2
  go_wp2_with fail
  refine (sleafsum_any a1 ni c1 xs b1 nf d1 fs id fv HOK _ (by omega) (by omega) (unhide R_I1) (unhide R_F1)).mono ?_
  rintro e w3 ⟨rfl, b3⟩
  clear a_0 a_1 n_a
  have cw3 := b3
  have zw3 := cw3.size
  have K_a := hide (keptblk cw3 K_a)
  have R_x := hide ((unhide R_x).later cw3)
  have R_f := hide ((unhide R_f).later cw3)
  clear R_I1
  clear R_F1
  have BL := hide ((unhide BL).trans (cw3.mono (unhide BL).size))
  clear b3 cw3
  obtain ⟨a_0, a_1, -⟩ := blk_cells2 (unhide K_a).1
  have n_a := (unhide K_a).2
  go_wp2_with fail
  refine (tostate_any ai ni ci xs af nf cf fs _ hm1 hm2 (unhide R_x) (unhide R_f)).mono ?_
  rintro e w4 ⟨a2, c2, b2, d2, rfl, o1, o2, b4⟩
  clear a_0 a_1 n_a
  have cw4 := b4
  have zw4 := cw4.size
  have K_a := hide (keptblk cw4 K_a)
  have R_x := hide ((unhide R_x).later cw4)
  have R_f := hide ((unhide R_f).later cw4)
  have BL := hide ((unhide BL).trans (cw4.mono (unhide BL).size))
  have R_I2 := hide (o1.rw encI_len)
  have R_F2 := hide (o2.rw encF_len)
  clear b4 cw4
  obtain ⟨a_0, a_1, -⟩ := blk_cells2 (unhide K_a).1
  have n_a := (unhide K_a).2
  clear o1 o2
  go_wp2_with fail
  refine (ileafsum_any a2 ni c2 xs b2 nf d2 fs id fv HOK _ (by omega) (by omega) ((unhide R_I2).alloc _) ((unhide R_F2).alloc _)).mono ?_
  rintro e w5 ⟨rfl, b5⟩
  clear a_0 a_1 n_a
  have cw5 := ((Below.refl w4.heap.size w4).alloc (Nat.le_refl _) _).trans (b5.mono (by simp <;> omega))
  have zw5 := cw5.size
  have K_a := hide (keptblk cw5 K_a)
  have K_x : Hid (w5.heap[w4.heap.size]? = some (.cells #[.slice a2 ni c2, .slice b2 nf d2] 30 (0, 0)) ∧ w4.heap.size < w5.heap.size) := hide ⟨(b5.block _ (by simp <;> omega)).trans (newB1 w4 _), by have := b5.size; simp at this; omega⟩
  have y_x := (unhide K_x).2
  have R_x := hide ((unhide R_x).later cw5)
  have R_f := hide ((unhide R_f).later cw5)
  have R_I2 := hide ((unhide R_I2).later cw5)
  have R_F2 := hide ((unhide R_F2).later cw5)
  have BL := hide ((unhide BL).trans (cw5.mono (unhide BL).size))
  clear b5 cw5
  obtain ⟨a_0, a_1, -⟩ := blk_cells2 (unhide K_a).1
  have n_a := (unhide K_a).2
  obtain ⟨x_0, x_1, -⟩ := blk_cells2 (unhide K_x).1
  have n_x := (unhide K_x).2
  have hne : (fv != fv) = false := by simp
  clear a_0 a_1 n_a x_0 x_1 n_x
  obtain ⟨x0, x1, -⟩ := blk_cells2 (unhide K_x).1
  obtain ⟨y0, y1, -⟩ := blk_cells2 (unhide K_a).1
  have X0 := hide x0; have X1 := hide x1; have Y0 := hide y0; have Y1 := hide y1
  go_wp2_with fail
  clear x0 x1 y0 y1
  go_region_held3 (fun W => Below w5.heap.size w5 W ∧ W.cell? ⟨w4.heap.size, 0, none⟩ = some (.slice a2 ni c2) ∧ W.cell? ⟨w4.heap.size, 1, none⟩ = some (.slice b2 nf d2) ∧ W.cell? ⟨w.heap.size, 0, none⟩ = some (.slice ai ni ci) ∧ W.cell? ⟨w.heap.size, 1, none⟩ = some (.slice af nf cf))
    (first | (with_reducible exact keep4 (unhide K_x).2 (unhide K_x).2 (unhide K_a).2 (unhide K_a).2 (unhide X0) (unhide X1) (unhide Y0) (unhide Y1) (Below.refl _ _)) | (with_reducible exact keep4 (unhide K_x).2 (unhide K_x).2 (unhide K_a).2 (unhide K_a).2 (unhide X0) (unhide X1) (unhide Y0) (unhide Y1) ((Below.refl _ _).drew)) | (with_reducible exact keep4 (unhide K_x).2 (unhide K_x).2 (unhide K_a).2 (unhide K_a).2 (unhide X0) (unhide X1) (unhide Y0) (unhide Y1) (by assumption)))
    (first
      | (go_at_call 11; refine (tostate_any _ _ _ xs _ _ _ fs _ hm1 hm2 ?_ ?_).mono ?_; exact (unhide R_x).later (kb1 (by assumption)); exact (unhide R_f).later (kb1 (by assumption)); rintro e w6 ⟨ta, tb, tc, td, rfl, o1, o2, b6⟩; have O5 := hide (o1.rw encI_len); have O6 := hide (o2.rw encF_len); clear o1 o2; have b6k := kb2 (by assumption) b6; clear b6)
      | (go_at_call 13; refine (eqstate_same _ _ _ _ _ xs _ _ _ _ _ fs _ (by omega) (by omega) ?_ (unhide O5) ?_ (unhide O6)).mono ?_; exact (unhide R_I2).later (kb1 (by assumption)); exact (unhide R_F2).later (kb1 (by assumption)); rintro e w7 ⟨rfl, b7⟩; have b7k := kb2 (by assumption) b7; clear b7))
  have cw7 : Below w5.heap.size w5 w7 := b7k
  clear X0 X1 Y0 Y1 b6k b7k O5 O6
  have K_a := hide (keptblk cw7 K_a)
  have K_x := hide (keptblk cw7 K_x)
  have R_x := hide ((unhide R_x).later cw7)
  have R_f := hide ((unhide R_f).later cw7)
  have R_I2 := hide ((unhide R_I2).later cw7)
  have R_F2 := hide ((unhide R_F2).later cw7)
  have BL := hide ((unhide BL).trans (cw7.mono (unhide BL).size))
  clear cw7
  obtain ⟨a_0, a_1, -⟩ := blk_cells2 (unhide K_a).1
  have n_a := (unhide K_a).2
  obtain ⟨x_0, x_1, -⟩ := blk_cells2 (unhide K_x).1
  have n_x := (unhide K_x).2
  go_wp2
  go_ret
  exact ⟨rfl, unhide BL⟩

set_option maxHeartbeats 4000000 in
set_option maxRecDepth 100000 in
theorem lifted (os : Os) (started : os.Started) (H : Type) (enc : TypeId × Value → H) :
    ReturnsInHanded {} Try.checked os 7 .any (Rows.fnExactLeafSumSpec.pre6 enc Try.prog Try.f7 Rows.fnExactLeafSumRow.domain false) (Rows.fnExactLeafSumSpec.post enc Try.prog Try.f7 false true false false) := by
  refine returnsInHanded_of_change (C := Try.checked) own started (by kernel_rfl) Try.func7
    (ChangeSpec.witness6 (enc := enc) (C := Try.checked) false ⟨#[], #[.agg #[.slice none 0 0, .slice none 0 0], .int .i64 0], []⟩ 8 (by kernel_rfl) (by kernel_rfl) (by kernel_rfl) (by kernel_rfl)) ?_
  intro W base args ds gs before hval0 hW hcnd _
  have hval : ∀ (j : Nat) t v, Try.f7.params[j]? = some t → args[j]? = some v → Value.okWide Try.prog W .any base t v := hval0
  have hW' := hW
  obtain ⟨p, q, hA0, hV, rfl, hfz, hnd⟩ := hW
  have hA : DataW.TrodAll enc Try.prog W 0 (fun _ => true) true Try.f7.params.toList args.toList ds p := hA0
  rw [Try.params7] at hA hval
  obtain ⟨v0, vs0, d0, ds0, p0, q0, hargs0, rfl, rfl, h0, r0⟩ := trodAll_cons hA
  obtain ⟨v1, vs1, d1, ds1, p1, q1, hargs1, rfl, rfl, h1, r1⟩ := trodAll_cons r0
  obtain ⟨rfl, rfl, rfl⟩ := trodAll_nil r1
  obtain rfl : args = #[v0, v1] := by cases args; simp_all
  obtain ⟨rfl, rfl⟩ := trodVars_none hV
  have k0 := h0
  have lt0 : ∀ x ∈ p0, x.block < W.heap.size := by obtain ⟨m, hm⟩ := k0; exact DataW.trod_lt m _ _ _ hm
  have k1 := h1
  have lt1 : ∀ x ∈ p1, x.block < W.heap.size := by obtain ⟨m, hm⟩ := k1; exact DataW.trod_lt m _ _ _ hm
  obtain ⟨aai, ani, aci, axs, aaf, anf, acf, afs, rfl, ah1, ah2, ah3, ah4, ah5, ah6, ah7⟩ := open_state (hval 0 25 v0 rfl rfl) h0
  obtain ⟨id, rfl, -, -, wid⟩ := open_int Try.underlying3 (hval 1 3 v1 rfl rfl) h1
  clear hA0 hval0
  refine (walk W aai ani aci axs aaf anf acf afs ah1 ah2 ah3 ah4 ah5 ah6 ah7 id wid).mono fun e W' ⟨he, bel⟩ => ?_
  subst he
  exact ⟨_, rfl, _, _, _, [], _, [], hW', trodAll_mk1 (shut_bool Try.underlying4 _), (trodAll_cons_mk (Below.trod laidOut (by kernel_rfl) (of_decide_eq_true (by kernel_rfl)) k0 bel lt0) (trodAll_cons_mk (Below.trod laidOut (by kernel_rfl) (of_decide_eq_true (by kernel_rfl)) k1 bel lt1) trodAll_mk0)), rfl, bel.frame _, fun h => by cases h⟩

theorem over : Rows.fnExactLeafSumRow.holds Try.pinned (OpenSpec.ofChange Rows.fnExactLeafSumSpec) :=
  OpenClaim.holds_of_wide 7 Try.f7 rfl rfl rfl rfl rfl rfl rfl ⟨rfl, rfl, rfl, rfl, rfl⟩ rfl rfl rfl rfl rfl (by kernel_rfl) Try.func7 (by kernel_rfl)
    (of_decide_eq_true (by kernel_rfl)) (by unfold Func.isWrapper; first | (rw [if_pos (by decide +kernel)]; kernel_rfl) | (rw [if_neg (by decide +kernel)]; exact ⟨rfl, rfl⟩))
    (fun os started H enc _ => lifted os started H enc)

theorem proved : Rows.FnExactLeafSumSaid := over
#print axioms proved
end Go.Proofs.Ytdpaocikmijioae.fnExactLeafSum
namespace Go.Proofs.Ytdpaocikmijioae
theorem fnExactLeafSum_holds : Rows.FnExactLeafSumSaid := fnExactLeafSum.proved
end Go.Proofs.Ytdpaocikmijioae
