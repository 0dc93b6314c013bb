/-
  FnExactViewText: at every state ViewText answers as the specification; it writes into no argument: at every argument the law answers true, with no panic, and writes into nothing that was there; the table of powers is what the program lays (the tied card).
-/
import Derived.Test.YtdpaocikmijioadDoorRows
import Derived.Test.YtdpaocikmijioadDoorCards
import Derived.Test.YtdpaocikmijioadDoorTie
import Derived.Test.YtdpaocikmijioadDoorStA
import Derived.Test.YtdpaocikmijioadDoorStT
import Derived.Test.YtdpaocikmijioadDoorStE
import Derived.Test.YtdpaocikmijioadDoorStO
import Derived.Test.YtdpaocikmijioadDoorSt3
import Derived.Test.YtdpaocikmijioadDoorVwT
import Derived.Deep.DeepHandedRow
import Derived.Lib.LaidTab
import Derived.LaidMore
import Derived.LaidSub
import Derived.SevenTiedAt
import Derived.WalkKit
import Derived.ProofKit
import Derived.OpenShut
import Derived.ShutString
import Derived.ChangeOld
import Derived.Below
import Derived.Carry
namespace Go.Proofs.YtdpaocikmijioadDoor.fnExactViewText
open Go.ChangeShapes Go.WideShapes Go.ChangeAt Go.RowKit
open Go.ChangeMaps (open_string shut_string)

theorem own : ownKnob Tryd.prog.godebug = none := by kernel_rfl
theorem laidOut : laidOutB Tryd.prog = true := by kernel_rfl

set_option maxHeartbeats 4000000 in
set_option maxRecDepth 100000 in
theorem walk (w : World) (ai : Option Addr) (ni ci : Nat) (xs : List Itm) (af : Option Addr) (nf cf : Nat) (fs : List Flr) (hni : ni ≤ 9223372036854775807) (hnf : nf ≤ 9223372036854775807) (hx : Rw encI 6 w (.slice ai ni ci) xs) (hf : Rw encF 2 w (.slice af nf cf) fs) (hbig : Big xs) (_ : FitI xs) (_ : FitF fs) (hT : Lib.TabIs Tryd.prog w "internal/strconv.uint64pow10" .u64 Lib.pow10Tab) :
    Calls Tryd.prog 3 #[.agg #[.slice ai ni ci, .slice af nf cf]] w fun e w' => e = .returned (.bool true) ∧ Below w.heap.size w w' := by
  have R_x := hide hx
  have R_f := hide hf
  clear hx hf
  have HT := hide hT
  obtain ⟨t0, ht0⟩ : ∃ t0, tx ((vw xs fs).map wI ++ ([] : List Flr).map wF) = t0 := ⟨_, rfl⟩
  have HT0 := hide ht0
  clear hT ht0
  have hq : (t0.toList == t0.toList) = true := by simp
  go_enter Tryd.func3, Tryd.ntmps3
  go_wp2_with fail
  refine (szstate_any ai ni ci xs hbig af nf cf 1048576 (by omega) (by omega) _ hni hnf ((unhide R_x).alloc _)).mono ?_
  rintro e w1 ⟨h, b1⟩
  have cw1 := ((Below.refl w.heap.size w).alloc (Nat.le_refl _) _).trans (b1.mono (by simp <;> omega))
  have zw1 := cw1.size
  have K_a : Hid (w1.heap[w.heap.size]? = some (.cells #[.slice ai ni ci, .slice af nf cf] 25 (0, 0)) ∧ w.heap.size < w1.heap.size) := hide ⟨(b1.block _ (by simp <;> omega)).trans (newB1 w _), by have := b1.size; simp at this; omega⟩
  have y_a := (unhide K_a).2
  have R_x := hide ((unhide R_x).later cw1)
  have R_f := hide ((unhide R_f).later cw1)
  have BL := hide cw1
  clear b1 cw1
  obtain ⟨a_0, a_1, -⟩ := blk_cells2 (unhide K_a).1
  have n_a := (unhide K_a).2
  rcases h with rfl | ⟨r, rfl, hr1, hr2, hm1, hm2, hS⟩
  · go_wp2
    go_ret
    exact ⟨rfl, unhide BL⟩
  have hd : decide (r < 0) = false := by simp; omega
  have HS := hide hS
  clear hS
  go_wp2_with fail
  refine (tostate_any ai ni ci xs af nf cf fs _ hm1 hm2 (unhide R_x) (unhide R_f)).mono ?_
  rintro e w2 ⟨a1, c1, b1, d1, rfl, o1, o2, b2⟩
  clear a_0 a_1 n_a
  have cw2 := b2
  have zw2 := cw2.size
  have K_a := hide (keptblk cw2 K_a)
  have R_x := hide ((unhide R_x).later cw2)
  have R_f := hide ((unhide R_f).later cw2)
  have BL := hide ((unhide BL).trans (cw2.mono (unhide BL).size))
  have R_I1 := hide (o1.rw encI_len)
  have R_F1 := hide (o2.rw encF_len)
  clear b2 cw2
  obtain ⟨a_0, a_1, -⟩ := blk_cells2 (unhide K_a).1
  have n_a := (unhide K_a).2
  clear o1 o2
  go_wp2_with fail
  refine (svt_v a1 ni c1 xs b1 nf d1 fs t0 HT0 _ (by omega) (by omega) (unhide R_I1) (unhide R_F1)).mono ?_
  rintro e w3 ⟨rfl, b3⟩
  clear a_0 a_1 n_a
  have cw3 := b3
  have zw3 := cw3.size
  have K_a := hide (keptblk cw3 K_a)
  have R_x := hide ((unhide R_x).later cw3)
  have R_f := hide ((unhide R_f).later cw3)
  clear R_I1
  clear R_F1
  have BL := hide ((unhide BL).trans (cw3.mono (unhide BL).size))
  clear b3 cw3
  obtain ⟨a_0, a_1, -⟩ := blk_cells2 (unhide K_a).1
  have n_a := (unhide K_a).2
  go_wp2_with fail
  refine (tostate_any ai ni ci xs af nf cf fs _ hm1 hm2 (unhide R_x) (unhide R_f)).mono ?_
  rintro e w4 ⟨a2, c2, b2, d2, rfl, o1, o2, b4⟩
  clear a_0 a_1 n_a
  have cw4 := b4
  have zw4 := cw4.size
  have K_a := hide (keptblk cw4 K_a)
  have R_x := hide ((unhide R_x).later cw4)
  have R_f := hide ((unhide R_f).later cw4)
  have BL := hide ((unhide BL).trans (cw4.mono (unhide BL).size))
  have R_I2 := hide (o1.rw encI_len)
  have R_F2 := hide (o2.rw encF_len)
  clear b4 cw4
  obtain ⟨a_0, a_1, -⟩ := blk_cells2 (unhide K_a).1
  have n_a := (unhide K_a).2
  clear o1 o2
  go_wp2_with fail
  refine (ivt_v a2 ni c2 xs b2 nf d2 fs t0 HT0 _ (tab_later (unhide HT) ((unhide BL).alloc (unhide BL).size _) (tab_lt (unhide HT))) (by omega) (by omega) ((unhide R_I2).alloc _) ((unhide R_F2).alloc _)).mono ?_
  rintro e w5 ⟨rfl, b5⟩
  clear a_0 a_1 n_a
  have cw5 := ((Below.refl w4.heap.size w4).alloc (Nat.le_refl _) _).trans (b5.mono (by simp <;> omega))
  have zw5 := cw5.size
  have K_a := hide (keptblk cw5 K_a)
  have K_x : Hid (w5.heap[w4.heap.size]? = some (.cells #[.slice a2 ni c2, .slice b2 nf d2] 31 (0, 0)) ∧ w4.heap.size < w5.heap.size) := hide ⟨(b5.block _ (by simp <;> omega)).trans (newB1 w4 _), by have := b5.size; simp at this; omega⟩
  have y_x := (unhide K_x).2
  have R_x := hide ((unhide R_x).later cw5)
  have R_f := hide ((unhide R_f).later cw5)
  have R_I2 := hide ((unhide R_I2).later cw5)
  have R_F2 := hide ((unhide R_F2).later cw5)
  have BL := hide ((unhide BL).trans (cw5.mono (unhide BL).size))
  clear b5 cw5
  obtain ⟨a_0, a_1, -⟩ := blk_cells2 (unhide K_a).1
  have n_a := (unhide K_a).2
  obtain ⟨x_0, x_1, -⟩ := blk_cells2 (unhide K_x).1
  have n_x := (unhide K_x).2
  clear a_0 a_1 n_a x_0 x_1 n_x
  obtain ⟨x0, x1, -⟩ := blk_cells2 (unhide K_x).1
  obtain ⟨y0, y1, -⟩ := blk_cells2 (unhide K_a).1
  have X0 := hide x0; have X1 := hide x1; have Y0 := hide y0; have Y1 := hide y1
  go_wp2_with fail
  clear x0 x1 y0 y1
  go_region_held3 (fun W => Below w5.heap.size w5 W ∧ W.cell? ⟨w4.heap.size, 0, none⟩ = some (.slice a2 ni c2) ∧ W.cell? ⟨w4.heap.size, 1, none⟩ = some (.slice b2 nf d2) ∧ W.cell? ⟨w.heap.size, 0, none⟩ = some (.slice ai ni ci) ∧ W.cell? ⟨w.heap.size, 1, none⟩ = some (.slice af nf cf))
    (first | (with_reducible exact keep4 (unhide K_x).2 (unhide K_x).2 (unhide K_a).2 (unhide K_a).2 (unhide X0) (unhide X1) (unhide Y0) (unhide Y1) (Below.refl _ _)) | (with_reducible exact keep4 (unhide K_x).2 (unhide K_x).2 (unhide K_a).2 (unhide K_a).2 (unhide X0) (unhide X1) (unhide Y0) (unhide Y1) ((Below.refl _ _).drew)) | (with_reducible exact keep4 (unhide K_x).2 (unhide K_x).2 (unhide K_a).2 (unhide K_a).2 (unhide X0) (unhide X1) (unhide Y0) (unhide Y1) (by assumption)))
    (first
      | (go_at_call 6; refine (tostate_any _ _ _ xs _ _ _ fs _ hm1 hm2 ?_ ?_).mono ?_; exact (unhide R_x).later (kb1 (by assumption)); exact (unhide R_f).later (kb1 (by assumption)); rintro e w6 ⟨ta, tb, tc, td, rfl, o1, o2, b6⟩; have O5 := hide (o1.rw encI_len); have O6 := hide (o2.rw encF_len); clear o1 o2; have b6k := kb2 (by assumption) b6; clear b6)
      | (go_at_call 8; refine (eqstate_same _ _ _ _ _ xs _ _ _ _ _ fs _ (by omega) (by omega) ?_ (unhide O5) ?_ (unhide O6)).mono ?_; exact (unhide R_I2).later (kb1 (by assumption)); exact (unhide R_F2).later (kb1 (by assumption)); rintro e w7 ⟨rfl, b7⟩; have b7k := kb2 (by assumption) b7; clear b7))
  have cw7 : Below w5.heap.size w5 w7 := b7k
  clear X0 X1 Y0 Y1 b6k b7k O5 O6
  have K_a := hide (keptblk cw7 K_a)
  have K_x := hide (keptblk cw7 K_x)
  have R_x := hide ((unhide R_x).later cw7)
  have R_f := hide ((unhide R_f).later cw7)
  have R_I2 := hide ((unhide R_I2).later cw7)
  have R_F2 := hide ((unhide R_F2).later cw7)
  have BL := hide ((unhide BL).trans (cw7.mono (unhide BL).size))
  clear cw7
  obtain ⟨a_0, a_1, -⟩ := blk_cells2 (unhide K_a).1
  have n_a := (unhide K_a).2
  obtain ⟨x_0, x_1, -⟩ := blk_cells2 (unhide K_x).1
  have n_x := (unhide K_x).2
  go_wp2
  go_ret
  exact ⟨rfl, unhide BL⟩

theorem gTabType : (Tryd.prog.globals[1]?).map (·.type) = some 105 := by kernel_rfl
theorem cellsTab : Tryd.prog.cellsOf 105 = 20 := by kernel_rfl
theorem cellsU64 : Tryd.prog.cellsOf 98 = 1 := by kernel_rfl
/-- What the row's list gives: the table's cells hold the powers of ten. -/
theorem table {W : World} (h : laidMetH Tryd.prog Rows.fnExactViewTextRow.laid W) : Lib.TabIs Tryd.prog W "internal/strconv.uint64pow10" .u64 Lib.pow10Tab := by
  have h2 := h.filter (fun x => x.1 == "internal/strconv.uint64pow10")
  have e : (Rows.fnExactViewTextRow.laid.filter (fun x => x.1 == "internal/strconv.uint64pow10")) = [("internal/strconv.uint64pow10", Rows.laid_internal_strconv_uint64pow10)] := by kernel_rfl
  rw [e] at h2
  exact Lib.tabIs_of_head (rest := []) gPow gTabType Tryd.underlying105 Tryd.underlying98 cellsU64 cellsTab h2

set_option maxRecDepth 100000 in
theorem contract (H : Type) (enc : TypeId × Value → H) (W : World) (base : Nat) (args : Array Value) (ds gs : List (DataW H)) (before : List MemPlace)
    (hval0 : ∀ (j : Nat) t v, Tryd.f3.params[j]? = some t → args[j]? = some v → Value.okWide Tryd.prog W .any base t v)
    (hW : DataW.Whole enc Tryd.prog Tryd.f3.params.toList Rows.fnExactViewTextSpec.vars false W args.toList ds gs before) (hL : laidMetH Tryd.prog Rows.fnExactViewTextRow.laid W) :
    Calls Tryd.prog 3 args W fun e W' => ∃ v, e = .returned v ∧ Rows.fnExactViewTextSpec.post enc Tryd.prog Tryd.f3 false true false false W args v W' := by
  have hval : ∀ (j : Nat) t v, Tryd.f3.params[j]? = some t → args[j]? = some v → Value.okWide Tryd.prog W .any base t v := hval0
  have hW' := hW
  obtain ⟨p, q, hA0, hV, rfl, hfz, hnd⟩ := hW
  have hA : DataW.TrodAll enc Tryd.prog W 0 (fun _ => true) true Tryd.f3.params.toList args.toList ds p := hA0
  rw [Tryd.params3] at hA hval
  obtain ⟨v0, vs0, d0, ds0, p0, q0, hargs0, rfl, rfl, h0, r0⟩ := trodAll_cons hA
  obtain ⟨rfl, rfl, rfl⟩ := trodAll_nil r0
  obtain rfl : args = #[v0] := by cases args; simp_all
  obtain ⟨rfl, rfl⟩ := trodVars_none hV
  have k0 := h0
  have lt0 : ∀ x ∈ p0, x.block < W.heap.size := by obtain ⟨m, hm⟩ := k0; exact DataW.trod_lt m _ _ _ hm
  obtain ⟨xai, xni, xci, xxs, xaf, xnf, xcf, xfs, rfl, xh1, xh2, xh3, xh4, xh5, xh6, xh7⟩ := open_state (hval 0 25 v0 rfl rfl) h0
  clear hA0 hval0
  refine (walk W xai xni xci xxs xaf xnf xcf xfs xh1 xh2 xh3 xh4 xh5 xh6 xh7 (table hL)).mono fun e W' ⟨he, bel⟩ => ?_
  subst he
  exact ⟨_, rfl, _, _, _, [], _, [], hW', trodAll_mk1 (shut_bool Tryd.underlying4 _), (trodAll_cons_mk (Below.trod laidOut (by kernel_rfl) (of_decide_eq_true (by kernel_rfl)) k0 bel lt0) trodAll_mk0), rfl, bel.frame _, fun h => by cases h⟩

theorem laid_met (os : Os) : laidMetH Tryd.prog Rows.fnExactViewTextRow.laid ((World.doorLaid Tryd.prog 4000 os).forCall (fun _ _ => 0) ⟨#[], #[.agg #[.slice none 0 0, .slice none 0 0]], []⟩).memory :=
  laidMetH_of_parts3 (fuel := 8) (laidMet_of_run' 8 (by kernel_rfl) (by kernel_rfl)) (by kernel_rfl) (by kernel_rfl)
theorem reads (os : Os) {H : Type} (enc : TypeId × Value → H) : ∃ places, DataW.whole enc Tryd.prog ((World.doorLaid Tryd.prog 4000 os).forCall (fun _ _ => 0) ⟨#[], #[.agg #[.slice none 0 0, .slice none 0 0]], []⟩).memory Tryd.f3.params.toList Rows.fnExactViewTextSpec.vars false (#[.agg #[.slice none 0 0, .slice none 0 0]] : Array Value).toList 8 = some ([.agg [.nil, .nil]], [], places) :=
  ⟨[], by kernel_rfl⟩

set_option maxRecDepth 100000 in
theorem lifted (os : Os) (started : os.Started) (H : Type) (enc : TypeId × Value → H) (F : Stop.Interp) :
    ReturnsInHanded {} Tryd.checked os 3 .any ((OpenSpec.ofChange Rows.fnExactViewTextSpec).preRow enc Tryd.prog Tryd.f3 Rows.fnExactViewTextRow.domain false Rows.fnExactViewTextRow.laid) (((OpenSpec.ofChange Rows.fnExactViewTextSpec).at F).post enc Tryd.prog Tryd.f3 false true false false) := by
  obtain ⟨places, hx⟩ := reads os enc
  refine returnsInHanded_of_row (C := Tryd.checked) (s := OpenSpec.ofChange Rows.fnExactViewTextSpec) own started (by kernel_rfl) Tryd.func3
    (witness_row_at (enc := enc) (C := Tryd.checked) false (World.doorLaid Tryd.prog 4000 os) #[.agg #[.slice none 0 0, .slice none 0 0]] rfl (by kernel_rfl) (by kernel_rfl) (by kernel_rfl)
      (OpenSpec.preRow_of_cond 8 hx (by kernel_rfl) (fun k hk => by cases hk) (by kernel_rfl) (laid_met os))) ?_
  intro W base args ds gs before hval hW _ _ _ hL _ _
  exact contract H enc W base args ds gs before hval hW hL

theorem said : Rows.FnExactViewTextSaid :=
  OpenClaim.holds_of_cond 3 Tryd.f3 rfl rfl rfl rfl rfl rfl rfl ⟨rfl, rfl, rfl, rfl, rfl⟩ rfl rfl rfl rfl rfl (by kernel_rfl) Tryd.func3 (by kernel_rfl)
    (of_decide_eq_true (by kernel_rfl)) (by unfold Func.isWrapper; first | (rw [if_pos (by decide +kernel)]; kernel_rfl) | (rw [if_neg (by decide +kernel)]; exact ⟨rfl, rfl⟩))
    (fun os started H enc _ F => by rw [OpenClaim.pre_eq_preRow]; exact lifted os started H enc F)

theorem plain (f : FuncId) (fn : Func) (hf : Tryd.pinned.checked.prog.funcNamed "loop.example/g00487/laws.FnExactViewText" = some f) (hfn : Tryd.pinned.checked.prog.funcs[f]? = some fn) :
    false = Tryd.pinned.checked.prog.looks [] ∧ ∀ (j : Nat) t, fn.params[j]? = some t → Tryd.pinned.checked.prog.wantsStandIn t = false := by
  obtain rfl : f = 3 := Option.some.inj ((show Tryd.prog.funcNamed "loop.example/g00487/laws.FnExactViewText" = some 3 by kernel_rfl).symm.trans hf) |>.symm
  obtain rfl : fn = Tryd.f3 := (Option.some.inj (Tryd.func3.symm.trans hfn)).symm
  refine ⟨by kernel_rfl, fun j t ht => ?_⟩
  rw [Tryd.params3] at ht
  have hm : t ∈ [25] := by simpa using Array.mem_of_getElem? ht
  have hall : ([25].all fun u => !Tryd.prog.wantsStandIn u) = true := by kernel_rfl
  exact (show Tryd.prog.wantsStandIn t = false by simpa using List.all_eq_true.1 hall t hm)

theorem card : Rows.FnExactViewTextCardSaid :=
  Claim7.holds_tied_plain_at .later [] _ _ _ _ said (fun _ h => by cases h) (by kernel_rfl) (fun _ h => by cases h) fnExactViewText_row_tie rfl ⟨rfl, rfl⟩ (by kernel_rfl) rfl plain (by kernel_rfl)
#print axioms card
end Go.Proofs.YtdpaocikmijioadDoor.fnExactViewText
namespace Go.Proofs.YtdpaocikmijioadDoor
theorem fnExactViewText_holds : Rows.FnExactViewTextCardSaid := fnExactViewText.card
end Go.Proofs.YtdpaocikmijioadDoor
