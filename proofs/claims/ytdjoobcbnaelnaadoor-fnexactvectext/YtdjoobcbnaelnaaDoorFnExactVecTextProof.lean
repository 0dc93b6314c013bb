/-
  At every argument VecText answers as its model: for every list of numbers, where the library's table of powers reads as the program's text lays it. No conditions but the statement's own.
-/
import Derived.Test.YtdjoobcbnaelnaaDoorRows
import Derived.Test.YtdjoobcbnaelnaaDoorCards
import Derived.Test.YtdjoobcbnaelnaaDoorTie
import Derived.Test.YtdjoobcbnaelnaaDoorVtS
import Derived.Test.YtdjoobcbnaelnaaDoorVtI
import Derived.Test.YtdjoobcbnaelnaaDoorIntO
import Derived.Deep.DeepHandedRow
import Derived.Lib.LaidTab
import Derived.LaidMore
import Derived.LaidSub
import Derived.SevenTiedAt
import Derived.WalkKit
import Derived.ProofKit
import Derived.OpenShut
import Derived.ShutString
import Derived.ChangeOld
import Derived.Below
import Derived.Carry
namespace Go.Proofs.YtdjoobcbnaelnaaDoor.fnExactVecText
open Go.ChangeShapes Go.WideShapes Go.ChangeAt Go.RowKit
open Go.ChangeMaps (open_string shut_string)

theorem own : ownKnob Tryd.prog.godebug = none := by kernel_rfl
theorem laidOut : laidOutB Tryd.prog = true := by kernel_rfl

theorem Calls.still {P : Program} {f : FuncId} {args : Array Value} {w : World} {v : Value} (h : Calls P f args w fun e w' => e = .returned v ∧ w = w') : Calls P f args w fun e w' => e = .returned v ∧ Below w.heap.size w w' := by
  refine h.mono ?_
  rintro e _ ⟨rfl, rfl⟩
  exact ⟨rfl, Below.refl _ _⟩
set_option maxHeartbeats 4000000 in
set_option maxRecDepth 100000 in
theorem walk (w : World) (va : Option Addr) (vn vc : Nat) (vs : List Int) (vh1 : vn ≤ 9223372036854775807) (vh2 : RwN w (.slice va vn vc) vs) (vh3 : FitNs vs) (hT : Lib.TabIs Tryd.prog w "internal/strconv.uint64pow10" .u64 Lib.pow10Tab) :
    Calls Tryd.prog 3 #[.slice va vn vc] w fun e w' => e = .returned (.bool true) ∧ Below w.heap.size w w' := by
  have HT := hide hT
  have HF := hide vh3
  clear hT vh3
  obtain ⟨t, ht⟩ : ∃ t, Hid (vtx vs = t) := ⟨_, hide rfl⟩
  have hq : (t.toList == t.toList) = true := by simp
  have R_v := hide vh2
  have O_v := R_v
  clear vh2
  by_cases hbv : 1048576 < vn
  · have hdv : decide (1048576 < (vn : Int)) = true := by simp; omega
    go_enter Tryd.func3, Tryd.ntmps3
    go_wp2
    go_ret
    exact ⟨rfl, Below.refl _ _⟩
  have hdv : decide (1048576 < (vn : Int)) = false := by simp; omega
  go_enter Tryd.func3, Tryd.ntmps3
  go_wp2_with fail
  refine (toints_v va vn vc vs _ (by omega) (unhide R_v)).mono ?_
  rintro e w1 ⟨Pa, Pc, rfl, o1, b1⟩
  have cw1 := b1
  have zw1 := cw1.size
  have R_v := hide ((unhide R_v).later cw1)
  have BL := hide cw1
  have R_oP := hide (o1)
  have L_oP := hide (World.ownsRow.lt (unhide R_oP))
  clear b1 cw1
  clear o1
  go_wp2_with fail
  refine (svectext_any Pa vn Pc vs t ht (unhide HF) _ (by omega) ((unhide R_oP).rw encN_len)).mono ?_
  rintro e w2 ⟨rfl, b2⟩
  have cw2 := b2
  have zw2 := cw2.size
  have R_v := hide ((unhide R_v).later cw2)
  clear R_oP
  have BL := hide ((unhide BL).trans (cw2.mono (unhide BL).size))
  clear b2 cw2
  go_wp2_with fail
  refine (toints_v va vn vc vs _ (by omega) (unhide R_v)).mono ?_
  rintro e w3 ⟨Xa, Xc, rfl, o1, b3⟩
  have cw3 := b3
  have zw3 := cw3.size
  have R_v := hide ((unhide R_v).later cw3)
  have BL := hide ((unhide BL).trans (cw3.mono (unhide BL).size))
  have R_oX := hide (o1)
  have L_oX := hide (World.ownsRow.lt (unhide R_oX))
  clear b3 cw3
  clear o1
  go_wp2_with fail
  refine (ivectext_any Xa vn Xc vs t ht (unhide HF) _ (tab_later (unhide HT) (unhide BL) (tab_lt (unhide HT))) (by omega) ((unhide R_oX).rw encN_len)).mono ?_
  rintro e w4 ⟨rfl, b4⟩
  have cw4 := b4
  have zw4 := cw4.size
  have R_v := hide ((unhide R_v).later cw4)
  have R_oX := hide ((unhide R_oX).later cw4)
  have BL := hide ((unhide BL).trans (cw4.mono (unhide BL).size))
  clear b4 cw4
  go_wp2_with fail
  refine (toints_v va vn vc vs _ (by omega) (unhide R_v)).mono ?_
  rintro e w5 ⟨Ya, Yc, rfl, o1, b5⟩
  have cw5 := b5
  have zw5 := cw5.size
  have R_v := hide ((unhide R_v).later cw5)
  have R_oX := hide ((unhide R_oX).later cw5)
  have BL := hide ((unhide BL).trans (cw5.mono (unhide BL).size))
  have R_oY := hide (o1)
  have L_oY := hide (World.ownsRow.lt (unhide R_oY))
  clear b5 cw5
  clear o1
  go_wp2_with fail
  refine (eqints_v Xa Ya vn Xc Yc vs _ (by omega) ((unhide R_oX).rw encN_len) ((unhide R_oY).rw encN_len)).mono ?_
  rintro e w6 ⟨rfl, b6⟩
  have cw6 := b6
  have zw6 := cw6.size
  have R_v := hide ((unhide R_v).later cw6)
  have R_oX := hide ((unhide R_oX).later cw6)
  clear R_oY
  have BL := hide ((unhide BL).trans (cw6.mono (unhide BL).size))
  clear b6 cw6
  go_wp2
  go_ret
  exact ⟨rfl, unhide BL⟩

theorem gTabType : (Tryd.prog.globals[1]?).map (·.type) = some 53 := by kernel_rfl
theorem cellsTab : Tryd.prog.cellsOf 53 = 20 := by kernel_rfl
theorem cellsU64 : Tryd.prog.cellsOf 46 = 1 := by kernel_rfl
/-- What the row's list gives: the table's cells hold the powers of ten. -/
theorem table {W : World} (h : laidMetH Tryd.prog Rows.fnExactVecTextRow.laid W) : Lib.TabIs Tryd.prog W "internal/strconv.uint64pow10" .u64 Lib.pow10Tab := by
  have h2 := h.filter (fun x => x.1 == "internal/strconv.uint64pow10")
  have e : (Rows.fnExactVecTextRow.laid.filter (fun x => x.1 == "internal/strconv.uint64pow10")) = [("internal/strconv.uint64pow10", Rows.laid_internal_strconv_uint64pow10)] := by kernel_rfl
  rw [e] at h2
  exact Lib.tabIs_of_head (rest := []) gPow gTabType Tryd.underlying53 Tryd.underlying46 cellsU64 cellsTab h2

set_option maxRecDepth 100000 in
theorem contract (H : Type) (enc : TypeId × Value → H) (W : World) (base : Nat) (args : Array Value) (ds gs : List (DataW H)) (before : List MemPlace)
    (hval0 : ∀ (j : Nat) t v, Tryd.f3.params[j]? = some t → args[j]? = some v → Value.okWide Tryd.prog W .any base t v)
    (hW : DataW.Whole enc Tryd.prog Tryd.f3.params.toList Rows.fnExactVecTextSpec.vars false W args.toList ds gs before) (hL : laidMetH Tryd.prog Rows.fnExactVecTextRow.laid W) :
    Calls Tryd.prog 3 args W fun e W' => ∃ v, e = .returned v ∧ Rows.fnExactVecTextSpec.post enc Tryd.prog Tryd.f3 false true false false W args v W' := by
  have hval : ∀ (j : Nat) t v, Tryd.f3.params[j]? = some t → args[j]? = some v → Value.okWide Tryd.prog W .any base t v := hval0
  have hW' := hW
  obtain ⟨p, q, hA0, hV, rfl, hfz, hnd⟩ := hW
  have hA : DataW.TrodAll enc Tryd.prog W 0 (fun _ => true) true Tryd.f3.params.toList args.toList ds p := hA0
  rw [Tryd.params3] at hA hval
  obtain ⟨v0, vs0, d0, ds0, p0, q0, hargs0, rfl, rfl, h0, r0⟩ := trodAll_cons hA
  obtain ⟨rfl, rfl, rfl⟩ := trodAll_nil r0
  obtain rfl : args = #[v0] := by cases args; simp_all
  obtain ⟨rfl, rfl⟩ := trodVars_none hV
  have k0 := h0
  have lt0 : ∀ x ∈ p0, x.block < W.heap.size := by obtain ⟨m, hm⟩ := k0; exact DataW.trod_lt m _ _ _ hm
  obtain ⟨va, vn, vc, vs, rfl, vh1, vh2, vh3⟩ := open_numrow (hval 0 22 v0 rfl rfl) h0
  clear hA0 hval0
  refine (walk W va vn vc vs vh1 vh2 vh3 (table hL)).mono fun e W' ⟨he, bel⟩ => ?_
  subst he
  exact ⟨_, rfl, _, _, _, [], _, [], hW', trodAll_mk1 (shut_bool Tryd.underlying4 _), (trodAll_cons_mk (Below.trod laidOut (by kernel_rfl) (of_decide_eq_true (by kernel_rfl)) k0 bel lt0) trodAll_mk0), rfl, bel.frame _, fun h => by cases h⟩

theorem laid_met (os : Os) : laidMetH Tryd.prog Rows.fnExactVecTextRow.laid ((World.doorLaid Tryd.prog 4000 os).forCall (fun _ _ => 0) ⟨#[], #[.slice none 0 0], []⟩).memory :=
  laidMetH_of_parts3 (fuel := 8) (laidMet_of_run' 8 (by kernel_rfl) (by kernel_rfl)) (by kernel_rfl) (by kernel_rfl)
theorem reads (os : Os) {H : Type} (enc : TypeId × Value → H) : ∃ places, DataW.whole enc Tryd.prog ((World.doorLaid Tryd.prog 4000 os).forCall (fun _ _ => 0) ⟨#[], #[.slice none 0 0], []⟩).memory Tryd.f3.params.toList Rows.fnExactVecTextSpec.vars false (#[.slice none 0 0] : Array Value).toList 8 = some ([.nil], [], places) :=
  ⟨[], by kernel_rfl⟩

set_option maxRecDepth 100000 in
theorem lifted (os : Os) (started : os.Started) (H : Type) (enc : TypeId × Value → H) (F : Stop.Interp) :
    ReturnsInHanded {} Tryd.checked os 3 .any ((OpenSpec.ofChange Rows.fnExactVecTextSpec).preRow enc Tryd.prog Tryd.f3 Rows.fnExactVecTextRow.domain false Rows.fnExactVecTextRow.laid) (((OpenSpec.ofChange Rows.fnExactVecTextSpec).at F).post enc Tryd.prog Tryd.f3 false true false false) := by
  obtain ⟨places, hx⟩ := reads os enc
  refine returnsInHanded_of_row (C := Tryd.checked) (s := OpenSpec.ofChange Rows.fnExactVecTextSpec) own started (by kernel_rfl) Tryd.func3
    (witness_row_at (enc := enc) (C := Tryd.checked) false (World.doorLaid Tryd.prog 4000 os) #[.slice none 0 0] rfl (by kernel_rfl) (by kernel_rfl) (by kernel_rfl)
      (OpenSpec.preRow_of_cond 8 hx (by kernel_rfl) (fun k hk => by cases hk) (by kernel_rfl) (laid_met os))) ?_
  intro W base args ds gs before hval hW _ _ _ hL _ _
  exact contract H enc W base args ds gs before hval hW hL

theorem said : Rows.FnExactVecTextSaid :=
  OpenClaim.holds_of_cond 3 Tryd.f3 rfl rfl rfl rfl rfl rfl rfl ⟨rfl, rfl, rfl, rfl, rfl⟩ rfl rfl rfl rfl rfl (by kernel_rfl) Tryd.func3 (by kernel_rfl)
    (of_decide_eq_true (by kernel_rfl)) (by unfold Func.isWrapper; first | (rw [if_pos (by decide +kernel)]; kernel_rfl) | (rw [if_neg (by decide +kernel)]; exact ⟨rfl, rfl⟩))
    (fun os started H enc _ F => by rw [OpenClaim.pre_eq_preRow]; exact lifted os started H enc F)

theorem plain (f : FuncId) (fn : Func) (hf : Tryd.pinned.checked.prog.funcNamed "loop.example/g00487/laws.FnExactVecText" = some f) (hfn : Tryd.pinned.checked.prog.funcs[f]? = some fn) :
    false = Tryd.pinned.checked.prog.looks [] ∧ ∀ (j : Nat) t, fn.params[j]? = some t → Tryd.pinned.checked.prog.wantsStandIn t = false := by
  obtain rfl : f = 3 := Option.some.inj ((show Tryd.prog.funcNamed "loop.example/g00487/laws.FnExactVecText" = some 3 by kernel_rfl).symm.trans hf) |>.symm
  obtain rfl : fn = Tryd.f3 := (Option.some.inj (Tryd.func3.symm.trans hfn)).symm
  refine ⟨by kernel_rfl, fun j t ht => ?_⟩
  rw [Tryd.params3] at ht
  have hm : t ∈ [22] := by simpa using Array.mem_of_getElem? ht
  have hall : ([22].all fun u => !Tryd.prog.wantsStandIn u) = true := by kernel_rfl
  exact (show Tryd.prog.wantsStandIn t = false by simpa using List.all_eq_true.1 hall t hm)

theorem card : Rows.FnExactVecTextCardSaid :=
  Claim7.holds_tied_plain_at .later [] _ _ _ _ said (fun _ h => by cases h) (by kernel_rfl) (fun _ h => by cases h) fnExactVecText_row_tie rfl ⟨rfl, rfl⟩ (by kernel_rfl) rfl plain (by kernel_rfl)
#print axioms card
end Go.Proofs.YtdjoobcbnaelnaaDoor.fnExactVecText
namespace Go.Proofs.YtdjoobcbnaelnaaDoor
theorem fnExactVecText_holds : Rows.FnExactVecTextCardSaid := fnExactVecText.card
end Go.Proofs.YtdjoobcbnaelnaaDoor
