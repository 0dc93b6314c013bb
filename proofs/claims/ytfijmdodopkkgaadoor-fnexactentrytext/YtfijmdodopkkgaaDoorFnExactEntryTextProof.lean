/-
  The law FnExactEntryText answers true at every entry. No condition.
-/
import Derived.Test.YtfijmdodopkkgaaDoorRows
import Derived.Test.YtfijmdodopkkgaaDoorCards
import Derived.Test.YtfijmdodopkkgaaDoorTie
import Derived.Test.YtfijmdodopkkgaaDoorEntText
import Derived.Test.YtfijmdodopkkgaaDoorEntO
import Derived.Deep.DeepHandedRow
import Derived.Lib.LaidTab
import Derived.LaidMore
import Derived.LaidSub
import Derived.SevenTiedAt
import Derived.WalkKit
import Derived.ProofKit
import Derived.OpenShut
import Derived.ShutString
import Derived.ChangeOld
import Derived.Below
import Derived.Carry
namespace Go.Proofs.YtfijmdodopkkgaaDoor.fnExactEntryText
open Go.ChangeShapes Go.WideShapes Go.ChangeAt Go.RowKit
open Go.ChangeMaps (open_string shut_string)

theorem own : ownKnob Tryd.prog.godebug = none := by kernel_rfl
theorem laidOut : laidOutB Tryd.prog = true := by kernel_rfl

set_option maxHeartbeats 4000000 in
theorem walk (ai ar ab av : Int) (ad : ByteArray) (hs : ad.size ≤ maxLen) (hi : -9223372036854775808 ≤ ai ∧ ai ≤ 9223372036854775807) (_ : -9223372036854775808 ≤ ar ∧ ar ≤ 9223372036854775807) (hb : -9223372036854775808 ≤ ab ∧ ab ≤ 9223372036854775807) (hv : -9223372036854775808 ≤ av ∧ av ≤ 9223372036854775807) (w : World) (hT : Lib.TabIs Tryd.prog w "internal/strconv.uint64pow10" .u64 Lib.pow10Tab) :
    Calls Tryd.prog 3 #[.agg #[.int .i64 ai, .int .i64 ar, .int .i64 ab, .int .i64 av, .string ad]] w fun e w' => e = .returned (.bool true) ∧ Below w.heap.size w w' := by
  have HT := hide hT
  clear hT
  go_enter Tryd.func3, Tryd.ntmps3
  go_wp2_with fail
  refine (sz_any ai ar ab av ad 1048576 (by omega) (by omega) hs _).mono ?_
  rintro e w1 ⟨rfl, b1, -⟩
  have S1 := keepST b1 (start_box ai ar ab av ad w 23)
  have H1 := hide S1
  obtain ⟨-, hz, c0, c1, c2, c3, c4⟩ := S1
  clear b1
  by_cases hbig : (1048576 : Int) < ad.size
  · rw [if_pos hbig]
    go_wp2
    go_ret
    exact ⟨rfl, (unhide H1).1⟩
  rw [if_neg hbig]
  have hd : decide (1048576 - (ad.size : Int) < 0) = false := by simp; omega
  have hq : ((textE ai ar ab av ad).toList == (textE ai ar ab av ad).toList) = true := by simp
  go_wp2_with fail
  refine (toentry_any ai ar ab av ad _).mono ?_
  rintro e w2 ⟨rfl, b2⟩
  have S2 := keepST b2 (unhide H1)
  have H2 := hide S2
  clear b2 hz c0 c1 c2 c3 c4 H1
  obtain ⟨-, hz, c0, c1, c2, c3, c4⟩ := S2
  go_wp2_with fail
  refine (stext_any ai ar ab av ad hi.1 hi.2 hb.1 hb.2 hv.1 hv.2 (by omega) _).mono ?_
  rintro e w3 ⟨rfl, b3⟩
  have S3 := keepST b3 (unhide H2)
  have H3 := hide S3
  clear b3 hz c0 c1 c2 c3 c4 H2
  obtain ⟨-, hz, c0, c1, c2, c3, c4⟩ := S3
  go_wp2_with fail
  refine (toentry_any ai ar ab av ad _).mono ?_
  rintro e w4 ⟨rfl, b4⟩
  have S4 := keepST b4 (unhide H3)
  have H4 := hide S4
  clear b4 hz c0 c1 c2 c3 c4 H3
  obtain ⟨-, hz, c0, c1, c2, c3, c4⟩ := S4
  go_wp2_with fail
  refine (itext_any ai ar ab av ad hi.1 hi.2 hb.1 hb.2 hv.1 hv.2 (by omega) _ (tab_later (unhide HT) (unhide H4).1 (tab_lt (unhide HT)))).mono ?_
  rintro e w5 ⟨rfl, b5⟩
  have S5 := keepST b5 (unhide H4)
  have H5 := hide S5
  clear b5 hz c0 c1 c2 c3 c4 H4
  obtain ⟨-, hz, c0, c1, c2, c3, c4⟩ := S5
  go_wp2
  go_ret
  exact ⟨rfl, (unhide H5).1⟩

theorem gTabType : (Tryd.prog.globals[0]?).map (·.type) = some 40 := by kernel_rfl
theorem cellsTab : Tryd.prog.cellsOf 40 = 20 := by kernel_rfl
theorem cellsU64 : Tryd.prog.cellsOf 33 = 1 := by kernel_rfl
/-- What the row's list gives: the table's cells hold the powers of ten. -/
theorem table {W : World} (h : laidMetH Tryd.prog Rows.fnExactEntryTextRow.laid W) : Lib.TabIs Tryd.prog W "internal/strconv.uint64pow10" .u64 Lib.pow10Tab := by
  have h2 := h.filter (fun x => x.1 == "internal/strconv.uint64pow10")
  have e : (Rows.fnExactEntryTextRow.laid.filter (fun x => x.1 == "internal/strconv.uint64pow10")) = [("internal/strconv.uint64pow10", Rows.laid_internal_strconv_uint64pow10)] := by kernel_rfl
  rw [e] at h2
  exact Lib.tabIs_of_head (rest := []) gPow gTabType Tryd.underlying40 Tryd.underlying33 cellsU64 cellsTab h2

theorem contract (H : Type) (enc : TypeId × Value → H) (W : World) (base : Nat) (args : Array Value) (ds gs : List (DataW H)) (before : List MemPlace)
    (hval0 : ∀ (j : Nat) t v, Tryd.f3.params[j]? = some t → args[j]? = some v → Value.okWide Tryd.prog W .any base t v)
    (hW : DataW.Whole enc Tryd.prog Tryd.f3.params.toList Rows.fnExactEntryTextSpec.vars false W args.toList ds gs before) (hL : laidMetH Tryd.prog Rows.fnExactEntryTextRow.laid W) :
    Calls Tryd.prog 3 args W fun e W' => ∃ v, e = .returned v ∧ Rows.fnExactEntryTextSpec.post enc Tryd.prog Tryd.f3 false true false false W args v W' := by
  have hval : ∀ (j : Nat) t v, Tryd.f3.params[j]? = some t → args[j]? = some v → Value.okWide Tryd.prog W .any base t v := hval0
  have hW' := hW
  obtain ⟨p, q, hA0, hV, rfl, hfz, hnd⟩ := hW
  have hA : DataW.TrodAll enc Tryd.prog W 0 (fun _ => true) true Tryd.f3.params.toList args.toList ds p := hA0
  rw [Tryd.params3] at hA hval
  obtain ⟨v0, vs0, d0, ds0, p0, q0, hargs0, rfl, rfl, h0, r0⟩ := trodAll_cons hA
  obtain ⟨rfl, rfl, rfl⟩ := trodAll_nil r0
  obtain rfl : args = #[v0] := by cases args; simp_all
  obtain ⟨rfl, rfl⟩ := trodVars_none hV
  have k0 := h0
  have lt0 : ∀ x ∈ p0, x.block < W.heap.size := by obtain ⟨m, hm⟩ := k0; exact DataW.trod_lt m _ _ _ hm
  obtain ⟨ai, ar, ab, av, ad, rfl, sa, qai, qar, qab, qav⟩ := open_ent (hval 0 23 v0 rfl rfl) h0
  clear hA0 hval0
  refine (walk ai ar ab av ad sa qai qar qab qav W (table hL)).mono fun e W' ⟨he, bel⟩ => ?_
  subst he
  exact ⟨_, rfl, _, _, _, [], _, [], hW', trodAll_mk1 (shut_bool Tryd.underlying4 _), (trodAll_cons_mk (Below.trod laidOut (by kernel_rfl) (of_decide_eq_true (by kernel_rfl)) k0 bel lt0) trodAll_mk0), rfl, bel.frame _, fun h => by cases h⟩

theorem laid_met (os : Os) : laidMetH Tryd.prog Rows.fnExactEntryTextRow.laid ((World.doorLaid Tryd.prog 4000 os).forCall (fun _ _ => 0) ⟨#[], #[.agg #[.int .i64 0, .int .i64 0, .int .i64 0, .int .i64 0, .string ByteArray.empty]], []⟩).memory :=
  laidMetH_of_parts3 (fuel := 8) (laidMet_of_run' 8 (by kernel_rfl) (by kernel_rfl)) (by kernel_rfl) (by kernel_rfl)
theorem reads (os : Os) {H : Type} (enc : TypeId × Value → H) : ∃ places, DataW.whole enc Tryd.prog ((World.doorLaid Tryd.prog 4000 os).forCall (fun _ _ => 0) ⟨#[], #[.agg #[.int .i64 0, .int .i64 0, .int .i64 0, .int .i64 0, .string ByteArray.empty]], []⟩).memory Tryd.f3.params.toList Rows.fnExactEntryTextSpec.vars false (#[.agg #[.int .i64 0, .int .i64 0, .int .i64 0, .int .i64 0, .string ByteArray.empty]] : Array Value).toList 8 = some ([.agg [.lit (.int .i64 0), .lit (.int .i64 0), .lit (.int .i64 0), .lit (.int .i64 0), .lit (.string [])]], [], places) :=
  ⟨[], by kernel_rfl⟩

set_option maxRecDepth 100000 in
theorem lifted (os : Os) (started : os.Started) (H : Type) (enc : TypeId × Value → H) (F : Stop.Interp) :
    ReturnsInHanded {} Tryd.checked os 3 .any ((OpenSpec.ofChange Rows.fnExactEntryTextSpec).preRow enc Tryd.prog Tryd.f3 Rows.fnExactEntryTextRow.domain false Rows.fnExactEntryTextRow.laid) (((OpenSpec.ofChange Rows.fnExactEntryTextSpec).at F).post enc Tryd.prog Tryd.f3 false true false false) := by
  obtain ⟨places, hx⟩ := reads os enc
  refine returnsInHanded_of_row (C := Tryd.checked) (s := OpenSpec.ofChange Rows.fnExactEntryTextSpec) own started (by kernel_rfl) Tryd.func3
    (witness_row_at (enc := enc) (C := Tryd.checked) false (World.doorLaid Tryd.prog 4000 os) #[.agg #[.int .i64 0, .int .i64 0, .int .i64 0, .int .i64 0, .string ByteArray.empty]] rfl (by kernel_rfl) (by kernel_rfl) (by kernel_rfl)
      (OpenSpec.preRow_of_cond 8 hx (by kernel_rfl) (fun k hk => by cases hk) (by kernel_rfl) (laid_met os))) ?_
  intro W base args ds gs before hval hW _ _ _ hL _ _
  exact contract H enc W base args ds gs before hval hW hL

theorem said : Rows.FnExactEntryTextSaid :=
  OpenClaim.holds_of_cond 3 Tryd.f3 rfl rfl rfl rfl rfl rfl rfl ⟨rfl, rfl, rfl, rfl, rfl⟩ rfl rfl rfl rfl rfl (by kernel_rfl) Tryd.func3 (by kernel_rfl)
    (of_decide_eq_true (by kernel_rfl)) (by unfold Func.isWrapper; first | (rw [if_pos (by decide +kernel)]; kernel_rfl) | (rw [if_neg (by decide +kernel)]; exact ⟨rfl, rfl⟩))
    (fun os started H enc _ F => by rw [OpenClaim.pre_eq_preRow]; exact lifted os started H enc F)

theorem plain (f : FuncId) (fn : Func) (hf : Tryd.pinned.checked.prog.funcNamed "loop.example/g00487/laws.FnExactEntryText" = some f) (hfn : Tryd.pinned.checked.prog.funcs[f]? = some fn) :
    false = Tryd.pinned.checked.prog.looks [] ∧ ∀ (j : Nat) t, fn.params[j]? = some t → Tryd.pinned.checked.prog.wantsStandIn t = false := by
  obtain rfl : f = 3 := Option.some.inj ((show Tryd.prog.funcNamed "loop.example/g00487/laws.FnExactEntryText" = some 3 by kernel_rfl).symm.trans hf) |>.symm
  obtain rfl : fn = Tryd.f3 := (Option.some.inj (Tryd.func3.symm.trans hfn)).symm
  refine ⟨by kernel_rfl, fun j t ht => ?_⟩
  rw [Tryd.params3] at ht
  have hm : t ∈ [23] := by simpa using Array.mem_of_getElem? ht
  have hall : ([23].all fun u => !Tryd.prog.wantsStandIn u) = true := by kernel_rfl
  exact (show Tryd.prog.wantsStandIn t = false by simpa using List.all_eq_true.1 hall t hm)

theorem card : Rows.FnExactEntryTextCardSaid :=
  Claim7.holds_tied_plain_at .later [] _ _ _ _ said (fun _ h => by cases h) (by kernel_rfl) (fun _ h => by cases h) fnExactEntryText_row_tie rfl ⟨rfl, rfl⟩ (by kernel_rfl) rfl plain (by kernel_rfl)
#print axioms card
end Go.Proofs.YtfijmdodopkkgaaDoor.fnExactEntryText
namespace Go.Proofs.YtfijmdodopkkgaaDoor
theorem fnExactEntryText_holds : Rows.FnExactEntryTextCardSaid := fnExactEntryText.card
end Go.Proofs.YtfijmdodopkkgaaDoor
