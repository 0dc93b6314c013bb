/-
  At every argument VecOk answers as its model: for every list of numbers and every number. No conditions but the statement's own.
-/
import Derived.Test.YtdjoobcbnaelnaaRows
import Derived.Test.YtdjoobcbnaelnaaVcB
import Derived.Test.YtdjoobcbnaelnaaIntO
import Derived.WalkKit
import Derived.ProofKit
import Derived.OpenShut
import Derived.ShutString
import Derived.ChangeOld
import Derived.Below
import Derived.Carry
namespace Go.Proofs.Ytdjoobcbnaelnaa.fnExactVecOk
open Go.ChangeShapes Go.WideShapes Go.ChangeAt Go.RowKit
open Go.ChangeMaps (open_string shut_string)

theorem own : ownKnob Try.prog.godebug = none := by kernel_rfl
theorem laidOut : laidOutB Try.prog = true := by kernel_rfl

theorem Calls.still {P : Program} {f : FuncId} {args : Array Value} {w : World} {v : Value} (h : Calls P f args w fun e w' => e = .returned v ∧ w = w') : Calls P f args w fun e w' => e = .returned v ∧ Below w.heap.size w w' := by
  refine h.mono ?_
  rintro e _ ⟨rfl, rfl⟩
  exact ⟨rfl, Below.refl _ _⟩
set_option maxHeartbeats 4000000 in
set_option maxRecDepth 100000 in
theorem walk (w : World) (va : Option Addr) (vn vc : Nat) (vs : List Int) (vh1 : vn ≤ 9223372036854775807) (vh2 : RwN w (.slice va vn vc) vs) (_ : FitNs vs) (m : Int) (_ : (Lit.int .i64 m).wf = true) :
    Calls Try.prog 4 #[.slice va vn vc, .int .i64 m] w fun e w' => e = .returned (.bool true) ∧ Below w.heap.size w w' := by
  obtain ⟨r, hr⟩ : ∃ r, Hid (vok vs m = r) := ⟨_, hide rfl⟩
  have hne : (r != r) = false := by simp
  have R_v := hide vh2
  have O_v := R_v
  clear vh2
  by_cases hbv : 1048576 < vn
  · have hdv : decide (1048576 < (vn : Int)) = true := by simp; omega
    go_enter Try.func4, Try.ntmps4
    go_wp2
    go_ret
    exact ⟨rfl, Below.refl _ _⟩
  have hdv : decide (1048576 < (vn : Int)) = false := by simp; omega
  go_enter Try.func4, Try.ntmps4
  go_wp2_with fail
  refine (toints_v va vn vc vs _ (by omega) (unhide R_v)).mono ?_
  rintro e w1 ⟨Pa, Pc, rfl, o1, b1⟩
  have cw1 := b1
  have zw1 := cw1.size
  have R_v := hide ((unhide R_v).later cw1)
  have BL := hide cw1
  have R_oP := hide (o1)
  have L_oP := hide (World.ownsRow.lt (unhide R_oP))
  clear b1 cw1
  clear o1
  go_wp2_with fail
  refine (Calls.still (svecok_any Pa vn Pc vs m r hr _ (by omega) ((unhide R_oP).rw encN_len))).mono ?_
  rintro e w2 ⟨rfl, b2⟩
  have cw2 := b2
  have zw2 := cw2.size
  have R_v := hide ((unhide R_v).later cw2)
  clear R_oP
  have BL := hide ((unhide BL).trans (cw2.mono (unhide BL).size))
  clear b2 cw2
  go_wp2_with fail
  refine (toints_v va vn vc vs _ (by omega) (unhide R_v)).mono ?_
  rintro e w3 ⟨Xa, Xc, rfl, o1, b3⟩
  have cw3 := b3
  have zw3 := cw3.size
  have R_v := hide ((unhide R_v).later cw3)
  have BL := hide ((unhide BL).trans (cw3.mono (unhide BL).size))
  have R_oX := hide (o1)
  have L_oX := hide (World.ownsRow.lt (unhide R_oX))
  clear b3 cw3
  clear o1
  go_wp2_with fail
  refine (Calls.still (ivecok_any Xa vn Xc vs m r hr _ (by omega) ((unhide R_oX).rw encN_len))).mono ?_
  rintro e w4 ⟨rfl, b4⟩
  have cw4 := b4
  have zw4 := cw4.size
  have R_v := hide ((unhide R_v).later cw4)
  have R_oX := hide ((unhide R_oX).later cw4)
  have BL := hide ((unhide BL).trans (cw4.mono (unhide BL).size))
  clear b4 cw4
  go_wp2_with fail
  refine (toints_v va vn vc vs _ (by omega) (unhide R_v)).mono ?_
  rintro e w5 ⟨Ya, Yc, rfl, o1, b5⟩
  have cw5 := b5
  have zw5 := cw5.size
  have R_v := hide ((unhide R_v).later cw5)
  have R_oX := hide ((unhide R_oX).later cw5)
  have BL := hide ((unhide BL).trans (cw5.mono (unhide BL).size))
  have R_oY := hide (o1)
  have L_oY := hide (World.ownsRow.lt (unhide R_oY))
  clear b5 cw5
  clear o1
  go_wp2_with fail
  refine (eqints_v Xa Ya vn Xc Yc vs _ (by omega) ((unhide R_oX).rw encN_len) ((unhide R_oY).rw encN_len)).mono ?_
  rintro e w6 ⟨rfl, b6⟩
  have cw6 := b6
  have zw6 := cw6.size
  have R_v := hide ((unhide R_v).later cw6)
  have R_oX := hide ((unhide R_oX).later cw6)
  clear R_oY
  have BL := hide ((unhide BL).trans (cw6.mono (unhide BL).size))
  clear b6 cw6
  go_wp2
  go_ret
  exact ⟨rfl, unhide BL⟩

set_option maxHeartbeats 4000000 in
set_option maxRecDepth 100000 in
theorem lifted (os : Os) (started : os.Started) (H : Type) (enc : TypeId × Value → H) :
    ReturnsInHanded {} Try.checked os 4 .any (Rows.fnExactVecOkSpec.pre6 enc Try.prog Try.f4 Rows.fnExactVecOkRow.domain false) (Rows.fnExactVecOkSpec.post enc Try.prog Try.f4 false true false false) := by
  refine returnsInHanded_of_change (C := Try.checked) own started (by kernel_rfl) Try.func4
    (ChangeSpec.witness6 (enc := enc) (C := Try.checked) false ⟨#[], #[.slice none 0 0, .int .i64 0], []⟩ 8 (by kernel_rfl) (by kernel_rfl) (by kernel_rfl) (by kernel_rfl)) ?_
  intro W base args ds gs before hval0 hW hcnd _
  have hval : ∀ (j : Nat) t v, Try.f4.params[j]? = some t → args[j]? = some v → Value.okWide Try.prog W .any base t v := hval0
  have hW' := hW
  obtain ⟨p, q, hA0, hV, rfl, hfz, hnd⟩ := hW
  have hA : DataW.TrodAll enc Try.prog W 0 (fun _ => true) true Try.f4.params.toList args.toList ds p := hA0
  rw [Try.params4] at hA hval
  obtain ⟨v0, vs0, d0, ds0, p0, q0, hargs0, rfl, rfl, h0, r0⟩ := trodAll_cons hA
  obtain ⟨v1, vs1, d1, ds1, p1, q1, hargs1, rfl, rfl, h1, r1⟩ := trodAll_cons r0
  obtain ⟨rfl, rfl, rfl⟩ := trodAll_nil r1
  obtain rfl : args = #[v0, v1] := by cases args; simp_all
  obtain ⟨rfl, rfl⟩ := trodVars_none hV
  have k0 := h0
  have lt0 : ∀ x ∈ p0, x.block < W.heap.size := by obtain ⟨m, hm⟩ := k0; exact DataW.trod_lt m _ _ _ hm
  have k1 := h1
  have lt1 : ∀ x ∈ p1, x.block < W.heap.size := by obtain ⟨m, hm⟩ := k1; exact DataW.trod_lt m _ _ _ hm
  obtain ⟨va, vn, vc, vs, rfl, vh1, vh2, vh3⟩ := open_numrow (hval 0 24 v0 rfl rfl) h0
  obtain ⟨m, rfl, -, -, wm⟩ := open_int Try.underlying3 (hval 1 3 v1 rfl rfl) h1
  clear hA0 hval0
  refine (walk W va vn vc vs vh1 vh2 vh3 m wm).mono fun e W' ⟨he, bel⟩ => ?_
  subst he
  exact ⟨_, rfl, _, _, _, [], _, [], hW', trodAll_mk1 (shut_bool Try.underlying4 _), (trodAll_cons_mk (Below.trod laidOut (by kernel_rfl) (of_decide_eq_true (by kernel_rfl)) k0 bel lt0) (trodAll_cons_mk (Below.trod laidOut (by kernel_rfl) (of_decide_eq_true (by kernel_rfl)) k1 bel lt1) trodAll_mk0)), rfl, bel.frame _, fun h => by cases h⟩

theorem over : Rows.fnExactVecOkRow.holds Try.pinned (OpenSpec.ofChange Rows.fnExactVecOkSpec) :=
  OpenClaim.holds_of_wide 4 Try.f4 rfl rfl rfl rfl rfl rfl rfl ⟨rfl, rfl, rfl, rfl, rfl⟩ rfl rfl rfl rfl rfl (by kernel_rfl) Try.func4 (by kernel_rfl)
    (of_decide_eq_true (by kernel_rfl)) (by unfold Func.isWrapper; first | (rw [if_pos (by decide +kernel)]; kernel_rfl) | (rw [if_neg (by decide +kernel)]; exact ⟨rfl, rfl⟩))
    (fun os started H enc _ => lifted os started H enc)

theorem proved : Rows.FnExactVecOkSaid := over
#print axioms proved
end Go.Proofs.Ytdjoobcbnaelnaa.fnExactVecOk
namespace Go.Proofs.Ytdjoobcbnaelnaa
theorem fnExactVecOk_holds : Rows.FnExactVecOkSaid := fnExactVecOk.proved
end Go.Proofs.Ytdjoobcbnaelnaa
