/-
  At every argument VecLeq answers as its model: for every two lists of numbers. No conditions but the statement's own.
-/
import Derived.Test.YtdjoobcbnaelnaaRows
import Derived.Test.YtdjoobcbnaelnaaVcB
import Derived.Test.YtdjoobcbnaelnaaIntO
import Derived.WalkKit
import Derived.ProofKit
import Derived.OpenShut
import Derived.ShutString
import Derived.ChangeOld
import Derived.Below
import Derived.Carry
namespace Go.Proofs.Ytdjoobcbnaelnaa.fnExactVecLeq
open Go.ChangeShapes Go.WideShapes Go.ChangeAt Go.RowKit
open Go.ChangeMaps (open_string shut_string)

theorem own : ownKnob Try.prog.godebug = none := by kernel_rfl
theorem laidOut : laidOutB Try.prog = true := by kernel_rfl

theorem Calls.still {P : Program} {f : FuncId} {args : Array Value} {w : World} {v : Value} (h : Calls P f args w fun e w' => e = .returned v ∧ w = w') : Calls P f args w fun e w' => e = .returned v ∧ Below w.heap.size w w' := by
  refine h.mono ?_
  rintro e _ ⟨rfl, rfl⟩
  exact ⟨rfl, Below.refl _ _⟩
set_option maxHeartbeats 4000000 in
set_option maxRecDepth 100000 in
theorem walk (w : World) (xa : Option Addr) (xn xc : Nat) (xs : List Int) (xh1 : xn ≤ 9223372036854775807) (xh2 : RwN w (.slice xa xn xc) xs) (_ : FitNs xs) (ya : Option Addr) (yn yc : Nat) (ys : List Int) (yh1 : yn ≤ 9223372036854775807) (yh2 : RwN w (.slice ya yn yc) ys) (_ : FitNs ys) :
    Calls Try.prog 6 #[.slice xa xn xc, .slice ya yn yc] w fun e w' => e = .returned (.bool true) ∧ Below w.heap.size w w' := by
  obtain ⟨r, hr⟩ : ∃ r, Hid (vl xs ys = r) := ⟨_, hide rfl⟩
  have hne : (r != r) = false := by simp
  have R_x := hide xh2
  have O_x := R_x
  clear xh2
  have R_y := hide yh2
  have O_y := R_y
  clear yh2
  by_cases hbx : 1048576 < xn
  · have hdx : decide (1048576 < (xn : Int)) = true := by simp; omega
    go_enter Try.func6, Try.ntmps6
    go_wp2
    go_ret
    exact ⟨rfl, Below.refl _ _⟩
  have hdx : decide (1048576 < (xn : Int)) = false := by simp; omega
  by_cases hby : 1048576 < yn
  · have hdy : decide (1048576 < (yn : Int)) = true := by simp; omega
    go_enter Try.func6, Try.ntmps6
    go_wp2
    go_ret
    exact ⟨rfl, Below.refl _ _⟩
  have hdy : decide (1048576 < (yn : Int)) = false := by simp; omega
  go_enter Try.func6, Try.ntmps6
  go_wp2_with fail
  refine (toints_v xa xn xc xs _ (by omega) (unhide R_x)).mono ?_
  rintro e w1 ⟨Pa, Pc, rfl, o1, b1⟩
  have cw1 := b1
  have zw1 := cw1.size
  have R_x := hide ((unhide R_x).later cw1)
  have R_y := hide ((unhide R_y).later cw1)
  have BL := hide cw1
  have R_oP := hide (o1)
  have L_oP := hide (World.ownsRow.lt (unhide R_oP))
  clear b1 cw1
  clear o1
  go_wp2_with fail
  refine (toints_v ya yn yc ys _ (by omega) (unhide R_y)).mono ?_
  rintro e w2 ⟨Qa, Qc, rfl, o1, b2⟩
  have cw2 := b2
  have zw2 := cw2.size
  have R_x := hide ((unhide R_x).later cw2)
  have R_y := hide ((unhide R_y).later cw2)
  have R_oP := hide ((unhide R_oP).later cw2)
  have BL := hide ((unhide BL).trans (cw2.mono (unhide BL).size))
  have R_oQ := hide (o1)
  have L_oQ := hide (World.ownsRow.lt (unhide R_oQ))
  clear b2 cw2
  clear o1
  go_wp2_with fail
  refine (svecleq_any Pa xn Pc xs Qa yn Qc ys r hr _ (by omega) ((unhide R_oP).rw encN_len) ((unhide R_oQ).rw encN_len)).mono ?_
  rintro e w3 ⟨rfl, b3⟩
  have cw3 := b3
  have zw3 := cw3.size
  have R_x := hide ((unhide R_x).later cw3)
  have R_y := hide ((unhide R_y).later cw3)
  clear R_oP
  clear R_oQ
  have BL := hide ((unhide BL).trans (cw3.mono (unhide BL).size))
  clear b3 cw3
  go_wp2_with fail
  refine (toints_v xa xn xc xs _ (by omega) (unhide R_x)).mono ?_
  rintro e w4 ⟨Xa, Xc, rfl, o1, b4⟩
  have cw4 := b4
  have zw4 := cw4.size
  have R_x := hide ((unhide R_x).later cw4)
  have R_y := hide ((unhide R_y).later cw4)
  have BL := hide ((unhide BL).trans (cw4.mono (unhide BL).size))
  have R_oX := hide (o1)
  have L_oX := hide (World.ownsRow.lt (unhide R_oX))
  clear b4 cw4
  clear o1
  go_wp2_with fail
  refine (toints_v ya yn yc ys _ (by omega) (unhide R_y)).mono ?_
  rintro e w5 ⟨Ya, Yc, rfl, o1, b5⟩
  have cw5 := b5
  have zw5 := cw5.size
  have R_x := hide ((unhide R_x).later cw5)
  have R_y := hide ((unhide R_y).later cw5)
  have R_oX := hide ((unhide R_oX).later cw5)
  have BL := hide ((unhide BL).trans (cw5.mono (unhide BL).size))
  have R_oY := hide (o1)
  have L_oY := hide (World.ownsRow.lt (unhide R_oY))
  clear b5 cw5
  clear o1
  go_wp2_with fail
  refine (Calls.still (ivecleq_any Xa xn Xc xs Ya yn Yc ys r hr _ (by omega) (by omega) ((unhide R_oX).rw encN_len) ((unhide R_oY).rw encN_len))).mono ?_
  rintro e w6 ⟨rfl, b6⟩
  have cw6 := b6
  have zw6 := cw6.size
  have R_x := hide ((unhide R_x).later cw6)
  have R_y := hide ((unhide R_y).later cw6)
  have R_oX := hide ((unhide R_oX).later cw6)
  have R_oY := hide ((unhide R_oY).later cw6)
  have BL := hide ((unhide BL).trans (cw6.mono (unhide BL).size))
  clear b6 cw6
  go_wp2_with fail
  refine (toints_v xa xn xc xs _ (by omega) (unhide R_x)).mono ?_
  rintro e w7 ⟨Ua, Uc, rfl, o1, b7⟩
  have cw7 := b7
  have zw7 := cw7.size
  have R_x := hide ((unhide R_x).later cw7)
  have R_y := hide ((unhide R_y).later cw7)
  have R_oX := hide ((unhide R_oX).later cw7)
  have R_oY := hide ((unhide R_oY).later cw7)
  have BL := hide ((unhide BL).trans (cw7.mono (unhide BL).size))
  have R_oU := hide (o1)
  have L_oU := hide (World.ownsRow.lt (unhide R_oU))
  clear b7 cw7
  clear o1
  go_wp2_with fail
  refine (eqints_v Xa Ua xn Xc Uc xs _ (by omega) ((unhide R_oX).rw encN_len) ((unhide R_oU).rw encN_len)).mono ?_
  rintro e w8 ⟨rfl, b8⟩
  have cw8 := b8
  have zw8 := cw8.size
  have R_x := hide ((unhide R_x).later cw8)
  have R_y := hide ((unhide R_y).later cw8)
  have R_oX := hide ((unhide R_oX).later cw8)
  have R_oY := hide ((unhide R_oY).later cw8)
  clear R_oU
  have BL := hide ((unhide BL).trans (cw8.mono (unhide BL).size))
  clear b8 cw8
  go_wp2_with fail
  refine (toints_v ya yn yc ys _ (by omega) (unhide R_y)).mono ?_
  rintro e w9 ⟨Va, Vc, rfl, o1, b9⟩
  have cw9 := b9
  have zw9 := cw9.size
  have R_x := hide ((unhide R_x).later cw9)
  have R_y := hide ((unhide R_y).later cw9)
  have R_oX := hide ((unhide R_oX).later cw9)
  have R_oY := hide ((unhide R_oY).later cw9)
  have BL := hide ((unhide BL).trans (cw9.mono (unhide BL).size))
  have R_oV := hide (o1)
  have L_oV := hide (World.ownsRow.lt (unhide R_oV))
  clear b9 cw9
  clear o1
  go_wp2_with fail
  refine (eqints_v Ya Va yn Yc Vc ys _ (by omega) ((unhide R_oY).rw encN_len) ((unhide R_oV).rw encN_len)).mono ?_
  rintro e w10 ⟨rfl, b10⟩
  have cw10 := b10
  have zw10 := cw10.size
  have R_x := hide ((unhide R_x).later cw10)
  have R_y := hide ((unhide R_y).later cw10)
  have R_oX := hide ((unhide R_oX).later cw10)
  have R_oY := hide ((unhide R_oY).later cw10)
  clear R_oV
  have BL := hide ((unhide BL).trans (cw10.mono (unhide BL).size))
  clear b10 cw10
  go_wp2
  go_ret
  exact ⟨rfl, unhide BL⟩

set_option maxHeartbeats 4000000 in
set_option maxRecDepth 100000 in
theorem lifted (os : Os) (started : os.Started) (H : Type) (enc : TypeId × Value → H) :
    ReturnsInHanded {} Try.checked os 6 .any (Rows.fnExactVecLeqSpec.pre6 enc Try.prog Try.f6 Rows.fnExactVecLeqRow.domain false) (Rows.fnExactVecLeqSpec.post enc Try.prog Try.f6 false true false false) := by
  refine returnsInHanded_of_change (C := Try.checked) own started (by kernel_rfl) Try.func6
    (ChangeSpec.witness6 (enc := enc) (C := Try.checked) false ⟨#[], #[.slice none 0 0, .slice none 0 0], []⟩ 8 (by kernel_rfl) (by kernel_rfl) (by kernel_rfl) (by kernel_rfl)) ?_
  intro W base args ds gs before hval0 hW hcnd _
  have hval : ∀ (j : Nat) t v, Try.f6.params[j]? = some t → args[j]? = some v → Value.okWide Try.prog W .any base t v := hval0
  have hW' := hW
  obtain ⟨p, q, hA0, hV, rfl, hfz, hnd⟩ := hW
  have hA : DataW.TrodAll enc Try.prog W 0 (fun _ => true) true Try.f6.params.toList args.toList ds p := hA0
  rw [Try.params6] at hA hval
  obtain ⟨v0, vs0, d0, ds0, p0, q0, hargs0, rfl, rfl, h0, r0⟩ := trodAll_cons hA
  obtain ⟨v1, vs1, d1, ds1, p1, q1, hargs1, rfl, rfl, h1, r1⟩ := trodAll_cons r0
  obtain ⟨rfl, rfl, rfl⟩ := trodAll_nil r1
  obtain rfl : args = #[v0, v1] := by cases args; simp_all
  obtain ⟨rfl, rfl⟩ := trodVars_none hV
  have k0 := h0
  have lt0 : ∀ x ∈ p0, x.block < W.heap.size := by obtain ⟨m, hm⟩ := k0; exact DataW.trod_lt m _ _ _ hm
  have k1 := h1
  have lt1 : ∀ x ∈ p1, x.block < W.heap.size := by obtain ⟨m, hm⟩ := k1; exact DataW.trod_lt m _ _ _ hm
  obtain ⟨xa, xn, xc, xs, rfl, xh1, xh2, xh3⟩ := open_numrow (hval 0 24 v0 rfl rfl) h0
  obtain ⟨ya, yn, yc, ys, rfl, yh1, yh2, yh3⟩ := open_numrow (hval 1 24 v1 rfl rfl) h1
  clear hA0 hval0
  refine (walk W xa xn xc xs xh1 xh2 xh3 ya yn yc ys yh1 yh2 yh3).mono fun e W' ⟨he, bel⟩ => ?_
  subst he
  exact ⟨_, rfl, _, _, _, [], _, [], hW', trodAll_mk1 (shut_bool Try.underlying4 _), (trodAll_cons_mk (Below.trod laidOut (by kernel_rfl) (of_decide_eq_true (by kernel_rfl)) k0 bel lt0) (trodAll_cons_mk (Below.trod laidOut (by kernel_rfl) (of_decide_eq_true (by kernel_rfl)) k1 bel lt1) trodAll_mk0)), rfl, bel.frame _, fun h => by cases h⟩

theorem over : Rows.fnExactVecLeqRow.holds Try.pinned (OpenSpec.ofChange Rows.fnExactVecLeqSpec) :=
  OpenClaim.holds_of_wide 6 Try.f6 rfl rfl rfl rfl rfl rfl rfl ⟨rfl, rfl, rfl, rfl, rfl⟩ rfl rfl rfl rfl rfl (by kernel_rfl) Try.func6 (by kernel_rfl)
    (of_decide_eq_true (by kernel_rfl)) (by unfold Func.isWrapper; first | (rw [if_pos (by decide +kernel)]; kernel_rfl) | (rw [if_neg (by decide +kernel)]; exact ⟨rfl, rfl⟩))
    (fun os started H enc _ => lifted os started H enc)

theorem proved : Rows.FnExactVecLeqSaid := over
#print axioms proved
end Go.Proofs.Ytdjoobcbnaelnaa.fnExactVecLeq
namespace Go.Proofs.Ytdjoobcbnaelnaa
theorem fnExactVecLeq_holds : Rows.FnExactVecLeqSaid := fnExactVecLeq.proved
end Go.Proofs.Ytdjoobcbnaelnaa
