/-
  At every argument MarksOk answers as its model says; it writes into no argument. No conditions but the statement's own.
-/
import Derived.Test.YtighiahppjekeaaRows
import Derived.Test.YtighiahppjekeaaMkS
import Derived.Test.YtighiahppjekeaaMkA
import Derived.WalkKit
import Derived.ProofKit
import Derived.OpenShut
import Derived.ShutString
import Derived.ChangeOld
import Derived.Below
import Derived.Carry
namespace Go.Proofs.Ytighiahppjekeaa.fnExactMarksOk
open Go.ChangeShapes Go.WideShapes Go.ChangeAt Go.RowKit
open Go.ChangeMaps (open_string shut_string)

theorem own : ownKnob Try.prog.godebug = none := by kernel_rfl
theorem laidOut : laidOutB Try.prog = true := by kernel_rfl

set_option maxHeartbeats 8000000 in
set_option maxRecDepth 100000 in
theorem walk (w : World) (la : Option Addr) (ln lc : Nat) (ls : List Flr) (lh1 : ln ≤ 9223372036854775807) (lh2 : Rw encF 2 w (.slice la ln lc) ls) (_ : FitM ls) :
    Calls Try.prog 5 #[.slice la ln lc] w fun e w' => e = .returned (.bool true) ∧ Below w.heap.size w w' := by
  have R_l := hide lh2
  have O_l := R_l
  clear lh2
  obtain ⟨r, hr⟩ : ∃ r, Hid (gF (-1) ls = r) := ⟨_, hide rfl⟩
  have hne : (r != r) = false := by simp
  go_enter Try.func5, Try.ntmps5
  go_wp2_with fail
  refine (szmarks_any la ln lc 1048576 (by omega) (by omega) _ lh1).mono ?_
  rintro e w1 ⟨h, b1⟩
  have cw1 := b1
  have zw1 := cw1.size
  have R_l := hide ((unhide R_l).later cw1)
  have BL := hide cw1
  clear b1 cw1
  rcases h with rfl | ⟨q, rfl, hq1, hq2, ln1⟩
  · go_wp2
    go_ret
    exact ⟨rfl, unhide BL⟩
  have hdq : decide (q < 0) = false := by simp; omega
  go_wp2_with fail
  refine (tomarks_any la ln lc ls _ ln1 (unhide R_l)).mono ?_
  rintro e w2 ⟨Pa, Pc, rfl, o1, b2⟩
  have cw2 := b2
  have zw2 := cw2.size
  have R_l := hide ((unhide R_l).later cw2)
  have BL := hide ((unhide BL).trans (cw2.mono (unhide BL).size))
  have R_oP := hide (o1)
  have L_oP := hide (World.ownsRow.lt (unhide R_oP))
  clear b2 cw2
  clear o1
  go_wp2_with fail
  refine (smarksok_any Pa ln Pc ls r hr _ (by omega) ((unhide R_oP).rw encF_len)).mono ?_
  rintro e w3 ⟨rfl, b3⟩
  have cw3 := b3
  have zw3 := cw3.size
  have R_l := hide ((unhide R_l).later cw3)
  have R_oP := hide ((unhide R_oP).later cw3)
  have BL := hide ((unhide BL).trans (cw3.mono (unhide BL).size))
  clear b3 cw3
  clear R_oP L_oP
  go_wp2_with fail
  refine (tomarks_any la ln lc ls _ ln1 (unhide R_l)).mono ?_
  rintro e w4 ⟨Xa, Xc, rfl, o1, b4⟩
  have cw4 := b4
  have zw4 := cw4.size
  have R_l := hide ((unhide R_l).later cw4)
  have BL := hide ((unhide BL).trans (cw4.mono (unhide BL).size))
  have R_oX := hide (o1)
  have L_oX := hide (World.ownsRow.lt (unhide R_oX))
  clear b4 cw4
  clear o1
  go_wp2_with fail
  refine (imarksok_any Xa ln Xc ls r hr _ (by omega) ((unhide R_oX).rw encF_len)).mono ?_
  rintro e w5 ⟨rfl, b5⟩
  have cw5 := b5
  have zw5 := cw5.size
  have R_l := hide ((unhide R_l).later cw5)
  have R_oX := hide ((unhide R_oX).later cw5)
  have BL := hide ((unhide BL).trans (cw5.mono (unhide BL).size))
  clear b5 cw5
  go_wp2_with fail
  refine (tomarks_any la ln lc ls _ ln1 (unhide R_l)).mono ?_
  rintro e w6 ⟨Ya, Yc, rfl, o1, b6⟩
  have cw6 := b6
  have zw6 := cw6.size
  have R_l := hide ((unhide R_l).later cw6)
  have R_oX := hide ((unhide R_oX).later cw6)
  have BL := hide ((unhide BL).trans (cw6.mono (unhide BL).size))
  have R_oY := hide (o1)
  have L_oY := hide (World.ownsRow.lt (unhide R_oY))
  clear b6 cw6
  clear o1
  go_wp2_with fail
  refine (eqmarks_same Xa ln Xc Ya Yc ls _ (by omega) ((unhide R_oX).rw encF_len) ((unhide R_oY).rw encF_len)).mono ?_
  rintro e w7 ⟨rfl, b7⟩
  have cw7 := b7
  have zw7 := cw7.size
  have R_l := hide ((unhide R_l).later cw7)
  have R_oX := hide ((unhide R_oX).later cw7)
  have R_oY := hide ((unhide R_oY).later cw7)
  have BL := hide ((unhide BL).trans (cw7.mono (unhide BL).size))
  clear b7 cw7
  clear R_oY L_oY
  go_wp2
  go_ret
  exact ⟨rfl, unhide BL⟩

set_option maxHeartbeats 4000000 in
set_option maxRecDepth 100000 in
theorem lifted (os : Os) (started : os.Started) (H : Type) (enc : TypeId × Value → H) :
    ReturnsInHanded {} Try.checked os 5 .any (Rows.fnExactMarksOkSpec.pre6 enc Try.prog Try.f5 Rows.fnExactMarksOkRow.domain false) (Rows.fnExactMarksOkSpec.post enc Try.prog Try.f5 false true false false) := by
  refine returnsInHanded_of_change (C := Try.checked) own started (by kernel_rfl) Try.func5
    (ChangeSpec.witness6 (enc := enc) (C := Try.checked) false ⟨#[], #[.slice none 0 0], []⟩ 8 (by kernel_rfl) (by kernel_rfl) (by kernel_rfl) (by kernel_rfl)) ?_
  intro W base args ds gs before hval0 hW hcnd _
  have hval : ∀ (j : Nat) t v, Try.f5.params[j]? = some t → args[j]? = some v → Value.okWide Try.prog W .any base t v := hval0
  have hW' := hW
  obtain ⟨p, q, hA0, hV, rfl, hfz, hnd⟩ := hW
  have hA : DataW.TrodAll enc Try.prog W 0 (fun _ => true) true Try.f5.params.toList args.toList ds p := hA0
  rw [Try.params5] at hA hval
  obtain ⟨v0, vs0, d0, ds0, p0, q0, hargs0, rfl, rfl, h0, r0⟩ := trodAll_cons hA
  obtain ⟨rfl, rfl, rfl⟩ := trodAll_nil r0
  obtain rfl : args = #[v0] := by cases args; simp_all
  obtain ⟨rfl, rfl⟩ := trodVars_none hV
  have k0 := h0
  have lt0 : ∀ x ∈ p0, x.block < W.heap.size := by obtain ⟨m, hm⟩ := k0; exact DataW.trod_lt m _ _ _ hm
  obtain ⟨la, ln, lc, ls, rfl, lh1, lh2, lh3⟩ := open_marks (hval 0 45 v0 rfl rfl) h0
  clear hA0 hval0
  refine (walk W la ln lc ls lh1 lh2 lh3).mono fun e W' ⟨he, bel⟩ => ?_
  subst he
  exact ⟨_, rfl, _, _, _, [], _, [], hW', trodAll_mk1 (shut_bool Try.underlying4 _), (trodAll_cons_mk (Below.trod laidOut (by kernel_rfl) (of_decide_eq_true (by kernel_rfl)) k0 bel lt0) trodAll_mk0), rfl, bel.frame _, fun h => by cases h⟩

theorem over : Rows.fnExactMarksOkRow.holds Try.pinned (OpenSpec.ofChange Rows.fnExactMarksOkSpec) :=
  OpenClaim.holds_of_wide 5 Try.f5 rfl rfl rfl rfl rfl rfl rfl ⟨rfl, rfl, rfl, rfl, rfl⟩ rfl rfl rfl rfl rfl (by kernel_rfl) Try.func5 (by kernel_rfl)
    (of_decide_eq_true (by kernel_rfl)) (by unfold Func.isWrapper; first | (rw [if_pos (by decide +kernel)]; kernel_rfl) | (rw [if_neg (by decide +kernel)]; exact ⟨rfl, rfl⟩))
    (fun os started H enc _ => lifted os started H enc)

theorem proved : Rows.FnExactMarksOkSaid := over
#print axioms proved
end Go.Proofs.Ytighiahppjekeaa.fnExactMarksOk
namespace Go.Proofs.Ytighiahppjekeaa
theorem fnExactMarksOk_holds : Rows.FnExactMarksOkSaid := fnExactMarksOk.proved
end Go.Proofs.Ytighiahppjekeaa
