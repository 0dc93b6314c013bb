/-
  At every argument Common answers as its model says, every field; it writes into no argument; its answer owns its memory. No conditions but the statement's own.
-/
import Derived.Test.YtighiahppjekeabRows
import Derived.Test.YtighiahppjekeabTbC
import Derived.Test.YtighiahppjekeabGrZ
import Derived.WalkKit
import Derived.ProofKit
import Derived.OpenShut
import Derived.ShutString
import Derived.ChangeOld
import Derived.Below
import Derived.Carry
namespace Go.Proofs.Ytighiahppjekeab.fnExactCommon
open Go.ChangeShapes Go.WideShapes Go.ChangeAt Go.RowKit
open Go.ChangeMaps (open_string shut_string)

theorem own : ownKnob Try.prog.godebug = none := by kernel_rfl
theorem laidOut : laidOutB Try.prog = true := by kernel_rfl

theorem Calls.still9 {P : Program} {f : FuncId} {args : Array Value} {w : World} {v : Value} (h : Calls P f args w fun e w' => e = .returned v ∧ w = w') : Calls P f args w fun e w' => e = .returned v ∧ Below w.heap.size w w' := by
  refine h.mono ?_
  rintro e _ ⟨rfl, rfl⟩
  exact ⟨rfl, Below.refl _ _⟩
theorem len_tot {t : Tb} {B : Nat} (h : totG t ≤ B) : ∀ (i : Nat) (q : List Int), t[i]? = some q → q.length ≤ B := fun i q hq => by
  have := totG_at hq
  omega
set_option maxHeartbeats 8000000 in
set_option maxRecDepth 100000 in
theorem walk (w : World) (ta : Option Addr) (tn tc : Nat) (ts : Tb) (th1 : tn ≤ 9223372036854775807) (th2 : RwG w (.slice ta tn tc) ts) (th3 : BigG ts) (_ : ∀ (i : Nat) (q : List Int), ts[i]? = some q → FitNs q) (m : Int) (_ : (Lit.int .i64 m).wf = true) :
    Calls Try.prog 6 #[.slice ta tn tc, .int .i64 m] w fun e w' => e = .returned (.bool true) ∧ Below w.heap.size w w' := by
  have R_t := hide th2
  have O_t := R_t
  clear th2
  obtain ⟨r, hr⟩ : ∃ r, Hid (com ts m = r) := ⟨_, hide rfl⟩
  have hne : (r != r) = false := by simp
  go_enter Try.func6, Try.ntmps6
  go_wp2_with fail
  refine (szgrid_any ta tn tc ts th3 1048576 (by omega) (by omega) _ th1 (unhide R_t)).mono ?_
  rintro e w1 ⟨h, b1⟩
  have cw1 := b1
  have zw1 := cw1.size
  have R_t := hide ((unhide R_t).later cw1)
  have BL := hide cw1
  clear b1 cw1
  rcases h with rfl | ⟨q, rfl, hq1, hq2⟩
  · go_wp2
    go_ret
    exact ⟨rfl, unhide BL⟩
  have hdq : decide (q < 0) = false := by simp; omega
  have tn1 : tn ≤ 1048576 := by omega
  have tt1 : totG ts ≤ 1048576 := by omega
  have HLT := hide (len_tot (B := 140737488351232) (t := ts) (by omega))
  go_wp2_with fail
  refine (togrid_any ta tn tc ts _ tn1 tt1 (unhide R_t)).mono ?_
  rintro e w2 ⟨Pa, Pc, rfl, o1, b2⟩
  have cw2 := b2
  have zw2 := cw2.size
  have R_t := hide ((unhide R_t).later cw2)
  have BL := hide ((unhide BL).trans (cw2.mono (unhide BL).size))
  have R_sP := hide (o1)
  clear b2 cw2
  clear o1
  go_wp2_with fail
  refine (Calls.still9 (scommon_any Pa tn Pc ts m r hr _ (by omega) (unhide HLT) (unhide R_sP).rw)).mono ?_
  rintro e w3 ⟨rfl, b3⟩
  have cw3 := b3
  have zw3 := cw3.size
  have R_t := hide ((unhide R_t).later cw3)
  have R_sP := hide ((unhide R_sP).later cw3)
  have BL := hide ((unhide BL).trans (cw3.mono (unhide BL).size))
  clear b3 cw3
  clear R_sP
  go_wp2_with fail
  refine (togrid_any ta tn tc ts _ tn1 tt1 (unhide R_t)).mono ?_
  rintro e w4 ⟨Xa, Xc, rfl, o1, b4⟩
  have cw4 := b4
  have zw4 := cw4.size
  have R_t := hide ((unhide R_t).later cw4)
  have BL := hide ((unhide BL).trans (cw4.mono (unhide BL).size))
  have R_sX := hide (o1)
  clear b4 cw4
  clear o1
  go_wp2_with fail
  refine (icommon_any Xa tn Xc ts m r hr _ (by omega) (unhide HLT) (unhide R_sX).rw).mono ?_
  rintro e w5 ⟨rfl, b5⟩
  have cw5 := b5
  have zw5 := cw5.size
  have R_t := hide ((unhide R_t).later cw5)
  have R_sX := hide ((unhide R_sX).later cw5)
  have BL := hide ((unhide BL).trans (cw5.mono (unhide BL).size))
  clear b5 cw5
  go_wp2_with fail
  refine (togrid_any ta tn tc ts _ tn1 tt1 (unhide R_t)).mono ?_
  rintro e w6 ⟨Ya, Yc, rfl, o1, b6⟩
  have cw6 := b6
  have zw6 := cw6.size
  have R_t := hide ((unhide R_t).later cw6)
  have R_sX := hide ((unhide R_sX).later cw6)
  have BL := hide ((unhide BL).trans (cw6.mono (unhide BL).size))
  have R_sY := hide (o1)
  clear b6 cw6
  clear o1
  go_wp2_with fail
  refine (eqgrid_same Xa tn Xc Ya Yc ts _ (by omega) (by omega) (unhide R_sX).rw (unhide R_sY).rw).mono ?_
  rintro e w7 ⟨rfl, b7⟩
  have cw7 := b7
  have zw7 := cw7.size
  have R_t := hide ((unhide R_t).later cw7)
  have R_sX := hide ((unhide R_sX).later cw7)
  have R_sY := hide ((unhide R_sY).later cw7)
  have BL := hide ((unhide BL).trans (cw7.mono (unhide BL).size))
  clear b7 cw7
  clear R_sY
  go_wp2
  go_ret
  exact ⟨rfl, unhide BL⟩

set_option maxHeartbeats 4000000 in
set_option maxRecDepth 100000 in
theorem lifted (os : Os) (started : os.Started) (H : Type) (enc : TypeId × Value → H) :
    ReturnsInHanded {} Try.checked os 6 .any (Rows.fnExactCommonSpec.pre6 enc Try.prog Try.f6 Rows.fnExactCommonRow.domain false) (Rows.fnExactCommonSpec.post enc Try.prog Try.f6 false true false false) := by
  refine returnsInHanded_of_change (C := Try.checked) own started (by kernel_rfl) Try.func6
    (ChangeSpec.witness6 (enc := enc) (C := Try.checked) false ⟨#[], #[.slice none 0 0, .int .i64 0], []⟩ 8 (by kernel_rfl) (by kernel_rfl) (by kernel_rfl) (by kernel_rfl)) ?_
  intro W base args ds gs before hval0 hW hcnd _
  have hval : ∀ (j : Nat) t v, Try.f6.params[j]? = some t → args[j]? = some v → Value.okWide Try.prog W .any base t v := hval0
  have hW' := hW
  obtain ⟨p, q, hA0, hV, rfl, hfz, hnd⟩ := hW
  have hA : DataW.TrodAll enc Try.prog W 0 (fun _ => true) true Try.f6.params.toList args.toList ds p := hA0
  rw [Try.params6] at hA hval
  obtain ⟨v0, vs0, d0, ds0, p0, q0, hargs0, rfl, rfl, h0, r0⟩ := trodAll_cons hA
  obtain ⟨v1, vs1, d1, ds1, p1, q1, hargs1, rfl, rfl, h1, r1⟩ := trodAll_cons r0
  obtain ⟨rfl, rfl, rfl⟩ := trodAll_nil r1
  obtain rfl : args = #[v0, v1] := by cases args; simp_all
  obtain ⟨rfl, rfl⟩ := trodVars_none hV
  have k0 := h0
  have lt0 : ∀ x ∈ p0, x.block < W.heap.size := by obtain ⟨m, hm⟩ := k0; exact DataW.trod_lt m _ _ _ hm
  have k1 := h1
  have lt1 : ∀ x ∈ p1, x.block < W.heap.size := by obtain ⟨m, hm⟩ := k1; exact DataW.trod_lt m _ _ _ hm
  obtain ⟨ta, tn, tc, ts, rfl, th1, th2, th3, th4⟩ := open_grid (hval 0 22 v0 rfl rfl) h0
  obtain ⟨m, rfl, -, -, wm⟩ := open_int Try.underlying3 (hval 1 3 v1 rfl rfl) h1
  clear hA0 hval0
  refine (walk W ta tn tc ts th1 th2 th3 th4 m wm).mono fun e W' ⟨he, bel⟩ => ?_
  subst he
  exact ⟨_, rfl, _, _, _, [], _, [], hW', trodAll_mk1 (shut_bool Try.underlying4 _), (trodAll_cons_mk (Below.trod laidOut (by kernel_rfl) (of_decide_eq_true (by kernel_rfl)) k0 bel lt0) (trodAll_cons_mk (Below.trod laidOut (by kernel_rfl) (of_decide_eq_true (by kernel_rfl)) k1 bel lt1) trodAll_mk0)), rfl, bel.frame _, fun h => by cases h⟩

theorem over : Rows.fnExactCommonRow.holds Try.pinned (OpenSpec.ofChange Rows.fnExactCommonSpec) :=
  OpenClaim.holds_of_wide 6 Try.f6 rfl rfl rfl rfl rfl rfl rfl ⟨rfl, rfl, rfl, rfl, rfl⟩ rfl rfl rfl rfl rfl (by kernel_rfl) Try.func6 (by kernel_rfl)
    (of_decide_eq_true (by kernel_rfl)) (by unfold Func.isWrapper; first | (rw [if_pos (by decide +kernel)]; kernel_rfl) | (rw [if_neg (by decide +kernel)]; exact ⟨rfl, rfl⟩))
    (fun os started H enc _ => lifted os started H enc)

theorem proved : Rows.FnExactCommonSaid := over
#print axioms proved
end Go.Proofs.Ytighiahppjekeab.fnExactCommon
namespace Go.Proofs.Ytighiahppjekeab
theorem fnExactCommon_holds : Rows.FnExactCommonSaid := fnExactCommon.proved
end Go.Proofs.Ytighiahppjekeab
