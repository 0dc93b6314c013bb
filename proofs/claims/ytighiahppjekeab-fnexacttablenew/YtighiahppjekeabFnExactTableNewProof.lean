/-
  At every argument TableNew answers as its model says, every field; its answer owns its memory. No conditions but the statement's own.
-/
import Derived.Test.YtighiahppjekeabRows
import Derived.Test.YtighiahppjekeabTbN
import Derived.WalkKit
import Derived.ProofKit
import Derived.OpenShut
import Derived.ShutString
import Derived.ChangeOld
import Derived.Below
import Derived.Carry
namespace Go.Proofs.Ytighiahppjekeab.fnExactTableNew
open Go.ChangeShapes Go.WideShapes Go.ChangeAt Go.RowKit
open Go.ChangeMaps (open_string shut_string)

theorem own : ownKnob Try.prog.godebug = none := by kernel_rfl
theorem laidOut : laidOutB Try.prog = true := by kernel_rfl

theorem Calls.still9 {P : Program} {f : FuncId} {args : Array Value} {w : World} {v : Value} (h : Calls P f args w fun e w' => e = .returned v ∧ w = w') : Calls P f args w fun e w' => e = .returned v ∧ Below w.heap.size w w' := by
  refine h.mono ?_
  rintro e _ ⟨rfl, rfl⟩
  exact ⟨rfl, Below.refl _ _⟩
theorem new_tot (n : Int) : totG (newT n) ≤ 25 := by
  have h : ∀ k : Nat, totG (List.replicate k nulR) = k * 5 := fun k => by
    induction k with
    | zero => rfl
    | succ k ih => rw [List.replicate_succ, totG, ih]; simp [nulR]; omega
  unfold newT
  split
  · rename_i q
    simp [inB] at q
    rw [h]; omega
  · simp [totG]
theorem snew_v (m : Int) (t : Tb) (ht : Hid (newT m = t)) (n : Nat) (hn : Hid (t.length = n)) (w : World) :
    Calls Try.prog 12 #[.int .i64 m] w fun e w' => ∃ a c, e = .returned (.slice a n c) ∧ OwG w.heap.size w'.heap.size w' (.slice a n c) t ∧ Below w.heap.size w w' := by
  refine (stablenew_any m w).mono ?_
  rintro e w1 ⟨a, m1, c, rfl, o1, b1⟩
  rw [unhide ht] at o1
  obtain rfl : m1 = n := (o1.rw.len.1).trans (unhide hn)
  exact ⟨a, c, rfl, o1, b1⟩
theorem inew_v (m : Int) (t : Tb) (ht : Hid (newT m = t)) (n : Nat) (hn : Hid (t.length = n)) (w : World) :
    Calls Try.prog 13 #[.int .i64 m] w fun e w' => ∃ a c, e = .returned (.slice a n c) ∧ OwG w.heap.size w'.heap.size w' (.slice a n c) t ∧ Below w.heap.size w w' := by
  refine (itablenew_any m w).mono ?_
  rintro e w1 ⟨a, m1, c, rfl, o1, b1⟩
  rw [unhide ht] at o1
  obtain rfl : m1 = n := (o1.rw.len.1).trans (unhide hn)
  exact ⟨a, c, rfl, o1, b1⟩
set_option maxHeartbeats 8000000 in
set_option maxRecDepth 100000 in
theorem walk (w : World) (m : Int) (_ : (Lit.int .i64 m).wf = true) :
    Calls Try.prog 4 #[.int .i64 m] w fun e w' => e = .returned (.bool true) ∧ Below w.heap.size w w' := by
  obtain ⟨t, ht⟩ : ∃ t, Hid (newT m = t) := ⟨_, hide rfl⟩
  obtain ⟨k, hk⟩ : ∃ k, Hid (t.length = k) := ⟨_, hide rfl⟩
  have hk5 : k ≤ 5 := by rw [← unhide hk, ← unhide ht]; exact newT_len m
  obtain ⟨s, hs⟩ : ∃ s, totG t = s := ⟨_, rfl⟩
  have hs5 : s ≤ 25 := by rw [← hs, ← unhide ht]; exact new_tot m
  have HS := hide hs
  clear hs
  go_enter Try.func4, Try.ntmps4
  go_wp2_with fail
  refine (snew_v m t ht k hk _).mono ?_
  rintro e w1 ⟨Wa, Wc, rfl, o1, b1⟩
  have cw1 := b1
  have zw1 := cw1.size
  have BL := hide cw1
  have R_sW := hide (o1)
  clear b1 cw1
  clear o1
  go_wp2_with fail
  refine (inew_v m t ht k hk _).mono ?_
  rintro e w2 ⟨Ga, Gc, rfl, o1, b2⟩
  have cw2 := b2
  have zw2 := cw2.size
  have R_sW := hide ((unhide R_sW).later cw2)
  have BL := hide ((unhide BL).trans (cw2.mono (unhide BL).size))
  have R_sG := hide (o1)
  clear b2 cw2
  clear o1
  go_wp2_with fail
  refine (eqgrid_same Ga k Gc Wa Wc t _ (by omega) (by rw [unhide HS]; omega) (unhide R_sG).rw (unhide R_sW).rw).mono ?_
  rintro e w3 ⟨rfl, b3⟩
  have cw3 := b3
  have zw3 := cw3.size
  have R_sW := hide ((unhide R_sW).later cw3)
  have R_sG := hide ((unhide R_sG).later cw3)
  have BL := hide ((unhide BL).trans (cw3.mono (unhide BL).size))
  clear b3 cw3
  go_wp2_with fail
  refine (markgrid_any _ _ Ga k Gc t 1 (by omega) (by omega) _ (by omega) (by rw [unhide HS]; omega) (unhide R_sG)).mono ?_
  rintro e w4 ⟨rfl, o1, t1⟩
  have zw4 := t1.size
  have R_sW := hide ((unhide R_sW).trn t1 (fun i q => by have q2 : _ ∧ _ := q; omega))
  have BL := hide (Trn.below (unhide BL) t1 (unhide BL).size (fun i q => by have q2 : _ ∧ _ := q; omega))
  have R_sG := hide o1
  clear o1 t1
  rw [unhide HS]
  have hq1 : decide ((1 : Int) + (s : Int) < 0) = false := by simp; omega
  have hq2 : ((1 : Int) + (s : Int) != 1 + (s : Int)) = false := by simp
  go_wp2_with fail
  refine (Calls.still9 (heldgrid_any Ga k Gc t 1 (by omega) (by omega) _ (by omega) (by rw [unhide HS]; omega) (unhide R_sG).rw)).mono ?_
  rintro e w5 ⟨rfl, b5⟩
  have cw5 := b5
  have zw5 := cw5.size
  have R_sW := hide ((unhide R_sW).later cw5)
  have R_sG := hide ((unhide R_sG).later cw5)
  have BL := hide ((unhide BL).trans (cw5.mono (unhide BL).size))
  clear b5 cw5
  rw [unhide HS]
  go_wp2_with fail
  refine (inew_v m t ht k hk _).mono ?_
  rintro e w6 ⟨Ha, Hc, rfl, o1, b6⟩
  have cw6 := b6
  have zw6 := cw6.size
  have R_sW := hide ((unhide R_sW).later cw6)
  have R_sG := hide ((unhide R_sG).later cw6)
  have BL := hide ((unhide BL).trans (cw6.mono (unhide BL).size))
  have R_sH := hide (o1)
  clear b6 cw6
  clear o1
  go_wp2_with fail
  refine (eqgrid_same Ha k Hc Wa Wc t _ (by omega) (by rw [unhide HS]; omega) (unhide R_sH).rw (unhide R_sW).rw).mono ?_
  rintro e w7 ⟨rfl, b7⟩
  have cw7 := b7
  have zw7 := cw7.size
  have R_sW := hide ((unhide R_sW).later cw7)
  have R_sG := hide ((unhide R_sG).later cw7)
  have R_sH := hide ((unhide R_sH).later cw7)
  have BL := hide ((unhide BL).trans (cw7.mono (unhide BL).size))
  clear b7 cw7
  go_wp2_with fail
  refine (Calls.still9 (heldgrid_any Ga k Gc t 1 (by omega) (by omega) _ (by omega) (by rw [unhide HS]; omega) (unhide R_sG).rw)).mono ?_
  rintro e w8 ⟨rfl, b8⟩
  have cw8 := b8
  have zw8 := cw8.size
  have R_sW := hide ((unhide R_sW).later cw8)
  have R_sG := hide ((unhide R_sG).later cw8)
  have R_sH := hide ((unhide R_sH).later cw8)
  have BL := hide ((unhide BL).trans (cw8.mono (unhide BL).size))
  clear b8 cw8
  rw [unhide HS]
  go_wp2
  go_ret
  exact ⟨rfl, unhide BL⟩

set_option maxHeartbeats 4000000 in
set_option maxRecDepth 100000 in
theorem lifted (os : Os) (started : os.Started) (H : Type) (enc : TypeId × Value → H) :
    ReturnsInHanded {} Try.checked os 4 .any (Rows.fnExactTableNewSpec.pre6 enc Try.prog Try.f4 Rows.fnExactTableNewRow.domain false) (Rows.fnExactTableNewSpec.post enc Try.prog Try.f4 false true false false) := by
  refine returnsInHanded_of_change (C := Try.checked) own started (by kernel_rfl) Try.func4
    (ChangeSpec.witness6 (enc := enc) (C := Try.checked) false ⟨#[], #[.int .i64 0], []⟩ 8 (by kernel_rfl) (by kernel_rfl) (by kernel_rfl) (by kernel_rfl)) ?_
  intro W base args ds gs before hval0 hW hcnd _
  have hval : ∀ (j : Nat) t v, Try.f4.params[j]? = some t → args[j]? = some v → Value.okWide Try.prog W .any base t v := hval0
  have hW' := hW
  obtain ⟨p, q, hA0, hV, rfl, hfz, hnd⟩ := hW
  have hA : DataW.TrodAll enc Try.prog W 0 (fun _ => true) true Try.f4.params.toList args.toList ds p := hA0
  rw [Try.params4] at hA hval
  obtain ⟨v0, vs0, d0, ds0, p0, q0, hargs0, rfl, rfl, h0, r0⟩ := trodAll_cons hA
  obtain ⟨rfl, rfl, rfl⟩ := trodAll_nil r0
  obtain rfl : args = #[v0] := by cases args; simp_all
  obtain ⟨rfl, rfl⟩ := trodVars_none hV
  have k0 := h0
  have lt0 : ∀ x ∈ p0, x.block < W.heap.size := by obtain ⟨m, hm⟩ := k0; exact DataW.trod_lt m _ _ _ hm
  obtain ⟨m, rfl, -, -, wm⟩ := open_int Try.underlying3 (hval 0 3 v0 rfl rfl) h0
  clear hA0 hval0
  refine (walk W m wm).mono fun e W' ⟨he, bel⟩ => ?_
  subst he
  exact ⟨_, rfl, _, _, _, [], _, [], hW', trodAll_mk1 (shut_bool Try.underlying4 _), (trodAll_cons_mk (Below.trod laidOut (by kernel_rfl) (of_decide_eq_true (by kernel_rfl)) k0 bel lt0) trodAll_mk0), rfl, bel.frame _, fun h => by cases h⟩

theorem over : Rows.fnExactTableNewRow.holds Try.pinned (OpenSpec.ofChange Rows.fnExactTableNewSpec) :=
  OpenClaim.holds_of_wide 4 Try.f4 rfl rfl rfl rfl rfl rfl rfl ⟨rfl, rfl, rfl, rfl, rfl⟩ rfl rfl rfl rfl rfl (by kernel_rfl) Try.func4 (by kernel_rfl)
    (of_decide_eq_true (by kernel_rfl)) (by unfold Func.isWrapper; first | (rw [if_pos (by decide +kernel)]; kernel_rfl) | (rw [if_neg (by decide +kernel)]; exact ⟨rfl, rfl⟩))
    (fun os started H enc _ => lifted os started H enc)

theorem proved : Rows.FnExactTableNewSaid := over
#print axioms proved
end Go.Proofs.Ytighiahppjekeab.fnExactTableNew
namespace Go.Proofs.Ytighiahppjekeab
theorem fnExactTableNew_holds : Rows.FnExactTableNewSaid := fnExactTableNew.proved
end Go.Proofs.Ytighiahppjekeab
