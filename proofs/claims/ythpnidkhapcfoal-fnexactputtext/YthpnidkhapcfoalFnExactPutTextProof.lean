/-
  The law FnExactPutText answers true at every text. No condition.
-/
import Derived.Test.YthpnidkhapcfoalRows
import Derived.Test.YthpnidkhapcfoalMarks
import Derived.Test.YthpnidkhapcfoalPutText
import Derived.WalkKit
import Derived.ProofKit
import Derived.OpenShut
import Derived.ShutString
namespace Go.Proofs.Ythpnidkhapcfoal.fnExactPutText
open Go.ChangeShapes Go.WideShapes Go.ChangeAt Go.RowKit
open Go.ChangeMaps (open_string shut_string)
set_option linter.unusedVariables false      -- a walk need not use every 'w<i>' (that an integer argument fits its kind)

theorem own : ownKnob Try.prog.godebug = none := by kernel_rfl

set_option maxHeartbeats 1000000 in
theorem walk (a0 : ByteArray) (w0 : a0.size ≤ maxLen) (w : World) :
    Calls Try.prog 6 #[.string a0] w fun e w' => e = .returned (.bool true) ∧ Below w.heap.size w w' := by
  have hpl : (putT (bl a0)).length ≤ 5 + a0.size := by
    unfold putT
    rw [List.length_append, bl_length]
    have := putN_length a0.size
    omega
  unfold maxLen at w0
  by_cases hbig : 1048576 < a0.size
  · clear hpl
    go_enter Try.func6, Try.ntmps6
    go_wp2
    go_ret
    exact ⟨rfl, Below.refl _ _⟩
  · go_enter Try.func6, Try.ntmps6
    go_wp2_with fail
    refine (sputtext_any _ _ (by omega)).mono ?_
    rintro e w1 ⟨u1, rfl, o1, b1⟩
    have O1 := hide o1
    have B1 := hide b1
    have HU := hide (fun k (hk : u1.ownBlock = some k) => (o1.lt k hk).2)
    clear o1 b1
    go_wp2_with fail
    refine (iputtext_any _ _ (by omega)).mono ?_
    rintro e w2 ⟨u2, rfl, o2, b2⟩
    have O1 := hide (owns_later (unhide O1) b2 (Nat.le_refl _))
    have O2 := hide o2
    have hs1 := (unhide B1).size
    have B2 := hide ((unhide B1).trans (b2.mono hs1))
    have hs2 := b2.size
    clear o2 b2 B1
    go_wp2_with fail
    refine (eqbytes_same _ _ (putT (bl a0)) _ (by omega) (seg_of_owns (unhide O2)) (seg_of_owns (unhide O1))).mono ?_
    rintro e w3 ⟨rfl, b3⟩
    have O1 := hide (owns_later (unhide O1) (b3 _) (Nat.le_refl _))
    have O2 := hide (owns_later (unhide O2) (b3 _) (Nat.le_refl _))
    have B3 := hide ((unhide B2).trans (b3 _))
    have hs3 := (b3 0).size
    clear b3 B2
    go_wp2_with fail
    refine (mark_any _ _ _ _ _ _ (by omega) (by omega) (by omega) (unhide O2)).mono ?_
    rintro e w4 ⟨rfl, o4, b4⟩
    have O1 := hide (owns_below (unhide O1) b4 (unhide HU))
    have O2 := hide o4
    have B4 := hide ((unhide B3).trans (b4.mono hs1))
    have hs4 := b4.size
    clear o4 b4 B3
    go_wp2_with fail
    refine (held_any _ _ _ _ (by omega) (by omega) (by omega) (seg_of_owns (unhide O2))).mono ?_
    rintro e _ ⟨rfl, rfl⟩
    have hd1 : decide (1 + ((putT (bl a0)).length : Int) < 0) = false := by simp; omega
    have hd2 : ((1 + ((putT (bl a0)).length : Int)) != (1 + ((putT (bl a0)).length : Int))) = false := by simp
    go_wp2_with fail
    refine (iputtext_any _ _ (by omega)).mono ?_
    rintro e w5 ⟨u5, rfl, o5, b5⟩
    have O1 := hide (owns_later (unhide O1) b5 (Nat.le_refl _))
    have O2 := hide (owns_later (unhide O2) b5 (Nat.le_refl _))
    have O5 := hide o5
    have B5 := hide ((unhide B4).trans (b5.mono (by omega)))
    clear o5 b5 B4
    go_wp2_with fail
    refine (eqbytes_same _ _ (putT (bl a0)) _ (by omega) (seg_of_owns (unhide O5)) (seg_of_owns (unhide O1))).mono ?_
    rintro e w6 ⟨rfl, b6⟩
    have O2 := hide (owns_later (unhide O2) (b6 _) (Nat.le_refl _))
    have B6 := hide ((unhide B5).trans (b6 _))
    clear b6 B5
    go_wp2_with fail
    refine (held_any _ _ _ _ (by omega) (by omega) (by omega) (seg_of_owns (unhide O2))).mono ?_
    rintro e _ ⟨rfl, rfl⟩
    go_wp2
    go_ret
    exact ⟨rfl, unhide B6⟩
  -- go_enter Try.func6, Try.ntmps6
  -- go_wp2
  -- go_ret

/-! ### THE ROW's STEP: WRITTEN OUT: LEAVE IT -/
set_option maxRecDepth 100000 in
theorem lifted (os : Os) (started : os.Started) (H : Type) (enc : TypeId × Value → H) :
    ReturnsInHanded {} Try.checked os 6 .any (Rows.fnExactPutTextSpec.pre6 enc Try.prog Try.f6 Rows.fnExactPutTextRow.domain false) (Rows.fnExactPutTextSpec.post enc Try.prog Try.f6 false true false false) := by
  refine returnsInHanded_of_change (C := Try.checked) own started (by kernel_rfl) Try.func6
    (ChangeSpec.witness6 (enc := enc) (C := Try.checked) false ⟨#[], #[.string ByteArray.empty], []⟩ 8 (by kernel_rfl) (by kernel_rfl) (by kernel_rfl) (by kernel_rfl)) ?_
  intro W base args ds gs before hval0 hW hcnd _
  have hval : ∀ (j : Nat) t v, Try.f6.params[j]? = some t → args[j]? = some v → Value.okWide Try.prog W .any base t v := hval0
  have hW' := hW
  obtain ⟨p, q, hA0, hV, rfl, hfz, hnd⟩ := hW
  have hA : DataW.TrodAll enc Try.prog W 0 (fun _ => true) true Try.f6.params.toList args.toList ds p := hA0
  rw [Try.params6] at hA hval
  obtain ⟨v0, vs0, d0, ds0, p0, q0, hargs, rfl, rfl, h0, r0⟩ := trodAll_cons hA
  obtain ⟨rfl, rfl, rfl⟩ := trodAll_nil r0
  obtain rfl : args = #[v0] := by cases args; simp_all
  obtain ⟨rfl, rfl⟩ := trodVars_none hV
  obtain ⟨a0, rfl, rfl, rfl, w0⟩ := open_string Try.underlying9 (hval 0 9 v0 rfl rfl) h0
  clear hA0 hval0
  refine (walk a0 w0 W).mono fun e W' ⟨he, hg⟩ => ?_
  subst he
  exact ⟨_, rfl, _, _, _, [], _, [], hW', trodAll_mk1 (shut_bool Try.underlying4 _), (trodAll_cons_mk (shut_string Try.underlying9 w0) trodAll_mk0), rfl, hg.frame _, fun h => by cases h⟩

theorem over : Rows.fnExactPutTextRow.holds Try.pinned (OpenSpec.ofChange Rows.fnExactPutTextSpec) :=
  OpenClaim.holds_of_wide 6 Try.f6 rfl rfl rfl rfl rfl rfl rfl ⟨rfl, rfl, rfl, rfl, rfl⟩ rfl rfl rfl rfl rfl (by kernel_rfl) Try.func6 (by kernel_rfl)
    (of_decide_eq_true (by kernel_rfl)) (by unfold Func.isWrapper; first | (rw [if_pos (by decide +kernel)]; kernel_rfl) | (rw [if_neg (by decide +kernel)]; exact ⟨rfl, rfl⟩))
    (fun os started H enc _ => lifted os started H enc)

theorem proved : Rows.FnExactPutTextSaid :=
  over
#print axioms proved
end Go.Proofs.Ythpnidkhapcfoal.fnExactPutText
namespace Go.Proofs.Ythpnidkhapcfoal
theorem fnExactPutText_holds : Rows.FnExactPutTextSaid := fnExactPutText.proved
end Go.Proofs.Ythpnidkhapcfoal
