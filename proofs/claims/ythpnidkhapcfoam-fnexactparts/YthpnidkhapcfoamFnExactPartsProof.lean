/-
  The law FnExactParts answers true at every text and every byte. No condition.
-/
import Derived.Test.YthpnidkhapcfoamRows
import Derived.Test.YthpnidkhapcfoamParts
import Derived.WalkKit
import Derived.ProofKit
import Derived.OpenShut
import Derived.ShutString
namespace Go.Proofs.Ythpnidkhapcfoam.fnExactParts
open Go.ChangeShapes Go.WideShapes Go.ChangeAt Go.RowKit
open Go.ChangeMaps (open_string shut_string)
set_option linter.unusedVariables false      -- a walk need not use every 'w<i>' (that an integer argument fits its kind)

theorem own : ownKnob Try.prog.godebug = none := by kernel_rfl

set_option maxHeartbeats 1000000 in
theorem walk (a0 : ByteArray) (a1 : Int) (w0 : a0.size ≤ maxLen) (w1 : (Lit.int .u8 a1).wf = true) (w : World) :
    Calls Try.prog 4 #[.string a0, .int .u8 a1] w fun e w' => e = .returned (.bool true) ∧ Below w.heap.size w w' := by
  have hpl : (prt a1 (bl a0) []).length ≤ a0.size + 1 := by
    have := prt_length a1 (bl a0) []
    rw [bl_length] at this
    exact this
  unfold maxLen at w0
  by_cases hbig : 1048576 < a0.size
  · clear hpl
    go_enter Try.func4, Try.ntmps4
    go_wp2
    go_ret
    exact ⟨rfl, Below.refl _ _⟩
  · go_enter Try.func4, Try.ntmps4
    go_wp2_with fail
    refine (sparts_any _ _ _ (by omega)).mono ?_
    rintro e w1 ⟨u1, rfl, o1, b1⟩
    have O1 := hide o1
    have B1 := hide b1
    have HU := hide (fun k (hk : u1.ownBlock = some k) => (o1.lt k hk).2)
    clear o1 b1
    go_wp2_with fail
    refine (iparts_any _ _ _ (by omega)).mono ?_
    rintro e w2 ⟨u2, rfl, o2, b2⟩
    have O1 := hide (owns_later (unhide O1) b2 (Nat.le_refl _))
    have O2 := hide o2
    have hs1 := (unhide B1).size
    have B2 := hide ((unhide B1).trans (b2.mono hs1))
    have hs2 := b2.size
    clear o2 b2 B1
    go_wp2_with fail
    refine (eqstrs_same _ _ (prt a1 (bl a0) []) _ (by omega) (segv_of_owns (unhide O2)) (segv_of_owns (unhide O1))).mono ?_
    rintro e w3 ⟨rfl, b3⟩
    have O1 := hide (owns_later (unhide O1) (b3 _) (Nat.le_refl _))
    have O2 := hide (owns_later (unhide O2) (b3 _) (Nat.le_refl _))
    have B3 := hide ((unhide B2).trans (b3 _))
    have hs3 := (b3 0).size
    clear b3 B2
    go_wp2_with fail
    refine (markstrs_one _ _ _ _ _ (by omega) (by omega) (unhide O2)).mono ?_
    rintro e w4 ⟨rfl, o4, b4⟩
    have O1 := hide (owns_below (unhide O1) b4 (unhide HU))
    have O2 := hide o4
    have B4 := hide ((unhide B3).trans (b4.mono hs1))
    have hs4 := b4.size
    clear o4 b4 B3
    go_wp2_with fail
    refine (heldstrs_one _ _ _ (by omega) (segv_of_owns (unhide O2))).mono ?_
    rintro e w4h ⟨rfl, bh⟩
    have O1 := hide (owns_later (unhide O1) bh (Nat.le_refl _))
    have O2 := hide (owns_later (unhide O2) bh (Nat.le_refl _))
    have B4 := hide ((unhide B4).trans (bh.mono (by omega)))
    have hs5 := bh.size
    clear bh
    have hd1 : decide (1 + ((prt a1 (bl a0) []).length : Int) < 0) = false := by simp; omega
    have hd2 : ((1 + ((prt a1 (bl a0) []).length : Int)) != (1 + ((prt a1 (bl a0) []).length : Int))) = false := by simp
    go_wp2_with fail
    refine (iparts_any _ _ _ (by omega)).mono ?_
    rintro e w5 ⟨u5, rfl, o5, b5⟩
    have O1 := hide (owns_later (unhide O1) b5 (Nat.le_refl _))
    have O2 := hide (owns_later (unhide O2) b5 (Nat.le_refl _))
    have O5 := hide o5
    have B5 := hide ((unhide B4).trans (b5.mono (by omega)))
    clear o5 b5 B4
    go_wp2_with fail
    refine (eqstrs_same _ _ (prt a1 (bl a0) []) _ (by omega) (segv_of_owns (unhide O5)) (segv_of_owns (unhide O1))).mono ?_
    rintro e w6 ⟨rfl, b6⟩
    have O2 := hide (owns_later (unhide O2) (b6 _) (Nat.le_refl _))
    have B6 := hide ((unhide B5).trans (b6 _))
    clear b6 B5
    go_wp2_with fail
    refine (heldstrs_one _ _ _ (by omega) (segv_of_owns (unhide O2))).mono ?_
    rintro e w7 ⟨rfl, b7⟩
    have hs6 := (unhide B6).size
    have B7 := hide ((unhide B6).trans (b7.mono hs6))
    clear b7
    go_wp2
    go_ret
    exact ⟨rfl, unhide B7⟩
  -- go_enter Try.func4, Try.ntmps4
  -- go_wp2
  -- go_ret

/-! ### THE ROW's STEP: WRITTEN OUT: LEAVE IT -/
set_option maxRecDepth 100000 in
theorem lifted (os : Os) (started : os.Started) (H : Type) (enc : TypeId × Value → H) :
    ReturnsInHanded {} Try.checked os 4 .any (Rows.fnExactPartsSpec.pre6 enc Try.prog Try.f4 Rows.fnExactPartsRow.domain false) (Rows.fnExactPartsSpec.post enc Try.prog Try.f4 false true false false) := by
  refine returnsInHanded_of_change (C := Try.checked) own started (by kernel_rfl) Try.func4
    (ChangeSpec.witness6 (enc := enc) (C := Try.checked) false ⟨#[], #[.string ByteArray.empty, .int .u8 0], []⟩ 8 (by kernel_rfl) (by kernel_rfl) (by kernel_rfl) (by kernel_rfl)) ?_
  intro W base args ds gs before hval0 hW hcnd _
  have hval : ∀ (j : Nat) t v, Try.f4.params[j]? = some t → args[j]? = some v → Value.okWide Try.prog W .any base t v := hval0
  have hW' := hW
  obtain ⟨p, q, hA0, hV, rfl, hfz, hnd⟩ := hW
  have hA : DataW.TrodAll enc Try.prog W 0 (fun _ => true) true Try.f4.params.toList args.toList ds p := hA0
  rw [Try.params4] at hA hval
  obtain ⟨v0, vs0, d0, ds0, p0, q0, hargs, rfl, rfl, h0, r0⟩ := trodAll_cons hA
  obtain ⟨v1, vs1, d1, ds1, p1, q1, rfl, rfl, rfl, h1, r1⟩ := trodAll_cons r0
  obtain ⟨rfl, rfl, rfl⟩ := trodAll_nil r1
  obtain rfl : args = #[v0, v1] := by cases args; simp_all
  obtain ⟨rfl, rfl⟩ := trodVars_none hV
  obtain ⟨a0, rfl, rfl, rfl, w0⟩ := open_string Try.underlying9 (hval 0 9 v0 rfl rfl) h0
  obtain ⟨a1, rfl, rfl, rfl, w1⟩ := open_int Try.underlying5 (hval 1 5 v1 rfl rfl) h1
  clear hA0 hval0
  refine (walk a0 a1 w0 w1 W).mono fun e W' ⟨he, hg⟩ => ?_
  subst he
  exact ⟨_, rfl, _, _, _, [], _, [], hW', trodAll_mk1 (shut_bool Try.underlying4 _), (trodAll_cons_mk (shut_string Try.underlying9 w0) (trodAll_cons_mk (shut_int Try.underlying5 w1) trodAll_mk0)), rfl, hg.frame _, fun h => by cases h⟩

theorem over : Rows.fnExactPartsRow.holds Try.pinned (OpenSpec.ofChange Rows.fnExactPartsSpec) :=
  OpenClaim.holds_of_wide 4 Try.f4 rfl rfl rfl rfl rfl rfl rfl ⟨rfl, rfl, rfl, rfl, rfl⟩ rfl rfl rfl rfl rfl (by kernel_rfl) Try.func4 (by kernel_rfl)
    (of_decide_eq_true (by kernel_rfl)) (by unfold Func.isWrapper; first | (rw [if_pos (by decide +kernel)]; kernel_rfl) | (rw [if_neg (by decide +kernel)]; exact ⟨rfl, rfl⟩))
    (fun os started H enc _ => lifted os started H enc)

theorem proved : Rows.FnExactPartsSaid :=
  over
#print axioms proved
end Go.Proofs.Ythpnidkhapcfoam.fnExactParts
namespace Go.Proofs.Ythpnidkhapcfoam
theorem fnExactParts_holds : Rows.FnExactPartsSaid := fnExactParts.proved
end Go.Proofs.Ythpnidkhapcfoam
