/-
  The law FnExactEntryOk answers true at every entry. No condition.
-/
import Derived.Test.YtfijmdodopkkgaaRows
import Derived.Test.YtfijmdodopkkgaaEntA
import Derived.Test.YtfijmdodopkkgaaEntOk
import Derived.Test.YtfijmdodopkkgaaEntO
import Derived.WalkKit
import Derived.ProofKit
import Derived.OpenShut
import Derived.ShutString
import Derived.ChangeOld
import Derived.Below
import Derived.Carry
namespace Go.Proofs.Ytfijmdodopkkgaa.fnExactEntryOk
open Go.ChangeShapes Go.WideShapes Go.ChangeAt Go.RowKit
open Go.ChangeMaps (open_string shut_string)

theorem own : ownKnob Try.prog.godebug = none := by kernel_rfl
theorem laidOut : laidOutB Try.prog = true := by kernel_rfl

theorem kc {W w1 : World} {g o : Nat} {v : Value} (hb : Below W.heap.size W w1) (hg : g < W.heap.size) (c : W.cell? ⟨g, o, none⟩ = some v) : w1.cell? ⟨g, o, none⟩ = some v := (hb.cell (p := ⟨g, o, none⟩) hg).trans c

theorem keep0 {ai ar ab av : Int} {ad : ByteArray} {w W w1 : World} (hb : Below W.heap.size W w1) (hs : W.heap.size < w1.heap.size) (h : Below w.heap.size w W ∧ w.heap.size + 0 < W.heap.size ∧ W.cell? ⟨w.heap.size, 0, none⟩ = some (.int .i64 ai) ∧ W.cell? ⟨w.heap.size, 1, none⟩ = some (.int .i64 ar) ∧ W.cell? ⟨w.heap.size, 2, none⟩ = some (.int .i64 ab) ∧ W.cell? ⟨w.heap.size, 3, none⟩ = some (.int .i64 av) ∧ W.cell? ⟨w.heap.size, 4, none⟩ = some (.string ad)) : Below w.heap.size w w1 ∧ w.heap.size + 1 < w1.heap.size ∧ w1.cell? ⟨w.heap.size, 0, none⟩ = some (.int .i64 ai) ∧ w1.cell? ⟨w.heap.size, 1, none⟩ = some (.int .i64 ar) ∧ w1.cell? ⟨w.heap.size, 2, none⟩ = some (.int .i64 ab) ∧ w1.cell? ⟨w.heap.size, 3, none⟩ = some (.int .i64 av) ∧ w1.cell? ⟨w.heap.size, 4, none⟩ = some (.string ad) := by
  obtain ⟨b, z, c0, c1, c2, c3, c4⟩ := h
  have hz := hb.size
  exact ⟨b.trans (hb.mono (by omega)), by omega, kc hb (by omega) c0, kc hb (by omega) c1, kc hb (by omega) c2, kc hb (by omega) c3, kc hb (by omega) c4⟩

theorem keepS {ai ar ab av : Int} {ad : ByteArray} {w W w1 : World} (hb : Below W.heap.size W w1) (h : Below w.heap.size w W ∧ w.heap.size + 1 < W.heap.size ∧ W.cell? ⟨w.heap.size, 0, none⟩ = some (.int .i64 ai) ∧ W.cell? ⟨w.heap.size, 1, none⟩ = some (.int .i64 ar) ∧ W.cell? ⟨w.heap.size, 2, none⟩ = some (.int .i64 ab) ∧ W.cell? ⟨w.heap.size, 3, none⟩ = some (.int .i64 av) ∧ W.cell? ⟨w.heap.size, 4, none⟩ = some (.string ad)) : Below w.heap.size w w1 ∧ w.heap.size + 1 < w1.heap.size ∧ w1.cell? ⟨w.heap.size, 0, none⟩ = some (.int .i64 ai) ∧ w1.cell? ⟨w.heap.size, 1, none⟩ = some (.int .i64 ar) ∧ w1.cell? ⟨w.heap.size, 2, none⟩ = some (.int .i64 ab) ∧ w1.cell? ⟨w.heap.size, 3, none⟩ = some (.int .i64 av) ∧ w1.cell? ⟨w.heap.size, 4, none⟩ = some (.string ad) := by
  obtain ⟨b, z, c0, c1, c2, c3, c4⟩ := h
  have hz := hb.size
  exact ⟨b.trans (hb.mono (by omega)), by omega, kc hb (by omega) c0, kc hb (by omega) c1, kc hb (by omega) c2, kc hb (by omega) c3, kc hb (by omega) c4⟩

theorem keepD {ai ar ab av : Int} {ad : ByteArray} {w W : World} (h : Below w.heap.size w W ∧ w.heap.size + 1 < W.heap.size ∧ W.cell? ⟨w.heap.size, 0, none⟩ = some (.int .i64 ai) ∧ W.cell? ⟨w.heap.size, 1, none⟩ = some (.int .i64 ar) ∧ W.cell? ⟨w.heap.size, 2, none⟩ = some (.int .i64 ab) ∧ W.cell? ⟨w.heap.size, 3, none⟩ = some (.int .i64 av) ∧ W.cell? ⟨w.heap.size, 4, none⟩ = some (.string ad)) : Below w.heap.size w W.drew ∧ w.heap.size + 1 < W.drew.heap.size ∧ W.drew.cell? ⟨w.heap.size, 0, none⟩ = some (.int .i64 ai) ∧ W.drew.cell? ⟨w.heap.size, 1, none⟩ = some (.int .i64 ar) ∧ W.drew.cell? ⟨w.heap.size, 2, none⟩ = some (.int .i64 ab) ∧ W.drew.cell? ⟨w.heap.size, 3, none⟩ = some (.int .i64 av) ∧ W.drew.cell? ⟨w.heap.size, 4, none⟩ = some (.string ad) := ⟨h.1.drew, h.2⟩

set_option maxHeartbeats 4000000 in
theorem walk (ai ar ab av : Int) (ad : ByteArray) (sa : ad.size ≤ maxLen) (_ : -9223372036854775808 ≤ ai ∧ ai ≤ 9223372036854775807) (_ : -9223372036854775808 ≤ ar ∧ ar ≤ 9223372036854775807) (_ : -9223372036854775808 ≤ ab ∧ ab ≤ 9223372036854775807) (_ : -9223372036854775808 ≤ av ∧ av ≤ 9223372036854775807) (w : World) :
    Calls Try.prog 4 #[.agg #[.int .i64 ai, .int .i64 ar, .int .i64 ab, .int .i64 av, .string ad]] w fun e w' => e = .returned (.bool true) ∧ Below w.heap.size w w' := by
  go_enter Try.func4, Try.ntmps4
  go_wp2_with fail
  refine (sz_any ai ar ab av ad 1048576 (by omega) (by omega) sa _).mono ?_
  rintro e w1 ⟨rfl, b1, z1⟩
  have S1 : Below w.heap.size w w1 ∧ w.heap.size + 1 < w1.heap.size ∧ w1.cell? ⟨w.heap.size, 0, none⟩ = some (.int .i64 ai) ∧ w1.cell? ⟨w.heap.size, 1, none⟩ = some (.int .i64 ar) ∧ w1.cell? ⟨w.heap.size, 2, none⟩ = some (.int .i64 ab) ∧ w1.cell? ⟨w.heap.size, 3, none⟩ = some (.int .i64 av) ∧ w1.cell? ⟨w.heap.size, 4, none⟩ = some (.string ad) := keep0 b1 z1 ⟨((Below.refl w.heap.size w).alloc (Nat.le_refl _) _), by simp, by simp [go_sem], by simp [go_sem], by simp [go_sem], by simp [go_sem], by simp [go_sem]⟩
  have H1 := hide S1
  obtain ⟨-, hz, c0, c1, c2, c3, c4⟩ := S1
  clear b1 z1
  by_cases hbig0 : 1048576 < (ad.size : Int)
  · rw [if_pos hbig0]
    go_wp2
    go_ret
    exact ⟨rfl, (unhide H1).1⟩
  rw [if_neg hbig0]
  have hd0 : decide (1048576 - (ad.size : Int) < 0) = false := by simp; omega
  have hq : (okE ai ar ab av ad != okE ai ar ab av ad) = false := by simp
  go_wp2_with fail
  refine (toentry_any ai ar ab av ad _).mono ?_
  rintro e w2 ⟨rfl, b2⟩
  have S2 := keepS b2 (unhide H1)
  have H2 := hide S2
  clear b2 hz c0 c1 c2 c3 c4 H1
  obtain ⟨-, hz, c0, c1, c2, c3, c4⟩ := S2
  go_wp2_with fail
  refine (sok_any ai ar ab av ad _).mono ?_
  rintro e w3 ⟨rfl, b3⟩
  have S3 := keepS b3 (unhide H2)
  have H3 := hide S3
  clear b3 hz c0 c1 c2 c3 c4 H2
  obtain ⟨-, hz, c0, c1, c2, c3, c4⟩ := S3
  go_wp2_with fail
  refine (toentry_any ai ar ab av ad _).mono ?_
  rintro e w4 ⟨rfl, b4⟩
  have S4 := keepS b4 (unhide H3)
  have H4 := hide S4
  clear b4 hz c0 c1 c2 c3 c4 H3
  obtain ⟨-, hz, c0, c1, c2, c3, c4⟩ := S4
  go_wp2_with fail
  refine (iok_any ai ar ab av ad _).mono ?_
  rintro e w5 ⟨rfl, b5⟩
  have S5 := keepS b5 (unhide H4)
  have H5 := hide S5
  clear b5 hz c0 c1 c2 c3 c4 H4
  obtain ⟨-, hz, c0, c1, c2, c3, c4⟩ := S5
  go_wp2
  go_ret
  exact ⟨rfl, (unhide H5).1⟩

set_option maxHeartbeats 4000000 in
set_option maxRecDepth 100000 in
theorem lifted (os : Os) (started : os.Started) (H : Type) (enc : TypeId × Value → H) :
    ReturnsInHanded {} Try.checked os 4 .any (Rows.fnExactEntryOkSpec.pre6 enc Try.prog Try.f4 Rows.fnExactEntryOkRow.domain false) (Rows.fnExactEntryOkSpec.post enc Try.prog Try.f4 false true false false) := by
  refine returnsInHanded_of_change (C := Try.checked) own started (by kernel_rfl) Try.func4
    (ChangeSpec.witness6 (enc := enc) (C := Try.checked) false ⟨#[], #[.agg #[.int .i64 0, .int .i64 0, .int .i64 0, .int .i64 0, .string ByteArray.empty]], []⟩ 8 (by kernel_rfl) (by kernel_rfl) (by kernel_rfl) (by kernel_rfl)) ?_
  intro W base args ds gs before hval0 hW hcnd _
  have hval : ∀ (j : Nat) t v, Try.f4.params[j]? = some t → args[j]? = some v → Value.okWide Try.prog W .any base t v := hval0
  have hW' := hW
  obtain ⟨p, q, hA0, hV, rfl, hfz, hnd⟩ := hW
  have hA : DataW.TrodAll enc Try.prog W 0 (fun _ => true) true Try.f4.params.toList args.toList ds p := hA0
  rw [Try.params4] at hA hval
  obtain ⟨v0, vs0, d0, ds0, p0, q0, hargs0, rfl, rfl, h0, r0⟩ := trodAll_cons hA
  obtain ⟨rfl, rfl, rfl⟩ := trodAll_nil r0
  obtain rfl : args = #[v0] := by cases args; simp_all
  obtain ⟨rfl, rfl⟩ := trodVars_none hV
  have k0 := h0
  have lt0 : ∀ x ∈ p0, x.block < W.heap.size := by obtain ⟨m, hm⟩ := k0; exact DataW.trod_lt m _ _ _ hm
  obtain ⟨ai, ar, ab, av, ad, rfl, sa, qai, qar, qab, qav⟩ := open_ent (hval 0 32 v0 rfl rfl) h0
  clear hA0 hval0
  refine (walk ai ar ab av ad sa qai qar qab qav W).mono fun e W' ⟨he, bel⟩ => ?_
  subst he
  exact ⟨_, rfl, _, _, _, [], _, [], hW', trodAll_mk1 (shut_bool Try.underlying4 _), (trodAll_cons_mk (Below.trod laidOut (by kernel_rfl) (of_decide_eq_true (by kernel_rfl)) k0 bel lt0) trodAll_mk0), rfl, bel.frame _, fun h => by cases h⟩

theorem over : Rows.fnExactEntryOkRow.holds Try.pinned (OpenSpec.ofChange Rows.fnExactEntryOkSpec) :=
  OpenClaim.holds_of_wide 4 Try.f4 rfl rfl rfl rfl rfl rfl rfl ⟨rfl, rfl, rfl, rfl, rfl⟩ rfl rfl rfl rfl rfl (by kernel_rfl) Try.func4 (by kernel_rfl)
    (of_decide_eq_true (by kernel_rfl)) (by unfold Func.isWrapper; first | (rw [if_pos (by decide +kernel)]; kernel_rfl) | (rw [if_neg (by decide +kernel)]; exact ⟨rfl, rfl⟩))
    (fun os started H enc _ => lifted os started H enc)

theorem proved : Rows.FnExactEntryOkSaid := over
#print axioms proved
end Go.Proofs.Ytfijmdodopkkgaa.fnExactEntryOk
namespace Go.Proofs.Ytfijmdodopkkgaa
theorem fnExactEntryOk_holds : Rows.FnExactEntryOkSaid := fnExactEntryOk.proved
end Go.Proofs.Ytfijmdodopkkgaa
