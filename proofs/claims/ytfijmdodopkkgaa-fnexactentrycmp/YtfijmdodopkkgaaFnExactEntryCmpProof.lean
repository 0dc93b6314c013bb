/-
  The law FnExactEntryCmp answers true at every two entries. No condition.
-/
import Derived.Test.YtfijmdodopkkgaaRows
import Derived.Test.YtfijmdodopkkgaaEntA
import Derived.Test.YtfijmdodopkkgaaEntSCmp
import Derived.Test.YtfijmdodopkkgaaEntO
import Derived.WalkKit
import Derived.ProofKit
import Derived.OpenShut
import Derived.ShutString
import Derived.ChangeOld
import Derived.Below
import Derived.Carry
namespace Go.Proofs.Ytfijmdodopkkgaa.fnExactEntryCmp
open Go.ChangeShapes Go.WideShapes Go.ChangeAt Go.RowKit
open Go.ChangeMaps (open_string shut_string)

theorem own : ownKnob Try.prog.godebug = none := by kernel_rfl
theorem laidOut : laidOutB Try.prog = true := by kernel_rfl

theorem kc {W w1 : World} {g o : Nat} {v : Value} (hb : Below W.heap.size W w1) (hg : g < W.heap.size) (c : W.cell? ⟨g, o, none⟩ = some v) : w1.cell? ⟨g, o, none⟩ = some v := (hb.cell (p := ⟨g, o, none⟩) hg).trans c

theorem keep0 {ai ar ab av : Int} {ad : ByteArray} {bi br bb bv : Int} {bd : ByteArray} {w W w1 : World} (hb : Below W.heap.size W w1) (hs : W.heap.size < w1.heap.size) (h : Below w.heap.size w W ∧ w.heap.size + 1 < W.heap.size ∧ W.cell? ⟨w.heap.size, 0, none⟩ = some (.int .i64 ai) ∧ W.cell? ⟨w.heap.size, 1, none⟩ = some (.int .i64 ar) ∧ W.cell? ⟨w.heap.size, 2, none⟩ = some (.int .i64 ab) ∧ W.cell? ⟨w.heap.size, 3, none⟩ = some (.int .i64 av) ∧ W.cell? ⟨w.heap.size, 4, none⟩ = some (.string ad) ∧ W.cell? ⟨w.heap.size + 1, 0, none⟩ = some (.int .i64 bi) ∧ W.cell? ⟨w.heap.size + 1, 1, none⟩ = some (.int .i64 br) ∧ W.cell? ⟨w.heap.size + 1, 2, none⟩ = some (.int .i64 bb) ∧ W.cell? ⟨w.heap.size + 1, 3, none⟩ = some (.int .i64 bv) ∧ W.cell? ⟨w.heap.size + 1, 4, none⟩ = some (.string bd)) : Below w.heap.size w w1 ∧ w.heap.size + 2 < w1.heap.size ∧ w1.cell? ⟨w.heap.size, 0, none⟩ = some (.int .i64 ai) ∧ w1.cell? ⟨w.heap.size, 1, none⟩ = some (.int .i64 ar) ∧ w1.cell? ⟨w.heap.size, 2, none⟩ = some (.int .i64 ab) ∧ w1.cell? ⟨w.heap.size, 3, none⟩ = some (.int .i64 av) ∧ w1.cell? ⟨w.heap.size, 4, none⟩ = some (.string ad) ∧ w1.cell? ⟨w.heap.size + 1, 0, none⟩ = some (.int .i64 bi) ∧ w1.cell? ⟨w.heap.size + 1, 1, none⟩ = some (.int .i64 br) ∧ w1.cell? ⟨w.heap.size + 1, 2, none⟩ = some (.int .i64 bb) ∧ w1.cell? ⟨w.heap.size + 1, 3, none⟩ = some (.int .i64 bv) ∧ w1.cell? ⟨w.heap.size + 1, 4, none⟩ = some (.string bd) := by
  obtain ⟨b, z, c0, c1, c2, c3, c4, c5, c6, c7, c8, c9⟩ := h
  have hz := hb.size
  exact ⟨b.trans (hb.mono (by omega)), by omega, kc hb (by omega) c0, kc hb (by omega) c1, kc hb (by omega) c2, kc hb (by omega) c3, kc hb (by omega) c4, kc hb (by omega) c5, kc hb (by omega) c6, kc hb (by omega) c7, kc hb (by omega) c8, kc hb (by omega) c9⟩

theorem keepS {ai ar ab av : Int} {ad : ByteArray} {bi br bb bv : Int} {bd : ByteArray} {w W w1 : World} (hb : Below W.heap.size W w1) (h : Below w.heap.size w W ∧ w.heap.size + 2 < W.heap.size ∧ W.cell? ⟨w.heap.size, 0, none⟩ = some (.int .i64 ai) ∧ W.cell? ⟨w.heap.size, 1, none⟩ = some (.int .i64 ar) ∧ W.cell? ⟨w.heap.size, 2, none⟩ = some (.int .i64 ab) ∧ W.cell? ⟨w.heap.size, 3, none⟩ = some (.int .i64 av) ∧ W.cell? ⟨w.heap.size, 4, none⟩ = some (.string ad) ∧ W.cell? ⟨w.heap.size + 1, 0, none⟩ = some (.int .i64 bi) ∧ W.cell? ⟨w.heap.size + 1, 1, none⟩ = some (.int .i64 br) ∧ W.cell? ⟨w.heap.size + 1, 2, none⟩ = some (.int .i64 bb) ∧ W.cell? ⟨w.heap.size + 1, 3, none⟩ = some (.int .i64 bv) ∧ W.cell? ⟨w.heap.size + 1, 4, none⟩ = some (.string bd)) : Below w.heap.size w w1 ∧ w.heap.size + 2 < w1.heap.size ∧ w1.cell? ⟨w.heap.size, 0, none⟩ = some (.int .i64 ai) ∧ w1.cell? ⟨w.heap.size, 1, none⟩ = some (.int .i64 ar) ∧ w1.cell? ⟨w.heap.size, 2, none⟩ = some (.int .i64 ab) ∧ w1.cell? ⟨w.heap.size, 3, none⟩ = some (.int .i64 av) ∧ w1.cell? ⟨w.heap.size, 4, none⟩ = some (.string ad) ∧ w1.cell? ⟨w.heap.size + 1, 0, none⟩ = some (.int .i64 bi) ∧ w1.cell? ⟨w.heap.size + 1, 1, none⟩ = some (.int .i64 br) ∧ w1.cell? ⟨w.heap.size + 1, 2, none⟩ = some (.int .i64 bb) ∧ w1.cell? ⟨w.heap.size + 1, 3, none⟩ = some (.int .i64 bv) ∧ w1.cell? ⟨w.heap.size + 1, 4, none⟩ = some (.string bd) := by
  obtain ⟨b, z, c0, c1, c2, c3, c4, c5, c6, c7, c8, c9⟩ := h
  have hz := hb.size
  exact ⟨b.trans (hb.mono (by omega)), by omega, kc hb (by omega) c0, kc hb (by omega) c1, kc hb (by omega) c2, kc hb (by omega) c3, kc hb (by omega) c4, kc hb (by omega) c5, kc hb (by omega) c6, kc hb (by omega) c7, kc hb (by omega) c8, kc hb (by omega) c9⟩

theorem keepD {ai ar ab av : Int} {ad : ByteArray} {bi br bb bv : Int} {bd : ByteArray} {w W : World} (h : Below w.heap.size w W ∧ w.heap.size + 2 < W.heap.size ∧ W.cell? ⟨w.heap.size, 0, none⟩ = some (.int .i64 ai) ∧ W.cell? ⟨w.heap.size, 1, none⟩ = some (.int .i64 ar) ∧ W.cell? ⟨w.heap.size, 2, none⟩ = some (.int .i64 ab) ∧ W.cell? ⟨w.heap.size, 3, none⟩ = some (.int .i64 av) ∧ W.cell? ⟨w.heap.size, 4, none⟩ = some (.string ad) ∧ W.cell? ⟨w.heap.size + 1, 0, none⟩ = some (.int .i64 bi) ∧ W.cell? ⟨w.heap.size + 1, 1, none⟩ = some (.int .i64 br) ∧ W.cell? ⟨w.heap.size + 1, 2, none⟩ = some (.int .i64 bb) ∧ W.cell? ⟨w.heap.size + 1, 3, none⟩ = some (.int .i64 bv) ∧ W.cell? ⟨w.heap.size + 1, 4, none⟩ = some (.string bd)) : Below w.heap.size w W.drew ∧ w.heap.size + 2 < W.drew.heap.size ∧ W.drew.cell? ⟨w.heap.size, 0, none⟩ = some (.int .i64 ai) ∧ W.drew.cell? ⟨w.heap.size, 1, none⟩ = some (.int .i64 ar) ∧ W.drew.cell? ⟨w.heap.size, 2, none⟩ = some (.int .i64 ab) ∧ W.drew.cell? ⟨w.heap.size, 3, none⟩ = some (.int .i64 av) ∧ W.drew.cell? ⟨w.heap.size, 4, none⟩ = some (.string ad) ∧ W.drew.cell? ⟨w.heap.size + 1, 0, none⟩ = some (.int .i64 bi) ∧ W.drew.cell? ⟨w.heap.size + 1, 1, none⟩ = some (.int .i64 br) ∧ W.drew.cell? ⟨w.heap.size + 1, 2, none⟩ = some (.int .i64 bb) ∧ W.drew.cell? ⟨w.heap.size + 1, 3, none⟩ = some (.int .i64 bv) ∧ W.drew.cell? ⟨w.heap.size + 1, 4, none⟩ = some (.string bd) := ⟨h.1.drew, h.2⟩

set_option maxHeartbeats 4000000 in
theorem walk (ai ar ab av : Int) (ad : ByteArray) (sa : ad.size ≤ maxLen) (_ : -9223372036854775808 ≤ ai ∧ ai ≤ 9223372036854775807) (_ : -9223372036854775808 ≤ ar ∧ ar ≤ 9223372036854775807) (_ : -9223372036854775808 ≤ ab ∧ ab ≤ 9223372036854775807) (_ : -9223372036854775808 ≤ av ∧ av ≤ 9223372036854775807) (bi br bb bv : Int) (bd : ByteArray) (sb : bd.size ≤ maxLen) (_ : -9223372036854775808 ≤ bi ∧ bi ≤ 9223372036854775807) (_ : -9223372036854775808 ≤ br ∧ br ≤ 9223372036854775807) (_ : -9223372036854775808 ≤ bb ∧ bb ≤ 9223372036854775807) (_ : -9223372036854775808 ≤ bv ∧ bv ≤ 9223372036854775807) (w : World) :
    Calls Try.prog 5 #[.agg #[.int .i64 ai, .int .i64 ar, .int .i64 ab, .int .i64 av, .string ad], .agg #[.int .i64 bi, .int .i64 br, .int .i64 bb, .int .i64 bv, .string bd]] w fun e w' => e = .returned (.bool true) ∧ Below w.heap.size w w' := by
  go_enter Try.func5, Try.ntmps5
  go_wp2_with fail
  refine (sz_any ai ar ab av ad 1048576 (by omega) (by omega) sa _).mono ?_
  rintro e w1 ⟨rfl, b1, z1⟩
  have S1 : Below w.heap.size w w1 ∧ w.heap.size + 2 < w1.heap.size ∧ w1.cell? ⟨w.heap.size, 0, none⟩ = some (.int .i64 ai) ∧ w1.cell? ⟨w.heap.size, 1, none⟩ = some (.int .i64 ar) ∧ w1.cell? ⟨w.heap.size, 2, none⟩ = some (.int .i64 ab) ∧ w1.cell? ⟨w.heap.size, 3, none⟩ = some (.int .i64 av) ∧ w1.cell? ⟨w.heap.size, 4, none⟩ = some (.string ad) ∧ w1.cell? ⟨w.heap.size + 1, 0, none⟩ = some (.int .i64 bi) ∧ w1.cell? ⟨w.heap.size + 1, 1, none⟩ = some (.int .i64 br) ∧ w1.cell? ⟨w.heap.size + 1, 2, none⟩ = some (.int .i64 bb) ∧ w1.cell? ⟨w.heap.size + 1, 3, none⟩ = some (.int .i64 bv) ∧ w1.cell? ⟨w.heap.size + 1, 4, none⟩ = some (.string bd) := keep0 b1 z1 ⟨(((Below.refl w.heap.size w).alloc (Nat.le_refl _) _).alloc (by simp) _), by simp, by simp [go_sem], by simp [go_sem], by simp [go_sem], by simp [go_sem], by simp [go_sem], by simp [go_sem], by simp [go_sem], by simp [go_sem], by simp [go_sem], by simp [go_sem]⟩
  have H1 := hide S1
  obtain ⟨-, hz, c0, c1, c2, c3, c4, c5, c6, c7, c8, c9⟩ := S1
  clear b1 z1
  by_cases hbig0 : 1048576 < (ad.size : Int)
  · rw [if_pos hbig0]
    go_wp2
    go_ret
    exact ⟨rfl, (unhide H1).1⟩
  rw [if_neg hbig0]
  have hd0 : decide (1048576 - (ad.size : Int) < 0) = false := by simp; omega
  go_wp2_with fail
  refine (sz_any bi br bb bv bd (1048576 - (ad.size : Int)) (by omega) (by omega) sb _).mono ?_
  rintro e w2 ⟨rfl, b2, z2⟩
  have S2 := keepS b2 (unhide H1)
  have H2 := hide S2
  obtain ⟨-, hz, c0, c1, c2, c3, c4, c5, c6, c7, c8, c9⟩ := S2
  clear b2 z2
  by_cases hbig1 : 1048576 - (ad.size : Int) < (bd.size : Int)
  · rw [if_pos hbig1]
    go_wp2
    go_ret
    exact ⟨rfl, (unhide H2).1⟩
  rw [if_neg hbig1]
  have hd1 : decide (1048576 - (ad.size : Int) - (bd.size : Int) < 0) = false := by simp; omega
  have hq : (cmpE ai ar ab av ad bi br bb bv bd != cmpE ai ar ab av ad bi br bb bv bd) = false := by simp
  go_wp2_with fail
  go_region_held3 (fun w' => Below w.heap.size w w' ∧ w.heap.size + 2 < w'.heap.size ∧ w'.cell? ⟨w.heap.size, 0, none⟩ = some (.int .i64 ai) ∧ w'.cell? ⟨w.heap.size, 1, none⟩ = some (.int .i64 ar) ∧ w'.cell? ⟨w.heap.size, 2, none⟩ = some (.int .i64 ab) ∧ w'.cell? ⟨w.heap.size, 3, none⟩ = some (.int .i64 av) ∧ w'.cell? ⟨w.heap.size, 4, none⟩ = some (.string ad) ∧ w'.cell? ⟨w.heap.size + 1, 0, none⟩ = some (.int .i64 bi) ∧ w'.cell? ⟨w.heap.size + 1, 1, none⟩ = some (.int .i64 br) ∧ w'.cell? ⟨w.heap.size + 1, 2, none⟩ = some (.int .i64 bb) ∧ w'.cell? ⟨w.heap.size + 1, 3, none⟩ = some (.int .i64 bv) ∧ w'.cell? ⟨w.heap.size + 1, 4, none⟩ = some (.string bd)) (first | exact keepS (by assumption) (by assumption) | exact keepD (unhide H2) | exact keepD (by assumption))
    (first
      | (go_at_call 17; refine (toentry_any _ _ _ _ _ _).mono ?_; rintro e w1 ⟨rfl, bx⟩)
      | (go_at_call 12; refine (scmp_any ai ar ab av ad bi br bb bv bd _).mono ?_; rintro e w1 ⟨rfl, bx⟩))
  rename_i hS
  have H3 := hide hS
  clear hS H2
  go_wp2_with fail
  go_region_held3 (fun w' => Below w.heap.size w w' ∧ w.heap.size + 2 < w'.heap.size ∧ w'.cell? ⟨w.heap.size, 0, none⟩ = some (.int .i64 ai) ∧ w'.cell? ⟨w.heap.size, 1, none⟩ = some (.int .i64 ar) ∧ w'.cell? ⟨w.heap.size, 2, none⟩ = some (.int .i64 ab) ∧ w'.cell? ⟨w.heap.size, 3, none⟩ = some (.int .i64 av) ∧ w'.cell? ⟨w.heap.size, 4, none⟩ = some (.string ad) ∧ w'.cell? ⟨w.heap.size + 1, 0, none⟩ = some (.int .i64 bi) ∧ w'.cell? ⟨w.heap.size + 1, 1, none⟩ = some (.int .i64 br) ∧ w'.cell? ⟨w.heap.size + 1, 2, none⟩ = some (.int .i64 bb) ∧ w'.cell? ⟨w.heap.size + 1, 3, none⟩ = some (.int .i64 bv) ∧ w'.cell? ⟨w.heap.size + 1, 4, none⟩ = some (.string bd)) (first | exact keepS (by assumption) (by assumption) | exact keepD (unhide H3) | exact keepD (by assumption))
    (first
      | (go_at_call 17; refine (toentry_any _ _ _ _ _ _).mono ?_; rintro e w1 ⟨rfl, bx⟩)
      | (go_at_call 11; refine (icmp_any ai ar ab av ad bi br bb bv bd _).mono ?_; rintro e w1 ⟨rfl, bx⟩))
  rename_i hS
  have H4 := hide hS
  clear hS H3
  go_wp2
  go_ret
  exact ⟨rfl, (unhide H4).1⟩

set_option maxHeartbeats 4000000 in
set_option maxRecDepth 100000 in
theorem lifted (os : Os) (started : os.Started) (H : Type) (enc : TypeId × Value → H) :
    ReturnsInHanded {} Try.checked os 5 .any (Rows.fnExactEntryCmpSpec.pre6 enc Try.prog Try.f5 Rows.fnExactEntryCmpRow.domain false) (Rows.fnExactEntryCmpSpec.post enc Try.prog Try.f5 false true false false) := by
  refine returnsInHanded_of_change (C := Try.checked) own started (by kernel_rfl) Try.func5
    (ChangeSpec.witness6 (enc := enc) (C := Try.checked) false ⟨#[], #[.agg #[.int .i64 0, .int .i64 0, .int .i64 0, .int .i64 0, .string ByteArray.empty], .agg #[.int .i64 0, .int .i64 0, .int .i64 0, .int .i64 0, .string ByteArray.empty]], []⟩ 8 (by kernel_rfl) (by kernel_rfl) (by kernel_rfl) (by kernel_rfl)) ?_
  intro W base args ds gs before hval0 hW hcnd _
  have hval : ∀ (j : Nat) t v, Try.f5.params[j]? = some t → args[j]? = some v → Value.okWide Try.prog W .any base t v := hval0
  have hW' := hW
  obtain ⟨p, q, hA0, hV, rfl, hfz, hnd⟩ := hW
  have hA : DataW.TrodAll enc Try.prog W 0 (fun _ => true) true Try.f5.params.toList args.toList ds p := hA0
  rw [Try.params5] at hA hval
  obtain ⟨v0, vs0, d0, ds0, p0, q0, hargs0, rfl, rfl, h0, r0⟩ := trodAll_cons hA
  obtain ⟨v1, vs1, d1, ds1, p1, q1, hargs1, rfl, rfl, h1, r1⟩ := trodAll_cons r0
  obtain ⟨rfl, rfl, rfl⟩ := trodAll_nil r1
  obtain rfl : args = #[v0, v1] := by cases args; simp_all
  obtain ⟨rfl, rfl⟩ := trodVars_none hV
  have k0 := h0
  have lt0 : ∀ x ∈ p0, x.block < W.heap.size := by obtain ⟨m, hm⟩ := k0; exact DataW.trod_lt m _ _ _ hm
  have k1 := h1
  have lt1 : ∀ x ∈ p1, x.block < W.heap.size := by obtain ⟨m, hm⟩ := k1; exact DataW.trod_lt m _ _ _ hm
  obtain ⟨ai, ar, ab, av, ad, rfl, sa, qai, qar, qab, qav⟩ := open_ent (hval 0 32 v0 rfl rfl) h0
  obtain ⟨bi, br, bb, bv, bd, rfl, sb, qbi, qbr, qbb, qbv⟩ := open_ent (hval 1 32 v1 rfl rfl) h1
  clear hA0 hval0
  refine (walk ai ar ab av ad sa qai qar qab qav bi br bb bv bd sb qbi qbr qbb qbv W).mono fun e W' ⟨he, bel⟩ => ?_
  subst he
  exact ⟨_, rfl, _, _, _, [], _, [], hW', trodAll_mk1 (shut_bool Try.underlying4 _), (trodAll_cons_mk (Below.trod laidOut (by kernel_rfl) (of_decide_eq_true (by kernel_rfl)) k0 bel lt0) (trodAll_cons_mk (Below.trod laidOut (by kernel_rfl) (of_decide_eq_true (by kernel_rfl)) k1 bel lt1) trodAll_mk0)), rfl, bel.frame _, fun h => by cases h⟩

theorem over : Rows.fnExactEntryCmpRow.holds Try.pinned (OpenSpec.ofChange Rows.fnExactEntryCmpSpec) :=
  OpenClaim.holds_of_wide 5 Try.f5 rfl rfl rfl rfl rfl rfl rfl ⟨rfl, rfl, rfl, rfl, rfl⟩ rfl rfl rfl rfl rfl (by kernel_rfl) Try.func5 (by kernel_rfl)
    (of_decide_eq_true (by kernel_rfl)) (by unfold Func.isWrapper; first | (rw [if_pos (by decide +kernel)]; kernel_rfl) | (rw [if_neg (by decide +kernel)]; exact ⟨rfl, rfl⟩))
    (fun os started H enc _ => lifted os started H enc)

theorem proved : Rows.FnExactEntryCmpSaid := over
#print axioms proved
end Go.Proofs.Ytfijmdodopkkgaa.fnExactEntryCmp
namespace Go.Proofs.Ytfijmdodopkkgaa
theorem fnExactEntryCmp_holds : Rows.FnExactEntryCmpSaid := fnExactEntryCmp.proved
end Go.Proofs.Ytfijmdodopkkgaa
