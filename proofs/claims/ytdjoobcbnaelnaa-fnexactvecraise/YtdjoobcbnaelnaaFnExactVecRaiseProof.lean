/-
  At every argument VecRaise answers as its model, writes into no argument, and its answer owns its memory. No conditions but the statement's own.
-/
import Derived.Test.YtdjoobcbnaelnaaRows
import Derived.Test.YtdjoobcbnaelnaaVcD
import Derived.Test.YtdjoobcbnaelnaaIntO
import Derived.Test.YtdjoobcbnaelnaaTrn
import Derived.WalkKit
import Derived.ProofKit
import Derived.OpenShut
import Derived.ShutString
import Derived.ChangeOld
import Derived.Below
import Derived.Carry
namespace Go.Proofs.Ytdjoobcbnaelnaa.fnExactVecRaise
open Go.ChangeShapes Go.WideShapes Go.ChangeAt Go.RowKit
open Go.ChangeMaps (open_string shut_string)

theorem own : ownKnob Try.prog.godebug = none := by kernel_rfl
theorem laidOut : laidOutB Try.prog = true := by kernel_rfl

theorem Calls.still {P : Program} {f : FuncId} {args : Array Value} {w : World} {v : Value} (h : Calls P f args w fun e w' => e = .returned v ∧ w = w') : Calls P f args w fun e w' => e = .returned v ∧ Below w.heap.size w w' := by
  refine h.mono ?_
  rintro e _ ⟨rfl, rfl⟩
  exact ⟨rfl, Below.refl _ _⟩
set_option maxHeartbeats 4000000 in
set_option maxRecDepth 100000 in
theorem walk (w : World) (va : Option Addr) (vn vc : Nat) (vs : List Int) (vh1 : vn ≤ 9223372036854775807) (vh2 : RwN w (.slice va vn vc) vs) (_ : FitNs vs) (p : Int) (_ : (Lit.int .i64 p).wf = true) (m : Int) (_ : (Lit.int .i64 m).wf = true) :
    Calls Try.prog 7 #[.slice va vn vc, .int .i64 p, .int .i64 m] w fun e w' => e = .returned (.bool true) ∧ Below w.heap.size w w' := by
  have R_v := hide vh2
  have O_v := R_v
  clear vh2
  by_cases hbv : 1048576 < vn
  · have hdv : decide (1048576 < (vn : Int)) = true := by simp; omega
    go_enter Try.func7, Try.ntmps7
    go_wp2
    go_ret
    exact ⟨rfl, Below.refl _ _⟩
  have hdv : decide (1048576 < (vn : Int)) = false := by simp; omega
  go_enter Try.func7, Try.ntmps7
  go_wp2_with fail
  refine (toints_v va vn vc vs _ (by omega) (unhide R_v)).mono ?_
  rintro e w1 ⟨Pa, Pc, rfl, o1, b1⟩
  have cw1 := b1
  have zw1 := cw1.size
  have R_v := hide ((unhide R_v).later cw1)
  have BL := hide cw1
  have R_oP := hide (o1)
  have L_oP := hide (World.ownsRow.lt (unhide R_oP))
  clear b1 cw1
  clear o1
  go_wp2_with fail
  refine (svecraise_any Pa vn Pc vs p m _ (by omega) (unhide R_oP).nilok ((unhide R_oP).rw encN_len)).mono ?_
  rintro e w2 ⟨Wa, Wc, rfl, o1, b2⟩
  have cw2 := b2
  have zw2 := cw2.size
  have R_v := hide ((unhide R_v).later cw2)
  have R_oP := hide ((unhide R_oP).later cw2)
  have BL := hide ((unhide BL).trans (cw2.mono (unhide BL).size))
  have R_oW := hide (o1)
  have L_oW := hide (World.ownsRow.lt (unhide R_oW))
  clear b2 cw2
  clear o1
  go_wp2_with fail
  refine (toints_v va vn vc vs _ (by omega) (unhide R_v)).mono ?_
  rintro e w3 ⟨Xa, Xc, rfl, o1, b3⟩
  have cw3 := b3
  have zw3 := cw3.size
  have R_v := hide ((unhide R_v).later cw3)
  have R_oP := hide ((unhide R_oP).later cw3)
  have R_oW := hide ((unhide R_oW).later cw3)
  have BL := hide ((unhide BL).trans (cw3.mono (unhide BL).size))
  have R_oX := hide (o1)
  have L_oX := hide (World.ownsRow.lt (unhide R_oX))
  clear b3 cw3
  clear o1
  go_wp2_with fail
  refine (ivecraise_any Xa vn Xc vs p m _ (by omega) (unhide R_oX).nilok ((unhide R_oX).rw encN_len)).mono ?_
  rintro e w4 ⟨Ga, Gc, rfl, o1, b4⟩
  have cw4 := b4
  have zw4 := cw4.size
  have R_v := hide ((unhide R_v).later cw4)
  have R_oP := hide ((unhide R_oP).later cw4)
  have R_oW := hide ((unhide R_oW).later cw4)
  have R_oX := hide ((unhide R_oX).later cw4)
  have BL := hide ((unhide BL).trans (cw4.mono (unhide BL).size))
  have R_oG := hide (o1)
  have L_oG := hide (World.ownsRow.lt (unhide R_oG))
  clear b4 cw4
  clear o1
  go_wp2_with fail
  refine (eqints_v Ga Wa vn Gc Wc (vr vs p m) _ (by omega) ((unhide R_oG).rw encN_len) ((unhide R_oW).rw encN_len)).mono ?_
  rintro e w5 ⟨rfl, b5⟩
  have cw5 := b5
  have zw5 := cw5.size
  have R_v := hide ((unhide R_v).later cw5)
  have R_oP := hide ((unhide R_oP).later cw5)
  have R_oW := hide ((unhide R_oW).later cw5)
  have R_oX := hide ((unhide R_oX).later cw5)
  have R_oG := hide ((unhide R_oG).later cw5)
  have BL := hide ((unhide BL).trans (cw5.mono (unhide BL).size))
  clear b5 cw5
  go_wp2_with fail
  refine (toints_v va vn vc vs _ (by omega) (unhide R_v)).mono ?_
  rintro e w6 ⟨Ua, Uc, rfl, o1, b6⟩
  have cw6 := b6
  have zw6 := cw6.size
  have R_v := hide ((unhide R_v).later cw6)
  have R_oP := hide ((unhide R_oP).later cw6)
  have R_oW := hide ((unhide R_oW).later cw6)
  have R_oX := hide ((unhide R_oX).later cw6)
  have R_oG := hide ((unhide R_oG).later cw6)
  have BL := hide ((unhide BL).trans (cw6.mono (unhide BL).size))
  have R_oU := hide (o1)
  have L_oU := hide (World.ownsRow.lt (unhide R_oU))
  clear b6 cw6
  clear o1
  go_wp2_with fail
  refine (eqints_v Xa Ua vn Xc Uc vs _ (by omega) ((unhide R_oX).rw encN_len) ((unhide R_oU).rw encN_len)).mono ?_
  rintro e w7 ⟨rfl, b7⟩
  have cw7 := b7
  have zw7 := cw7.size
  have R_v := hide ((unhide R_v).later cw7)
  have R_oP := hide ((unhide R_oP).later cw7)
  have R_oW := hide ((unhide R_oW).later cw7)
  have R_oX := hide ((unhide R_oX).later cw7)
  have R_oG := hide ((unhide R_oG).later cw7)
  clear R_oU
  have BL := hide ((unhide BL).trans (cw7.mono (unhide BL).size))
  clear b7 cw7
  go_wp2_with fail
  refine (markints_v _ Xa vn Xc _ 1 _ (by omega) (by omega) (by omega) (unhide R_oX)).mono ?_
  rintro e w8 ⟨rfl, o1, g1w⟩
  have t1 := Trn.of_grown g1w
  have zw8 := t1.size
  have R_oP := hide (t1.own (unhide R_oP) (fun i hi => fun q => by have := unhide L_oP _ hi; (first | (have := unhide L_oX _ q; omega) | (exact absurd q (by simp [Value.ownBlock])))))
  have R_oW := hide (t1.own (unhide R_oW) (fun i hi => fun q => by have := unhide L_oW _ hi; (first | (have := unhide L_oX _ q; omega) | (exact absurd q (by simp [Value.ownBlock])))))
  have R_oG := hide (t1.own (unhide R_oG) (fun i hi => fun q => by have := unhide L_oG _ hi; (first | (have := unhide L_oX _ q; omega) | (exact absurd q (by simp [Value.ownBlock])))))
  have BL := hide (Trn.below (unhide BL) t1 (unhide BL).size (fun i q => by (first | (have := unhide L_oX _ q; omega) | (exact absurd q (by simp [Value.ownBlock])))))
  have R_v := hide ((unhide O_v).later (unhide BL))
  have R_oX := hide o1
  clear o1 t1 g1w
  have hq0 : decide ((1 : Int) + (vn : Int) < 0) = false := by simp; omega
  go_wp2_with fail
  refine (eqints_v Ga Wa vn Gc Wc (vr vs p m) _ (by omega) ((unhide R_oG).rw encN_len) ((unhide R_oW).rw encN_len)).mono ?_
  rintro e w9 ⟨rfl, b9⟩
  have cw9 := b9
  have zw9 := cw9.size
  have R_v := hide ((unhide R_v).later cw9)
  have R_oP := hide ((unhide R_oP).later cw9)
  have R_oW := hide ((unhide R_oW).later cw9)
  have R_oX := hide ((unhide R_oX).later cw9)
  have R_oG := hide ((unhide R_oG).later cw9)
  have BL := hide ((unhide BL).trans (cw9.mono (unhide BL).size))
  clear b9 cw9
  go_wp2_with fail
  refine (markints_v _ Ga vn Gc _ 1 _ (by omega) (by omega) (by omega) (unhide R_oG)).mono ?_
  rintro e w10 ⟨rfl, o1, g1w⟩
  have t1 := Trn.of_grown g1w
  have zw10 := t1.size
  have R_oP := hide (t1.own (unhide R_oP) (fun i hi => fun q => by have := unhide L_oP _ hi; (first | (have := unhide L_oG _ q; omega) | (exact absurd q (by simp [Value.ownBlock])))))
  have R_oW := hide (t1.own (unhide R_oW) (fun i hi => fun q => by have := unhide L_oW _ hi; (first | (have := unhide L_oG _ q; omega) | (exact absurd q (by simp [Value.ownBlock])))))
  have R_oX := hide (t1.own (unhide R_oX) (fun i hi => fun q => by have := unhide L_oX _ hi; (first | (have := unhide L_oG _ q; omega) | (exact absurd q (by simp [Value.ownBlock])))))
  have BL := hide (Trn.below (unhide BL) t1 (unhide BL).size (fun i q => by (first | (have := unhide L_oG _ q; omega) | (exact absurd q (by simp [Value.ownBlock])))))
  have R_v := hide ((unhide O_v).later (unhide BL))
  have R_oG := hide o1
  clear o1 t1 g1w
  go_wp2_with fail
  refine (Calls.still (heldints_v Ga vn Gc 1 _ (by omega) (by omega) (by omega) ((unhide R_oG).rw encN_len))).mono ?_
  rintro e w11 ⟨rfl, b11⟩
  have cw11 := b11
  have zw11 := cw11.size
  have R_v := hide ((unhide R_v).later cw11)
  have R_oP := hide ((unhide R_oP).later cw11)
  have R_oW := hide ((unhide R_oW).later cw11)
  have R_oX := hide ((unhide R_oX).later cw11)
  have R_oG := hide ((unhide R_oG).later cw11)
  have BL := hide ((unhide BL).trans (cw11.mono (unhide BL).size))
  clear b11 cw11
  have hq2 : ((1 : Int) + (vn : Int) != 1 + (vn : Int)) = false := by simp
  go_wp2_with fail
  refine (toints_v va vn vc vs _ (by omega) (unhide R_v)).mono ?_
  rintro e w12 ⟨Ja, Jc, rfl, o1, b12⟩
  have cw12 := b12
  have zw12 := cw12.size
  have R_v := hide ((unhide R_v).later cw12)
  have R_oP := hide ((unhide R_oP).later cw12)
  have R_oW := hide ((unhide R_oW).later cw12)
  have R_oX := hide ((unhide R_oX).later cw12)
  have R_oG := hide ((unhide R_oG).later cw12)
  have BL := hide ((unhide BL).trans (cw12.mono (unhide BL).size))
  have R_oJ := hide (o1)
  have L_oJ := hide (World.ownsRow.lt (unhide R_oJ))
  clear b12 cw12
  clear o1
  go_wp2_with fail
  refine (ivecraise_any Ja vn Jc vs p m _ (by omega) (unhide R_oJ).nilok ((unhide R_oJ).rw encN_len)).mono ?_
  rintro e w13 ⟨Ha, Hc, rfl, o1, b13⟩
  have cw13 := b13
  have zw13 := cw13.size
  have R_v := hide ((unhide R_v).later cw13)
  have R_oP := hide ((unhide R_oP).later cw13)
  have R_oW := hide ((unhide R_oW).later cw13)
  have R_oX := hide ((unhide R_oX).later cw13)
  have R_oG := hide ((unhide R_oG).later cw13)
  have R_oJ := hide ((unhide R_oJ).later cw13)
  have BL := hide ((unhide BL).trans (cw13.mono (unhide BL).size))
  have R_oH := hide (o1)
  have L_oH := hide (World.ownsRow.lt (unhide R_oH))
  clear b13 cw13
  clear o1
  go_wp2_with fail
  refine (eqints_v Ha Wa vn Hc Wc (vr vs p m) _ (by omega) ((unhide R_oH).rw encN_len) ((unhide R_oW).rw encN_len)).mono ?_
  rintro e w14 ⟨rfl, b14⟩
  have cw14 := b14
  have zw14 := cw14.size
  have R_v := hide ((unhide R_v).later cw14)
  have R_oP := hide ((unhide R_oP).later cw14)
  have R_oW := hide ((unhide R_oW).later cw14)
  have R_oX := hide ((unhide R_oX).later cw14)
  have R_oG := hide ((unhide R_oG).later cw14)
  have R_oJ := hide ((unhide R_oJ).later cw14)
  have R_oH := hide ((unhide R_oH).later cw14)
  have BL := hide ((unhide BL).trans (cw14.mono (unhide BL).size))
  clear b14 cw14
  go_wp2_with fail
  refine (Calls.still (heldints_v Ga vn Gc 1 _ (by omega) (by omega) (by omega) ((unhide R_oG).rw encN_len))).mono ?_
  rintro e w15 ⟨rfl, b15⟩
  have cw15 := b15
  have zw15 := cw15.size
  have R_v := hide ((unhide R_v).later cw15)
  have R_oP := hide ((unhide R_oP).later cw15)
  have R_oW := hide ((unhide R_oW).later cw15)
  have R_oX := hide ((unhide R_oX).later cw15)
  have R_oG := hide ((unhide R_oG).later cw15)
  have R_oJ := hide ((unhide R_oJ).later cw15)
  have R_oH := hide ((unhide R_oH).later cw15)
  have BL := hide ((unhide BL).trans (cw15.mono (unhide BL).size))
  clear b15 cw15
  go_wp2
  go_ret
  exact ⟨rfl, unhide BL⟩

set_option maxHeartbeats 4000000 in
set_option maxRecDepth 100000 in
theorem lifted (os : Os) (started : os.Started) (H : Type) (enc : TypeId × Value → H) :
    ReturnsInHanded {} Try.checked os 7 .any (Rows.fnExactVecRaiseSpec.pre6 enc Try.prog Try.f7 Rows.fnExactVecRaiseRow.domain false) (Rows.fnExactVecRaiseSpec.post enc Try.prog Try.f7 false true false false) := by
  refine returnsInHanded_of_change (C := Try.checked) own started (by kernel_rfl) Try.func7
    (ChangeSpec.witness6 (enc := enc) (C := Try.checked) false ⟨#[], #[.slice none 0 0, .int .i64 0, .int .i64 0], []⟩ 8 (by kernel_rfl) (by kernel_rfl) (by kernel_rfl) (by kernel_rfl)) ?_
  intro W base args ds gs before hval0 hW hcnd _
  have hval : ∀ (j : Nat) t v, Try.f7.params[j]? = some t → args[j]? = some v → Value.okWide Try.prog W .any base t v := hval0
  have hW' := hW
  obtain ⟨p, q, hA0, hV, rfl, hfz, hnd⟩ := hW
  have hA : DataW.TrodAll enc Try.prog W 0 (fun _ => true) true Try.f7.params.toList args.toList ds p := hA0
  rw [Try.params7] at hA hval
  obtain ⟨v0, vs0, d0, ds0, p0, q0, hargs0, rfl, rfl, h0, r0⟩ := trodAll_cons hA
  obtain ⟨v1, vs1, d1, ds1, p1, q1, hargs1, rfl, rfl, h1, r1⟩ := trodAll_cons r0
  obtain ⟨v2, vs2, d2, ds2, p2, q2, hargs2, rfl, rfl, h2, r2⟩ := trodAll_cons r1
  obtain ⟨rfl, rfl, rfl⟩ := trodAll_nil r2
  obtain rfl : args = #[v0, v1, v2] := by cases args; simp_all
  obtain ⟨rfl, rfl⟩ := trodVars_none hV
  have k0 := h0
  have lt0 : ∀ x ∈ p0, x.block < W.heap.size := by obtain ⟨m, hm⟩ := k0; exact DataW.trod_lt m _ _ _ hm
  have k1 := h1
  have lt1 : ∀ x ∈ p1, x.block < W.heap.size := by obtain ⟨m, hm⟩ := k1; exact DataW.trod_lt m _ _ _ hm
  have k2 := h2
  have lt2 : ∀ x ∈ p2, x.block < W.heap.size := by obtain ⟨m, hm⟩ := k2; exact DataW.trod_lt m _ _ _ hm
  obtain ⟨va, vn, vc, vs, rfl, vh1, vh2, vh3⟩ := open_numrow (hval 0 24 v0 rfl rfl) h0
  obtain ⟨p, rfl, -, -, wp⟩ := open_int Try.underlying3 (hval 1 3 v1 rfl rfl) h1
  obtain ⟨m, rfl, -, -, wm⟩ := open_int Try.underlying3 (hval 2 3 v2 rfl rfl) h2
  clear hA0 hval0
  refine (walk W va vn vc vs vh1 vh2 vh3 p wp m wm).mono fun e W' ⟨he, bel⟩ => ?_
  subst he
  exact ⟨_, rfl, _, _, _, [], _, [], hW', trodAll_mk1 (shut_bool Try.underlying4 _), (trodAll_cons_mk (Below.trod laidOut (by kernel_rfl) (of_decide_eq_true (by kernel_rfl)) k0 bel lt0) (trodAll_cons_mk (Below.trod laidOut (by kernel_rfl) (of_decide_eq_true (by kernel_rfl)) k1 bel lt1) (trodAll_cons_mk (Below.trod laidOut (by kernel_rfl) (of_decide_eq_true (by kernel_rfl)) k2 bel lt2) trodAll_mk0))), rfl, bel.frame _, fun h => by cases h⟩

theorem over : Rows.fnExactVecRaiseRow.holds Try.pinned (OpenSpec.ofChange Rows.fnExactVecRaiseSpec) :=
  OpenClaim.holds_of_wide 7 Try.f7 rfl rfl rfl rfl rfl rfl rfl ⟨rfl, rfl, rfl, rfl, rfl⟩ rfl rfl rfl rfl rfl (by kernel_rfl) Try.func7 (by kernel_rfl)
    (of_decide_eq_true (by kernel_rfl)) (by unfold Func.isWrapper; first | (rw [if_pos (by decide +kernel)]; kernel_rfl) | (rw [if_neg (by decide +kernel)]; exact ⟨rfl, rfl⟩))
    (fun os started H enc _ => lifted os started H enc)

theorem proved : Rows.FnExactVecRaiseSaid := over
#print axioms proved
end Go.Proofs.Ytdjoobcbnaelnaa.fnExactVecRaise
namespace Go.Proofs.Ytdjoobcbnaelnaa
theorem fnExactVecRaise_holds : Rows.FnExactVecRaiseSaid := fnExactVecRaise.proved
end Go.Proofs.Ytdjoobcbnaelnaa
