/-
  At every argument TableAdd answers as its model says, every field; it writes into no argument; its answer owns its memory. No conditions but the statement's own.
-/
import Derived.Test.YtighiahppjekeabRows
import Derived.Test.YtighiahppjekeabTbD
import Derived.Test.YtighiahppjekeabMkA
import Derived.Test.YtighiahppjekeabGrZ
import Derived.WalkKit
import Derived.ProofKit
import Derived.OpenShut
import Derived.ShutString
import Derived.ChangeOld
import Derived.Below
import Derived.Carry
namespace Go.Proofs.Ytighiahppjekeab.fnExactTableAdd
open Go.ChangeShapes Go.WideShapes Go.ChangeAt Go.RowKit
open Go.ChangeMaps (open_string shut_string)

theorem own : ownKnob Try.prog.godebug = none := by kernel_rfl
theorem laidOut : laidOutB Try.prog = true := by kernel_rfl

theorem Calls.still9 {P : Program} {f : FuncId} {args : Array Value} {w : World} {v : Value} (h : Calls P f args w fun e w' => e = .returned v ∧ w = w') : Calls P f args w fun e w' => e = .returned v ∧ Below w.heap.size w w' := by
  refine h.mono ?_
  rintro e _ ⟨rfl, rfl⟩
  exact ⟨rfl, Below.refl _ _⟩
theorem len_tot {t : Tb} {B : Nat} (h : totG t ≤ B) : ∀ (i : Nat) (q : List Int), t[i]? = some q → q.length ≤ B := fun i q hq => by
  have := totG_at hq
  omega
theorem set_tot {t : Tb} {k : Nat} {r r' : List Int} (h : t[k]? = some r) (hl : r'.length = r.length) : totG (t.set k r') = totG t := by
  have h1 := totG_at h
  have hk := (List.getElem?_eq_some_iff.1 h).1
  have h2 := totG_at (t := t.set k r') (i := k) (r := r') (by simp [hk])
  rw [List.take_set_of_le (Nat.le_refl _), List.drop_set_of_lt (by omega)] at h2
  omega
theorem addT_tot (t : Tb) (k : Int) (ms : List Flr) : totG (addT t k ms) = totG t := by
  unfold addT
  split
  · rename_i h
    simp only [addOk, inB, Bool.and_eq_true, decide_eq_true_eq] at h
    obtain ⟨r, hr⟩ : ∃ r, t[k.toNat]? = some r := ⟨_, List.getElem?_eq_getElem (by omega)⟩
    have e : rowT t k = r := by unfold rowT; rw [List.getD_eq_getElem?_getD, hr]; rfl
    rw [e]
    exact set_tot hr (putMs_len _ _)
  · rfl
set_option maxHeartbeats 8000000 in
set_option maxRecDepth 100000 in
theorem walk (w : World) (ta : Option Addr) (tn tc : Nat) (ts : Tb) (th1 : tn ≤ 9223372036854775807) (th2 : RwG w (.slice ta tn tc) ts) (th3 : BigG ts) (_ : ∀ (i : Nat) (q : List Int), ts[i]? = some q → FitNs q) (m : Int) (_ : (Lit.int .i64 m).wf = true) (la : Option Addr) (ln lc : Nat) (ls : List Flr) (lh1 : ln ≤ 9223372036854775807) (lh2 : Rw encF 2 w (.slice la ln lc) ls) (_ : FitM ls) :
    Calls Try.prog 5 #[.slice ta tn tc, .int .i64 m, .slice la ln lc] w fun e w' => e = .returned (.bool true) ∧ Below w.heap.size w w' := by
  have R_t := hide th2
  have O_t := R_t
  clear th2
  have R_l := hide lh2
  have O_l := R_l
  clear lh2
  obtain ⟨t2, ht2⟩ : ∃ t2, Hid (addT ts m ls = t2) := ⟨_, hide rfl⟩
  have HT2 := hide (addT_tot ts m ls)
  go_enter Try.func5, Try.ntmps5
  go_wp2_with fail
  refine (szgrid_any ta tn tc ts th3 1048576 (by omega) (by omega) _ th1 (unhide R_t)).mono ?_
  rintro e w1 ⟨h, b1⟩
  have cw1 := b1
  have zw1 := cw1.size
  have R_t := hide ((unhide R_t).later cw1)
  have R_l := hide ((unhide R_l).later cw1)
  have BL := hide cw1
  clear b1 cw1
  rcases h with rfl | ⟨q, rfl, hq1, hq2⟩
  · go_wp2
    go_ret
    exact ⟨rfl, unhide BL⟩
  have hdq : decide (q < 0) = false := by simp; omega
  have tn1 : tn ≤ 1048576 := by omega
  have tt1 : totG ts ≤ 1048576 := by omega
  go_wp2_with fail
  refine (szmarks_any la ln lc q hq1 (by omega) _ lh1).mono ?_
  rintro e w2 ⟨h, b2⟩
  have cw2 := b2
  have zw2 := cw2.size
  have R_t := hide ((unhide R_t).later cw2)
  have R_l := hide ((unhide R_l).later cw2)
  have BL := hide ((unhide BL).trans (cw2.mono (unhide BL).size))
  clear b2 cw2
  rcases h with rfl | ⟨q2, rfl, hq21, hq22, ln1⟩
  · go_wp2
    go_ret
    exact ⟨rfl, unhide BL⟩
  have hdq2 : decide (q2 < 0) = false := by simp; omega
  obtain ⟨s, hs⟩ : ∃ s, totG t2 = s := ⟨_, rfl⟩
  have hs5 : s ≤ 1048576 := by rw [← hs, ← unhide ht2, unhide HT2]; exact tt1
  have HS := hide hs
  have HST : Hid (totG ts = s) := hide (by rw [← hs, ← unhide ht2, unhide HT2])
  clear hs
  go_wp2_with fail
  refine (togrid_any ta tn tc ts _ tn1 tt1 (unhide R_t)).mono ?_
  rintro e w3 ⟨Pa, Pc, rfl, o1, b3⟩
  have cw3 := b3
  have zw3 := cw3.size
  have R_t := hide ((unhide R_t).later cw3)
  have R_l := hide ((unhide R_l).later cw3)
  have BL := hide ((unhide BL).trans (cw3.mono (unhide BL).size))
  have R_sP := hide (o1)
  clear b3 cw3
  clear o1
  go_wp2_with fail
  refine (tomarks_any la ln lc ls _ ln1 (unhide R_l)).mono ?_
  rintro e w4 ⟨Qa, Qc, rfl, o1, b4⟩
  have cw4 := b4
  have zw4 := cw4.size
  have R_t := hide ((unhide R_t).later cw4)
  have R_l := hide ((unhide R_l).later cw4)
  have R_sP := hide ((unhide R_sP).later cw4)
  have BL := hide ((unhide BL).trans (cw4.mono (unhide BL).size))
  have R_oQ := hide (o1)
  have L_oQ := hide (World.ownsRow.lt (unhide R_oQ))
  clear b4 cw4
  clear o1
  go_wp2_with fail
  refine (stableadd_any Pa tn Pc ts m Qa ln Qc ls _ tn1 tt1 (by omega) (unhide R_sP).rw ((unhide R_oQ).rw encF_len)).mono ?_
  rintro e w5 ⟨Wa, Wc, rfl, o1, b5⟩
  have cw5 := b5
  have zw5 := cw5.size
  have R_t := hide ((unhide R_t).later cw5)
  have R_l := hide ((unhide R_l).later cw5)
  have R_sP := hide ((unhide R_sP).later cw5)
  have R_oQ := hide ((unhide R_oQ).later cw5)
  have BL := hide ((unhide BL).trans (cw5.mono (unhide BL).size))
  have R_sW := hide (show OwG _ _ _ _ t2 from by rw [← unhide ht2]; exact o1)
  clear b5 cw5
  clear o1
  clear R_sP
  clear R_oQ L_oQ
  go_wp2_with fail
  refine (togrid_any ta tn tc ts _ tn1 tt1 (unhide R_t)).mono ?_
  rintro e w6 ⟨Xa, Xc, rfl, o1, b6⟩
  have cw6 := b6
  have zw6 := cw6.size
  have R_t := hide ((unhide R_t).later cw6)
  have R_l := hide ((unhide R_l).later cw6)
  have R_sW := hide ((unhide R_sW).later cw6)
  have BL := hide ((unhide BL).trans (cw6.mono (unhide BL).size))
  have R_sX := hide (o1)
  clear b6 cw6
  clear o1
  go_wp2_with fail
  refine (tomarks_any la ln lc ls _ ln1 (unhide R_l)).mono ?_
  rintro e w7 ⟨Za, Zc, rfl, o1, b7⟩
  have cw7 := b7
  have zw7 := cw7.size
  have R_t := hide ((unhide R_t).later cw7)
  have R_l := hide ((unhide R_l).later cw7)
  have R_sW := hide ((unhide R_sW).later cw7)
  have R_sX := hide ((unhide R_sX).later cw7)
  have BL := hide ((unhide BL).trans (cw7.mono (unhide BL).size))
  have R_oZ := hide (o1)
  have L_oZ := hide (World.ownsRow.lt (unhide R_oZ))
  clear b7 cw7
  clear o1
  go_wp2_with fail
  refine (itableadd_any Xa tn Xc ts m Za ln Zc ls _ tn1 tt1 (by omega) (unhide R_sX).rw ((unhide R_oZ).rw encF_len)).mono ?_
  rintro e w8 ⟨Ga, Gc, rfl, o1, b8⟩
  have cw8 := b8
  have zw8 := cw8.size
  have R_t := hide ((unhide R_t).later cw8)
  have R_l := hide ((unhide R_l).later cw8)
  have R_sW := hide ((unhide R_sW).later cw8)
  have R_sX := hide ((unhide R_sX).later cw8)
  have R_oZ := hide ((unhide R_oZ).later cw8)
  have BL := hide ((unhide BL).trans (cw8.mono (unhide BL).size))
  have R_sG := hide (show OwG _ _ _ _ t2 from by rw [← unhide ht2]; exact o1)
  clear b8 cw8
  clear o1
  go_wp2_with fail
  refine (eqgrid_same Ga tn Gc Wa Wc t2 _ (by omega) (by rw [unhide HS]; omega) (unhide R_sG).rw (unhide R_sW).rw).mono ?_
  rintro e w9 ⟨rfl, b9⟩
  have cw9 := b9
  have zw9 := cw9.size
  have R_t := hide ((unhide R_t).later cw9)
  have R_l := hide ((unhide R_l).later cw9)
  have R_sW := hide ((unhide R_sW).later cw9)
  have R_sX := hide ((unhide R_sX).later cw9)
  have R_oZ := hide ((unhide R_oZ).later cw9)
  have R_sG := hide ((unhide R_sG).later cw9)
  have BL := hide ((unhide BL).trans (cw9.mono (unhide BL).size))
  clear b9 cw9
  go_wp2_with fail
  refine (togrid_any ta tn tc ts _ tn1 tt1 (unhide R_t)).mono ?_
  rintro e w10 ⟨Ya, Yc, rfl, o1, b10⟩
  have cw10 := b10
  have zw10 := cw10.size
  have R_t := hide ((unhide R_t).later cw10)
  have R_l := hide ((unhide R_l).later cw10)
  have R_sW := hide ((unhide R_sW).later cw10)
  have R_sX := hide ((unhide R_sX).later cw10)
  have R_oZ := hide ((unhide R_oZ).later cw10)
  have R_sG := hide ((unhide R_sG).later cw10)
  have BL := hide ((unhide BL).trans (cw10.mono (unhide BL).size))
  have R_sY := hide (o1)
  clear b10 cw10
  clear o1
  go_wp2_with fail
  refine (eqgrid_same Xa tn Xc Ya Yc ts _ (by omega) (by omega) (unhide R_sX).rw (unhide R_sY).rw).mono ?_
  rintro e w11 ⟨rfl, b11⟩
  have cw11 := b11
  have zw11 := cw11.size
  have R_t := hide ((unhide R_t).later cw11)
  have R_l := hide ((unhide R_l).later cw11)
  have R_sW := hide ((unhide R_sW).later cw11)
  have R_sX := hide ((unhide R_sX).later cw11)
  have R_oZ := hide ((unhide R_oZ).later cw11)
  have R_sG := hide ((unhide R_sG).later cw11)
  have R_sY := hide ((unhide R_sY).later cw11)
  have BL := hide ((unhide BL).trans (cw11.mono (unhide BL).size))
  clear b11 cw11
  clear R_sY
  go_wp2_with fail
  refine (tomarks_any la ln lc ls _ ln1 (unhide R_l)).mono ?_
  rintro e w12 ⟨Va, Vc, rfl, o1, b12⟩
  have cw12 := b12
  have zw12 := cw12.size
  have R_t := hide ((unhide R_t).later cw12)
  have R_l := hide ((unhide R_l).later cw12)
  have R_sW := hide ((unhide R_sW).later cw12)
  have R_sX := hide ((unhide R_sX).later cw12)
  have R_oZ := hide ((unhide R_oZ).later cw12)
  have R_sG := hide ((unhide R_sG).later cw12)
  have BL := hide ((unhide BL).trans (cw12.mono (unhide BL).size))
  have R_oV := hide (o1)
  have L_oV := hide (World.ownsRow.lt (unhide R_oV))
  clear b12 cw12
  clear o1
  go_wp2_with fail
  refine (eqmarks_same Za ln Zc Va Vc ls _ (by omega) ((unhide R_oZ).rw encF_len) ((unhide R_oV).rw encF_len)).mono ?_
  rintro e w13 ⟨rfl, b13⟩
  have cw13 := b13
  have zw13 := cw13.size
  have R_t := hide ((unhide R_t).later cw13)
  have R_l := hide ((unhide R_l).later cw13)
  have R_sW := hide ((unhide R_sW).later cw13)
  have R_sX := hide ((unhide R_sX).later cw13)
  have R_oZ := hide ((unhide R_oZ).later cw13)
  have R_sG := hide ((unhide R_sG).later cw13)
  have R_oV := hide ((unhide R_oV).later cw13)
  have BL := hide ((unhide BL).trans (cw13.mono (unhide BL).size))
  clear b13 cw13
  clear R_oV L_oV
  go_wp2_with fail
  refine (markgrid_any _ _ Xa tn Xc ts 1 (by omega) (by omega) _ (by omega) (by omega) (unhide R_sX)).mono ?_
  rintro e w14 ⟨rfl, o1, t1⟩
  have zw14 := t1.size
  have R_sW := hide ((unhide R_sW).trn t1 (fun i q => by have q2 : _ ∧ _ := q; omega))
  have R_oZ := hide (t1.own (unhide R_oZ) (fun i hi => fun q => by have q2 : _ ∧ _ := q; have := unhide L_oZ _ hi; omega))
  have R_sG := hide ((unhide R_sG).trn t1 (fun i q => by have q2 : _ ∧ _ := q; omega))
  have BL := hide (Trn.below (unhide BL) t1 (unhide BL).size (fun i q => by have q2 : _ ∧ _ := q; omega))
  have R_t := hide ((unhide O_t).later (unhide BL))
  have R_l := hide ((unhide O_l).later (unhide BL))
  have R_sX := hide o1
  clear o1 t1
  rw [unhide HST]
  go_wp2_with fail
  refine (markM_any _ Za ln Zc _ (1 + (s : Int)) (by omega) (by omega) _ (by omega) (unhide R_oZ)).mono ?_
  rintro e w15 ⟨rfl, o1, g1w⟩
  have t1 := Trn.of_grown g1w
  have zw15 := t1.size
  have R_sW := hide ((unhide R_sW).trn t1 (fun i q => by (first | (have := unhide L_oZ _ q; omega) | (exact absurd q (by simp [Value.ownBlock])))))
  have R_sX := hide ((unhide R_sX).trn t1 (fun i q => by (first | (have := unhide L_oZ _ q; omega) | (exact absurd q (by simp [Value.ownBlock])))))
  have R_sG := hide ((unhide R_sG).trn t1 (fun i q => by (first | (have := unhide L_oZ _ q; omega) | (exact absurd q (by simp [Value.ownBlock])))))
  have BL := hide (Trn.below (unhide BL) t1 (unhide BL).size (fun i q => by (first | (have := unhide L_oZ _ q; omega) | (exact absurd q (by simp [Value.ownBlock])))))
  have R_t := hide ((unhide O_t).later (unhide BL))
  have R_l := hide ((unhide O_l).later (unhide BL))
  have R_oZ := hide o1
  clear o1 g1w t1
  have hq0 : decide ((1 : Int) + (s : Int) + 2 * (ln : Int) < 0) = false := by simp; omega
  go_wp2_with fail
  refine (eqgrid_same Ga tn Gc Wa Wc t2 _ (by omega) (by rw [unhide HS]; omega) (unhide R_sG).rw (unhide R_sW).rw).mono ?_
  rintro e w16 ⟨rfl, b16⟩
  have cw16 := b16
  have zw16 := cw16.size
  have R_t := hide ((unhide R_t).later cw16)
  have R_l := hide ((unhide R_l).later cw16)
  have R_sW := hide ((unhide R_sW).later cw16)
  have R_sX := hide ((unhide R_sX).later cw16)
  have R_oZ := hide ((unhide R_oZ).later cw16)
  have R_sG := hide ((unhide R_sG).later cw16)
  have BL := hide ((unhide BL).trans (cw16.mono (unhide BL).size))
  clear b16 cw16
  go_wp2_with fail
  refine (markgrid_any _ _ Ga tn Gc t2 1 (by omega) (by omega) _ (by omega) (by rw [unhide HS]; omega) (unhide R_sG)).mono ?_
  rintro e w17 ⟨rfl, o1, t1⟩
  have zw17 := t1.size
  have R_sW := hide ((unhide R_sW).trn t1 (fun i q => by have q2 : _ ∧ _ := q; omega))
  have R_sX := hide ((unhide R_sX).trn t1 (fun i q => by have q2 : _ ∧ _ := q; omega))
  have R_oZ := hide (t1.own (unhide R_oZ) (fun i hi => fun q => by have q2 : _ ∧ _ := q; have := unhide L_oZ _ hi; omega))
  have BL := hide (Trn.below (unhide BL) t1 (unhide BL).size (fun i q => by have q2 : _ ∧ _ := q; omega))
  have R_t := hide ((unhide O_t).later (unhide BL))
  have R_l := hide ((unhide O_l).later (unhide BL))
  have R_sG := hide o1
  clear o1 t1
  rw [unhide HS]
  have hq6 : decide ((1 : Int) + (s : Int) < 0) = false := by simp; omega
  have hq7 : ((1 : Int) + (s : Int) != 1 + (s : Int)) = false := by simp
  go_wp2_with fail
  refine (Calls.still9 (heldgrid_any Ga tn Gc t2 1 (by omega) (by omega) _ (by omega) (by rw [unhide HS]; omega) (unhide R_sG).rw)).mono ?_
  rintro e w18 ⟨rfl, b18⟩
  have cw18 := b18
  have zw18 := cw18.size
  have R_t := hide ((unhide R_t).later cw18)
  have R_l := hide ((unhide R_l).later cw18)
  have R_sW := hide ((unhide R_sW).later cw18)
  have R_sX := hide ((unhide R_sX).later cw18)
  have R_oZ := hide ((unhide R_oZ).later cw18)
  have R_sG := hide ((unhide R_sG).later cw18)
  have BL := hide ((unhide BL).trans (cw18.mono (unhide BL).size))
  clear b18 cw18
  rw [unhide HS]
  go_wp2_with fail
  refine (togrid_any ta tn tc ts _ tn1 tt1 (unhide R_t)).mono ?_
  rintro e w19 ⟨Ja, Jc, rfl, o1, b19⟩
  have cw19 := b19
  have zw19 := cw19.size
  have R_t := hide ((unhide R_t).later cw19)
  have R_l := hide ((unhide R_l).later cw19)
  have R_sW := hide ((unhide R_sW).later cw19)
  have R_sX := hide ((unhide R_sX).later cw19)
  have R_oZ := hide ((unhide R_oZ).later cw19)
  have R_sG := hide ((unhide R_sG).later cw19)
  have BL := hide ((unhide BL).trans (cw19.mono (unhide BL).size))
  have R_sJ := hide (o1)
  clear b19 cw19
  clear o1
  go_wp2_with fail
  refine (tomarks_any la ln lc ls _ ln1 (unhide R_l)).mono ?_
  rintro e w20 ⟨Ka, Kc, rfl, o1, b20⟩
  have cw20 := b20
  have zw20 := cw20.size
  have R_t := hide ((unhide R_t).later cw20)
  have R_l := hide ((unhide R_l).later cw20)
  have R_sW := hide ((unhide R_sW).later cw20)
  have R_sX := hide ((unhide R_sX).later cw20)
  have R_oZ := hide ((unhide R_oZ).later cw20)
  have R_sG := hide ((unhide R_sG).later cw20)
  have R_sJ := hide ((unhide R_sJ).later cw20)
  have BL := hide ((unhide BL).trans (cw20.mono (unhide BL).size))
  have R_oK := hide (o1)
  have L_oK := hide (World.ownsRow.lt (unhide R_oK))
  clear b20 cw20
  clear o1
  go_wp2_with fail
  refine (itableadd_any Ja tn Jc ts m Ka ln Kc ls _ tn1 tt1 (by omega) (unhide R_sJ).rw ((unhide R_oK).rw encF_len)).mono ?_
  rintro e w21 ⟨Ha, Hc, rfl, o1, b21⟩
  have cw21 := b21
  have zw21 := cw21.size
  have R_t := hide ((unhide R_t).later cw21)
  have R_l := hide ((unhide R_l).later cw21)
  have R_sW := hide ((unhide R_sW).later cw21)
  have R_sX := hide ((unhide R_sX).later cw21)
  have R_oZ := hide ((unhide R_oZ).later cw21)
  have R_sG := hide ((unhide R_sG).later cw21)
  have R_sJ := hide ((unhide R_sJ).later cw21)
  have R_oK := hide ((unhide R_oK).later cw21)
  have BL := hide ((unhide BL).trans (cw21.mono (unhide BL).size))
  have R_sH := hide (show OwG _ _ _ _ t2 from by rw [← unhide ht2]; exact o1)
  clear b21 cw21
  clear o1
  go_wp2_with fail
  refine (eqgrid_same Ha tn Hc Wa Wc t2 _ (by omega) (by rw [unhide HS]; omega) (unhide R_sH).rw (unhide R_sW).rw).mono ?_
  rintro e w22 ⟨rfl, b22⟩
  have cw22 := b22
  have zw22 := cw22.size
  have R_t := hide ((unhide R_t).later cw22)
  have R_l := hide ((unhide R_l).later cw22)
  have R_sW := hide ((unhide R_sW).later cw22)
  have R_sX := hide ((unhide R_sX).later cw22)
  have R_oZ := hide ((unhide R_oZ).later cw22)
  have R_sG := hide ((unhide R_sG).later cw22)
  have R_sJ := hide ((unhide R_sJ).later cw22)
  have R_oK := hide ((unhide R_oK).later cw22)
  have R_sH := hide ((unhide R_sH).later cw22)
  have BL := hide ((unhide BL).trans (cw22.mono (unhide BL).size))
  clear b22 cw22
  go_wp2_with fail
  refine (Calls.still9 (heldgrid_any Ga tn Gc t2 1 (by omega) (by omega) _ (by omega) (by rw [unhide HS]; omega) (unhide R_sG).rw)).mono ?_
  rintro e w23 ⟨rfl, b23⟩
  have cw23 := b23
  have zw23 := cw23.size
  have R_t := hide ((unhide R_t).later cw23)
  have R_l := hide ((unhide R_l).later cw23)
  have R_sW := hide ((unhide R_sW).later cw23)
  have R_sX := hide ((unhide R_sX).later cw23)
  have R_oZ := hide ((unhide R_oZ).later cw23)
  have R_sG := hide ((unhide R_sG).later cw23)
  have R_sJ := hide ((unhide R_sJ).later cw23)
  have R_oK := hide ((unhide R_oK).later cw23)
  have R_sH := hide ((unhide R_sH).later cw23)
  have BL := hide ((unhide BL).trans (cw23.mono (unhide BL).size))
  clear b23 cw23
  rw [unhide HS]
  go_wp2
  go_ret
  exact ⟨rfl, unhide BL⟩

set_option maxHeartbeats 4000000 in
set_option maxRecDepth 100000 in
theorem lifted (os : Os) (started : os.Started) (H : Type) (enc : TypeId × Value → H) :
    ReturnsInHanded {} Try.checked os 5 .any (Rows.fnExactTableAddSpec.pre6 enc Try.prog Try.f5 Rows.fnExactTableAddRow.domain false) (Rows.fnExactTableAddSpec.post enc Try.prog Try.f5 false true false false) := by
  refine returnsInHanded_of_change (C := Try.checked) own started (by kernel_rfl) Try.func5
    (ChangeSpec.witness6 (enc := enc) (C := Try.checked) false ⟨#[], #[.slice none 0 0, .int .i64 0, .slice none 0 0], []⟩ 8 (by kernel_rfl) (by kernel_rfl) (by kernel_rfl) (by kernel_rfl)) ?_
  intro W base args ds gs before hval0 hW hcnd _
  have hval : ∀ (j : Nat) t v, Try.f5.params[j]? = some t → args[j]? = some v → Value.okWide Try.prog W .any base t v := hval0
  have hW' := hW
  obtain ⟨p, q, hA0, hV, rfl, hfz, hnd⟩ := hW
  have hA : DataW.TrodAll enc Try.prog W 0 (fun _ => true) true Try.f5.params.toList args.toList ds p := hA0
  rw [Try.params5] at hA hval
  obtain ⟨v0, vs0, d0, ds0, p0, q0, hargs0, rfl, rfl, h0, r0⟩ := trodAll_cons hA
  obtain ⟨v1, vs1, d1, ds1, p1, q1, hargs1, rfl, rfl, h1, r1⟩ := trodAll_cons r0
  obtain ⟨v2, vs2, d2, ds2, p2, q2, hargs2, rfl, rfl, h2, r2⟩ := trodAll_cons r1
  obtain ⟨rfl, rfl, rfl⟩ := trodAll_nil r2
  obtain rfl : args = #[v0, v1, v2] := by cases args; simp_all
  obtain ⟨rfl, rfl⟩ := trodVars_none hV
  have k0 := h0
  have lt0 : ∀ x ∈ p0, x.block < W.heap.size := by obtain ⟨m, hm⟩ := k0; exact DataW.trod_lt m _ _ _ hm
  have k1 := h1
  have lt1 : ∀ x ∈ p1, x.block < W.heap.size := by obtain ⟨m, hm⟩ := k1; exact DataW.trod_lt m _ _ _ hm
  have k2 := h2
  have lt2 : ∀ x ∈ p2, x.block < W.heap.size := by obtain ⟨m, hm⟩ := k2; exact DataW.trod_lt m _ _ _ hm
  obtain ⟨ta, tn, tc, ts, rfl, th1, th2, th3, th4⟩ := open_grid (hval 0 22 v0 rfl rfl) h0
  obtain ⟨m, rfl, -, -, wm⟩ := open_int Try.underlying3 (hval 1 3 v1 rfl rfl) h1
  obtain ⟨la, ln, lc, ls, rfl, lh1, lh2, lh3⟩ := open_marks (hval 2 29 v2 rfl rfl) h2
  clear hA0 hval0
  refine (walk W ta tn tc ts th1 th2 th3 th4 m wm la ln lc ls lh1 lh2 lh3).mono fun e W' ⟨he, bel⟩ => ?_
  subst he
  exact ⟨_, rfl, _, _, _, [], _, [], hW', trodAll_mk1 (shut_bool Try.underlying4 _), (trodAll_cons_mk (Below.trod laidOut (by kernel_rfl) (of_decide_eq_true (by kernel_rfl)) k0 bel lt0) (trodAll_cons_mk (Below.trod laidOut (by kernel_rfl) (of_decide_eq_true (by kernel_rfl)) k1 bel lt1) (trodAll_cons_mk (Below.trod laidOut (by kernel_rfl) (of_decide_eq_true (by kernel_rfl)) k2 bel lt2) trodAll_mk0))), rfl, bel.frame _, fun h => by cases h⟩

theorem over : Rows.fnExactTableAddRow.holds Try.pinned (OpenSpec.ofChange Rows.fnExactTableAddSpec) :=
  OpenClaim.holds_of_wide 5 Try.f5 rfl rfl rfl rfl rfl rfl rfl ⟨rfl, rfl, rfl, rfl, rfl⟩ rfl rfl rfl rfl rfl (by kernel_rfl) Try.func5 (by kernel_rfl)
    (of_decide_eq_true (by kernel_rfl)) (by unfold Func.isWrapper; first | (rw [if_pos (by decide +kernel)]; kernel_rfl) | (rw [if_neg (by decide +kernel)]; exact ⟨rfl, rfl⟩))
    (fun os started H enc _ => lifted os started H enc)

theorem proved : Rows.FnExactTableAddSaid := over
#print axioms proved
end Go.Proofs.Ytighiahppjekeab.fnExactTableAdd
namespace Go.Proofs.Ytighiahppjekeab
theorem fnExactTableAdd_holds : Rows.FnExactTableAddSaid := fnExactTableAdd.proved
end Go.Proofs.Ytighiahppjekeab
