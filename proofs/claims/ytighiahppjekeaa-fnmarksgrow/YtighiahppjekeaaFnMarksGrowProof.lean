/-
  As a state grows its marks grow; two states that are joined have at each node the greater mark, at least, at every code. No conditions but the statement's own.
-/
import Derived.Test.YtighiahppjekeaaRows
import Derived.Test.YtighiahppjekeaaTbL
import Derived.Test.YtighiahppjekeaaL3W
import Derived.Test.YtighiahppjekeaaIJoin
import Derived.Test.YtighiahppjekeaaDrawB
import Derived.WalkKit
import Derived.ProofKit
import Derived.OpenShut
import Derived.ShutString
import Derived.ChangeOld
import Derived.Below
namespace Go.Proofs.Ytighiahppjekeaa.fnMarksGrow
open Go.ChangeShapes Go.WideShapes Go.ChangeAt Go.RowKit
open Go.ChangeMaps (open_string shut_string)
set_option linter.unusedVariables false

theorem own : ownKnob Try.prog.godebug = none := by kernel_rfl
theorem laidOut : laidOutB Try.prog = true := by kernel_rfl

/-- WHAT THE WALK IS TOLD OF A SLICE OF INTEGERS THAT CAME IN: it is nil; or it leads to a row of 'cap' cells, the numbers 'zs' (the first 'len' are its elements, the rest its spare room), each fitting its kind. -/
def IsRow (k : IntKind) (w : World) (a : Option Addr) (len cap : Nat) (zs : List Int) : Prop :=
  (a = none ∧ len = 0 ∧ cap = 0 ∧ zs = []) ∨
  ∃ x, a = some x ∧ len ≤ cap ∧ cap ≤ maxLen ∧ zs.length = cap ∧ (∀ i, i < zs.length → w.cell? (x.add i) = some (.int k (zs.getD i 0))) ∧ ∀ n ∈ zs, (Lit.int k n).wf = true

/-! ### STEP 1: THE WALK: the Go text returns true, AND WRITES NOTHING THAT WAS THERE: 'Below w.heap.size w w'' (Derived/Below.lean: '.refl', '.alloc', '.drew', '.setCell' at a new block, '.trans'). Open each 'IsRow' by 'rcases' AHEAD of 'go_enter'; part every test ahead of the walk. -/
set_option maxRecDepth 100000 in
set_option maxHeartbeats 4000000 in
theorem walk (a0 : Option Addr) (len0 cap0 : Nat) (z0 : List Int) (w : World) (w0 : IsRow .u8 w a0 len0 cap0 z0) :
    Calls Try.prog 4 #[.slice a0 len0 cap0] w fun e w' => e = .returned (.bool true) ∧ Below w.heap.size w w' := by
  obtain ⟨xs, hxl, hseg, hbd⟩ := seg_of_row w0
  subst hxl
  by_cases hbig : 1048576 < xs.length
  · clear w0 hseg hbd
    go_enter Try.func4, Try.ntmps4
    go_wp2
    go_ret
    exact ⟨rfl, Below.refl _ _⟩
  have hlen : xs.length ≤ 1048576 := by omega
  have HS0 := hide hseg
  have HD := hide hbd
  clear hseg hbd w0
  go_enter Try.func4, Try.ntmps4
  go_wp2_with fail
  refine (big_no _ _ _ _ hbig).mono ?_
  rintro e _ ⟨rfl, rfl⟩
  go_wp2_with fail
  refine (drawjoin_any _ xs _ hlen (unhide HD) (unhide HS0)).mono ?_
  rintro e w1 ⟨a1, a2, a3, a4, a5, a6, b1, b2, b3, b4, b5, b6, its, fls, jts, gls, rfl, t⟩
  have BB := hide t.bel
  have O1 := hide t.oi
  have O2 := hide t.of
  have O3 := hide t.pi
  have O4 := hide t.pf
  have NI := hide t.ni
  have NJ := hide t.nj
  have l1 := t.l1
  have l2 := t.l2
  have l3 := t.l3
  have l4 := t.l4
  have hh1 := (t.oi.rw encI_len).len.1
  have hh2 := (t.of.rw encF_len).len.1
  have hh3 := (t.pi.rw encI_len).len.1
  have hh4 := (t.pf.rw encF_len).len.1
  obtain ⟨m1, m2, m3, m4⟩ : a2 ≤ 6 ∧ a5 ≤ 6 ∧ b2 ≤ 6 ∧ b5 ≤ 6 := by omega
  clear t l1 l2 l3 l4 hh1 hh2 hh3 hh4
  go_upto_region 4 with fail
  obtain ⟨w11, hw11⟩ : ∃ W, W = ((w1.alloc (StB (.slice a1 a2 a3) (.slice a4 a5 a6))).alloc (StB (.slice b1 b2 b3) (.slice b4 b5 b6))) := ⟨_, rfl⟩
  obtain ⟨b_a, hb_a⟩ : ∃ b, b = w1.heap.size := ⟨_, rfl⟩
  obtain ⟨b_b, hb_b⟩ : ∃ b, b = w1.heap.size + 1 := ⟨_, rfl⟩
  rw [← hw11, ← hb_b, ← hb_a]
  have hsw11 := (unhide BB).size
  have bw11 : Below w1.heap.size w1 w11 := by rw [hw11]; exact ((Below.refl _ _).alloc (Nat.le_refl _) _).alloc (by simp) _
  have U_a := hide (show U3 w w11 b_a (.slice a1 a2 a3) (.slice a4 a5 a6) (its) (fls) from by rw [hw11, hb_a]; exact (U3.new hsw11 (Nat.le_refl _) (unhide O1) (unhide O2)).later ((Below.refl _ _).alloc (Nat.le_refl _) _))
  have U_b := hide (show U3 w w11 b_b (.slice b1 b2 b3) (.slice b4 b5 b6) (jts) (gls) from by rw [hw11, hb_b]; have e := U3.new (w := w) (X := w1.alloc (StB (.slice a1 a2 a3) (.slice a4 a5 a6))) (by simp; omega) (Nat.le_refl _) ((unhide O3).later ((Below.refl w1.heap.size w1).alloc (Nat.le_refl _) (StB (.slice a1 a2 a3) (.slice a4 a5 a6)))) ((unhide O4).later ((Below.refl w1.heap.size w1).alloc (Nat.le_refl _) (StB (.slice a1 a2 a3) (.slice a4 a5 a6)))); rw [show (w1.alloc (StB (.slice a1 a2 a3) (.slice a4 a5 a6))).heap.size = w1.heap.size + 1 by simp] at e; exact e)
  replace BB := hide ((unhide BB).trans (bw11.mono (unhide BB).size))
  clear bw11 hw11 hsw11 hb_a hb_b O1 O2 O3 O4
  obtain ⟨ok, HJ⟩ : ∃ ok, Hid ((okS its fls && okS jts gls) = ok) := ⟨_, hide rfl⟩
  obtain ⟨z_a0, z_a1⟩ := (unhide U_a).cells
  obtain ⟨z_b0, z_b1⟩ := (unhide U_b).cells
  go_wp2_with fail
  clear z_a0 z_a1 z_b0 z_b1
  obtain ⟨n12, hn12⟩ : ∃ z, Hid ((jnI ok its fls jts gls).length = z) := ⟨_, hide rfl⟩
  obtain ⟨n13, hn13⟩ : ∃ z, Hid ((jnF ok fls gls).length = z) := ⟨_, hide rfl⟩
  have kn12 : n12 ≤ 5 := by rw [← unhide hn12]; exact jnI_len _ _ _ _ _
  have kn13 : n13 ≤ 5 := by rw [← unhide hn13]; exact jnF_len _ _ _
  have sw14 := (unhide BB).size
  refine (ijoin_any a1 a2 a3 its a4 a5 a6 fls b1 b2 b3 jts b4 b5 b6 gls ok HJ n12 n13 hn12 hn13 _ (by omega) (by omega) (by omega) (by omega) (unhide U_a).rI (unhide U_a).rF (unhide U_b).rI (unhide U_b).rF).mono ?_
  rintro e w14 ⟨jaw14, jcw14, jbw14, jdw14, rfl, o1, o2, bw14⟩
  have OA := hide o1
  have OB := hide o2
  replace U_a := hide ((unhide U_a).later bw14)
  replace U_b := hide ((unhide U_b).later bw14)
  replace BB := hide ((unhide BB).trans (bw14.mono (unhide BB).size))
  clear o1 o2 bw14
  go_upto_region 5 with fail
  obtain ⟨w15, hw15⟩ : ∃ W, W = (w14.alloc (StB (.slice jaw14 n12 jcw14) (.slice jbw14 n13 jdw14))) := ⟨_, rfl⟩
  obtain ⟨b_j, hb_j⟩ : ∃ b, b = w14.heap.size := ⟨_, rfl⟩
  rw [← hw15, ← hb_j]
  have hsw15 := (unhide BB).size
  have bw15 : Below w14.heap.size w14 w15 := by rw [hw15]; exact (Below.refl _ _).alloc (Nat.le_refl _) _
  have U_j := hide (show U3 w w15 b_j (.slice jaw14 n12 jcw14) (.slice jbw14 n13 jdw14) (jnI ok its fls jts gls) (jnF ok fls gls) from by rw [hw15, hb_j]; exact U3.new hsw15 sw14 (.inl (unhide OA)) (.inl (unhide OB)))
  replace U_a := hide ((unhide U_a).later bw15)
  replace U_b := hide ((unhide U_b).later bw15)
  replace BB := hide ((unhide BB).trans (bw15.mono (unhide BB).size))
  clear bw15 hw15 hsw15 hb_j OA OB
  clear sw14
  obtain ⟨z_a0, z_a1⟩ := (unhide U_a).cells
  obtain ⟨z_b0, z_b1⟩ := (unhide U_b).cells
  go_wp2_with fail
  clear z_a0 z_a1 z_b0 z_b1
  obtain ⟨n16, hn16⟩ : ∃ z, Hid ((jnI ok its fls jts gls).length = z) := ⟨_, hide rfl⟩
  obtain ⟨n17, hn17⟩ : ∃ z, Hid ((jnF ok fls gls).length = z) := ⟨_, hide rfl⟩
  have kn16 : n16 ≤ 5 := by rw [← unhide hn16]; exact jnI_len _ _ _ _ _
  have kn17 : n17 ≤ 5 := by rw [← unhide hn17]; exact jnF_len _ _ _
  have sw18 := (unhide BB).size
  refine (sjoin_any a1 a2 a3 its a4 a5 a6 fls b1 b2 b3 jts b4 b5 b6 gls ok HJ n16 n17 hn16 hn17 _ (by omega) (by omega) (by omega) (by omega) (unhide U_a).rI (unhide U_a).rF (unhide U_b).rI (unhide U_b).rF).mono ?_
  rintro e w18 ⟨jaw18, jcw18, jbw18, jdw18, rfl, o1, o2, bw18⟩
  have OA := hide o1
  have OB := hide o2
  replace U_a := hide ((unhide U_a).later bw18)
  replace U_b := hide ((unhide U_b).later bw18)
  replace U_j := hide ((unhide U_j).later bw18)
  replace BB := hide ((unhide BB).trans (bw18.mono (unhide BB).size))
  clear o1 o2 bw18
  go_upto_region 6 with fail
  obtain ⟨w19, hw19⟩ : ∃ W, W = (w18.alloc (StB (.slice jaw18 n16 jcw18) (.slice jbw18 n17 jdw18))) := ⟨_, rfl⟩
  obtain ⟨b_q, hb_q⟩ : ∃ b, b = w18.heap.size := ⟨_, rfl⟩
  rw [← hw19, ← hb_q]
  have hsw19 := (unhide BB).size
  have bw19 : Below w18.heap.size w18 w19 := by rw [hw19]; exact (Below.refl _ _).alloc (Nat.le_refl _) _
  have U_q := hide (show U3 w w19 b_q (.slice jaw18 n16 jcw18) (.slice jbw18 n17 jdw18) (jnI ok its fls jts gls) (jnF ok fls gls) from by rw [hw19, hb_q]; exact U3.new hsw19 sw18 (.inl (unhide OA)) (.inl (unhide OB)))
  replace U_a := hide ((unhide U_a).later bw19)
  replace U_b := hide ((unhide U_b).later bw19)
  replace U_j := hide ((unhide U_j).later bw19)
  replace BB := hide ((unhide BB).trans (bw19.mono (unhide BB).size))
  clear bw19 hw19 hsw19 hb_q OA OB
  clear sw18
  clear U_q
  have hne : (ok != ok) = false := by cases ok <;> rfl
  cases ok
  · skip
    clear HJ
    go_wp2
    go_ret
    exact ⟨rfl, unhide BB⟩
  have hAB := unhide HJ
  rw [Bool.and_eq_true] at hAB
  have OA' := hide ((okS_iff _ _).1 hAB.1)
  have OB' := hide ((okS_iff _ _).1 hAB.2)
  clear hAB hne
  replace U_j := hide (show U3 w w19 b_j (.slice jaw14 n12 jcw14) (.slice jbw14 n13 jdw14) (joinI its fls jts gls) (joinF fls gls) from unhide U_j)
  obtain ⟨r1, hr1⟩ : ∃ r, Hid (putMs nulR (mks its fls) = r) := ⟨_, hide rfl⟩
  obtain ⟨r2, hr2⟩ : ∃ r, Hid (putMs r1 (mks jts gls) = r) := ⟨_, hide rfl⟩
  obtain ⟨qj, hqj⟩ : ∃ r, Hid (putMs nulR (mks (joinI its fls jts gls) (joinF fls gls)) = r) := ⟨_, hide rfl⟩
  have l1 : r1.length = 5 := by rw [← unhide hr1]; exact row_len _ _ rfl
  have l2 : r2.length = 5 := by rw [← unhide hr2]; exact row_len _ _ l1
  have lq : qj.length = 5 := by rw [← unhide hqj]; exact row_len _ _ rfl
  have E1 : Hid (addT [nulR] 0 (mks its fls) = [r1]) := hide (by rw [addT_one (by decide) (mks_ok _ _), unhide hr1])
  have E2 : Hid (addT [r1] 0 (mks jts gls) = [r2]) := hide (by rw [addT_one (by omega) (mks_ok _ _), unhide hr2])
  have EQ : Hid (addT [nulR] 0 (mks (joinI its fls jts gls) (joinF fls gls)) = [qj]) := hide (by rw [addT_one (by decide) (mks_ok _ _), unhide hqj])
  have HV : Hid (∀ i : Nat, i < 5 → nAt r2 i ≤ nAt qj i ∧ nAt qj i = gone (joinI its fls jts gls) (joinF fls gls) (i : Int)) := hide (fun i hi => by
    have e2 : nAt r2 i = max (gone its fls (i : Int)) (gone jts gls (i : Int)) := by rw [← unhide hr2, ← unhide hr1]; exact row_two its fls jts gls hi
    have eq : nAt qj i = gone (joinI its fls jts gls) (joinF fls gls) (i : Int) := by rw [← unhide hqj]; exact row_one _ _ hi
    have g1 := ((unhide OA').over (unhide OB') (i : Int)).1
    have g2 := ((unhide OB').over (unhide OA') (i : Int)).1
    have c := (unhide OA').comm (unhide OB')
    rw [← c.1, ← c.2] at g2
    rw [e2, eq]
    omega)
  clear hr1 hr2 hqj
  obtain ⟨z_a0, z_a1⟩ := (unhide U_a).cells
  go_wp2_with fail
  go_region_held3 (fun W => Below w19.heap.size w19 W ∧ W.cell? ⟨b_a, 0, none⟩ = some (.slice a1 a2 a3) ∧ W.cell? ⟨b_a, 1, none⟩ = some (.slice a4 a5 a6))
    (first | (with_reducible exact keep2 (unhide U_a).lt z_a0 z_a1 (Below.refl _ _)) | (with_reducible exact keep2 (unhide U_a).lt z_a0 z_a1 ((Below.refl _ _).drew)) | (with_reducible exact keep2 (unhide U_a).lt z_a0 z_a1 (by assumption)))
    (first
      | (go_at_call 14; refine (inew_v 1 [nulR] new_one 1 (hide rfl) _).mono ?_; rintro e u1 ⟨na, nc, rfl, o1, b6⟩; have R_N := hide o1.rw; clear o1; have bu1 := kb2 (by assumption) b6; clear b6)
      | (go_at_call 20; refine (imarksof_any a1 a2 a3 its a4 a5 a6 fls _ (by omega) (by omega) ?_ ?_).mono ?_; exact (unhide U_a).rI.later (kb1 (by assumption)); exact (unhide U_a).rF.later (kb1 (by assumption)); rintro e u2 ⟨ma, mc, rfl, o1, b6⟩; have R_M := hide (o1.rw encF_len); clear o1; have R_N := hide ((unhide R_N).later b6); have bu2 := kb2 (by assumption) b6; clear b6)
      | (go_at_call 9; refine (itableadd_any na 1 nc [nulR] 0 ma _ mc (mks its fls) _ (by omega) (by decide) (by have := mks_len its fls; omega) (unhide R_N) (unhide R_M)).mono ?_; rintro e w20 ⟨ta, tc, rfl, o1, b6⟩; have T_t := hide o1.rw; rw [unhide E1] at T_t; clear o1; have bu3 := kb2 (by assumption) b6; clear b6))
  clear z_a0 z_a1
  replace U_a := hide ((unhide U_a).later bu3)
  replace U_b := hide ((unhide U_b).later bu3)
  replace U_j := hide ((unhide U_j).later bu3)
  replace BB := hide ((unhide BB).trans (bu3.mono (unhide BB).size))
  clear bu1 bu2 bu3 R_N R_M
  obtain ⟨z_b0, z_b1⟩ := (unhide U_b).cells
  go_wp2_with fail
  refine (imarksof_any b1 b2 b3 jts b4 b5 b6 gls _ (by omega) (by omega) (unhide U_b).rI (unhide U_b).rF).mono ?_
  rintro e w21 ⟨ma, mc, rfl, o1, b6⟩
  have R_M := hide (o1.rw encF_len)
  clear o1
  clear z_b0 z_b1
  replace T_t := hide ((unhide T_t).later b6)
  replace U_a := hide ((unhide U_a).later b6)
  replace U_b := hide ((unhide U_b).later b6)
  replace U_j := hide ((unhide U_j).later b6)
  replace BB := hide ((unhide BB).trans (b6.mono (unhide BB).size))
  clear b6
  go_wp2_with fail
  refine (itableadd_any ta 1 tc [r1] 0 ma _ mc (mks jts gls) _ (by omega) (by simp [totG]; omega) (by have := mks_len jts gls; omega) (unhide T_t) (unhide R_M)).mono ?_
  rintro e w22 ⟨va, vc, rfl, o1, b6⟩
  have T_v := hide o1.rw
  rw [unhide E2] at T_v
  clear o1 R_M T_t
  replace U_a := hide ((unhide U_a).later b6)
  replace U_b := hide ((unhide U_b).later b6)
  replace U_j := hide ((unhide U_j).later b6)
  replace BB := hide ((unhide BB).trans (b6.mono (unhide BB).size))
  clear b6
  obtain ⟨z_j0, z_j1⟩ := (unhide U_j).cells
  go_wp2_with fail
  go_region_held3 (fun W => Below w22.heap.size w22 W ∧ W.cell? ⟨b_j, 0, none⟩ = some (.slice jaw14 n12 jcw14) ∧ W.cell? ⟨b_j, 1, none⟩ = some (.slice jbw14 n13 jdw14))
    (first | (with_reducible exact keep2 (unhide U_j).lt z_j0 z_j1 (Below.refl _ _)) | (with_reducible exact keep2 (unhide U_j).lt z_j0 z_j1 ((Below.refl _ _).drew)) | (with_reducible exact keep2 (unhide U_j).lt z_j0 z_j1 (by assumption)))
    (first
      | (go_at_call 14; refine (inew_v 1 [nulR] new_one 1 (hide rfl) _).mono ?_; rintro e u1 ⟨na, nc, rfl, o1, b6⟩; have R_N := hide o1.rw; clear o1; have bu1 := kb2 (by assumption) b6; clear b6)
      | (go_at_call 20; refine (imarksof_any jaw14 n12 jcw14 (joinI its fls jts gls) jbw14 n13 jdw14 (joinF fls gls) _ (by omega) (by omega) ?_ ?_).mono ?_; exact (unhide U_j).rI.later (kb1 (by assumption)); exact (unhide U_j).rF.later (kb1 (by assumption)); rintro e u2 ⟨ma, mc, rfl, o1, b6⟩; have R_M := hide (o1.rw encF_len); clear o1; have R_N := hide ((unhide R_N).later b6); have bu2 := kb2 (by assumption) b6; clear b6)
      | (go_at_call 9; refine (itableadd_any na 1 nc [nulR] 0 ma _ mc (mks (joinI its fls jts gls) (joinF fls gls)) _ (by omega) (by decide) (by have := mks_len (joinI its fls jts gls) (joinF fls gls); omega) (unhide R_N) (unhide R_M)).mono ?_; rintro e w23 ⟨ua, uc, rfl, o1, b6⟩; have T_u := hide o1.rw; rw [unhide EQ] at T_u; clear o1; have bu3 := kb2 (by assumption) b6; clear b6))
  clear z_j0 z_j1
  replace T_v := hide ((unhide T_v).later bu3)
  replace U_a := hide ((unhide U_a).later bu3)
  replace U_b := hide ((unhide U_b).later bu3)
  replace U_j := hide ((unhide U_j).later bu3)
  replace BB := hide ((unhide BB).trans (bu3.mono (unhide BB).size))
  clear bu1 bu2 bu3 R_N R_M
  obtain ⟨vb, vo, vr, vk, rfl, hvb, hvc, v0, vR⟩ := (unhide T_v).one
  obtain ⟨ub, uo, ur, uk, rfl, hub, huc, u0, uR⟩ := (unhide T_u).one
  rw [l2] at v0 vR
  rw [lq] at u0 uR
  have V0 := hide v0
  have U0 := hide u0
  have VR := hide vR
  have UR := hide uR
  clear vR uR E1 E2 EQ l2 U_a U_b
  go_wp2
  clear v0 u0
  go_loopw [11] (fun i wr => ∃ k : Nat, k ≤ 5 ∧ i = .int .i64 k ∧ Below w23.heap.size w23 wr) (fun i _ => 5 - (intOf i).toNat)
  case atStart => exact ⟨0, Nat.zero_le _, rfl, Below.refl _ _⟩
  case round =>
    obtain ⟨k, hk, rfl, hbel⟩ := hrel
    have HB := hide ((unhide BB).trans (hbel.mono (unhide BB).size))
    have HBL := hide hbel
    have hsz := hbel.size
    by_cases hlt : k < 5
    · have U_k := hide ((unhide U_j).later hbel)
      have TU := hide ((unhide T_u).later hbel)
      obtain ⟨z0, z1⟩ := (unhide U_k).cells
      have m0 := later_some (w := wr) (unhide U_k).lt z0
      have m1 := later_some (w := wr) (unhide U_k).lt z1
      have e0 := later_some (w := wr) (b := vb) (o := vo) (by omega) ((hbel.cell (p := ⟨vb, vo, none⟩) hvb).trans (unhide V0))
      have f0 := later_some (w := wr) (b := ub) (o := uo) (by omega) ((hbel.cell (p := ⟨ub, uo, none⟩) hub).trans (unhide U0))
      obtain ⟨x, xb, xo, hx, rfl, hxb, hxc, cx⟩ := ((unhide VR).later hbel).atN (i := k) (by omega)
      obtain ⟨y, yb, yo, hy, rfl, hyb, hyc, cy⟩ := ((unhide UR).later hbel).atN (i := k) (by omega)
      have x0 := later_some (w := wr) hxb cx
      have y0 := later_some (w := wr) hyb cy
      have hv := unhide HV k hlt
      rw [nAt_in hx, nAt_in hy] at hv
      have hd1 : decide (y < x) = false := by simp; omega
      have hd2 : (y != y) = false := by simp
      have HG : Hid (gone (joinI its fls jts gls) (joinF fls gls) (k : Int) = y) := hide hv.2.symm
      have HC : Hid (com [qj] (k : Int) = y) := hide (by rw [com_one (by omega), nAt_in hy])
      have HLN : Hid (∀ (i : Nat) (q : List Int), [qj][i]? = some q → q.length ≤ 140737488351232) := hide (fun i q hq => by
        have := List.mem_of_getElem? hq
        simp at this
        rw [this]; omega)
      clear hv hx hy cx cy z0 z1 hbel
      go_wp2_with fail
      refine wp_region_later (by kernel_rfl) (by kernel_rfl) ?_
      repeat (go_big_quiet_step (first
        | (go_at_call 21; exact Calls.later_of (igone_any jaw14 n12 jcw14 (joinI its fls jts gls) jbw14 n13 jdw14 (joinF fls gls) k y HG _ (by omega) (by omega) ((unhide U_k).rI.in_later _ _) ((unhide U_k).rF.in_later _ _)))
        | (go_at_call 12; exact Calls.later_of (icommon_any _ 1 uc [qj] k y HC _ (by omega) (unhide HLN) ((unhide TU).later (later_below _ _ _))))))
      refine wpQuiet_nil ?_
      intro w9 b9
      have HB9 := hide ((unhide HBL).trans (b9.mono hsz))
      clear b9
      go_wp2
      go_roundw
      case rel => exact ⟨k + 1, by omega, by go_num, unhide HB9⟩
      case measure => simp [intOf]; omega
    · clear hbel
      go_wp2
      go_ret
      exact ⟨rfl, unhide HB⟩

/-! ### THE ROW's STEP: WRITTEN OUT: LEAVE IT -/
set_option maxRecDepth 100000 in
theorem lifted (os : Os) (started : os.Started) (H : Type) (enc : TypeId × Value → H) :
    ReturnsInHanded {} Try.checked os 4 .any (Rows.fnMarksGrowSpec.pre6 enc Try.prog Try.f4 Rows.fnMarksGrowRow.domain false) (Rows.fnMarksGrowSpec.post enc Try.prog Try.f4 false true false false) := by
  refine returnsInHanded_of_change (C := Try.checked) own started (by kernel_rfl) Try.func4
    (ChangeSpec.witness6 (enc := enc) (C := Try.checked) false ⟨#[], #[.slice none 0 0], []⟩ 8 (by kernel_rfl) (by kernel_rfl) (by kernel_rfl) (by kernel_rfl)) ?_
  intro W base args ds gs before hval0 hW hcnd _
  have hval : ∀ (j : Nat) t v, Try.f4.params[j]? = some t → args[j]? = some v → Value.okWide Try.prog W .any base t v := hval0
  have hW' := hW
  obtain ⟨p, q, hA0, hV, rfl, hfz, hnd⟩ := hW
  have hA : DataW.TrodAll enc Try.prog W 0 (fun _ => true) true Try.f4.params.toList args.toList ds p := hA0
  rw [Try.params4] at hA hval
  obtain ⟨v0, vs0, d0, ds0, p0, q0, hargs, rfl, rfl, h0, r0⟩ := trodAll_cons hA
  obtain ⟨rfl, rfl, rfl⟩ := trodAll_nil r0
  obtain rfl : args = #[v0] := by cases args; simp_all
  obtain ⟨rfl, rfl⟩ := trodVars_none hV
  obtain ⟨a0, len0, cap0, rfl⟩ := okWide_slice Try.underlying22 (hval 0 22 v0 rfl rfl)
  have k0 := h0
  have lt0 : ∀ x ∈ p0, x.block < W.heap.size := by obtain ⟨m, hm⟩ := k0; exact DataW.trod_lt m _ _ _ hm
  obtain ⟨z0, w0⟩ : ∃ zs, IsRow .u8 W a0 len0 cap0 zs := by
    obtain ⟨fuel, hf⟩ := h0
    rcases open_ints Try.underlying22 Try.underlying5 (by kernel_rfl) hf with ⟨hcs, _⟩ | ⟨x, l, c, zs, hcs, _, hl, hm, hz, _, hcell, hwz⟩
    · simp [Value.cells] at hcs
      obtain ⟨rfl, rfl, rfl⟩ := hcs
      exact ⟨[], .inl ⟨rfl, rfl, rfl, rfl⟩⟩
    · simp [Value.cells] at hcs
      obtain ⟨rfl, rfl, rfl⟩ := hcs
      exact ⟨zs, .inr ⟨_, rfl, hl, hm, by simpa using hz, hcell, hwz⟩⟩
  clear hA0 hval0
  refine (walk a0 len0 cap0 z0 W w0).mono fun e W' ⟨he, bel⟩ => ?_
  subst he
  exact ⟨_, rfl, _, _, _, [], _, [], hW', trodAll_mk1 (shut_bool Try.underlying4 _), (trodAll_cons_mk (Below.trod laidOut (by kernel_rfl) (of_decide_eq_true (by kernel_rfl)) k0 bel lt0) trodAll_mk0), rfl, bel.frame _, fun h => by cases h⟩

theorem over : Rows.fnMarksGrowRow.holds Try.pinned (OpenSpec.ofChange Rows.fnMarksGrowSpec) :=
  OpenClaim.holds_of_wide 4 Try.f4 rfl rfl rfl rfl rfl rfl rfl ⟨rfl, rfl, rfl, rfl, rfl⟩ rfl rfl rfl rfl rfl (by kernel_rfl) Try.func4 (by kernel_rfl)
    (of_decide_eq_true (by kernel_rfl)) (by unfold Func.isWrapper; first | (rw [if_pos (by decide +kernel)]; kernel_rfl) | (rw [if_neg (by decide +kernel)]; exact ⟨rfl, rfl⟩))
    (fun os started H enc _ => lifted os started H enc)

theorem proved : Rows.FnMarksGrowSaid := over
#print axioms proved
end Go.Proofs.Ytighiahppjekeaa.fnMarksGrow
namespace Go.Proofs.Ytighiahppjekeaa
theorem fnMarksGrow_holds : Rows.FnMarksGrowSaid := fnMarksGrow.proved
end Go.Proofs.Ytighiahppjekeaa
