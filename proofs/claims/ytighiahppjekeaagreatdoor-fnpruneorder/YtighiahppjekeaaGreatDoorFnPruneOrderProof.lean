/-
  Pruned ahead of being joined, or behind, the same comes of it, where the table knows of both, at every code. No conditions but the statement’s own.
-/
import Derived.Test.YtighiahppjekeaaGreatDoorRows
import Derived.Test.YtighiahppjekeaaGreatDoorCards
import Derived.Test.YtighiahppjekeaaGreatDoorTie
import Derived.Test.YtighiahppjekeaaGreatDoorL3W
import Derived.Test.YtighiahppjekeaaGreatDoorMkW
import Derived.Test.YtighiahppjekeaaGreatDoorTbL
import Derived.Test.YtighiahppjekeaaGreatDoorPru
import Derived.Test.YtighiahppjekeaaGreatDoorVwT
import Derived.Test.YtighiahppjekeaaGreatDoorSStSame
import Derived.Test.YtighiahppjekeaaGreatDoorStBx
import Derived.Test.YtighiahppjekeaaGreatDoorEntDraw
import Derived.Deep.DeepHandedRow
import Derived.Lib.LaidTab
import Derived.LaidMore
import Derived.LaidSub
import Derived.SevenTiedAt
import Derived.WalkKit
import Derived.ProofKit
import Derived.OpenShut
import Derived.ShutString
import Derived.ChangeOld
import Derived.Below
import Derived.Carry
namespace Go.Proofs.YtighiahppjekeaaGreatDoor.fnPruneOrder
open Go.ChangeShapes Go.WideShapes Go.ChangeAt Go.RowKit
open Go.ChangeMaps (open_string shut_string)

theorem own : ownKnob Tryz.prog.godebug = none := by kernel_rfl
theorem laidOut : laidOutB Tryz.prog = true := by kernel_rfl

set_option maxHeartbeats 8000000 in
set_option maxRecDepth 100000 in
theorem walk (w : World) (a0 : Option Addr) (len0 cap0 : Nat) (z0 : List Int) (w0 : (a0 = none ∧ len0 = 0 ∧ cap0 = 0 ∧ z0 = []) ∨ ∃ x, a0 = some x ∧ len0 ≤ cap0 ∧ cap0 ≤ maxLen ∧ z0.length = cap0 ∧ (∀ i, i < z0.length → w.cell? (x.add i) = some (.int .u8 (z0.getD i 0))) ∧ ∀ n ∈ z0, (Lit.int .u8 n).wf = true) (hT : Lib.TabIs Tryz.prog w "internal/strconv.uint64pow10" .u64 Lib.pow10Tab) :
    Calls Tryz.prog 4 #[.slice a0 len0 cap0] w fun e w' => e = .returned (.bool true) ∧ Below w.heap.size w w' := by
  have HT := hide hT
  clear hT
  obtain ⟨xs, hxl, hseg, hbd⟩ := seg_of_row w0
  subst hxl
  by_cases hbig : 1048576 < xs.length
  · clear w0 hseg hbd
    go_enter Tryz.func4, Tryz.ntmps4
    go_wp2
    go_ret
    exact ⟨rfl, Below.refl _ _⟩
  have hlen : xs.length ≤ 1048576 := by omega
  have HS0 := hide hseg
  have HD := hide hbd
  clear hseg hbd w0
  go_enter Tryz.func4, Tryz.ntmps4
  go_wp2_with fail
  refine (big_no _ _ _ _ hbig).mono ?_
  rintro e _ ⟨rfl, rfl⟩
  go_wp2_with fail
  refine (drawjoin_any _ xs _ hlen (unhide HD) (unhide HS0)).mono ?_
  rintro e w1 ⟨a1, a2, a3, a4, a5, a6, b1, b2, b3, b4, b5, b6, its, fls, jts, gls, rfl, t⟩
  have BB := hide t.bel
  have O1 := hide t.oi
  have O2 := hide t.of
  have O3 := hide t.pi
  have O4 := hide t.pf
  have NI := hide t.ni
  have NJ := hide t.nj
  have l1 := t.l1
  have l2 := t.l2
  have l3 := t.l3
  have l4 := t.l4
  have hh1 := (t.oi.rw encI_len).len.1
  have hh2 := (t.of.rw encF_len).len.1
  have hh3 := (t.pi.rw encI_len).len.1
  have hh4 := (t.pf.rw encF_len).len.1
  obtain ⟨m1, m2, m3, m4⟩ : a2 ≤ 6 ∧ a5 ≤ 6 ∧ b2 ≤ 6 ∧ b5 ≤ 6 := by omega
  clear t l1 l2 l3 l4 hh1 hh2 hh3 hh4
  go_upto_region 4 with fail
  obtain ⟨w11, hw11⟩ : ∃ W, W = ((w1.alloc (StB (.slice a1 a2 a3) (.slice a4 a5 a6))).alloc (StB (.slice b1 b2 b3) (.slice b4 b5 b6))) := ⟨_, rfl⟩
  obtain ⟨b_a, hb_a⟩ : ∃ b, b = w1.heap.size := ⟨_, rfl⟩
  obtain ⟨b_b, hb_b⟩ : ∃ b, b = w1.heap.size + 1 := ⟨_, rfl⟩
  rw [← hw11, ← hb_b, ← hb_a]
  have hsw11 := (unhide BB).size
  have bw11 : Below w1.heap.size w1 w11 := by rw [hw11]; exact ((Below.refl _ _).alloc (Nat.le_refl _) _).alloc (by simp) _
  have U_a := hide (show U3 w w11 b_a (.slice a1 a2 a3) (.slice a4 a5 a6) (its) (fls) from by rw [hw11, hb_a]; exact (U3.new hsw11 (Nat.le_refl _) (unhide O1) (unhide O2)).later ((Below.refl _ _).alloc (Nat.le_refl _) _))
  have U_b := hide (show U3 w w11 b_b (.slice b1 b2 b3) (.slice b4 b5 b6) (jts) (gls) from by rw [hw11, hb_b]; have e := U3.new (w := w) (X := w1.alloc (StB (.slice a1 a2 a3) (.slice a4 a5 a6))) (by simp; omega) (Nat.le_refl _) ((unhide O3).later ((Below.refl w1.heap.size w1).alloc (Nat.le_refl _) (StB (.slice a1 a2 a3) (.slice a4 a5 a6)))) ((unhide O4).later ((Below.refl w1.heap.size w1).alloc (Nat.le_refl _) (StB (.slice a1 a2 a3) (.slice a4 a5 a6)))); rw [show (w1.alloc (StB (.slice a1 a2 a3) (.slice a4 a5 a6))).heap.size = w1.heap.size + 1 by simp] at e; exact e)
  replace BB := hide ((unhide BB).trans (bw11.mono (unhide BB).size))
  clear bw11 hw11 hsw11 hb_a hb_b O1 O2 O3 O4
  obtain ⟨ok, HJ⟩ : ∃ ok, Hid ((okS its fls && okS jts gls) = ok) := ⟨_, hide rfl⟩
  obtain ⟨z_a0, z_a1⟩ := (unhide U_a).cells
  obtain ⟨z_b0, z_b1⟩ := (unhide U_b).cells
  go_wp2_with fail
  clear z_a0 z_a1 z_b0 z_b1
  obtain ⟨n12, hn12⟩ : ∃ z, Hid ((jnI ok its fls jts gls).length = z) := ⟨_, hide rfl⟩
  obtain ⟨n13, hn13⟩ : ∃ z, Hid ((jnF ok fls gls).length = z) := ⟨_, hide rfl⟩
  have kn12 : n12 ≤ 5 := by rw [← unhide hn12]; exact jnI_len _ _ _ _ _
  have kn13 : n13 ≤ 5 := by rw [← unhide hn13]; exact jnF_len _ _ _
  have sw14 := (unhide BB).size
  refine (ijoin_any a1 a2 a3 its a4 a5 a6 fls b1 b2 b3 jts b4 b5 b6 gls ok HJ n12 n13 hn12 hn13 _ (by omega) (by omega) (by omega) (by omega) (unhide U_a).rI (unhide U_a).rF (unhide U_b).rI (unhide U_b).rF).mono ?_
  rintro e w14 ⟨jaw14, jcw14, jbw14, jdw14, rfl, o1, o2, bw14⟩
  have OA := hide o1
  have OB := hide o2
  replace U_a := hide ((unhide U_a).later bw14)
  replace U_b := hide ((unhide U_b).later bw14)
  replace BB := hide ((unhide BB).trans (bw14.mono (unhide BB).size))
  clear o1 o2 bw14
  go_upto_region 5 with fail
  obtain ⟨w15, hw15⟩ : ∃ W, W = (w14.alloc (StB (.slice jaw14 n12 jcw14) (.slice jbw14 n13 jdw14))) := ⟨_, rfl⟩
  obtain ⟨b_j, hb_j⟩ : ∃ b, b = w14.heap.size := ⟨_, rfl⟩
  rw [← hw15, ← hb_j]
  have hsw15 := (unhide BB).size
  have bw15 : Below w14.heap.size w14 w15 := by rw [hw15]; exact (Below.refl _ _).alloc (Nat.le_refl _) _
  have U_j := hide (show U3 w w15 b_j (.slice jaw14 n12 jcw14) (.slice jbw14 n13 jdw14) (jnI ok its fls jts gls) (jnF ok fls gls) from by rw [hw15, hb_j]; exact U3.new hsw15 sw14 (.inl (unhide OA)) (.inl (unhide OB)))
  replace U_a := hide ((unhide U_a).later bw15)
  replace U_b := hide ((unhide U_b).later bw15)
  replace BB := hide ((unhide BB).trans (bw15.mono (unhide BB).size))
  clear bw15 hw15 hsw15 hb_j OA OB
  clear sw14
  obtain ⟨z_a0, z_a1⟩ := (unhide U_a).cells
  obtain ⟨z_b0, z_b1⟩ := (unhide U_b).cells
  go_wp2_with fail
  clear z_a0 z_a1 z_b0 z_b1
  obtain ⟨n16, hn16⟩ : ∃ z, Hid ((jnI ok its fls jts gls).length = z) := ⟨_, hide rfl⟩
  obtain ⟨n17, hn17⟩ : ∃ z, Hid ((jnF ok fls gls).length = z) := ⟨_, hide rfl⟩
  have kn16 : n16 ≤ 5 := by rw [← unhide hn16]; exact jnI_len _ _ _ _ _
  have kn17 : n17 ≤ 5 := by rw [← unhide hn17]; exact jnF_len _ _ _
  have sw18 := (unhide BB).size
  refine (sjoin_any a1 a2 a3 its a4 a5 a6 fls b1 b2 b3 jts b4 b5 b6 gls ok HJ n16 n17 hn16 hn17 _ (by omega) (by omega) (by omega) (by omega) (unhide U_a).rI (unhide U_a).rF (unhide U_b).rI (unhide U_b).rF).mono ?_
  rintro e w18 ⟨jaw18, jcw18, jbw18, jdw18, rfl, o1, o2, bw18⟩
  have OA := hide o1
  have OB := hide o2
  replace U_a := hide ((unhide U_a).later bw18)
  replace U_b := hide ((unhide U_b).later bw18)
  replace U_j := hide ((unhide U_j).later bw18)
  replace BB := hide ((unhide BB).trans (bw18.mono (unhide BB).size))
  clear o1 o2 bw18
  go_upto_region 6 with fail
  obtain ⟨w19, hw19⟩ : ∃ W, W = (w18.alloc (StB (.slice jaw18 n16 jcw18) (.slice jbw18 n17 jdw18))) := ⟨_, rfl⟩
  obtain ⟨b_q, hb_q⟩ : ∃ b, b = w18.heap.size := ⟨_, rfl⟩
  rw [← hw19, ← hb_q]
  have hsw19 := (unhide BB).size
  have bw19 : Below w18.heap.size w18 w19 := by rw [hw19]; exact (Below.refl _ _).alloc (Nat.le_refl _) _
  have U_q := hide (show U3 w w19 b_q (.slice jaw18 n16 jcw18) (.slice jbw18 n17 jdw18) (jnI ok its fls jts gls) (jnF ok fls gls) from by rw [hw19, hb_q]; exact U3.new hsw19 sw18 (.inl (unhide OA)) (.inl (unhide OB)))
  replace U_a := hide ((unhide U_a).later bw19)
  replace U_b := hide ((unhide U_b).later bw19)
  replace U_j := hide ((unhide U_j).later bw19)
  replace BB := hide ((unhide BB).trans (bw19.mono (unhide BB).size))
  clear bw19 hw19 hsw19 hb_q OA OB
  clear sw18
  clear U_q
  have hne : (ok != ok) = false := by cases ok <;> rfl
  cases ok
  · skip
    clear HJ
    go_wp2
    go_ret
    exact ⟨rfl, unhide BB⟩
  have hAB := unhide HJ
  rw [Bool.and_eq_true] at hAB
  have OA' := hide ((okS_iff _ _).1 hAB.1)
  have OB' := hide ((okS_iff _ _).1 hAB.2)
  clear hAB hne HJ
  replace U_j := hide (show U3 w w19 b_j (.slice jaw14 n12 jcw14) (.slice jbw14 n13 jdw14) (joinI its fls jts gls) (joinF fls gls) from unhide U_j)
  obtain ⟨r1, hr1⟩ : ∃ r, Hid (putMs nulR (mks its fls) = r) := ⟨_, hide rfl⟩
  obtain ⟨r2, hr2⟩ : ∃ r, Hid (putMs r1 (mks jts gls) = r) := ⟨_, hide rfl⟩
  obtain ⟨qj, hqj⟩ : ∃ r, Hid (putMs nulR (mks (joinI its fls jts gls) (joinF fls gls)) = r) := ⟨_, hide rfl⟩
  have l1 : r1.length = 5 := by rw [← unhide hr1]; exact row_len _ _ rfl
  have l2 : r2.length = 5 := by rw [← unhide hr2]; exact row_len _ _ l1
  have lq : qj.length = 5 := by rw [← unhide hqj]; exact row_len _ _ rfl
  have E0 : Hid (newT 2 = [nulR, nulR]) := hide rfl
  have E1 : Hid (addT [nulR, nulR] 0 (mks its fls) = [r1, nulR]) := hide ((addT_row (k := 0) (r := nulR) rfl (by decide) (mks_ok _ _)).trans (by rw [unhide hr1]; rfl))
  have E2 : Hid (addT [r1, nulR] 1 (mks (joinI its fls jts gls) (joinF fls gls)) = [r1, qj]) := hide ((addT_row (k := 1) (r := nulR) rfl (by decide) (mks_ok _ _)).trans (by rw [unhide hqj]; rfl))
  have E3 : Hid (addT [r1, qj] 0 (mks jts gls) = [r2, qj]) := hide ((addT_row (k := 0) (r := r1) rfl (by omega) (mks_ok _ _)).trans (by rw [unhide hr2]; rfl))
  have HCM : Hid (∀ id, 0 ≤ id → id < 5 → com [r2, qj] id = max (gone its fls id) (gone jts gls id)) := hide (fun id h3 h4 => com_order (unhide OA') (unhide OB') l2 lq
    (fun i hi => by rw [← unhide hr2, ← unhide hr1]; exact row_two its fls jts gls hi) (fun i hi => by rw [← unhide hqj]; exact row_one _ _ hi) id h3 h4)
  have HLT : Hid (∀ (i : Nat) (q : List Int), [r2, qj][i]? = some q → q.length ≤ 140737488351232) := hide (fun i q hq => by
    have := List.mem_of_getElem? hq
    simp at this
    rcases this with rfl | rfl <;> omega)
  clear hr1 hr2 hqj
  go_wp2_with fail
  refine (inew_v 2 [nulR, nulR] E0 2 (hide rfl) _).mono ?_
  rintro e w20 ⟨ta, tc, rfl, o1, b6⟩
  have T_t := hide o1.rw
  clear o1
  replace U_a := hide ((unhide U_a).later b6)
  replace U_b := hide ((unhide U_b).later b6)
  replace U_j := hide ((unhide U_j).later b6)
  replace BB := hide ((unhide BB).trans (b6.mono (unhide BB).size))
  clear b6
  obtain ⟨z_a0, z_a1⟩ := (unhide U_a).cells
  go_wp2_with fail
  refine (imarksof_any a1 a2 a3 its a4 a5 a6 fls _ (by omega) (by omega) (unhide U_a).rI (unhide U_a).rF).mono ?_
  rintro e w21 ⟨ma, mc, rfl, o1, b6⟩
  have R_M := hide (o1.rw encF_len)
  clear o1
  clear z_a0 z_a1
  replace T_t := hide ((unhide T_t).later b6)
  replace U_a := hide ((unhide U_a).later b6)
  replace U_b := hide ((unhide U_b).later b6)
  replace U_j := hide ((unhide U_j).later b6)
  replace BB := hide ((unhide BB).trans (b6.mono (unhide BB).size))
  clear b6
  go_wp2_with fail
  refine (itableadd_any ta 2 tc [nulR, nulR] 0 ma _ mc (mks its fls) _ (by omega) (by decide) (by have := mks_len its fls; omega) (unhide T_t) (unhide R_M)).mono ?_
  rintro e w22 ⟨ua, uc, rfl, o1, b6⟩
  have T_u := hide o1.rw
  rw [unhide E1] at T_u
  clear o1 R_M T_t
  replace U_a := hide ((unhide U_a).later b6)
  replace U_b := hide ((unhide U_b).later b6)
  replace U_j := hide ((unhide U_j).later b6)
  replace BB := hide ((unhide BB).trans (b6.mono (unhide BB).size))
  clear b6
  obtain ⟨z_j0, z_j1⟩ := (unhide U_j).cells
  go_wp2_with fail
  refine (imarksof_any jaw14 n12 jcw14 (joinI its fls jts gls) jbw14 n13 jdw14 (joinF fls gls) _ (by omega) (by omega) (unhide U_j).rI (unhide U_j).rF).mono ?_
  rintro e w23 ⟨ma, mc, rfl, o1, b6⟩
  have R_M := hide (o1.rw encF_len)
  clear o1
  clear z_j0 z_j1
  replace T_u := hide ((unhide T_u).later b6)
  replace U_a := hide ((unhide U_a).later b6)
  replace U_b := hide ((unhide U_b).later b6)
  replace U_j := hide ((unhide U_j).later b6)
  replace BB := hide ((unhide BB).trans (b6.mono (unhide BB).size))
  clear b6
  go_wp2_with fail
  refine (itableadd_any ua 2 uc [r1, nulR] 1 ma _ mc (mks (joinI its fls jts gls) (joinF fls gls)) _ (by omega) (by show r1.length + (nulR.length + 0) ≤ _; rw [l1]; decide) (by have := mks_len (joinI its fls jts gls) (joinF fls gls); omega) (unhide T_u) (unhide R_M)).mono ?_
  rintro e w24 ⟨va, vc, rfl, o1, b6⟩
  have T_v := hide o1.rw
  rw [unhide E2] at T_v
  clear o1 R_M T_u
  replace U_a := hide ((unhide U_a).later b6)
  replace U_b := hide ((unhide U_b).later b6)
  replace U_j := hide ((unhide U_j).later b6)
  replace BB := hide ((unhide BB).trans (b6.mono (unhide BB).size))
  clear b6
  obtain ⟨z_b0, z_b1⟩ := (unhide U_b).cells
  go_wp2_with fail
  refine (imarksof_any b1 b2 b3 jts b4 b5 b6 gls _ (by omega) (by omega) (unhide U_b).rI (unhide U_b).rF).mono ?_
  rintro e w25 ⟨ma, mc, rfl, o1, b6⟩
  have R_M := hide (o1.rw encF_len)
  clear o1
  clear z_b0 z_b1
  replace T_v := hide ((unhide T_v).later b6)
  replace U_a := hide ((unhide U_a).later b6)
  replace U_b := hide ((unhide U_b).later b6)
  replace U_j := hide ((unhide U_j).later b6)
  replace BB := hide ((unhide BB).trans (b6.mono (unhide BB).size))
  clear b6
  go_wp2_with fail
  refine (itableadd_any va 2 vc [r1, qj] 0 ma _ mc (mks jts gls) _ (by omega) (by show r1.length + (qj.length + 0) ≤ _; rw [l1, lq]; decide) (by have := mks_len jts gls; omega) (unhide T_v) (unhide R_M)).mono ?_
  rintro e w26 ⟨ta, tc, rfl, o1, b6⟩
  have T_t := hide o1.rw
  rw [unhide E3] at T_t
  clear o1 R_M T_v
  replace U_a := hide ((unhide U_a).later b6)
  replace U_b := hide ((unhide U_b).later b6)
  replace U_j := hide ((unhide U_j).later b6)
  replace BB := hide ((unhide BB).trans (b6.mono (unhide BB).size))
  clear b6
  clear E0 E1 E2 E3
  have OJ := hide ((unhide OA').join (unhide OB'))
  obtain ⟨z_j0, z_j1⟩ := (unhide U_j).cells
  go_wp2_with fail
  clear z_j0 z_j1
  obtain ⟨n27, hn27⟩ : ∃ z, Hid ((prI (joinI its fls jts gls) (joinF fls gls) [r2, qj]).length = z) := ⟨_, hide rfl⟩
  obtain ⟨n28, hn28⟩ : ∃ z, Hid ((prF (joinI its fls jts gls) (joinF fls gls) [r2, qj]).length = z) := ⟨_, hide rfl⟩
  have kn27 : n27 ≤ 6 := by rw [← unhide hn27]; exact prI_len6 (by have := (unhide U_j).len.1; omega) _
  have kn28 : n28 ≤ 6 := by rw [← unhide hn28]; exact prF_len6 (by have := (unhide U_j).len.2; omega) _
  have sw29 := (unhide BB).size
  refine (iprune_any jaw14 n12 jcw14 (joinI its fls jts gls) jbw14 n13 jdw14 (joinF fls gls) (unhide OJ).sml ta 2 tc [r2, qj] n27 n28 hn27 hn28 _ (by omega) (by omega) (by omega) (unhide HLT) (unhide U_j).rI (unhide U_j).rF (unhide T_t)).mono ?_
  rintro e w29 ⟨jaw29, jcw29, jbw29, jdw29, rfl, o1, o2, bw29⟩
  have OA := hide o1
  have OB := hide o2
  replace T_t := hide ((unhide T_t).later bw29)
  replace U_a := hide ((unhide U_a).later bw29)
  replace U_b := hide ((unhide U_b).later bw29)
  replace U_j := hide ((unhide U_j).later bw29)
  replace BB := hide ((unhide BB).trans (bw29.mono (unhide BB).size))
  clear o1 o2 bw29
  go_upto_region 7 with fail
  obtain ⟨w30, hw30⟩ : ∃ W, W = (w29.alloc (StB (.slice jaw29 n27 jcw29) (.slice jbw29 n28 jdw29))) := ⟨_, rfl⟩
  obtain ⟨b_x, hb_x⟩ : ∃ b, b = w29.heap.size := ⟨_, rfl⟩
  rw [← hw30, ← hb_x]
  have hsw30 := (unhide BB).size
  have bw30 : Below w29.heap.size w29 w30 := by rw [hw30]; exact (Below.refl _ _).alloc (Nat.le_refl _) _
  have U_x := hide (show U3 w w30 b_x (.slice jaw29 n27 jcw29) (.slice jbw29 n28 jdw29) (prI (joinI its fls jts gls) (joinF fls gls) [r2, qj]) (prF (joinI its fls jts gls) (joinF fls gls) [r2, qj]) from by rw [hw30, hb_x]; exact U3.new hsw30 sw29 (.inl (unhide OA)) (.inl (unhide OB)))
  replace T_t := hide ((unhide T_t).later bw30)
  replace U_a := hide ((unhide U_a).later bw30)
  replace U_b := hide ((unhide U_b).later bw30)
  replace U_j := hide ((unhide U_j).later bw30)
  replace BB := hide ((unhide BB).trans (bw30.mono (unhide BB).size))
  clear bw30 hw30 hsw30 hb_x OA OB
  clear sw29
  have HPO := hide (pr_order (unhide OA') (unhide OB') (unhide HCM))
  have HY1 : Hid ((jnI true (prI its fls [r2, qj]) (prF its fls [r2, qj]) (prI jts gls [r2, qj]) (prF jts gls [r2, qj])).length = n27) := hide (by rw [show jnI true (prI its fls [r2, qj]) (prF its fls [r2, qj]) (prI jts gls [r2, qj]) (prF jts gls [r2, qj]) = prI (joinI its fls jts gls) (joinF fls gls) [r2, qj] from (unhide HPO).1]; exact unhide hn27)
  have HY2 : Hid ((jnF true (prF its fls [r2, qj]) (prF jts gls [r2, qj])).length = n28) := hide (by rw [show jnF true (prF its fls [r2, qj]) (prF jts gls [r2, qj]) = prF (joinI its fls jts gls) (joinF fls gls) [r2, qj] from (unhide HPO).2]; exact unhide hn28)
  have HYK : Hid ((okS (prI its fls [r2, qj]) (prF its fls [r2, qj]) && okS (prI jts gls [r2, qj]) (prF jts gls [r2, qj])) = true) := hide (by rw [(okS_iff _ _).2 ((unhide OA').pruned _), (okS_iff _ _).2 ((unhide OB').pruned _)]; rfl)
  obtain ⟨np1, hnp1⟩ : ∃ z, Hid ((prI its fls [r2, qj]).length = z) := ⟨_, hide rfl⟩
  have knp1 : np1 ≤ 6 := by rw [← unhide hnp1]; exact prI_len6 (by have := (unhide OA').len5; omega) _
  obtain ⟨np2, hnp2⟩ : ∃ z, Hid ((prF its fls [r2, qj]).length = z) := ⟨_, hide rfl⟩
  have knp2 : np2 ≤ 6 := by rw [← unhide hnp2]; exact prF_len6 (by have := (unhide OA').len5; omega) _
  obtain ⟨nq1, hnq1⟩ : ∃ z, Hid ((prI jts gls [r2, qj]).length = z) := ⟨_, hide rfl⟩
  have knq1 : nq1 ≤ 6 := by rw [← unhide hnq1]; exact prI_len6 (by have := (unhide OB').len5; omega) _
  obtain ⟨nq2, hnq2⟩ : ∃ z, Hid ((prF jts gls [r2, qj]).length = z) := ⟨_, hide rfl⟩
  have knq2 : nq2 ≤ 6 := by rw [← unhide hnq2]; exact prF_len6 (by have := (unhide OB').len5; omega) _
  obtain ⟨z_a0, z_a1⟩ := (unhide U_a).cells
  obtain ⟨z_b0, z_b1⟩ := (unhide U_b).cells
  go_wp2_with fail
  have X0 := hide z_a0; have X1 := hide z_a1; have Y0 := hide z_b0; have Y1 := hide z_b1
  clear z_a0 z_a1 z_b0 z_b1
  go_cut [11, 12] from 54 to 63 (fun p q wx => ∃ (gy : Nat) (ya : Option Addr) (yc : Nat) (yb : Option Addr) (yd : Nat), p = .pointer (some ⟨gy, 0, none⟩) ∧ q = .bool true ∧ Fin w30 wx gy (.slice ya n27 yc) (.slice yb n28 yd) (prI (joinI its fls jts gls) (joinF fls gls) [r2, qj]) (prF (joinI its fls jts gls) (joinF fls gls) [r2, qj]))
  case first =>
    go_region_held3 (fun W => Below w30.heap.size w30 W ∧ W.cell? ⟨b_a, 0, none⟩ = some (.slice a1 a2 a3) ∧ W.cell? ⟨b_a, 1, none⟩ = some (.slice a4 a5 a6) ∧ W.cell? ⟨b_b, 0, none⟩ = some (.slice b1 b2 b3) ∧ W.cell? ⟨b_b, 1, none⟩ = some (.slice b4 b5 b6))
      (first | (with_reducible exact keep4 (unhide U_a).lt (unhide U_a).lt (unhide U_b).lt (unhide U_b).lt (unhide X0) (unhide X1) (unhide Y0) (unhide Y1) (Below.refl _ _)) | (with_reducible exact keep4 (unhide U_a).lt (unhide U_a).lt (unhide U_b).lt (unhide U_b).lt (unhide X0) (unhide X1) (unhide Y0) (unhide Y1) ((Below.refl _ _).drew)) | (with_reducible exact keep4 (unhide U_a).lt (unhide U_a).lt (unhide U_b).lt (unhide U_b).lt (unhide X0) (unhide X1) (unhide Y0) (unhide Y1) (by assumption)) | (with_reducible exact keep4 (unhide U_a).lt (unhide U_a).lt (unhide U_b).lt (unhide U_b).lt (unhide X0) (unhide X1) (unhide Y0) (unhide Y1) (kal (Below.refl _ _))) | (with_reducible exact keep4 (unhide U_a).lt (unhide U_a).lt (unhide U_b).lt (unhide U_b).lt (unhide X0) (unhide X1) (unhide Y0) (unhide Y1) (kal ((Below.refl _ _).drew))) | (with_reducible exact keep4 (unhide U_a).lt (unhide U_a).lt (unhide U_b).lt (unhide U_b).lt (unhide X0) (unhide X1) (unhide Y0) (unhide Y1) ((kal (Below.refl _ _)).drew)) | (with_reducible exact keep4 (unhide U_a).lt (unhide U_a).lt (unhide U_b).lt (unhide U_b).lt (unhide X0) (unhide X1) (unhide Y0) (unhide Y1) (kal (by assumption))) | (with_reducible exact keep4 (unhide U_a).lt (unhide U_a).lt (unhide U_b).lt (unhide U_b).lt (unhide X0) (unhide X1) (unhide Y0) (unhide Y1) (kset (by assumption) (by assumption))))
      (first
        | (go_at_call_of 7 (Value.agg #[Value.slice a1 a2 a3, Value.slice a4 a5 a6]); refine (iprune_any a1 a2 a3 its a4 a5 a6 fls (unhide OA').sml ta 2 tc [r2, qj] np1 np2 hnp1 hnp2 _ (by omega) (by omega) (by omega) (unhide HLT) ?_ ?_ ?_).mono ?_; exact (unhide U_a).rI.later (kb1 (by assumption)); exact (unhide U_a).rF.later (kb1 (by assumption)); exact (unhide T_t).later (kb1 (by assumption)); rintro e u1 ⟨pa, pc, pb, pd, rfl, o1, o2, b6⟩; have R_p1 := hide (o1.rw encI_len); have R_p2 := hide (o2.rw encF_len); clear o1 o2; have bu1 := kb2 (by assumption) b6; have zu1 := bu1.size; (first | (with_reducible have M := hide (Bx.newD (P := w30) b6 (by omega))) | (with_reducible have M := hide (Bx.new (P := w30) b6 (by omega))) | (with_reducible have M := hide (Bx.kept M b6)) | skip); clear b6)
        | (go_at_call_of 7 (Value.agg #[Value.slice b1 b2 b3, Value.slice b4 b5 b6]); refine (iprune_any b1 b2 b3 jts b4 b5 b6 gls (unhide OB').sml ta 2 tc [r2, qj] nq1 nq2 hnq1 hnq2 _ (by omega) (by omega) (by omega) (unhide HLT) ?_ ?_ ?_).mono ?_; exact (unhide U_b).rI.later (kb1 (by assumption)); exact (unhide U_b).rF.later (kb1 (by assumption)); exact (unhide T_t).later (kb1 (by assumption)); rintro e u2 ⟨qa, qc, qb, qd, rfl, o1, o2, b6⟩; have R_q1 := hide (o1.rw encI_len); have R_q2 := hide (o2.rw encF_len); clear o1 o2; (first | (with_reducible have R_p1 := hide ((unhide R_p1).later b6); with_reducible have R_p2 := hide ((unhide R_p2).later b6)) | (with_reducible have R_p1 := hide ((unhide R_p1).later2 b6); with_reducible have R_p2 := hide ((unhide R_p2).later2 b6))); have bu2 := kb2 (by assumption) b6; have zu2 := bu2.size; (first | (with_reducible have M := hide (Bx.newD (P := w30) b6 (by omega))) | (with_reducible have M := hide (Bx.new (P := w30) b6 (by omega))) | (with_reducible have M := hide (Bx.kept M b6)) | skip); clear b6)
        | (go_at_call 20; refine (ijoin_any pa np1 pc (prI its fls [r2, qj]) pb np2 pd (prF its fls [r2, qj]) qa nq1 qc (prI jts gls [r2, qj]) qb nq2 qd (prF jts gls [r2, qj]) true HYK n27 n28 HY1 HY2 _ (by omega) (by omega) (by omega) (by omega) ?_ ?_ ?_ ?_).mono ?_; (first | exact unhide R_p1 | exact (unhide R_p1).alloc _); (first | exact unhide R_p2 | exact (unhide R_p2).alloc _); (first | exact unhide R_q1 | exact (unhide R_q1).alloc _); (first | exact unhide R_q2 | exact (unhide R_q2).alloc _); rintro e u3 ⟨ya, yc, yb, yd, rfl, o1, o2, b8⟩; rw [show jnI true (prI its fls [r2, qj]) (prF its fls [r2, qj]) (prI jts gls [r2, qj]) (prF jts gls [r2, qj]) = prI (joinI its fls jts gls) (joinF fls gls) [r2, qj] from (unhide HPO).1] at o1; rw [show jnF true (prF its fls [r2, qj]) (prF jts gls [r2, qj]) = prF (joinI its fls jts gls) (joinF fls gls) [r2, qj] from (unhide HPO).2] at o2; have O1 := hide o1; have O2 := hide o2; clear o1 o2; have bu3 := kb2 (by assumption) b8; (first | (with_reducible have M2 := hide (Bf.new (P := w30) b8 (by omega)); clear b8; obtain ⟨q0, q1, qf⟩ := blk_cells2 (unhide M2).bx.blk) | (with_reducible have M2 := hide (Bf.kept M b8); clear b8; obtain ⟨q0, q1, qf⟩ := blk_cells2 (unhide M2).bx.blk) | clear b8)))
    all_goals
      go_wp2_with fail
      go_meet
      first
        | with_reducible exact ⟨_, _, _, _, _, rfl, rfl, Fin.set bu3 (by first | omega | (simp; omega)) M2 O1 O2⟩
        | with_reducible exact ⟨_, _, _, _, _, rfl, rfl, Fin.new bu3 (by first | omega | (simp; omega)) O1 O2⟩
  case rest =>
    obtain ⟨b_y, ya, yc, yb, yd, rfl, rfl, hfin⟩ := hcut
    have cwc := hfin.bel
    have swc := (unhide BB).size
    have U_y := hide (show U3 w wc b_y (.slice ya n27 yc) (.slice yb n28 yd) (prI (joinI its fls jts gls) (joinF fls gls) [r2, qj]) (prF (joinI its fls jts gls) (joinF fls gls) [r2, qj]) from ⟨Nat.le_trans swc hfin.ge, hfin.blk, .inl (Ow.base hfin.o1 swc), .inl (Ow.base hfin.o2 swc)⟩)
    clear hfin X0 X1 Y0 Y1 HY1 HY2 HYK hnp1 hnp2 hnq1 hnq2 knp1 knp2 knq1 knq2 swc
    replace T_t := hide ((unhide T_t).later cwc)
    replace U_a := hide ((unhide U_a).later cwc)
    replace U_b := hide ((unhide U_b).later cwc)
    replace U_j := hide ((unhide U_j).later cwc)
    replace U_x := hide ((unhide U_x).later cwc)
    replace BB := hide ((unhide BB).trans (cwc.mono (unhide BB).size))
    clear cwc
    clear U_a U_b
    have HPA := hide (pr_again (unhide OJ) [r2, qj])
    obtain ⟨z_y0, z_y1⟩ := (unhide U_y).cells
    go_wp2_with fail
    clear z_y0 z_y1
    obtain ⟨n31, hn31⟩ : ∃ z, Hid ((prI (prI (joinI its fls jts gls) (joinF fls gls) [r2, qj]) (prF (joinI its fls jts gls) (joinF fls gls) [r2, qj]) [r2, qj]).length = z) := ⟨_, hide rfl⟩
    obtain ⟨n32, hn32⟩ : ∃ z, Hid ((prF (prI (joinI its fls jts gls) (joinF fls gls) [r2, qj]) (prF (joinI its fls jts gls) (joinF fls gls) [r2, qj]) [r2, qj]).length = z) := ⟨_, hide rfl⟩
    have kn31 : n31 ≤ 6 := by rw [← unhide hn31]; exact prI_len6 (by have := (unhide U_y).len.1; omega) _
    have kn32 : n32 ≤ 6 := by rw [← unhide hn32]; exact prF_len6 (by have := (unhide U_y).len.2; omega) _
    have sw33 := (unhide BB).size
    refine (iprune_any ya n27 yc (prI (joinI its fls jts gls) (joinF fls gls) [r2, qj]) yb n28 yd (prF (joinI its fls jts gls) (joinF fls gls) [r2, qj]) ((unhide OJ).pruned _).sml ta 2 tc [r2, qj] n31 n32 hn31 hn32 _ (by omega) (by omega) (by omega) (unhide HLT) (unhide U_y).rI (unhide U_y).rF (unhide T_t)).mono ?_
    rintro e w33 ⟨jaw33, jcw33, jbw33, jdw33, rfl, o1, o2, bw33⟩
    have OA := hide o1
    have OB := hide o2
    replace T_t := hide ((unhide T_t).later bw33)
    replace U_j := hide ((unhide U_j).later bw33)
    replace U_x := hide ((unhide U_x).later bw33)
    replace U_y := hide ((unhide U_y).later bw33)
    replace BB := hide ((unhide BB).trans (bw33.mono (unhide BB).size))
    clear o1 o2 bw33
    go_upto_region 17 with fail
    obtain ⟨w34, hw34⟩ : ∃ W, W = (w33.alloc (StB (.slice jaw33 n31 jcw33) (.slice jbw33 n32 jdw33))) := ⟨_, rfl⟩
    obtain ⟨b_z, hb_z⟩ : ∃ b, b = w33.heap.size := ⟨_, rfl⟩
    rw [← hw34, ← hb_z]
    have hsw34 := (unhide BB).size
    have bw34 : Below w33.heap.size w33 w34 := by rw [hw34]; exact (Below.refl _ _).alloc (Nat.le_refl _) _
    have U_z := hide (show U3 w w34 b_z (.slice jaw33 n31 jcw33) (.slice jbw33 n32 jdw33) (prI (prI (joinI its fls jts gls) (joinF fls gls) [r2, qj]) (prF (joinI its fls jts gls) (joinF fls gls) [r2, qj]) [r2, qj]) (prF (prI (joinI its fls jts gls) (joinF fls gls) [r2, qj]) (prF (joinI its fls jts gls) (joinF fls gls) [r2, qj]) [r2, qj]) from by rw [hw34, hb_z]; exact U3.new hsw34 sw33 (.inl (unhide OA)) (.inl (unhide OB)))
    replace T_t := hide ((unhide T_t).later bw34)
    replace U_j := hide ((unhide U_j).later bw34)
    replace U_x := hide ((unhide U_x).later bw34)
    replace U_y := hide ((unhide U_y).later bw34)
    replace BB := hide ((unhide BB).trans (bw34.mono (unhide BB).size))
    clear bw34 hw34 hsw34 hb_z OA OB
    clear sw33
    replace U_z := hide (by have q := unhide U_z; rw [(unhide HPA).1, (unhide HPA).2] at q; exact q)
    clear U_y
    obtain ⟨t0, ht0⟩ : ∃ t0, Hid (tx ((vw (joinI its fls jts gls) (joinF fls gls)).map wI ++ ([] : List Flr).map wF) = t0) := ⟨_, hide rfl⟩
    have ht1 : Hid (tx ((vw (prI (joinI its fls jts gls) (joinF fls gls) [r2, qj]) (prF (joinI its fls jts gls) (joinF fls gls) [r2, qj])).map wI ++ ([] : List Flr).map wF) = t0) := hide (by rw [pr_vw (unhide OJ)]; exact unhide ht0)
    have hq : (t0.toList == t0.toList) = true := by simp
    go_upto_region 17 with fail
    obtain ⟨z_x0, z_x1⟩ := (unhide U_x).cells
    have l_x0 := later_some (w := w34) (unhide U_x).lt z_x0
    have l_x1 := later_some (w := w34) (unhide U_x).lt z_x1
    obtain ⟨z_j0, z_j1⟩ := (unhide U_j).cells
    have l_j0 := later_some (w := w34) (unhide U_j).lt z_j0
    have l_j1 := later_some (w := w34) (unhide U_j).lt z_j1
    obtain ⟨z_z0, z_z1⟩ := (unhide U_z).cells
    have l_z0 := later_some (w := w34) (unhide U_z).lt z_z0
    have l_z1 := later_some (w := w34) (unhide U_z).lt z_z1
    clear z_x0 z_x1 z_j0 z_j1 z_z0 z_z1
    refine wp_region_later (by kernel_rfl) (by kernel_rfl) ?_
    repeat (go_big_quiet_step (first
      | (go_at_call 8; exact Calls.later_of (ssame_any jaw29 n27 jcw29 (prI (joinI its fls jts gls) (joinF fls gls) [r2, qj]) jbw29 n28 jdw29 (prF (joinI its fls jts gls) (joinF fls gls) [r2, qj]) jaw33 n31 jcw33 (prI (joinI its fls jts gls) (joinF fls gls) [r2, qj]) jbw33 n32 jdw33 (prF (joinI its fls jts gls) (joinF fls gls) [r2, qj]) true (hide (by simp)) _ (by omega) (by omega) (by omega) (by omega) ((unhide U_x).rI.in_later _ _) ((unhide U_x).rF.in_later _ _) ((unhide U_z).rI.in_later _ _) ((unhide U_z).rF.in_later _ _)))
      | (go_at_call_of 17 (Value.agg #[Value.slice jaw29 n27 jcw29, Value.slice jbw29 n28 jdw29]); exact Calls.later_of (ivt_v jaw29 n27 jcw29 (prI (joinI its fls jts gls) (joinF fls gls) [r2, qj]) jbw29 n28 jdw29 (prF (joinI its fls jts gls) (joinF fls gls) [r2, qj]) t0 ht1 _ (tab_later (unhide HT) ((unhide BB).trans ((later_below _ _ _).mono (unhide BB).size)) (tab_lt (unhide HT))) (by omega) (by omega) ((unhide U_x).rI.in_later _ _) ((unhide U_x).rF.in_later _ _)))
      | (go_at_call_of 17 (Value.agg #[Value.slice jaw14 n12 jcw14, Value.slice jbw14 n13 jdw14]); exact Calls.later_of (ivt_v jaw14 n12 jcw14 (joinI its fls jts gls) jbw14 n13 jdw14 (joinF fls gls) t0 ht0 _ (tab_later (unhide HT) ((unhide BB).trans ((later_below _ _ _).mono (unhide BB).size)) (tab_lt (unhide HT))) (by omega) (by omega) ((unhide U_j).rI.in_later _ _) ((unhide U_j).rF.in_later _ _)))))
    refine wpQuiet_nil ?_
    intro w35 bw35
    replace T_t := hide ((unhide T_t).later bw35)
    replace U_j := hide ((unhide U_j).later bw35)
    replace U_x := hide ((unhide U_x).later bw35)
    replace U_z := hide ((unhide U_z).later bw35)
    replace BB := hide ((unhide BB).trans (bw35.mono (unhide BB).size))
    clear bw35 l_x0 l_x1 l_j0 l_j1 l_z0 l_z1
    go_wp2
    go_ret
    exact ⟨rfl, unhide BB⟩

theorem gTabType : (Tryz.prog.globals[1]?).map (·.type) = some 159 := by kernel_rfl
theorem cellsTab : Tryz.prog.cellsOf 159 = 20 := by kernel_rfl
theorem cellsU64 : Tryz.prog.cellsOf 137 = 1 := by kernel_rfl
/-- What the row's list gives: the table's cells hold the powers of ten. -/
theorem table {W : World} (h : laidMetH Tryz.prog Rows.fnPruneOrderRow.laid W) : Lib.TabIs Tryz.prog W "internal/strconv.uint64pow10" .u64 Lib.pow10Tab := by
  have h2 := h.filter (fun x => x.1 == "internal/strconv.uint64pow10")
  have e : (Rows.fnPruneOrderRow.laid.filter (fun x => x.1 == "internal/strconv.uint64pow10")) = [("internal/strconv.uint64pow10", Rows.laid_internal_strconv_uint64pow10)] := by kernel_rfl
  rw [e] at h2
  exact Lib.tabIs_of_head (rest := []) gPow gTabType Tryz.underlying159 Tryz.underlying137 cellsU64 cellsTab h2

set_option maxRecDepth 100000 in
theorem contract (H : Type) (enc : TypeId × Value → H) (W : World) (base : Nat) (args : Array Value) (ds gs : List (DataW H)) (before : List MemPlace)
    (hval0 : ∀ (j : Nat) t v, Tryz.f4.params[j]? = some t → args[j]? = some v → Value.okWide Tryz.prog W .any base t v)
    (hW : DataW.Whole enc Tryz.prog Tryz.f4.params.toList Rows.fnPruneOrderSpec.vars false W args.toList ds gs before) (hL : laidMetH Tryz.prog Rows.fnPruneOrderRow.laid W) :
    Calls Tryz.prog 4 args W fun e W' => ∃ v, e = .returned v ∧ Rows.fnPruneOrderSpec.post enc Tryz.prog Tryz.f4 false true false false W args v W' := by
  have hval : ∀ (j : Nat) t v, Tryz.f4.params[j]? = some t → args[j]? = some v → Value.okWide Tryz.prog W .any base t v := hval0
  have hW' := hW
  obtain ⟨p, q, hA0, hV, rfl, hfz, hnd⟩ := hW
  have hA : DataW.TrodAll enc Tryz.prog W 0 (fun _ => true) true Tryz.f4.params.toList args.toList ds p := hA0
  rw [Tryz.params4] at hA hval
  obtain ⟨v0, vs0, d0, ds0, p0, q0, hargs0, rfl, rfl, h0, r0⟩ := trodAll_cons hA
  obtain ⟨rfl, rfl, rfl⟩ := trodAll_nil r0
  obtain rfl : args = #[v0] := by cases args; simp_all
  obtain ⟨rfl, rfl⟩ := trodVars_none hV
  have k0 := h0
  have lt0 : ∀ x ∈ p0, x.block < W.heap.size := by obtain ⟨m, hm⟩ := k0; exact DataW.trod_lt m _ _ _ hm
  obtain ⟨a0, l0, c0, rfl⟩ := okWide_slice Tryz.underlying22 (hval 0 22 v0 rfl rfl)
  obtain ⟨z0, w0⟩ : ∃ zs : List Int, (a0 = none ∧ l0 = 0 ∧ c0 = 0 ∧ zs = []) ∨ ∃ y, a0 = some y ∧ l0 ≤ c0 ∧ c0 ≤ maxLen ∧ zs.length = c0 ∧ (∀ i, i < zs.length → W.cell? (y.add i) = some (.int .u8 (zs.getD i 0))) ∧ ∀ n ∈ zs, (Lit.int .u8 n).wf = true := by
    obtain ⟨fuel, hf⟩ := h0
    rcases open_ints Tryz.underlying22 Tryz.underlying5 (by kernel_rfl) hf with ⟨hcs, _⟩ | ⟨x, l, c, zs, hcs, _, hl, hm, hz, _, hcell, hwz⟩
    · simp [Value.cells] at hcs
      obtain ⟨rfl, rfl, rfl⟩ := hcs
      exact ⟨[], .inl ⟨rfl, rfl, rfl, rfl⟩⟩
    · simp [Value.cells] at hcs
      obtain ⟨rfl, rfl, rfl⟩ := hcs
      exact ⟨zs, .inr ⟨_, rfl, hl, hm, by simpa using hz, hcell, hwz⟩⟩
  clear hA0 hval0
  refine (walk W a0 l0 c0 z0 w0 (table hL)).mono fun e W' ⟨he, bel⟩ => ?_
  subst he
  exact ⟨_, rfl, _, _, _, [], _, [], hW', trodAll_mk1 (shut_bool Tryz.underlying4 _), (trodAll_cons_mk (Below.trod laidOut (by kernel_rfl) (of_decide_eq_true (by kernel_rfl)) k0 bel lt0) trodAll_mk0), rfl, bel.frame _, fun h => by cases h⟩

theorem laid_met (os : Os) : laidMetH Tryz.prog Rows.fnPruneOrderRow.laid ((World.doorLaid Tryz.prog 4000 os).forCall (fun _ _ => 0) ⟨#[], #[.slice none 0 0], []⟩).memory :=
  laidMetH_of_parts3 (fuel := 8) (laidMet_of_run' 8 (by kernel_rfl) (by kernel_rfl)) (by kernel_rfl) (by kernel_rfl)
theorem reads (os : Os) {H : Type} (enc : TypeId × Value → H) : ∃ places, DataW.whole enc Tryz.prog ((World.doorLaid Tryz.prog 4000 os).forCall (fun _ _ => 0) ⟨#[], #[.slice none 0 0], []⟩).memory Tryz.f4.params.toList Rows.fnPruneOrderSpec.vars false (#[.slice none 0 0] : Array Value).toList 8 = some ([.nil], [], places) :=
  ⟨[], by kernel_rfl⟩

set_option maxRecDepth 100000 in
theorem lifted (os : Os) (started : os.Started) (H : Type) (enc : TypeId × Value → H) (F : Stop.Interp) :
    ReturnsInHanded {} Tryz.checked os 4 .any ((OpenSpec.ofChange Rows.fnPruneOrderSpec).preRow enc Tryz.prog Tryz.f4 Rows.fnPruneOrderRow.domain false Rows.fnPruneOrderRow.laid) (((OpenSpec.ofChange Rows.fnPruneOrderSpec).at F).post enc Tryz.prog Tryz.f4 false true false false) := by
  obtain ⟨places, hx⟩ := reads os enc
  refine returnsInHanded_of_row (C := Tryz.checked) (s := OpenSpec.ofChange Rows.fnPruneOrderSpec) own started (by kernel_rfl) Tryz.func4
    (witness_row_at (enc := enc) (C := Tryz.checked) false (World.doorLaid Tryz.prog 4000 os) #[.slice none 0 0] rfl (by kernel_rfl) (by kernel_rfl) (by kernel_rfl)
      (OpenSpec.preRow_of_cond 8 hx (by kernel_rfl) (fun k hk => by cases hk) (by kernel_rfl) (laid_met os))) ?_
  intro W base args ds gs before hval hW _ _ _ hL _ _
  exact contract H enc W base args ds gs before hval hW hL

theorem said : Rows.FnPruneOrderSaid :=
  OpenClaim.holds_of_cond 4 Tryz.f4 rfl rfl rfl rfl rfl rfl rfl ⟨rfl, rfl, rfl, rfl, rfl⟩ rfl rfl rfl rfl rfl (by kernel_rfl) Tryz.func4 (by kernel_rfl)
    (of_decide_eq_true (by kernel_rfl)) (by unfold Func.isWrapper; first | (rw [if_pos (by decide +kernel)]; kernel_rfl) | (rw [if_neg (by decide +kernel)]; exact ⟨rfl, rfl⟩))
    (fun os started H enc _ F => by rw [OpenClaim.pre_eq_preRow]; exact lifted os started H enc F)

theorem plain (f : FuncId) (fn : Func) (hf : Tryz.pinned.checked.prog.funcNamed "loop.example/g00487/laws.FnPruneOrder" = some f) (hfn : Tryz.pinned.checked.prog.funcs[f]? = some fn) :
    false = Tryz.pinned.checked.prog.looks [] ∧ ∀ (j : Nat) t, fn.params[j]? = some t → Tryz.pinned.checked.prog.wantsStandIn t = false := by
  obtain rfl : f = 4 := Option.some.inj ((show Tryz.prog.funcNamed "loop.example/g00487/laws.FnPruneOrder" = some 4 by kernel_rfl).symm.trans hf) |>.symm
  obtain rfl : fn = Tryz.f4 := (Option.some.inj (Tryz.func4.symm.trans hfn)).symm
  refine ⟨by kernel_rfl, fun j t ht => ?_⟩
  rw [Tryz.params4] at ht
  have hm : t ∈ [22] := by simpa using Array.mem_of_getElem? ht
  have hall : ([22].all fun u => !Tryz.prog.wantsStandIn u) = true := by kernel_rfl
  exact (show Tryz.prog.wantsStandIn t = false by simpa using List.all_eq_true.1 hall t hm)

theorem card : Rows.FnPruneOrderCardSaid :=
  Claim7.holds_tied_plain_at .later [] _ _ _ _ said (fun _ h => by cases h) (by kernel_rfl) (fun _ h => by cases h) fnPruneOrder_row_tie rfl ⟨rfl, rfl⟩ (by kernel_rfl) rfl plain (by kernel_rfl)
#print axioms card
end Go.Proofs.YtighiahppjekeaaGreatDoor.fnPruneOrder
namespace Go.Proofs.YtighiahppjekeaaGreatDoor
theorem fnPruneOrder_holds : Rows.FnPruneOrderCardSaid := fnPruneOrder.card
end Go.Proofs.YtighiahppjekeaaGreatDoor
