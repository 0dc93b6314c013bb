/-
  FnLacks: with what it lacks a state is both joined, what both joined lack of the other one is nothing, and each is beneath both joined: at every code the law answers true, with no panic, and writes into nothing that was there.
-/
import Derived.Test.YtdpaocikmijioaaRows
import Derived.Test.YtdpaocikmijioaaL3W
import Derived.Test.YtdpaocikmijioaaVwS
import Derived.Test.YtdpaocikmijioaaDrawB
import Derived.WalkKit
import Derived.ProofKit
import Derived.OpenShut
import Derived.ShutString
import Derived.ChangeOld
import Derived.Below
namespace Go.Proofs.Ytdpaocikmijioaa.fnLacks
open Go.ChangeShapes Go.WideShapes Go.ChangeAt Go.RowKit
open Go.ChangeMaps (open_string shut_string)
set_option linter.unusedVariables false

theorem own : ownKnob Try.prog.godebug = none := by kernel_rfl
theorem laidOut : laidOutB Try.prog = true := by kernel_rfl

/-- WHAT THE WALK IS TOLD OF A SLICE OF INTEGERS THAT CAME IN: it is nil; or it leads to a row of 'cap' cells, the numbers 'zs' (the first 'len' are its elements, the rest its spare room), each fitting its kind. -/
def IsRow (k : IntKind) (w : World) (a : Option Addr) (len cap : Nat) (zs : List Int) : Prop :=
  (a = none ∧ len = 0 ∧ cap = 0 ∧ zs = []) ∨
  ∃ x, a = some x ∧ len ≤ cap ∧ cap ≤ maxLen ∧ zs.length = cap ∧ (∀ i, i < zs.length → w.cell? (x.add i) = some (.int k (zs.getD i 0))) ∧ ∀ n ∈ zs, (Lit.int k n).wf = true

/-! ### STEP 1: THE WALK: the Go text returns true, AND WRITES NOTHING THAT WAS THERE: 'Below w.heap.size w w'' (Derived/Below.lean: '.refl', '.alloc', '.drew', '.setCell' at a new block, '.trans'). Open each 'IsRow' by 'rcases' AHEAD of 'go_enter'; part every test ahead of the walk. -/
set_option maxRecDepth 100000 in
set_option maxHeartbeats 4000000 in
theorem walk (a0 : Option Addr) (len0 cap0 : Nat) (z0 : List Int) (w : World) (w0 : IsRow .u8 w a0 len0 cap0 z0) :
    Calls Try.prog 6 #[.slice a0 len0 cap0] w fun e w' => e = .returned (.bool true) ∧ Below w.heap.size w w' := by
  obtain ⟨xs, hxl, hseg, hbd⟩ := seg_of_row w0
  subst hxl
  by_cases hbig : 1048576 < xs.length
  · clear w0 hseg hbd
    go_enter Try.func6, Try.ntmps6
    go_wp2
    go_ret
    exact ⟨rfl, Below.refl _ _⟩
  have hlen : xs.length ≤ 1048576 := by omega
  have HS0 := hide hseg
  have HD := hide hbd
  clear hseg hbd w0
  go_enter Try.func6, Try.ntmps6
  go_wp2_with fail
  refine (big_no _ _ _ _ hbig).mono ?_
  rintro e _ ⟨rfl, rfl⟩
  go_wp2_with fail
  refine (drawlacks_any _ xs _ hlen (unhide HD) (unhide HS0)).mono ?_
  rintro e w1 ⟨a1, a2, a3, a4, a5, a6, b1, b2, b3, b4, b5, b6, its, fls, jts, gls, rfl, t⟩
  have BB := hide t.bel
  have O1 := hide t.oi
  have O2 := hide t.of
  have O3 := hide t.pi
  have O4 := hide t.pf
  have NI := hide t.ni
  have NJ := hide t.nj
  have l1 := t.l1
  have l2 := t.l2
  have l3 := t.l3
  have l4 := t.l4
  have hh1 := (t.oi.rw encI_len).len.1
  have hh2 := (t.of.rw encF_len).len.1
  have hh3 := (t.pi.rw encI_len).len.1
  have hh4 := (t.pf.rw encF_len).len.1
  obtain ⟨m1, m2, m3, m4⟩ : a2 ≤ 6 ∧ a5 ≤ 6 ∧ b2 ≤ 6 ∧ b5 ≤ 6 := by omega
  clear t l1 l2 l3 l4 hh1 hh2 hh3 hh4
  go_upto_region 4 with fail
  obtain ⟨w11, hw11⟩ : ∃ W, W = ((w1.alloc (StB (.slice a1 a2 a3) (.slice a4 a5 a6))).alloc (StB (.slice b1 b2 b3) (.slice b4 b5 b6))) := ⟨_, rfl⟩
  obtain ⟨b_a, hb_a⟩ : ∃ b, b = w1.heap.size := ⟨_, rfl⟩
  obtain ⟨b_b, hb_b⟩ : ∃ b, b = w1.heap.size + 1 := ⟨_, rfl⟩
  rw [← hw11, ← hb_b, ← hb_a]
  have hsw11 := (unhide BB).size
  have bw11 : Below w1.heap.size w1 w11 := by rw [hw11]; exact ((Below.refl _ _).alloc (Nat.le_refl _) _).alloc (by simp) _
  have U_a := hide (show U3 w w11 b_a (.slice a1 a2 a3) (.slice a4 a5 a6) (its) (fls) from by rw [hw11, hb_a]; exact (U3.new hsw11 (Nat.le_refl _) (unhide O1) (unhide O2)).later ((Below.refl _ _).alloc (Nat.le_refl _) _))
  have U_b := hide (show U3 w w11 b_b (.slice b1 b2 b3) (.slice b4 b5 b6) (jts) (gls) from by rw [hw11, hb_b]; have e := U3.new (w := w) (X := w1.alloc (StB (.slice a1 a2 a3) (.slice a4 a5 a6))) (by simp; omega) (Nat.le_refl _) ((unhide O3).later ((Below.refl w1.heap.size w1).alloc (Nat.le_refl _) (StB (.slice a1 a2 a3) (.slice a4 a5 a6)))) ((unhide O4).later ((Below.refl w1.heap.size w1).alloc (Nat.le_refl _) (StB (.slice a1 a2 a3) (.slice a4 a5 a6)))); rw [show (w1.alloc (StB (.slice a1 a2 a3) (.slice a4 a5 a6))).heap.size = w1.heap.size + 1 by simp] at e; exact e)
  replace BB := hide ((unhide BB).trans (bw11.mono (unhide BB).size))
  clear bw11 hw11 hsw11 hb_a hb_b O1 O2 O3 O4
  obtain ⟨okA, HA⟩ : ∃ okA, Hid (okS its fls = okA) := ⟨_, hide rfl⟩
  obtain ⟨okB, HB⟩ : ∃ okB, Hid (okS jts gls = okB) := ⟨_, hide rfl⟩
  obtain ⟨ok, HE⟩ : ∃ ok, Hid ((okA && okB) = ok) := ⟨_, hide rfl⟩
  have H0 : Hid ((okS its fls && okS jts gls) = ok) := hide (by rw [unhide HA, unhide HB]; exact unhide HE)
  obtain ⟨z_a0, z_a1⟩ := (unhide U_a).cells
  obtain ⟨z_b0, z_b1⟩ := (unhide U_b).cells
  go_wp2_with fail
  clear z_a0 z_a1 z_b0 z_b1
  obtain ⟨n12, hn12⟩ : ∃ z, Hid ((lcI ok its fls jts).length = z) := ⟨_, hide rfl⟩
  obtain ⟨n13, hn13⟩ : ∃ z, Hid ((lcF ok fls gls).length = z) := ⟨_, hide rfl⟩
  have kn12 : n12 ≤ 6 := by rw [← unhide hn12]; exact Nat.le_trans (lcI_len _ _ _ _) (by have := (unhide U_b).len.1; omega)
  have kn13 : n13 ≤ 6 := by rw [← unhide hn13]; exact Nat.le_trans (lcF_len _ _ _) (by have := (unhide U_b).len.2; omega)
  have sw14 := (unhide BB).size
  refine (ilacks_any a1 a2 a3 its a4 a5 a6 fls b1 b2 b3 jts b4 b5 b6 gls ok H0 n12 n13 hn12 hn13 _ (by omega) (by omega) (by omega) (by omega) (unhide U_a).rI (unhide U_a).rF (unhide U_b).rI (unhide U_b).rF).mono ?_
  rintro e w14 ⟨jaw14, jcw14, jbw14, jdw14, rfl, o1, o2, bw14⟩
  have OA := hide o1
  have OB := hide o2
  replace U_a := hide ((unhide U_a).later bw14)
  replace U_b := hide ((unhide U_b).later bw14)
  replace BB := hide ((unhide BB).trans (bw14.mono (unhide BB).size))
  clear o1 o2 bw14
  go_upto_region 5 with fail
  obtain ⟨w15, hw15⟩ : ∃ W, W = (w14.alloc (StB (.slice jaw14 n12 jcw14) (.slice jbw14 n13 jdw14))) := ⟨_, rfl⟩
  obtain ⟨b_d, hb_d⟩ : ∃ b, b = w14.heap.size := ⟨_, rfl⟩
  rw [← hw15, ← hb_d]
  have hsw15 := (unhide BB).size
  have bw15 : Below w14.heap.size w14 w15 := by rw [hw15]; exact (Below.refl _ _).alloc (Nat.le_refl _) _
  have U_d := hide (show U3 w w15 b_d (.slice jaw14 n12 jcw14) (.slice jbw14 n13 jdw14) (lcI ok its fls jts) (lcF ok fls gls) from by rw [hw15, hb_d]; exact U3.new hsw15 sw14 (.inl (unhide OA)) (.inl (unhide OB)))
  replace U_a := hide ((unhide U_a).later bw15)
  replace U_b := hide ((unhide U_b).later bw15)
  replace BB := hide ((unhide BB).trans (bw15.mono (unhide BB).size))
  clear bw15 hw15 hsw15 hb_d OA OB
  clear sw14
  obtain ⟨z_a0, z_a1⟩ := (unhide U_a).cells
  have Za0 := hide z_a0; have Za1 := hide z_a1; have lt_a := (unhide U_a).lt; clear z_a0 z_a1
  obtain ⟨z_b0, z_b1⟩ := (unhide U_b).cells
  have Zb0 := hide z_b0; have Zb1 := hide z_b1; have lt_b := (unhide U_b).lt; clear z_b0 z_b1
  obtain ⟨z_d0, z_d1⟩ := (unhide U_d).cells
  have Zd0 := hide z_d0; have Zd1 := hide z_d1; have lt_d := (unhide U_d).lt; clear z_d0 z_d1
  go_region_held3 (fun W => Below w15.heap.size w15 W ∧ W.cell? ⟨b_a, 0, none⟩ = some (.slice a1 a2 a3) ∧ W.cell? ⟨b_a, 1, none⟩ = some (.slice a4 a5 a6) ∧ W.cell? ⟨b_b, 0, none⟩ = some (.slice b1 b2 b3) ∧ W.cell? ⟨b_b, 1, none⟩ = some (.slice b4 b5 b6) ∧ W.cell? ⟨b_d, 0, none⟩ = some (.slice jaw14 n12 jcw14) ∧ W.cell? ⟨b_d, 1, none⟩ = some (.slice jbw14 n13 jdw14))
    (first | (with_reducible exact keep6 lt_a lt_b lt_d rfl rfl rfl (unhide Za0) (unhide Za1) (unhide Zb0) (unhide Zb1) (unhide Zd0) (unhide Zd1) (Below.refl _ _)) | (with_reducible exact keep6 lt_a lt_b lt_d rfl rfl rfl (unhide Za0) (unhide Za1) (unhide Zb0) (unhide Zb1) (unhide Zd0) (unhide Zd1) ((Below.refl _ _).drew)) | (with_reducible exact keep6 lt_a lt_b lt_d rfl rfl rfl (unhide Za0) (unhide Za1) (unhide Zb0) (unhide Zb1) (unhide Zd0) (unhide Zd1) (by assumption)))
    (first
      | (go_at_call 26; refine (slacks_any a1 a2 a3 its a4 a5 a6 fls b1 b2 b3 jts b4 b5 b6 gls ok H0 n12 n13 hn12 hn13 _ (by omega) (by omega) (by omega) (by omega) ?_ ?_ ?_ ?_).mono ?_; exact (unhide U_a).rI.later (kb1 (by assumption)); exact (unhide U_a).rF.later (kb1 (by assumption)); exact (unhide U_b).rI.later (kb1 (by assumption)); exact (unhide U_b).rF.later (kb1 (by assumption)); rintro e w5 ⟨sa1, sc1, sa2, sc2, rfl, o1, o2, b6⟩; have R1 := hide (o1.rw encI_len); have R2 := hide (o2.rw encF_len); have bw5 := kb2 (by assumption) b6; clear o1 o2 b6)
      | (go_at_call 25; refine (ssame_any jaw14 n12 jcw14 (lcI ok its fls jts) jbw14 n13 jdw14 (lcF ok fls gls) sa1 n12 sc1 (lcI ok its fls jts) sa2 n13 sc2 (lcF ok fls gls) true (hide (by simp)) _ (by omega) (by omega) (by omega) (by omega) ?_ ?_ (unhide R1) (unhide R2)).mono ?_; exact (unhide U_d).rI.later (kb1 (by assumption)); exact (unhide U_d).rF.later (kb1 (by assumption)); rintro e w6 ⟨rfl, b6⟩; have bw6 := kb2 (by assumption) b6; clear b6))
  replace U_a := hide ((unhide U_a).later bw6)
  replace U_b := hide ((unhide U_b).later bw6)
  replace U_d := hide ((unhide U_d).later bw6)
  replace BB := hide ((unhide BB).trans (bw6.mono (unhide BB).size))
  clear bw6 bw5 R1 R2 Za0 Za1 Zb0 Zb1 Zd0 Zd1 lt_a lt_b lt_d
  obtain ⟨z_a0, z_a1⟩ := (unhide U_a).cells
  go_wp2_with fail
  clear z_a0 z_a1
  refine (sstateok_any a1 a2 a3 its a4 a5 a6 fls okA HA _ (by omega) (by omega) (unhide U_a).rI (unhide U_a).rF).mono ?_
  rintro e w16 ⟨rfl, bw16⟩
  replace U_a := hide ((unhide U_a).later bw16)
  replace U_b := hide ((unhide U_b).later bw16)
  replace U_d := hide ((unhide U_d).later bw16)
  replace BB := hide ((unhide BB).trans (bw16.mono (unhide BB).size))
  clear bw16
  cases okA
  · skip
    obtain rfl : ok = false := (unhide HE).symm
    obtain rfl : n12 = 0 := (unhide hn12).symm
    have HL : Hid (leqS its fls jts gls = false) := hide (by rw [leqS, unhide H0]; rfl)
    obtain ⟨z_a0, z_a1⟩ := (unhide U_a).cells
    obtain ⟨z_b0, z_b1⟩ := (unhide U_b).cells
    obtain ⟨z_d0, z_d1⟩ := (unhide U_d).cells
    go_wp2_with fail
    clear z_a0 z_a1 z_b0 z_b1 z_d0 z_d1
    refine (ileq_any a1 a2 a3 its a4 a5 a6 fls b1 b2 b3 jts b4 b5 b6 gls false HL _ (by omega) (by omega) (by omega) (by omega) (unhide U_a).rI (unhide U_a).rF (unhide U_b).rI (unhide U_b).rF).mono ?_
    rintro e w17 ⟨rfl, bw17⟩
    replace U_a := hide ((unhide U_a).later bw17)
    replace U_b := hide ((unhide U_b).later bw17)
    replace U_d := hide ((unhide U_d).later bw17)
    replace BB := hide ((unhide BB).trans (bw17.mono (unhide BB).size))
    clear bw17
    go_wp2
    go_ret
    exact ⟨rfl, unhide BB⟩
  obtain ⟨z_b0, z_b1⟩ := (unhide U_b).cells
  go_wp2_with fail
  clear z_b0 z_b1
  refine (sstateok_any b1 b2 b3 jts b4 b5 b6 gls okB HB _ (by omega) (by omega) (unhide U_b).rI (unhide U_b).rF).mono ?_
  rintro e w18 ⟨rfl, bw18⟩
  replace U_a := hide ((unhide U_a).later bw18)
  replace U_b := hide ((unhide U_b).later bw18)
  replace U_d := hide ((unhide U_d).later bw18)
  replace BB := hide ((unhide BB).trans (bw18.mono (unhide BB).size))
  clear bw18
  cases okB
  · skip
    obtain rfl : ok = false := (unhide HE).symm
    obtain rfl : n12 = 0 := (unhide hn12).symm
    have HL : Hid (leqS its fls jts gls = false) := hide (by rw [leqS, unhide H0]; rfl)
    obtain ⟨z_a0, z_a1⟩ := (unhide U_a).cells
    obtain ⟨z_b0, z_b1⟩ := (unhide U_b).cells
    obtain ⟨z_d0, z_d1⟩ := (unhide U_d).cells
    go_wp2_with fail
    clear z_a0 z_a1 z_b0 z_b1 z_d0 z_d1
    refine (ileq_any a1 a2 a3 its a4 a5 a6 fls b1 b2 b3 jts b4 b5 b6 gls false HL _ (by omega) (by omega) (by omega) (by omega) (unhide U_a).rI (unhide U_a).rF (unhide U_b).rI (unhide U_b).rF).mono ?_
    rintro e w19 ⟨rfl, bw19⟩
    replace U_a := hide ((unhide U_a).later bw19)
    replace U_b := hide ((unhide U_b).later bw19)
    replace U_d := hide ((unhide U_d).later bw19)
    replace BB := hide ((unhide BB).trans (bw19.mono (unhide BB).size))
    clear bw19
    go_wp2
    go_ret
    exact ⟨rfl, unhide BB⟩
  obtain rfl : ok = true := (unhide HE).symm
  have OA' := hide ((okS_iff _ _).1 (unhide HA))
  have OB' := hide ((okS_iff _ _).1 (unhide HB))
  replace U_d := hide (show U3 w w18 b_d (.slice jaw14 n12 jcw14) (.slice jbw14 n13 jdw14) (lkI its fls jts) (lkF fls gls) from unhide U_d)
  have OD' := hide ((unhide OB').lacks its fls)
  have OY' := hide ((unhide OA').join (unhide OB'))
  have HJ1 : Hid ((okS its fls && okS (lkI its fls jts) (lkF fls gls)) = true) := hide (by rw [unhide HA, (okS_iff _ _).2 (unhide OD')]; rfl)
  have HJ2 : Hid ((okS (joinI its fls jts gls) (joinF fls gls) && okS jts gls) = true) := hide (by rw [(okS_iff _ _).2 (unhide OY'), unhide HB]; rfl)
  obtain ⟨z_a0, z_a1⟩ := (unhide U_a).cells
  obtain ⟨z_d0, z_d1⟩ := (unhide U_d).cells
  go_wp2_with fail
  clear z_a0 z_a1 z_d0 z_d1
  obtain ⟨n20, hn20⟩ : ∃ z, Hid ((jnI true its fls (lkI its fls jts) (lkF fls gls)).length = z) := ⟨_, hide rfl⟩
  obtain ⟨n21, hn21⟩ : ∃ z, Hid ((jnF true fls (lkF fls gls)).length = z) := ⟨_, hide rfl⟩
  have kn20 : n20 ≤ 5 := by rw [← unhide hn20]; exact jnI_len _ _ _ _ _
  have kn21 : n21 ≤ 5 := by rw [← unhide hn21]; exact jnF_len _ _ _
  have sw22 := (unhide BB).size
  refine (ijoin_any a1 a2 a3 its a4 a5 a6 fls jaw14 n12 jcw14 (lkI its fls jts) jbw14 n13 jdw14 (lkF fls gls) true HJ1 n20 n21 hn20 hn21 _ (by omega) (by omega) (by omega) (by omega) (unhide U_a).rI (unhide U_a).rF (unhide U_d).rI (unhide U_d).rF).mono ?_
  rintro e w22 ⟨jaw22, jcw22, jbw22, jdw22, rfl, o1, o2, bw22⟩
  have OA := hide o1
  have OB := hide o2
  replace U_a := hide ((unhide U_a).later bw22)
  replace U_b := hide ((unhide U_b).later bw22)
  replace U_d := hide ((unhide U_d).later bw22)
  replace BB := hide ((unhide BB).trans (bw22.mono (unhide BB).size))
  clear o1 o2 bw22
  go_upto_region 10 with fail
  obtain ⟨w23, hw23⟩ : ∃ W, W = (w22.alloc (StB (.slice jaw22 n20 jcw22) (.slice jbw22 n21 jdw22))) := ⟨_, rfl⟩
  obtain ⟨b_x, hb_x⟩ : ∃ b, b = w22.heap.size := ⟨_, rfl⟩
  rw [← hw23, ← hb_x]
  have hsw23 := (unhide BB).size
  have bw23 : Below w22.heap.size w22 w23 := by rw [hw23]; exact (Below.refl _ _).alloc (Nat.le_refl _) _
  have U_x := hide (show U3 w w23 b_x (.slice jaw22 n20 jcw22) (.slice jbw22 n21 jdw22) (joinI its fls (lkI its fls jts) (lkF fls gls)) (joinF fls (lkF fls gls)) from by rw [hw23, hb_x]; exact U3.new hsw23 sw22 (.inl (unhide OA)) (.inl (unhide OB)))
  replace U_a := hide ((unhide U_a).later bw23)
  replace U_b := hide ((unhide U_b).later bw23)
  replace U_d := hide ((unhide U_d).later bw23)
  replace BB := hide ((unhide BB).trans (bw23.mono (unhide BB).size))
  clear bw23 hw23 hsw23 hb_x OA OB
  clear sw22
  obtain ⟨z_a0, z_a1⟩ := (unhide U_a).cells
  obtain ⟨z_b0, z_b1⟩ := (unhide U_b).cells
  go_wp2_with fail
  clear z_a0 z_a1 z_b0 z_b1
  obtain ⟨n24, hn24⟩ : ∃ z, Hid ((jnI true its fls jts gls).length = z) := ⟨_, hide rfl⟩
  obtain ⟨n25, hn25⟩ : ∃ z, Hid ((jnF true fls gls).length = z) := ⟨_, hide rfl⟩
  have kn24 : n24 ≤ 5 := by rw [← unhide hn24]; exact jnI_len _ _ _ _ _
  have kn25 : n25 ≤ 5 := by rw [← unhide hn25]; exact jnF_len _ _ _
  have sw26 := (unhide BB).size
  refine (ijoin_any a1 a2 a3 its a4 a5 a6 fls b1 b2 b3 jts b4 b5 b6 gls true H0 n24 n25 hn24 hn25 _ (by omega) (by omega) (by omega) (by omega) (unhide U_a).rI (unhide U_a).rF (unhide U_b).rI (unhide U_b).rF).mono ?_
  rintro e w26 ⟨jaw26, jcw26, jbw26, jdw26, rfl, o1, o2, bw26⟩
  have OA := hide o1
  have OB := hide o2
  replace U_a := hide ((unhide U_a).later bw26)
  replace U_b := hide ((unhide U_b).later bw26)
  replace U_d := hide ((unhide U_d).later bw26)
  replace U_x := hide ((unhide U_x).later bw26)
  replace BB := hide ((unhide BB).trans (bw26.mono (unhide BB).size))
  clear o1 o2 bw26
  go_upto_region 11 with fail
  obtain ⟨w27, hw27⟩ : ∃ W, W = (w26.alloc (StB (.slice jaw26 n24 jcw26) (.slice jbw26 n25 jdw26))) := ⟨_, rfl⟩
  obtain ⟨b_y, hb_y⟩ : ∃ b, b = w26.heap.size := ⟨_, rfl⟩
  rw [← hw27, ← hb_y]
  have hsw27 := (unhide BB).size
  have bw27 : Below w26.heap.size w26 w27 := by rw [hw27]; exact (Below.refl _ _).alloc (Nat.le_refl _) _
  have U_y := hide (show U3 w w27 b_y (.slice jaw26 n24 jcw26) (.slice jbw26 n25 jdw26) (joinI its fls jts gls) (joinF fls gls) from by rw [hw27, hb_y]; exact U3.new hsw27 sw26 (.inl (unhide OA)) (.inl (unhide OB)))
  replace U_a := hide ((unhide U_a).later bw27)
  replace U_b := hide ((unhide U_b).later bw27)
  replace U_d := hide ((unhide U_d).later bw27)
  replace U_x := hide ((unhide U_x).later bw27)
  replace BB := hide ((unhide BB).trans (bw27.mono (unhide BB).size))
  clear bw27 hw27 hsw27 hb_y OA OB
  clear sw26
  obtain ⟨z_y0, z_y1⟩ := (unhide U_y).cells
  obtain ⟨z_b0, z_b1⟩ := (unhide U_b).cells
  go_wp2_with fail
  clear z_y0 z_y1 z_b0 z_b1
  obtain ⟨n28, hn28⟩ : ∃ z, Hid ((lcI true (joinI its fls jts gls) (joinF fls gls) jts).length = z) := ⟨_, hide rfl⟩
  obtain ⟨n29, hn29⟩ : ∃ z, Hid ((lcF true (joinF fls gls) gls).length = z) := ⟨_, hide rfl⟩
  have kn28 : n28 ≤ 6 := by rw [← unhide hn28]; exact Nat.le_trans (lcI_len _ _ _ _) (by have := (unhide U_b).len.1; omega)
  have kn29 : n29 ≤ 6 := by rw [← unhide hn29]; exact Nat.le_trans (lcF_len _ _ _) (by have := (unhide U_b).len.2; omega)
  have sw30 := (unhide BB).size
  refine (ilacks_any jaw26 n24 jcw26 (joinI its fls jts gls) jbw26 n25 jdw26 (joinF fls gls) b1 b2 b3 jts b4 b5 b6 gls true HJ2 n28 n29 hn28 hn29 _ (by omega) (by omega) (by omega) (by omega) (unhide U_y).rI (unhide U_y).rF (unhide U_b).rI (unhide U_b).rF).mono ?_
  rintro e w30 ⟨jaw30, jcw30, jbw30, jdw30, rfl, o1, o2, bw30⟩
  have OA := hide o1
  have OB := hide o2
  replace U_a := hide ((unhide U_a).later bw30)
  replace U_b := hide ((unhide U_b).later bw30)
  replace U_d := hide ((unhide U_d).later bw30)
  replace U_x := hide ((unhide U_x).later bw30)
  replace U_y := hide ((unhide U_y).later bw30)
  replace BB := hide ((unhide BB).trans (bw30.mono (unhide BB).size))
  clear o1 o2 bw30
  go_upto_region 12 with fail
  obtain ⟨w31, hw31⟩ : ∃ W, W = (w30.alloc (StB (.slice jaw30 n28 jcw30) (.slice jbw30 n29 jdw30))) := ⟨_, rfl⟩
  obtain ⟨b_n, hb_n⟩ : ∃ b, b = w30.heap.size := ⟨_, rfl⟩
  rw [← hw31, ← hb_n]
  have hsw31 := (unhide BB).size
  have bw31 : Below w30.heap.size w30 w31 := by rw [hw31]; exact (Below.refl _ _).alloc (Nat.le_refl _) _
  have U_n := hide (show U3 w w31 b_n (.slice jaw30 n28 jcw30) (.slice jbw30 n29 jdw30) (lkI (joinI its fls jts gls) (joinF fls gls) jts) (lkF (joinF fls gls) gls) from by rw [hw31, hb_n]; exact U3.new hsw31 sw30 (.inl (unhide OA)) (.inl (unhide OB)))
  replace U_a := hide ((unhide U_a).later bw31)
  replace U_b := hide ((unhide U_b).later bw31)
  replace U_d := hide ((unhide U_d).later bw31)
  replace U_x := hide ((unhide U_x).later bw31)
  replace U_y := hide ((unhide U_y).later bw31)
  replace BB := hide ((unhide BB).trans (bw31.mono (unhide BB).size))
  clear bw31 hw31 hsw31 hb_n OA OB
  clear sw30
  obtain rfl : n28 = 0 := by rw [← unhide hn28]; show (lkI _ _ _).length = 0; rw [((unhide OA').lacks_none (unhide OB')).1]; rfl
  obtain rfl : n29 = 0 := by rw [← unhide hn29]; show (lkF _ _).length = 0; rw [((unhide OA').lacks_none (unhide OB')).2]; rfl
  have HL1 := hide ((unhide OA').leq_join (unhide OB'))
  have HL2 := hide ((unhide OA').leq_join' (unhide OB'))
  have HL3 := hide ((unhide OB').lacks_leq its fls)
  obtain ⟨z_x0, z_x1⟩ := (unhide U_x).cells
  obtain ⟨z_y0, z_y1⟩ := (unhide U_y).cells
  go_wp2_with fail
  clear z_x0 z_x1 z_y0 z_y1
  have HR : Hid ((decide ((joinI its fls (lkI its fls jts) (lkF fls gls)) = (joinI its fls jts gls)) && decide ((joinF fls (lkF fls gls)) = (joinF fls gls))) = true) := hide (by have h := (unhide OA').with (unhide OB'); rw [h.1, h.2]; simp)
  refine (isame_any jaw22 n20 jcw22 (joinI its fls (lkI its fls jts) (lkF fls gls)) jbw22 n21 jdw22 (joinF fls (lkF fls gls)) jaw26 n24 jcw26 (joinI its fls jts gls) jbw26 n25 jdw26 (joinF fls gls) true HR _ (by omega) (by omega) (by omega) (by omega) (unhide U_x).rI (unhide U_x).rF (unhide U_y).rI (unhide U_y).rF).mono ?_
  rintro e w32 ⟨rfl, bw32⟩
  replace U_a := hide ((unhide U_a).later bw32)
  replace U_b := hide ((unhide U_b).later bw32)
  replace U_d := hide ((unhide U_d).later bw32)
  replace U_x := hide ((unhide U_x).later bw32)
  replace U_y := hide ((unhide U_y).later bw32)
  replace U_n := hide ((unhide U_n).later bw32)
  replace BB := hide ((unhide BB).trans (bw32.mono (unhide BB).size))
  clear bw32 HR
  obtain ⟨z_a0, z_a1⟩ := (unhide U_a).cells
  obtain ⟨z_y0, z_y1⟩ := (unhide U_y).cells
  go_wp2_with fail
  clear z_a0 z_a1 z_y0 z_y1
  refine (ileq_any a1 a2 a3 its a4 a5 a6 fls jaw26 n24 jcw26 (joinI its fls jts gls) jbw26 n25 jdw26 (joinF fls gls) true HL1 _ (by omega) (by omega) (by omega) (by omega) (unhide U_a).rI (unhide U_a).rF (unhide U_y).rI (unhide U_y).rF).mono ?_
  rintro e w33 ⟨rfl, bw33⟩
  replace U_a := hide ((unhide U_a).later bw33)
  replace U_b := hide ((unhide U_b).later bw33)
  replace U_d := hide ((unhide U_d).later bw33)
  replace U_x := hide ((unhide U_x).later bw33)
  replace U_y := hide ((unhide U_y).later bw33)
  replace U_n := hide ((unhide U_n).later bw33)
  replace BB := hide ((unhide BB).trans (bw33.mono (unhide BB).size))
  clear bw33
  obtain ⟨z_b0, z_b1⟩ := (unhide U_b).cells
  obtain ⟨z_y0, z_y1⟩ := (unhide U_y).cells
  go_wp2_with fail
  clear z_b0 z_b1 z_y0 z_y1
  refine (ileq_any b1 b2 b3 jts b4 b5 b6 gls jaw26 n24 jcw26 (joinI its fls jts gls) jbw26 n25 jdw26 (joinF fls gls) true HL2 _ (by omega) (by omega) (by omega) (by omega) (unhide U_b).rI (unhide U_b).rF (unhide U_y).rI (unhide U_y).rF).mono ?_
  rintro e w34 ⟨rfl, bw34⟩
  replace U_a := hide ((unhide U_a).later bw34)
  replace U_b := hide ((unhide U_b).later bw34)
  replace U_d := hide ((unhide U_d).later bw34)
  replace U_x := hide ((unhide U_x).later bw34)
  replace U_y := hide ((unhide U_y).later bw34)
  replace U_n := hide ((unhide U_n).later bw34)
  replace BB := hide ((unhide BB).trans (bw34.mono (unhide BB).size))
  clear bw34
  obtain ⟨z_d0, z_d1⟩ := (unhide U_d).cells
  obtain ⟨z_b0, z_b1⟩ := (unhide U_b).cells
  obtain ⟨z_n0, z_n1⟩ := (unhide U_n).cells
  go_wp2_with fail
  clear z_d0 z_d1 z_b0 z_b1 z_n0 z_n1
  refine (ileq_any jaw14 n12 jcw14 (lkI its fls jts) jbw14 n13 jdw14 (lkF fls gls) b1 b2 b3 jts b4 b5 b6 gls true HL3 _ (by omega) (by omega) (by omega) (by omega) (unhide U_d).rI (unhide U_d).rF (unhide U_b).rI (unhide U_b).rF).mono ?_
  rintro e w35 ⟨rfl, bw35⟩
  replace U_a := hide ((unhide U_a).later bw35)
  replace U_b := hide ((unhide U_b).later bw35)
  replace U_d := hide ((unhide U_d).later bw35)
  replace U_x := hide ((unhide U_x).later bw35)
  replace U_y := hide ((unhide U_y).later bw35)
  replace U_n := hide ((unhide U_n).later bw35)
  replace BB := hide ((unhide BB).trans (bw35.mono (unhide BB).size))
  clear bw35
  go_wp2
  go_ret
  exact ⟨rfl, unhide BB⟩

/-! ### THE ROW's STEP: WRITTEN OUT: LEAVE IT -/
set_option maxRecDepth 100000 in
theorem lifted (os : Os) (started : os.Started) (H : Type) (enc : TypeId × Value → H) :
    ReturnsInHanded {} Try.checked os 6 .any (Rows.fnLacksSpec.pre6 enc Try.prog Try.f6 Rows.fnLacksRow.domain false) (Rows.fnLacksSpec.post enc Try.prog Try.f6 false true false false) := by
  refine returnsInHanded_of_change (C := Try.checked) own started (by kernel_rfl) Try.func6
    (ChangeSpec.witness6 (enc := enc) (C := Try.checked) false ⟨#[], #[.slice none 0 0], []⟩ 8 (by kernel_rfl) (by kernel_rfl) (by kernel_rfl) (by kernel_rfl)) ?_
  intro W base args ds gs before hval0 hW hcnd _
  have hval : ∀ (j : Nat) t v, Try.f6.params[j]? = some t → args[j]? = some v → Value.okWide Try.prog W .any base t v := hval0
  have hW' := hW
  obtain ⟨p, q, hA0, hV, rfl, hfz, hnd⟩ := hW
  have hA : DataW.TrodAll enc Try.prog W 0 (fun _ => true) true Try.f6.params.toList args.toList ds p := hA0
  rw [Try.params6] at hA hval
  obtain ⟨v0, vs0, d0, ds0, p0, q0, hargs, rfl, rfl, h0, r0⟩ := trodAll_cons hA
  obtain ⟨rfl, rfl, rfl⟩ := trodAll_nil r0
  obtain rfl : args = #[v0] := by cases args; simp_all
  obtain ⟨rfl, rfl⟩ := trodVars_none hV
  obtain ⟨a0, len0, cap0, rfl⟩ := okWide_slice Try.underlying22 (hval 0 22 v0 rfl rfl)
  have k0 := h0
  have lt0 : ∀ x ∈ p0, x.block < W.heap.size := by obtain ⟨m, hm⟩ := k0; exact DataW.trod_lt m _ _ _ hm
  obtain ⟨z0, w0⟩ : ∃ zs, IsRow .u8 W a0 len0 cap0 zs := by
    obtain ⟨fuel, hf⟩ := h0
    rcases open_ints Try.underlying22 Try.underlying5 (by kernel_rfl) hf with ⟨hcs, _⟩ | ⟨x, l, c, zs, hcs, _, hl, hm, hz, _, hcell, hwz⟩
    · simp [Value.cells] at hcs
      obtain ⟨rfl, rfl, rfl⟩ := hcs
      exact ⟨[], .inl ⟨rfl, rfl, rfl, rfl⟩⟩
    · simp [Value.cells] at hcs
      obtain ⟨rfl, rfl, rfl⟩ := hcs
      exact ⟨zs, .inr ⟨_, rfl, hl, hm, by simpa using hz, hcell, hwz⟩⟩
  clear hA0 hval0
  refine (walk a0 len0 cap0 z0 W w0).mono fun e W' ⟨he, bel⟩ => ?_
  subst he
  exact ⟨_, rfl, _, _, _, [], _, [], hW', trodAll_mk1 (shut_bool Try.underlying4 _), (trodAll_cons_mk (Below.trod laidOut (by kernel_rfl) (of_decide_eq_true (by kernel_rfl)) k0 bel lt0) trodAll_mk0), rfl, bel.frame _, fun h => by cases h⟩

theorem over : Rows.fnLacksRow.holds Try.pinned (OpenSpec.ofChange Rows.fnLacksSpec) :=
  OpenClaim.holds_of_wide 6 Try.f6 rfl rfl rfl rfl rfl rfl rfl ⟨rfl, rfl, rfl, rfl, rfl⟩ rfl rfl rfl rfl rfl (by kernel_rfl) Try.func6 (by kernel_rfl)
    (of_decide_eq_true (by kernel_rfl)) (by unfold Func.isWrapper; first | (rw [if_pos (by decide +kernel)]; kernel_rfl) | (rw [if_neg (by decide +kernel)]; exact ⟨rfl, rfl⟩))
    (fun os started H enc _ => lifted os started H enc)

theorem proved : Rows.FnLacksSaid := over
#print axioms proved
end Go.Proofs.Ytdpaocikmijioaa.fnLacks
namespace Go.Proofs.Ytdpaocikmijioaa
theorem fnLacks_holds : Rows.FnLacksSaid := fnLacks.proved
end Go.Proofs.Ytdpaocikmijioaa
