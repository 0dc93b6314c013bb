/-
  FnLeq: each state is beneath itself, two beneath each other are the same, and of three it goes on: at every code the law answers true, with no panic, and writes into nothing that was there.
-/
import Derived.Test.YtdpaocikmijioaaRows
import Derived.Test.YtdpaocikmijioaaL3W
import Derived.Test.YtdpaocikmijioaaVwL
import Derived.Test.YtdpaocikmijioaaDrawB
import Derived.WalkKit
import Derived.ProofKit
import Derived.OpenShut
import Derived.ShutString
import Derived.ChangeOld
import Derived.Below
namespace Go.Proofs.Ytdpaocikmijioaa.fnLeq
open Go.ChangeShapes Go.WideShapes Go.ChangeAt Go.RowKit
open Go.ChangeMaps (open_string shut_string)
set_option linter.unusedVariables false

theorem own : ownKnob Try.prog.godebug = none := by kernel_rfl
theorem laidOut : laidOutB Try.prog = true := by kernel_rfl

/-- WHAT THE WALK IS TOLD OF A SLICE OF INTEGERS THAT CAME IN: it is nil; or it leads to a row of 'cap' cells, the numbers 'zs' (the first 'len' are its elements, the rest its spare room), each fitting its kind. -/
def IsRow (k : IntKind) (w : World) (a : Option Addr) (len cap : Nat) (zs : List Int) : Prop :=
  (a = none ∧ len = 0 ∧ cap = 0 ∧ zs = []) ∨
  ∃ x, a = some x ∧ len ≤ cap ∧ cap ≤ maxLen ∧ zs.length = cap ∧ (∀ i, i < zs.length → w.cell? (x.add i) = some (.int k (zs.getD i 0))) ∧ ∀ n ∈ zs, (Lit.int k n).wf = true

/-! ### STEP 1: THE WALK: the Go text returns true, AND WRITES NOTHING THAT WAS THERE: 'Below w.heap.size w w'' (Derived/Below.lean: '.refl', '.alloc', '.drew', '.setCell' at a new block, '.trans'). Open each 'IsRow' by 'rcases' AHEAD of 'go_enter'; part every test ahead of the walk. -/
set_option maxRecDepth 100000 in
set_option maxHeartbeats 4000000 in
theorem walk (a0 : Option Addr) (len0 cap0 : Nat) (z0 : List Int) (w : World) (w0 : IsRow .u8 w a0 len0 cap0 z0) :
    Calls Try.prog 7 #[.slice a0 len0 cap0] w fun e w' => e = .returned (.bool true) ∧ Below w.heap.size w w' := by
  obtain ⟨xs, hxl, hseg, hbd⟩ := seg_of_row w0
  subst hxl
  by_cases hbig : 1048576 < xs.length
  · clear w0 hseg hbd
    go_enter Try.func7, Try.ntmps7
    go_wp2
    go_ret
    exact ⟨rfl, Below.refl _ _⟩
  have hlen : xs.length ≤ 1048576 := by omega
  have HS0 := hide hseg
  have HD := hide hbd
  clear hseg hbd w0
  go_enter Try.func7, Try.ntmps7
  go_wp2_with fail
  refine (big_no _ _ _ _ hbig).mono ?_
  rintro e _ ⟨rfl, rfl⟩
  go_wp2_with fail
  refine (drawleq_any _ xs _ hlen (unhide HD) (unhide HS0)).mono ?_
  rintro e w1 ⟨a1, a2, a3, a4, a5, a6, b1, b2, b3, b4, b5, b6, its, fls, jts, gls, rfl, t⟩
  have BB := hide t.bel
  have O1 := hide t.oi
  have O2 := hide t.of
  have O3 := hide t.pi
  have O4 := hide t.pf
  have NI := hide t.ni
  have NJ := hide t.nj
  have l1 := t.l1
  have l2 := t.l2
  have l3 := t.l3
  have l4 := t.l4
  have hh1 := (t.oi.rw encI_len).len.1
  have hh2 := (t.of.rw encF_len).len.1
  have hh3 := (t.pi.rw encI_len).len.1
  have hh4 := (t.pf.rw encF_len).len.1
  obtain ⟨m1, m2, m3, m4⟩ : a2 ≤ 6 ∧ a5 ≤ 6 ∧ b2 ≤ 6 ∧ b5 ≤ 6 := by omega
  clear t l1 l2 l3 l4 hh1 hh2 hh3 hh4
  go_upto_region 4 with fail
  obtain ⟨w11, hw11⟩ : ∃ W, W = ((w1.alloc (StB (.slice a1 a2 a3) (.slice a4 a5 a6))).alloc (StB (.slice b1 b2 b3) (.slice b4 b5 b6))) := ⟨_, rfl⟩
  obtain ⟨b_a, hb_a⟩ : ∃ b, b = w1.heap.size := ⟨_, rfl⟩
  obtain ⟨b_b, hb_b⟩ : ∃ b, b = w1.heap.size + 1 := ⟨_, rfl⟩
  rw [← hw11, ← hb_b, ← hb_a]
  have hsw11 := (unhide BB).size
  have bw11 : Below w1.heap.size w1 w11 := by rw [hw11]; exact ((Below.refl _ _).alloc (Nat.le_refl _) _).alloc (by simp) _
  have U_a := hide (show U3 w w11 b_a (.slice a1 a2 a3) (.slice a4 a5 a6) (its) (fls) from by rw [hw11, hb_a]; exact (U3.new hsw11 (Nat.le_refl _) (unhide O1) (unhide O2)).later ((Below.refl _ _).alloc (Nat.le_refl _) _))
  have U_b := hide (show U3 w w11 b_b (.slice b1 b2 b3) (.slice b4 b5 b6) (jts) (gls) from by rw [hw11, hb_b]; have e := U3.new (w := w) (X := w1.alloc (StB (.slice a1 a2 a3) (.slice a4 a5 a6))) (by simp; omega) (Nat.le_refl _) ((unhide O3).later ((Below.refl w1.heap.size w1).alloc (Nat.le_refl _) (StB (.slice a1 a2 a3) (.slice a4 a5 a6)))) ((unhide O4).later ((Below.refl w1.heap.size w1).alloc (Nat.le_refl _) (StB (.slice a1 a2 a3) (.slice a4 a5 a6)))); rw [show (w1.alloc (StB (.slice a1 a2 a3) (.slice a4 a5 a6))).heap.size = w1.heap.size + 1 by simp] at e; exact e)
  replace BB := hide ((unhide BB).trans (bw11.mono (unhide BB).size))
  clear bw11 hw11 hsw11 hb_a hb_b O1 O2 O3 O4
  go_wp2_with fail
  refine (tail3_any _ xs _ hlen ((unhide HS0).below (unhide BB) (Nat.le_refl _))).mono ?_
  rintro e _ ⟨⟨v', rfl, hv'⟩, rfl⟩
  have HV := hide hv'
  clear hv'
  go_wp2_with fail
  refine (drawleq_any v' xs.tail _ (by simp; omega) (fun z hz => unhide HD z (List.mem_of_mem_tail hz)) (unhide HV)).mono ?_
  rintro e w2 ⟨d1, d2, d3, d4, d5, d6, f1, f2, f3, f4, f5, f6, dts, dls, fts, hls, rfl, t⟩
  have O1 := hide t.oi
  have O2 := hide t.of
  have O3 := hide t.pi
  have O4 := hide t.pf
  have hsd := (unhide BB).size
  have l1 := t.l1
  have l2 := t.l2
  have l3 := t.l3
  have l4 := t.l4
  have hh1 := (t.oi.rw encI_len).len.1
  have hh2 := (t.of.rw encF_len).len.1
  have hh3 := (t.pi.rw encI_len).len.1
  have hh4 := (t.pf.rw encF_len).len.1
  obtain ⟨m5, m6, m7, m8⟩ : d2 ≤ 6 ∧ d5 ≤ 6 ∧ f2 ≤ 6 ∧ f5 ≤ 6 := by omega
  have b2' := t.bel
  replace U_a := hide ((unhide U_a).later b2')
  replace U_b := hide ((unhide U_b).later b2')
  replace BB := hide ((unhide BB).trans (b2'.mono (unhide BB).size))
  clear t l1 l2 l3 l4 hh1 hh2 hh3 hh4 b2' HV
  go_upto_region 5 with fail
  obtain ⟨w12, hw12⟩ : ∃ W, W = ((w2.alloc (StB (.slice d1 d2 d3) (.slice d4 d5 d6))).alloc (StB (.slice f1 f2 f3) (.slice f4 f5 f6))) := ⟨_, rfl⟩
  obtain ⟨b_d, hb_d⟩ : ∃ b, b = w2.heap.size := ⟨_, rfl⟩
  obtain ⟨b_f, hb_f⟩ : ∃ b, b = w2.heap.size + 1 := ⟨_, rfl⟩
  rw [← hw12, ← hb_f, ← hb_d]
  have hsw12 := (unhide BB).size
  have bw12 : Below w2.heap.size w2 w12 := by rw [hw12]; exact ((Below.refl _ _).alloc (Nat.le_refl _) _).alloc (by simp) _
  have U_d := hide (show U3 w w12 b_d (.slice d1 d2 d3) (.slice d4 d5 d6) (dts) (dls) from by rw [hw12, hb_d]; exact (U3.new hsw12 hsd (unhide O1) (unhide O2)).later ((Below.refl _ _).alloc (Nat.le_refl _) _))
  have U_f := hide (show U3 w w12 b_f (.slice f1 f2 f3) (.slice f4 f5 f6) (fts) (hls) from by rw [hw12, hb_f]; have e := U3.new (w := w) (X := w2.alloc (StB (.slice d1 d2 d3) (.slice d4 d5 d6))) (by simp; omega) hsd ((unhide O3).later ((Below.refl w2.heap.size w2).alloc (Nat.le_refl _) (StB (.slice d1 d2 d3) (.slice d4 d5 d6)))) ((unhide O4).later ((Below.refl w2.heap.size w2).alloc (Nat.le_refl _) (StB (.slice d1 d2 d3) (.slice d4 d5 d6)))); rw [show (w2.alloc (StB (.slice d1 d2 d3) (.slice d4 d5 d6))).heap.size = w2.heap.size + 1 by simp] at e; exact e)
  replace U_a := hide ((unhide U_a).later bw12)
  replace U_b := hide ((unhide U_b).later bw12)
  replace BB := hide ((unhide BB).trans (bw12.mono (unhide BB).size))
  clear bw12 hw12 hsw12 hb_d hb_f O1 O2 O3 O4
  clear hsd U_f
  obtain ⟨rX, HL⟩ : ∃ rX, Hid (leqS its fls jts gls = rX) := ⟨_, hide rfl⟩
  obtain ⟨okA, HA⟩ : ∃ okA, Hid (okS its fls = okA) := ⟨_, hide rfl⟩
  have HS : Hid (leqS its fls its fls = okA) := hide (by rw [leqS_self]; exact unhide HA)
  obtain ⟨z_a0, z_a1⟩ := (unhide U_a).cells
  obtain ⟨z_b0, z_b1⟩ := (unhide U_b).cells
  go_wp2_with fail
  clear z_a0 z_a1 z_b0 z_b1
  refine (ileq_any a1 a2 a3 its a4 a5 a6 fls b1 b2 b3 jts b4 b5 b6 gls rX HL _ (by omega) (by omega) (by omega) (by omega) (unhide U_a).rI (unhide U_a).rF (unhide U_b).rI (unhide U_b).rF).mono ?_
  rintro e w13 ⟨rfl, bw13⟩
  replace U_a := hide ((unhide U_a).later bw13)
  replace U_b := hide ((unhide U_b).later bw13)
  replace U_d := hide ((unhide U_d).later bw13)
  replace BB := hide ((unhide BB).trans (bw13.mono (unhide BB).size))
  clear bw13
  go_upto_region 6 with fail
  have hbb : (okA != okA) = false := by simp
  cases rX
  · have hrr : (false != false) = false := rfl
    obtain ⟨z_a0, z_a1⟩ := (unhide U_a).cells
    have l_a0 := later_some (w := w13) (unhide U_a).lt z_a0
    have l_a1 := later_some (w := w13) (unhide U_a).lt z_a1
    obtain ⟨z_b0, z_b1⟩ := (unhide U_b).cells
    have l_b0 := later_some (w := w13) (unhide U_b).lt z_b0
    have l_b1 := later_some (w := w13) (unhide U_b).lt z_b1
    clear z_a0 z_a1 z_b0 z_b1
    refine wp_region_later (by kernel_rfl) (by kernel_rfl) ?_
    repeat (go_big_quiet_step (first
      | (go_at_call 29; exact Calls.later_of (sleq_any a1 a2 a3 its a4 a5 a6 fls b1 b2 b3 jts b4 b5 b6 gls _ HL _ (by omega) (by omega) (by omega) (by omega) ((unhide U_a).rI.in_later _ _) ((unhide U_a).rF.in_later _ _) ((unhide U_b).rI.in_later _ _) ((unhide U_b).rF.in_later _ _)))
      | (go_at_call 27; exact Calls.later_of (ileq_any a1 a2 a3 its a4 a5 a6 fls a1 a2 a3 its a4 a5 a6 fls okA HS _ (by omega) (by omega) (by omega) (by omega) ((unhide U_a).rI.in_later _ _) ((unhide U_a).rF.in_later _ _) ((unhide U_a).rI.in_later _ _) ((unhide U_a).rF.in_later _ _)))
      | (go_at_call 19; exact Calls.later_of (sstateok_any a1 a2 a3 its a4 a5 a6 fls okA HA _ (by omega) (by omega) ((unhide U_a).rI.in_later _ _) ((unhide U_a).rF.in_later _ _)))))
    refine wpQuiet_nil ?_
    intro w14 bw14
    replace U_a := hide ((unhide U_a).later bw14)
    replace U_b := hide ((unhide U_b).later bw14)
    replace U_d := hide ((unhide U_d).later bw14)
    replace BB := hide ((unhide BB).trans (bw14.mono (unhide BB).size))
    clear bw14 l_a0 l_a1 l_b0 l_b1
    clear hrr
    go_wp2
    go_ret
    exact ⟨rfl, unhide BB⟩
  · have hrr : (true != true) = false := rfl
    obtain ⟨z_a0, z_a1⟩ := (unhide U_a).cells
    have l_a0 := later_some (w := w13) (unhide U_a).lt z_a0
    have l_a1 := later_some (w := w13) (unhide U_a).lt z_a1
    obtain ⟨z_b0, z_b1⟩ := (unhide U_b).cells
    have l_b0 := later_some (w := w13) (unhide U_b).lt z_b0
    have l_b1 := later_some (w := w13) (unhide U_b).lt z_b1
    clear z_a0 z_a1 z_b0 z_b1
    refine wp_region_later (by kernel_rfl) (by kernel_rfl) ?_
    repeat (go_big_quiet_step (first
      | (go_at_call 29; exact Calls.later_of (sleq_any a1 a2 a3 its a4 a5 a6 fls b1 b2 b3 jts b4 b5 b6 gls _ HL _ (by omega) (by omega) (by omega) (by omega) ((unhide U_a).rI.in_later _ _) ((unhide U_a).rF.in_later _ _) ((unhide U_b).rI.in_later _ _) ((unhide U_b).rF.in_later _ _)))
      | (go_at_call 27; exact Calls.later_of (ileq_any a1 a2 a3 its a4 a5 a6 fls a1 a2 a3 its a4 a5 a6 fls okA HS _ (by omega) (by omega) (by omega) (by omega) ((unhide U_a).rI.in_later _ _) ((unhide U_a).rF.in_later _ _) ((unhide U_a).rI.in_later _ _) ((unhide U_a).rF.in_later _ _)))
      | (go_at_call 19; exact Calls.later_of (sstateok_any a1 a2 a3 its a4 a5 a6 fls okA HA _ (by omega) (by omega) ((unhide U_a).rI.in_later _ _) ((unhide U_a).rF.in_later _ _)))))
    refine wpQuiet_nil ?_
    intro w15 bw15
    replace U_a := hide ((unhide U_a).later bw15)
    replace U_b := hide ((unhide U_b).later bw15)
    replace U_d := hide ((unhide U_d).later bw15)
    replace BB := hide ((unhide BB).trans (bw15.mono (unhide BB).size))
    clear bw15 l_a0 l_a1 l_b0 l_b1
    clear hrr
    obtain ⟨r2, HL2⟩ : ∃ r2, Hid (leqS jts gls its fls = r2) := ⟨_, hide rfl⟩
    obtain ⟨r3, HL3⟩ : ∃ r3, Hid (leqS jts gls dts dls = r3) := ⟨_, hide rfl⟩
    obtain ⟨z_b0, z_b1⟩ := (unhide U_b).cells
    obtain ⟨z_a0, z_a1⟩ := (unhide U_a).cells
    go_wp2_with fail
    clear z_b0 z_b1 z_a0 z_a1
    refine (ileq_any b1 b2 b3 jts b4 b5 b6 gls a1 a2 a3 its a4 a5 a6 fls r2 HL2 _ (by omega) (by omega) (by omega) (by omega) (unhide U_b).rI (unhide U_b).rF (unhide U_a).rI (unhide U_a).rF).mono ?_
    rintro e w16 ⟨rfl, bw16⟩
    replace U_a := hide ((unhide U_a).later bw16)
    replace U_b := hide ((unhide U_b).later bw16)
    replace U_d := hide ((unhide U_d).later bw16)
    replace BB := hide ((unhide BB).trans (bw16.mono (unhide BB).size))
    clear bw16
    cases r2
    · skip
      obtain ⟨z_b0, z_b1⟩ := (unhide U_b).cells
      obtain ⟨z_d0, z_d1⟩ := (unhide U_d).cells
      go_wp2_with fail
      clear z_b0 z_b1 z_d0 z_d1
      refine (ileq_any b1 b2 b3 jts b4 b5 b6 gls d1 d2 d3 dts d4 d5 d6 dls r3 HL3 _ (by omega) (by omega) (by omega) (by omega) (unhide U_b).rI (unhide U_b).rF (unhide U_d).rI (unhide U_d).rF).mono ?_
      rintro e w17 ⟨rfl, bw17⟩
      replace U_a := hide ((unhide U_a).later bw17)
      replace U_b := hide ((unhide U_b).later bw17)
      replace U_d := hide ((unhide U_d).later bw17)
      replace BB := hide ((unhide BB).trans (bw17.mono (unhide BB).size))
      clear bw17
      cases r3
      · skip
        go_wp2
        go_ret
        exact ⟨rfl, unhide BB⟩
      · have HL4 : Hid (leqS its fls dts dls = true) := hide (leqS_trans (unhide HL) (unhide HL3))
        obtain ⟨z_a0, z_a1⟩ := (unhide U_a).cells
        obtain ⟨z_d0, z_d1⟩ := (unhide U_d).cells
        go_wp2_with fail
        clear z_a0 z_a1 z_d0 z_d1
        refine (ileq_any a1 a2 a3 its a4 a5 a6 fls d1 d2 d3 dts d4 d5 d6 dls true HL4 _ (by omega) (by omega) (by omega) (by omega) (unhide U_a).rI (unhide U_a).rF (unhide U_d).rI (unhide U_d).rF).mono ?_
        rintro e w18 ⟨rfl, bw18⟩
        replace U_a := hide ((unhide U_a).later bw18)
        replace U_b := hide ((unhide U_b).later bw18)
        replace U_d := hide ((unhide U_d).later bw18)
        replace BB := hide ((unhide BB).trans (bw18.mono (unhide BB).size))
        clear bw18
        go_wp2
        go_ret
        exact ⟨rfl, unhide BB⟩
    · skip
      obtain ⟨z_a0, z_a1⟩ := (unhide U_a).cells
      obtain ⟨z_b0, z_b1⟩ := (unhide U_b).cells
      go_wp2_with fail
      clear z_a0 z_a1 z_b0 z_b1
      have HR : Hid ((decide (its = jts) && decide (fls = gls)) = true) := hide (by have h := leqS_anti (unhide HL) (unhide HL2); rw [h.1, h.2]; simp)
      refine (isame_any a1 a2 a3 its a4 a5 a6 fls b1 b2 b3 jts b4 b5 b6 gls true HR _ (by omega) (by omega) (by omega) (by omega) (unhide U_a).rI (unhide U_a).rF (unhide U_b).rI (unhide U_b).rF).mono ?_
      rintro e w19 ⟨rfl, bw19⟩
      replace U_a := hide ((unhide U_a).later bw19)
      replace U_b := hide ((unhide U_b).later bw19)
      replace U_d := hide ((unhide U_d).later bw19)
      replace BB := hide ((unhide BB).trans (bw19.mono (unhide BB).size))
      clear bw19 HR
      obtain ⟨z_b0, z_b1⟩ := (unhide U_b).cells
      obtain ⟨z_d0, z_d1⟩ := (unhide U_d).cells
      go_wp2_with fail
      clear z_b0 z_b1 z_d0 z_d1
      refine (ileq_any b1 b2 b3 jts b4 b5 b6 gls d1 d2 d3 dts d4 d5 d6 dls r3 HL3 _ (by omega) (by omega) (by omega) (by omega) (unhide U_b).rI (unhide U_b).rF (unhide U_d).rI (unhide U_d).rF).mono ?_
      rintro e w20 ⟨rfl, bw20⟩
      replace U_a := hide ((unhide U_a).later bw20)
      replace U_b := hide ((unhide U_b).later bw20)
      replace U_d := hide ((unhide U_d).later bw20)
      replace BB := hide ((unhide BB).trans (bw20.mono (unhide BB).size))
      clear bw20
      cases r3
      · skip
        go_wp2
        go_ret
        exact ⟨rfl, unhide BB⟩
      · have HL4 : Hid (leqS its fls dts dls = true) := hide (leqS_trans (unhide HL) (unhide HL3))
        obtain ⟨z_a0, z_a1⟩ := (unhide U_a).cells
        obtain ⟨z_d0, z_d1⟩ := (unhide U_d).cells
        go_wp2_with fail
        clear z_a0 z_a1 z_d0 z_d1
        refine (ileq_any a1 a2 a3 its a4 a5 a6 fls d1 d2 d3 dts d4 d5 d6 dls true HL4 _ (by omega) (by omega) (by omega) (by omega) (unhide U_a).rI (unhide U_a).rF (unhide U_d).rI (unhide U_d).rF).mono ?_
        rintro e w21 ⟨rfl, bw21⟩
        replace U_a := hide ((unhide U_a).later bw21)
        replace U_b := hide ((unhide U_b).later bw21)
        replace U_d := hide ((unhide U_d).later bw21)
        replace BB := hide ((unhide BB).trans (bw21.mono (unhide BB).size))
        clear bw21
        go_wp2
        go_ret
        exact ⟨rfl, unhide BB⟩

/-! ### THE ROW's STEP: WRITTEN OUT: LEAVE IT -/
set_option maxRecDepth 100000 in
theorem lifted (os : Os) (started : os.Started) (H : Type) (enc : TypeId × Value → H) :
    ReturnsInHanded {} Try.checked os 7 .any (Rows.fnLeqSpec.pre6 enc Try.prog Try.f7 Rows.fnLeqRow.domain false) (Rows.fnLeqSpec.post enc Try.prog Try.f7 false true false false) := by
  refine returnsInHanded_of_change (C := Try.checked) own started (by kernel_rfl) Try.func7
    (ChangeSpec.witness6 (enc := enc) (C := Try.checked) false ⟨#[], #[.slice none 0 0], []⟩ 8 (by kernel_rfl) (by kernel_rfl) (by kernel_rfl) (by kernel_rfl)) ?_
  intro W base args ds gs before hval0 hW hcnd _
  have hval : ∀ (j : Nat) t v, Try.f7.params[j]? = some t → args[j]? = some v → Value.okWide Try.prog W .any base t v := hval0
  have hW' := hW
  obtain ⟨p, q, hA0, hV, rfl, hfz, hnd⟩ := hW
  have hA : DataW.TrodAll enc Try.prog W 0 (fun _ => true) true Try.f7.params.toList args.toList ds p := hA0
  rw [Try.params7] at hA hval
  obtain ⟨v0, vs0, d0, ds0, p0, q0, hargs, rfl, rfl, h0, r0⟩ := trodAll_cons hA
  obtain ⟨rfl, rfl, rfl⟩ := trodAll_nil r0
  obtain rfl : args = #[v0] := by cases args; simp_all
  obtain ⟨rfl, rfl⟩ := trodVars_none hV
  obtain ⟨a0, len0, cap0, rfl⟩ := okWide_slice Try.underlying22 (hval 0 22 v0 rfl rfl)
  have k0 := h0
  have lt0 : ∀ x ∈ p0, x.block < W.heap.size := by obtain ⟨m, hm⟩ := k0; exact DataW.trod_lt m _ _ _ hm
  obtain ⟨z0, w0⟩ : ∃ zs, IsRow .u8 W a0 len0 cap0 zs := by
    obtain ⟨fuel, hf⟩ := h0
    rcases open_ints Try.underlying22 Try.underlying5 (by kernel_rfl) hf with ⟨hcs, _⟩ | ⟨x, l, c, zs, hcs, _, hl, hm, hz, _, hcell, hwz⟩
    · simp [Value.cells] at hcs
      obtain ⟨rfl, rfl, rfl⟩ := hcs
      exact ⟨[], .inl ⟨rfl, rfl, rfl, rfl⟩⟩
    · simp [Value.cells] at hcs
      obtain ⟨rfl, rfl, rfl⟩ := hcs
      exact ⟨zs, .inr ⟨_, rfl, hl, hm, by simpa using hz, hcell, hwz⟩⟩
  clear hA0 hval0
  refine (walk a0 len0 cap0 z0 W w0).mono fun e W' ⟨he, bel⟩ => ?_
  subst he
  exact ⟨_, rfl, _, _, _, [], _, [], hW', trodAll_mk1 (shut_bool Try.underlying4 _), (trodAll_cons_mk (Below.trod laidOut (by kernel_rfl) (of_decide_eq_true (by kernel_rfl)) k0 bel lt0) trodAll_mk0), rfl, bel.frame _, fun h => by cases h⟩

theorem over : Rows.fnLeqRow.holds Try.pinned (OpenSpec.ofChange Rows.fnLeqSpec) :=
  OpenClaim.holds_of_wide 7 Try.f7 rfl rfl rfl rfl rfl rfl rfl ⟨rfl, rfl, rfl, rfl, rfl⟩ rfl rfl rfl rfl rfl (by kernel_rfl) Try.func7 (by kernel_rfl)
    (of_decide_eq_true (by kernel_rfl)) (by unfold Func.isWrapper; first | (rw [if_pos (by decide +kernel)]; kernel_rfl) | (rw [if_neg (by decide +kernel)]; exact ⟨rfl, rfl⟩))
    (fun os started H enc _ => lifted os started H enc)

theorem proved : Rows.FnLeqSaid := over
#print axioms proved
end Go.Proofs.Ytdpaocikmijioaa.fnLeq
namespace Go.Proofs.Ytdpaocikmijioaa
theorem fnLeq_holds : Rows.FnLeqSaid := fnLeq.proved
end Go.Proofs.Ytdpaocikmijioaa
