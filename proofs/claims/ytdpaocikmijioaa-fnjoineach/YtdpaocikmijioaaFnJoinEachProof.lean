/-
  FnJoinEach: at every code, of each node the joined state of two that are drawn has the entry that is behind, unless it is over, and the greater floor. No conditions.
-/
import Derived.Test.YtdpaocikmijioaaRows
import Derived.Test.YtdpaocikmijioaaL3E
import Derived.Test.YtdpaocikmijioaaDrawB
import Derived.WalkKit
import Derived.ProofKit
import Derived.OpenShut
import Derived.ShutString
import Derived.ChangeOld
import Derived.Below
namespace Go.Proofs.Ytdpaocikmijioaa.fnJoinEach
open Go.ChangeShapes Go.WideShapes Go.ChangeAt Go.RowKit
open Go.ChangeMaps (open_string shut_string)
set_option linter.unusedVariables false

theorem own : ownKnob Try.prog.godebug = none := by kernel_rfl
theorem laidOut : laidOutB Try.prog = true := by kernel_rfl

/-- WHAT THE WALK IS TOLD OF A SLICE OF INTEGERS THAT CAME IN: it is nil; or it leads to a row of 'cap' cells, the numbers 'zs' (the first 'len' are its elements, the rest its spare room), each fitting its kind. -/
def IsRow (k : IntKind) (w : World) (a : Option Addr) (len cap : Nat) (zs : List Int) : Prop :=
  (a = none ∧ len = 0 ∧ cap = 0 ∧ zs = []) ∨
  ∃ x, a = some x ∧ len ≤ cap ∧ cap ≤ maxLen ∧ zs.length = cap ∧ (∀ i, i < zs.length → w.cell? (x.add i) = some (.int k (zs.getD i 0))) ∧ ∀ n ∈ zs, (Lit.int k n).wf = true

/-! ### STEP 1: THE WALK: the Go text returns true, AND WRITES NOTHING THAT WAS THERE: 'Below w.heap.size w w'' (Derived/Below.lean: '.refl', '.alloc', '.drew', '.setCell' at a new block, '.trans'). Open each 'IsRow' by 'rcases' AHEAD of 'go_enter'; part every test ahead of the walk. -/
set_option maxRecDepth 100000 in
set_option maxHeartbeats 4000000 in
theorem walk (a0 : Option Addr) (len0 cap0 : Nat) (z0 : List Int) (w : World) (w0 : IsRow .u8 w a0 len0 cap0 z0) :
    Calls Try.prog 4 #[.slice a0 len0 cap0] w fun e w' => e = .returned (.bool true) ∧ Below w.heap.size w w' := by
  obtain ⟨xs, hxl, hseg, hbd⟩ := seg_of_row w0
  subst hxl
  by_cases hbig : 1048576 < xs.length
  · clear w0 hseg hbd
    go_enter Try.func4, Try.ntmps4
    go_wp2
    go_ret
    exact ⟨rfl, Below.refl _ _⟩
  have hlen : xs.length ≤ 1048576 := by omega
  have HS0 := hide hseg
  have HD := hide hbd
  clear hseg hbd w0
  go_enter Try.func4, Try.ntmps4
  go_wp2_with fail
  refine (big_no _ _ _ _ hbig).mono ?_
  rintro e _ ⟨rfl, rfl⟩
  go_wp2_with fail
  refine (drawjoin_any _ xs _ hlen (unhide HD) (unhide HS0)).mono ?_
  rintro e w1 ⟨a1, a2, a3, a4, a5, a6, b1, b2, b3, b4, b5, b6, its, fls, jts, gls, rfl, t⟩
  have BB := hide t.bel
  have O1 := hide t.oi
  have O2 := hide t.of
  have O3 := hide t.pi
  have O4 := hide t.pf
  have NI := hide t.ni
  have NJ := hide t.nj
  have l1 := t.l1
  have l2 := t.l2
  have l3 := t.l3
  have l4 := t.l4
  have hh1 := (t.oi.rw encI_len).len.1
  have hh2 := (t.of.rw encF_len).len.1
  have hh3 := (t.pi.rw encI_len).len.1
  have hh4 := (t.pf.rw encF_len).len.1
  obtain ⟨m1, m2, m3, m4⟩ : a2 ≤ 6 ∧ a5 ≤ 6 ∧ b2 ≤ 6 ∧ b5 ≤ 6 := by omega
  clear t l1 l2 l3 l4 hh1 hh2 hh3 hh4
  go_upto_region 4 with fail
  obtain ⟨w11, hw11⟩ : ∃ W, W = ((w1.alloc (StB (.slice a1 a2 a3) (.slice a4 a5 a6))).alloc (StB (.slice b1 b2 b3) (.slice b4 b5 b6))) := ⟨_, rfl⟩
  obtain ⟨b_a, hb_a⟩ : ∃ b, b = w1.heap.size := ⟨_, rfl⟩
  obtain ⟨b_b, hb_b⟩ : ∃ b, b = w1.heap.size + 1 := ⟨_, rfl⟩
  rw [← hw11, ← hb_b, ← hb_a]
  have hsw11 := (unhide BB).size
  have bw11 : Below w1.heap.size w1 w11 := by rw [hw11]; exact ((Below.refl _ _).alloc (Nat.le_refl _) _).alloc (by simp) _
  have U_a := hide (show U3 w w11 b_a (.slice a1 a2 a3) (.slice a4 a5 a6) (its) (fls) from by rw [hw11, hb_a]; exact (U3.new hsw11 (Nat.le_refl _) (unhide O1) (unhide O2)).later ((Below.refl _ _).alloc (Nat.le_refl _) _))
  have U_b := hide (show U3 w w11 b_b (.slice b1 b2 b3) (.slice b4 b5 b6) (jts) (gls) from by rw [hw11, hb_b]; have e := U3.new (w := w) (X := w1.alloc (StB (.slice a1 a2 a3) (.slice a4 a5 a6))) (by simp; omega) (Nat.le_refl _) ((unhide O3).later ((Below.refl w1.heap.size w1).alloc (Nat.le_refl _) (StB (.slice a1 a2 a3) (.slice a4 a5 a6)))) ((unhide O4).later ((Below.refl w1.heap.size w1).alloc (Nat.le_refl _) (StB (.slice a1 a2 a3) (.slice a4 a5 a6)))); rw [show (w1.alloc (StB (.slice a1 a2 a3) (.slice a4 a5 a6))).heap.size = w1.heap.size + 1 by simp] at e; exact e)
  replace BB := hide ((unhide BB).trans (bw11.mono (unhide BB).size))
  clear bw11 hw11 hsw11 hb_a hb_b O1 O2 O3 O4
  obtain ⟨ok, HJ⟩ : ∃ ok, Hid ((okS its fls && okS jts gls) = ok) := ⟨_, hide rfl⟩
  obtain ⟨z_a0, z_a1⟩ := (unhide U_a).cells
  obtain ⟨z_b0, z_b1⟩ := (unhide U_b).cells
  go_wp2_with fail
  clear z_a0 z_a1 z_b0 z_b1
  obtain ⟨n12, hn12⟩ : ∃ z, Hid ((jnI ok its fls jts gls).length = z) := ⟨_, hide rfl⟩
  obtain ⟨n13, hn13⟩ : ∃ z, Hid ((jnF ok fls gls).length = z) := ⟨_, hide rfl⟩
  have kn12 : n12 ≤ 5 := by rw [← unhide hn12]; exact jnI_len _ _ _ _ _
  have kn13 : n13 ≤ 5 := by rw [← unhide hn13]; exact jnF_len _ _ _
  have sw14 := (unhide BB).size
  refine (ijoin_any a1 a2 a3 its a4 a5 a6 fls b1 b2 b3 jts b4 b5 b6 gls ok HJ n12 n13 hn12 hn13 _ (by omega) (by omega) (by omega) (by omega) (unhide U_a).rI (unhide U_a).rF (unhide U_b).rI (unhide U_b).rF).mono ?_
  rintro e w14 ⟨jaw14, jcw14, jbw14, jdw14, rfl, o1, o2, bw14⟩
  have OA := hide o1
  have OB := hide o2
  replace U_a := hide ((unhide U_a).later bw14)
  replace U_b := hide ((unhide U_b).later bw14)
  replace BB := hide ((unhide BB).trans (bw14.mono (unhide BB).size))
  clear o1 o2 bw14
  go_upto_region 5 with fail
  obtain ⟨w15, hw15⟩ : ∃ W, W = (w14.alloc (StB (.slice jaw14 n12 jcw14) (.slice jbw14 n13 jdw14))) := ⟨_, rfl⟩
  obtain ⟨b_j, hb_j⟩ : ∃ b, b = w14.heap.size := ⟨_, rfl⟩
  rw [← hw15, ← hb_j]
  have hsw15 := (unhide BB).size
  have bw15 : Below w14.heap.size w14 w15 := by rw [hw15]; exact (Below.refl _ _).alloc (Nat.le_refl _) _
  have U_j := hide (show U3 w w15 b_j (.slice jaw14 n12 jcw14) (.slice jbw14 n13 jdw14) (jnI ok its fls jts gls) (jnF ok fls gls) from by rw [hw15, hb_j]; exact U3.new hsw15 sw14 (.inl (unhide OA)) (.inl (unhide OB)))
  replace U_a := hide ((unhide U_a).later bw15)
  replace U_b := hide ((unhide U_b).later bw15)
  replace BB := hide ((unhide BB).trans (bw15.mono (unhide BB).size))
  clear bw15 hw15 hsw15 hb_j OA OB
  clear sw14
  obtain ⟨z_a0, z_a1⟩ := (unhide U_a).cells
  obtain ⟨z_b0, z_b1⟩ := (unhide U_b).cells
  go_wp2_with fail
  clear z_a0 z_a1 z_b0 z_b1
  obtain ⟨n16, hn16⟩ : ∃ z, Hid ((jnI ok its fls jts gls).length = z) := ⟨_, hide rfl⟩
  obtain ⟨n17, hn17⟩ : ∃ z, Hid ((jnF ok fls gls).length = z) := ⟨_, hide rfl⟩
  have kn16 : n16 ≤ 5 := by rw [← unhide hn16]; exact jnI_len _ _ _ _ _
  have kn17 : n17 ≤ 5 := by rw [← unhide hn17]; exact jnF_len _ _ _
  have sw18 := (unhide BB).size
  refine (sjoin_any a1 a2 a3 its a4 a5 a6 fls b1 b2 b3 jts b4 b5 b6 gls ok HJ n16 n17 hn16 hn17 _ (by omega) (by omega) (by omega) (by omega) (unhide U_a).rI (unhide U_a).rF (unhide U_b).rI (unhide U_b).rF).mono ?_
  rintro e w18 ⟨jaw18, jcw18, jbw18, jdw18, rfl, o1, o2, bw18⟩
  have OA := hide o1
  have OB := hide o2
  replace U_a := hide ((unhide U_a).later bw18)
  replace U_b := hide ((unhide U_b).later bw18)
  replace U_j := hide ((unhide U_j).later bw18)
  replace BB := hide ((unhide BB).trans (bw18.mono (unhide BB).size))
  clear o1 o2 bw18
  go_upto_region 6 with fail
  obtain ⟨w19, hw19⟩ : ∃ W, W = (w18.alloc (StB (.slice jaw18 n16 jcw18) (.slice jbw18 n17 jdw18))) := ⟨_, rfl⟩
  obtain ⟨b_q, hb_q⟩ : ∃ b, b = w18.heap.size := ⟨_, rfl⟩
  rw [← hw19, ← hb_q]
  have hsw19 := (unhide BB).size
  have bw19 : Below w18.heap.size w18 w19 := by rw [hw19]; exact (Below.refl _ _).alloc (Nat.le_refl _) _
  have U_q := hide (show U3 w w19 b_q (.slice jaw18 n16 jcw18) (.slice jbw18 n17 jdw18) (jnI ok its fls jts gls) (jnF ok fls gls) from by rw [hw19, hb_q]; exact U3.new hsw19 sw18 (.inl (unhide OA)) (.inl (unhide OB)))
  replace U_a := hide ((unhide U_a).later bw19)
  replace U_b := hide ((unhide U_b).later bw19)
  replace U_j := hide ((unhide U_j).later bw19)
  replace BB := hide ((unhide BB).trans (bw19.mono (unhide BB).size))
  clear bw19 hw19 hsw19 hb_q OA OB
  clear sw18
  clear U_q
  cases ok
  · have e1 : n12 = 0 := (unhide hn12).symm
    subst e1
    obtain ⟨z_j0, z_j1⟩ := (unhide U_j).cells
    clear HJ
    go_wp2
    go_ret
    exact ⟨rfl, unhide BB⟩
  have hAB := unhide HJ
  rw [Bool.and_eq_true] at hAB
  have OA' := hide ((okS_iff _ _).1 hAB.1)
  have OB' := hide ((okS_iff _ _).1 hAB.2)
  have SA := hide (nine_sml (unhide NI))
  have SB := hide (nine_sml (unhide NJ))
  have SJ := hide (nine_sml (nine_join (fs := fls) (gs := gls) (unhide NI) (unhide NJ)))
  clear hAB
  replace U_j := hide (show U3 w w19 b_j (.slice jaw14 n12 jcw14) (.slice jbw14 n13 jdw14) (joinI its fls jts gls) (joinF fls gls) from unhide U_j)
  go_wp2
  go_loopw [9] (fun i wr => ∃ k : Int, -1 ≤ k ∧ k ≤ 6 ∧ i = .int .i64 k ∧ Below w.heap.size w wr ∧ U3 w wr b_a (.slice a1 a2 a3) (.slice a4 a5 a6) its fls ∧ U3 w wr b_b (.slice b1 b2 b3) (.slice b4 b5 b6) jts gls ∧ U3 w wr b_j (.slice jaw14 n12 jcw14) (.slice jbw14 n13 jdw14) (joinI its fls jts gls) (joinF fls gls)) (fun i _ => (6 - intOf i).toNat)
  case atStart => exact ⟨-1, by omega, by omega, rfl, unhide BB, unhide U_a, unhide U_b, unhide U_j⟩
  case round =>
    obtain ⟨k, hk0, hk1, rfl, hB, hA, hBq, hJ⟩ := hrel
    clear BB U_a U_b U_j
    have BB := hide hB
    have U_a := hide hA
    have U_b := hide hBq
    have U_j := hide hJ
    clear hB hA hBq hJ
    by_cases hlt : k ≤ 5
    · obtain ⟨x, oa, HA⟩ : ∃ x h, Hid (entR its k = (x, h)) := ⟨_, _, hide rfl⟩
      obtain ⟨y, ob, HB⟩ : ∃ x h, Hid (entR jts k = (x, h)) := ⟨_, _, hide rfl⟩
      obtain ⟨e', oc, HE⟩ : ∃ x h, Hid (entR (joinI its fls jts gls) k = (x, h)) := ⟨_, _, hide rfl⟩
      obtain ⟨fa, HFA⟩ : ∃ f, Hid (flo fls k = f) := ⟨_, hide rfl⟩
      obtain ⟨fb, HFB⟩ : ∃ f, Hid (flo gls k = f) := ⟨_, hide rfl⟩
      obtain ⟨f, HF⟩ : ∃ f, Hid (flo (joinF fls gls) k = f) := ⟨_, hide rfl⟩
      have hfl := (unhide OA').each_flo (unhide OB') k
      have hee := (unhide OA').each (unhide OB') (unhide HA) (unhide HB) (unhide HE)
      rw [← hfl.1, unhide HF] at hee
      rw [← hfl.1, unhide HF, unhide HFA, unhide HFB] at hfl
      have HEE := hide hee
      have hf1 : decide (f < fa) = false := by simpa using hfl.2.1
      have hf2 : decide (f < fb) = false := by simpa using hfl.2.2.1
      have hf3 := hide hfl.2.2.2
      have hx9 := entR_nine (unhide NI) (unhide HA)
      have hy9 := entR_nine (unhide NJ) (unhide HB)
      have hd : decide (k ≤ 5) = true := by simpa using hlt
      clear hfl hee
      obtain ⟨z_a0, z_a1⟩ := (unhide U_a).cells
      go_wp2_with fail
      clear z_a0 z_a1
      refine (ientry_any (.slice a4 a5 a6) a1 a2 a3 its (unhide SA) k x oa HA _ (by omega) (unhide U_a).rI).mono ?_
      rintro e w20 ⟨rfl, bw20⟩
      replace U_a := hide ((unhide U_a).later bw20)
      replace U_b := hide ((unhide U_b).later bw20)
      replace U_j := hide ((unhide U_j).later bw20)
      replace BB := hide ((unhide BB).trans (bw20.mono (unhide BB).size))
      clear bw20
      go_upto_region 14 with fail
      obtain ⟨w21, hw21⟩ : ∃ W, W = w20.alloc (.cells #[.int .i64 x.1, .int .i64 x.2.1, .int .i64 x.2.2.1, .int .i64 x.2.2.2.1, .string x.2.2.2.2] 36) := ⟨_, rfl⟩
      obtain ⟨b_x, hb_x⟩ : ∃ b, b = w20.heap.size := ⟨_, rfl⟩
      rw [← hw21, ← hb_x]
      have bw21 : Below w20.heap.size w20 w21 := by rw [hw21]; exact (Below.refl _ _).alloc (Nat.le_refl _) _
      have K_x := hide (show E3 w21 b_x x from by rw [hw21, hb_x]; exact ⟨heap_alloc_new _ _⟩)
      have ge_x : w.heap.size ≤ b_x := by rw [hb_x]; exact (unhide BB).size
      have ne_ax : b_a ≠ b_x := by have := (unhide U_a).lt; omega
      have ne_bx : b_b ≠ b_x := by have := (unhide U_b).lt; omega
      have ne_jx : b_j ≠ b_x := by have := (unhide U_j).lt; omega
      replace U_a := hide ((unhide U_a).later bw21)
      replace U_b := hide ((unhide U_b).later bw21)
      replace U_j := hide ((unhide U_j).later bw21)
      replace BB := hide ((unhide BB).trans (bw21.mono (unhide BB).size))
      clear bw21 hw21 hb_x
      obtain ⟨z_b0, z_b1⟩ := (unhide U_b).cells
      go_wp2_with fail
      clear z_b0 z_b1
      refine (ientry_any (.slice b4 b5 b6) b1 b2 b3 jts (unhide SB) k y ob HB _ (by omega) (unhide U_b).rI).mono ?_
      rintro e w22 ⟨rfl, bw22⟩
      replace U_a := hide ((unhide U_a).later bw22)
      replace U_b := hide ((unhide U_b).later bw22)
      replace U_j := hide ((unhide U_j).later bw22)
      replace BB := hide ((unhide BB).trans (bw22.mono (unhide BB).size))
      replace K_x := hide ((unhide K_x).later bw22)
      clear bw22
      go_upto_region 15 with fail
      obtain ⟨w23, hw23⟩ : ∃ W, W = w22.alloc (.cells #[.int .i64 y.1, .int .i64 y.2.1, .int .i64 y.2.2.1, .int .i64 y.2.2.2.1, .string y.2.2.2.2] 36) := ⟨_, rfl⟩
      obtain ⟨b_y, hb_y⟩ : ∃ b, b = w22.heap.size := ⟨_, rfl⟩
      rw [← hw23, ← hb_y]
      have bw23 : Below w22.heap.size w22 w23 := by rw [hw23]; exact (Below.refl _ _).alloc (Nat.le_refl _) _
      have K_y := hide (show E3 w23 b_y y from by rw [hw23, hb_y]; exact ⟨heap_alloc_new _ _⟩)
      have ge_y : w.heap.size ≤ b_y := by rw [hb_y]; exact (unhide BB).size
      have ne_ay : b_a ≠ b_y := by have := (unhide U_a).lt; omega
      have ne_by : b_b ≠ b_y := by have := (unhide U_b).lt; omega
      have ne_jy : b_j ≠ b_y := by have := (unhide U_j).lt; omega
      have ne_xy : b_x ≠ b_y := by have := (unhide K_x).lt; omega
      replace U_a := hide ((unhide U_a).later bw23)
      replace U_b := hide ((unhide U_b).later bw23)
      replace U_j := hide ((unhide U_j).later bw23)
      replace BB := hide ((unhide BB).trans (bw23.mono (unhide BB).size))
      replace K_x := hide ((unhide K_x).later bw23)
      clear bw23 hw23 hb_y
      obtain ⟨z_j0, z_j1⟩ := (unhide U_j).cells
      go_wp2_with fail
      clear z_j0 z_j1
      refine (ientry_any (.slice jbw14 n13 jdw14) jaw14 n12 jcw14 (joinI its fls jts gls) (unhide SJ) k e' oc HE _ (by omega) (unhide U_j).rI).mono ?_
      rintro e w24 ⟨rfl, bw24⟩
      replace U_a := hide ((unhide U_a).later bw24)
      replace U_b := hide ((unhide U_b).later bw24)
      replace U_j := hide ((unhide U_j).later bw24)
      replace BB := hide ((unhide BB).trans (bw24.mono (unhide BB).size))
      replace K_x := hide ((unhide K_x).later bw24)
      replace K_y := hide ((unhide K_y).later bw24)
      clear bw24
      go_upto_region 16 with fail
      obtain ⟨w25, hw25⟩ : ∃ W, W = w24.alloc (.cells #[.int .i64 e'.1, .int .i64 e'.2.1, .int .i64 e'.2.2.1, .int .i64 e'.2.2.2.1, .string e'.2.2.2.2] 36) := ⟨_, rfl⟩
      obtain ⟨b_e, hb_e⟩ : ∃ b, b = w24.heap.size := ⟨_, rfl⟩
      rw [← hw25, ← hb_e]
      have bw25 : Below w24.heap.size w24 w25 := by rw [hw25]; exact (Below.refl _ _).alloc (Nat.le_refl _) _
      have K_e := hide (show E3 w25 b_e e' from by rw [hw25, hb_e]; exact ⟨heap_alloc_new _ _⟩)
      have ge_e : w.heap.size ≤ b_e := by rw [hb_e]; exact (unhide BB).size
      have ne_ae : b_a ≠ b_e := by have := (unhide U_a).lt; omega
      have ne_be : b_b ≠ b_e := by have := (unhide U_b).lt; omega
      have ne_je : b_j ≠ b_e := by have := (unhide U_j).lt; omega
      have ne_xe : b_x ≠ b_e := by have := (unhide K_x).lt; omega
      have ne_ye : b_y ≠ b_e := by have := (unhide K_y).lt; omega
      replace U_a := hide ((unhide U_a).later bw25)
      replace U_b := hide ((unhide U_b).later bw25)
      replace U_j := hide ((unhide U_j).later bw25)
      replace BB := hide ((unhide BB).trans (bw25.mono (unhide BB).size))
      replace K_x := hide ((unhide K_x).later bw25)
      replace K_y := hide ((unhide K_y).later bw25)
      clear bw25 hw25 hb_e
      obtain ⟨z_j0, z_j1⟩ := (unhide U_j).cells
      go_wp2_with fail
      clear z_j0 z_j1
      refine (ifloor_v (.slice jaw14 n12 jcw14) jbw14 n13 jdw14 (joinF fls gls) k f HF _ (by omega) (unhide U_j).rF).mono ?_
      rintro e w26 ⟨rfl, bw26⟩
      replace U_a := hide ((unhide U_a).later bw26)
      replace U_b := hide ((unhide U_b).later bw26)
      replace U_j := hide ((unhide U_j).later bw26)
      replace BB := hide ((unhide BB).trans (bw26.mono (unhide BB).size))
      replace K_x := hide ((unhide K_x).later bw26)
      replace K_y := hide ((unhide K_y).later bw26)
      replace K_e := hide ((unhide K_e).later bw26)
      clear bw26
      obtain ⟨z_a0, z_a1⟩ := (unhide U_a).cells
      go_wp2_with fail
      clear z_a0 z_a1
      refine (ifloor_v (.slice a1 a2 a3) a4 a5 a6 fls k fa HFA _ (by omega) (unhide U_a).rF).mono ?_
      rintro e w27 ⟨rfl, bw27⟩
      replace U_a := hide ((unhide U_a).later bw27)
      replace U_b := hide ((unhide U_b).later bw27)
      replace U_j := hide ((unhide U_j).later bw27)
      replace BB := hide ((unhide BB).trans (bw27.mono (unhide BB).size))
      replace K_x := hide ((unhide K_x).later bw27)
      replace K_y := hide ((unhide K_y).later bw27)
      replace K_e := hide ((unhide K_e).later bw27)
      clear bw27
      obtain ⟨z_b0, z_b1⟩ := (unhide U_b).cells
      go_wp2_with fail
      clear z_b0 z_b1
      refine (ifloor_v (.slice b1 b2 b3) b4 b5 b6 gls k fb HFB _ (by omega) (unhide U_b).rF).mono ?_
      rintro e w28 ⟨rfl, bw28⟩
      replace U_a := hide ((unhide U_a).later bw28)
      replace U_b := hide ((unhide U_b).later bw28)
      replace U_j := hide ((unhide U_j).later bw28)
      replace BB := hide ((unhide BB).trans (bw28.mono (unhide BB).size))
      replace K_x := hide ((unhide K_x).later bw28)
      replace K_y := hide ((unhide K_y).later bw28)
      replace K_e := hide ((unhide K_e).later bw28)
      clear bw28
      by_cases hfe : f = fa
      · have hn1 : (f != fa) = false := by simp [hfe]
        clear hfe hf3
        obtain ⟨z_a0, z_a1⟩ := (unhide U_a).cells
        go_wp2_with fail
        clear z_a0 z_a1
        refine (ifloor_v (.slice a1 a2 a3) a4 a5 a6 fls k fa HFA _ (by omega) (unhide U_a).rF).mono ?_
        rintro e w29 ⟨rfl, bw29⟩
        replace U_a := hide ((unhide U_a).later bw29)
        replace U_b := hide ((unhide U_b).later bw29)
        replace U_j := hide ((unhide U_j).later bw29)
        replace BB := hide ((unhide BB).trans (bw29.mono (unhide BB).size))
        replace K_x := hide ((unhide K_x).later bw29)
        replace K_y := hide ((unhide K_y).later bw29)
        replace K_e := hide ((unhide K_e).later bw29)
        clear bw29
        obtain ⟨y_x0, y_x1, y_x2, y_x3, y_x4, y_x5⟩ := blk_cells5 (unhide K_x).k
        obtain ⟨y_y0, y_y1, y_y2, y_y3, y_y4, y_y5⟩ := blk_cells5 (unhide K_y).k
        go_wp2_with fail
        clear y_x0 y_x1 y_x2 y_x3 y_x4 y_x5
        clear y_y0 y_y1 y_y2 y_y3 y_y4 y_y5
        obtain ⟨m, HM⟩ : ∃ m, Hid (mx x y = m) := ⟨_, hide rfl⟩
        refine (imaxK_any x y m HM (by omega) (by omega) _).mono ?_
        rintro e w30 ⟨rfl, bw30⟩
        replace U_a := hide ((unhide U_a).later bw30)
        replace U_b := hide ((unhide U_b).later bw30)
        replace U_j := hide ((unhide U_j).later bw30)
        replace BB := hide ((unhide BB).trans (bw30.mono (unhide BB).size))
        replace K_x := hide ((unhide K_x).later bw30)
        replace K_y := hide ((unhide K_y).later bw30)
        replace K_e := hide ((unhide K_e).later bw30)
        clear bw30
        go_upto_region 20 with fail
        obtain ⟨w31, hw31⟩ : ∃ W, W = w30.alloc (.cells #[.int .i64 m.1, .int .i64 m.2.1, .int .i64 m.2.2.1, .int .i64 m.2.2.2.1, .string m.2.2.2.2] 36) := ⟨_, rfl⟩
        obtain ⟨b_m, hb_m⟩ : ∃ b, b = w30.heap.size := ⟨_, rfl⟩
        rw [← hw31, ← hb_m]
        have bw31 : Below w30.heap.size w30 w31 := by rw [hw31]; exact (Below.refl _ _).alloc (Nat.le_refl _) _
        have K_m := hide (show E3 w31 b_m m from by rw [hw31, hb_m]; exact ⟨heap_alloc_new _ _⟩)
        have ge_m : w.heap.size ≤ b_m := by rw [hb_m]; exact (unhide BB).size
        have ne_am : b_a ≠ b_m := by have := (unhide U_a).lt; omega
        have ne_bm : b_b ≠ b_m := by have := (unhide U_b).lt; omega
        have ne_jm : b_j ≠ b_m := by have := (unhide U_j).lt; omega
        have ne_xm : b_x ≠ b_m := by have := (unhide K_x).lt; omega
        have ne_ym : b_y ≠ b_m := by have := (unhide K_y).lt; omega
        have ne_em : b_e ≠ b_m := by have := (unhide K_e).lt; omega
        replace U_a := hide ((unhide U_a).later bw31)
        replace U_b := hide ((unhide U_b).later bw31)
        replace U_j := hide ((unhide U_j).later bw31)
        replace BB := hide ((unhide BB).trans (bw31.mono (unhide BB).size))
        replace K_x := hide ((unhide K_x).later bw31)
        replace K_y := hide ((unhide K_y).later bw31)
        replace K_e := hide ((unhide K_e).later bw31)
        clear bw31 hw31 hb_m
        cases oa
        · skip
          obtain ⟨y_y0, y_y1, y_y2, y_y3, y_y4, y_y5⟩ := blk_cells5 (unhide K_y).k
          obtain ⟨y_m0, y_m1, y_m2, y_m3, y_m4, y_m5⟩ := blk_cells5 (unhide K_m).k
          go_upto_region 22 with fail
          clear y_y0 y_y1 y_y2 y_y3 y_y4 y_y5
          clear y_m0 y_m1 y_m2 y_m3 y_m4 y_m5
          obtain ⟨w32, hw32⟩ : ∃ W, W = put5 w31 b_m y := ⟨_, rfl⟩
          have hqw32 : put5 w31 b_m y = ((((w31.setCell ⟨b_m, 0, none⟩ (.int .i64 y.1)).setCell ⟨b_m, 1, none⟩ (.int .i64 y.2.1)).setCell ⟨b_m, 2, none⟩ (.int .i64 y.2.2.1)).setCell ⟨b_m, 3, none⟩ (.int .i64 y.2.2.2.1)).setCell ⟨b_m, 4, none⟩ (.string y.2.2.2.2) := rfl
          rw [← hqw32, ← hw32]
          have gw32 : w31.grownBy w32 (some b_m) := by rw [hw32]; exact put5_grown _ _ _
          replace U_a := hide ((unhide U_a).far (unhide K_m).k ne_am gw32)
          replace U_b := hide ((unhide U_b).far (unhide K_m).k ne_bm gw32)
          replace U_j := hide ((unhide U_j).far (unhide K_m).k ne_jm gw32)
          replace K_x := hide ((unhide K_x).far ne_xm gw32)
          replace K_y := hide ((unhide K_y).far ne_ym gw32)
          replace K_e := hide ((unhide K_e).far ne_em gw32)
          replace BB := hide (show Below w.heap.size w w32 from by rw [hw32]; exact put5_below (unhide BB) ge_m _)
          replace K_m := hide (show E3 w32 b_m y from by rw [hw32]; exact (unhide K_m).put _)
          clear gw32 hw32 hqw32
          cases ob
          · skip
            obtain ⟨y_x0, y_x1, y_x2, y_x3, y_x4, y_x5⟩ := blk_cells5 (unhide K_x).k
            obtain ⟨y_m0, y_m1, y_m2, y_m3, y_m4, y_m5⟩ := blk_cells5 (unhide K_m).k
            go_upto_region 24 with fail
            clear y_x0 y_x1 y_x2 y_x3 y_x4 y_x5
            clear y_m0 y_m1 y_m2 y_m3 y_m4 y_m5
            obtain ⟨w33, hw33⟩ : ∃ W, W = put5 w32 b_m x := ⟨_, rfl⟩
            have hqw33 : put5 w32 b_m x = ((((w32.setCell ⟨b_m, 0, none⟩ (.int .i64 x.1)).setCell ⟨b_m, 1, none⟩ (.int .i64 x.2.1)).setCell ⟨b_m, 2, none⟩ (.int .i64 x.2.2.1)).setCell ⟨b_m, 3, none⟩ (.int .i64 x.2.2.2.1)).setCell ⟨b_m, 4, none⟩ (.string x.2.2.2.2) := rfl
            rw [← hqw33, ← hw33]
            have gw33 : w32.grownBy w33 (some b_m) := by rw [hw33]; exact put5_grown _ _ _
            replace U_a := hide ((unhide U_a).far (unhide K_m).k ne_am gw33)
            replace U_b := hide ((unhide U_b).far (unhide K_m).k ne_bm gw33)
            replace U_j := hide ((unhide U_j).far (unhide K_m).k ne_jm gw33)
            replace K_x := hide ((unhide K_x).far ne_xm gw33)
            replace K_y := hide ((unhide K_y).far ne_ym gw33)
            replace K_e := hide ((unhide K_e).far ne_em gw33)
            replace BB := hide (show Below w.heap.size w w33 from by rw [hw33]; exact put5_below (unhide BB) ge_m _)
            replace K_m := hide (show E3 w33 b_m x from by rw [hw33]; exact (unhide K_m).put _)
            clear gw33 hw33 hqw33
            have hc : oc = false := by simpa using (unhide HEE).1
            subst hc
            obtain ⟨y_e0, y_e1, y_e2, y_e3, y_e4, y_e5⟩ := blk_cells5 (unhide K_e).k
            obtain ⟨y_m0, y_m1, y_m2, y_m3, y_m4, y_m5⟩ := blk_cells5 (unhide K_m).k
            go_wp2
            go_roundw
            case rel => exact ⟨k + 1, by omega, by omega, by go_num, unhide BB, unhide U_a, unhide U_b, unhide U_j⟩
            case measure => simp [intOf]; omega
          have h5 : oc = decide (f < y.1) ∧ (oc = true → e' = y) := by simpa [mm] using unhide HEE
          by_cases hQ : f < y.1
          · have hc : oc = true := by rw [h5.1]; exact decide_eq_true hQ
            have hE := h5.2 hc
            subst hc
            subst hE
            have hd5 : decide (f < e'.1) = true := decide_eq_true hQ
            have hq5 := eqK_self e'
            clear h5 HEE
            obtain ⟨y_e0, y_e1, y_e2, y_e3, y_e4, y_e5⟩ := blk_cells5 (unhide K_e).k
            obtain ⟨y_m0, y_m1, y_m2, y_m3, y_m4, y_m5⟩ := blk_cells5 (unhide K_m).k
            go_wp2
            go_roundw
            case rel => exact ⟨k + 1, by omega, by omega, by go_num, unhide BB, unhide U_a, unhide U_b, unhide U_j⟩
            case measure => simp [intOf]; omega
          have hc : oc = false := by rw [h5.1]; exact decide_eq_false hQ
          subst hc
          have hd5 : decide (f < y.1) = false := decide_eq_false hQ
          clear h5 HEE
          obtain ⟨y_e0, y_e1, y_e2, y_e3, y_e4, y_e5⟩ := blk_cells5 (unhide K_e).k
          obtain ⟨y_m0, y_m1, y_m2, y_m3, y_m4, y_m5⟩ := blk_cells5 (unhide K_m).k
          go_wp2
          go_roundw
          case rel => exact ⟨k + 1, by omega, by omega, by go_num, unhide BB, unhide U_a, unhide U_b, unhide U_j⟩
          case measure => simp [intOf]; omega
        cases ob
        · skip
          obtain ⟨y_x0, y_x1, y_x2, y_x3, y_x4, y_x5⟩ := blk_cells5 (unhide K_x).k
          obtain ⟨y_m0, y_m1, y_m2, y_m3, y_m4, y_m5⟩ := blk_cells5 (unhide K_m).k
          go_upto_region 24 with fail
          clear y_x0 y_x1 y_x2 y_x3 y_x4 y_x5
          clear y_m0 y_m1 y_m2 y_m3 y_m4 y_m5
          obtain ⟨w34, hw34⟩ : ∃ W, W = put5 w31 b_m x := ⟨_, rfl⟩
          have hqw34 : put5 w31 b_m x = ((((w31.setCell ⟨b_m, 0, none⟩ (.int .i64 x.1)).setCell ⟨b_m, 1, none⟩ (.int .i64 x.2.1)).setCell ⟨b_m, 2, none⟩ (.int .i64 x.2.2.1)).setCell ⟨b_m, 3, none⟩ (.int .i64 x.2.2.2.1)).setCell ⟨b_m, 4, none⟩ (.string x.2.2.2.2) := rfl
          rw [← hqw34, ← hw34]
          have gw34 : w31.grownBy w34 (some b_m) := by rw [hw34]; exact put5_grown _ _ _
          replace U_a := hide ((unhide U_a).far (unhide K_m).k ne_am gw34)
          replace U_b := hide ((unhide U_b).far (unhide K_m).k ne_bm gw34)
          replace U_j := hide ((unhide U_j).far (unhide K_m).k ne_jm gw34)
          replace K_x := hide ((unhide K_x).far ne_xm gw34)
          replace K_y := hide ((unhide K_y).far ne_ym gw34)
          replace K_e := hide ((unhide K_e).far ne_em gw34)
          replace BB := hide (show Below w.heap.size w w34 from by rw [hw34]; exact put5_below (unhide BB) ge_m _)
          replace K_m := hide (show E3 w34 b_m x from by rw [hw34]; exact (unhide K_m).put _)
          clear gw34 hw34 hqw34
          have h5 : oc = decide (f < x.1) ∧ (oc = true → e' = x) := by simpa [mm] using unhide HEE
          by_cases hQ : f < x.1
          · have hc : oc = true := by rw [h5.1]; exact decide_eq_true hQ
            have hE := h5.2 hc
            subst hc
            subst hE
            have hd5 : decide (f < e'.1) = true := decide_eq_true hQ
            have hq5 := eqK_self e'
            clear h5 HEE
            obtain ⟨y_e0, y_e1, y_e2, y_e3, y_e4, y_e5⟩ := blk_cells5 (unhide K_e).k
            obtain ⟨y_m0, y_m1, y_m2, y_m3, y_m4, y_m5⟩ := blk_cells5 (unhide K_m).k
            go_wp2
            go_roundw
            case rel => exact ⟨k + 1, by omega, by omega, by go_num, unhide BB, unhide U_a, unhide U_b, unhide U_j⟩
            case measure => simp [intOf]; omega
          have hc : oc = false := by rw [h5.1]; exact decide_eq_false hQ
          subst hc
          have hd5 : decide (f < x.1) = false := decide_eq_false hQ
          clear h5 HEE
          obtain ⟨y_e0, y_e1, y_e2, y_e3, y_e4, y_e5⟩ := blk_cells5 (unhide K_e).k
          obtain ⟨y_m0, y_m1, y_m2, y_m3, y_m4, y_m5⟩ := blk_cells5 (unhide K_m).k
          go_wp2
          go_roundw
          case rel => exact ⟨k + 1, by omega, by omega, by go_num, unhide BB, unhide U_a, unhide U_b, unhide U_j⟩
          case measure => simp [intOf]; omega
        have h5 : oc = decide (f < m.1) ∧ (oc = true → e' = m) := by have h := unhide HEE; rw [← unhide HM]; simpa [mm] using h
        by_cases hQ : f < m.1
        · have hc : oc = true := by rw [h5.1]; exact decide_eq_true hQ
          have hE := h5.2 hc
          subst hc
          subst hE
          have hd5 : decide (f < e'.1) = true := decide_eq_true hQ
          have hq5 := eqK_self e'
          clear h5 HEE
          obtain ⟨y_e0, y_e1, y_e2, y_e3, y_e4, y_e5⟩ := blk_cells5 (unhide K_e).k
          obtain ⟨y_m0, y_m1, y_m2, y_m3, y_m4, y_m5⟩ := blk_cells5 (unhide K_m).k
          go_wp2
          go_roundw
          case rel => exact ⟨k + 1, by omega, by omega, by go_num, unhide BB, unhide U_a, unhide U_b, unhide U_j⟩
          case measure => simp [intOf]; omega
        have hc : oc = false := by rw [h5.1]; exact decide_eq_false hQ
        subst hc
        have hd5 : decide (f < m.1) = false := decide_eq_false hQ
        clear h5 HEE
        obtain ⟨y_e0, y_e1, y_e2, y_e3, y_e4, y_e5⟩ := blk_cells5 (unhide K_e).k
        obtain ⟨y_m0, y_m1, y_m2, y_m3, y_m4, y_m5⟩ := blk_cells5 (unhide K_m).k
        go_wp2
        go_roundw
        case rel => exact ⟨k + 1, by omega, by omega, by go_num, unhide BB, unhide U_a, unhide U_b, unhide U_j⟩
        case measure => simp [intOf]; omega
      have hn1 : (f != fa) = true := by simpa using hfe
      have hn2 : (f != fb) = false := by have h := (unhide hf3).resolve_left hfe; simp [h]
      clear hfe hf3
      obtain ⟨z_a0, z_a1⟩ := (unhide U_a).cells
      go_wp2_with fail
      clear z_a0 z_a1
      refine (ifloor_v (.slice a1 a2 a3) a4 a5 a6 fls k fa HFA _ (by omega) (unhide U_a).rF).mono ?_
      rintro e w35 ⟨rfl, bw35⟩
      replace U_a := hide ((unhide U_a).later bw35)
      replace U_b := hide ((unhide U_b).later bw35)
      replace U_j := hide ((unhide U_j).later bw35)
      replace BB := hide ((unhide BB).trans (bw35.mono (unhide BB).size))
      replace K_x := hide ((unhide K_x).later bw35)
      replace K_y := hide ((unhide K_y).later bw35)
      replace K_e := hide ((unhide K_e).later bw35)
      clear bw35
      obtain ⟨z_b0, z_b1⟩ := (unhide U_b).cells
      go_wp2_with fail
      clear z_b0 z_b1
      refine (ifloor_v (.slice b1 b2 b3) b4 b5 b6 gls k fb HFB _ (by omega) (unhide U_b).rF).mono ?_
      rintro e w36 ⟨rfl, bw36⟩
      replace U_a := hide ((unhide U_a).later bw36)
      replace U_b := hide ((unhide U_b).later bw36)
      replace U_j := hide ((unhide U_j).later bw36)
      replace BB := hide ((unhide BB).trans (bw36.mono (unhide BB).size))
      replace K_x := hide ((unhide K_x).later bw36)
      replace K_y := hide ((unhide K_y).later bw36)
      replace K_e := hide ((unhide K_e).later bw36)
      clear bw36
      obtain ⟨y_x0, y_x1, y_x2, y_x3, y_x4, y_x5⟩ := blk_cells5 (unhide K_x).k
      obtain ⟨y_y0, y_y1, y_y2, y_y3, y_y4, y_y5⟩ := blk_cells5 (unhide K_y).k
      go_wp2_with fail
      clear y_x0 y_x1 y_x2 y_x3 y_x4 y_x5
      clear y_y0 y_y1 y_y2 y_y3 y_y4 y_y5
      obtain ⟨m, HM⟩ : ∃ m, Hid (mx x y = m) := ⟨_, hide rfl⟩
      refine (imaxK_any x y m HM (by omega) (by omega) _).mono ?_
      rintro e w37 ⟨rfl, bw37⟩
      replace U_a := hide ((unhide U_a).later bw37)
      replace U_b := hide ((unhide U_b).later bw37)
      replace U_j := hide ((unhide U_j).later bw37)
      replace BB := hide ((unhide BB).trans (bw37.mono (unhide BB).size))
      replace K_x := hide ((unhide K_x).later bw37)
      replace K_y := hide ((unhide K_y).later bw37)
      replace K_e := hide ((unhide K_e).later bw37)
      clear bw37
      go_upto_region 20 with fail
      obtain ⟨w38, hw38⟩ : ∃ W, W = w37.alloc (.cells #[.int .i64 m.1, .int .i64 m.2.1, .int .i64 m.2.2.1, .int .i64 m.2.2.2.1, .string m.2.2.2.2] 36) := ⟨_, rfl⟩
      obtain ⟨b_m, hb_m⟩ : ∃ b, b = w37.heap.size := ⟨_, rfl⟩
      rw [← hw38, ← hb_m]
      have bw38 : Below w37.heap.size w37 w38 := by rw [hw38]; exact (Below.refl _ _).alloc (Nat.le_refl _) _
      have K_m := hide (show E3 w38 b_m m from by rw [hw38, hb_m]; exact ⟨heap_alloc_new _ _⟩)
      have ge_m : w.heap.size ≤ b_m := by rw [hb_m]; exact (unhide BB).size
      have ne_am : b_a ≠ b_m := by have := (unhide U_a).lt; omega
      have ne_bm : b_b ≠ b_m := by have := (unhide U_b).lt; omega
      have ne_jm : b_j ≠ b_m := by have := (unhide U_j).lt; omega
      have ne_xm : b_x ≠ b_m := by have := (unhide K_x).lt; omega
      have ne_ym : b_y ≠ b_m := by have := (unhide K_y).lt; omega
      have ne_em : b_e ≠ b_m := by have := (unhide K_e).lt; omega
      replace U_a := hide ((unhide U_a).later bw38)
      replace U_b := hide ((unhide U_b).later bw38)
      replace U_j := hide ((unhide U_j).later bw38)
      replace BB := hide ((unhide BB).trans (bw38.mono (unhide BB).size))
      replace K_x := hide ((unhide K_x).later bw38)
      replace K_y := hide ((unhide K_y).later bw38)
      replace K_e := hide ((unhide K_e).later bw38)
      clear bw38 hw38 hb_m
      cases oa
      · skip
        obtain ⟨y_y0, y_y1, y_y2, y_y3, y_y4, y_y5⟩ := blk_cells5 (unhide K_y).k
        obtain ⟨y_m0, y_m1, y_m2, y_m3, y_m4, y_m5⟩ := blk_cells5 (unhide K_m).k
        go_upto_region 22 with fail
        clear y_y0 y_y1 y_y2 y_y3 y_y4 y_y5
        clear y_m0 y_m1 y_m2 y_m3 y_m4 y_m5
        obtain ⟨w39, hw39⟩ : ∃ W, W = put5 w38 b_m y := ⟨_, rfl⟩
        have hqw39 : put5 w38 b_m y = ((((w38.setCell ⟨b_m, 0, none⟩ (.int .i64 y.1)).setCell ⟨b_m, 1, none⟩ (.int .i64 y.2.1)).setCell ⟨b_m, 2, none⟩ (.int .i64 y.2.2.1)).setCell ⟨b_m, 3, none⟩ (.int .i64 y.2.2.2.1)).setCell ⟨b_m, 4, none⟩ (.string y.2.2.2.2) := rfl
        rw [← hqw39, ← hw39]
        have gw39 : w38.grownBy w39 (some b_m) := by rw [hw39]; exact put5_grown _ _ _
        replace U_a := hide ((unhide U_a).far (unhide K_m).k ne_am gw39)
        replace U_b := hide ((unhide U_b).far (unhide K_m).k ne_bm gw39)
        replace U_j := hide ((unhide U_j).far (unhide K_m).k ne_jm gw39)
        replace K_x := hide ((unhide K_x).far ne_xm gw39)
        replace K_y := hide ((unhide K_y).far ne_ym gw39)
        replace K_e := hide ((unhide K_e).far ne_em gw39)
        replace BB := hide (show Below w.heap.size w w39 from by rw [hw39]; exact put5_below (unhide BB) ge_m _)
        replace K_m := hide (show E3 w39 b_m y from by rw [hw39]; exact (unhide K_m).put _)
        clear gw39 hw39 hqw39
        cases ob
        · skip
          obtain ⟨y_x0, y_x1, y_x2, y_x3, y_x4, y_x5⟩ := blk_cells5 (unhide K_x).k
          obtain ⟨y_m0, y_m1, y_m2, y_m3, y_m4, y_m5⟩ := blk_cells5 (unhide K_m).k
          go_upto_region 24 with fail
          clear y_x0 y_x1 y_x2 y_x3 y_x4 y_x5
          clear y_m0 y_m1 y_m2 y_m3 y_m4 y_m5
          obtain ⟨w40, hw40⟩ : ∃ W, W = put5 w39 b_m x := ⟨_, rfl⟩
          have hqw40 : put5 w39 b_m x = ((((w39.setCell ⟨b_m, 0, none⟩ (.int .i64 x.1)).setCell ⟨b_m, 1, none⟩ (.int .i64 x.2.1)).setCell ⟨b_m, 2, none⟩ (.int .i64 x.2.2.1)).setCell ⟨b_m, 3, none⟩ (.int .i64 x.2.2.2.1)).setCell ⟨b_m, 4, none⟩ (.string x.2.2.2.2) := rfl
          rw [← hqw40, ← hw40]
          have gw40 : w39.grownBy w40 (some b_m) := by rw [hw40]; exact put5_grown _ _ _
          replace U_a := hide ((unhide U_a).far (unhide K_m).k ne_am gw40)
          replace U_b := hide ((unhide U_b).far (unhide K_m).k ne_bm gw40)
          replace U_j := hide ((unhide U_j).far (unhide K_m).k ne_jm gw40)
          replace K_x := hide ((unhide K_x).far ne_xm gw40)
          replace K_y := hide ((unhide K_y).far ne_ym gw40)
          replace K_e := hide ((unhide K_e).far ne_em gw40)
          replace BB := hide (show Below w.heap.size w w40 from by rw [hw40]; exact put5_below (unhide BB) ge_m _)
          replace K_m := hide (show E3 w40 b_m x from by rw [hw40]; exact (unhide K_m).put _)
          clear gw40 hw40 hqw40
          have hc : oc = false := by simpa using (unhide HEE).1
          subst hc
          obtain ⟨y_e0, y_e1, y_e2, y_e3, y_e4, y_e5⟩ := blk_cells5 (unhide K_e).k
          obtain ⟨y_m0, y_m1, y_m2, y_m3, y_m4, y_m5⟩ := blk_cells5 (unhide K_m).k
          go_wp2
          go_roundw
          case rel => exact ⟨k + 1, by omega, by omega, by go_num, unhide BB, unhide U_a, unhide U_b, unhide U_j⟩
          case measure => simp [intOf]; omega
        have h5 : oc = decide (f < y.1) ∧ (oc = true → e' = y) := by simpa [mm] using unhide HEE
        by_cases hQ : f < y.1
        · have hc : oc = true := by rw [h5.1]; exact decide_eq_true hQ
          have hE := h5.2 hc
          subst hc
          subst hE
          have hd5 : decide (f < e'.1) = true := decide_eq_true hQ
          have hq5 := eqK_self e'
          clear h5 HEE
          obtain ⟨y_e0, y_e1, y_e2, y_e3, y_e4, y_e5⟩ := blk_cells5 (unhide K_e).k
          obtain ⟨y_m0, y_m1, y_m2, y_m3, y_m4, y_m5⟩ := blk_cells5 (unhide K_m).k
          go_wp2
          go_roundw
          case rel => exact ⟨k + 1, by omega, by omega, by go_num, unhide BB, unhide U_a, unhide U_b, unhide U_j⟩
          case measure => simp [intOf]; omega
        have hc : oc = false := by rw [h5.1]; exact decide_eq_false hQ
        subst hc
        have hd5 : decide (f < y.1) = false := decide_eq_false hQ
        clear h5 HEE
        obtain ⟨y_e0, y_e1, y_e2, y_e3, y_e4, y_e5⟩ := blk_cells5 (unhide K_e).k
        obtain ⟨y_m0, y_m1, y_m2, y_m3, y_m4, y_m5⟩ := blk_cells5 (unhide K_m).k
        go_wp2
        go_roundw
        case rel => exact ⟨k + 1, by omega, by omega, by go_num, unhide BB, unhide U_a, unhide U_b, unhide U_j⟩
        case measure => simp [intOf]; omega
      cases ob
      · skip
        obtain ⟨y_x0, y_x1, y_x2, y_x3, y_x4, y_x5⟩ := blk_cells5 (unhide K_x).k
        obtain ⟨y_m0, y_m1, y_m2, y_m3, y_m4, y_m5⟩ := blk_cells5 (unhide K_m).k
        go_upto_region 24 with fail
        clear y_x0 y_x1 y_x2 y_x3 y_x4 y_x5
        clear y_m0 y_m1 y_m2 y_m3 y_m4 y_m5
        obtain ⟨w41, hw41⟩ : ∃ W, W = put5 w38 b_m x := ⟨_, rfl⟩
        have hqw41 : put5 w38 b_m x = ((((w38.setCell ⟨b_m, 0, none⟩ (.int .i64 x.1)).setCell ⟨b_m, 1, none⟩ (.int .i64 x.2.1)).setCell ⟨b_m, 2, none⟩ (.int .i64 x.2.2.1)).setCell ⟨b_m, 3, none⟩ (.int .i64 x.2.2.2.1)).setCell ⟨b_m, 4, none⟩ (.string x.2.2.2.2) := rfl
        rw [← hqw41, ← hw41]
        have gw41 : w38.grownBy w41 (some b_m) := by rw [hw41]; exact put5_grown _ _ _
        replace U_a := hide ((unhide U_a).far (unhide K_m).k ne_am gw41)
        replace U_b := hide ((unhide U_b).far (unhide K_m).k ne_bm gw41)
        replace U_j := hide ((unhide U_j).far (unhide K_m).k ne_jm gw41)
        replace K_x := hide ((unhide K_x).far ne_xm gw41)
        replace K_y := hide ((unhide K_y).far ne_ym gw41)
        replace K_e := hide ((unhide K_e).far ne_em gw41)
        replace BB := hide (show Below w.heap.size w w41 from by rw [hw41]; exact put5_below (unhide BB) ge_m _)
        replace K_m := hide (show E3 w41 b_m x from by rw [hw41]; exact (unhide K_m).put _)
        clear gw41 hw41 hqw41
        have h5 : oc = decide (f < x.1) ∧ (oc = true → e' = x) := by simpa [mm] using unhide HEE
        by_cases hQ : f < x.1
        · have hc : oc = true := by rw [h5.1]; exact decide_eq_true hQ
          have hE := h5.2 hc
          subst hc
          subst hE
          have hd5 : decide (f < e'.1) = true := decide_eq_true hQ
          have hq5 := eqK_self e'
          clear h5 HEE
          obtain ⟨y_e0, y_e1, y_e2, y_e3, y_e4, y_e5⟩ := blk_cells5 (unhide K_e).k
          obtain ⟨y_m0, y_m1, y_m2, y_m3, y_m4, y_m5⟩ := blk_cells5 (unhide K_m).k
          go_wp2
          go_roundw
          case rel => exact ⟨k + 1, by omega, by omega, by go_num, unhide BB, unhide U_a, unhide U_b, unhide U_j⟩
          case measure => simp [intOf]; omega
        have hc : oc = false := by rw [h5.1]; exact decide_eq_false hQ
        subst hc
        have hd5 : decide (f < x.1) = false := decide_eq_false hQ
        clear h5 HEE
        obtain ⟨y_e0, y_e1, y_e2, y_e3, y_e4, y_e5⟩ := blk_cells5 (unhide K_e).k
        obtain ⟨y_m0, y_m1, y_m2, y_m3, y_m4, y_m5⟩ := blk_cells5 (unhide K_m).k
        go_wp2
        go_roundw
        case rel => exact ⟨k + 1, by omega, by omega, by go_num, unhide BB, unhide U_a, unhide U_b, unhide U_j⟩
        case measure => simp [intOf]; omega
      have h5 : oc = decide (f < m.1) ∧ (oc = true → e' = m) := by have h := unhide HEE; rw [← unhide HM]; simpa [mm] using h
      by_cases hQ : f < m.1
      · have hc : oc = true := by rw [h5.1]; exact decide_eq_true hQ
        have hE := h5.2 hc
        subst hc
        subst hE
        have hd5 : decide (f < e'.1) = true := decide_eq_true hQ
        have hq5 := eqK_self e'
        clear h5 HEE
        obtain ⟨y_e0, y_e1, y_e2, y_e3, y_e4, y_e5⟩ := blk_cells5 (unhide K_e).k
        obtain ⟨y_m0, y_m1, y_m2, y_m3, y_m4, y_m5⟩ := blk_cells5 (unhide K_m).k
        go_wp2
        go_roundw
        case rel => exact ⟨k + 1, by omega, by omega, by go_num, unhide BB, unhide U_a, unhide U_b, unhide U_j⟩
        case measure => simp [intOf]; omega
      have hc : oc = false := by rw [h5.1]; exact decide_eq_false hQ
      subst hc
      have hd5 : decide (f < m.1) = false := decide_eq_false hQ
      clear h5 HEE
      obtain ⟨y_e0, y_e1, y_e2, y_e3, y_e4, y_e5⟩ := blk_cells5 (unhide K_e).k
      obtain ⟨y_m0, y_m1, y_m2, y_m3, y_m4, y_m5⟩ := blk_cells5 (unhide K_m).k
      go_wp2
      go_roundw
      case rel => exact ⟨k + 1, by omega, by omega, by go_num, unhide BB, unhide U_a, unhide U_b, unhide U_j⟩
      case measure => simp [intOf]; omega
    · have hd : decide (k ≤ 5) = false := by simpa using hlt
      go_wp2
      go_ret
      exact ⟨rfl, unhide BB⟩

/-! ### THE ROW's STEP: WRITTEN OUT: LEAVE IT -/
set_option maxRecDepth 100000 in
theorem lifted (os : Os) (started : os.Started) (H : Type) (enc : TypeId × Value → H) :
    ReturnsInHanded {} Try.checked os 4 .any (Rows.fnJoinEachSpec.pre6 enc Try.prog Try.f4 Rows.fnJoinEachRow.domain false) (Rows.fnJoinEachSpec.post enc Try.prog Try.f4 false true false false) := by
  refine returnsInHanded_of_change (C := Try.checked) own started (by kernel_rfl) Try.func4
    (ChangeSpec.witness6 (enc := enc) (C := Try.checked) false ⟨#[], #[.slice none 0 0], []⟩ 8 (by kernel_rfl) (by kernel_rfl) (by kernel_rfl) (by kernel_rfl)) ?_
  intro W base args ds gs before hval0 hW hcnd _
  have hval : ∀ (j : Nat) t v, Try.f4.params[j]? = some t → args[j]? = some v → Value.okWide Try.prog W .any base t v := hval0
  have hW' := hW
  obtain ⟨p, q, hA0, hV, rfl, hfz, hnd⟩ := hW
  have hA : DataW.TrodAll enc Try.prog W 0 (fun _ => true) true Try.f4.params.toList args.toList ds p := hA0
  rw [Try.params4] at hA hval
  obtain ⟨v0, vs0, d0, ds0, p0, q0, hargs, rfl, rfl, h0, r0⟩ := trodAll_cons hA
  obtain ⟨rfl, rfl, rfl⟩ := trodAll_nil r0
  obtain rfl : args = #[v0] := by cases args; simp_all
  obtain ⟨rfl, rfl⟩ := trodVars_none hV
  obtain ⟨a0, len0, cap0, rfl⟩ := okWide_slice Try.underlying22 (hval 0 22 v0 rfl rfl)
  have k0 := h0
  have lt0 : ∀ x ∈ p0, x.block < W.heap.size := by obtain ⟨m, hm⟩ := k0; exact DataW.trod_lt m _ _ _ hm
  obtain ⟨z0, w0⟩ : ∃ zs, IsRow .u8 W a0 len0 cap0 zs := by
    obtain ⟨fuel, hf⟩ := h0
    rcases open_ints Try.underlying22 Try.underlying5 (by kernel_rfl) hf with ⟨hcs, _⟩ | ⟨x, l, c, zs, hcs, _, hl, hm, hz, _, hcell, hwz⟩
    · simp [Value.cells] at hcs
      obtain ⟨rfl, rfl, rfl⟩ := hcs
      exact ⟨[], .inl ⟨rfl, rfl, rfl, rfl⟩⟩
    · simp [Value.cells] at hcs
      obtain ⟨rfl, rfl, rfl⟩ := hcs
      exact ⟨zs, .inr ⟨_, rfl, hl, hm, by simpa using hz, hcell, hwz⟩⟩
  clear hA0 hval0
  refine (walk a0 len0 cap0 z0 W w0).mono fun e W' ⟨he, bel⟩ => ?_
  subst he
  exact ⟨_, rfl, _, _, _, [], _, [], hW', trodAll_mk1 (shut_bool Try.underlying4 _), (trodAll_cons_mk (Below.trod laidOut (by kernel_rfl) (of_decide_eq_true (by kernel_rfl)) k0 bel lt0) trodAll_mk0), rfl, bel.frame _, fun h => by cases h⟩

theorem over : Rows.fnJoinEachRow.holds Try.pinned (OpenSpec.ofChange Rows.fnJoinEachSpec) :=
  OpenClaim.holds_of_wide 4 Try.f4 rfl rfl rfl rfl rfl rfl rfl ⟨rfl, rfl, rfl, rfl, rfl⟩ rfl rfl rfl rfl rfl (by kernel_rfl) Try.func4 (by kernel_rfl)
    (of_decide_eq_true (by kernel_rfl)) (by unfold Func.isWrapper; first | (rw [if_pos (by decide +kernel)]; kernel_rfl) | (rw [if_neg (by decide +kernel)]; exact ⟨rfl, rfl⟩))
    (fun os started H enc _ => lifted os started H enc)

theorem proved : Rows.FnJoinEachSaid := over
#print axioms proved
end Go.Proofs.Ytdpaocikmijioaa.fnJoinEach
namespace Go.Proofs.Ytdpaocikmijioaa
theorem fnJoinEach_holds : Rows.FnJoinEachSaid := fnJoinEach.proved
end Go.Proofs.Ytdpaocikmijioaa
