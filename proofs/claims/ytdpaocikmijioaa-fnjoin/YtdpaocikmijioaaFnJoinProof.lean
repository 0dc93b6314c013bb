/-
  FnJoin: at every code, states that are drawn are joined in any order, however often: the same comes of it, and it is right. No conditions.
-/
import Derived.Test.YtdpaocikmijioaaRows
import Derived.Test.YtdpaocikmijioaaL3W
import Derived.Test.YtdpaocikmijioaaIStSame
import Derived.Test.YtdpaocikmijioaaIJoin
import Derived.Test.YtdpaocikmijioaaDrawB
import Derived.WalkKit
import Derived.ProofKit
import Derived.OpenShut
import Derived.ShutString
import Derived.ChangeOld
import Derived.Below
namespace Go.Proofs.Ytdpaocikmijioaa.fnJoin
open Go.ChangeShapes Go.WideShapes Go.ChangeAt Go.RowKit
open Go.ChangeMaps (open_string shut_string)
set_option linter.unusedVariables false

theorem own : ownKnob Try.prog.godebug = none := by kernel_rfl
theorem laidOut : laidOutB Try.prog = true := by kernel_rfl

/-- WHAT THE WALK IS TOLD OF A SLICE OF INTEGERS THAT CAME IN: it is nil; or it leads to a row of 'cap' cells, the numbers 'zs' (the first 'len' are its elements, the rest its spare room), each fitting its kind. -/
def IsRow (k : IntKind) (w : World) (a : Option Addr) (len cap : Nat) (zs : List Int) : Prop :=
  (a = none ∧ len = 0 ∧ cap = 0 ∧ zs = []) ∨
  ∃ x, a = some x ∧ len ≤ cap ∧ cap ≤ maxLen ∧ zs.length = cap ∧ (∀ i, i < zs.length → w.cell? (x.add i) = some (.int k (zs.getD i 0))) ∧ ∀ n ∈ zs, (Lit.int k n).wf = true

/-! ### STEP 1: THE WALK: the Go text returns true, AND WRITES NOTHING THAT WAS THERE: 'Below w.heap.size w w'' (Derived/Below.lean: '.refl', '.alloc', '.drew', '.setCell' at a new block, '.trans'). Open each 'IsRow' by 'rcases' AHEAD of 'go_enter'; part every test ahead of the walk. -/
set_option maxRecDepth 100000 in
set_option maxHeartbeats 4000000 in
theorem walk (a0 : Option Addr) (len0 cap0 : Nat) (z0 : List Int) (w : World) (w0 : IsRow .u8 w a0 len0 cap0 z0) :
    Calls Try.prog 3 #[.slice a0 len0 cap0] w fun e w' => e = .returned (.bool true) ∧ Below w.heap.size w w' := by
  obtain ⟨xs, hxl, hseg, hbd⟩ := seg_of_row w0
  subst hxl
  by_cases hbig : 1048576 < xs.length
  · clear w0 hseg hbd
    go_enter Try.func3, Try.ntmps3
    go_wp2
    go_ret
    exact ⟨rfl, Below.refl _ _⟩
  have hlen : xs.length ≤ 1048576 := by omega
  have HS0 := hide hseg
  have HD := hide hbd
  clear hseg hbd w0
  go_enter Try.func3, Try.ntmps3
  go_wp2_with fail
  refine (big_no _ _ _ _ hbig).mono ?_
  rintro e _ ⟨rfl, rfl⟩
  go_wp2_with fail
  refine (drawjoin_any _ xs _ hlen (unhide HD) (unhide HS0)).mono ?_
  rintro e w1 ⟨a1, a2, a3, a4, a5, a6, b1, b2, b3, b4, b5, b6, its, fls, jts, gls, rfl, t⟩
  have BB := hide t.bel
  have O1 := hide t.oi
  have O2 := hide t.of
  have O3 := hide t.pi
  have O4 := hide t.pf
  have NI := hide t.ni
  have NJ := hide t.nj
  have l1 := t.l1
  have l2 := t.l2
  have l3 := t.l3
  have l4 := t.l4
  have hh1 := (t.oi.rw encI_len).len.1
  have hh2 := (t.of.rw encF_len).len.1
  have hh3 := (t.pi.rw encI_len).len.1
  have hh4 := (t.pf.rw encF_len).len.1
  obtain ⟨m1, m2, m3, m4⟩ : a2 ≤ 6 ∧ a5 ≤ 6 ∧ b2 ≤ 6 ∧ b5 ≤ 6 := by omega
  clear t l1 l2 l3 l4 hh1 hh2 hh3 hh4
  go_upto_region 4 with fail
  obtain ⟨w11, hw11⟩ : ∃ W, W = ((w1.alloc (StB (.slice a1 a2 a3) (.slice a4 a5 a6))).alloc (StB (.slice b1 b2 b3) (.slice b4 b5 b6))) := ⟨_, rfl⟩
  obtain ⟨b_a, hb_a⟩ : ∃ b, b = w1.heap.size := ⟨_, rfl⟩
  obtain ⟨b_b, hb_b⟩ : ∃ b, b = w1.heap.size + 1 := ⟨_, rfl⟩
  rw [← hw11, ← hb_b, ← hb_a]
  have hsw11 := (unhide BB).size
  have bw11 : Below w1.heap.size w1 w11 := by rw [hw11]; exact ((Below.refl _ _).alloc (Nat.le_refl _) _).alloc (by simp) _
  have U_a := hide (show U3 w w11 b_a (.slice a1 a2 a3) (.slice a4 a5 a6) (its) (fls) from by rw [hw11, hb_a]; exact (U3.new hsw11 (Nat.le_refl _) (unhide O1) (unhide O2)).later ((Below.refl _ _).alloc (Nat.le_refl _) _))
  have U_b := hide (show U3 w w11 b_b (.slice b1 b2 b3) (.slice b4 b5 b6) (jts) (gls) from by rw [hw11, hb_b]; have e := U3.new (w := w) (X := w1.alloc (StB (.slice a1 a2 a3) (.slice a4 a5 a6))) (by simp; omega) (Nat.le_refl _) ((unhide O3).later ((Below.refl w1.heap.size w1).alloc (Nat.le_refl _) (StB (.slice a1 a2 a3) (.slice a4 a5 a6)))) ((unhide O4).later ((Below.refl w1.heap.size w1).alloc (Nat.le_refl _) (StB (.slice a1 a2 a3) (.slice a4 a5 a6)))); rw [show (w1.alloc (StB (.slice a1 a2 a3) (.slice a4 a5 a6))).heap.size = w1.heap.size + 1 by simp] at e; exact e)
  replace BB := hide ((unhide BB).trans (bw11.mono (unhide BB).size))
  clear bw11 hw11 hsw11 hb_a hb_b O1 O2 O3 O4
  go_wp2_with fail
  refine (tail3_any _ xs _ hlen ((unhide HS0).below (unhide BB) (Nat.le_refl _))).mono ?_
  rintro e _ ⟨⟨v', rfl, hv'⟩, rfl⟩
  have HV := hide hv'
  clear hv'
  go_wp2_with fail
  refine (drawjoin_any v' xs.tail _ (by simp; omega) (fun z hz => unhide HD z (List.mem_of_mem_tail hz)) (unhide HV)).mono ?_
  rintro e w2 ⟨d1, d2, d3, d4, d5, d6, f1, f2, f3, f4, f5, f6, dts, dls, fts, hls, rfl, t⟩
  have O1 := hide t.oi
  have O2 := hide t.of
  have O3 := hide t.pi
  have O4 := hide t.pf
  have hsd := (unhide BB).size
  have l1 := t.l1
  have l2 := t.l2
  have l3 := t.l3
  have l4 := t.l4
  have hh1 := (t.oi.rw encI_len).len.1
  have hh2 := (t.of.rw encF_len).len.1
  have hh3 := (t.pi.rw encI_len).len.1
  have hh4 := (t.pf.rw encF_len).len.1
  obtain ⟨m5, m6, m7, m8⟩ : d2 ≤ 6 ∧ d5 ≤ 6 ∧ f2 ≤ 6 ∧ f5 ≤ 6 := by omega
  have b2' := t.bel
  replace U_a := hide ((unhide U_a).later b2')
  replace U_b := hide ((unhide U_b).later b2')
  replace BB := hide ((unhide BB).trans (b2'.mono (unhide BB).size))
  clear t l1 l2 l3 l4 hh1 hh2 hh3 hh4 b2' HV
  go_upto_region 5 with fail
  obtain ⟨w12, hw12⟩ : ∃ W, W = ((w2.alloc (StB (.slice d1 d2 d3) (.slice d4 d5 d6))).alloc (StB (.slice f1 f2 f3) (.slice f4 f5 f6))) := ⟨_, rfl⟩
  obtain ⟨b_d, hb_d⟩ : ∃ b, b = w2.heap.size := ⟨_, rfl⟩
  obtain ⟨b_f, hb_f⟩ : ∃ b, b = w2.heap.size + 1 := ⟨_, rfl⟩
  rw [← hw12, ← hb_f, ← hb_d]
  have hsw12 := (unhide BB).size
  have bw12 : Below w2.heap.size w2 w12 := by rw [hw12]; exact ((Below.refl _ _).alloc (Nat.le_refl _) _).alloc (by simp) _
  have U_d := hide (show U3 w w12 b_d (.slice d1 d2 d3) (.slice d4 d5 d6) (dts) (dls) from by rw [hw12, hb_d]; exact (U3.new hsw12 hsd (unhide O1) (unhide O2)).later ((Below.refl _ _).alloc (Nat.le_refl _) _))
  have U_f := hide (show U3 w w12 b_f (.slice f1 f2 f3) (.slice f4 f5 f6) (fts) (hls) from by rw [hw12, hb_f]; have e := U3.new (w := w) (X := w2.alloc (StB (.slice d1 d2 d3) (.slice d4 d5 d6))) (by simp; omega) hsd ((unhide O3).later ((Below.refl w2.heap.size w2).alloc (Nat.le_refl _) (StB (.slice d1 d2 d3) (.slice d4 d5 d6)))) ((unhide O4).later ((Below.refl w2.heap.size w2).alloc (Nat.le_refl _) (StB (.slice d1 d2 d3) (.slice d4 d5 d6)))); rw [show (w2.alloc (StB (.slice d1 d2 d3) (.slice d4 d5 d6))).heap.size = w2.heap.size + 1 by simp] at e; exact e)
  replace U_a := hide ((unhide U_a).later bw12)
  replace U_b := hide ((unhide U_b).later bw12)
  replace BB := hide ((unhide BB).trans (bw12.mono (unhide BB).size))
  clear bw12 hw12 hsw12 hb_d hb_f O1 O2 O3 O4
  clear hsd U_f
  obtain ⟨ok, HJ⟩ : ∃ ok, Hid ((okS its fls && okS jts gls) = ok) := ⟨_, hide rfl⟩
  have HJ2 : Hid ((okS jts gls && okS its fls) = ok) := hide (by rw [Bool.and_comm]; exact unhide HJ)
  obtain ⟨z_a0, z_a1⟩ := (unhide U_a).cells
  obtain ⟨z_b0, z_b1⟩ := (unhide U_b).cells
  go_wp2_with fail
  clear z_a0 z_a1 z_b0 z_b1
  obtain ⟨n13, hn13⟩ : ∃ z, Hid ((jnI ok its fls jts gls).length = z) := ⟨_, hide rfl⟩
  obtain ⟨n14, hn14⟩ : ∃ z, Hid ((jnF ok fls gls).length = z) := ⟨_, hide rfl⟩
  have kn13 : n13 ≤ 5 := by rw [← unhide hn13]; exact jnI_len _ _ _ _ _
  have kn14 : n14 ≤ 5 := by rw [← unhide hn14]; exact jnF_len _ _ _
  have sw15 := (unhide BB).size
  refine (ijoin_any a1 a2 a3 its a4 a5 a6 fls b1 b2 b3 jts b4 b5 b6 gls ok HJ n13 n14 hn13 hn14 _ (by omega) (by omega) (by omega) (by omega) (unhide U_a).rI (unhide U_a).rF (unhide U_b).rI (unhide U_b).rF).mono ?_
  rintro e w15 ⟨jaw15, jcw15, jbw15, jdw15, rfl, o1, o2, bw15⟩
  have OA := hide o1
  have OB := hide o2
  replace U_a := hide ((unhide U_a).later bw15)
  replace U_b := hide ((unhide U_b).later bw15)
  replace U_d := hide ((unhide U_d).later bw15)
  replace BB := hide ((unhide BB).trans (bw15.mono (unhide BB).size))
  clear o1 o2 bw15
  go_upto_region 6 with fail
  obtain ⟨w16, hw16⟩ : ∃ W, W = (w15.alloc (StB (.slice jaw15 n13 jcw15) (.slice jbw15 n14 jdw15))) := ⟨_, rfl⟩
  obtain ⟨b_j, hb_j⟩ : ∃ b, b = w15.heap.size := ⟨_, rfl⟩
  rw [← hw16, ← hb_j]
  have hsw16 := (unhide BB).size
  have bw16 : Below w15.heap.size w15 w16 := by rw [hw16]; exact (Below.refl _ _).alloc (Nat.le_refl _) _
  have U_j := hide (show U3 w w16 b_j (.slice jaw15 n13 jcw15) (.slice jbw15 n14 jdw15) (jnI ok its fls jts gls) (jnF ok fls gls) from by rw [hw16, hb_j]; exact U3.new hsw16 sw15 (.inl (unhide OA)) (.inl (unhide OB)))
  replace U_a := hide ((unhide U_a).later bw16)
  replace U_b := hide ((unhide U_b).later bw16)
  replace U_d := hide ((unhide U_d).later bw16)
  replace BB := hide ((unhide BB).trans (bw16.mono (unhide BB).size))
  clear bw16 hw16 hsw16 hb_j OA OB
  clear sw15
  obtain ⟨z_b0, z_b1⟩ := (unhide U_b).cells
  obtain ⟨z_a0, z_a1⟩ := (unhide U_a).cells
  go_wp2_with fail
  clear z_b0 z_b1 z_a0 z_a1
  obtain ⟨n17, hn17⟩ : ∃ z, Hid ((jnI ok jts gls its fls).length = z) := ⟨_, hide rfl⟩
  obtain ⟨n18, hn18⟩ : ∃ z, Hid ((jnF ok gls fls).length = z) := ⟨_, hide rfl⟩
  have kn17 : n17 ≤ 5 := by rw [← unhide hn17]; exact jnI_len _ _ _ _ _
  have kn18 : n18 ≤ 5 := by rw [← unhide hn18]; exact jnF_len _ _ _
  have sw19 := (unhide BB).size
  refine (ijoin_any b1 b2 b3 jts b4 b5 b6 gls a1 a2 a3 its a4 a5 a6 fls ok HJ2 n17 n18 hn17 hn18 _ (by omega) (by omega) (by omega) (by omega) (unhide U_b).rI (unhide U_b).rF (unhide U_a).rI (unhide U_a).rF).mono ?_
  rintro e w19 ⟨jaw19, jcw19, jbw19, jdw19, rfl, o1, o2, bw19⟩
  have OA := hide o1
  have OB := hide o2
  replace U_a := hide ((unhide U_a).later bw19)
  replace U_b := hide ((unhide U_b).later bw19)
  replace U_d := hide ((unhide U_d).later bw19)
  replace U_j := hide ((unhide U_j).later bw19)
  replace BB := hide ((unhide BB).trans (bw19.mono (unhide BB).size))
  clear o1 o2 bw19
  go_upto_region 7 with fail
  obtain ⟨w20, hw20⟩ : ∃ W, W = (w19.alloc (StB (.slice jaw19 n17 jcw19) (.slice jbw19 n18 jdw19))) := ⟨_, rfl⟩
  obtain ⟨b_k, hb_k⟩ : ∃ b, b = w19.heap.size := ⟨_, rfl⟩
  rw [← hw20, ← hb_k]
  have hsw20 := (unhide BB).size
  have bw20 : Below w19.heap.size w19 w20 := by rw [hw20]; exact (Below.refl _ _).alloc (Nat.le_refl _) _
  have U_k := hide (show U3 w w20 b_k (.slice jaw19 n17 jcw19) (.slice jbw19 n18 jdw19) (jnI ok jts gls its fls) (jnF ok gls fls) from by rw [hw20, hb_k]; exact U3.new hsw20 sw19 (.inl (unhide OA)) (.inl (unhide OB)))
  replace U_a := hide ((unhide U_a).later bw20)
  replace U_b := hide ((unhide U_b).later bw20)
  replace U_d := hide ((unhide U_d).later bw20)
  replace U_j := hide ((unhide U_j).later bw20)
  replace BB := hide ((unhide BB).trans (bw20.mono (unhide BB).size))
  clear bw20 hw20 hsw20 hb_k OA OB
  clear sw19
  obtain ⟨z_a0, z_a1⟩ := (unhide U_a).cells
  obtain ⟨z_b0, z_b1⟩ := (unhide U_b).cells
  go_wp2_with fail
  clear z_a0 z_a1 z_b0 z_b1
  obtain ⟨n21, hn21⟩ : ∃ z, Hid ((jnI ok its fls jts gls).length = z) := ⟨_, hide rfl⟩
  obtain ⟨n22, hn22⟩ : ∃ z, Hid ((jnF ok fls gls).length = z) := ⟨_, hide rfl⟩
  have kn21 : n21 ≤ 5 := by rw [← unhide hn21]; exact jnI_len _ _ _ _ _
  have kn22 : n22 ≤ 5 := by rw [← unhide hn22]; exact jnF_len _ _ _
  have sw23 := (unhide BB).size
  refine (sjoin_any a1 a2 a3 its a4 a5 a6 fls b1 b2 b3 jts b4 b5 b6 gls ok HJ n21 n22 hn21 hn22 _ (by omega) (by omega) (by omega) (by omega) (unhide U_a).rI (unhide U_a).rF (unhide U_b).rI (unhide U_b).rF).mono ?_
  rintro e w23 ⟨jaw23, jcw23, jbw23, jdw23, rfl, o1, o2, bw23⟩
  have OA := hide o1
  have OB := hide o2
  replace U_a := hide ((unhide U_a).later bw23)
  replace U_b := hide ((unhide U_b).later bw23)
  replace U_d := hide ((unhide U_d).later bw23)
  replace U_j := hide ((unhide U_j).later bw23)
  replace U_k := hide ((unhide U_k).later bw23)
  replace BB := hide ((unhide BB).trans (bw23.mono (unhide BB).size))
  clear o1 o2 bw23
  go_upto_region 8 with fail
  obtain ⟨w24, hw24⟩ : ∃ W, W = (w23.alloc (StB (.slice jaw23 n21 jcw23) (.slice jbw23 n22 jdw23))) := ⟨_, rfl⟩
  obtain ⟨b_q, hb_q⟩ : ∃ b, b = w23.heap.size := ⟨_, rfl⟩
  rw [← hw24, ← hb_q]
  have hsw24 := (unhide BB).size
  have bw24 : Below w23.heap.size w23 w24 := by rw [hw24]; exact (Below.refl _ _).alloc (Nat.le_refl _) _
  have U_q := hide (show U3 w w24 b_q (.slice jaw23 n21 jcw23) (.slice jbw23 n22 jdw23) (jnI ok its fls jts gls) (jnF ok fls gls) from by rw [hw24, hb_q]; exact U3.new hsw24 sw23 (.inl (unhide OA)) (.inl (unhide OB)))
  replace U_a := hide ((unhide U_a).later bw24)
  replace U_b := hide ((unhide U_b).later bw24)
  replace U_d := hide ((unhide U_d).later bw24)
  replace U_j := hide ((unhide U_j).later bw24)
  replace U_k := hide ((unhide U_k).later bw24)
  replace BB := hide ((unhide BB).trans (bw24.mono (unhide BB).size))
  clear bw24 hw24 hsw24 hb_q OA OB
  clear sw23
  clear U_q
  cases ok
  · have e1 : n13 = 0 := (unhide hn13).symm
    have e2 : n14 = 0 := (unhide hn14).symm
    subst e1 e2
    obtain ⟨z_j0, z_j1⟩ := (unhide U_j).cells
    clear HJ HJ2
    go_wp2
    go_ret
    exact ⟨rfl, unhide BB⟩
  have hAB := unhide HJ
  rw [Bool.and_eq_true] at hAB
  have OA' := hide ((okS_iff _ _).1 hAB.1)
  have OB' := hide ((okS_iff _ _).1 hAB.2)
  clear hAB
  replace U_j := hide (show U3 w w24 b_j (.slice jaw15 n13 jcw15) (.slice jbw15 n14 jdw15) (joinI its fls jts gls) (joinF fls gls) from unhide U_j)
  replace U_k := hide (show U3 w w24 b_k (.slice jaw19 n17 jcw19) (.slice jbw19 n18 jdw19) (joinI jts gls its fls) (joinF gls fls) from unhide U_k)
  have OJ := hide ((unhide OA').join (unhide OB'))
  obtain ⟨z_j0, z_j1⟩ := (unhide U_j).cells
  obtain ⟨z_k0, z_k1⟩ := (unhide U_k).cells
  go_wp2_with fail
  clear z_j0 z_j1 z_k0 z_k1
  have HR : Hid ((decide ((joinI its fls jts gls) = (joinI jts gls its fls)) && decide ((joinF fls gls) = (joinF gls fls))) = true) := hide (by have h := (unhide OA').comm (unhide OB'); rw [← h.1, ← h.2]; simp)
  refine (isame_any jaw15 n13 jcw15 (joinI its fls jts gls) jbw15 n14 jdw15 (joinF fls gls) jaw19 n17 jcw19 (joinI jts gls its fls) jbw19 n18 jdw19 (joinF gls fls) true HR _ (by omega) (by omega) (by omega) (by omega) (unhide U_j).rI (unhide U_j).rF (unhide U_k).rI (unhide U_k).rF).mono ?_
  rintro e w25 ⟨rfl, bw25⟩
  replace U_a := hide ((unhide U_a).later bw25)
  replace U_b := hide ((unhide U_b).later bw25)
  replace U_d := hide ((unhide U_d).later bw25)
  replace U_j := hide ((unhide U_j).later bw25)
  replace U_k := hide ((unhide U_k).later bw25)
  replace BB := hide ((unhide BB).trans (bw25.mono (unhide BB).size))
  clear bw25 HR
  obtain ⟨z_j0, z_j1⟩ := (unhide U_j).cells
  go_wp2_with fail
  clear z_j0 z_j1
  have HR : Hid (okS (joinI its fls jts gls) (joinF fls gls) = true) := hide ((okS_iff _ _).2 (unhide OJ))
  refine (istateok_any jaw15 n13 jcw15 (joinI its fls jts gls) jbw15 n14 jdw15 (joinF fls gls) true HR _ (by omega) (by omega) (unhide U_j).rI (unhide U_j).rF).mono ?_
  rintro e w26 ⟨rfl, bw26⟩
  replace U_a := hide ((unhide U_a).later bw26)
  replace U_b := hide ((unhide U_b).later bw26)
  replace U_d := hide ((unhide U_d).later bw26)
  replace U_j := hide ((unhide U_j).later bw26)
  replace U_k := hide ((unhide U_k).later bw26)
  replace BB := hide ((unhide BB).trans (bw26.mono (unhide BB).size))
  clear bw26 HR
  clear U_k
  have HJ3 : Hid ((okS (joinI its fls jts gls) (joinF fls gls) && okS jts gls) = true) := hide (by rw [(okS_iff _ _).2 (unhide OJ), (okS_iff _ _).2 (unhide OB')]; rfl)
  have HJ4 : Hid ((okS its fls && okS its fls) = true) := hide (by rw [(okS_iff _ _).2 (unhide OA')]; rfl)
  obtain ⟨z_j0, z_j1⟩ := (unhide U_j).cells
  obtain ⟨z_b0, z_b1⟩ := (unhide U_b).cells
  go_wp2_with fail
  clear z_j0 z_j1 z_b0 z_b1
  obtain ⟨n27, hn27⟩ : ∃ z, Hid ((jnI true (joinI its fls jts gls) (joinF fls gls) jts gls).length = z) := ⟨_, hide rfl⟩
  obtain ⟨n28, hn28⟩ : ∃ z, Hid ((jnF true (joinF fls gls) gls).length = z) := ⟨_, hide rfl⟩
  have kn27 : n27 ≤ 5 := by rw [← unhide hn27]; exact jnI_len _ _ _ _ _
  have kn28 : n28 ≤ 5 := by rw [← unhide hn28]; exact jnF_len _ _ _
  have sw29 := (unhide BB).size
  refine (ijoin_any jaw15 n13 jcw15 (joinI its fls jts gls) jbw15 n14 jdw15 (joinF fls gls) b1 b2 b3 jts b4 b5 b6 gls true HJ3 n27 n28 hn27 hn28 _ (by omega) (by omega) (by omega) (by omega) (unhide U_j).rI (unhide U_j).rF (unhide U_b).rI (unhide U_b).rF).mono ?_
  rintro e w29 ⟨jaw29, jcw29, jbw29, jdw29, rfl, o1, o2, bw29⟩
  have OA := hide o1
  have OB := hide o2
  replace U_a := hide ((unhide U_a).later bw29)
  replace U_b := hide ((unhide U_b).later bw29)
  replace U_d := hide ((unhide U_d).later bw29)
  replace U_j := hide ((unhide U_j).later bw29)
  replace BB := hide ((unhide BB).trans (bw29.mono (unhide BB).size))
  clear o1 o2 bw29
  go_upto_region 15 with fail
  obtain ⟨w30, hw30⟩ : ∃ W, W = (w29.alloc (StB (.slice jaw29 n27 jcw29) (.slice jbw29 n28 jdw29))) := ⟨_, rfl⟩
  obtain ⟨b_m, hb_m⟩ : ∃ b, b = w29.heap.size := ⟨_, rfl⟩
  rw [← hw30, ← hb_m]
  have hsw30 := (unhide BB).size
  have bw30 : Below w29.heap.size w29 w30 := by rw [hw30]; exact (Below.refl _ _).alloc (Nat.le_refl _) _
  have U_m := hide (show U3 w w30 b_m (.slice jaw29 n27 jcw29) (.slice jbw29 n28 jdw29) (joinI (joinI its fls jts gls) (joinF fls gls) jts gls) (joinF (joinF fls gls) gls) from by rw [hw30, hb_m]; exact U3.new hsw30 sw29 (.inl (unhide OA)) (.inl (unhide OB)))
  replace U_a := hide ((unhide U_a).later bw30)
  replace U_b := hide ((unhide U_b).later bw30)
  replace U_d := hide ((unhide U_d).later bw30)
  replace U_j := hide ((unhide U_j).later bw30)
  replace BB := hide ((unhide BB).trans (bw30.mono (unhide BB).size))
  clear bw30 hw30 hsw30 hb_m OA OB
  clear sw29
  obtain ⟨z_a0, z_a1⟩ := (unhide U_a).cells
  go_wp2_with fail
  clear z_a0 z_a1
  obtain ⟨n31, hn31⟩ : ∃ z, Hid ((jnI true its fls its fls).length = z) := ⟨_, hide rfl⟩
  obtain ⟨n32, hn32⟩ : ∃ z, Hid ((jnF true fls fls).length = z) := ⟨_, hide rfl⟩
  have kn31 : n31 ≤ 5 := by rw [← unhide hn31]; exact jnI_len _ _ _ _ _
  have kn32 : n32 ≤ 5 := by rw [← unhide hn32]; exact jnF_len _ _ _
  have sw33 := (unhide BB).size
  refine (ijoin_any a1 a2 a3 its a4 a5 a6 fls a1 a2 a3 its a4 a5 a6 fls true HJ4 n31 n32 hn31 hn32 _ (by omega) (by omega) (by omega) (by omega) (unhide U_a).rI (unhide U_a).rF (unhide U_a).rI (unhide U_a).rF).mono ?_
  rintro e w33 ⟨jaw33, jcw33, jbw33, jdw33, rfl, o1, o2, bw33⟩
  have OA := hide o1
  have OB := hide o2
  replace U_a := hide ((unhide U_a).later bw33)
  replace U_b := hide ((unhide U_b).later bw33)
  replace U_d := hide ((unhide U_d).later bw33)
  replace U_j := hide ((unhide U_j).later bw33)
  replace U_m := hide ((unhide U_m).later bw33)
  replace BB := hide ((unhide BB).trans (bw33.mono (unhide BB).size))
  clear o1 o2 bw33
  go_upto_region 16 with fail
  obtain ⟨w34, hw34⟩ : ∃ W, W = (w33.alloc (StB (.slice jaw33 n31 jcw33) (.slice jbw33 n32 jdw33))) := ⟨_, rfl⟩
  obtain ⟨b_s, hb_s⟩ : ∃ b, b = w33.heap.size := ⟨_, rfl⟩
  rw [← hw34, ← hb_s]
  have hsw34 := (unhide BB).size
  have bw34 : Below w33.heap.size w33 w34 := by rw [hw34]; exact (Below.refl _ _).alloc (Nat.le_refl _) _
  have U_s := hide (show U3 w w34 b_s (.slice jaw33 n31 jcw33) (.slice jbw33 n32 jdw33) (joinI its fls its fls) (joinF fls fls) from by rw [hw34, hb_s]; exact U3.new hsw34 sw33 (.inl (unhide OA)) (.inl (unhide OB)))
  replace U_a := hide ((unhide U_a).later bw34)
  replace U_b := hide ((unhide U_b).later bw34)
  replace U_d := hide ((unhide U_d).later bw34)
  replace U_j := hide ((unhide U_j).later bw34)
  replace U_m := hide ((unhide U_m).later bw34)
  replace BB := hide ((unhide BB).trans (bw34.mono (unhide BB).size))
  clear bw34 hw34 hsw34 hb_s OA OB
  clear sw33
  obtain ⟨z_m0, z_m1⟩ := (unhide U_m).cells
  obtain ⟨z_j0, z_j1⟩ := (unhide U_j).cells
  go_wp2_with fail
  clear z_m0 z_m1 z_j0 z_j1
  have HR : Hid ((decide ((joinI (joinI its fls jts gls) (joinF fls gls) jts gls) = (joinI its fls jts gls)) && decide ((joinF (joinF fls gls) gls) = (joinF fls gls))) = true) := hide (by have h := (unhide OA').again (unhide OB'); rw [h.1, h.2]; simp)
  refine (isame_any jaw29 n27 jcw29 (joinI (joinI its fls jts gls) (joinF fls gls) jts gls) jbw29 n28 jdw29 (joinF (joinF fls gls) gls) jaw15 n13 jcw15 (joinI its fls jts gls) jbw15 n14 jdw15 (joinF fls gls) true HR _ (by omega) (by omega) (by omega) (by omega) (unhide U_m).rI (unhide U_m).rF (unhide U_j).rI (unhide U_j).rF).mono ?_
  rintro e w35 ⟨rfl, bw35⟩
  replace U_a := hide ((unhide U_a).later bw35)
  replace U_b := hide ((unhide U_b).later bw35)
  replace U_d := hide ((unhide U_d).later bw35)
  replace U_j := hide ((unhide U_j).later bw35)
  replace U_m := hide ((unhide U_m).later bw35)
  replace U_s := hide ((unhide U_s).later bw35)
  replace BB := hide ((unhide BB).trans (bw35.mono (unhide BB).size))
  clear bw35 HR
  obtain ⟨z_s0, z_s1⟩ := (unhide U_s).cells
  obtain ⟨z_a0, z_a1⟩ := (unhide U_a).cells
  go_wp2_with fail
  clear z_s0 z_s1 z_a0 z_a1
  have HR : Hid ((decide ((joinI its fls its fls) = its) && decide ((joinF fls fls) = fls)) = true) := hide (by have h := (unhide OA').twice; rw [h.1, h.2]; simp)
  refine (isame_any jaw33 n31 jcw33 (joinI its fls its fls) jbw33 n32 jdw33 (joinF fls fls) a1 a2 a3 its a4 a5 a6 fls true HR _ (by omega) (by omega) (by omega) (by omega) (unhide U_s).rI (unhide U_s).rF (unhide U_a).rI (unhide U_a).rF).mono ?_
  rintro e w36 ⟨rfl, bw36⟩
  replace U_a := hide ((unhide U_a).later bw36)
  replace U_b := hide ((unhide U_b).later bw36)
  replace U_d := hide ((unhide U_d).later bw36)
  replace U_j := hide ((unhide U_j).later bw36)
  replace U_m := hide ((unhide U_m).later bw36)
  replace U_s := hide ((unhide U_s).later bw36)
  replace BB := hide ((unhide BB).trans (bw36.mono (unhide BB).size))
  clear bw36 HR
  clear U_m U_s
  obtain ⟨okD, HD1⟩ : ∃ okD, Hid (okS dts dls = okD) := ⟨_, hide rfl⟩
  have HJ5 : Hid ((okS (joinI its fls jts gls) (joinF fls gls) && okS dts dls) = okD) := hide (by rw [(okS_iff _ _).2 (unhide OJ), unhide HD1]; rfl)
  have HJ6 : Hid ((okS jts gls && okS dts dls) = okD) := hide (by rw [(okS_iff _ _).2 (unhide OB'), unhide HD1]; rfl)
  cases okD
  · have HJ7 : Hid ((okS its fls && okS [] []) = true) := hide (by rw [(okS_iff _ _).2 (unhide OA')]; rfl)
    obtain ⟨z_j0, z_j1⟩ := (unhide U_j).cells
    obtain ⟨z_d0, z_d1⟩ := (unhide U_d).cells
    go_wp2_with fail
    clear z_j0 z_j1 z_d0 z_d1
    obtain ⟨n37, hn37⟩ : ∃ z, Hid ((jnI false (joinI its fls jts gls) (joinF fls gls) dts dls).length = z) := ⟨_, hide rfl⟩
    obtain ⟨n38, hn38⟩ : ∃ z, Hid ((jnF false (joinF fls gls) dls).length = z) := ⟨_, hide rfl⟩
    have kn37 : n37 ≤ 5 := by rw [← unhide hn37]; exact jnI_len _ _ _ _ _
    have kn38 : n38 ≤ 5 := by rw [← unhide hn38]; exact jnF_len _ _ _
    have sw39 := (unhide BB).size
    refine (ijoin_any jaw15 n13 jcw15 (joinI its fls jts gls) jbw15 n14 jdw15 (joinF fls gls) d1 d2 d3 dts d4 d5 d6 dls false HJ5 n37 n38 hn37 hn38 _ (by omega) (by omega) (by omega) (by omega) (unhide U_j).rI (unhide U_j).rF (unhide U_d).rI (unhide U_d).rF).mono ?_
    rintro e w39 ⟨jaw39, jcw39, jbw39, jdw39, rfl, o1, o2, bw39⟩
    have OA := hide o1
    have OB := hide o2
    replace U_a := hide ((unhide U_a).later bw39)
    replace U_b := hide ((unhide U_b).later bw39)
    replace U_d := hide ((unhide U_d).later bw39)
    replace U_j := hide ((unhide U_j).later bw39)
    replace BB := hide ((unhide BB).trans (bw39.mono (unhide BB).size))
    clear o1 o2 bw39
    go_upto_region 19 with fail
    obtain ⟨w40, hw40⟩ : ∃ W, W = (w39.alloc (StB (.slice jaw39 n37 jcw39) (.slice jbw39 n38 jdw39))) := ⟨_, rfl⟩
    obtain ⟨b_x, hb_x⟩ : ∃ b, b = w39.heap.size := ⟨_, rfl⟩
    rw [← hw40, ← hb_x]
    have hsw40 := (unhide BB).size
    have bw40 : Below w39.heap.size w39 w40 := by rw [hw40]; exact (Below.refl _ _).alloc (Nat.le_refl _) _
    have U_x := hide (show U3 w w40 b_x (.slice jaw39 n37 jcw39) (.slice jbw39 n38 jdw39) ([]) ([]) from by rw [hw40, hb_x]; exact U3.new hsw40 sw39 (.inl (unhide OA)) (.inl (unhide OB)))
    replace U_a := hide ((unhide U_a).later bw40)
    replace U_b := hide ((unhide U_b).later bw40)
    replace U_d := hide ((unhide U_d).later bw40)
    replace U_j := hide ((unhide U_j).later bw40)
    replace BB := hide ((unhide BB).trans (bw40.mono (unhide BB).size))
    clear bw40 hw40 hsw40 hb_x OA OB
    clear sw39
    obtain ⟨z_b0, z_b1⟩ := (unhide U_b).cells
    obtain ⟨z_d0, z_d1⟩ := (unhide U_d).cells
    go_wp2_with fail
    clear z_b0 z_b1 z_d0 z_d1
    obtain ⟨n41, hn41⟩ : ∃ z, Hid ((jnI false jts gls dts dls).length = z) := ⟨_, hide rfl⟩
    obtain ⟨n42, hn42⟩ : ∃ z, Hid ((jnF false gls dls).length = z) := ⟨_, hide rfl⟩
    have kn41 : n41 ≤ 5 := by rw [← unhide hn41]; exact jnI_len _ _ _ _ _
    have kn42 : n42 ≤ 5 := by rw [← unhide hn42]; exact jnF_len _ _ _
    have sw43 := (unhide BB).size
    refine (ijoin_any b1 b2 b3 jts b4 b5 b6 gls d1 d2 d3 dts d4 d5 d6 dls false HJ6 n41 n42 hn41 hn42 _ (by omega) (by omega) (by omega) (by omega) (unhide U_b).rI (unhide U_b).rF (unhide U_d).rI (unhide U_d).rF).mono ?_
    rintro e w43 ⟨jaw43, jcw43, jbw43, jdw43, rfl, o1, o2, bw43⟩
    have OA := hide o1
    have OB := hide o2
    replace U_a := hide ((unhide U_a).later bw43)
    replace U_b := hide ((unhide U_b).later bw43)
    replace U_d := hide ((unhide U_d).later bw43)
    replace U_j := hide ((unhide U_j).later bw43)
    replace U_x := hide ((unhide U_x).later bw43)
    replace BB := hide ((unhide BB).trans (bw43.mono (unhide BB).size))
    clear o1 o2 bw43
    go_upto_region 20 with fail
    obtain ⟨w44, hw44⟩ : ∃ W, W = (w43.alloc (StB (.slice jaw43 n41 jcw43) (.slice jbw43 n42 jdw43))) := ⟨_, rfl⟩
    obtain ⟨b_y, hb_y⟩ : ∃ b, b = w43.heap.size := ⟨_, rfl⟩
    rw [← hw44, ← hb_y]
    have hsw44 := (unhide BB).size
    have bw44 : Below w43.heap.size w43 w44 := by rw [hw44]; exact (Below.refl _ _).alloc (Nat.le_refl _) _
    have U_y := hide (show U3 w w44 b_y (.slice jaw43 n41 jcw43) (.slice jbw43 n42 jdw43) ([]) ([]) from by rw [hw44, hb_y]; exact U3.new hsw44 sw43 (.inl (unhide OA)) (.inl (unhide OB)))
    replace U_a := hide ((unhide U_a).later bw44)
    replace U_b := hide ((unhide U_b).later bw44)
    replace U_d := hide ((unhide U_d).later bw44)
    replace U_j := hide ((unhide U_j).later bw44)
    replace U_x := hide ((unhide U_x).later bw44)
    replace BB := hide ((unhide BB).trans (bw44.mono (unhide BB).size))
    clear bw44 hw44 hsw44 hb_y OA OB
    clear sw43
    obtain ⟨z_a0, z_a1⟩ := (unhide U_a).cells
    obtain ⟨z_y0, z_y1⟩ := (unhide U_y).cells
    go_wp2_with fail
    clear z_a0 z_a1 z_y0 z_y1
    obtain ⟨n45, hn45⟩ : ∃ z, Hid ((jnI true its fls [] []).length = z) := ⟨_, hide rfl⟩
    obtain ⟨n46, hn46⟩ : ∃ z, Hid ((jnF true fls []).length = z) := ⟨_, hide rfl⟩
    have kn45 : n45 ≤ 5 := by rw [← unhide hn45]; exact jnI_len _ _ _ _ _
    have kn46 : n46 ≤ 5 := by rw [← unhide hn46]; exact jnF_len _ _ _
    have sw47 := (unhide BB).size
    refine (ijoin_any a1 a2 a3 its a4 a5 a6 fls jaw43 n41 jcw43 [] jbw43 n42 jdw43 [] true HJ7 n45 n46 hn45 hn46 _ (by omega) (by omega) (by omega) (by omega) (unhide U_a).rI (unhide U_a).rF (unhide U_y).rI (unhide U_y).rF).mono ?_
    rintro e w47 ⟨jaw47, jcw47, jbw47, jdw47, rfl, o1, o2, bw47⟩
    have OA := hide o1
    have OB := hide o2
    replace U_a := hide ((unhide U_a).later bw47)
    replace U_b := hide ((unhide U_b).later bw47)
    replace U_d := hide ((unhide U_d).later bw47)
    replace U_j := hide ((unhide U_j).later bw47)
    replace U_x := hide ((unhide U_x).later bw47)
    replace U_y := hide ((unhide U_y).later bw47)
    replace BB := hide ((unhide BB).trans (bw47.mono (unhide BB).size))
    clear o1 o2 bw47
    go_upto_region 21 with fail
    obtain ⟨w48, hw48⟩ : ∃ W, W = (w47.alloc (StB (.slice jaw47 n45 jcw47) (.slice jbw47 n46 jdw47))) := ⟨_, rfl⟩
    obtain ⟨b_z, hb_z⟩ : ∃ b, b = w47.heap.size := ⟨_, rfl⟩
    rw [← hw48, ← hb_z]
    have hsw48 := (unhide BB).size
    have bw48 : Below w47.heap.size w47 w48 := by rw [hw48]; exact (Below.refl _ _).alloc (Nat.le_refl _) _
    have U_z := hide (show U3 w w48 b_z (.slice jaw47 n45 jcw47) (.slice jbw47 n46 jdw47) (joinI its fls [] []) (joinF fls []) from by rw [hw48, hb_z]; exact U3.new hsw48 sw47 (.inl (unhide OA)) (.inl (unhide OB)))
    replace U_a := hide ((unhide U_a).later bw48)
    replace U_b := hide ((unhide U_b).later bw48)
    replace U_d := hide ((unhide U_d).later bw48)
    replace U_j := hide ((unhide U_j).later bw48)
    replace U_x := hide ((unhide U_x).later bw48)
    replace U_y := hide ((unhide U_y).later bw48)
    replace BB := hide ((unhide BB).trans (bw48.mono (unhide BB).size))
    clear bw48 hw48 hsw48 hb_z OA OB
    clear sw47
    go_wp2
    go_ret
    exact ⟨rfl, unhide BB⟩
  have OD := hide ((okS_iff _ _).1 (unhide HD1))
  have HJ7 : Hid ((okS its fls && okS (joinI jts gls dts dls) (joinF gls dls)) = true) := hide (by rw [(okS_iff _ _).2 (unhide OA'), (okS_iff _ _).2 ((unhide OB').join (unhide OD))]; rfl)
  obtain ⟨z_j0, z_j1⟩ := (unhide U_j).cells
  obtain ⟨z_d0, z_d1⟩ := (unhide U_d).cells
  go_wp2_with fail
  clear z_j0 z_j1 z_d0 z_d1
  obtain ⟨n49, hn49⟩ : ∃ z, Hid ((jnI true (joinI its fls jts gls) (joinF fls gls) dts dls).length = z) := ⟨_, hide rfl⟩
  obtain ⟨n50, hn50⟩ : ∃ z, Hid ((jnF true (joinF fls gls) dls).length = z) := ⟨_, hide rfl⟩
  have kn49 : n49 ≤ 5 := by rw [← unhide hn49]; exact jnI_len _ _ _ _ _
  have kn50 : n50 ≤ 5 := by rw [← unhide hn50]; exact jnF_len _ _ _
  have sw51 := (unhide BB).size
  refine (ijoin_any jaw15 n13 jcw15 (joinI its fls jts gls) jbw15 n14 jdw15 (joinF fls gls) d1 d2 d3 dts d4 d5 d6 dls true HJ5 n49 n50 hn49 hn50 _ (by omega) (by omega) (by omega) (by omega) (unhide U_j).rI (unhide U_j).rF (unhide U_d).rI (unhide U_d).rF).mono ?_
  rintro e w51 ⟨jaw51, jcw51, jbw51, jdw51, rfl, o1, o2, bw51⟩
  have OA := hide o1
  have OB := hide o2
  replace U_a := hide ((unhide U_a).later bw51)
  replace U_b := hide ((unhide U_b).later bw51)
  replace U_d := hide ((unhide U_d).later bw51)
  replace U_j := hide ((unhide U_j).later bw51)
  replace BB := hide ((unhide BB).trans (bw51.mono (unhide BB).size))
  clear o1 o2 bw51
  go_upto_region 19 with fail
  obtain ⟨w52, hw52⟩ : ∃ W, W = (w51.alloc (StB (.slice jaw51 n49 jcw51) (.slice jbw51 n50 jdw51))) := ⟨_, rfl⟩
  obtain ⟨b_x, hb_x⟩ : ∃ b, b = w51.heap.size := ⟨_, rfl⟩
  rw [← hw52, ← hb_x]
  have hsw52 := (unhide BB).size
  have bw52 : Below w51.heap.size w51 w52 := by rw [hw52]; exact (Below.refl _ _).alloc (Nat.le_refl _) _
  have U_x := hide (show U3 w w52 b_x (.slice jaw51 n49 jcw51) (.slice jbw51 n50 jdw51) (joinI (joinI its fls jts gls) (joinF fls gls) dts dls) (joinF (joinF fls gls) dls) from by rw [hw52, hb_x]; exact U3.new hsw52 sw51 (.inl (unhide OA)) (.inl (unhide OB)))
  replace U_a := hide ((unhide U_a).later bw52)
  replace U_b := hide ((unhide U_b).later bw52)
  replace U_d := hide ((unhide U_d).later bw52)
  replace U_j := hide ((unhide U_j).later bw52)
  replace BB := hide ((unhide BB).trans (bw52.mono (unhide BB).size))
  clear bw52 hw52 hsw52 hb_x OA OB
  clear sw51
  obtain ⟨z_b0, z_b1⟩ := (unhide U_b).cells
  obtain ⟨z_d0, z_d1⟩ := (unhide U_d).cells
  go_wp2_with fail
  clear z_b0 z_b1 z_d0 z_d1
  obtain ⟨n53, hn53⟩ : ∃ z, Hid ((jnI true jts gls dts dls).length = z) := ⟨_, hide rfl⟩
  obtain ⟨n54, hn54⟩ : ∃ z, Hid ((jnF true gls dls).length = z) := ⟨_, hide rfl⟩
  have kn53 : n53 ≤ 5 := by rw [← unhide hn53]; exact jnI_len _ _ _ _ _
  have kn54 : n54 ≤ 5 := by rw [← unhide hn54]; exact jnF_len _ _ _
  have sw55 := (unhide BB).size
  refine (ijoin_any b1 b2 b3 jts b4 b5 b6 gls d1 d2 d3 dts d4 d5 d6 dls true HJ6 n53 n54 hn53 hn54 _ (by omega) (by omega) (by omega) (by omega) (unhide U_b).rI (unhide U_b).rF (unhide U_d).rI (unhide U_d).rF).mono ?_
  rintro e w55 ⟨jaw55, jcw55, jbw55, jdw55, rfl, o1, o2, bw55⟩
  have OA := hide o1
  have OB := hide o2
  replace U_a := hide ((unhide U_a).later bw55)
  replace U_b := hide ((unhide U_b).later bw55)
  replace U_d := hide ((unhide U_d).later bw55)
  replace U_j := hide ((unhide U_j).later bw55)
  replace U_x := hide ((unhide U_x).later bw55)
  replace BB := hide ((unhide BB).trans (bw55.mono (unhide BB).size))
  clear o1 o2 bw55
  go_upto_region 20 with fail
  obtain ⟨w56, hw56⟩ : ∃ W, W = (w55.alloc (StB (.slice jaw55 n53 jcw55) (.slice jbw55 n54 jdw55))) := ⟨_, rfl⟩
  obtain ⟨b_y, hb_y⟩ : ∃ b, b = w55.heap.size := ⟨_, rfl⟩
  rw [← hw56, ← hb_y]
  have hsw56 := (unhide BB).size
  have bw56 : Below w55.heap.size w55 w56 := by rw [hw56]; exact (Below.refl _ _).alloc (Nat.le_refl _) _
  have U_y := hide (show U3 w w56 b_y (.slice jaw55 n53 jcw55) (.slice jbw55 n54 jdw55) (joinI jts gls dts dls) (joinF gls dls) from by rw [hw56, hb_y]; exact U3.new hsw56 sw55 (.inl (unhide OA)) (.inl (unhide OB)))
  replace U_a := hide ((unhide U_a).later bw56)
  replace U_b := hide ((unhide U_b).later bw56)
  replace U_d := hide ((unhide U_d).later bw56)
  replace U_j := hide ((unhide U_j).later bw56)
  replace U_x := hide ((unhide U_x).later bw56)
  replace BB := hide ((unhide BB).trans (bw56.mono (unhide BB).size))
  clear bw56 hw56 hsw56 hb_y OA OB
  clear sw55
  obtain ⟨z_a0, z_a1⟩ := (unhide U_a).cells
  obtain ⟨z_y0, z_y1⟩ := (unhide U_y).cells
  go_wp2_with fail
  clear z_a0 z_a1 z_y0 z_y1
  obtain ⟨n57, hn57⟩ : ∃ z, Hid ((jnI true its fls (joinI jts gls dts dls) (joinF gls dls)).length = z) := ⟨_, hide rfl⟩
  obtain ⟨n58, hn58⟩ : ∃ z, Hid ((jnF true fls (joinF gls dls)).length = z) := ⟨_, hide rfl⟩
  have kn57 : n57 ≤ 5 := by rw [← unhide hn57]; exact jnI_len _ _ _ _ _
  have kn58 : n58 ≤ 5 := by rw [← unhide hn58]; exact jnF_len _ _ _
  have sw59 := (unhide BB).size
  refine (ijoin_any a1 a2 a3 its a4 a5 a6 fls jaw55 n53 jcw55 (joinI jts gls dts dls) jbw55 n54 jdw55 (joinF gls dls) true HJ7 n57 n58 hn57 hn58 _ (by omega) (by omega) (by omega) (by omega) (unhide U_a).rI (unhide U_a).rF (unhide U_y).rI (unhide U_y).rF).mono ?_
  rintro e w59 ⟨jaw59, jcw59, jbw59, jdw59, rfl, o1, o2, bw59⟩
  have OA := hide o1
  have OB := hide o2
  replace U_a := hide ((unhide U_a).later bw59)
  replace U_b := hide ((unhide U_b).later bw59)
  replace U_d := hide ((unhide U_d).later bw59)
  replace U_j := hide ((unhide U_j).later bw59)
  replace U_x := hide ((unhide U_x).later bw59)
  replace U_y := hide ((unhide U_y).later bw59)
  replace BB := hide ((unhide BB).trans (bw59.mono (unhide BB).size))
  clear o1 o2 bw59
  go_upto_region 21 with fail
  obtain ⟨w60, hw60⟩ : ∃ W, W = (w59.alloc (StB (.slice jaw59 n57 jcw59) (.slice jbw59 n58 jdw59))) := ⟨_, rfl⟩
  obtain ⟨b_z, hb_z⟩ : ∃ b, b = w59.heap.size := ⟨_, rfl⟩
  rw [← hw60, ← hb_z]
  have hsw60 := (unhide BB).size
  have bw60 : Below w59.heap.size w59 w60 := by rw [hw60]; exact (Below.refl _ _).alloc (Nat.le_refl _) _
  have U_z := hide (show U3 w w60 b_z (.slice jaw59 n57 jcw59) (.slice jbw59 n58 jdw59) (joinI its fls (joinI jts gls dts dls) (joinF gls dls)) (joinF fls (joinF gls dls)) from by rw [hw60, hb_z]; exact U3.new hsw60 sw59 (.inl (unhide OA)) (.inl (unhide OB)))
  replace U_a := hide ((unhide U_a).later bw60)
  replace U_b := hide ((unhide U_b).later bw60)
  replace U_d := hide ((unhide U_d).later bw60)
  replace U_j := hide ((unhide U_j).later bw60)
  replace U_x := hide ((unhide U_x).later bw60)
  replace U_y := hide ((unhide U_y).later bw60)
  replace BB := hide ((unhide BB).trans (bw60.mono (unhide BB).size))
  clear bw60 hw60 hsw60 hb_z OA OB
  clear sw59
  obtain ⟨z_x0, z_x1⟩ := (unhide U_x).cells
  obtain ⟨z_z0, z_z1⟩ := (unhide U_z).cells
  go_wp2_with fail
  clear z_x0 z_x1 z_z0 z_z1
  have HR : Hid ((decide ((joinI (joinI its fls jts gls) (joinF fls gls) dts dls) = (joinI its fls (joinI jts gls dts dls) (joinF gls dls))) && decide ((joinF (joinF fls gls) dls) = (joinF fls (joinF gls dls)))) = true) := hide (by have h := (unhide OA').assoc (unhide OB') (unhide OD); rw [h.1, h.2]; simp)
  refine (isame_any jaw51 n49 jcw51 (joinI (joinI its fls jts gls) (joinF fls gls) dts dls) jbw51 n50 jdw51 (joinF (joinF fls gls) dls) jaw59 n57 jcw59 (joinI its fls (joinI jts gls dts dls) (joinF gls dls)) jbw59 n58 jdw59 (joinF fls (joinF gls dls)) true HR _ (by omega) (by omega) (by omega) (by omega) (unhide U_x).rI (unhide U_x).rF (unhide U_z).rI (unhide U_z).rF).mono ?_
  rintro e w61 ⟨rfl, bw61⟩
  replace U_a := hide ((unhide U_a).later bw61)
  replace U_b := hide ((unhide U_b).later bw61)
  replace U_d := hide ((unhide U_d).later bw61)
  replace U_j := hide ((unhide U_j).later bw61)
  replace U_x := hide ((unhide U_x).later bw61)
  replace U_y := hide ((unhide U_y).later bw61)
  replace U_z := hide ((unhide U_z).later bw61)
  replace BB := hide ((unhide BB).trans (bw61.mono (unhide BB).size))
  clear bw61 HR
  go_wp2
  go_ret
  exact ⟨rfl, unhide BB⟩

/-! ### THE ROW's STEP: WRITTEN OUT: LEAVE IT -/
set_option maxRecDepth 100000 in
theorem lifted (os : Os) (started : os.Started) (H : Type) (enc : TypeId × Value → H) :
    ReturnsInHanded {} Try.checked os 3 .any (Rows.fnJoinSpec.pre6 enc Try.prog Try.f3 Rows.fnJoinRow.domain false) (Rows.fnJoinSpec.post enc Try.prog Try.f3 false true false false) := by
  refine returnsInHanded_of_change (C := Try.checked) own started (by kernel_rfl) Try.func3
    (ChangeSpec.witness6 (enc := enc) (C := Try.checked) false ⟨#[], #[.slice none 0 0], []⟩ 8 (by kernel_rfl) (by kernel_rfl) (by kernel_rfl) (by kernel_rfl)) ?_
  intro W base args ds gs before hval0 hW hcnd _
  have hval : ∀ (j : Nat) t v, Try.f3.params[j]? = some t → args[j]? = some v → Value.okWide Try.prog W .any base t v := hval0
  have hW' := hW
  obtain ⟨p, q, hA0, hV, rfl, hfz, hnd⟩ := hW
  have hA : DataW.TrodAll enc Try.prog W 0 (fun _ => true) true Try.f3.params.toList args.toList ds p := hA0
  rw [Try.params3] at hA hval
  obtain ⟨v0, vs0, d0, ds0, p0, q0, hargs, rfl, rfl, h0, r0⟩ := trodAll_cons hA
  obtain ⟨rfl, rfl, rfl⟩ := trodAll_nil r0
  obtain rfl : args = #[v0] := by cases args; simp_all
  obtain ⟨rfl, rfl⟩ := trodVars_none hV
  obtain ⟨a0, len0, cap0, rfl⟩ := okWide_slice Try.underlying22 (hval 0 22 v0 rfl rfl)
  have k0 := h0
  have lt0 : ∀ x ∈ p0, x.block < W.heap.size := by obtain ⟨m, hm⟩ := k0; exact DataW.trod_lt m _ _ _ hm
  obtain ⟨z0, w0⟩ : ∃ zs, IsRow .u8 W a0 len0 cap0 zs := by
    obtain ⟨fuel, hf⟩ := h0
    rcases open_ints Try.underlying22 Try.underlying5 (by kernel_rfl) hf with ⟨hcs, _⟩ | ⟨x, l, c, zs, hcs, _, hl, hm, hz, _, hcell, hwz⟩
    · simp [Value.cells] at hcs
      obtain ⟨rfl, rfl, rfl⟩ := hcs
      exact ⟨[], .inl ⟨rfl, rfl, rfl, rfl⟩⟩
    · simp [Value.cells] at hcs
      obtain ⟨rfl, rfl, rfl⟩ := hcs
      exact ⟨zs, .inr ⟨_, rfl, hl, hm, by simpa using hz, hcell, hwz⟩⟩
  clear hA0 hval0
  refine (walk a0 len0 cap0 z0 W w0).mono fun e W' ⟨he, bel⟩ => ?_
  subst he
  exact ⟨_, rfl, _, _, _, [], _, [], hW', trodAll_mk1 (shut_bool Try.underlying4 _), (trodAll_cons_mk (Below.trod laidOut (by kernel_rfl) (of_decide_eq_true (by kernel_rfl)) k0 bel lt0) trodAll_mk0), rfl, bel.frame _, fun h => by cases h⟩

theorem over : Rows.fnJoinRow.holds Try.pinned (OpenSpec.ofChange Rows.fnJoinSpec) :=
  OpenClaim.holds_of_wide 3 Try.f3 rfl rfl rfl rfl rfl rfl rfl ⟨rfl, rfl, rfl, rfl, rfl⟩ rfl rfl rfl rfl rfl (by kernel_rfl) Try.func3 (by kernel_rfl)
    (of_decide_eq_true (by kernel_rfl)) (by unfold Func.isWrapper; first | (rw [if_pos (by decide +kernel)]; kernel_rfl) | (rw [if_neg (by decide +kernel)]; exact ⟨rfl, rfl⟩))
    (fun os started H enc _ => lifted os started H enc)

theorem proved : Rows.FnJoinSaid := over
#print axioms proved
end Go.Proofs.Ytdpaocikmijioaa.fnJoin
namespace Go.Proofs.Ytdpaocikmijioaa
theorem fnJoin_holds : Rows.FnJoinSaid := fnJoin.proved
end Go.Proofs.Ytdpaocikmijioaa
