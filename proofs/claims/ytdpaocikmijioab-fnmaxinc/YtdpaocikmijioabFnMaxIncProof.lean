/-
  At the greatest count nobody can join any more, and nothing turns; for every code, by the statement given.
-/
import Derived.Test.YtdpaocikmijioabRows
import Derived.Test.YtdpaocikmijioabL5
import Derived.Test.YtdpaocikmijioabVwL
import Derived.Test.YtdpaocikmijioabMax
import Derived.Test.YtdpaocikmijioabSyT
import Derived.Test.YtdpaocikmijioabDrawB
import Derived.WalkKit
import Derived.ProofKit
import Derived.OpenShut
import Derived.ShutString
import Derived.ChangeOld
import Derived.Below
namespace Go.Proofs.Ytdpaocikmijioab.fnMaxInc
open Go.ChangeShapes Go.WideShapes Go.ChangeAt Go.RowKit
open Go.ChangeMaps (open_string shut_string)
set_option linter.unusedVariables false

theorem own : ownKnob Try.prog.godebug = none := by kernel_rfl
theorem laidOut : laidOutB Try.prog = true := by kernel_rfl

/-- WHAT THE WALK IS TOLD OF A SLICE OF INTEGERS THAT CAME IN: it is nil; or it leads to a row of 'cap' cells, the numbers 'zs' (the first 'len' are its elements, the rest its spare room), each fitting its kind. -/
def IsRow (k : IntKind) (w : World) (a : Option Addr) (len cap : Nat) (zs : List Int) : Prop :=
  (a = none ∧ len = 0 ∧ cap = 0 ∧ zs = []) ∨
  ∃ x, a = some x ∧ len ≤ cap ∧ cap ≤ maxLen ∧ zs.length = cap ∧ (∀ i, i < zs.length → w.cell? (x.add i) = some (.int k (zs.getD i 0))) ∧ ∀ n ∈ zs, (Lit.int k n).wf = true

/-! ### STEP 1: THE WALK: the Go text returns true, AND WRITES NOTHING THAT WAS THERE: 'Below w.heap.size w w'' (Derived/Below.lean: '.refl', '.alloc', '.drew', '.setCell' at a new block, '.trans'). Open each 'IsRow' by 'rcases' AHEAD of 'go_enter'; part every test ahead of the walk. -/
set_option maxRecDepth 100000 in
set_option maxHeartbeats 4000000 in
theorem walk (a0 : Option Addr) (len0 cap0 : Nat) (z0 : List Int) (w : World) (w0 : IsRow .u8 w a0 len0 cap0 z0) :
    Calls Try.prog 3 #[.slice a0 len0 cap0] w fun e w' => e = .returned (.bool true) ∧ Below w.heap.size w w' := by
  obtain ⟨xs, hxl, hseg, hbd⟩ := seg_of_row w0
  subst hxl
  by_cases hbig : 1048576 < xs.length
  · clear w0 hseg hbd
    go_enter Try.func3, Try.ntmps3
    go_wp2
    go_ret
    exact ⟨rfl, Below.refl _ _⟩
  have hlen : xs.length ≤ 1048576 := by omega
  have HS0 := hide hseg
  have HD := hide hbd
  clear hseg hbd w0
  go_enter Try.func3, Try.ntmps3
  go_wp2_with fail
  refine (big_no _ _ _ _ hbig).mono ?_
  rintro e _ ⟨rfl, rfl⟩
  go_wp2_with fail
  refine (drawsay_any _ xs _ hlen (unhide HD) (unhide HS0)).mono ?_
  rintro e w1 ⟨a1, a2, a3, a4, a5, a6, its, fls, id, rfl, t⟩
  have BB := hide t.bel
  have O1 := hide t.oi
  have O2 := hide t.of
  have NI := hide t.ni
  have l1 := t.li
  have l2 := t.lf
  have hh1 := (t.oi.rw encI_len).len.1
  have hh2 := (t.of.rw encF_len).len.1
  obtain ⟨m1, m2⟩ : a2 ≤ 6 ∧ a5 ≤ 6 := by omega
  clear t l1 l2 hh1 hh2
  go_upto_region 4 with fail
  obtain ⟨w11, hw11⟩ : ∃ W, W = (w1.alloc (StB (.slice a1 a2 a3) (.slice a4 a5 a6))) := ⟨_, rfl⟩
  obtain ⟨b_s, hb_s⟩ : ∃ b, b = w1.heap.size := ⟨_, rfl⟩
  rw [← hw11, ← hb_s]
  have hsw11 := (unhide BB).size
  have bw11 : Below w1.heap.size w1 w11 := by rw [hw11]; exact (Below.refl _ _).alloc (Nat.le_refl _) _
  have U_s := hide (show U3 w w11 b_s (.slice a1 a2 a3) (.slice a4 a5 a6) (its) (fls) from by rw [hw11, hb_s]; exact U3.new hsw11 (Nat.le_refl _) (.inl (unhide O1)) (.inl (unhide O2)))
  replace BB := hide ((unhide BB).trans (bw11.mono (unhide BB).size))
  clear bw11 hw11 hsw11 hb_s O1 O2
  obtain ⟨n, HN⟩ : ∃ n, Hid ((sayL 0 ⟨#[]⟩ its fls id).length = n) := ⟨_, hide rfl⟩
  obtain ⟨c, HC⟩ : ∃ c, Hid (sayC 0 ⟨#[]⟩ its fls id = c) := ⟨_, hide rfl⟩
  have hn1 : n ≤ 1 := by rw [← unhide HN]; exact sayL_len _ _ _ _ _
  obtain ⟨z_s0, z_s1⟩ := (unhide U_s).cells
  go_wp2_with fail
  clear z_s0 z_s1
  have sw12 := (unhide BB).size
  refine (isay0_any a1 a2 a3 its a4 a5 a6 fls id n HN c HC _ (by omega) (by omega) (unhide U_s).rI (unhide U_s).rF).mono ?_
  rintro e w12 ⟨saw12, scw12, rfl, o1, bw12⟩
  have OA := hide o1
  replace U_s := hide ((unhide U_s).later bw12)
  replace BB := hide ((unhide BB).trans (bw12.mono (unhide BB).size))
  have OB : Hid (OwF w.heap.size w12 (.slice none 0 0) []) := hide (World.ownsRow_nil _ _ _ _)
  replace OA := hide (Ow.base (unhide OA) sw12)
  clear o1 bw12
  go_upto_region 5 with fail
  obtain ⟨w13, hw13⟩ : ∃ W, W = (w12.alloc (StB (.slice saw12 n scw12) (.slice none 0 0))) := ⟨_, rfl⟩
  obtain ⟨b_d, hb_d⟩ : ∃ b, b = w12.heap.size := ⟨_, rfl⟩
  rw [← hw13, ← hb_d]
  have hsw13 := (unhide BB).size
  have bw13 : Below w12.heap.size w12 w13 := by rw [hw13]; exact (Below.refl _ _).alloc (Nat.le_refl _) _
  have U_d := hide (show U3 w w13 b_d (.slice saw12 n scw12) (.slice none 0 0) (sayL 0 ⟨#[]⟩ its fls id) ([]) from by rw [hw13, hb_d]; exact U3.new hsw13 (Nat.le_refl _) (.inl (unhide OA)) (.inl (unhide OB)))
  replace U_s := hide ((unhide U_s).later bw13)
  replace BB := hide ((unhide BB).trans (bw13.mono (unhide BB).size))
  clear bw13 hw13 hsw13 hb_d OA OB
  clear sw12
  obtain ⟨z_s0, z_s1⟩ := (unhide U_s).cells
  go_wp2_with fail
  clear z_s0 z_s1
  have sw14 := (unhide BB).size
  refine (ssay0_any a1 a2 a3 its a4 a5 a6 fls id n HN c HC _ (by omega) (by omega) (unhide U_s).rI (unhide U_s).rF).mono ?_
  rintro e w14 ⟨saw14, scw14, rfl, o1, bw14⟩
  have OA := hide o1
  replace U_s := hide ((unhide U_s).later bw14)
  replace U_d := hide ((unhide U_d).later bw14)
  replace BB := hide ((unhide BB).trans (bw14.mono (unhide BB).size))
  have OB : Hid (OwF w.heap.size w14 (.slice none 0 0) []) := hide (World.ownsRow_nil _ _ _ _)
  replace OA := hide (Ow.base (unhide OA) sw14)
  clear o1 bw14
  go_upto_region 6 with fail
  obtain ⟨w15, hw15⟩ : ∃ W, W = (w14.alloc (StB (.slice saw14 n scw14) (.slice none 0 0))) := ⟨_, rfl⟩
  obtain ⟨b_z, hb_z⟩ : ∃ b, b = w14.heap.size := ⟨_, rfl⟩
  rw [← hw15, ← hb_z]
  have hsw15 := (unhide BB).size
  have bw15 : Below w14.heap.size w14 w15 := by rw [hw15]; exact (Below.refl _ _).alloc (Nat.le_refl _) _
  have U_z := hide (show U3 w w15 b_z (.slice saw14 n scw14) (.slice none 0 0) (sayL 0 ⟨#[]⟩ its fls id) ([]) from by rw [hw15, hb_z]; exact U3.new hsw15 (Nat.le_refl _) (.inl (unhide OA)) (.inl (unhide OB)))
  replace U_s := hide ((unhide U_s).later bw15)
  replace U_d := hide ((unhide U_d).later bw15)
  replace BB := hide ((unhide BB).trans (bw15.mono (unhide BB).size))
  clear bw15 hw15 hsw15 hb_z OA OB
  clear sw14
  clear U_z
  have hcc : (c != c) = false := by simp
  obtain ⟨ok, HA⟩ : ∃ ok, Hid (okS its fls = ok) := ⟨_, hide rfl⟩
  obtain ⟨z_s0, z_s1⟩ := (unhide U_s).cells
  go_wp2_with fail
  clear z_s0 z_s1
  refine (sstateok_any a1 a2 a3 its a4 a5 a6 fls ok HA _ (by omega) (by omega) (unhide U_s).rI (unhide U_s).rF).mono ?_
  rintro e w16 ⟨rfl, bw16⟩
  replace U_s := hide ((unhide U_s).later bw16)
  replace U_d := hide ((unhide U_d).later bw16)
  replace BB := hide ((unhide BB).trans (bw16.mono (unhide BB).size))
  clear bw16
  cases ok
  · skip
    have hbad : (okS its fls && inB id 0 4) = false := by rw [unhide HA]; rfl
    obtain ⟨hL, hC⟩ := say_bad (k := 0) (d := ⟨#[]⟩) hbad
    obtain rfl : n = 0 := by rw [← unhide HN, hL]; rfl
    obtain rfl : c = 1 := by rw [← unhide HC]; exact hC
    clear hL hC hbad
    obtain ⟨z_d0, z_d1⟩ := (unhide U_d).cells
    go_wp2
    go_ret
    exact ⟨rfl, unhide BB⟩
  by_cases hi0 : id < 0
  · have hd1 : decide (id < 0) = true := decide_eq_true hi0
    have hbad : (okS its fls && inB id 0 4) = false := by rw [unhide HA]; simp [inB]; omega
    obtain ⟨hL, hC⟩ := say_bad (k := 0) (d := ⟨#[]⟩) hbad
    obtain rfl : n = 0 := by rw [← unhide HN, hL]; rfl
    obtain rfl : c = 1 := by rw [← unhide HC]; exact hC
    clear hL hC hbad
    obtain ⟨z_d0, z_d1⟩ := (unhide U_d).cells
    go_wp2
    go_ret
    exact ⟨rfl, unhide BB⟩
  have hd1 : decide (id < 0) = false := decide_eq_false hi0
  by_cases hi5 : 5 ≤ id
  · have hd2 : decide (5 ≤ id) = true := decide_eq_true hi5
    have hbad : (okS its fls && inB id 0 4) = false := by rw [unhide HA]; simp [inB]; omega
    obtain ⟨hL, hC⟩ := say_bad (k := 0) (d := ⟨#[]⟩) hbad
    obtain rfl : n = 0 := by rw [← unhide HN, hL]; rfl
    obtain rfl : c = 1 := by rw [← unhide HC]; exact hC
    clear hL hC hbad
    obtain ⟨z_d0, z_d1⟩ := (unhide U_d).cells
    go_wp2
    go_ret
    exact ⟨rfl, unhide BB⟩
  have hd2 : decide (5 ≤ id) = false := decide_eq_false hi5
  have HI : Hid (inB id 0 4 = true) := hide (inB_iff.2 ⟨by omega, by omega⟩)
  have OA' := hide ((okS_iff _ _).1 (unhide HA))
  obtain ⟨z_s0, z_s1⟩ := (unhide U_s).cells
  go_wp2_with fail
  clear z_s0 z_s1
  obtain ⟨MF, hMF⟩ : ∃ W, W = w16.alloc (.cells #[.int .i64 id, .int .i64 1000] 35) := ⟨_, rfl⟩
  obtain ⟨fb, hfb⟩ : ∃ b, b = w16.heap.size := ⟨_, rfl⟩
  rw [← hMF, ← hfb]
  have bMF : Below w16.heap.size w16 MF := by rw [hMF]; exact (Below.refl _ _).alloc (Nat.le_refl _) _
  have RF := hide (show Rw encF 2 MF (.slice (some ⟨fb, 0, none⟩) 1 1) [(id, 1000)] from by rw [hMF, hfb]; exact (own_oneF (base := 0) (id, 1000) (Nat.zero_le _) (heap_alloc_new _ _)).rw encF_len)
  clear hMF hfb
  replace U_s := hide ((unhide U_s).later bMF)
  replace U_d := hide ((unhide U_d).later bMF)
  replace BB := hide ((unhide BB).trans (bMF.mono (unhide BB).size))
  clear bMF
  have HJ : Hid ((okS its fls && okS [] [(id, 1000)]) = true) := hide (by rw [unhide HA, (okS_iff _ _).2 (top_ok (unhide HI))]; rfl)
  obtain ⟨t1, ht1⟩ : ∃ z, Hid ((jnI true its fls [] [(id, 1000)]).length = z) := ⟨_, hide rfl⟩
  obtain ⟨t2, ht2⟩ : ∃ z, Hid ((jnF true fls [(id, 1000)]).length = z) := ⟨_, hide rfl⟩
  have kt1 : t1 ≤ 5 := by rw [← unhide ht1]; exact jnI_len _ _ _ _ _
  have kt2 : t2 ≤ 5 := by rw [← unhide ht2]; exact jnF_len _ _ _
  have sMF := (unhide BB).size
  refine (ijoin_any a1 a2 a3 its a4 a5 a6 fls none 0 0 [] (some ⟨fb, 0, none⟩) 1 1 [(id, 1000)] true HJ t1 t2 ht1 ht2 _ (by omega) (by omega) (by omega) (by omega) (unhide U_s).rI (unhide U_s).rF Rw.nil (unhide RF)).mono ?_
  rintro e wj ⟨ja, jc, jb, jd, rfl, o1, o2, bj⟩
  have OA := hide o1
  have OB := hide o2
  replace U_s := hide ((unhide U_s).later bj)
  replace U_d := hide ((unhide U_d).later bj)
  replace BB := hide ((unhide BB).trans (bj.mono (unhide BB).size))
  clear o1 o2 bj RF
  go_upto_region 11 with fail
  obtain ⟨w17, hw17⟩ : ∃ W, W = (wj.alloc (StB (.slice ja t1 jc) (.slice jb t2 jd))) := ⟨_, rfl⟩
  obtain ⟨b_t, hb_t⟩ : ∃ b, b = wj.heap.size := ⟨_, rfl⟩
  rw [← hw17, ← hb_t]
  have hsw17 := (unhide BB).size
  have bw17 : Below wj.heap.size wj w17 := by rw [hw17]; exact (Below.refl _ _).alloc (Nat.le_refl _) _
  have U_t := hide (show U3 w w17 b_t (.slice ja t1 jc) (.slice jb t2 jd) (joinI its fls [] [(id, 1000)]) (joinF fls [(id, 1000)]) from by rw [hw17, hb_t]; exact U3.new hsw17 sMF (.inl (unhide OA)) (.inl (unhide OB)))
  replace U_s := hide ((unhide U_s).later bw17)
  replace U_d := hide ((unhide U_d).later bw17)
  replace BB := hide ((unhide BB).trans (bw17.mono (unhide BB).size))
  clear bw17 hw17 hsw17 hb_t OA OB
  clear sMF
  obtain ⟨hT4, hT0⟩ := top_say ⟨#[]⟩ (unhide OA') (unhide HI)
  have HT4 := hide hT4
  have HT0 : Hid ((sayL 0 ⟨#[]⟩ (joinI its fls [] [(id, 1000)]) (joinF fls [(id, 1000)]) id).length = 0) := hide (by rw [hT0]; rfl)
  have HG := hide (top_gone (unhide OA') (unhide HI))
  clear hT4 hT0
  obtain ⟨z_t0, z_t1⟩ := (unhide U_t).cells
  go_wp2_with fail
  clear z_t0 z_t1
  have sw18 := (unhide BB).size
  refine (isay0_any ja t1 jc (joinI its fls [] [(id, 1000)]) jb t2 jd (joinF fls [(id, 1000)]) id 0 HT0 4 HT4 _ (by omega) (by omega) (unhide U_t).rI (unhide U_t).rF).mono ?_
  rintro e w18 ⟨saw18, scw18, rfl, o1, bw18⟩
  have OA := hide o1
  replace U_s := hide ((unhide U_s).later bw18)
  replace U_d := hide ((unhide U_d).later bw18)
  replace U_t := hide ((unhide U_t).later bw18)
  replace BB := hide ((unhide BB).trans (bw18.mono (unhide BB).size))
  have OB : Hid (OwF w.heap.size w18 (.slice none 0 0) []) := hide (World.ownsRow_nil _ _ _ _)
  replace OA := hide (Ow.base (unhide OA) sw18)
  clear o1 bw18
  go_upto_region 12 with fail
  obtain ⟨w19, hw19⟩ : ∃ W, W = (w18.alloc (StB (.slice saw18 0 scw18) (.slice none 0 0))) := ⟨_, rfl⟩
  obtain ⟨b_z, hb_z⟩ : ∃ b, b = w18.heap.size := ⟨_, rfl⟩
  rw [← hw19, ← hb_z]
  have hsw19 := (unhide BB).size
  have bw19 : Below w18.heap.size w18 w19 := by rw [hw19]; exact (Below.refl _ _).alloc (Nat.le_refl _) _
  have U_z := hide (show U3 w w19 b_z (.slice saw18 0 scw18) (.slice none 0 0) (sayL 0 ⟨#[]⟩ (joinI its fls [] [(id, 1000)]) (joinF fls [(id, 1000)]) id) ([]) from by rw [hw19, hb_z]; exact U3.new hsw19 (Nat.le_refl _) (.inl (unhide OA)) (.inl (unhide OB)))
  replace U_s := hide ((unhide U_s).later bw19)
  replace U_d := hide ((unhide U_d).later bw19)
  replace U_t := hide ((unhide U_t).later bw19)
  replace BB := hide ((unhide BB).trans (bw19.mono (unhide BB).size))
  clear bw19 hw19 hsw19 hb_z OA OB
  clear sw18
  obtain ⟨z_z0, z_z1⟩ := (unhide U_z).cells
  obtain ⟨z_t0, z_t1⟩ := (unhide U_t).cells
  go_wp2_with fail
  clear z_z0 z_z1 z_t0 z_t1
  refine (igone_any ja t1 jc (joinI its fls [] [(id, 1000)]) jb t2 jd (joinF fls [(id, 1000)]) id 1000 HG _ (by omega) (by omega) (unhide U_t).rI (unhide U_t).rF).mono ?_
  rintro e w20 ⟨rfl, bw20⟩
  replace U_s := hide ((unhide U_s).later bw20)
  replace U_d := hide ((unhide U_d).later bw20)
  replace U_t := hide ((unhide U_t).later bw20)
  replace U_z := hide ((unhide U_z).later bw20)
  replace BB := hide ((unhide BB).trans (bw20.mono (unhide BB).size))
  clear bw20 U_t U_z
  obtain ⟨r, tt, HR⟩ : ∃ r t, Hid (entR (vw its fls) id = (r, t)) := ⟨_, _, hide rfl⟩
  have hth := join_there ⟨#[]⟩ (unhide OA') (unhide HI) (unhide HR)
  rw [unhide HC] at hth
  have hte : (tt == (c == 2)) = true := by rw [hth]; simp
  have HTH := hide hth
  clear hth
  obtain ⟨z_s0, z_s1⟩ := (unhide U_s).cells
  go_wp2_with fail
  clear z_s0 z_s1
  refine (ilookup_any a1 a2 a3 its a4 a5 a6 fls id r tt HR _ (by omega) (by omega) (unhide U_s).rI (unhide U_s).rF).mono ?_
  rintro e w21 ⟨rfl, bw21⟩
  replace U_s := hide ((unhide U_s).later bw21)
  replace U_d := hide ((unhide U_d).later bw21)
  replace BB := hide ((unhide BB).trans (bw21.mono (unhide BB).size))
  clear bw21
  go_upto_region 15 with fail
  obtain ⟨w22, hw22⟩ : ∃ W, W = w21.alloc (.cells #[.int .i64 r.1, .int .i64 r.2.1, .int .i64 r.2.2.1, .int .i64 r.2.2.2.1, .string r.2.2.2.2] 38) := ⟨_, rfl⟩
  rw [← hw22]
  have bw22 : Below w21.heap.size w21 w22 := by rw [hw22]; exact (Below.refl _ _).alloc (Nat.le_refl _) _
  replace U_s := hide ((unhide U_s).later bw22)
  replace U_d := hide ((unhide U_d).later bw22)
  replace BB := hide ((unhide BB).trans (bw22.mono (unhide BB).size))
  clear bw22 hw22
  obtain ⟨ga, HGA⟩ : ∃ f, Hid (gone its fls id = f) := ⟨_, hide rfl⟩
  by_cases hc0 : c = 0
  · subst hc0
    obtain rfl : tt = false := unhide HTH
    obtain ⟨-, -, hL, hsd⟩ := said_of (k := 0) (by omega) (unhide HC)
    obtain ⟨e, he⟩ : ∃ e, (chg 0 ⟨#[]⟩ its fls id).1 = e := ⟨_, rfl⟩
    rw [he] at hL hsd
    obtain rfl : n = 1 := by rw [← unhide HN, hL]; rfl
    have hg1 : decide (ga < e.1) = true := decide_eq_true (by have := hsd.gn rfl; rw [unhide HGA] at this; exact this)
    have hk1 : (e.2.1 == 0) = true := by have := hsd.rk; simp at this; simp [this]
    clear hsd he
    obtain ⟨x, xb, off, hx, hxa, hxb, hcap, hcx⟩ := (unhide U_d).rI.at (i := 0) (by omega)
    rw [hL] at hx
    simp only [List.getElem?_cons_zero, Option.some.injEq] at hx
    subst hx
    obtain ⟨c0, c1, c2, c3, c4, c5⟩ := item_cells hcx
    simp only [Nat.zero_mul, Nat.add_zero] at c0 c1 c2
    have lc1 := later_some (w := w22) hxb c1
    have lc2 := later_some (w := w22) hxb c2
    clear hcx c0 c1 c2 c3 c4 c5 hL
    subst hxa
    obtain ⟨z_s0, z_s1⟩ := (unhide U_s).cells
    have l_s0 := later_some (w := w22) (unhide U_s).lt z_s0
    have l_s1 := later_some (w := w22) (unhide U_s).lt z_s1
    obtain ⟨z_d0, z_d1⟩ := (unhide U_d).cells
    have l_d0 := later_some (w := w22) (unhide U_d).lt z_d0
    have l_d1 := later_some (w := w22) (unhide U_d).lt z_d1
    clear z_s0 z_s1 z_d0 z_d1
    refine wp_region_later (by kernel_rfl) (by kernel_rfl) ?_
    repeat (go_big_quiet_step (first
      | (go_at_call 12; exact Calls.later_of (igone_any a1 a2 a3 its a4 a5 a6 fls id ga HGA _ (by omega) (by omega) ((unhide U_s).rI.in_later _ _) ((unhide U_s).rF.in_later _ _)))))
    refine wpQuiet_nil ?_
    intro w23 bw23
    replace U_s := hide ((unhide U_s).later bw23)
    replace U_d := hide ((unhide U_d).later bw23)
    replace BB := hide ((unhide BB).trans (bw23.mono (unhide BB).size))
    clear bw23 l_s0 l_s1 l_d0 l_d1
    go_wp2
    go_ret
    exact ⟨rfl, unhide BB⟩
  · have hcn : (c != 0) = true := by simpa using hc0
    obtain ⟨z_s0, z_s1⟩ := (unhide U_s).cells
    have l_s0 := later_some (w := w22) (unhide U_s).lt z_s0
    have l_s1 := later_some (w := w22) (unhide U_s).lt z_s1
    obtain ⟨z_d0, z_d1⟩ := (unhide U_d).cells
    have l_d0 := later_some (w := w22) (unhide U_d).lt z_d0
    have l_d1 := later_some (w := w22) (unhide U_d).lt z_d1
    clear z_s0 z_s1 z_d0 z_d1
    refine wp_region_later (by kernel_rfl) (by kernel_rfl) ?_
    repeat (go_big_quiet_step (first
      | (go_at_call 12; exact Calls.later_of (igone_any a1 a2 a3 its a4 a5 a6 fls id ga HGA _ (by omega) (by omega) ((unhide U_s).rI.in_later _ _) ((unhide U_s).rF.in_later _ _)))))
    refine wpQuiet_nil ?_
    intro w24 bw24
    replace U_s := hide ((unhide U_s).later bw24)
    replace U_d := hide ((unhide U_d).later bw24)
    replace BB := hide ((unhide BB).trans (bw24.mono (unhide BB).size))
    clear bw24 l_s0 l_s1 l_d0 l_d1
    go_wp2
    go_ret
    exact ⟨rfl, unhide BB⟩

/-! ### THE ROW's STEP: WRITTEN OUT: LEAVE IT -/
set_option maxRecDepth 100000 in
theorem lifted (os : Os) (started : os.Started) (H : Type) (enc : TypeId × Value → H) :
    ReturnsInHanded {} Try.checked os 3 .any (Rows.fnMaxIncSpec.pre6 enc Try.prog Try.f3 Rows.fnMaxIncRow.domain false) (Rows.fnMaxIncSpec.post enc Try.prog Try.f3 false true false false) := by
  refine returnsInHanded_of_change (C := Try.checked) own started (by kernel_rfl) Try.func3
    (ChangeSpec.witness6 (enc := enc) (C := Try.checked) false ⟨#[], #[.slice none 0 0], []⟩ 8 (by kernel_rfl) (by kernel_rfl) (by kernel_rfl) (by kernel_rfl)) ?_
  intro W base args ds gs before hval0 hW hcnd _
  have hval : ∀ (j : Nat) t v, Try.f3.params[j]? = some t → args[j]? = some v → Value.okWide Try.prog W .any base t v := hval0
  have hW' := hW
  obtain ⟨p, q, hA0, hV, rfl, hfz, hnd⟩ := hW
  have hA : DataW.TrodAll enc Try.prog W 0 (fun _ => true) true Try.f3.params.toList args.toList ds p := hA0
  rw [Try.params3] at hA hval
  obtain ⟨v0, vs0, d0, ds0, p0, q0, hargs, rfl, rfl, h0, r0⟩ := trodAll_cons hA
  obtain ⟨rfl, rfl, rfl⟩ := trodAll_nil r0
  obtain rfl : args = #[v0] := by cases args; simp_all
  obtain ⟨rfl, rfl⟩ := trodVars_none hV
  obtain ⟨a0, len0, cap0, rfl⟩ := okWide_slice Try.underlying22 (hval 0 22 v0 rfl rfl)
  have k0 := h0
  have lt0 : ∀ x ∈ p0, x.block < W.heap.size := by obtain ⟨m, hm⟩ := k0; exact DataW.trod_lt m _ _ _ hm
  obtain ⟨z0, w0⟩ : ∃ zs, IsRow .u8 W a0 len0 cap0 zs := by
    obtain ⟨fuel, hf⟩ := h0
    rcases open_ints Try.underlying22 Try.underlying5 (by kernel_rfl) hf with ⟨hcs, _⟩ | ⟨x, l, c, zs, hcs, _, hl, hm, hz, _, hcell, hwz⟩
    · simp [Value.cells] at hcs
      obtain ⟨rfl, rfl, rfl⟩ := hcs
      exact ⟨[], .inl ⟨rfl, rfl, rfl, rfl⟩⟩
    · simp [Value.cells] at hcs
      obtain ⟨rfl, rfl, rfl⟩ := hcs
      exact ⟨zs, .inr ⟨_, rfl, hl, hm, by simpa using hz, hcell, hwz⟩⟩
  clear hA0 hval0
  refine (walk a0 len0 cap0 z0 W w0).mono fun e W' ⟨he, bel⟩ => ?_
  subst he
  exact ⟨_, rfl, _, _, _, [], _, [], hW', trodAll_mk1 (shut_bool Try.underlying4 _), (trodAll_cons_mk (Below.trod laidOut (by kernel_rfl) (of_decide_eq_true (by kernel_rfl)) k0 bel lt0) trodAll_mk0), rfl, bel.frame _, fun h => by cases h⟩

theorem over : Rows.fnMaxIncRow.holds Try.pinned (OpenSpec.ofChange Rows.fnMaxIncSpec) :=
  OpenClaim.holds_of_wide 3 Try.f3 rfl rfl rfl rfl rfl rfl rfl ⟨rfl, rfl, rfl, rfl, rfl⟩ rfl rfl rfl rfl rfl (by kernel_rfl) Try.func3 (by kernel_rfl)
    (of_decide_eq_true (by kernel_rfl)) (by unfold Func.isWrapper; first | (rw [if_pos (by decide +kernel)]; kernel_rfl) | (rw [if_neg (by decide +kernel)]; exact ⟨rfl, rfl⟩))
    (fun os started H enc _ => lifted os started H enc)

theorem proved : Rows.FnMaxIncSaid := over
#print axioms proved
end Go.Proofs.Ytdpaocikmijioab.fnMaxInc
namespace Go.Proofs.Ytdpaocikmijioab
theorem fnMaxInc_holds : Rows.FnMaxIncSaid := fnMaxInc.proved
end Go.Proofs.Ytdpaocikmijioab
