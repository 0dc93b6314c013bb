/-
  FnOverStays: what is over stays over: joined with whatever, who is gone up to some count is not seen with it or less: at every code the law answers true, with no panic, and writes into nothing that was there; the table of powers is what the program lays (the tied card).
-/
import Derived.Test.YtdpaocikmijioaaGreatDoorRows
import Derived.Test.YtdpaocikmijioaaGreatDoorCards
import Derived.Test.YtdpaocikmijioaaGreatDoorTie
import Derived.Test.YtdpaocikmijioaaGreatDoorL3W
import Derived.Test.YtdpaocikmijioaaGreatDoorVwL
import Derived.Test.YtdpaocikmijioaaGreatDoorVwU
import Derived.Test.YtdpaocikmijioaaGreatDoorIJnP
import Derived.Test.YtdpaocikmijioaaGreatDoorIJoin
import Derived.Test.YtdpaocikmijioaaGreatDoorDrawB
import Derived.Deep.DeepHandedRow
import Derived.Lib.LaidTab
import Derived.LaidMore
import Derived.LaidSub
import Derived.SevenTiedAt
import Derived.WalkKit
import Derived.ProofKit
import Derived.OpenShut
import Derived.ShutString
import Derived.ChangeOld
import Derived.Below
import Derived.Carry
namespace Go.Proofs.YtdpaocikmijioaaGreatDoor.fnOverStays
open Go.ChangeShapes Go.WideShapes Go.ChangeAt Go.RowKit
open Go.ChangeMaps (open_string shut_string)

theorem own : ownKnob Tryz.prog.godebug = none := by kernel_rfl
theorem laidOut : laidOutB Tryz.prog = true := by kernel_rfl

theorem over_vw {xs ys : List Itm} {fs gs : List Flr} (hx : OkS xs fs) (hy : OkS ys gs) {id : Int} {e : Key} (h : entR (vw (joinI xs fs ys gs) (joinF fs gs)) id = (e, true)) : gone xs fs id < e.1 := by
  have hj := hx.join hy
  have he := entR_ent h
  have hv : vw (joinI xs fs ys gs) (joinF fs gs) = upI (joinI xs fs ys gs) := by rw [vw, if_pos ((okS_iff _ _).2 hj)]
  rw [hv] at he
  have hm := (ent_iff (hj.px.sublist List.filter_sublist)).1 he
  obtain ⟨h1, h2⟩ := List.mem_filter.1 hm
  exact (hx.over hy id).2 e ((ent_iff hj.px).2 h1) (by simpa using h2)

set_option maxHeartbeats 8000000 in
set_option maxRecDepth 100000 in
theorem walk (w : World) (a0 : Option Addr) (len0 cap0 : Nat) (z0 : List Int) (w0 : (a0 = none ∧ len0 = 0 ∧ cap0 = 0 ∧ z0 = []) ∨ ∃ x, a0 = some x ∧ len0 ≤ cap0 ∧ cap0 ≤ maxLen ∧ z0.length = cap0 ∧ (∀ i, i < z0.length → w.cell? (x.add i) = some (.int .u8 (z0.getD i 0))) ∧ ∀ n ∈ z0, (Lit.int .u8 n).wf = true) (hT : Lib.TabIs Tryz.prog w "internal/strconv.uint64pow10" .u64 Lib.pow10Tab) :
    Calls Tryz.prog 3 #[.slice a0 len0 cap0] w fun e w' => e = .returned (.bool true) ∧ Below w.heap.size w w' := by
  have HT := hide hT
  clear hT
  obtain ⟨xs, hxl, hseg, hbd⟩ := seg_of_row w0
  subst hxl
  by_cases hbig : 1048576 < xs.length
  · clear w0 hseg hbd
    go_enter Tryz.func3, Tryz.ntmps3
    go_wp2
    go_ret
    exact ⟨rfl, Below.refl _ _⟩
  have hlen : xs.length ≤ 1048576 := by omega
  have HS0 := hide hseg
  have HD := hide hbd
  clear hseg hbd w0
  go_enter Tryz.func3, Tryz.ntmps3
  go_wp2_with fail
  refine (big_no _ _ _ _ hbig).mono ?_
  rintro e _ ⟨rfl, rfl⟩
  go_wp2_with fail
  refine (drawjoin_any _ xs _ hlen (unhide HD) (unhide HS0)).mono ?_
  rintro e w1 ⟨a1, a2, a3, a4, a5, a6, b1, b2, b3, b4, b5, b6, its, fls, jts, gls, rfl, t⟩
  have BB := hide t.bel
  have O1 := hide t.oi
  have O2 := hide t.of
  have O3 := hide t.pi
  have O4 := hide t.pf
  have NI := hide t.ni
  have NJ := hide t.nj
  have l1 := t.l1
  have l2 := t.l2
  have l3 := t.l3
  have l4 := t.l4
  have hh1 := (t.oi.rw encI_len).len.1
  have hh2 := (t.of.rw encF_len).len.1
  have hh3 := (t.pi.rw encI_len).len.1
  have hh4 := (t.pf.rw encF_len).len.1
  obtain ⟨m1, m2, m3, m4⟩ : a2 ≤ 6 ∧ a5 ≤ 6 ∧ b2 ≤ 6 ∧ b5 ≤ 6 := by omega
  clear t l1 l2 l3 l4 hh1 hh2 hh3 hh4
  go_upto_region 4 with fail
  obtain ⟨w11, hw11⟩ : ∃ W, W = ((w1.alloc (StB (.slice a1 a2 a3) (.slice a4 a5 a6))).alloc (StB (.slice b1 b2 b3) (.slice b4 b5 b6))) := ⟨_, rfl⟩
  obtain ⟨b_a, hb_a⟩ : ∃ b, b = w1.heap.size := ⟨_, rfl⟩
  obtain ⟨b_b, hb_b⟩ : ∃ b, b = w1.heap.size + 1 := ⟨_, rfl⟩
  rw [← hw11, ← hb_b, ← hb_a]
  have hsw11 := (unhide BB).size
  have bw11 : Below w1.heap.size w1 w11 := by rw [hw11]; exact ((Below.refl _ _).alloc (Nat.le_refl _) _).alloc (by simp) _
  have U_a := hide (show U3 w w11 b_a (.slice a1 a2 a3) (.slice a4 a5 a6) (its) (fls) from by rw [hw11, hb_a]; exact (U3.new hsw11 (Nat.le_refl _) (unhide O1) (unhide O2)).later ((Below.refl _ _).alloc (Nat.le_refl _) _))
  have U_b := hide (show U3 w w11 b_b (.slice b1 b2 b3) (.slice b4 b5 b6) (jts) (gls) from by rw [hw11, hb_b]; have e := U3.new (w := w) (X := w1.alloc (StB (.slice a1 a2 a3) (.slice a4 a5 a6))) (by simp; omega) (Nat.le_refl _) ((unhide O3).later ((Below.refl w1.heap.size w1).alloc (Nat.le_refl _) (StB (.slice a1 a2 a3) (.slice a4 a5 a6)))) ((unhide O4).later ((Below.refl w1.heap.size w1).alloc (Nat.le_refl _) (StB (.slice a1 a2 a3) (.slice a4 a5 a6)))); rw [show (w1.alloc (StB (.slice a1 a2 a3) (.slice a4 a5 a6))).heap.size = w1.heap.size + 1 by simp] at e; exact e)
  replace BB := hide ((unhide BB).trans (bw11.mono (unhide BB).size))
  clear bw11 hw11 hsw11 hb_a hb_b O1 O2 O3 O4
  obtain ⟨ok, HJ⟩ : ∃ ok, Hid ((okS its fls && okS jts gls) = ok) := ⟨_, hide rfl⟩
  obtain ⟨z_a0, z_a1⟩ := (unhide U_a).cells
  obtain ⟨z_b0, z_b1⟩ := (unhide U_b).cells
  go_wp2_with fail
  clear z_a0 z_a1 z_b0 z_b1
  obtain ⟨n12, hn12⟩ : ∃ z, Hid ((jnI ok its fls jts gls).length = z) := ⟨_, hide rfl⟩
  obtain ⟨n13, hn13⟩ : ∃ z, Hid ((jnF ok fls gls).length = z) := ⟨_, hide rfl⟩
  have kn12 : n12 ≤ 5 := by rw [← unhide hn12]; exact jnI_len _ _ _ _ _
  have kn13 : n13 ≤ 5 := by rw [← unhide hn13]; exact jnF_len _ _ _
  have sw14 := (unhide BB).size
  refine (ijoin_any a1 a2 a3 its a4 a5 a6 fls b1 b2 b3 jts b4 b5 b6 gls ok HJ n12 n13 hn12 hn13 _ (by omega) (by omega) (by omega) (by omega) (unhide U_a).rI (unhide U_a).rF (unhide U_b).rI (unhide U_b).rF).mono ?_
  rintro e w14 ⟨jaw14, jcw14, jbw14, jdw14, rfl, o1, o2, bw14⟩
  have OA := hide o1
  have OB := hide o2
  replace U_a := hide ((unhide U_a).later bw14)
  replace U_b := hide ((unhide U_b).later bw14)
  replace BB := hide ((unhide BB).trans (bw14.mono (unhide BB).size))
  clear o1 o2 bw14
  go_upto_region 5 with fail
  obtain ⟨w15, hw15⟩ : ∃ W, W = (w14.alloc (StB (.slice jaw14 n12 jcw14) (.slice jbw14 n13 jdw14))) := ⟨_, rfl⟩
  obtain ⟨b_j, hb_j⟩ : ∃ b, b = w14.heap.size := ⟨_, rfl⟩
  rw [← hw15, ← hb_j]
  have hsw15 := (unhide BB).size
  have bw15 : Below w14.heap.size w14 w15 := by rw [hw15]; exact (Below.refl _ _).alloc (Nat.le_refl _) _
  have U_j := hide (show U3 w w15 b_j (.slice jaw14 n12 jcw14) (.slice jbw14 n13 jdw14) (jnI ok its fls jts gls) (jnF ok fls gls) from by rw [hw15, hb_j]; exact U3.new hsw15 sw14 (.inl (unhide OA)) (.inl (unhide OB)))
  replace U_a := hide ((unhide U_a).later bw15)
  replace U_b := hide ((unhide U_b).later bw15)
  replace BB := hide ((unhide BB).trans (bw15.mono (unhide BB).size))
  clear bw15 hw15 hsw15 hb_j OA OB
  clear sw14
  obtain ⟨z_a0, z_a1⟩ := (unhide U_a).cells
  obtain ⟨z_b0, z_b1⟩ := (unhide U_b).cells
  go_wp2_with fail
  clear z_a0 z_a1 z_b0 z_b1
  obtain ⟨n16, hn16⟩ : ∃ z, Hid ((jnI ok its fls jts gls).length = z) := ⟨_, hide rfl⟩
  obtain ⟨n17, hn17⟩ : ∃ z, Hid ((jnF ok fls gls).length = z) := ⟨_, hide rfl⟩
  have kn16 : n16 ≤ 5 := by rw [← unhide hn16]; exact jnI_len _ _ _ _ _
  have kn17 : n17 ≤ 5 := by rw [← unhide hn17]; exact jnF_len _ _ _
  have sw18 := (unhide BB).size
  refine (sjoin_any a1 a2 a3 its a4 a5 a6 fls b1 b2 b3 jts b4 b5 b6 gls ok HJ n16 n17 hn16 hn17 _ (by omega) (by omega) (by omega) (by omega) (unhide U_a).rI (unhide U_a).rF (unhide U_b).rI (unhide U_b).rF).mono ?_
  rintro e w18 ⟨jaw18, jcw18, jbw18, jdw18, rfl, o1, o2, bw18⟩
  have OA := hide o1
  have OB := hide o2
  replace U_a := hide ((unhide U_a).later bw18)
  replace U_b := hide ((unhide U_b).later bw18)
  replace U_j := hide ((unhide U_j).later bw18)
  replace BB := hide ((unhide BB).trans (bw18.mono (unhide BB).size))
  clear o1 o2 bw18
  go_upto_region 6 with fail
  obtain ⟨w19, hw19⟩ : ∃ W, W = (w18.alloc (StB (.slice jaw18 n16 jcw18) (.slice jbw18 n17 jdw18))) := ⟨_, rfl⟩
  obtain ⟨b_q, hb_q⟩ : ∃ b, b = w18.heap.size := ⟨_, rfl⟩
  rw [← hw19, ← hb_q]
  have hsw19 := (unhide BB).size
  have bw19 : Below w18.heap.size w18 w19 := by rw [hw19]; exact (Below.refl _ _).alloc (Nat.le_refl _) _
  have U_q := hide (show U3 w w19 b_q (.slice jaw18 n16 jcw18) (.slice jbw18 n17 jdw18) (jnI ok its fls jts gls) (jnF ok fls gls) from by rw [hw19, hb_q]; exact U3.new hsw19 sw18 (.inl (unhide OA)) (.inl (unhide OB)))
  replace U_a := hide ((unhide U_a).later bw19)
  replace U_b := hide ((unhide U_b).later bw19)
  replace U_j := hide ((unhide U_j).later bw19)
  replace BB := hide ((unhide BB).trans (bw19.mono (unhide BB).size))
  clear bw19 hw19 hsw19 hb_q OA OB
  clear sw18
  clear U_q U_b
  cases ok
  · skip
    go_wp2
    go_ret
    exact ⟨rfl, unhide BB⟩
  have hAB := unhide HJ
  rw [Bool.and_eq_true] at hAB
  have OA' := hide ((okS_iff _ _).1 hAB.1)
  have OB' := hide ((okS_iff _ _).1 hAB.2)
  clear hAB HJ
  replace U_j := hide (show U3 w w19 b_j (.slice jaw14 n12 jcw14) (.slice jbw14 n13 jdw14) (joinI its fls jts gls) (joinF fls gls) from unhide U_j)
  go_wp2
  go_loopw [9] (fun i wr => ∃ k : Nat, k ≤ 5 ∧ i = .int .i64 k ∧ Below w.heap.size w wr ∧ U3 w wr b_a (.slice a1 a2 a3) (.slice a4 a5 a6) its fls ∧ U3 w wr b_j (.slice jaw14 n12 jcw14) (.slice jbw14 n13 jdw14) (joinI its fls jts gls) (joinF fls gls)) (fun i _ => 5 - (intOf i).toNat)
  case atStart => exact ⟨0, by omega, rfl, unhide BB, unhide U_a, unhide U_j⟩
  case round =>
    obtain ⟨k, hk1, rfl, hB, hA, hJ⟩ := hrel
    clear BB U_a U_j
    have BB := hide hB
    have U_a := hide hA
    have U_j := hide hJ
    clear hB hA hJ
    by_cases hlt : k < 5
    · obtain ⟨ek, oc, HE⟩ : ∃ x h, Hid (entR (vw (joinI its fls jts gls) (joinF fls gls)) k = (x, h)) := ⟨_, _, hide rfl⟩
      obtain ⟨ga, HGA⟩ : ∃ f, Hid (gone its fls k = f) := ⟨_, hide rfl⟩
      obtain ⟨gj, HGJ⟩ : ∃ f, Hid (gone (joinI its fls jts gls) (joinF fls gls) k = f) := ⟨_, hide rfl⟩
      have hle : decide (gj < ga) = false := by
        have := ((unhide OA').over (unhide OB') k).1
        rw [unhide HGA, unhide HGJ] at this
        simpa using this
      have hd : decide ((k : Int) < 5) = true := by simp; omega
      obtain ⟨z_j0, z_j1⟩ := (unhide U_j).cells
      go_wp2_with fail
      clear z_j0 z_j1
      refine (ilookup_any jaw14 n12 jcw14 (joinI its fls jts gls) jbw14 n13 jdw14 (joinF fls gls) k ek oc HE _ (by omega) (by omega) (unhide U_j).rI (unhide U_j).rF).mono ?_
      rintro e w20 ⟨rfl, bw20⟩
      replace U_a := hide ((unhide U_a).later bw20)
      replace U_j := hide ((unhide U_j).later bw20)
      replace BB := hide ((unhide BB).trans (bw20.mono (unhide BB).size))
      clear bw20
      go_upto_region 14 with fail
      obtain ⟨w21, hw21⟩ : ∃ W, W = w20.alloc (.cells #[.int .i64 ek.1, .int .i64 ek.2.1, .int .i64 ek.2.2.1, .int .i64 ek.2.2.2.1, .string ek.2.2.2.2] 33) := ⟨_, rfl⟩
      rw [← hw21]
      have bw21 : Below w20.heap.size w20 w21 := by rw [hw21]; exact (Below.refl _ _).alloc (Nat.le_refl _) _
      have ke : w21.heap[w20.heap.size]? = some (.cells #[.int .i64 ek.1, .int .i64 ek.2.1, .int .i64 ek.2.2.1, .int .i64 ek.2.2.2.1, .string ek.2.2.2.2] 33 (0, 0)) := by rw [hw21]; exact heap_alloc_new _ _
      replace U_a := hide ((unhide U_a).later bw21)
      replace U_j := hide ((unhide U_j).later bw21)
      replace BB := hide ((unhide BB).trans (bw21.mono (unhide BB).size))
      clear bw21 hw21
      have lte : w20.heap.size < w21.heap.size := (Array.getElem?_eq_some_iff.1 ke).1
      obtain ⟨y0, y1, y2, y3, y4, -⟩ := blk_cells5 ke
      have ly0 := later_some (w := w21) lte y0
      have ly1 := later_some (w := w21) lte y1
      have ly2 := later_some (w := w21) lte y2
      have ly3 := later_some (w := w21) lte y3
      have ly4 := later_some (w := w21) lte y4
      clear ke y0 y1 y2 y3 y4
      cases oc
      · skip
        obtain ⟨z_a0, z_a1⟩ := (unhide U_a).cells
        have l_a0 := later_some (w := w21) (unhide U_a).lt z_a0
        have l_a1 := later_some (w := w21) (unhide U_a).lt z_a1
        obtain ⟨z_j0, z_j1⟩ := (unhide U_j).cells
        have l_j0 := later_some (w := w21) (unhide U_j).lt z_j0
        have l_j1 := later_some (w := w21) (unhide U_j).lt z_j1
        clear z_a0 z_a1 z_j0 z_j1
        refine wp_region_later (by kernel_rfl) (by kernel_rfl) ?_
        repeat (go_big_quiet_step (first
          | (go_at_call_of 9 (Value.agg #[Value.slice jaw14 n12 jcw14, Value.slice jbw14 n13 jdw14]); exact Calls.later_of (igone_any jaw14 n12 jcw14 (joinI its fls jts gls) jbw14 n13 jdw14 (joinF fls gls) k gj HGJ _ (by omega) (by omega) ((unhide U_j).rI.in_later _ _) ((unhide U_j).rF.in_later _ _)))
          | (go_at_call_of 9 (Value.agg #[Value.slice a1 a2 a3, Value.slice a4 a5 a6]); exact Calls.later_of (igone_any a1 a2 a3 its a4 a5 a6 fls k ga HGA _ (by omega) (by omega) ((unhide U_a).rI.in_later _ _) ((unhide U_a).rF.in_later _ _)))))
        refine wpQuiet_nil ?_
        intro w22 bw22
        replace U_a := hide ((unhide U_a).later bw22)
        replace U_j := hide ((unhide U_j).later bw22)
        replace BB := hide ((unhide BB).trans (bw22.mono (unhide BB).size))
        clear bw22 l_a0 l_a1 l_j0 l_j1
        clear ly0 ly1 ly2 ly3 ly4 lte
        go_wp2
        go_roundw
        case rel => exact ⟨k + 1, by omega, by go_num, unhide BB, unhide U_a, unhide U_j⟩
        case measure => simp [intOf]; omega
      · skip
        have hd2 : decide (ek.1 ≤ ga) = false := by
          have := over_vw (unhide OA') (unhide OB') (unhide HE)
          rw [unhide HGA] at this
          simp; omega
        obtain ⟨z_a0, z_a1⟩ := (unhide U_a).cells
        have l_a0 := later_some (w := w21) (unhide U_a).lt z_a0
        have l_a1 := later_some (w := w21) (unhide U_a).lt z_a1
        obtain ⟨z_j0, z_j1⟩ := (unhide U_j).cells
        have l_j0 := later_some (w := w21) (unhide U_j).lt z_j0
        have l_j1 := later_some (w := w21) (unhide U_j).lt z_j1
        clear z_a0 z_a1 z_j0 z_j1
        refine wp_region_later (by kernel_rfl) (by kernel_rfl) ?_
        repeat (go_big_quiet_step (first
          | (go_at_call_of 9 (Value.agg #[Value.slice jaw14 n12 jcw14, Value.slice jbw14 n13 jdw14]); exact Calls.later_of (igone_any jaw14 n12 jcw14 (joinI its fls jts gls) jbw14 n13 jdw14 (joinF fls gls) k gj HGJ _ (by omega) (by omega) ((unhide U_j).rI.in_later _ _) ((unhide U_j).rF.in_later _ _)))
          | (go_at_call_of 9 (Value.agg #[Value.slice a1 a2 a3, Value.slice a4 a5 a6]); exact Calls.later_of (igone_any a1 a2 a3 its a4 a5 a6 fls k ga HGA _ (by omega) (by omega) ((unhide U_a).rI.in_later _ _) ((unhide U_a).rF.in_later _ _)))))
        refine wpQuiet_nil ?_
        intro w23 bw23
        replace U_a := hide ((unhide U_a).later bw23)
        replace U_j := hide ((unhide U_j).later bw23)
        replace BB := hide ((unhide BB).trans (bw23.mono (unhide BB).size))
        clear bw23 l_a0 l_a1 l_j0 l_j1
        clear ly0 ly1 ly2 ly3 ly4 lte
        go_wp2
        go_roundw
        case rel => exact ⟨k + 1, by omega, by go_num, unhide BB, unhide U_a, unhide U_j⟩
        case measure => simp [intOf]; omega
    · have hd : decide ((k : Int) < 5) = false := by simp; omega
      clear U_a hlt
      obtain ⟨nv, hnv⟩ : ∃ z, Hid ((vw (joinI its fls jts gls) (joinF fls gls)).length = z) := ⟨_, hide rfl⟩
      have nv5 : nv ≤ 5 := by have := vw_len (joinI its fls jts gls) (joinF fls gls); rw [unhide hnv] at this; exact this
      obtain ⟨z_j0, z_j1⟩ := (unhide U_j).cells
      go_wp2_with fail
      clear z_j0 z_j1
      refine (iview_any jaw14 n12 jcw14 (joinI its fls jts gls) jbw14 n13 jdw14 (joinF fls gls) nv hnv _ (by omega) (by omega) (unhide U_j).rI (unhide U_j).rF).mono ?_
      rintro e w24 ⟨va, vc, rfl, o1, bw24⟩
      have RV := hide (o1.rw encI_len)
      replace U_j := hide ((unhide U_j).later bw24)
      replace BB := hide ((unhide BB).trans (bw24.mono (unhide BB).size))
      clear o1 bw24 hd
      go_wp2
      go_loop [13] (fun i => ∃ m : Nat, m ≤ nv ∧ i = .int .i64 m) (fun i => nv - (intOf i).toNat)
      case atStart => exact ⟨0, Nat.zero_le _, rfl⟩
      case round =>
        obtain ⟨m, hm, rfl⟩ := hrel
        by_cases hlm : m < nv
        · obtain ⟨x, b, off, hx, rfl, hb, hcap, hc⟩ := (unhide RV).at hlm
          obtain ⟨c0, c1, c2, c3, c4, c5⟩ := item_cells hc
          have hr0 := (vw_mem (List.mem_of_getElem? hx)).2.2.2
          have hn0 : (x.2.2.1 != 0) = false := by simp [hr0]
          clear hc hx hr0
          go_wp2
          go_round
          case rel => exact ⟨m + 1, by omega, by go_num⟩
          case measure => simp [intOf]; omega
        · obtain ⟨t0, ht0⟩ : ∃ t0, Hid (tx ((vw (joinI its fls jts gls) (joinF fls gls)).map wI ++ ([] : List Flr).map wF) = t0) := ⟨_, hide rfl⟩
          have hq : (t0.toList == t0.toList) = true := by simp
          go_upto_region 22 with fail
          obtain ⟨z_j0, z_j1⟩ := (unhide U_j).cells
          have l_j0 := later_some (w := w24) (unhide U_j).lt z_j0
          have l_j1 := later_some (w := w24) (unhide U_j).lt z_j1
          clear z_j0 z_j1
          refine wp_region_later (by kernel_rfl) (by kernel_rfl) ?_
          repeat (go_big_quiet_step (first
            | (go_at_call 11; exact Calls.later_of (ivt_v jaw14 n12 jcw14 (joinI its fls jts gls) jbw14 n13 jdw14 (joinF fls gls) t0 ht0 _ (tab_later (unhide HT) ((unhide BB).trans ((later_below _ _ _).mono (unhide BB).size)) (tab_lt (unhide HT))) (by omega) (by omega) ((unhide U_j).rI.in_later _ _) ((unhide U_j).rF.in_later _ _)))
            | (go_at_call 12; exact Calls.later_of (svt_v jaw14 n12 jcw14 (joinI its fls jts gls) jbw14 n13 jdw14 (joinF fls gls) t0 ht0 _ (by omega) (by omega) ((unhide U_j).rI.in_later _ _) ((unhide U_j).rF.in_later _ _)))))
          refine wpQuiet_nil ?_
          intro w25 bw25
          replace U_j := hide ((unhide U_j).later bw25)
          replace BB := hide ((unhide BB).trans (bw25.mono (unhide BB).size))
          clear bw25 l_j0 l_j1
          go_wp2
          go_ret
          exact ⟨rfl, unhide BB⟩

theorem gTabType : (Tryz.prog.globals[1]?).map (·.type) = some 136 := by kernel_rfl
theorem cellsTab : Tryz.prog.cellsOf 136 = 20 := by kernel_rfl
theorem cellsU64 : Tryz.prog.cellsOf 112 = 1 := by kernel_rfl
/-- What the row's list gives: the table's cells hold the powers of ten. -/
theorem table {W : World} (h : laidMetH Tryz.prog Rows.fnOverStaysRow.laid W) : Lib.TabIs Tryz.prog W "internal/strconv.uint64pow10" .u64 Lib.pow10Tab := by
  have h2 := h.filter (fun x => x.1 == "internal/strconv.uint64pow10")
  have e : (Rows.fnOverStaysRow.laid.filter (fun x => x.1 == "internal/strconv.uint64pow10")) = [("internal/strconv.uint64pow10", Rows.laid_internal_strconv_uint64pow10)] := by kernel_rfl
  rw [e] at h2
  exact Lib.tabIs_of_head (rest := []) gPow gTabType Tryz.underlying136 Tryz.underlying112 cellsU64 cellsTab h2

set_option maxRecDepth 100000 in
theorem contract (H : Type) (enc : TypeId × Value → H) (W : World) (base : Nat) (args : Array Value) (ds gs : List (DataW H)) (before : List MemPlace)
    (hval0 : ∀ (j : Nat) t v, Tryz.f3.params[j]? = some t → args[j]? = some v → Value.okWide Tryz.prog W .any base t v)
    (hW : DataW.Whole enc Tryz.prog Tryz.f3.params.toList Rows.fnOverStaysSpec.vars false W args.toList ds gs before) (hL : laidMetH Tryz.prog Rows.fnOverStaysRow.laid W) :
    Calls Tryz.prog 3 args W fun e W' => ∃ v, e = .returned v ∧ Rows.fnOverStaysSpec.post enc Tryz.prog Tryz.f3 false true false false W args v W' := by
  have hval : ∀ (j : Nat) t v, Tryz.f3.params[j]? = some t → args[j]? = some v → Value.okWide Tryz.prog W .any base t v := hval0
  have hW' := hW
  obtain ⟨p, q, hA0, hV, rfl, hfz, hnd⟩ := hW
  have hA : DataW.TrodAll enc Tryz.prog W 0 (fun _ => true) true Tryz.f3.params.toList args.toList ds p := hA0
  rw [Tryz.params3] at hA hval
  obtain ⟨v0, vs0, d0, ds0, p0, q0, hargs0, rfl, rfl, h0, r0⟩ := trodAll_cons hA
  obtain ⟨rfl, rfl, rfl⟩ := trodAll_nil r0
  obtain rfl : args = #[v0] := by cases args; simp_all
  obtain ⟨rfl, rfl⟩ := trodVars_none hV
  have k0 := h0
  have lt0 : ∀ x ∈ p0, x.block < W.heap.size := by obtain ⟨m, hm⟩ := k0; exact DataW.trod_lt m _ _ _ hm
  obtain ⟨a0, l0, c0, rfl⟩ := okWide_slice Tryz.underlying22 (hval 0 22 v0 rfl rfl)
  obtain ⟨z0, w0⟩ : ∃ zs : List Int, (a0 = none ∧ l0 = 0 ∧ c0 = 0 ∧ zs = []) ∨ ∃ y, a0 = some y ∧ l0 ≤ c0 ∧ c0 ≤ maxLen ∧ zs.length = c0 ∧ (∀ i, i < zs.length → W.cell? (y.add i) = some (.int .u8 (zs.getD i 0))) ∧ ∀ n ∈ zs, (Lit.int .u8 n).wf = true := by
    obtain ⟨fuel, hf⟩ := h0
    rcases open_ints Tryz.underlying22 Tryz.underlying5 (by kernel_rfl) hf with ⟨hcs, _⟩ | ⟨x, l, c, zs, hcs, _, hl, hm, hz, _, hcell, hwz⟩
    · simp [Value.cells] at hcs
      obtain ⟨rfl, rfl, rfl⟩ := hcs
      exact ⟨[], .inl ⟨rfl, rfl, rfl, rfl⟩⟩
    · simp [Value.cells] at hcs
      obtain ⟨rfl, rfl, rfl⟩ := hcs
      exact ⟨zs, .inr ⟨_, rfl, hl, hm, by simpa using hz, hcell, hwz⟩⟩
  clear hA0 hval0
  refine (walk W a0 l0 c0 z0 w0 (table hL)).mono fun e W' ⟨he, bel⟩ => ?_
  subst he
  exact ⟨_, rfl, _, _, _, [], _, [], hW', trodAll_mk1 (shut_bool Tryz.underlying4 _), (trodAll_cons_mk (Below.trod laidOut (by kernel_rfl) (of_decide_eq_true (by kernel_rfl)) k0 bel lt0) trodAll_mk0), rfl, bel.frame _, fun h => by cases h⟩

theorem laid_met (os : Os) : laidMetH Tryz.prog Rows.fnOverStaysRow.laid ((World.doorLaid Tryz.prog 4000 os).forCall (fun _ _ => 0) ⟨#[], #[.slice none 0 0], []⟩).memory :=
  laidMetH_of_parts3 (fuel := 8) (laidMet_of_run' 8 (by kernel_rfl) (by kernel_rfl)) (by kernel_rfl) (by kernel_rfl)
theorem reads (os : Os) {H : Type} (enc : TypeId × Value → H) : ∃ places, DataW.whole enc Tryz.prog ((World.doorLaid Tryz.prog 4000 os).forCall (fun _ _ => 0) ⟨#[], #[.slice none 0 0], []⟩).memory Tryz.f3.params.toList Rows.fnOverStaysSpec.vars false (#[.slice none 0 0] : Array Value).toList 8 = some ([.nil], [], places) :=
  ⟨[], by kernel_rfl⟩

set_option maxRecDepth 100000 in
theorem lifted (os : Os) (started : os.Started) (H : Type) (enc : TypeId × Value → H) (F : Stop.Interp) :
    ReturnsInHanded {} Tryz.checked os 3 .any ((OpenSpec.ofChange Rows.fnOverStaysSpec).preRow enc Tryz.prog Tryz.f3 Rows.fnOverStaysRow.domain false Rows.fnOverStaysRow.laid) (((OpenSpec.ofChange Rows.fnOverStaysSpec).at F).post enc Tryz.prog Tryz.f3 false true false false) := by
  obtain ⟨places, hx⟩ := reads os enc
  refine returnsInHanded_of_row (C := Tryz.checked) (s := OpenSpec.ofChange Rows.fnOverStaysSpec) own started (by kernel_rfl) Tryz.func3
    (witness_row_at (enc := enc) (C := Tryz.checked) false (World.doorLaid Tryz.prog 4000 os) #[.slice none 0 0] rfl (by kernel_rfl) (by kernel_rfl) (by kernel_rfl)
      (OpenSpec.preRow_of_cond 8 hx (by kernel_rfl) (fun k hk => by cases hk) (by kernel_rfl) (laid_met os))) ?_
  intro W base args ds gs before hval hW _ _ _ hL _ _
  exact contract H enc W base args ds gs before hval hW hL

theorem said : Rows.FnOverStaysSaid :=
  OpenClaim.holds_of_cond 3 Tryz.f3 rfl rfl rfl rfl rfl rfl rfl ⟨rfl, rfl, rfl, rfl, rfl⟩ rfl rfl rfl rfl rfl (by kernel_rfl) Tryz.func3 (by kernel_rfl)
    (of_decide_eq_true (by kernel_rfl)) (by unfold Func.isWrapper; first | (rw [if_pos (by decide +kernel)]; kernel_rfl) | (rw [if_neg (by decide +kernel)]; exact ⟨rfl, rfl⟩))
    (fun os started H enc _ F => by rw [OpenClaim.pre_eq_preRow]; exact lifted os started H enc F)

theorem plain (f : FuncId) (fn : Func) (hf : Tryz.pinned.checked.prog.funcNamed "loop.example/g00487/laws.FnOverStays" = some f) (hfn : Tryz.pinned.checked.prog.funcs[f]? = some fn) :
    false = Tryz.pinned.checked.prog.looks [] ∧ ∀ (j : Nat) t, fn.params[j]? = some t → Tryz.pinned.checked.prog.wantsStandIn t = false := by
  obtain rfl : f = 3 := Option.some.inj ((show Tryz.prog.funcNamed "loop.example/g00487/laws.FnOverStays" = some 3 by kernel_rfl).symm.trans hf) |>.symm
  obtain rfl : fn = Tryz.f3 := (Option.some.inj (Tryz.func3.symm.trans hfn)).symm
  refine ⟨by kernel_rfl, fun j t ht => ?_⟩
  rw [Tryz.params3] at ht
  have hm : t ∈ [22] := by simpa using Array.mem_of_getElem? ht
  have hall : ([22].all fun u => !Tryz.prog.wantsStandIn u) = true := by kernel_rfl
  exact (show Tryz.prog.wantsStandIn t = false by simpa using List.all_eq_true.1 hall t hm)

theorem card : Rows.FnOverStaysCardSaid :=
  Claim7.holds_tied_plain_at .later [] _ _ _ _ said (fun _ h => by cases h) (by kernel_rfl) (fun _ h => by cases h) fnOverStays_row_tie rfl ⟨rfl, rfl⟩ (by kernel_rfl) rfl plain (by kernel_rfl)
#print axioms card
end Go.Proofs.YtdpaocikmijioaaGreatDoor.fnOverStays
namespace Go.Proofs.YtdpaocikmijioaaGreatDoor
theorem fnOverStays_holds : Rows.FnOverStaysCardSaid := fnOverStays.card
end Go.Proofs.YtdpaocikmijioaaGreatDoor
