/-
  Marks tell what is over; who is known by all to know is pruned, and nothing that is seen turns, at every code. No conditions but the statement’s own.
-/
import Derived.Test.YtighiahppjekeaaGreatDoorRows
import Derived.Test.YtighiahppjekeaaGreatDoorCards
import Derived.Test.YtighiahppjekeaaGreatDoorTie
import Derived.Test.YtighiahppjekeaaGreatDoorL3W
import Derived.Test.YtighiahppjekeaaGreatDoorMkD
import Derived.Test.YtighiahppjekeaaGreatDoorMkW
import Derived.Test.YtighiahppjekeaaGreatDoorPru
import Derived.Test.YtighiahppjekeaaGreatDoorVwT
import Derived.Test.YtighiahppjekeaaGreatDoorSStSame
import Derived.Test.YtighiahppjekeaaGreatDoorStBx
import Derived.Test.YtighiahppjekeaaGreatDoorEntDraw
import Derived.Deep.DeepHandedRow
import Derived.Lib.LaidTab
import Derived.LaidMore
import Derived.LaidSub
import Derived.SevenTiedAt
import Derived.WalkKit
import Derived.ProofKit
import Derived.OpenShut
import Derived.ShutString
import Derived.ChangeOld
import Derived.Below
import Derived.Carry
namespace Go.Proofs.YtighiahppjekeaaGreatDoor.fnMarks
open Go.ChangeShapes Go.WideShapes Go.ChangeAt Go.RowKit
open Go.ChangeMaps (open_string shut_string)

theorem own : ownKnob Tryz.prog.godebug = none := by kernel_rfl
theorem laidOut : laidOutB Tryz.prog = true := by kernel_rfl

set_option maxHeartbeats 8000000 in
set_option maxRecDepth 100000 in
theorem walk (w : World) (a0 : Option Addr) (len0 cap0 : Nat) (z0 : List Int) (w0 : (a0 = none ∧ len0 = 0 ∧ cap0 = 0 ∧ z0 = []) ∨ ∃ x, a0 = some x ∧ len0 ≤ cap0 ∧ cap0 ≤ maxLen ∧ z0.length = cap0 ∧ (∀ i, i < z0.length → w.cell? (x.add i) = some (.int .u8 (z0.getD i 0))) ∧ ∀ n ∈ z0, (Lit.int .u8 n).wf = true) (hT : Lib.TabIs Tryz.prog w "internal/strconv.uint64pow10" .u64 Lib.pow10Tab) :
    Calls Tryz.prog 3 #[.slice a0 len0 cap0] w fun e w' => e = .returned (.bool true) ∧ Below w.heap.size w w' := by
  have HT := hide hT
  clear hT
  obtain ⟨xs, hxl, hseg, hbd⟩ := seg_of_row w0
  subst hxl
  by_cases hbig : 1048576 < xs.length
  · clear w0 hseg hbd
    go_enter Tryz.func3, Tryz.ntmps3
    go_wp2
    go_ret
    exact ⟨rfl, Below.refl _ _⟩
  have hlen : xs.length ≤ 1048576 := by omega
  have HS0 := hide hseg
  have HD := hide hbd
  clear hseg hbd w0
  go_enter Tryz.func3, Tryz.ntmps3
  go_wp2_with fail
  refine (big_no _ _ _ _ hbig).mono ?_
  rintro e _ ⟨rfl, rfl⟩
  go_wp2_with fail
  refine (drawprune_any _ xs _ hlen (unhide HD) (unhide HS0)).mono ?_
  rintro e w1 ⟨s1, s2, s3, s4, s5, s6, its, fls, ta, tn, tc, t, rfl, htn, hle, ht, q⟩
  have HLT : Hid (∀ (i : Nat) (q : List Int), t[i]? = some q → q.length ≤ 140737488351232) := hide (fun i q hq => by have := hle q (List.mem_of_getElem? hq); omega)
  have T_t := hide ht
  have BB := hide q.bel
  have O1 := hide q.oi
  have O2 := hide q.of
  have SM := hide (nine_sml q.ni)
  have l1 := q.li
  have l2 := q.lf
  have hh1 := (q.oi.rw encI_len).len.1
  have hh2 := (q.of.rw encF_len).len.1
  obtain ⟨m1, m2⟩ : s2 ≤ 6 ∧ s5 ≤ 6 := by omega
  clear q hle ht l1 l2 hh1 hh2 HS0 HD
  go_upto_region 4 with fail
  obtain ⟨w11, hw11⟩ : ∃ W, W = (w1.alloc (StB (.slice s1 s2 s3) (.slice s4 s5 s6))) := ⟨_, rfl⟩
  obtain ⟨b_s, hb_s⟩ : ∃ b, b = w1.heap.size := ⟨_, rfl⟩
  rw [← hw11, ← hb_s]
  have hsw11 := (unhide BB).size
  have bw11 : Below w1.heap.size w1 w11 := by rw [hw11]; exact (Below.refl _ _).alloc (Nat.le_refl _) _
  have U_s := hide (show U3 w w11 b_s (.slice s1 s2 s3) (.slice s4 s5 s6) (its) (fls) from by rw [hw11, hb_s]; exact U3.new hsw11 (Nat.le_refl _) (.inl (unhide O1)) (.inl (unhide O2)))
  replace T_t := hide ((unhide T_t).later bw11)
  replace BB := hide ((unhide BB).trans (bw11.mono (unhide BB).size))
  clear bw11 hw11 hsw11 hb_s O1 O2
  obtain ⟨z_s0, z_s1⟩ := (unhide U_s).cells
  go_wp2_with fail
  clear z_s0 z_s1
  obtain ⟨n12, hn12⟩ : ∃ z, Hid ((prI its fls t).length = z) := ⟨_, hide rfl⟩
  obtain ⟨n13, hn13⟩ : ∃ z, Hid ((prF its fls t).length = z) := ⟨_, hide rfl⟩
  have kn12 : n12 ≤ 6 := by rw [← unhide hn12]; exact prI_len6 (by have := (unhide U_s).len.1; omega) _
  have kn13 : n13 ≤ 6 := by rw [← unhide hn13]; exact prF_len6 (by have := (unhide U_s).len.2; omega) _
  have sw14 := (unhide BB).size
  refine (iprune_any s1 s2 s3 its s4 s5 s6 fls (unhide SM) ta tn tc t n12 n13 hn12 hn13 _ (by omega) (by omega) (by omega) (unhide HLT) (unhide U_s).rI (unhide U_s).rF (unhide T_t)).mono ?_
  rintro e w14 ⟨jaw14, jcw14, jbw14, jdw14, rfl, o1, o2, bw14⟩
  have OA := hide o1
  have OB := hide o2
  replace T_t := hide ((unhide T_t).later bw14)
  replace U_s := hide ((unhide U_s).later bw14)
  replace BB := hide ((unhide BB).trans (bw14.mono (unhide BB).size))
  clear o1 o2 bw14
  go_upto_region 5 with fail
  obtain ⟨w15, hw15⟩ : ∃ W, W = (w14.alloc (StB (.slice jaw14 n12 jcw14) (.slice jbw14 n13 jdw14))) := ⟨_, rfl⟩
  obtain ⟨b_p, hb_p⟩ : ∃ b, b = w14.heap.size := ⟨_, rfl⟩
  rw [← hw15, ← hb_p]
  have hsw15 := (unhide BB).size
  have bw15 : Below w14.heap.size w14 w15 := by rw [hw15]; exact (Below.refl _ _).alloc (Nat.le_refl _) _
  have U_p := hide (show U3 w w15 b_p (.slice jaw14 n12 jcw14) (.slice jbw14 n13 jdw14) (prI its fls t) (prF its fls t) from by rw [hw15, hb_p]; exact U3.new hsw15 sw14 (.inl (unhide OA)) (.inl (unhide OB)))
  replace T_t := hide ((unhide T_t).later bw15)
  replace U_s := hide ((unhide U_s).later bw15)
  replace BB := hide ((unhide BB).trans (bw15.mono (unhide BB).size))
  clear bw15 hw15 hsw15 hb_p OA OB
  clear sw14
  obtain ⟨z_p0, z_p1⟩ := (unhide U_p).cells
  obtain ⟨z_s0, z_s1⟩ := (unhide U_s).cells
  go_wp2_with fail
  go_region_held3 (fun W => Below w15.heap.size w15 W ∧ W.cell? ⟨b_p, 0, none⟩ = some (.slice jaw14 n12 jcw14) ∧ W.cell? ⟨b_p, 1, none⟩ = some (.slice jbw14 n13 jdw14) ∧ W.cell? ⟨b_s, 0, none⟩ = some (.slice s1 s2 s3) ∧ W.cell? ⟨b_s, 1, none⟩ = some (.slice s4 s5 s6))
    (first | (with_reducible exact keep4 (unhide U_p).lt (unhide U_p).lt (unhide U_s).lt (unhide U_s).lt z_p0 z_p1 z_s0 z_s1 (Below.refl _ _)) | (with_reducible exact keep4 (unhide U_p).lt (unhide U_p).lt (unhide U_s).lt (unhide U_s).lt z_p0 z_p1 z_s0 z_s1 ((Below.refl _ _).drew)) | (with_reducible exact keep4 (unhide U_p).lt (unhide U_p).lt (unhide U_s).lt (unhide U_s).lt z_p0 z_p1 z_s0 z_s1 (by assumption)))
    (first
      | (go_at_call 9; refine (sprune_any s1 s2 s3 its s4 s5 s6 fls ta tn tc t n12 n13 hn12 hn13 _ (by omega) (by omega) (by omega) (unhide HLT) ?_ ?_ ?_).mono ?_; exact (unhide U_s).rI.later (kb1 (by assumption)); exact (unhide U_s).rF.later (kb1 (by assumption)); exact (unhide T_t).later (kb1 (by assumption)); rintro e u1 ⟨qa, qc, qb, qd, rfl, o1, o2, b6⟩; have R_1 := hide o1; have R_2 := hide o2; clear o1 o2; have bu1 := kb2 (by assumption) b6; clear b6)
      | (go_at_call 8; refine (ssame_any jaw14 n12 jcw14 (prI its fls t) jbw14 n13 jdw14 (prF its fls t) qa n12 qc (prI its fls t) qb n13 qd (prF its fls t) true (hide (by simp)) _ (by omega) (by omega) (by omega) (by omega) ?_ ?_ ?_ ?_).mono ?_; exact (unhide U_p).rI.later (kb1 (by assumption)); exact (unhide U_p).rF.later (kb1 (by assumption)); exact unhide R_1; exact unhide R_2; rintro e w16 ⟨rfl, b6⟩; have bu2 := kb2 (by assumption) b6; clear b6))
  clear z_p0 z_p1 z_s0 z_s1
  replace T_t := hide ((unhide T_t).later bu2)
  replace U_s := hide ((unhide U_s).later bu2)
  replace U_p := hide ((unhide U_p).later bu2)
  replace BB := hide ((unhide BB).trans (bu2.mono (unhide BB).size))
  clear bu1 bu2 R_1 R_2
  obtain ⟨ok, HOK⟩ : ∃ ok, Hid (okS its fls = ok) := ⟨_, hide rfl⟩
  obtain ⟨z_s0, z_s1⟩ := (unhide U_s).cells
  go_wp2_with fail
  clear z_s0 z_s1
  refine (sstateok_any s1 s2 s3 its s4 s5 s6 fls ok HOK _ (by omega) (by omega) (unhide U_s).rI (unhide U_s).rF).mono ?_
  rintro e w17 ⟨rfl, bw17⟩
  replace T_t := hide ((unhide T_t).later bw17)
  replace U_s := hide ((unhide U_s).later bw17)
  replace U_p := hide ((unhide U_p).later bw17)
  replace BB := hide ((unhide BB).trans (bw17.mono (unhide BB).size))
  clear bw17
  cases ok
  · have HR : Hid ((decide (prI its fls t = its) && decide (prF its fls t = fls)) = true) := hide (by
      have e : ¬ okS its fls = true := by rw [unhide HOK]; decide
      rw [prI, prF, if_neg e, if_neg e]; simp)
    obtain ⟨z_p0, z_p1⟩ := (unhide U_p).cells
    obtain ⟨z_s0, z_s1⟩ := (unhide U_s).cells
    go_wp2_with fail
    clear z_p0 z_p1 z_s0 z_s1
    refine (ssame_any jaw14 n12 jcw14 (prI its fls t) jbw14 n13 jdw14 (prF its fls t) s1 s2 s3 its s4 s5 s6 fls true HR _ (by omega) (by omega) (by omega) (by omega) (unhide U_p).rI (unhide U_p).rF (unhide U_s).rI (unhide U_s).rF).mono ?_
    rintro e w18 ⟨rfl, bw18⟩
    replace T_t := hide ((unhide T_t).later bw18)
    replace U_s := hide ((unhide U_s).later bw18)
    replace U_p := hide ((unhide U_p).later bw18)
    replace BB := hide ((unhide BB).trans (bw18.mono (unhide BB).size))
    clear bw18 HR
    go_wp2
    go_ret
    exact ⟨rfl, unhide BB⟩
  have OA' := hide ((okS_iff _ _).1 (unhide HOK))
  clear HOK
  obtain ⟨z_s0, z_s1⟩ := (unhide U_s).cells
  go_wp2_with fail
  refine (imarksof_any s1 s2 s3 its s4 s5 s6 fls _ (by omega) (by omega) (unhide U_s).rI (unhide U_s).rF).mono ?_
  rintro e w19 ⟨ma, mc, rfl, o1, b6⟩
  have R_M := hide (o1.rw encF_len)
  clear o1
  clear z_s0 z_s1
  replace T_t := hide ((unhide T_t).later b6)
  replace U_s := hide ((unhide U_s).later b6)
  replace U_p := hide ((unhide U_p).later b6)
  replace BB := hide ((unhide BB).trans (b6.mono (unhide BB).size))
  clear b6
  obtain ⟨nm, HNM⟩ : ∃ n, Hid ((mks its fls).length = n) := ⟨_, hide rfl⟩
  have nm5 : nm ≤ 5 := by rw [← unhide HNM]; exact mks_len its fls
  rw [unhide HNM] at R_M
  rw [unhide HNM]
  go_wp2
  go_loopw [7] (fun i wr => ∃ k : Nat, k ≤ nm ∧ i = .int .i64 k ∧ Below w.heap.size w wr ∧ U3 w wr b_s (.slice s1 s2 s3) (.slice s4 s5 s6) its fls ∧ U3 w wr b_p (.slice jaw14 n12 jcw14) (.slice jbw14 n13 jdw14) (prI its fls t) (prF its fls t) ∧ RwG wr (.slice ta tn tc) t ∧ Rw encF 2 wr (.slice ma nm mc) (mks its fls)) (fun i _ => nm - (intOf i).toNat)
  case atStart => exact ⟨0, Nat.zero_le _, rfl, unhide BB, unhide U_s, unhide U_p, unhide T_t, unhide R_M⟩
  case round =>
    obtain ⟨k, hk, rfl, hB, hS, hP, hT9, hM⟩ := hrel
    clear BB U_s U_p T_t R_M
    have BB := hide hB
    have U_s := hide hS
    have U_p := hide hP
    have T_t := hide hT9
    have R_M := hide hM
    clear hB hS hP hT9 hM
    by_cases hlt : k < nm
    · obtain ⟨x, b, off, hx, rfl, hb, hcap, hc⟩ := (unhide R_M).at hlt
      have c0 : wr.cell? ⟨b, off + k * 2, none⟩ = some (.int .i64 x.1) := hc 0 (by omega)
      have c1 : wr.cell? ⟨b, off + k * 2 + 1, none⟩ = some (.int .i64 x.2) := hc 1 (by omega)
      have hx2 := mem_mkK.1 (List.mem_of_getElem? hx)
      have HGX : Hid (gone its fls x.1 = x.2) := hide hx2.2.2.2
      have hne : (x.2 != x.2) = false := by simp
      have hlt1 : decide (x.2 < 1) = false := by have := hx2.2.2.1; simp; omega
      have lc0 := later_some (w := wr) (b := b) (o := off + k * 2) hb c0
      have lc1 := later_some (w := wr) (b := b) (o := off + k * 2 + 1) hb c1
      clear hx2 hx hc
      go_wp2_with fail
      obtain ⟨z_s0, z_s1⟩ := (unhide U_s).cells
      have l_s0 := later_some (w := wr) (unhide U_s).lt z_s0
      have l_s1 := later_some (w := wr) (unhide U_s).lt z_s1
      clear z_s0 z_s1
      refine wp_region_later (by kernel_rfl) (by kernel_rfl) ?_
      repeat (go_big_quiet_step (first
        | (go_at_call 12; exact Calls.later_of (igone_any s1 s2 s3 its s4 s5 s6 fls x.1 x.2 HGX _ (by omega) (by omega) ((unhide U_s).rI.in_later _ _) ((unhide U_s).rF.in_later _ _)))))
      refine wpQuiet_nil ?_
      intro w20 bw20
      replace R_M := hide ((unhide R_M).later bw20)
      replace T_t := hide ((unhide T_t).later bw20)
      replace U_s := hide ((unhide U_s).later bw20)
      replace U_p := hide ((unhide U_p).later bw20)
      replace BB := hide ((unhide BB).trans (bw20.mono (unhide BB).size))
      clear bw20 l_s0 l_s1
      clear lc0 lc1 c0 c1
      go_wp2
      go_roundw
      case rel => exact ⟨k + 1, by omega, by go_num, unhide BB, unhide U_s, unhide U_p, unhide T_t, unhide R_M⟩
      case measure => simp [intOf]; omega
    · skip
      go_wp2
      clear hlt hk
      go_loopw [8] (fun i wr => ∃ k : Nat, k ≤ 5 ∧ i = .int .i64 k ∧ Below w.heap.size w wr ∧ U3 w wr b_s (.slice s1 s2 s3) (.slice s4 s5 s6) its fls ∧ U3 w wr b_p (.slice jaw14 n12 jcw14) (.slice jbw14 n13 jdw14) (prI its fls t) (prF its fls t) ∧ RwG wr (.slice ta tn tc) t ∧ Rw encF 2 wr (.slice ma nm mc) (mks its fls)) (fun i _ => 5 - (intOf i).toNat)
      case atStart => exact ⟨0, Nat.zero_le _, rfl, unhide BB, unhide U_s, unhide U_p, unhide T_t, unhide R_M⟩
      case round =>
        obtain ⟨k, hk, rfl, hB, hS, hP, hT9, hM⟩ := hrel
        clear BB U_s U_p T_t R_M
        have BB := hide hB
        have U_s := hide hS
        have U_p := hide hP
        have T_t := hide hT9
        have R_M := hide hM
        clear hB hS hP hT9 hM
        by_cases hlt : k < 5
        · obtain ⟨ek, oc, HE⟩ : ∃ x h, Hid (entR (prI its fls t) k = (x, h)) := ⟨_, _, hide rfl⟩
          obtain ⟨gs, HGS⟩ : ∃ f, Hid (gone its fls k = f) := ⟨_, hide rfl⟩
          have HGP : Hid (gone (prI its fls t) (prF its fls t) k = gs) := hide (by rw [pr_gone (unhide OA')]; exact unhide HGS)
          obtain ⟨fa, HFA⟩ : ∃ f, Hid (flo fls k = f) := ⟨_, hide rfl⟩
          obtain ⟨fp, HFP⟩ : ∃ f, Hid (flo (prF its fls t) k = f) := ⟨_, hide rfl⟩
          obtain ⟨cm, HCM⟩ : ∃ f, Hid (com t k = f) := ⟨_, hide rfl⟩
          have hkn := pr_known (unhide OA') t k
          rw [unhide HFA, unhide HFP, unhide HCM] at hkn
          have hne : (gs != gs) = false := by simp
          have hd : decide ((k : Int) < 5) = true := by simp; omega
          obtain ⟨d1, hd1⟩ : ∃ d, decide (fa < fp) = d := ⟨_, rfl⟩
          obtain ⟨d2, hd2⟩ : ∃ d, decide (cm < fp) = d := ⟨_, rfl⟩
          have hdd : d1 = true → d2 = false := fun e => by
            subst e
            rw [← hd2]
            simp at hd1 ⊢
            omega
          clear hkn
          go_wp2_with fail
          cases d1
          rotate_left
          · obtain rfl := hdd rfl
            obtain ⟨z_p0, z_p1⟩ := (unhide U_p).cells
            have l_p0 := later_some (w := wr) (unhide U_p).lt z_p0
            have l_p1 := later_some (w := wr) (unhide U_p).lt z_p1
            obtain ⟨z_s0, z_s1⟩ := (unhide U_s).cells
            have l_s0 := later_some (w := wr) (unhide U_s).lt z_s0
            have l_s1 := later_some (w := wr) (unhide U_s).lt z_s1
            clear z_p0 z_p1 z_s0 z_s1
            refine wp_region_later (by kernel_rfl) (by kernel_rfl) ?_
            repeat (go_big_quiet_step (first
              | (go_at_call_of 12 (Value.agg #[Value.slice jaw14 n12 jcw14, Value.slice jbw14 n13 jdw14]); exact Calls.later_of (igone_any jaw14 n12 jcw14 (prI its fls t) jbw14 n13 jdw14 (prF its fls t) k gs HGP _ (by omega) (by omega) ((unhide U_p).rI.in_later _ _) ((unhide U_p).rF.in_later _ _)))
              | (go_at_call_of 12 (Value.agg #[Value.slice s1 s2 s3, Value.slice s4 s5 s6]); exact Calls.later_of (igone_any s1 s2 s3 its s4 s5 s6 fls k gs HGS _ (by omega) (by omega) ((unhide U_s).rI.in_later _ _) ((unhide U_s).rF.in_later _ _)))
              | (go_at_call_of 13 (Value.agg #[Value.slice jaw14 n12 jcw14, Value.slice jbw14 n13 jdw14]); exact Calls.later_of (ifloor_v _ jbw14 n13 jdw14 (prF its fls t) k fp HFP _ (by omega) ((unhide U_p).rF.in_later _ _)))
              | (go_at_call_of 13 (Value.agg #[Value.slice s1 s2 s3, Value.slice s4 s5 s6]); exact Calls.later_of (ifloor_v _ s4 s5 s6 fls k fa HFA _ (by omega) ((unhide U_s).rF.in_later _ _)))
              | (go_at_call 14; exact Calls.later_of (icommon_any ta tn tc t k cm HCM _ (by omega) (unhide HLT) ((unhide T_t).later (later_below _ _ _))))))
            refine wpQuiet_nil ?_
            intro w21 bw21
            replace R_M := hide ((unhide R_M).later bw21)
            replace T_t := hide ((unhide T_t).later bw21)
            replace U_s := hide ((unhide U_s).later bw21)
            replace U_p := hide ((unhide U_p).later bw21)
            replace BB := hide ((unhide BB).trans (bw21.mono (unhide BB).size))
            clear bw21 l_p0 l_p1 l_s0 l_s1
            obtain ⟨z_p0, z_p1⟩ := (unhide U_p).cells
            go_wp2_with fail
            clear z_p0 z_p1
            refine (ientry_any _ jaw14 n12 jcw14 (prI its fls t) ((unhide OA').pruned _).sml k ek oc HE _ (by omega) (unhide U_p).rI).mono ?_
            rintro e w22 ⟨rfl, bw22⟩
            replace R_M := hide ((unhide R_M).later bw22)
            replace T_t := hide ((unhide T_t).later bw22)
            replace U_s := hide ((unhide U_s).later bw22)
            replace U_p := hide ((unhide U_p).later bw22)
            replace BB := hide ((unhide BB).trans (bw22.mono (unhide BB).size))
            clear bw22
            go_upto_region 17 with fail
            obtain ⟨w23, hw23⟩ : ∃ W, W = w22.alloc (.cells #[.int .i64 ek.1, .int .i64 ek.2.1, .int .i64 ek.2.2.1, .int .i64 ek.2.2.2.1, .string ek.2.2.2.2] 41) := ⟨_, rfl⟩
            rw [← hw23]
            have bw23 : Below w22.heap.size w22 w23 := by rw [hw23]; exact (Below.refl _ _).alloc (Nat.le_refl _) _
            have ke : w23.heap[w22.heap.size]? = some (.cells #[.int .i64 ek.1, .int .i64 ek.2.1, .int .i64 ek.2.2.1, .int .i64 ek.2.2.2.1, .string ek.2.2.2.2] 41 (0, 0)) := by rw [hw23]; exact heap_alloc_new _ _
            replace R_M := hide ((unhide R_M).later bw23)
            replace T_t := hide ((unhide T_t).later bw23)
            replace U_s := hide ((unhide U_s).later bw23)
            replace U_p := hide ((unhide U_p).later bw23)
            replace BB := hide ((unhide BB).trans (bw23.mono (unhide BB).size))
            clear bw23 hw23
            have lte : w22.heap.size < w23.heap.size := (Array.getElem?_eq_some_iff.1 ke).1
            obtain ⟨y0, y1, y2, y3, y4, -⟩ := blk_cells5 ke
            have ly0 := later_some (w := w23) lte y0
            have ly1 := later_some (w := w23) lte y1
            have ly2 := later_some (w := w23) lte y2
            have ly3 := later_some (w := w23) lte y3
            have ly4 := later_some (w := w23) lte y4
            clear ke y0 y1 y2 y3 y4
            obtain ⟨d3, hd3⟩ : ∃ d, (ek.2.1 == 1) = d := ⟨_, rfl⟩
            obtain ⟨d4, hd4⟩ : ∃ d, decide (ek.1 ≤ cm) = d := ⟨_, rfl⟩
            have hdo : oc = true → d3 = true → d4 = false := fun e1 e2 => by
              subst e1 e2
              have := pr_left (unhide OA') t (entR_true (unhide HE)) (by simpa using hd3)
              rw [unhide HCM] at this
              rw [← hd4]
              simp; omega
            cases oc
            · clear hdo
              skip
              refine wp_region_later (by kernel_rfl) (by kernel_rfl) ?_
              repeat (go_big_quiet_step (first
                | (go_at_call 14; exact Calls.later_of (icommon_any ta tn tc t k cm HCM _ (by omega) (unhide HLT) ((unhide T_t).later (later_below _ _ _))))))
              refine wpQuiet_nil ?_
              intro w24 bw24
              replace R_M := hide ((unhide R_M).later bw24)
              replace T_t := hide ((unhide T_t).later bw24)
              replace U_s := hide ((unhide U_s).later bw24)
              replace U_p := hide ((unhide U_p).later bw24)
              replace BB := hide ((unhide BB).trans (bw24.mono (unhide BB).size))
              clear bw24 ly0 ly1 ly2 ly3 ly4 lte
              go_wp2
              go_roundw
              case rel => exact ⟨k + 1, by omega, by go_num, unhide BB, unhide U_s, unhide U_p, unhide T_t, unhide R_M⟩
              case measure => simp [intOf]; omega
            · cases d3
              · clear hdo
                refine wp_region_later (by kernel_rfl) (by kernel_rfl) ?_
                repeat (go_big_quiet_step (first
                  | (go_at_call 14; exact Calls.later_of (icommon_any ta tn tc t k cm HCM _ (by omega) (unhide HLT) ((unhide T_t).later (later_below _ _ _))))))
                refine wpQuiet_nil ?_
                intro w25 bw25
                replace R_M := hide ((unhide R_M).later bw25)
                replace T_t := hide ((unhide T_t).later bw25)
                replace U_s := hide ((unhide U_s).later bw25)
                replace U_p := hide ((unhide U_p).later bw25)
                replace BB := hide ((unhide BB).trans (bw25.mono (unhide BB).size))
                clear bw25 ly0 ly1 ly2 ly3 ly4 lte
                go_wp2
                go_roundw
                case rel => exact ⟨k + 1, by omega, by go_num, unhide BB, unhide U_s, unhide U_p, unhide T_t, unhide R_M⟩
                case measure => simp [intOf]; omega
              · obtain rfl := hdo rfl rfl
                refine wp_region_later (by kernel_rfl) (by kernel_rfl) ?_
                repeat (go_big_quiet_step (first
                  | (go_at_call 14; exact Calls.later_of (icommon_any ta tn tc t k cm HCM _ (by omega) (unhide HLT) ((unhide T_t).later (later_below _ _ _))))))
                refine wpQuiet_nil ?_
                intro w26 bw26
                replace R_M := hide ((unhide R_M).later bw26)
                replace T_t := hide ((unhide T_t).later bw26)
                replace U_s := hide ((unhide U_s).later bw26)
                replace U_p := hide ((unhide U_p).later bw26)
                replace BB := hide ((unhide BB).trans (bw26.mono (unhide BB).size))
                clear bw26 ly0 ly1 ly2 ly3 ly4 lte
                go_wp2
                go_roundw
                case rel => exact ⟨k + 1, by omega, by go_num, unhide BB, unhide U_s, unhide U_p, unhide T_t, unhide R_M⟩
                case measure => simp [intOf]; omega
          · clear hdd
            obtain ⟨z_p0, z_p1⟩ := (unhide U_p).cells
            have l_p0 := later_some (w := wr) (unhide U_p).lt z_p0
            have l_p1 := later_some (w := wr) (unhide U_p).lt z_p1
            obtain ⟨z_s0, z_s1⟩ := (unhide U_s).cells
            have l_s0 := later_some (w := wr) (unhide U_s).lt z_s0
            have l_s1 := later_some (w := wr) (unhide U_s).lt z_s1
            clear z_p0 z_p1 z_s0 z_s1
            refine wp_region_later (by kernel_rfl) (by kernel_rfl) ?_
            repeat (go_big_quiet_step (first
              | (go_at_call_of 12 (Value.agg #[Value.slice jaw14 n12 jcw14, Value.slice jbw14 n13 jdw14]); exact Calls.later_of (igone_any jaw14 n12 jcw14 (prI its fls t) jbw14 n13 jdw14 (prF its fls t) k gs HGP _ (by omega) (by omega) ((unhide U_p).rI.in_later _ _) ((unhide U_p).rF.in_later _ _)))
              | (go_at_call_of 12 (Value.agg #[Value.slice s1 s2 s3, Value.slice s4 s5 s6]); exact Calls.later_of (igone_any s1 s2 s3 its s4 s5 s6 fls k gs HGS _ (by omega) (by omega) ((unhide U_s).rI.in_later _ _) ((unhide U_s).rF.in_later _ _)))
              | (go_at_call_of 13 (Value.agg #[Value.slice jaw14 n12 jcw14, Value.slice jbw14 n13 jdw14]); exact Calls.later_of (ifloor_v _ jbw14 n13 jdw14 (prF its fls t) k fp HFP _ (by omega) ((unhide U_p).rF.in_later _ _)))
              | (go_at_call_of 13 (Value.agg #[Value.slice s1 s2 s3, Value.slice s4 s5 s6]); exact Calls.later_of (ifloor_v _ s4 s5 s6 fls k fa HFA _ (by omega) ((unhide U_s).rF.in_later _ _)))
              | (go_at_call 14; exact Calls.later_of (icommon_any ta tn tc t k cm HCM _ (by omega) (unhide HLT) ((unhide T_t).later (later_below _ _ _))))))
            refine wpQuiet_nil ?_
            intro w27 bw27
            replace R_M := hide ((unhide R_M).later bw27)
            replace T_t := hide ((unhide T_t).later bw27)
            replace U_s := hide ((unhide U_s).later bw27)
            replace U_p := hide ((unhide U_p).later bw27)
            replace BB := hide ((unhide BB).trans (bw27.mono (unhide BB).size))
            clear bw27 l_p0 l_p1 l_s0 l_s1
            obtain ⟨z_p0, z_p1⟩ := (unhide U_p).cells
            go_wp2_with fail
            clear z_p0 z_p1
            refine (ientry_any _ jaw14 n12 jcw14 (prI its fls t) ((unhide OA').pruned _).sml k ek oc HE _ (by omega) (unhide U_p).rI).mono ?_
            rintro e w28 ⟨rfl, bw28⟩
            replace R_M := hide ((unhide R_M).later bw28)
            replace T_t := hide ((unhide T_t).later bw28)
            replace U_s := hide ((unhide U_s).later bw28)
            replace U_p := hide ((unhide U_p).later bw28)
            replace BB := hide ((unhide BB).trans (bw28.mono (unhide BB).size))
            clear bw28
            go_upto_region 17 with fail
            obtain ⟨w29, hw29⟩ : ∃ W, W = w28.alloc (.cells #[.int .i64 ek.1, .int .i64 ek.2.1, .int .i64 ek.2.2.1, .int .i64 ek.2.2.2.1, .string ek.2.2.2.2] 41) := ⟨_, rfl⟩
            rw [← hw29]
            have bw29 : Below w28.heap.size w28 w29 := by rw [hw29]; exact (Below.refl _ _).alloc (Nat.le_refl _) _
            have ke : w29.heap[w28.heap.size]? = some (.cells #[.int .i64 ek.1, .int .i64 ek.2.1, .int .i64 ek.2.2.1, .int .i64 ek.2.2.2.1, .string ek.2.2.2.2] 41 (0, 0)) := by rw [hw29]; exact heap_alloc_new _ _
            replace R_M := hide ((unhide R_M).later bw29)
            replace T_t := hide ((unhide T_t).later bw29)
            replace U_s := hide ((unhide U_s).later bw29)
            replace U_p := hide ((unhide U_p).later bw29)
            replace BB := hide ((unhide BB).trans (bw29.mono (unhide BB).size))
            clear bw29 hw29
            have lte : w28.heap.size < w29.heap.size := (Array.getElem?_eq_some_iff.1 ke).1
            obtain ⟨y0, y1, y2, y3, y4, -⟩ := blk_cells5 ke
            have ly0 := later_some (w := w29) lte y0
            have ly1 := later_some (w := w29) lte y1
            have ly2 := later_some (w := w29) lte y2
            have ly3 := later_some (w := w29) lte y3
            have ly4 := later_some (w := w29) lte y4
            clear ke y0 y1 y2 y3 y4
            obtain ⟨d3, hd3⟩ : ∃ d, (ek.2.1 == 1) = d := ⟨_, rfl⟩
            obtain ⟨d4, hd4⟩ : ∃ d, decide (ek.1 ≤ cm) = d := ⟨_, rfl⟩
            have hdo : oc = true → d3 = true → d4 = false := fun e1 e2 => by
              subst e1 e2
              have := pr_left (unhide OA') t (entR_true (unhide HE)) (by simpa using hd3)
              rw [unhide HCM] at this
              rw [← hd4]
              simp; omega
            cases oc
            · clear hdo
              skip
              refine wp_region_later (by kernel_rfl) (by kernel_rfl) ?_
              repeat (go_big_quiet_step (first
                | (go_at_call 14; exact Calls.later_of (icommon_any ta tn tc t k cm HCM _ (by omega) (unhide HLT) ((unhide T_t).later (later_below _ _ _))))))
              refine wpQuiet_nil ?_
              intro w30 bw30
              replace R_M := hide ((unhide R_M).later bw30)
              replace T_t := hide ((unhide T_t).later bw30)
              replace U_s := hide ((unhide U_s).later bw30)
              replace U_p := hide ((unhide U_p).later bw30)
              replace BB := hide ((unhide BB).trans (bw30.mono (unhide BB).size))
              clear bw30 ly0 ly1 ly2 ly3 ly4 lte
              go_wp2
              go_roundw
              case rel => exact ⟨k + 1, by omega, by go_num, unhide BB, unhide U_s, unhide U_p, unhide T_t, unhide R_M⟩
              case measure => simp [intOf]; omega
            · cases d3
              · clear hdo
                refine wp_region_later (by kernel_rfl) (by kernel_rfl) ?_
                repeat (go_big_quiet_step (first
                  | (go_at_call 14; exact Calls.later_of (icommon_any ta tn tc t k cm HCM _ (by omega) (unhide HLT) ((unhide T_t).later (later_below _ _ _))))))
                refine wpQuiet_nil ?_
                intro w31 bw31
                replace R_M := hide ((unhide R_M).later bw31)
                replace T_t := hide ((unhide T_t).later bw31)
                replace U_s := hide ((unhide U_s).later bw31)
                replace U_p := hide ((unhide U_p).later bw31)
                replace BB := hide ((unhide BB).trans (bw31.mono (unhide BB).size))
                clear bw31 ly0 ly1 ly2 ly3 ly4 lte
                go_wp2
                go_roundw
                case rel => exact ⟨k + 1, by omega, by go_num, unhide BB, unhide U_s, unhide U_p, unhide T_t, unhide R_M⟩
                case measure => simp [intOf]; omega
              · obtain rfl := hdo rfl rfl
                refine wp_region_later (by kernel_rfl) (by kernel_rfl) ?_
                repeat (go_big_quiet_step (first
                  | (go_at_call 14; exact Calls.later_of (icommon_any ta tn tc t k cm HCM _ (by omega) (unhide HLT) ((unhide T_t).later (later_below _ _ _))))))
                refine wpQuiet_nil ?_
                intro w32 bw32
                replace R_M := hide ((unhide R_M).later bw32)
                replace T_t := hide ((unhide T_t).later bw32)
                replace U_s := hide ((unhide U_s).later bw32)
                replace U_p := hide ((unhide U_p).later bw32)
                replace BB := hide ((unhide BB).trans (bw32.mono (unhide BB).size))
                clear bw32 ly0 ly1 ly2 ly3 ly4 lte
                go_wp2
                go_roundw
                case rel => exact ⟨k + 1, by omega, by go_num, unhide BB, unhide U_s, unhide U_p, unhide T_t, unhide R_M⟩
                case measure => simp [intOf]; omega
        · have hd : decide ((k : Int) < 5) = false := by simp; omega
          have HPA := hide (pr_again (unhide OA') t)
          have HQ1 : Hid ((prI (prI its fls t) (prF its fls t) t).length = n12) := hide (by rw [(unhide HPA).1]; exact unhide hn12)
          have HQ2 : Hid ((prF (prI its fls t) (prF its fls t) t).length = n13) := hide (by rw [(unhide HPA).2]; exact unhide hn13)
          have HLQ := hide (pr_leq (unhide OA') t)
          have HRR : Hid ((decide (prI (prI its fls t) (prF its fls t) t = prI its fls t) && decide (prF (prI its fls t) (prF its fls t) t = prF its fls t)) = true) := hide (by rw [(unhide HPA).1, (unhide HPA).2]; simp)
          obtain ⟨t0, ht0⟩ : ∃ t0, Hid (tx ((vw its fls).map wI ++ ([] : List Flr).map wF) = t0) := ⟨_, hide rfl⟩
          have ht1 : Hid (tx ((vw (prI its fls t) (prF its fls t)).map wI ++ ([] : List Flr).map wF) = t0) := hide (by rw [pr_vw (unhide OA')]; exact unhide ht0)
          have hq : (t0.toList == t0.toList) = true := by simp
          obtain ⟨z_p0, z_p1⟩ := (unhide U_p).cells
          obtain ⟨z_s0, z_s1⟩ := (unhide U_s).cells
          go_wp2_with fail
          go_region_held3 (fun W => Below wr.heap.size wr W ∧ W.cell? ⟨b_p, 0, none⟩ = some (.slice jaw14 n12 jcw14) ∧ W.cell? ⟨b_p, 1, none⟩ = some (.slice jbw14 n13 jdw14) ∧ W.cell? ⟨b_s, 0, none⟩ = some (.slice s1 s2 s3) ∧ W.cell? ⟨b_s, 1, none⟩ = some (.slice s4 s5 s6))
            (first | (with_reducible exact keep4 (unhide U_p).lt (unhide U_p).lt (unhide U_s).lt (unhide U_s).lt z_p0 z_p1 z_s0 z_s1 (Below.refl _ _)) | (with_reducible exact keep4 (unhide U_p).lt (unhide U_p).lt (unhide U_s).lt (unhide U_s).lt z_p0 z_p1 z_s0 z_s1 ((Below.refl _ _).drew)) | (with_reducible exact keep4 (unhide U_p).lt (unhide U_p).lt (unhide U_s).lt (unhide U_s).lt z_p0 z_p1 z_s0 z_s1 (by assumption)))
            (first
              | (go_at_call 16; refine (imarksok_any ma nm mc (mks its fls) true (hide (mks_ok _ _)) _ (by omega) ((unhide R_M).later (kb1 (by assumption)))).mono ?_; rintro e u1 ⟨rfl, b6⟩; have bu1 := kb2 (by assumption) b6; clear b6)
              | (go_at_call_of 17 (Value.agg #[Value.slice jaw14 n12 jcw14, Value.slice jbw14 n13 jdw14]); refine (ivt_v jaw14 n12 jcw14 (prI its fls t) jbw14 n13 jdw14 (prF its fls t) t0 ht1 _ (tab_later (unhide HT) ((unhide BB).trans ((kb1 (by assumption)).mono (unhide BB).size)) (tab_lt (unhide HT))) (by omega) (by omega) ?_ ?_).mono ?_; exact (unhide U_p).rI.later (kb1 (by assumption)); exact (unhide U_p).rF.later (kb1 (by assumption)); rintro e u2 ⟨rfl, b6⟩; have bu2 := kb2 (by assumption) b6; clear b6)
              | (go_at_call_of 17 (Value.agg #[Value.slice s1 s2 s3, Value.slice s4 s5 s6]); refine (ivt_v s1 s2 s3 its s4 s5 s6 fls t0 ht0 _ (tab_later (unhide HT) ((unhide BB).trans ((kb1 (by assumption)).mono (unhide BB).size)) (tab_lt (unhide HT))) (by omega) (by omega) ?_ ?_).mono ?_; exact (unhide U_s).rI.later (kb1 (by assumption)); exact (unhide U_s).rF.later (kb1 (by assumption)); rintro e u3 ⟨rfl, b6⟩; have bu3 := kb2 (by assumption) b6; clear b6)
              | (go_at_call 18; refine (ileq_any s1 s2 s3 its s4 s5 s6 fls jaw14 n12 jcw14 (prI its fls t) jbw14 n13 jdw14 (prF its fls t) true HLQ _ (by omega) (by omega) (by omega) (by omega) ?_ ?_ ?_ ?_).mono ?_; exact (unhide U_s).rI.later (kb1 (by assumption)); exact (unhide U_s).rF.later (kb1 (by assumption)); exact (unhide U_p).rI.later (kb1 (by assumption)); exact (unhide U_p).rF.later (kb1 (by assumption)); rintro e u4 ⟨rfl, b6⟩; have bu4 := kb2 (by assumption) b6; clear b6)
              | (go_at_call 7; refine (iprune_any jaw14 n12 jcw14 (prI its fls t) jbw14 n13 jdw14 (prF its fls t) ((unhide OA').pruned t).sml ta tn tc t n12 n13 HQ1 HQ2 _ (by omega) (by omega) (by omega) (unhide HLT) ?_ ?_ ?_).mono ?_; exact (unhide U_p).rI.later (kb1 (by assumption)); exact (unhide U_p).rF.later (kb1 (by assumption)); exact (unhide T_t).later (kb1 (by assumption)); rintro e u5 ⟨qa, qc, qb, qd, rfl, o1, o2, b6⟩; have R_1 := hide (o1.rw encI_len); have R_2 := hide (o2.rw encF_len); clear o1 o2; have bu5 := kb2 (by assumption) b6; clear b6)
              | (go_at_call 8; refine (ssame_any qa n12 qc (prI (prI its fls t) (prF its fls t) t) qb n13 qd (prF (prI its fls t) (prF its fls t) t) jaw14 n12 jcw14 (prI its fls t) jbw14 n13 jdw14 (prF its fls t) true HRR _ (by omega) (by omega) (by omega) (by omega) ?_ ?_ ?_ ?_).mono ?_; exact unhide R_1; exact unhide R_2; exact (unhide U_p).rI.later (kb1 (by assumption)); exact (unhide U_p).rF.later (kb1 (by assumption)); rintro e w33 ⟨rfl, b6⟩; have bw33 := kb2 (by assumption) b6; clear b6))
          clear z_p0 z_p1 z_s0 z_s1
          have BE := hide ((unhide BB).trans (bw33.mono (unhide BB).size))
          clear bw33
          go_wp2
          go_ret
          exact ⟨rfl, unhide BE⟩

theorem gTabType : (Tryz.prog.globals[1]?).map (·.type) = some 159 := by kernel_rfl
theorem cellsTab : Tryz.prog.cellsOf 159 = 20 := by kernel_rfl
theorem cellsU64 : Tryz.prog.cellsOf 137 = 1 := by kernel_rfl
/-- What the row's list gives: the table's cells hold the powers of ten. -/
theorem table {W : World} (h : laidMetH Tryz.prog Rows.fnMarksRow.laid W) : Lib.TabIs Tryz.prog W "internal/strconv.uint64pow10" .u64 Lib.pow10Tab := by
  have h2 := h.filter (fun x => x.1 == "internal/strconv.uint64pow10")
  have e : (Rows.fnMarksRow.laid.filter (fun x => x.1 == "internal/strconv.uint64pow10")) = [("internal/strconv.uint64pow10", Rows.laid_internal_strconv_uint64pow10)] := by kernel_rfl
  rw [e] at h2
  exact Lib.tabIs_of_head (rest := []) gPow gTabType Tryz.underlying159 Tryz.underlying137 cellsU64 cellsTab h2

set_option maxRecDepth 100000 in
theorem contract (H : Type) (enc : TypeId × Value → H) (W : World) (base : Nat) (args : Array Value) (ds gs : List (DataW H)) (before : List MemPlace)
    (hval0 : ∀ (j : Nat) t v, Tryz.f3.params[j]? = some t → args[j]? = some v → Value.okWide Tryz.prog W .any base t v)
    (hW : DataW.Whole enc Tryz.prog Tryz.f3.params.toList Rows.fnMarksSpec.vars false W args.toList ds gs before) (hL : laidMetH Tryz.prog Rows.fnMarksRow.laid W) :
    Calls Tryz.prog 3 args W fun e W' => ∃ v, e = .returned v ∧ Rows.fnMarksSpec.post enc Tryz.prog Tryz.f3 false true false false W args v W' := by
  have hval : ∀ (j : Nat) t v, Tryz.f3.params[j]? = some t → args[j]? = some v → Value.okWide Tryz.prog W .any base t v := hval0
  have hW' := hW
  obtain ⟨p, q, hA0, hV, rfl, hfz, hnd⟩ := hW
  have hA : DataW.TrodAll enc Tryz.prog W 0 (fun _ => true) true Tryz.f3.params.toList args.toList ds p := hA0
  rw [Tryz.params3] at hA hval
  obtain ⟨v0, vs0, d0, ds0, p0, q0, hargs0, rfl, rfl, h0, r0⟩ := trodAll_cons hA
  obtain ⟨rfl, rfl, rfl⟩ := trodAll_nil r0
  obtain rfl : args = #[v0] := by cases args; simp_all
  obtain ⟨rfl, rfl⟩ := trodVars_none hV
  have k0 := h0
  have lt0 : ∀ x ∈ p0, x.block < W.heap.size := by obtain ⟨m, hm⟩ := k0; exact DataW.trod_lt m _ _ _ hm
  obtain ⟨a0, l0, c0, rfl⟩ := okWide_slice Tryz.underlying22 (hval 0 22 v0 rfl rfl)
  obtain ⟨z0, w0⟩ : ∃ zs : List Int, (a0 = none ∧ l0 = 0 ∧ c0 = 0 ∧ zs = []) ∨ ∃ y, a0 = some y ∧ l0 ≤ c0 ∧ c0 ≤ maxLen ∧ zs.length = c0 ∧ (∀ i, i < zs.length → W.cell? (y.add i) = some (.int .u8 (zs.getD i 0))) ∧ ∀ n ∈ zs, (Lit.int .u8 n).wf = true := by
    obtain ⟨fuel, hf⟩ := h0
    rcases open_ints Tryz.underlying22 Tryz.underlying5 (by kernel_rfl) hf with ⟨hcs, _⟩ | ⟨x, l, c, zs, hcs, _, hl, hm, hz, _, hcell, hwz⟩
    · simp [Value.cells] at hcs
      obtain ⟨rfl, rfl, rfl⟩ := hcs
      exact ⟨[], .inl ⟨rfl, rfl, rfl, rfl⟩⟩
    · simp [Value.cells] at hcs
      obtain ⟨rfl, rfl, rfl⟩ := hcs
      exact ⟨zs, .inr ⟨_, rfl, hl, hm, by simpa using hz, hcell, hwz⟩⟩
  clear hA0 hval0
  refine (walk W a0 l0 c0 z0 w0 (table hL)).mono fun e W' ⟨he, bel⟩ => ?_
  subst he
  exact ⟨_, rfl, _, _, _, [], _, [], hW', trodAll_mk1 (shut_bool Tryz.underlying4 _), (trodAll_cons_mk (Below.trod laidOut (by kernel_rfl) (of_decide_eq_true (by kernel_rfl)) k0 bel lt0) trodAll_mk0), rfl, bel.frame _, fun h => by cases h⟩

theorem laid_met (os : Os) : laidMetH Tryz.prog Rows.fnMarksRow.laid ((World.doorLaid Tryz.prog 4000 os).forCall (fun _ _ => 0) ⟨#[], #[.slice none 0 0], []⟩).memory :=
  laidMetH_of_parts3 (fuel := 8) (laidMet_of_run' 8 (by kernel_rfl) (by kernel_rfl)) (by kernel_rfl) (by kernel_rfl)
theorem reads (os : Os) {H : Type} (enc : TypeId × Value → H) : ∃ places, DataW.whole enc Tryz.prog ((World.doorLaid Tryz.prog 4000 os).forCall (fun _ _ => 0) ⟨#[], #[.slice none 0 0], []⟩).memory Tryz.f3.params.toList Rows.fnMarksSpec.vars false (#[.slice none 0 0] : Array Value).toList 8 = some ([.nil], [], places) :=
  ⟨[], by kernel_rfl⟩

set_option maxRecDepth 100000 in
theorem lifted (os : Os) (started : os.Started) (H : Type) (enc : TypeId × Value → H) (F : Stop.Interp) :
    ReturnsInHanded {} Tryz.checked os 3 .any ((OpenSpec.ofChange Rows.fnMarksSpec).preRow enc Tryz.prog Tryz.f3 Rows.fnMarksRow.domain false Rows.fnMarksRow.laid) (((OpenSpec.ofChange Rows.fnMarksSpec).at F).post enc Tryz.prog Tryz.f3 false true false false) := by
  obtain ⟨places, hx⟩ := reads os enc
  refine returnsInHanded_of_row (C := Tryz.checked) (s := OpenSpec.ofChange Rows.fnMarksSpec) own started (by kernel_rfl) Tryz.func3
    (witness_row_at (enc := enc) (C := Tryz.checked) false (World.doorLaid Tryz.prog 4000 os) #[.slice none 0 0] rfl (by kernel_rfl) (by kernel_rfl) (by kernel_rfl)
      (OpenSpec.preRow_of_cond 8 hx (by kernel_rfl) (fun k hk => by cases hk) (by kernel_rfl) (laid_met os))) ?_
  intro W base args ds gs before hval hW _ _ _ hL _ _
  exact contract H enc W base args ds gs before hval hW hL

theorem said : Rows.FnMarksSaid :=
  OpenClaim.holds_of_cond 3 Tryz.f3 rfl rfl rfl rfl rfl rfl rfl ⟨rfl, rfl, rfl, rfl, rfl⟩ rfl rfl rfl rfl rfl (by kernel_rfl) Tryz.func3 (by kernel_rfl)
    (of_decide_eq_true (by kernel_rfl)) (by unfold Func.isWrapper; first | (rw [if_pos (by decide +kernel)]; kernel_rfl) | (rw [if_neg (by decide +kernel)]; exact ⟨rfl, rfl⟩))
    (fun os started H enc _ F => by rw [OpenClaim.pre_eq_preRow]; exact lifted os started H enc F)

theorem plain (f : FuncId) (fn : Func) (hf : Tryz.pinned.checked.prog.funcNamed "loop.example/g00487/laws.FnMarks" = some f) (hfn : Tryz.pinned.checked.prog.funcs[f]? = some fn) :
    false = Tryz.pinned.checked.prog.looks [] ∧ ∀ (j : Nat) t, fn.params[j]? = some t → Tryz.pinned.checked.prog.wantsStandIn t = false := by
  obtain rfl : f = 3 := Option.some.inj ((show Tryz.prog.funcNamed "loop.example/g00487/laws.FnMarks" = some 3 by kernel_rfl).symm.trans hf) |>.symm
  obtain rfl : fn = Tryz.f3 := (Option.some.inj (Tryz.func3.symm.trans hfn)).symm
  refine ⟨by kernel_rfl, fun j t ht => ?_⟩
  rw [Tryz.params3] at ht
  have hm : t ∈ [22] := by simpa using Array.mem_of_getElem? ht
  have hall : ([22].all fun u => !Tryz.prog.wantsStandIn u) = true := by kernel_rfl
  exact (show Tryz.prog.wantsStandIn t = false by simpa using List.all_eq_true.1 hall t hm)

theorem card : Rows.FnMarksCardSaid :=
  Claim7.holds_tied_plain_at .later [] _ _ _ _ said (fun _ h => by cases h) (by kernel_rfl) (fun _ h => by cases h) fnMarks_row_tie rfl ⟨rfl, rfl⟩ (by kernel_rfl) rfl plain (by kernel_rfl)
#print axioms card
end Go.Proofs.YtighiahppjekeaaGreatDoor.fnMarks
namespace Go.Proofs.YtighiahppjekeaaGreatDoor
theorem fnMarks_holds : Rows.FnMarksCardSaid := fnMarks.card
end Go.Proofs.YtighiahppjekeaaGreatDoor
