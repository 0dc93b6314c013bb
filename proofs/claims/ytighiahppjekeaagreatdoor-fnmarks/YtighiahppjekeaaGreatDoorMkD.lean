/-
  A state and a table are drawn, which may have heard of the state. No statement is proved here.
-/
import Derived.Test.YtighiahppjekeaaGreatDoorL9
import Derived.Test.YtighiahppjekeaaGreatDoorL6D
import Derived.Test.YtighiahppjekeaaGreatDoorTbW
namespace Go.Proofs.YtighiahppjekeaaGreatDoor
open Go.RowKit

theorem le_add {t : Tb} (h : ∀ r ∈ t, r.length ≤ 5) (k : Int) (ms : List Flr) : ∀ r ∈ addT t k ms, r.length ≤ 5 := fun s hs => by
  obtain ⟨i, hi, rfl⟩ := List.getElem_of_mem hs
  have hi2 : i < t.length := by rw [addT_len] at hi; exact hi
  have := (addT_ge (List.getElem?_eq_getElem hi2) (List.getElem?_eq_getElem hi)).1
  rw [this]
  exact h _ (List.getElem_mem hi2)
set_option maxHeartbeats 8000000 in
set_option maxRecDepth 100000 in
theorem drawprune_any (v : Value) (xs : List Int) (w : World) (hlen : xs.length ≤ 1048576) (hbd : ∀ z ∈ xs, 0 ≤ z ∧ z ≤ 255) (hv : Seg w v xs) :
    Calls Tryz.prog 6 #[v] w fun e w' => ∃ a1 n1 c1 a2 n2 c2 its fls ta tn tc t, e = .returned (.tuple #[.agg #[.slice a1 n1 c1, .slice a2 n2 c2], .slice ta tn tc]) ∧ tn ≤ 4 ∧ (∀ r ∈ t, r.length ≤ 5) ∧ RwG w' (.slice ta tn tc) t ∧ T3 w w' (.slice a1 n1 c1) (.slice a2 n2 c2) its fls := by
  have HD := hide hbd
  have bA : Below w.heap.size w (w.alloc (StB (.slice none 0 0) (.slice none 0 0))) := (Below.refl _ _).alloc (Nat.le_refl _) _
  have HS := hide (hv.below bA (Nat.le_refl _))
  have BA := hide bA
  clear hbd hv bA
  go_enter Tryz.func6, Tryz.ntmps6
  go_wp2_with fail
  refine (new_any v xs _ hlen (unhide HD) (unhide HS)).mono ?_
  rintro e w1 ⟨rfl, c1, b1, s1⟩
  have hw0 : (w.alloc (StB (.slice none 0 0) (.slice none 0 0))).heap.size = w.heap.size + 1 := by simp
  have B1 := hide ((unhide BA).trans (b1.mono (by rw [hw0]; omega)))
  have K1 := hide ((b1.block _ (by rw [hw0]; omega)).trans (heap_alloc_new w _))
  rw [hw0] at c1 s1
  have C1 := hide c1
  obtain ⟨g, hg⟩ : ∃ g, g = w.heap.size + 1 := ⟨_, rfl⟩
  rw [hw0, ← hg]
  rw [← hg] at C1
  have hgA : w.heap.size < g := by omega
  clear hg c1 b1 s1 hw0 HS BA
  go_wp2_with fail
  refine (l3draw_any g v xs _ hlen (unhide HD) (unhide C1)).mono ?_
  rintro e w2 ⟨a1, n1, c1, a2, n2, c2, its, fls, rfl, d⟩
  go_upto_region 3 with fail
  obtain ⟨wa, hwa⟩ : ∃ W, W = w2.alloc (StB (.slice a1 n1 c1) (.slice a2 n2 c2)) := ⟨_, rfl⟩
  obtain ⟨b, hb⟩ : ∃ b, b = w2.heap.size := ⟨_, rfl⟩
  rw [← hwa, ← hb]
  have hgb : g < b := by rw [hb]; exact Nat.lt_of_lt_of_le (cur_lt (unhide C1)) d.gr.size
  have Q := hide (show Q6 w wa g v xs b (.slice a1 n1 c1) (.slice a2 n2 c2) its fls from by
    have t := T3.of_draw (unhide B1) (by omega) d
    have bl : Below w2.heap.size w2 wa := by rw [hwa]; exact (Below.refl _ _).alloc (Nat.le_refl _) _
    exact ⟨t.bel.trans (bl.mono t.bel.size), d.cu.later bl (Nat.le_refl _), hgA, hgb, (bl.block _ (by have := (Array.getElem?_eq_some_iff.1 (blk_grown d.gr (unhide K1) (by omega))).1; omega)).trans (blk_grown d.gr (unhide K1) (by omega)), by rw [hwa, hb]; exact heap_alloc_new _ _, t.oi.later bl, t.of.later bl, t.li, t.lf, t.ni⟩)
  clear d hwa hb C1 B1 K1
  have hbl := (unhide Q).bl
  have hbw : w.heap.size < b := by omega
  go_wp2_with fail
  refine (l9draw_any g v xs wa hlen (unhide HD) (unhide Q).cu).mono ?_
  rintro e w3 ⟨ta, tn, tc, t, rfl, htn, hle, q9⟩
  have Q3 := hide ((unhide Q).call q9.cur q9.grw)
  have O3 := hide (q9.own.mono (show g + 1 ≤ wa.heap.size by omega) (Nat.le_refl _))
  have HLE := hide hle
  clear q9 hle Q hbl
  go_wp2_with fail
  refine (once_any g v xs 2 w3 hlen (unhide HD) (by omega) (by omega) (unhide Q3).cu).mono ?_
  rintro e w4 ⟨⟨r, rfl⟩, c4, g4⟩
  have Q4 := hide ((unhide Q3).call c4 g4)
  have O4 := hide (((unhide O3).trn (Trn.of_grown g4) (fun i e => by cases e; omega)).mono (Nat.le_refl _) g4.size)
  clear c4 g4 Q3 O3
  cases r
  · obtain ⟨p0, p1⟩ := kQ6 Q4
    obtain ⟨r0, r1, rz⟩ := blk_cells2 (unhide Q4).k0
    have hbl := (unhide Q4).bl
    have RW := hide (((unhide O4).trn (Trn.of_grown (grown_set2 w4 w.heap.size (.slice a1 n1 c1) (.slice a2 n2 c2))) (fun i e => by cases e; omega)).rw)
    go_wp2
    exact bodyPost_ret (v := .tuple #[.agg #[.slice a1 n1 c1, .slice a2 n2 c2], .slice ta tn tc]) (by simp [results, Tryz.results6, go_sem, r0, r1]) rfl ⟨_, _, _, _, _, _, _, _, _, _, _, t, rfl, htn, unhide HLE, unhide RW, (unhide Q4).fin⟩
  · have hn1 : n1 ≤ 6 := by rw [((unhide Q4).oi.rw encI_len).len.1]; exact (unhide Q4).li
    have hn2 : n2 ≤ 6 := by rw [((unhide Q4).of.rw encF_len).len.1]; exact (unhide Q4).lf
    go_wp2
    go_loopw [6, 7] (fun u i wr => ∃ (k : Nat) (a : Option Addr) (c : Nat) (t : Tb), k ≤ tn ∧ i = .int .i64 k ∧ u = .slice a tn c ∧ (∀ r ∈ t, r.length ≤ 5) ∧ OwG (g + 1) wr.heap.size wr (.slice a tn c) t ∧ Q6 w wr g v xs b (.slice a1 n1 c1) (.slice a2 n2 c2) its fls) (fun _ i _ => tn - (intOf i).toNat)
    case atStart => exact ⟨0, _, _, t, Nat.zero_le _, rfl, rfl, unhide HLE, unhide O4, unhide Q4⟩
    case round =>
      obtain ⟨k, a, c, t, hk, rfl, rfl, hle, ho, hq⟩ := hrel
      have HLK := hide hle
      have O5 := hide ho
      have Q5 := hide hq
      clear hle ho hq HLE O4 Q4
      obtain ⟨p0, p1⟩ := kQ6 Q5
      have hbl := (unhide Q5).bl
      by_cases hlt : k < tn
      · go_wp2_with fail
        clear p0 p1
        refine (smarksof_any a1 n1 c1 its a2 n2 c2 fls wr (by omega) (by omega) ((unhide Q5).oi.rw encI_len) ((unhide Q5).of.rw encF_len)).mono ?_
        rintro e w6 ⟨ma, mc, rfl, o6, b6⟩
        have RM := hide (o6.rw encF_len)
        have hml := mks_len its fls
        have Q6 := hide ((unhide Q5).later b6)
        have O6 := hide (((unhide O5).later b6).mono (Nat.le_refl _) b6.size)
        have htt : totG t ≤ 20 := by
          have h1 := (unhide O6).rw.len.1
          have h2 := tot_le5 (unhide HLK)
          omega
        have hs6 : g + 1 ≤ w6.heap.size := by have := (unhide Q6).gl; omega
        clear o6 b6 Q5 O5
        go_wp2_with fail
        refine (stableadd_any a tn c t (k : Int) ma _ mc (mks its fls) w6 (by omega) (by omega) (by omega) (unhide O6).rw (unhide RM)).mono ?_
        rintro e w7 ⟨a', c', rfl, o7, b7⟩
        have Q7 := hide ((unhide Q6).later b7)
        have O7 := hide (o7.mono hs6 (Nat.le_refl _))
        have HL7 := hide (le_add (unhide HLK) (k : Int) (mks its fls))
        clear o7 b7 Q6 O6 RM
        go_wp2
        go_roundw
        case rel => exact ⟨k + 1, _, _, _, by omega, by go_num, rfl, unhide HL7, unhide O7, unhide Q7⟩
        case measure => simp [intOf]; omega
      · obtain ⟨r0, r1, rz⟩ := blk_cells2 (unhide Q5).k0
        have RW := hide (((unhide O5).trn (Trn.of_grown (grown_set2 wr w.heap.size (.slice a1 n1 c1) (.slice a2 n2 c2))) (fun i e => by cases e; omega)).rw)
        go_wp2
        exact bodyPost_ret (v := .tuple #[.agg #[.slice a1 n1 c1, .slice a2 n2 c2], .slice a tn c]) (by simp [results, Tryz.results6, go_sem, r0, r1]) rfl ⟨_, _, _, _, _, _, _, _, _, _, _, t, rfl, htn, unhide HLK, unhide RW, (unhide Q5).fin⟩
end Go.Proofs.YtighiahppjekeaaGreatDoor
