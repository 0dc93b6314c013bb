/-
  The draws of chapter 2: what is drawn are entries, with a text of at most nine bytes; nothing that was there turns but the cursor. No statement is proved here.
-/
import Derived.Test.YtdpaocikmijioabGreatDrawB
import Derived.Test.YtdpaocikmijioabGreatRegs
namespace Go.Proofs.YtdpaocikmijioabGreat
open Go.RowKit

theorem grown_alloc (w : World) (o : Obj) (r : Option Nat) : w.grownBy (w.alloc o) r := ⟨rfl, rfl, rfl, by simp, fun k hk _ => Below.heap_alloc w o k hk⟩
theorem grown_far {w W : World} {r : Option Nat} (h : w.grownBy W r) {a : Addr} (ha : w.heap.size ≤ a.block) (v : Value) : w.grownBy (W.setCell a v) r :=
  ⟨h.os, h.tape, h.output, by simpa using h.size, fun k hk hr => (Below.heap_setCell W a v k (by omega)).trans (h.block k hk hr)⟩
theorem cur_alloc {w : World} {g : Nat} {v : Value} {xs : List Int} (h : Cur w g v xs) (o : Obj) : Cur (w.alloc o) g v xs := h.later ((Below.refl w.heap.size w).alloc (Nat.le_refl _) o) (Nat.le_refl _)
theorem cur_lt {w : World} {g : Nat} {v : Value} {xs : List Int} (h : Cur w g v xs) : g < w.heap.size := by
  obtain ⟨⟨i, k, hg, _⟩, _⟩ := h
  exact (Array.getElem?_eq_some_iff.1 hg).1
/-- Another block than the cursor's is as it was. -/
theorem blk_grown {w w' : World} {g r : Nat} {o : Obj} (h : w.grownBy w' (some g)) (hr : w.heap[r]? = some o) (hne : r ≠ g) : w'.heap[r]? = some o :=
  (h.block r (Array.getElem?_eq_some_iff.1 hr).1 (by simpa using hne)).trans hr

theorem far5 {w W : World} {g : Option Nat} {r : Nat} (h : w.grownBy W g) (hr : w.heap.size ≤ r) (v0 v1 v2 v3 v4 : Value) : w.grownBy (((((W.setCell ⟨r, 0, none⟩ v0).setCell ⟨r, 1, none⟩ v1).setCell ⟨r, 2, none⟩ v2).setCell ⟨r, 3, none⟩ v3).setCell ⟨r, 4, none⟩ v4) g :=
  grown_far (grown_far (grown_far (grown_far (grown_far h (a := ⟨r, 0, none⟩) hr v0) (a := ⟨r, 1, none⟩) hr v1) (a := ⟨r, 2, none⟩) hr v2) (a := ⟨r, 3, none⟩) hr v3) (a := ⟨r, 4, none⟩) hr v4
theorem other5 {W : World} {r k : Nat} {v0 v1 v2 v3 v4 : Value} (hne : k ≠ r) : (((((W.setCell ⟨r, 0, none⟩ v0).setCell ⟨r, 1, none⟩ v1).setCell ⟨r, 2, none⟩ v2).setCell ⟨r, 3, none⟩ v3).setCell ⟨r, 4, none⟩ v4).heap[k]? = W.heap[k]? := by
  rw [heap_setCell_other _ _ _ _ hne, heap_setCell_other _ _ _ _ hne, heap_setCell_other _ _ _ _ hne, heap_setCell_other _ _ _ _ hne, heap_setCell_other _ _ _ _ hne]
theorem cur_far {w w5 W : World} {g : Nat} {v : Value} {xs : List Int} (h0 : Cur w g v xs) (h5 : Cur w5 g v xs) (hg : w.grownBy W (some g)) (he : W.heap[g]? = w5.heap[g]?) : Cur W g v xs := by
  obtain ⟨⟨i, k, e, hi⟩, _⟩ := h5
  exact ⟨⟨i, k, he.trans e, hi⟩, h0.2.1.grown hg h0.2.2, h0.2.2⟩
theorem ne_new {g k : Nat} (h : g < k) (n c : Nat) : ∀ a n' c', Value.slice (some ⟨k, 0, none⟩) n c = .slice (some a) n' c' → a.block ≠ g := by
  intro a n' c' e
  simp only [Value.slice.injEq, Option.some.injEq] at e
  rw [← e.1]
  show k ≠ g
  omega

set_option maxHeartbeats 4000000 in
set_option maxRecDepth 100000 in
theorem right_any (g : Nat) (v : Value) (xs : List Int) (w : World) (hlen : xs.length ≤ 1048576) (hbd : ∀ z ∈ xs, 0 ≤ z ∧ z ≤ 255) (hc : Cur w g v xs) :
    Calls Tryz.prog 103 #[.pointer (some ⟨g, 0, none⟩)] w fun e w' => (∃ ai ar ab av ad, e = .returned (.agg #[.int .i64 ai, .int .i64 ar, .int .i64 ab, .int .i64 av, .string ad]) ∧ ad.size ≤ 9) ∧ Cur w' g v xs ∧ w.grownBy w' (some g) := by
  have HD := hide hbd
  have HC := hide hc
  have hlt := cur_lt hc
  have C0 := hide (cur_alloc hc (.cells #[.int .i64 0, .int .i64 0, .int .i64 0, .int .i64 0, .string ⟨#[]⟩] 38))
  have M0 := hide (heap_alloc_new w (.cells #[.int .i64 0, .int .i64 0, .int .i64 0, .int .i64 0, .string ⟨#[]⟩] 38))
  have G0 := hide (grown_alloc w (.cells #[.int .i64 0, .int .i64 0, .int .i64 0, .int .i64 0, .string ⟨#[]⟩] 38) (some g))
  clear hbd hc
  go_enter Tryz.func103, Tryz.ntmps103
  go_wp2_with fail
  refine (below_any g v xs 3 _ hlen (unhide HD) (by omega) (by omega) (unhide C0)).mono ?_
  rintro e w1 ⟨⟨x1, rfl, x1a, x1b⟩, c1, g1⟩
  have C1 := hide c1
  have hs1 := g1.size
  simp only [World.size_alloc] at hs1
  have M1 := hide (blk_grown g1 (unhide M0) (by omega))
  have G1 := hide (grown_trans (unhide G0) g1)
  clear c1 g1 C0 M0 G0
  go_wp2_with fail
  refine (below_any g v xs 2 _ hlen (unhide HD) (by omega) (by omega) (unhide C1)).mono ?_
  rintro e w2 ⟨⟨x2, rfl, x2a, x2b⟩, c2, g2⟩
  have C2 := hide c2
  have hs2 := g2.size
  have M2 := hide (blk_grown g2 (unhide M1) (by omega))
  have G2 := hide (grown_trans (unhide G1) g2)
  clear c2 g2 C1 M1 G1
  go_wp2_with fail
  refine (below_any g v xs 3 _ hlen (unhide HD) (by omega) (by omega) (unhide C2)).mono ?_
  rintro e w3 ⟨⟨x3, rfl, x3a, x3b⟩, c3, g3⟩
  have C3 := hide c3
  have hs3 := g3.size
  have M3 := hide (blk_grown g3 (unhide M2) (by omega))
  have G3 := hide (grown_trans (unhide G2) g3)
  clear c3 g3 C2 M2 G2
  go_wp2_with fail
  refine (below_any g v xs 3 _ hlen (unhide HD) (by omega) (by omega) (unhide C3)).mono ?_
  rintro e w4 ⟨⟨x4, rfl, x4a, x4b⟩, c4, g4⟩
  have C4 := hide c4
  have hs4 := g4.size
  have M4 := hide (blk_grown g4 (unhide M3) (by omega))
  have G4 := hide (grown_trans (unhide G3) g4)
  clear c4 g4 C3 M3 G3
  go_wp2_with fail
  have SG := hide (seg_new w4 9 [.string ⟨#[]⟩, .string ⟨#[97]⟩, .string ⟨#[98]⟩, .string ⟨#[97, 98]⟩, .string ⟨#[49, 50, 51, 52, 53, 54, 55, 56]⟩] 5 rfl (by decide))
  refine (pick_any g v xs (.slice (some ⟨w4.heap.size, 0, none⟩) 5 5) [.string ⟨#[]⟩, .string ⟨#[97]⟩, .string ⟨#[98]⟩, .string ⟨#[97, 98]⟩, .string ⟨#[49, 50, 51, 52, 53, 54, 55, 56]⟩] (w4.alloc (.cells ([.string ⟨#[]⟩, .string ⟨#[97]⟩, .string ⟨#[98]⟩, .string ⟨#[97, 98]⟩, .string ⟨#[49, 50, 51, 52, 53, 54, 55, 56]⟩] : List Value).toArray 9)) hlen (unhide HD) (cur_alloc (unhide C4) _) (unhide SG) (ne_new (by omega) _ _) (by decide) (by decide)).mono ?_
  rintro e w5 ⟨⟨c, hcm, rfl⟩, c5, g5⟩
  have C5 := hide c5
  have hs5 := g5.size
  simp only [World.size_alloc] at hs5
  have M5 := hide (blk_grown g5 ((Below.heap_alloc _ _ _ (by omega)).trans (unhide M4)) (by omega))
  have G5 := hide (grown_trans (grown_trans (unhide G4) (grown_alloc _ _ _)) g5)
  clear c5 g5 C4 M4 G4 SG
  have hn : ∃ d, c = .string d ∧ d.size ≤ 9 := by
    simp only [List.mem_cons, List.not_mem_nil, or_false] at hcm
    rcases hcm with rfl | rfl | rfl | rfl | rfl
    all_goals exact ⟨_, rfl, by decide⟩
  obtain ⟨d, rfl, hd9⟩ := hn
  have HN := hide hd9
  obtain ⟨p0, p1, p2, p3, p4, p5⟩ := blk_cells5 (unhide M5)
  clear hcm hd9
  go_wp2
  have hG := far5 (unhide G5) (Nat.le_refl _) (.int .i64 (1 + x1)) (.int .i64 x2) (.int .i64 x3) (.int .i64 x4) (.string d)
  exact bodyPost_ret (v := .agg #[.int .i64 (1 + x1), .int .i64 x2, .int .i64 x3, .int .i64 x4, .string d]) (by simp [results, Tryz.results103, go_sem, p0, p1, p2, p3, p4]) rfl ⟨⟨_, _, _, _, _, rfl, unhide HN⟩, cur_far (unhide HC) (unhide C5) hG (other5 (by omega)), hG⟩

set_option maxHeartbeats 4000000 in
set_option maxRecDepth 100000 in
theorem draw_any (g : Nat) (v : Value) (xs : List Int) (w : World) (hlen : xs.length ≤ 1048576) (hbd : ∀ z ∈ xs, 0 ≤ z ∧ z ≤ 255) (hc : Cur w g v xs) :
    Calls Tryz.prog 71 #[.pointer (some ⟨g, 0, none⟩)] w fun e w' => (∃ ai ar ab av ad, e = .returned (.agg #[.int .i64 ai, .int .i64 ar, .int .i64 ab, .int .i64 av, .string ad]) ∧ ad.size ≤ 9) ∧ Cur w' g v xs ∧ w.grownBy w' (some g) := by
  have HD := hide hbd
  have HC := hide hc
  have hlt := cur_lt hc
  have C0 := hide (cur_alloc hc (.cells #[.int .i64 0, .int .i64 0, .int .i64 0, .int .i64 0, .string ⟨#[]⟩] 38))
  have M0 := hide (heap_alloc_new w (.cells #[.int .i64 0, .int .i64 0, .int .i64 0, .int .i64 0, .string ⟨#[]⟩] 38))
  have G0 := hide (grown_alloc w (.cells #[.int .i64 0, .int .i64 0, .int .i64 0, .int .i64 0, .string ⟨#[]⟩] 38) (some g))
  clear hbd hc
  go_enter Tryz.func71, Tryz.ntmps71
  go_wp2_with fail
  refine (right_any g v xs _ hlen (unhide HD) (unhide C0)).mono ?_
  rintro e w1 ⟨⟨ai, ar, ab, av, ad, rfl, hd9⟩, c1, g1⟩
  have hs1 := g1.size
  simp only [World.size_alloc] at hs1
  have HN := hide hd9
  have C1 := hide (cur_alloc c1 (.cells #[.int .i64 ai, .int .i64 ar, .int .i64 ab, .int .i64 av, .string ad] 38))
  have M1 := hide ((Below.heap_alloc w1 (.cells #[.int .i64 ai, .int .i64 ar, .int .i64 ab, .int .i64 av, .string ad] 38) _ (by omega)).trans (blk_grown g1 (unhide M0) (by omega)))
  have E1 := hide (heap_alloc_new w1 (.cells #[.int .i64 ai, .int .i64 ar, .int .i64 ab, .int .i64 av, .string ad] 38))
  have G1 := hide (grown_trans (grown_trans (unhide G0) g1) (grown_alloc w1 (.cells #[.int .i64 ai, .int .i64 ar, .int .i64 ab, .int .i64 av, .string ad] 38) (some g)))
  clear c1 g1 C0 M0 G0 hd9
  go_wp2_with fail
  refine (below_any g v xs 14 _ hlen (unhide HD) (by omega) (by omega) (unhide C1)).mono ?_
  rintro e w2 ⟨⟨x2, rfl, x2a, x2b⟩, c2, g2⟩
  have C2 := hide c2
  have hs2 := g2.size
  simp only [World.size_alloc] at hs2
  have M2 := hide (blk_grown g2 (unhide M1) (by omega))
  have E2 := hide (blk_grown g2 (unhide E1) (by omega))
  have G2 := hide (grown_trans (unhide G1) g2)
  clear c2 g2 C1 M1 E1 G1
  by_cases h0 : x2 = 0
  · subst h0
    go_wp2_with fail
    have SG := hide (seg_new w2 3 [.int .i64 0, .int .i64 1000, .int .i64 1001, .int .i64 (-1)] 4 rfl (by decide))
    refine (pickint_any g v xs (.slice (some ⟨w2.heap.size, 0, none⟩) 4 4) [.int .i64 0, .int .i64 1000, .int .i64 1001, .int .i64 (-1)] (w2.alloc (.cells ([.int .i64 0, .int .i64 1000, .int .i64 1001, .int .i64 (-1)] : List Value).toArray 3)) hlen (unhide HD) (cur_alloc (unhide C2) _) (unhide SG) (ne_new (by omega) _ _) (by decide) (by decide)).mono ?_
    rintro e w3 ⟨⟨c, hcm, rfl⟩, c3, g3⟩
    have C3 := hide c3
    have hs3 := g3.size
    simp only [World.size_alloc] at hs3
    have M3 := hide (blk_grown g3 ((Below.heap_alloc _ _ _ (by omega)).trans (unhide M2)) (by omega))
    have E3 := hide (blk_grown g3 ((Below.heap_alloc _ _ _ (by omega)).trans (unhide E2)) (by omega))
    have G3 := hide (grown_trans (grown_trans (unhide G2) (grown_alloc _ _ _)) g3)
    clear c3 g3 C2 M2 E2 G2 SG
    have hn : ∃ n, c = .int .i64 n := by
      simp only [List.mem_cons, List.not_mem_nil, or_false] at hcm
      rcases hcm with rfl | rfl | rfl | rfl
      all_goals exact ⟨_, rfl⟩
    obtain ⟨n, rfl⟩ := hn
    clear hcm
    obtain ⟨p0, p1, p2, p3, p4, p5⟩ := blk_cells5 (unhide M3)
    obtain ⟨q0, q1, q2, q3, q4, q5⟩ := blk_cells5 (unhide E3)
    go_wp2
    have hG := far5 (grown_far (unhide G3) (a := ⟨w1.heap.size, 0, none⟩) (by show w.heap.size ≤ w1.heap.size; omega) (.int .i64 n)) (Nat.le_refl _) (.int .i64 n) (.int .i64 ar) (.int .i64 ab) (.int .i64 av) (.string ad)
    exact bodyPost_ret (v := .agg #[.int .i64 n, .int .i64 ar, .int .i64 ab, .int .i64 av, .string ad]) (by simp [results, Tryz.results71, go_sem, p0, p1, p2, p3, p4]) rfl ⟨⟨_, _, _, _, _, rfl, unhide HN⟩, cur_far (unhide HC) (unhide C3) hG ((other5 (by omega)).trans (heap_setCell_other _ _ _ _ (by show g ≠ w1.heap.size; omega))), hG⟩
  have e0 : (x2 == 0) = false := by simpa using h0
  by_cases h1 : x2 = 1
  · subst h1
    go_wp2_with fail
    have SG := hide (seg_new w2 3 [.int .i64 (-1), .int .i64 2] 2 rfl (by decide))
    refine (pickint_any g v xs (.slice (some ⟨w2.heap.size, 0, none⟩) 2 2) [.int .i64 (-1), .int .i64 2] (w2.alloc (.cells ([.int .i64 (-1), .int .i64 2] : List Value).toArray 3)) hlen (unhide HD) (cur_alloc (unhide C2) _) (unhide SG) (ne_new (by omega) _ _) (by decide) (by decide)).mono ?_
    rintro e w3 ⟨⟨c, hcm, rfl⟩, c3, g3⟩
    have C3 := hide c3
    have hs3 := g3.size
    simp only [World.size_alloc] at hs3
    have M3 := hide (blk_grown g3 ((Below.heap_alloc _ _ _ (by omega)).trans (unhide M2)) (by omega))
    have E3 := hide (blk_grown g3 ((Below.heap_alloc _ _ _ (by omega)).trans (unhide E2)) (by omega))
    have G3 := hide (grown_trans (grown_trans (unhide G2) (grown_alloc _ _ _)) g3)
    clear c3 g3 C2 M2 E2 G2 SG
    have hn : ∃ n, c = .int .i64 n := by
      simp only [List.mem_cons, List.not_mem_nil, or_false] at hcm
      rcases hcm with rfl | rfl
      all_goals exact ⟨_, rfl⟩
    obtain ⟨n, rfl⟩ := hn
    clear hcm
    obtain ⟨p0, p1, p2, p3, p4, p5⟩ := blk_cells5 (unhide M3)
    obtain ⟨q0, q1, q2, q3, q4, q5⟩ := blk_cells5 (unhide E3)
    go_wp2
    have hG := far5 (grown_far (unhide G3) (a := ⟨w1.heap.size, 1, none⟩) (by show w.heap.size ≤ w1.heap.size; omega) (.int .i64 n)) (Nat.le_refl _) (.int .i64 ai) (.int .i64 n) (.int .i64 ab) (.int .i64 av) (.string ad)
    exact bodyPost_ret (v := .agg #[.int .i64 ai, .int .i64 n, .int .i64 ab, .int .i64 av, .string ad]) (by simp [results, Tryz.results71, go_sem, p0, p1, p2, p3, p4]) rfl ⟨⟨_, _, _, _, _, rfl, unhide HN⟩, cur_far (unhide HC) (unhide C3) hG ((other5 (by omega)).trans (heap_setCell_other _ _ _ _ (by show g ≠ w1.heap.size; omega))), hG⟩
  have e1 : (x2 == 1) = false := by simpa using h1
  by_cases h2 : x2 = 2
  · subst h2
    go_wp2_with fail
    have SG := hide (seg_new w2 3 [.int .i64 (-1), .int .i64 100000, .int .i64 100001] 3 rfl (by decide))
    refine (pickint_any g v xs (.slice (some ⟨w2.heap.size, 0, none⟩) 3 3) [.int .i64 (-1), .int .i64 100000, .int .i64 100001] (w2.alloc (.cells ([.int .i64 (-1), .int .i64 100000, .int .i64 100001] : List Value).toArray 3)) hlen (unhide HD) (cur_alloc (unhide C2) _) (unhide SG) (ne_new (by omega) _ _) (by decide) (by decide)).mono ?_
    rintro e w3 ⟨⟨c, hcm, rfl⟩, c3, g3⟩
    have C3 := hide c3
    have hs3 := g3.size
    simp only [World.size_alloc] at hs3
    have M3 := hide (blk_grown g3 ((Below.heap_alloc _ _ _ (by omega)).trans (unhide M2)) (by omega))
    have E3 := hide (blk_grown g3 ((Below.heap_alloc _ _ _ (by omega)).trans (unhide E2)) (by omega))
    have G3 := hide (grown_trans (grown_trans (unhide G2) (grown_alloc _ _ _)) g3)
    clear c3 g3 C2 M2 E2 G2 SG
    have hn : ∃ n, c = .int .i64 n := by
      simp only [List.mem_cons, List.not_mem_nil, or_false] at hcm
      rcases hcm with rfl | rfl | rfl
      all_goals exact ⟨_, rfl⟩
    obtain ⟨n, rfl⟩ := hn
    clear hcm
    obtain ⟨p0, p1, p2, p3, p4, p5⟩ := blk_cells5 (unhide M3)
    obtain ⟨q0, q1, q2, q3, q4, q5⟩ := blk_cells5 (unhide E3)
    go_wp2
    have hG := far5 (grown_far (unhide G3) (a := ⟨w1.heap.size, 2, none⟩) (by show w.heap.size ≤ w1.heap.size; omega) (.int .i64 n)) (Nat.le_refl _) (.int .i64 ai) (.int .i64 ar) (.int .i64 n) (.int .i64 av) (.string ad)
    exact bodyPost_ret (v := .agg #[.int .i64 ai, .int .i64 ar, .int .i64 n, .int .i64 av, .string ad]) (by simp [results, Tryz.results71, go_sem, p0, p1, p2, p3, p4]) rfl ⟨⟨_, _, _, _, _, rfl, unhide HN⟩, cur_far (unhide HC) (unhide C3) hG ((other5 (by omega)).trans (heap_setCell_other _ _ _ _ (by show g ≠ w1.heap.size; omega))), hG⟩
  have e2 : (x2 == 2) = false := by simpa using h2
  by_cases h3 : x2 = 3
  · subst h3
    go_wp2_with fail
    have SG := hide (seg_new w2 3 [.int .i64 (-1), .int .i64 1000, .int .i64 1001] 3 rfl (by decide))
    refine (pickint_any g v xs (.slice (some ⟨w2.heap.size, 0, none⟩) 3 3) [.int .i64 (-1), .int .i64 1000, .int .i64 1001] (w2.alloc (.cells ([.int .i64 (-1), .int .i64 1000, .int .i64 1001] : List Value).toArray 3)) hlen (unhide HD) (cur_alloc (unhide C2) _) (unhide SG) (ne_new (by omega) _ _) (by decide) (by decide)).mono ?_
    rintro e w3 ⟨⟨c, hcm, rfl⟩, c3, g3⟩
    have C3 := hide c3
    have hs3 := g3.size
    simp only [World.size_alloc] at hs3
    have M3 := hide (blk_grown g3 ((Below.heap_alloc _ _ _ (by omega)).trans (unhide M2)) (by omega))
    have E3 := hide (blk_grown g3 ((Below.heap_alloc _ _ _ (by omega)).trans (unhide E2)) (by omega))
    have G3 := hide (grown_trans (grown_trans (unhide G2) (grown_alloc _ _ _)) g3)
    clear c3 g3 C2 M2 E2 G2 SG
    have hn : ∃ n, c = .int .i64 n := by
      simp only [List.mem_cons, List.not_mem_nil, or_false] at hcm
      rcases hcm with rfl | rfl | rfl
      all_goals exact ⟨_, rfl⟩
    obtain ⟨n, rfl⟩ := hn
    clear hcm
    obtain ⟨p0, p1, p2, p3, p4, p5⟩ := blk_cells5 (unhide M3)
    obtain ⟨q0, q1, q2, q3, q4, q5⟩ := blk_cells5 (unhide E3)
    go_wp2
    have hG := far5 (grown_far (unhide G3) (a := ⟨w1.heap.size, 3, none⟩) (by show w.heap.size ≤ w1.heap.size; omega) (.int .i64 n)) (Nat.le_refl _) (.int .i64 ai) (.int .i64 ar) (.int .i64 ab) (.int .i64 n) (.string ad)
    exact bodyPost_ret (v := .agg #[.int .i64 ai, .int .i64 ar, .int .i64 ab, .int .i64 n, .string ad]) (by simp [results, Tryz.results71, go_sem, p0, p1, p2, p3, p4]) rfl ⟨⟨_, _, _, _, _, rfl, unhide HN⟩, cur_far (unhide HC) (unhide C3) hG ((other5 (by omega)).trans (heap_setCell_other _ _ _ _ (by show g ≠ w1.heap.size; omega))), hG⟩
  have e3 : (x2 == 3) = false := by simpa using h3
  by_cases h4 : x2 = 4
  · subst h4
    obtain ⟨p0, p1, p2, p3, p4, p5⟩ := blk_cells5 (unhide M2)
    obtain ⟨q0, q1, q2, q3, q4, q5⟩ := blk_cells5 (unhide E2)
    go_wp2
    have hG := far5 (grown_far (unhide G2) (a := ⟨w1.heap.size, 4, none⟩) (by show w.heap.size ≤ w1.heap.size; omega) (.string ⟨#[49, 50, 51, 52, 53, 54, 55, 56, 57]⟩)) (Nat.le_refl _) (.int .i64 ai) (.int .i64 ar) (.int .i64 ab) (.int .i64 av) (.string ⟨#[49, 50, 51, 52, 53, 54, 55, 56, 57]⟩)
    exact bodyPost_ret (v := .agg #[.int .i64 ai, .int .i64 ar, .int .i64 ab, .int .i64 av, .string ⟨#[49, 50, 51, 52, 53, 54, 55, 56, 57]⟩]) (by simp [results, Tryz.results71, go_sem, p0, p1, p2, p3, p4]) rfl ⟨⟨_, _, _, _, _, rfl, by decide⟩, cur_far (unhide HC) (unhide C2) hG ((other5 (by omega)).trans (heap_setCell_other _ _ _ _ (by show g ≠ w1.heap.size; omega))), hG⟩
  have e4 : (x2 == 4) = false := by simpa using h4
  obtain ⟨p0, p1, p2, p3, p4, p5⟩ := blk_cells5 (unhide M2)
  obtain ⟨q0, q1, q2, q3, q4, q5⟩ := blk_cells5 (unhide E2)
  go_wp2
  have hG := far5 (unhide G2) (Nat.le_refl _) (.int .i64 ai) (.int .i64 ar) (.int .i64 ab) (.int .i64 av) (.string ad)
  exact bodyPost_ret (v := .agg #[.int .i64 ai, .int .i64 ar, .int .i64 ab, .int .i64 av, .string ad]) (by simp [results, Tryz.results71, go_sem, p0, p1, p2, p3, p4]) rfl ⟨⟨_, _, _, _, _, rfl, unhide HN⟩, cur_far (unhide HC) (unhide C2) hG (other5 (by omega)), hG⟩

end Go.Proofs.YtdpaocikmijioabGreat
