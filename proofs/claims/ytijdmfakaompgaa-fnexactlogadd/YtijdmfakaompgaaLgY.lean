/-
  impl.LogAdd: a change is logged. No statement is proved here.
-/
import Derived.Test.YtijdmfakaompgaaLgX
namespace Go.Proofs.Ytijdmfakaompgaa
open Go.RowKit

set_option maxHeartbeats 8000000 in
set_option maxRecDepth 100000 in
theorem ilogadd_any (c f : Int) (a : Option Addr) (n cap : Nat) (ss : List Sta) (ai : Option Addr) (ni ci : Nat) (xs : List Itm) (af : Option Addr) (nf cf : Nat) (fs : List Flr) (r : Bool) (h0 : Hid (lar c f ss (xs, fs) = r)) (f1 : Int) (ss1 : List Sta) (h1 : Hid (lad r c f ss (xs, fs) = (f1, ss1))) (m : Nat) (hm : Hid (m = ss1.length)) (hS : SmlS ss) (hSd : Sml xs) (w : World) (hn : n ≤ 1048576) (ht : tot ss ≤ 1048576) (hni : ni ≤ 1048576) (hnf : nf ≤ 1048576) (hx : RwS w (.slice a n cap) ss) (hd : Rw encI 6 w (.slice ai ni ci) xs) (he : Rw encF 2 w (.slice af nf cf) fs) :
    Calls Try.prog 19 #[LgV c f (.slice a n cap), .agg #[.slice ai ni ci, .slice af nf cf]] w fun e w' => ∃ a' c', e = .returned (.tuple #[LgV c f1 (.slice a' m c'), .bool r]) ∧ OwS w.heap.size w'.heap.size w' (.slice a' m c') ss1 ∧ Below w.heap.size w w' := by
  obtain ⟨i0, hi, hz0, hz1, hz2⟩ := info_parts Try.infoState
  have HX := hide hx
  have HL := hide hx.len.1
  have HD := hide hd
  have HE0 := hide he
  have HS := hide hS
  have HSd := hide hSd
  obtain ⟨ok, hok⟩ : ∃ ok, lok c f ss = ok := ⟨_, rfl⟩
  obtain ⟨q, hq⟩ : ∃ q, okS xs fs = q := ⟨_, rfl⟩
  obtain ⟨b3, d3⟩ : ∃ b, (f + (n : Int) == 100000) = b := ⟨_, rfl⟩
  have hE := unhide h0
  rw [lar, hok, hq, ← unhide HL, d3] at hE
  have HOK := hide hok
  have HQ := hide hq
  clear hx hd he hok hq h0 hS hSd
  go_enter Try.func19, Try.ntmps19
  go_wp2_with fail
  refine (ilogok_any c f a n cap ss ok HOK _ (by omega) (by omega) ((unhide HX).later (Li7.new w c f (.slice a n cap) (.slice ai ni ci) (.slice af nf cf)).bel)).mono ?_
  rintro e w2 ⟨rfl, b2⟩
  have C2 := hide ((Li7.new w c f (.slice a n cap) (.slice ai ni ci) (.slice af nf cf)).later b2)
  clear b2
  obtain ⟨p0, p1, p2, pf⟩ := blk_cells3 (unhide C2).k1
  obtain ⟨s0, s1, sf⟩ := blk_cells2 (unhide C2).k2
  have z2 := (unhide C2).lt
  have zl2 : w.heap.size < w2.heap.size := by omega
  have zd2 : w.heap.size + 1 < w2.heap.size := by omega
  cases ok
  · obtain rfl : r = false := by rw [← hE]; rfl
    obtain ⟨rfl, rfl⟩ : f1 = f ∧ ss1 = ss := by have h := unhide h1; simp [lad] at h; exact ⟨h.1.symm, h.2.symm⟩
    obtain rfl : m = n := by rw [unhide hm, unhide HL]
    go_wp2_with fail
    refine (ilogcopy_any c f1 a m cap ss1 (unhide HS) (SzS.tot ht) _ (by omega) ((unhide HX).later (unhide C2).bel)).mono ?_
    rintro e w9 ⟨a9, c9, rfl, o9, b9⟩
    have CE := hide ((unhide C2).later b9)
    have O9 := hide (o9.mono (unhide C2).bel.size (Nat.le_refl _))
    obtain ⟨y0, y1, y2, yf⟩ := blk_cells3 (unhide CE).k3
    have zE := (unhide CE).lt
    clear o9 b9 p0 p1 p2 pf s0 s1 sf
    go_wp2
    exact bodyPost_ret (v := .tuple #[LgV c f1 (.slice a9 m c9), .bool false]) (by simp [results, Try.results19, go_sem, y0, y1, y2]) rfl ⟨a9, c9, rfl, by have h := log_set (unhide CE).k3 (.int .i64 c) (.int .i64 f1) (.slice a9 m c9) (unhide O9); simpa using h, (kLi7s CE _ _ _).1⟩
  obtain ⟨⟨c1', c2'⟩, cn, ⟨f1', f2'⟩, fn, hokL⟩ := lok_iff.1 (unhide HOK)
  have cn' : (n : Int) ≤ c := by rw [unhide HL]; exact cn
  have HSV : Hid (lsq c f ss = f + (n : Int)) := hide (by rw [lsq, if_pos (unhide HOK), unhide HL])
  clear cn fn hokL
  go_wp2_with fail
  refine (istateok_any ai ni ci xs af nf cf fs q HQ _ (by omega) (by omega) ((unhide HD).later (unhide C2).bel) ((unhide HE0).later (unhide C2).bel)).mono ?_
  rintro e w3 ⟨rfl, b3'⟩
  have C3 := hide ((unhide C2).later b3')
  clear b3' C2 p0 p1 p2 pf s0 s1 sf z2 zl2 zd2
  obtain ⟨p0, p1, p2, pf⟩ := blk_cells3 (unhide C3).k1
  obtain ⟨s0, s1, sf⟩ := blk_cells2 (unhide C3).k2
  have z3 := (unhide C3).lt
  have zl3 : w.heap.size < w3.heap.size := by omega
  have zd3 : w.heap.size + 1 < w3.heap.size := by omega
  cases q
  · obtain rfl : r = false := by rw [← hE]; rfl
    obtain ⟨rfl, rfl⟩ : f1 = f ∧ ss1 = ss := by have h := unhide h1; simp [lad] at h; exact ⟨h.1.symm, h.2.symm⟩
    obtain rfl : m = n := by rw [unhide hm, unhide HL]
    go_wp2_with fail
    refine (ilogcopy_any c f1 a m cap ss1 (unhide HS) (SzS.tot ht) _ (by omega) ((unhide HX).later (unhide C3).bel)).mono ?_
    rintro e w9 ⟨a9, c9, rfl, o9, b9⟩
    have CE := hide ((unhide C3).later b9)
    have O9 := hide (o9.mono (unhide C3).bel.size (Nat.le_refl _))
    obtain ⟨y0, y1, y2, yf⟩ := blk_cells3 (unhide CE).k3
    have zE := (unhide CE).lt
    clear o9 b9 p0 p1 p2 pf s0 s1 sf
    go_wp2
    exact bodyPost_ret (v := .tuple #[LgV c f1 (.slice a9 m c9), .bool false]) (by simp [results, Try.results19, go_sem, y0, y1, y2]) rfl ⟨a9, c9, rfl, by have h := log_set (unhide CE).k3 (.int .i64 c) (.int .i64 f1) (.slice a9 m c9) (unhide O9); simpa using h, (kLi7s CE _ _ _).1⟩
  go_wp2_with fail
  refine (ilogseq_any c f a n cap ss (f + (n : Int)) HSV _ (by omega) (by omega) ((unhide HX).later (unhide C3).bel)).mono ?_
  rintro e w4 ⟨rfl, b4'⟩
  have C4 := hide ((unhide C3).later b4')
  clear b4' C3 p0 p1 p2 pf s0 s1 sf z3 zl3 zd3
  obtain ⟨p0, p1, p2, pf⟩ := blk_cells3 (unhide C4).k1
  obtain ⟨s0, s1, sf⟩ := blk_cells2 (unhide C4).k2
  have z4 := (unhide C4).lt
  have zl4 : w.heap.size < w4.heap.size := by omega
  have zd4 : w.heap.size + 1 < w4.heap.size := by omega
  cases b3
  · obtain rfl : r = true := by rw [← hE]; rfl
    obtain ⟨b4, d4⟩ : ∃ b, ((n : Int) == c) = b := ⟨_, rfl⟩
    cases b4
    · have hnc : ¬ (n : Int) = c := by simpa using d4
      obtain ⟨rfl, rfl⟩ : f1 = f ∧ ss1 = ss.drop 0 ++ [(xs, fs)] := by
        have h := unhide h1
        rw [lad, if_pos rfl, if_neg (by rw [← unhide HL]; exact hnc)] at h
        simp only [Prod.mk.injEq] at h
        exact ⟨h.1.symm, by rw [← h.2]; rfl⟩
      obtain rfl : m = n + 1 := by rw [unhide hm, unhide HL]; simp
      have HK : Hid (n = 0 + n) := hide (by omega)
      have HSQ : Hid (f1 - f1 = ((0 : Nat) : Int)) := hide (by simp)
      clear hnc
      have HSk : Hid (SmlS (ss.drop 0 ++ [(xs, fs)])) := hide (((unhide HS).drop 0).snoc (unhide HSd))
      have HZk : Hid (SzS (ss.drop 0 ++ [(xs, fs)])) := hide (((SzS.tot ht).drop 0).snoc (by have := (unhide HD).len.1; have := (unhide HE0).len.1; simp only; omega))
      have hq2 : n ≤ 2000000 := by omega
      clear h1 hm hE p0 p1 p2 pf s0 s1 sf
      obtain ⟨p0, p1, p2, pf⟩ := blk_cells3 (unhide C4).k1
      go_upto_region 6 with fail
      clear p0 p1 p2 pf d4
      have CD := Li7.drewH C4
      have CN := Li7.allocH CD (.cells #[.slice ai ni ci, .slice af nf cf] 32)
      have CN' := Li7.drewH (Li7.allocH C4 (.cells #[.slice ai ni ci, .slice af nf cf] 32))
      go_region_held3 (fun W => Below w.heap.size w W ∧ W.cell? ⟨w.heap.size, 0, none⟩ = some (.int .i64 c) ∧ W.cell? ⟨w.heap.size, 1, none⟩ = some (.int .i64 f1) ∧ W.cell? ⟨w.heap.size, 2, none⟩ = some (.slice a n cap) ∧ W.cell? ⟨w.heap.size + 1, 0, none⟩ = some (.slice ai ni ci) ∧ W.cell? ⟨w.heap.size + 1, 1, none⟩ = some (.slice af nf cf))
        (first | (with_reducible exact kLi7 C4) | (with_reducible exact kLi7 CD) | (with_reducible exact kLi7 CN) | (with_reducible exact kLi7 CN') | (with_reducible exact kLi7 CA) | (with_reducible exact kLi7 (Li7.allocH CA _)) | (with_reducible exact kLi7 CB) | (with_reducible exact kLi7 CC) | (with_reducible exact kLi7s CC _ _ _))
        (first
          | (go_at_call 35; refine (iabove_any c f1 a n cap ss f1 0 n (unhide HK) (unhide HSQ) w _ (by omega) (unhide HX)).mono ?_; rintro e w5 ⟨a5, rfl, r5, b5⟩; (first | (with_reducible have CA := hide ((unhide CD).later b5)) | (with_reducible have CA := hide ((unhide CN).later b5); have HG := hide (newblk b5).1) | (with_reducible have CA := hide ((unhide CN').later b5); have HG := hide (newblkD b5).1)); have R5 := hide r5; clear b5 r5)
          | (obtain ⟨ps, hrow, hins⟩ := unhide R5; refine step_appR encS_len (by omega) 32 24 i0 _ 48 Try.underlying24 hi hz0 hz1 hz2 rfl (by omega) _ (.slice ai ni ci, .slice af nf cf) (oneS _ rfl rfl) rfl _ _ rfl a5 n ps rfl (hrow.later (kb1 (by assumption))) _ rfl (by first | (exact unhide HG) | (exact heap_alloc_new w5 _)) hq2 ?_; intro a6 c6 w6 hO6 hB6; (first | (with_reducible have CB := hide ((unhide CA).later hB6)) | (with_reducible have CB := hide ((unhide (Li7.allocH CA _)).later hB6))); have R6 : Hid (RwS w6 (.slice a6 (n + 1) c6) (ss.drop 0 ++ [(xs, fs)])) := hide ⟨ps ++ [(.slice ai ni ci, .slice af nf cf)], hO6.rw encS_len, (hins.later (unhide CB).bel).snoc ((unhide HD).later (unhide CB).bel) ((unhide HE0).later (unhide CB).bel)⟩; clear hO6 hB6 hrow hins)
          | (go_at_call 52; refine (ichangescopy_any a6 (n + 1) c6 (ss.drop 0 ++ [(xs, fs)]) (unhide HSk) _ (by omega) (unhide HZk) (unhide R6)).mono ?_; rintro e w7 ⟨a7, c7, rfl, o7, b7⟩; have CC := hide ((unhide CB).later b7); have O7 := hide (o7.mono (unhide CB).bel.size (Nat.le_refl _)); obtain ⟨y0, y1, y2, yf⟩ := blk_cells3 (unhide CC).k3; have zC := (unhide CC).lt; clear o7 b7))
      all_goals go_wp2
      all_goals exact bodyPost_ret (v := .tuple #[LgV c f1 (.slice a7 (n + 1) c7), .bool true]) (by simp [results, Try.results19, go_sem, y0, y1, y2]) rfl ⟨a7, c7, rfl, by have h := log_set (unhide CC).k3 (.int .i64 c) (.int .i64 f1) (.slice a7 (n + 1) c7) (unhide O7); simpa using h, (kLi7s CC _ _ _).1⟩
    · have hnc : (n : Int) = c := by simpa using d4
      obtain ⟨n', hn'⟩ : ∃ n', n = n' + 1 := ⟨n - 1, by omega⟩
      have hn'' : n' ≤ 1048576 := by omega
      obtain ⟨rfl, rfl⟩ : f1 = f + 1 ∧ ss1 = ss.drop 1 ++ [(xs, fs)] := by
        have h := unhide h1
        rw [lad, if_pos rfl, if_pos (by rw [← unhide HL]; exact hnc), List.drop_append_of_le_length (by rw [← unhide HL]; omega)] at h
        simp only [Prod.mk.injEq] at h
        exact ⟨h.1.symm, h.2.symm⟩
      obtain rfl : m = n' + 1 := by rw [unhide hm]; simp; have := unhide HL; omega
      have HK : Hid (n = 1 + n') := hide (by omega)
      have HSQ : Hid (f + 1 - f = ((1 : Nat) : Int)) := hide (by simp; omega)
      clear hnc hn'
      have HSk : Hid (SmlS (ss.drop 1 ++ [(xs, fs)])) := hide (((unhide HS).drop 1).snoc (unhide HSd))
      have HZk : Hid (SzS (ss.drop 1 ++ [(xs, fs)])) := hide (((SzS.tot ht).drop 1).snoc (by have := (unhide HD).len.1; have := (unhide HE0).len.1; simp only; omega))
      have hq2 : n' ≤ 2000000 := by omega
      clear h1 hm hE p0 p1 p2 pf s0 s1 sf
      obtain ⟨p0, p1, p2, pf⟩ := blk_cells3 (unhide C4).k1
      go_upto_region 6 with fail
      clear p0 p1 p2 pf d4
      have CD := Li7.drewH C4
      have CN := Li7.allocH CD (.cells #[.slice ai ni ci, .slice af nf cf] 32)
      have CN' := Li7.drewH (Li7.allocH C4 (.cells #[.slice ai ni ci, .slice af nf cf] 32))
      go_region_held3 (fun W => Below w.heap.size w W ∧ W.cell? ⟨w.heap.size, 0, none⟩ = some (.int .i64 c) ∧ W.cell? ⟨w.heap.size, 1, none⟩ = some (.int .i64 f) ∧ W.cell? ⟨w.heap.size, 2, none⟩ = some (.slice a n cap) ∧ W.cell? ⟨w.heap.size + 1, 0, none⟩ = some (.slice ai ni ci) ∧ W.cell? ⟨w.heap.size + 1, 1, none⟩ = some (.slice af nf cf))
        (first | (with_reducible exact kLi7 C4) | (with_reducible exact kLi7 CD) | (with_reducible exact kLi7 CN) | (with_reducible exact kLi7 CN') | (with_reducible exact kLi7 CA) | (with_reducible exact kLi7 (Li7.allocH CA _)) | (with_reducible exact kLi7 CB) | (with_reducible exact kLi7 CC) | (with_reducible exact kLi7s CC _ _ _))
        (first
          | (go_at_call 35; refine (iabove_any c f a n cap ss (f + 1) 1 n' (unhide HK) (unhide HSQ) w _ (by omega) (unhide HX)).mono ?_; rintro e w5 ⟨a5, rfl, r5, b5⟩; (first | (with_reducible have CA := hide ((unhide CD).later b5)) | (with_reducible have CA := hide ((unhide CN).later b5); have HG := hide (newblk b5).1) | (with_reducible have CA := hide ((unhide CN').later b5); have HG := hide (newblkD b5).1)); have R5 := hide r5; clear b5 r5)
          | (obtain ⟨ps, hrow, hins⟩ := unhide R5; refine step_appR encS_len (by omega) 32 24 i0 _ 48 Try.underlying24 hi hz0 hz1 hz2 rfl (by omega) _ (.slice ai ni ci, .slice af nf cf) (oneS _ rfl rfl) rfl _ _ rfl a5 n' ps rfl (hrow.later (kb1 (by assumption))) _ rfl (by first | (exact unhide HG) | (exact heap_alloc_new w5 _)) hq2 ?_; intro a6 c6 w6 hO6 hB6; (first | (with_reducible have CB := hide ((unhide CA).later hB6)) | (with_reducible have CB := hide ((unhide (Li7.allocH CA _)).later hB6))); have R6 : Hid (RwS w6 (.slice a6 (n' + 1) c6) (ss.drop 1 ++ [(xs, fs)])) := hide ⟨ps ++ [(.slice ai ni ci, .slice af nf cf)], hO6.rw encS_len, (hins.later (unhide CB).bel).snoc ((unhide HD).later (unhide CB).bel) ((unhide HE0).later (unhide CB).bel)⟩; clear hO6 hB6 hrow hins)
          | (go_at_call 52; refine (ichangescopy_any a6 (n' + 1) c6 (ss.drop 1 ++ [(xs, fs)]) (unhide HSk) _ (by omega) (unhide HZk) (unhide R6)).mono ?_; rintro e w7 ⟨a7, c7, rfl, o7, b7⟩; have CC := hide ((unhide CB).later b7); have O7 := hide (o7.mono (unhide CB).bel.size (Nat.le_refl _)); obtain ⟨y0, y1, y2, yf⟩ := blk_cells3 (unhide CC).k3; have zC := (unhide CC).lt; clear o7 b7))
      all_goals go_wp2
      all_goals exact bodyPost_ret (v := .tuple #[LgV c (f + 1) (.slice a7 (n' + 1) c7), .bool true]) (by simp [results, Try.results19, go_sem, y0, y1, y2]) rfl ⟨a7, c7, rfl, by have h := log_set (unhide CC).k3 (.int .i64 c) (.int .i64 (f + 1)) (.slice a7 (n' + 1) c7) (unhide O7); simpa using h, (kLi7s CC _ _ _).1⟩
  · obtain rfl : r = false := by rw [← hE]; rfl
    obtain ⟨rfl, rfl⟩ : f1 = f ∧ ss1 = ss := by have h := unhide h1; simp [lad] at h; exact ⟨h.1.symm, h.2.symm⟩
    obtain rfl : m = n := by rw [unhide hm, unhide HL]
    go_wp2_with fail
    refine (ilogcopy_any c f1 a m cap ss1 (unhide HS) (SzS.tot ht) _ (by omega) ((unhide HX).later (unhide C4).bel)).mono ?_
    rintro e w9 ⟨a9, c9, rfl, o9, b9⟩
    have CE := hide ((unhide C4).later b9)
    have O9 := hide (o9.mono (unhide C4).bel.size (Nat.le_refl _))
    obtain ⟨y0, y1, y2, yf⟩ := blk_cells3 (unhide CE).k3
    have zE := (unhide CE).lt
    clear o9 b9 p0 p1 p2 pf s0 s1 sf
    go_wp2
    exact bodyPost_ret (v := .tuple #[LgV c f1 (.slice a9 m c9), .bool false]) (by simp [results, Try.results19, go_sem, y0, y1, y2]) rfl ⟨a9, c9, rfl, by have h := log_set (unhide CE).k3 (.int .i64 c) (.int .i64 f1) (.slice a9 m c9) (unhide O9); simpa using h, (kLi7s CE _ _ _).1⟩
end Go.Proofs.Ytijdmfakaompgaa
