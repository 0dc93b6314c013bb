/-
  spec.DrawStateBytes, spec.DrawStateOf: some state, and some bytes. No statement is proved here.
-/
import Derived.Test.YtjlocbimkfocnaaL3T
import Derived.Test.YtjlocbimkfocnaaStOfX
namespace Go.Proofs.Ytjlocbimkfocnaa
open Go.RowKit

variable {w X Y : World} {b : Nat} {v1 v2 : Value} {its : List Itm} {fls : List Flr}
set_option maxHeartbeats 4000000 in
set_option maxRecDepth 100000 in
theorem drawsb_any (v : Value) (xs : List Int) (w : World) (hlen : xs.length ≤ 1048576) (hbd : ∀ z ∈ xs, 0 ≤ z ∧ z ≤ 255) (hv : Seg w v xs) :
    Calls Try.prog 6 #[v] w fun e w' => ∃ a1 n1 c1 a2 n2 c2 its fls, e = .returned (.agg #[.slice a1 n1 c1, .slice a2 n2 c2]) ∧ T3 w w' (.slice a1 n1 c1) (.slice a2 n2 c2) its fls := by
  have HD := hide hbd
  have bA : Below w.heap.size w (w.alloc (StB (.slice none 0 0) (.slice none 0 0))) := (Below.refl _ _).alloc (Nat.le_refl _) _
  have HS := hide (hv.below bA (Nat.le_refl _))
  have BA := hide bA
  clear hbd hv bA
  go_enter Try.func6, Try.ntmps6
  go_wp2_with fail
  refine (new_any v xs _ hlen (unhide HD) (unhide HS)).mono ?_
  rintro e w1 ⟨rfl, c1, b1, s1⟩
  have hw0 : (w.alloc (StB (.slice none 0 0) (.slice none 0 0))).heap.size = w.heap.size + 1 := by simp
  have B1 := hide ((unhide BA).trans (b1.mono (by rw [hw0]; omega)))
  have K1 := hide ((b1.block _ (by rw [hw0]; omega)).trans (heap_alloc_new w _))
  rw [hw0] at c1 s1
  have C1 := hide c1
  obtain ⟨g, hg⟩ : ∃ g, g = w.heap.size + 1 := ⟨_, rfl⟩
  rw [hw0, ← hg]
  rw [← hg] at C1
  have hgA : w.heap.size < g := by omega
  clear hg c1 b1 s1 hw0 HS BA
  go_wp2_with fail
  refine (l3draw_any g v xs _ hlen (unhide HD) (unhide C1)).mono ?_
  rintro e w2 ⟨a1, n1, c1, a2, n2, c2, its, fls, rfl, d⟩
  have T := hide (T3.of_draw (unhide B1) (by omega) d)
  have K2 := hide (blk_grown d.gr (unhide K1) (by omega))
  clear d C1 B1 K1
  obtain ⟨p0, p1, p2⟩ := blk_cells2 (unhide K2)
  go_wp2
  have hg := grown_set2 w2 w.heap.size (.slice a1 n1 c1) (.slice a2 n2 c2)
  have t := unhide T
  exact bodyPost_ret (v := .agg #[.slice a1 n1 c1, .slice a2 n2 c2]) (by simp [results, Try.results6, go_sem, p0, p1]) rfl ⟨_, _, _, _, _, _, _, _, rfl, (t.bel.setCell (p := ⟨w.heap.size, 0, none⟩) (Nat.le_refl _) _).setCell (p := ⟨w.heap.size, 1, none⟩) (Nat.le_refl _) _, t.oi.other (unhide K2) (by decide) hg, t.of.other (unhide K2) (by decide) hg, t.li, t.lf, t.ni⟩

theorem sof_nil : sof [] = none := sof_none fun xs fs ho e => by
  have h := congrArg List.length e
  have h1 := putN_pos (xs.length : Int) (by omega) (by have := ho.len5; omega)
  simp only [sb, List.length_append, List.length_nil] at h
  omega
theorem owB_lit {w : World} {g base : Nat} {bs : List Int} (hb : base ≤ g) (hl : bs.length ≤ 1000000) (h : w.heap[g]? = some (.cells (bs.map (Value.int .u8)).toArray 5 (0, 0))) : OwB base w (.slice (some ⟨g, 0, none⟩) bs.length bs.length) bs :=
  ⟨by simp, .inr ⟨g, bs.length, _, rfl, hb, h, Nat.le_refl _, by unfold maxLen; omega, by simp, by simp [List.take_of_length_le]⟩⟩
theorem seg_take {w : World} {a : Option Addr} {c : Nat} {xs : List Int} (h : Seg w (.slice a xs.length c) xs) {k : Nat} (hk : k ≤ xs.length) : Seg w (.slice a k c) (xs.take k) := by
  obtain ⟨a', c', e, hc, hr⟩ := h
  simp only [Value.slice.injEq, true_and] at e
  obtain ⟨rfl, rfl⟩ := e
  refine Seg.mk (by simp; omega) (by omega) ?_
  rcases hr with h | ⟨b, off, rfl, hlt, hcell⟩
  · exact .inl (by rw [h]; simp)
  · refine .inr ⟨b, off, rfl, hlt, fun i hi => ?_⟩
    simp only [List.length_take] at hi
    rw [hcell i (by omega)]
    simp only [List.getD, List.getElem?_take]
    rw [if_pos (by omega)]
theorem seg_set {w : World} {g c : Nat} {xs : List Int} {cur : Array Value} {T : TypeId} (h : Seg w (.slice (some ⟨g, 0, none⟩) xs.length c) xs) (hb : w.heap[g]? = some (.cells cur T (0, 0))) {k : Nat} (hk : k < xs.length) (y : Int) : Seg (w.setCell ⟨g, k, none⟩ (.int .u8 y)) (.slice (some ⟨g, 0, none⟩) xs.length c) (xs.set k y) := by
  obtain ⟨a', c', e, hc, hr⟩ := h
  simp only [Value.slice.injEq, true_and] at e
  obtain ⟨rfl, rfl⟩ := e
  have hb2 := heap_setCell_same w g k _ _ (.int .u8 y) hb
  refine Seg.mk (by simp) hc (.inr ⟨g, 0, rfl, by simpa using (Array.getElem?_eq_some_iff.1 hb).1, fun i hi => ?_⟩)
  rw [List.length_set] at hi
  rcases hr with h | ⟨b, off, e2, hlt, hcell⟩
  · rw [h] at hi; simp at hi
  · simp only [Option.some.injEq, Addr.mk.injEq, and_true] at e2
    obtain ⟨rfl, rfl⟩ := e2
    have h1 := hcell i hi
    simp only [World.cell?, hb, hb2] at h1 ⊢
    simp only [Nat.zero_add, Option.isSome_none, Bool.false_eq_true, if_false] at h1 ⊢
    by_cases e : k = i
    · subst e
      have hlt2 := (Array.getElem?_eq_some_iff.1 h1).1
      rw [Array.getElem?_setIfInBounds_self_of_lt hlt2]
      simp [List.getD, hk]
    · rw [Array.getElem?_setIfInBounds_ne e, h1]
      simp [List.getD, e]
theorem trn_owns {S : Nat → Prop} {w w' : World} (h : Trn S w w') {base sz n : Nat} {e : TypeId} {v : Value} {cs : List Value} (ho : w.ownsRow base e sz v n cs) (hs : ∀ i, v.ownBlock = some i → ¬ S i) : w'.ownsRow base e sz v n cs := by
  refine ⟨ho.1, ?_⟩
  rcases ho.2 with hn | ⟨g, cap, cur, rfl, hg, hh, r⟩
  · exact .inl hn
  · exact .inr ⟨g, cap, cur, rfl, hg, by rw [h.block g (Array.getElem?_eq_some_iff.1 hh).1 (hs g rfl)]; exact hh, r⟩
set_option maxHeartbeats 8000000 in
set_option maxRecDepth 100000 in
theorem dsof_any (v : Value) (xs : List Int) (w : World) (hlen : xs.length ≤ 1048576) (hbd : ∀ z ∈ xs, 0 ≤ z ∧ z ≤ 255) (hv : Seg w v xs) :
    Calls Try.prog 11 #[v] w fun e w' => ∃ u ys, e = .returned u ∧ Seg w' u ys ∧ (∀ z ∈ ys, 0 ≤ z ∧ z ≤ 255) ∧ ys.length ≤ 1000 ∧ Below w.heap.size w w' := by
  have HD := hide hbd
  have HS := hide hv
  clear hbd hv
  go_enter Try.func11, Try.ntmps11
  go_wp2_with fail
  refine (new_any v xs _ hlen (unhide HD) (unhide HS)).mono ?_
  rintro e w1 ⟨rfl, c1, b1, s1⟩
  have B1 := hide b1
  have C1 := hide c1
  obtain ⟨g, hg⟩ : ∃ g, g = w.heap.size := ⟨_, rfl⟩
  rw [← hg]
  rw [← hg] at C1
  have hgA : w.heap.size ≤ g := by omega
  clear c1 b1 s1 HS hg
  go_wp2_with fail
  refine (l3draw_any g v xs _ hlen (unhide HD) (unhide C1)).mono ?_
  rintro e w2 ⟨a1, n1, k1, a2, n2, k2, its, fls, rfl, d⟩
  have B2 := hide ((unhide B1).grown d.gr (unhide B1).size (fun q hq => by simp at hq; omega))
  have C2 := hide d.cu
  have O1 := hide (d.oi.rw encI_len)
  have O2 := hide (d.of.rw encF_len)
  have hn1 : n1 ≤ 6 := by rw [(unhide O1).len.1]; exact d.li
  have hn2 : n2 ≤ 6 := by rw [(unhide O2).len.1]; exact d.lf
  obtain ⟨ok, hok⟩ : ∃ ok, Hid (okS its fls = ok) := ⟨_, hide rfl⟩
  have hgw : g < w2.heap.size := cur_lt d.cu
  clear d C1 B1
  go_wp2_with fail
  refine (sbytes_any a1 n1 k1 its a2 n2 k2 fls ok hok _ (by omega) (by omega) (unhide O1) (unhide O2)).mono ?_
  rintro e w3 ⟨va, rfl, o3, b3⟩
  have B3 := hide ((unhide B2).trans (b3.mono (unhide B2).size))
  have C3 := hide ((unhide C2).later b3 (Nat.le_refl _))
  obtain ⟨ys, hys⟩ : ∃ ys, sbS its fls = ys := ⟨_, rfl⟩
  have hyl := sbS_len its fls
  have hyb := sbS_bytes its fls
  rw [hys] at o3 hyl hyb
  have HYB := hide hyb
  have O3 := hide o3
  have hw2 : w.heap.size ≤ w2.heap.size := (unhide B2).size
  have hg3 : g < w3.heap.size := Nat.lt_of_lt_of_le hgw b3.size
  clear hyb b3 B2 C2 O1 O2 hys
  have hret : ∀ (W : World) (u : Value), Below w.heap.size w W → Seg W u ys → ∃ u' zs, Ending.returned u = .returned u' ∧ Seg W u' zs ∧ (∀ z ∈ zs, 0 ≤ z ∧ z ≤ 255) ∧ zs.length ≤ 1000 ∧ Below w.heap.size w W := fun W u hb hs => ⟨u, ys, rfl, hs, unhide HYB, by omega, hb⟩
  have HRET := hide hret
  clear hret
  rcases o3.2 with ⟨hv0, h0⟩ | ⟨gb, cap, cur, hv0, hgb, hblk, hnc, hcm, hcs, htake⟩
  · subst hv0
    clear o3
    go_wp2
    go_ret
    exact unhide HRET _ _ (unhide B3) (seg_of_owns (unhide O3))
  · subst hv0
    have HBK := hide hblk
    clear o3 hblk hcs htake
    have hgg : g < gb := by omega
    have hws : w.heap.size ≤ gb := by omega
    by_cases h0 : ys.length = 0
    · have hpos : decide ((0 : Int) < (ys.length : Int)) = false := decide_eq_false (by omega)
      go_wp2
      go_ret
      exact ⟨_, [], rfl, Seg.mk rfl (Nat.zero_le _) (.inl rfl), fun z hz => (by simp at hz), by simp, unhide B3⟩
    · have hpos : decide ((0 : Int) < (ys.length : Int)) = true := decide_eq_true (by omega)
      have hp1 : 0 < ys.length := by omega
      go_wp2_with fail
      refine (below_any g v xs 5 _ hlen (unhide HD) (by omega) (by omega) (unhide C3)).mono ?_
      rintro e w4 ⟨⟨x, rfl, xa, xb⟩, c4, g4⟩
      have C4 := hide c4
      have B4 := hide ((unhide B3).grown g4 (unhide B3).size (fun q hq => by simp at hq; omega))
      have O4 := hide (owns_base (base' := w.heap.size) (trn_owns (Trn.of_grown g4) (unhide O3) (fun i hi e => by simp only [Value.ownBlock, Option.some.injEq] at hi e; omega)) (by have := (unhide B3).size; omega))
      have HBK4 := hide ((g4.block gb (Array.getElem?_eq_some_iff.1 (unhide HBK)).1 (fun e => by simp only [Option.some.injEq] at e; omega)).trans (unhide HBK))
      have hs4 := g4.size
      have hs4w := (unhide B4).size
      clear c4 g4 C3 B3 O3
      obtain rfl | rfl | rfl | rfl | rfl : x = 0 ∨ x = 1 ∨ x = 2 ∨ x = 3 ∨ x = 4 := by omega
      · have ON := hide (show OwB w4.heap.size (w4.alloc (.cells #[.int .u8 0] 5)) (.slice (some ⟨w4.heap.size, 0, none⟩) 1 1) [0] from owB_lit (bs := [0]) (Nat.le_refl _) (by simp) (newB1 w4 _))
        have O5 := hide (owns_later (unhide O4) ((Below.refl w4.heap.size w4).alloc (Nat.le_refl _) (.cells #[.int .u8 0] 5)) (Nat.le_refl _))
        have B5 := hide ((unhide B4).alloc hs4w (.cells #[.int .u8 0] 5))
        have hl0 : ys.length + ([0] : List Int).length ≤ 100000000 := by simp; omega
        have hs5 : w.heap.size ≤ (w4.alloc (.cells #[.int .u8 0] 5)).heap.size := by simp; omega
        go_wp2_with (at_builtin; refine wpList_appB _ rfl _ _ rfl w.heap.size _ _ rfl (unhide O5) _ _ _ rfl (unhide ON) hl0 hs5 ?_; intro v' w6 hO hG; have HO6 := hide hO; have HB6 := hide ((unhide B5).grown hG hs5 (fun k hk => ((unhide O5).lt k hk).1)); clear hO hG)
        go_ret
        exact ⟨_, ys ++ [0], rfl, seg_of_owns (unhide HO6), fun z hz => (by rcases List.mem_append.1 hz with h | h; exact unhide HYB z h; simp at h; omega), by simp; omega, unhide HB6⟩
      · have HBK4 : Hid (w4.heap[gb]? = some (.cells cur 5 (0, 0))) := HBK4
        go_wp2_with fail
        refine (below_any g v xs (ys.length : Int) _ hlen (unhide HD) (by omega) (by omega) (unhide C4)).mono ?_
        rintro e w5 ⟨⟨k, rfl, ka, kb⟩, c5, g5⟩
        obtain ⟨k, rfl⟩ := Int.eq_ofNat_of_zero_le ka
        have C5 := hide c5
        have B5 := hide ((unhide B4).grown g5 (unhide B4).size (fun q hq => by simp at hq; omega))
        have O5 := hide (trn_owns (Trn.of_grown g5) (unhide O4) (fun i hi e => by simp only [Value.ownBlock, Option.some.injEq] at hi e; omega))
        have HBK5 := hide ((g5.block gb (Array.getElem?_eq_some_iff.1 (unhide HBK4)).1 (fun e => by simp only [Option.some.injEq] at e; omega)).trans (unhide HBK4))
        have hkn : k < ys.length := by omega
        clear c5 g5 C4 B4 O4
        have hk1 : (k : Int) ≤ (cap : Int) := by omega
        have hk2 : (0 : Int) ≤ (k : Int) := by omega
        go_wp2
        go_ret
        exact ⟨_, ys.take k, rfl, seg_take (seg_of_owns (unhide O5)) (by omega), fun z hz => unhide HYB z (List.mem_of_mem_take hz), by simp; omega, unhide B5⟩
      · have HBK4 : Hid (w4.heap[gb]? = some (.cells cur 5 (0, 0))) := HBK4
        go_wp2_with fail
        refine (below_any g v xs (ys.length : Int) _ hlen (unhide HD) (by omega) (by omega) (unhide C4)).mono ?_
        rintro e w5 ⟨⟨k, rfl, ka, kb⟩, c5, g5⟩
        obtain ⟨k, rfl⟩ := Int.eq_ofNat_of_zero_le ka
        have C5 := hide c5
        have B5 := hide ((unhide B4).grown g5 (unhide B4).size (fun q hq => by simp at hq; omega))
        have O5 := hide (trn_owns (Trn.of_grown g5) (unhide O4) (fun i hi e => by simp only [Value.ownBlock, Option.some.injEq] at hi e; omega))
        have HBK5 := hide ((g5.block gb (Array.getElem?_eq_some_iff.1 (unhide HBK4)).1 (fun e => by simp only [Option.some.injEq] at e; omega)).trans (unhide HBK4))
        have hkn : k < ys.length := by omega
        clear c5 g5 C4 B4 O4
        have hgl5 : gb < w5.heap.size := (Array.getElem?_eq_some_iff.1 (unhide HBK5)).1
        go_wp2_with fail
        refine (byte_any g v xs _ hlen (unhide HD) (unhide C5)).mono ?_
        rintro e w6 ⟨⟨y, rfl, ya, yb⟩, c6, g6⟩
        have B6 := hide ((unhide B5).grown g6 (unhide B5).size (fun q hq => by simp at hq; omega))
        have O6 := hide (trn_owns (Trn.of_grown g6) (unhide O5) (fun i hi e => by simp only [Value.ownBlock, Option.some.injEq] at hi e; omega))
        have HBK6 := hide ((g6.block gb hgl5 (fun e => by simp only [Option.some.injEq] at e; omega)).trans (unhide HBK5))
        have hsg := seg_of_owns (unhide O6)
        have HS6 := hide hsg
        obtain ⟨a', c', e', hc', hr'⟩ := hsg
        simp only [Value.slice.injEq, true_and] at e'
        obtain ⟨rfl, rfl⟩ := e'
        have hck : w6.cell? ⟨gb, k, none⟩ = some (.int .u8 (ys.getD k 0)) := by
          rcases hr' with h | ⟨b', off', e2, _, hcell⟩
          · rw [h] at hkn; simp at hkn
          · simp only [Option.some.injEq, Addr.mk.injEq, and_true] at e2
            obtain ⟨rfl, rfl⟩ := e2
            have := hcell k hkn
            rwa [Nat.zero_add] at this
        have hfr : w6.frozen? ⟨gb, k, none⟩ = false := by simp [World.frozen?, unhide HBK6]
        have hgl6 : gb < w6.heap.size := (Array.getElem?_eq_some_iff.1 (unhide HBK6)).1
        have hk1 : (k : Int) < (ys.length : Int) := by omega
        have hk2 : (0 : Int) ≤ (k : Int) := by omega
        have hwy : IntKind.u8.wrap y = y := by rw [IntKind.wrap_u8]; omega
        clear c6 g6 hr' hc' C5 B5 O5 HBK5
        go_wp2_with fail
        go_ret
        exact ⟨_, ys.set k y, rfl, seg_set (unhide HS6) (unhide HBK6) hkn y, fun z hz => (by rcases List.mem_or_eq_of_mem_set hz with h | h; exact unhide HYB z h; omega), by simp; omega, (unhide B6).setCell (p := ⟨gb, k, none⟩) (by show w.heap.size ≤ gb; omega) _⟩
      all_goals
        go_wp2
        go_ret
        exact unhide HRET _ _ (unhide B4) (seg_of_owns (unhide O4))
end Go.Proofs.Ytjlocbimkfocnaa
