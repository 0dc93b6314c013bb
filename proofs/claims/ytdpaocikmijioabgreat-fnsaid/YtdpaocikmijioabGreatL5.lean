/-
  spec.l5Two, spec.DrawSayJoin: some state, with short texts, and some Id; nothing that was there turns. No statement is proved here.
-/
import Derived.Test.YtdpaocikmijioabGreatL3W
namespace Go.Proofs.YtdpaocikmijioabGreat
open Go.RowKit

/-- One cell of an item is written. -/
theorem OwI_one {X : World} {its : List Itm} {base q n c i j : Nat} {x y : Itm} {u : Value} (h : OwI base X (.slice (some ⟨q, 0, none⟩) n c) its) (hx : its[i]? = some x) (hj : j < 6) (hy : encI y = (encI x).set j u) :
    OwI base (X.setCell ⟨q, i * 6 + j, none⟩ u) (.slice (some ⟨q, 0, none⟩) n c) (its.set i y) ∧ X.grownBy (X.setCell ⟨q, i * 6 + j, none⟩ u) (some q) := by
  have hn : n = its.length := (h.rw encI_len).len.1
  subst hn
  have hi : i < its.length := (List.getElem?_eq_some_iff.1 hx).1
  obtain ⟨h1, h2⟩ := setW_own [u] h (i * 6 + j)
  refine ⟨?_, h2⟩
  have e : setL (its.flatMap encI) (i * 6 + j) [u] = (its.set i y).flatMap encI := by
    rw [← setL_flat (by omega) encI_len its i hi y]
    refine List.ext_getElem? fun m => ?_
    rw [setL_at, setL_at, encI_len, hy]
    simp only [List.length_cons, List.length_nil, Nat.zero_add]
    have hl : (its.flatMap encI).length = its.length * 6 := flat_len encI_len its
    by_cases hm : i * 6 ≤ m ∧ m < i * 6 + 6 ∧ m < (its.flatMap encI).length
    · rw [if_pos hm]
      by_cases hmj : m = i * 6 + j
      · subst hmj
        have e1 : i * 6 + j - i * 6 = j := by omega
        rw [if_pos ⟨Nat.le_refl _, by omega, hm.2.2⟩, Nat.sub_self, e1, List.getElem?_set_self (by rw [encI_len]; exact hj)]
        rfl
      · rw [if_neg (by omega), List.getElem?_set_ne (by omega)]
        have := flat_at encI_len its i x (m - i * 6) hx (by omega)
        rw [show i * 6 + (m - i * 6) = m by omega] at this
        exact this
    · rw [if_neg hm, if_neg (by omega)]
  unfold OwI Ow
  rw [List.length_set, ← e]
  exact h1

theorem once5_any (g : Nat) (v : Value) (xs : List Int) (n : Int) (w : World) (hlen : xs.length ≤ 1048576) (hbd : ∀ z ∈ xs, 0 ≤ z ∧ z ≤ 255) (hn0 : 0 < n) (hn1 : n ≤ 4294967296) (hc : Cur w g v xs) :
    Calls Tryz.prog 80 #[.pointer (some ⟨g, 0, none⟩), .int .i64 n] w fun e w' => (∃ b : Bool, e = .returned (.bool b)) ∧ Cur w' g v xs ∧ w.grownBy w' (some g) := by
  have HD := hide hbd
  have HC := hide hc
  clear hbd hc
  go_enter Tryz.func80, Tryz.ntmps80
  go_wp2_with fail
  refine (below_any g v xs n _ hlen (unhide HD) hn0 hn1 (unhide HC)).mono ?_
  rintro e w1 ⟨⟨x, rfl, xa, xb⟩, c1, g1⟩
  have C1 := hide c1
  have G1 := hide g1
  clear c1 g1
  go_wp2
  go_ret
  exact ⟨⟨_, rfl⟩, unhide C1, unhide G1⟩
/-- Where the code lies. -/
def Low (B : Nat) (v : Value) (xs : List Int) : Prop := xs = [] ∨ ∀ a n c, v = .slice (some a) n c → a.block < B
theorem seg_low {w : World} {v : Value} {xs : List Int} (h : Seg w v xs) : Low w.heap.size v xs := by
  obtain ⟨a, cap, rfl, hcap, hr⟩ := h
  rcases hr with hr | ⟨b, off, rfl, hlt, hc⟩
  · exact .inl hr
  · exact .inr fun a n c e => by cases e; exact hlt
theorem cur_put {W : World} {g s k B : Nat} {v u : Value} {xs : List Int} (h : Cur W g v xs) (hs : g ≠ s) (hv : Low B v xs) (hB : B ≤ s) : Cur (W.setCell ⟨s, k, none⟩ u) g v xs := by
  obtain ⟨⟨i, q, e, hi⟩, hseg, hne⟩ := h
  refine ⟨⟨i, q, (heap_setCell_other _ _ _ _ hs).trans e, hi⟩, ?_, hne⟩
  obtain ⟨a, cap, rfl, hcap, hr⟩ := hseg
  refine ⟨a, cap, rfl, hcap, ?_⟩
  rcases hr with hr | ⟨b, off, rfl, hlt, hc⟩
  · exact .inl hr
  · rcases hv with hv | hv
    · exact .inl hv
    have hb : b < B := hv _ _ _ rfl
    refine .inr ⟨b, off, rfl, by simpa using hlt, fun i hi => ?_⟩
    rw [World.cell?_setCell_other _ _ _ _ (fun e => by have := congrArg Addr.block e; simp only at this; omega)]
    exact hc i hi

variable {w X Y : World} {b g : Nat} {v : Value} {xs : List Int} {v1 v2 : Value} {its : List Itm} {fls : List Flr}
/-- While a state and an Id are drawn: the cursor g, the result in the call's first block, the state in block b. -/
structure Q5 (w X : World) (g : Nat) (v : Value) (xs : List Int) (b : Nat) (v1 v2 : Value) (its : List Itm) (fls : List Flr) : Prop where
  bel : Below w.heap.size w X
  cu : Cur X g v xs
  lo : Low w.heap.size v xs
  hg : w.heap.size < g
  hb : g < b
  k0 : X.heap[w.heap.size]? = some (StB (.slice none 0 0) (.slice none 0 0))
  k1 : X.heap[b]? = some (StB v1 v2)
  oi : OwI w.heap.size X v1 its
  of : OwF w.heap.size X v2 fls
  li : its.length ≤ 6
  lf : fls.length ≤ 6
  ni : Nine its
theorem Q5.gl (h : Q5 w X g v xs b v1 v2 its fls) : g < X.heap.size := cur_lt h.cu
theorem Q5.bl (h : Q5 w X g v xs b v1 v2 its fls) : b < X.heap.size := (Array.getElem?_eq_some_iff.1 h.k1).1
theorem Q5.call (h : Q5 w X g v xs b v1 v2 its fls) (hc : Cur Y g v xs) (hg : X.grownBy Y (some g)) : Q5 w Y g v xs b v1 v2 its fls := by
  obtain ⟨⟨i, q, hk, _⟩, _⟩ := h.cu
  have h1 := h.hg
  have h2 := h.hb
  exact ⟨h.bel.grown hg h.bel.size (fun q hq => by simp at hq; omega), hc, h.lo, h.hg, h.hb, blk_grown hg h.k0 (by omega), blk_grown hg h.k1 (by omega), h.oi.other hk (by decide) hg, h.of.other hk (by decide) hg, h.li, h.lf, h.ni⟩
theorem Q5.later (h : Q5 w X g v xs b v1 v2 its fls) (bl : Below X.heap.size X Y) : Q5 w Y g v xs b v1 v2 its fls := by
  have h1 := h.hg
  have h3 := h.gl
  exact ⟨h.bel.trans (bl.mono h.bel.size), h.cu.later bl (Nat.le_refl _), h.lo, h.hg, h.hb, (bl.block _ (by omega)).trans h.k0, (bl.block _ h.bl).trans h.k1, h.oi.later bl, h.of.later bl, h.li, h.lf, h.ni⟩
theorem Q5.drew (h : Q5 w X g v xs b v1 v2 its fls) : Q5 w X.drew g v xs b v1 v2 its fls := h.later (Below.refl _ _).drew
theorem Q5.cells (h : Q5 w X g v xs b v1 v2 its fls) : X.cell? ⟨b, 0, none⟩ = some v1 ∧ X.cell? ⟨b, 1, none⟩ = some v2 := by
  obtain ⟨p0, p1, _⟩ := blk_cells2 h.k1
  exact ⟨p0, p1⟩
theorem Q5.res (h : Q5 w X g v xs b v1 v2 its fls) : X.cell? ⟨w.heap.size, 0, none⟩ = some (.slice none 0 0) ∧ X.cell? ⟨w.heap.size, 1, none⟩ = some (.slice none 0 0) ∧ ∀ o, X.frozen? ⟨w.heap.size, o, none⟩ = false := blk_cells2 h.k0
theorem Q5.len {a1 : Option Addr} {n1 c1 : Nat} {a2 : Option Addr} {n2 c2 : Nat} (h : Q5 w X g v xs b (.slice a1 n1 c1) (.slice a2 n2 c2) its fls) : n1 = its.length ∧ n2 = fls.length := ⟨(h.oi.rw encI_len).len.1, (h.of.rw encF_len).len.1⟩
/-- An own row of more than none is a block of its own, from its start. -/
theorem Q5.at {a1 : Option Addr} {n1 c1 : Nat} (h : Q5 w X g v xs b (.slice a1 n1 c1) v2 its fls) (h0 : 0 < n1) : ∃ q, a1 = some ⟨q, 0, none⟩ ∧ w.heap.size ≤ q ∧ q < X.heap.size := by
  obtain ⟨-, h1 | ⟨q, c, cs, e, hq, hblk, -⟩⟩ := h.oi
  · obtain ⟨e, -⟩ := h1
    cases e; omega
  · cases e
    exact ⟨q, rfl, hq, (Array.getElem?_eq_some_iff.1 hblk).1⟩
/-- One cell of an item of the state is written. -/
theorem Q5.wr {q n c i j : Nat} {x y : Itm} {u : Value} (h : Q5 w X g v xs b (.slice (some ⟨q, 0, none⟩) n c) v2 its fls) (hx : its[i]? = some x) (hj : j < 6) (hy : encI y = (encI x).set j u) (hs : y.2.2.2.2.2.size ≤ 9) :
    Q5 w (X.setCell ⟨q, i * 6 + j, none⟩ u) g v xs b (.slice (some ⟨q, 0, none⟩) n c) v2 (its.set i y) fls := by
  obtain ⟨o1, hg⟩ := OwI_one h.oi hx hj hy
  obtain ⟨⟨ci, cq, hk, _⟩, _⟩ := h.cu
  have hq := World.ownsRow.lt h.oi q rfl
  have n0 : w.heap.size ≠ q := fun e => own_ne h.oi h.k0 (by decide) (by rw [e]; rfl)
  have nb : b ≠ q := fun e => own_ne h.oi h.k1 (by decide) (by rw [e]; rfl)
  have ng : g ≠ q := fun e => own_ne h.oi hk (by decide) (by rw [e]; rfl)
  exact ⟨h.bel.setCell (p := ⟨q, i * 6 + j, none⟩) hq.1 _, cur_put h.cu ng h.lo hq.1, h.lo, h.hg, h.hb, blk_grown hg h.k0 n0, blk_grown hg h.k1 nb, o1, World.ownsRow.kept h.of hg (owns_apart h.of h.oi (by decide)), by rw [List.length_set]; exact h.li, h.lf, nine_set h.ni hs⟩
theorem Q5.fin (h : Q5 w X g v xs b v1 v2 its fls) : T3 w ((X.setCell ⟨w.heap.size, 0, none⟩ v1).setCell ⟨w.heap.size, 1, none⟩ v2) v1 v2 its fls := by
  have hg := grown_set2 X w.heap.size v1 v2
  exact ⟨(h.bel.setCell (p := ⟨w.heap.size, 0, none⟩) (Nat.le_refl _) _).setCell (p := ⟨w.heap.size, 1, none⟩) (Nat.le_refl _) _, h.oi.other h.k0 (by decide) hg, h.of.other h.k0 (by decide) hg, h.li, h.lf, h.ni⟩
theorem item5 {base q n c k : Nat} {x : Itm} (h : OwI base X (.slice (some ⟨q, 0, none⟩) n c) its) (hx : its[k]? = some x) :
    X.cell? ⟨q, k * 6, none⟩ = some (.int .i64 x.1) ∧ X.cell? ⟨q, k * 6 + 1, none⟩ = some (.int .i64 x.2.1) ∧ X.cell? ⟨q, k * 6 + 2, none⟩ = some (.int .i64 x.2.2.1) ∧ X.cell? ⟨q, k * 6 + 3, none⟩ = some (.int .i64 x.2.2.2.1) ∧ X.cell? ⟨q, k * 6 + 4, none⟩ = some (.int .i64 x.2.2.2.2.1) ∧ X.cell? ⟨q, k * 6 + 5, none⟩ = some (.string x.2.2.2.2.2) ∧ ∀ o, X.frozen? ⟨q, o, none⟩ = false := by
  have hn : n = its.length := (h.rw encI_len).len.1
  have hk : k < n := by rw [hn]; exact (List.getElem?_eq_some_iff.1 hx).1
  obtain ⟨y0, y1, y2, y3, y4, y5, -, -, -, -, -, -, hf⟩ := items_cells h hk
  obtain ⟨x', b', off, hx', e, hb, hcap, hc⟩ := (h.rw encI_len).at hk
  rw [hx] at hx'; cases hx'
  cases e
  obtain ⟨c0, c1, c2, c3, c4, c5⟩ := item_cells hc
  simp only [Nat.zero_add] at c0 c1 c2 c3 c4 c5
  exact ⟨c0, c1, c2, c3, c4, c5, hf⟩
set_option maxHeartbeats 8000000 in
set_option maxRecDepth 100000 in
theorem l5two_any (v : Value) (xs : List Int) (w : World) (hlen : xs.length ≤ 1048576) (hbd : ∀ z ∈ xs, 0 ≤ z ∧ z ≤ 255) (hv : Seg w v xs) :
    Calls Tryz.prog 38 #[v] w fun e w' => ∃ a1 n1 c1 a2 n2 c2 its fls id, e = .returned (.tuple #[.agg #[.slice a1 n1 c1, .slice a2 n2 c2], .int .i64 id]) ∧ T3 w w' (.slice a1 n1 c1) (.slice a2 n2 c2) its fls := by
  have HD := hide hbd
  have bA : Below w.heap.size w (w.alloc (StB (.slice none 0 0) (.slice none 0 0))) := (Below.refl _ _).alloc (Nat.le_refl _) _
  have HS := hide (hv.below bA (Nat.le_refl _))
  have BA := hide bA
  have LO := hide (seg_low hv)
  clear hbd hv bA
  go_enter Tryz.func38, Tryz.ntmps38
  go_wp2_with fail
  refine (new_any v xs _ hlen (unhide HD) (unhide HS)).mono ?_
  rintro e w1 ⟨rfl, c1, b1, s1⟩
  have hw0 : (w.alloc (StB (.slice none 0 0) (.slice none 0 0))).heap.size = w.heap.size + 1 := by simp
  have B1 := hide ((unhide BA).trans (b1.mono (by rw [hw0]; omega)))
  have K1 := hide ((b1.block _ (by rw [hw0]; omega)).trans (heap_alloc_new w _))
  rw [hw0] at c1 s1
  have C1 := hide c1
  obtain ⟨g, hg⟩ : ∃ g, g = w.heap.size + 1 := ⟨_, rfl⟩
  rw [hw0, ← hg]
  rw [← hg] at C1
  have hgA : w.heap.size < g := by omega
  clear hg c1 b1 s1 hw0 HS BA
  go_wp2_with fail
  refine (l3draw_any g v xs _ hlen (unhide HD) (unhide C1)).mono ?_
  rintro e w2 ⟨a1, n1, c1, a2, n2, c2, its, fls, rfl, d⟩
  go_upto_region 3 with fail
  obtain ⟨wa, hwa⟩ : ∃ W, W = w2.alloc (StB (.slice a1 n1 c1) (.slice a2 n2 c2)) := ⟨_, rfl⟩
  obtain ⟨b, hb⟩ : ∃ b, b = w2.heap.size := ⟨_, rfl⟩
  rw [← hwa, ← hb]
  have hgb : g < b := by rw [hb]; exact Nat.lt_of_lt_of_le (cur_lt (unhide C1)) d.gr.size
  have Q := hide (show Q5 w wa g v xs b (.slice a1 n1 c1) (.slice a2 n2 c2) its fls from by
    have t := T3.of_draw (unhide B1) (by omega) d
    have bl : Below w2.heap.size w2 wa := by rw [hwa]; exact (Below.refl _ _).alloc (Nat.le_refl _) _
    exact ⟨t.bel.trans (bl.mono t.bel.size), d.cu.later bl (Nat.le_refl _), unhide LO, hgA, hgb, (bl.block _ (by have := (Array.getElem?_eq_some_iff.1 (blk_grown d.gr (unhide K1) (by omega))).1; omega)).trans (blk_grown d.gr (unhide K1) (by omega)), by rw [hwa, hb]; exact heap_alloc_new _ _, t.oi.later bl, t.of.later bl, t.li, t.lf, t.ni⟩)
  clear d hwa hb C1 B1 K1 LO
  obtain ⟨e1, e2⟩ := (unhide Q).len
  have l1 := (unhide Q).li
  have l2 := (unhide Q).lf
  obtain ⟨hn1, hn2⟩ : n1 ≤ 6 ∧ n2 ≤ 6 := by omega
  have E1 := hide e1
  clear e1 e2 l1 l2
  go_wp2_with fail
  refine (below_any g v xs 7 _ hlen (unhide HD) (by omega) (by omega) (unhide Q).cu).mono ?_
  rintro e w3 ⟨⟨x, rfl, xa, xb⟩, c3, g3⟩
  replace Q := hide ((unhide Q).call c3 g3)
  clear c3 g3
  obtain ⟨p0, p1⟩ := (unhide Q).cells
  by_cases hz : n1 = 0
  · subst hz
    obtain ⟨r0, r1, rz⟩ := (unhide Q).res
    go_wp2
    exact bodyPost_ret (v := .tuple #[.agg #[.slice a1 0 c1, .slice a2 n2 c2], .int .i64 (x - 1)]) (by simp [results, Tryz.results38, go_sem, r0, r1]) rfl ⟨_, _, _, _, _, _, _, _, _, rfl, (unhide Q).fin⟩
  have hz0 : 0 < n1 := by omega
  have hd0 : decide ((0 : Int) < (n1 : Int)) = true := by simp; omega
  go_wp2_with fail
  refine (once5_any g v xs 2 _ hlen (unhide HD) (by omega) (by omega) (unhide Q).cu).mono ?_
  rintro e w4 ⟨⟨oq, rfl⟩, c4, g4⟩
  replace Q := hide ((unhide Q).call c4 g4)
  clear c4 g4 p0 p1
  obtain ⟨p0, p1⟩ := (unhide Q).cells
  cases oq
  · obtain ⟨r0, r1, rz⟩ := (unhide Q).res
    go_wp2
    exact bodyPost_ret (v := .tuple #[.agg #[.slice a1 n1 c1, .slice a2 n2 c2], .int .i64 (x - 1)]) (by simp [results, Tryz.results38, go_sem, r0, r1]) rfl ⟨_, _, _, _, _, _, _, _, _, rfl, (unhide Q).fin⟩
  go_wp2_with fail
  refine (below_any g v xs n1 _ hlen (unhide HD) (by omega) (by omega) (unhide Q).cu).mono ?_
  rintro e w5 ⟨⟨kx, rfl, ka, kb⟩, c5, g5⟩
  replace Q := hide ((unhide Q).call c5 g5)
  obtain ⟨k, rfl⟩ := Int.eq_ofNat_of_zero_le ka
  have hk : k < n1 := by omega
  clear c5 g5 p0 p1
  obtain ⟨p0, p1⟩ := (unhide Q).cells
  obtain ⟨q, rfl, hq1, hq2⟩ := (unhide Q).at hz0
  obtain ⟨it, hit⟩ := at_some (unhide E1) hk
  have HIT := hide hit
  obtain ⟨i0, i1, i2, i3, i4, i5, fz⟩ := item5 (unhide Q).oi hit
  clear hit
  go_wp2_with fail
  refine (below_any g v xs 6 _ hlen (unhide HD) (by omega) (by omega) (unhide Q).cu).mono ?_
  rintro e w6 ⟨⟨y, rfl, ya, yb⟩, c6, g6⟩
  replace Q := hide ((unhide Q).call c6 g6)
  clear c6 g6 p0 p1 i0 i1 i2 i3 i4 i5 fz
  obtain ⟨p0, p1⟩ := (unhide Q).cells
  obtain ⟨i0, i1, i2, i3, i4, i5, fz⟩ := item5 (unhide Q).oi (unhide HIT)
  have hs9 := (unhide Q).ni it (List.mem_of_getElem? (unhide HIT))
  obtain ⟨r0, r1, rz⟩ := (unhide Q).res
  rcases (by omega : y = 0 ∨ y = 1 ∨ y = 2 ∨ 3 ≤ y) with rfl | rfl | rfl | hy
  · have QN := hide ((unhide Q).wr (j := 1) (y := (it.1, 1000, it.2.2.1, it.2.2.2.1, it.2.2.2.2.1, it.2.2.2.2.2)) (u := .int .i64 1000) (unhide HIT) (by omega) rfl hs9)
    obtain ⟨s0, s1, sz⟩ := (unhide QN).res
    obtain ⟨t0, t1⟩ := (unhide QN).cells
    go_wp2
    exact bodyPost_ret (v := .tuple #[.agg #[.slice (some ⟨q, 0, none⟩) n1 c1, .slice a2 n2 c2], .int .i64 it.1]) (by simp [results, Tryz.results38, go_sem, s0, s1]) rfl ⟨_, _, _, _, _, _, _, _, _, rfl, (unhide QN).fin⟩
  · have QN := hide ((unhide Q).wr (j := 3) (y := (it.1, it.2.1, it.2.2.1, 100000, it.2.2.2.2.1, it.2.2.2.2.2)) (u := .int .i64 100000) (unhide HIT) (by omega) rfl hs9)
    obtain ⟨s0, s1, sz⟩ := (unhide QN).res
    obtain ⟨t0, t1⟩ := (unhide QN).cells
    go_wp2
    exact bodyPost_ret (v := .tuple #[.agg #[.slice (some ⟨q, 0, none⟩) n1 c1, .slice a2 n2 c2], .int .i64 it.1]) (by simp [results, Tryz.results38, go_sem, s0, s1]) rfl ⟨_, _, _, _, _, _, _, _, _, rfl, (unhide QN).fin⟩
  · have QN := hide ((unhide Q).wr (j := 4) (y := (it.1, it.2.1, it.2.2.1, it.2.2.2.1, 1000, it.2.2.2.2.2)) (u := .int .i64 1000) (unhide HIT) (by omega) rfl hs9)
    obtain ⟨s0, s1, sz⟩ := (unhide QN).res
    obtain ⟨t0, t1⟩ := (unhide QN).cells
    go_wp2
    exact bodyPost_ret (v := .tuple #[.agg #[.slice (some ⟨q, 0, none⟩) n1 c1, .slice a2 n2 c2], .int .i64 it.1]) (by simp [results, Tryz.results38, go_sem, s0, s1]) rfl ⟨_, _, _, _, _, _, _, _, _, rfl, (unhide QN).fin⟩
  have hy0 : (y == 0) = false := by simp; omega
  have hy1 : (y == 1) = false := by simp; omega
  have hy2 : (y == 2) = false := by simp; omega
  go_wp2
  exact bodyPost_ret (v := .tuple #[.agg #[.slice (some ⟨q, 0, none⟩) n1 c1, .slice a2 n2 c2], .int .i64 it.1]) (by simp [results, Tryz.results38, go_sem, r0, r1]) rfl ⟨_, _, _, _, _, _, _, _, _, rfl, (unhide Q).fin⟩

theorem T3.res {O : Obj} (hO : O = StB (.slice none 0 0) (.slice none 0 0)) (h : T3 (w.alloc O) X v1 v2 its fls) : T3 w ((X.setCell ⟨w.heap.size, 0, none⟩ v1).setCell ⟨w.heap.size, 1, none⟩ v2) v1 v2 its fls := by
  have hg := grown_set2 X w.heap.size v1 v2
  have hs : (w.alloc O).heap.size = w.heap.size + 1 := by simp
  have bA : Below w.heap.size w (w.alloc O) := (Below.refl _ _).alloc (Nat.le_refl _) _
  have k0 := (h.bel.block w.heap.size (by omega)).trans (heap_alloc_new w O)
  rw [hO] at k0
  have bl := bA.trans (h.bel.mono (by omega))
  exact ⟨(bl.setCell (p := ⟨w.heap.size, 0, none⟩) (Nat.le_refl _) _).setCell (p := ⟨w.heap.size, 1, none⟩) (Nat.le_refl _) _, Ow.base (h.oi.other k0 (by decide) hg) (by omega), Ow.base (h.of.other k0 (by decide) hg) (by omega), h.li, h.lf, h.ni⟩

set_option maxHeartbeats 4000000 in
set_option maxRecDepth 100000 in
theorem drawsay_any (v : Value) (xs : List Int) (w : World) (hlen : xs.length ≤ 1048576) (hbd : ∀ z ∈ xs, 0 ≤ z ∧ z ≤ 255) (hv : Seg w v xs) :
    Calls Tryz.prog 7 #[v] w fun e w' => ∃ a1 n1 c1 a2 n2 c2 its fls id, e = .returned (.tuple #[.agg #[.slice a1 n1 c1, .slice a2 n2 c2], .int .i64 id]) ∧ T3 w w' (.slice a1 n1 c1) (.slice a2 n2 c2) its fls := by
  have HD := hide hbd
  have bA : Below w.heap.size w (w.alloc (StB (.slice none 0 0) (.slice none 0 0))) := (Below.refl _ _).alloc (Nat.le_refl _) _
  have HS := hide (hv.below bA (Nat.le_refl _))
  clear hbd hv bA
  go_enter Tryz.func7, Tryz.ntmps7
  go_wp2_with fail
  refine (l5two_any v xs _ hlen (unhide HD) (unhide HS)).mono ?_
  rintro e w1 ⟨a1, n1, c1, a2, n2, c2, its, fls, id, rfl, t⟩
  have T := hide (t.res rfl)
  obtain ⟨r0, r1, rz⟩ := blk_cells2 ((t.bel.block w.heap.size (by simp)).trans (heap_alloc_new w _))
  clear t HS
  go_wp2
  exact bodyPost_ret (v := .tuple #[.agg #[.slice a1 n1 c1, .slice a2 n2 c2], .int .i64 id]) (by simp [results, Tryz.results7, go_sem, r0, r1]) rfl ⟨_, _, _, _, _, _, _, _, _, rfl, unhide T⟩
set_option maxHeartbeats 1000000 in
theorem at0_any (v : Value) (xs : List Int) (i : Nat) (w : World) (hlen : xs.length ≤ 1048576) (hi : i ≤ 1000000) (hbd : ∀ z ∈ xs, 0 ≤ z ∧ z ≤ 255) (hv : Seg w v xs) :
    Calls Tryz.prog 8 #[v, .int .i64 i] w fun e w' => (∃ x, e = .returned (.int .i64 x) ∧ 0 ≤ x ∧ x ≤ 255) ∧ w = w' := by
  obtain ⟨a, cap, rfl, hcap, hr⟩ := hv
  by_cases hlt : i < xs.length
  · rcases hr with hr | ⟨b, off, rfl, hbw, hc⟩
    · subst hr; simp at hlt
    · have hcx := hc i hlt
      have hzb := hbd (xs.getD i 0) (by simp [hlt])
      generalize hz : xs.getD i 0 = z at hcx hzb
      clear hc hz hbd
      obtain ⟨hz0, hz1⟩ := hzb
      go_enter Tryz.func8, Tryz.ntmps8
      go_wp2
      go_ret
      exact ⟨⟨z, rfl, hz0, hz1⟩, rfl⟩
  · clear hr hbd
    go_enter Tryz.func8, Tryz.ntmps8
    go_wp2
    go_ret
    exact ⟨⟨_, rfl, Int.emod_nonneg _ (by omega), by have := Int.emod_lt_of_pos ((i : Int) * 7 + xs.length) (show (0 : Int) < 256 by omega); omega⟩, rfl⟩
theorem at0_seven (v : Value) (xs : List Int) (w : World) (hlen : xs.length ≤ 1048576) (hbd : ∀ z ∈ xs, 0 ≤ z ∧ z ≤ 255) (hv : Seg w v xs) :
    Calls Tryz.prog 8 #[v, .int .i64 7] w fun e w' => (∃ x, e = .returned (.int .i64 x) ∧ 0 ≤ x ∧ x ≤ 255) ∧ w = w' := at0_any v xs 7 w hlen (by decide) hbd hv
end Go.Proofs.YtdpaocikmijioabGreat
