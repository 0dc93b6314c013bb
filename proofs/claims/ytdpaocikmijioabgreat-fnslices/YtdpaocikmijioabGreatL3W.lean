/-
  spec.l3Two, spec.DrawStateJoin, laws.tail: some two states, with short texts; nothing that was there turns. No statement is proved here.
-/
import Derived.Test.YtdpaocikmijioabGreatL3C
namespace Go.Proofs.YtdpaocikmijioabGreat
open Go.RowKit

variable {w X Y : World} {b g : Nat} {v : Value} {xs : List Int} {v1 v2 : Value} {its : List Itm} {fls : List Flr}
/-- A variable that holds a state. -/
structure U3 (w X : World) (b : Nat) (v1 v2 : Value) (its : List Itm) (fls : List Flr) : Prop where
  ge : w.heap.size ≤ b
  k1 : X.heap[b]? = some (StB v1 v2)
  oi : WkI w.heap.size X v1 its
  of : WkF w.heap.size X v2 fls
theorem U3.lt (h : U3 w X b v1 v2 its fls) : b < X.heap.size := (Array.getElem?_eq_some_iff.1 h.k1).1
theorem U3.later (h : U3 w X b v1 v2 its fls) (bl : Below X.heap.size X Y) : U3 w Y b v1 v2 its fls := ⟨h.ge, (bl.block _ h.lt).trans h.k1, h.oi.later bl, h.of.later bl⟩
theorem U3.new {B : Nat} (hb : w.heap.size ≤ X.heap.size) (hB : w.heap.size ≤ B) (o1 : WkI B X v1 its) (o2 : WkF B X v2 fls) : U3 w (X.alloc (StB v1 v2)) X.heap.size v1 v2 its fls :=
  have bl : Below X.heap.size X (X.alloc (StB v1 v2)) := (Below.refl _ _).alloc (Nat.le_refl _) _
  ⟨hb, heap_alloc_new _ _, (o1.later bl).base hB, (o2.later bl).base hB⟩
theorem U3.call (h : U3 w X b v1 v2 its fls) (hc : Cur X g v xs) (hg : X.grownBy Y (some g)) (hne : b ≠ g) : U3 w Y b v1 v2 its fls := by
  obtain ⟨⟨i, q, hk, _⟩, _⟩ := hc
  exact ⟨h.ge, blk_grown hg h.k1 hne, h.oi.other hk (by decide) hg, h.of.other hk (by decide) hg⟩
theorem U3.put (h : U3 w X b v1 v2 its fls) {B : Nat} {u1 u2 : Value} {is' : List Itm} {fs' : List Flr} (hB : w.heap.size ≤ B) (o1 : WkI B X u1 is') (o2 : WkF B X u2 fs') : U3 w ((X.setCell ⟨b, 0, none⟩ u1).setCell ⟨b, 1, none⟩ u2) b u1 u2 is' fs' :=
  have hg := grown_set2 X b u1 u2
  ⟨h.ge, blk_set2 h.k1 _ _, (o1.other h.k1 (by decide) hg).base hB, (o2.other h.k1 (by decide) hg).base hB⟩
theorem U3.aside (h : U3 w X b v1 v2 its fls) {b2 : Nat} {y1 y2 u1 u2 : Value} (h2 : X.heap[b2]? = some (StB y1 y2)) (hne : b ≠ b2) : U3 w ((X.setCell ⟨b2, 0, none⟩ u1).setCell ⟨b2, 1, none⟩ u2) b v1 v2 its fls :=
  have hg := grown_set2 X b2 u1 u2
  ⟨h.ge, blk_grown hg h.k1 hne, h.oi.other h2 (by decide) hg, h.of.other h2 (by decide) hg⟩
theorem U3.cells (h : U3 w X b v1 v2 its fls) : X.cell? ⟨b, 0, none⟩ = some v1 ∧ X.cell? ⟨b, 1, none⟩ = some v2 := by
  obtain ⟨p0, p1, _⟩ := blk_cells2 h.k1
  exact ⟨p0, p1⟩
theorem U3.len {a1 : Option Addr} {n1 c1 : Nat} {a2 : Option Addr} {n2 c2 : Nat} (h : U3 w X b (.slice a1 n1 c1) (.slice a2 n2 c2) its fls) : n1 = its.length ∧ n2 = fls.length := ⟨(h.oi.rw encI_len).len.1, (h.of.rw encF_len).len.1⟩
theorem U3.rI (h : U3 w X b v1 v2 its fls) : Rw encI 6 X v1 its := h.oi.rw encI_len
theorem U3.rF (h : U3 w X b v1 v2 its fls) : Rw encF 2 X v2 fls := h.of.rw encF_len
/-- The two results' variables, the cursor and what was there. -/
structure Z3 (w X : World) (g : Nat) (v : Value) (xs : List Int) : Prop where
  bel : Below w.heap.size w X
  cu : Cur X g v xs
  gg : w.heap.size + 1 < g
  k2 : X.heap[w.heap.size]? = some (StB (.slice none 0 0) (.slice none 0 0))
  k3 : X.heap[w.heap.size + 1]? = some (StB (.slice none 0 0) (.slice none 0 0))
theorem Z3.lt (h : Z3 w X g v xs) : w.heap.size + 1 < X.heap.size := (Array.getElem?_eq_some_iff.1 h.k3).1
theorem Z3.gl (h : Z3 w X g v xs) : g < X.heap.size := cur_lt h.cu
theorem Z3.later (h : Z3 w X g v xs) (bl : Below X.heap.size X Y) : Z3 w Y g v xs := by
  have := h.lt
  exact ⟨h.bel.trans (bl.mono h.bel.size), h.cu.later bl (Nat.le_refl _), h.gg, (bl.block _ (by omega)).trans h.k2, (bl.block _ (by omega)).trans h.k3⟩
theorem Z3.call (h : Z3 w X g v xs) (hc : Cur Y g v xs) (hg : X.grownBy Y (some g)) : Z3 w Y g v xs := by
  have := h.gg
  exact ⟨h.bel.grown hg h.bel.size (fun q hq => by simp at hq; omega), hc, h.gg, blk_grown hg h.k2 (by omega), blk_grown hg h.k3 (by omega)⟩
theorem Z3.new {w1 : World} (b1 : Below ((w.alloc (StB (.slice none 0 0) (.slice none 0 0))).alloc (StB (.slice none 0 0) (.slice none 0 0))).heap.size ((w.alloc (StB (.slice none 0 0) (.slice none 0 0))).alloc (StB (.slice none 0 0) (.slice none 0 0))) w1) (c1 : Cur w1 g v xs) (hg : g = w.heap.size + 1 + 1) : Z3 w w1 g v xs := by
  have hw0 : ((w.alloc (StB (.slice none 0 0) (.slice none 0 0))).alloc (StB (.slice none 0 0) (.slice none 0 0))).heap.size = w.heap.size + 1 + 1 := by simp
  have b0 : Below w.heap.size w ((w.alloc (StB (.slice none 0 0) (.slice none 0 0))).alloc (StB (.slice none 0 0) (.slice none 0 0))) := ((Below.refl w.heap.size w).alloc (Nat.le_refl _) _).alloc (by simp) _
  exact ⟨b0.trans (b1.mono (by rw [hw0]; omega)), c1, by omega, (b1.block _ (by rw [hw0]; omega)).trans ((Below.heap_alloc _ _ _ (by simp)).trans (heap_alloc_new _ _)), (b1.block _ (by rw [hw0]; omega)).trans (newB2 _ _ _)⟩
/-- Two states that were drawn from a code. -/
structure T4 (w X : World) (v1 v2 u1 u2 : Value) (its : List Itm) (fls : List Flr) (jts : List Itm) (gls : List Flr) : Prop where
  bel : Below w.heap.size w X
  oi : WkI w.heap.size X v1 its
  of : WkF w.heap.size X v2 fls
  pi : WkI w.heap.size X u1 jts
  pf : WkF w.heap.size X u2 gls
  l1 : its.length ≤ 6
  l2 : fls.length ≤ 6
  l3 : jts.length ≤ 6
  l4 : gls.length ≤ 6
  ni : Nine its
  nj : Nine jts
/-- Two states are stored into the results. -/
theorem T4.mk' {u1 u2 : Value} {jts : List Itm} {gls : List Flr} (o1 : WkI w.heap.size X v1 its) (o2 : WkF w.heap.size X v2 fls) (o3 : WkI w.heap.size X u1 jts) (o4 : WkF w.heap.size X u2 gls) (bl : Below w.heap.size w X) (k2 : X.heap[w.heap.size]? = some (StB (.slice none 0 0) (.slice none 0 0))) (k3 : X.heap[w.heap.size + 1]? = some (StB (.slice none 0 0) (.slice none 0 0)))
    (l1 : its.length ≤ 6) (l2 : fls.length ≤ 6) (l3 : jts.length ≤ 6) (l4 : gls.length ≤ 6) (ni : Nine its) (nj : Nine jts) :
    T4 w ((((X.setCell ⟨w.heap.size, 0, none⟩ v1).setCell ⟨w.heap.size, 1, none⟩ v2).setCell ⟨w.heap.size + 1, 0, none⟩ u1).setCell ⟨w.heap.size + 1, 1, none⟩ u2) v1 v2 u1 u2 its fls jts gls := by
  have g1 := grown_set2 X w.heap.size v1 v2
  have k3' := blk_grown g1 k3 (by omega)
  have g2 := grown_set2 ((X.setCell ⟨w.heap.size, 0, none⟩ v1).setCell ⟨w.heap.size, 1, none⟩ v2) (w.heap.size + 1) u1 u2
  exact ⟨(((bl.setCell (p := ⟨w.heap.size, 0, none⟩) (Nat.le_refl _) _).setCell (p := ⟨w.heap.size, 1, none⟩) (Nat.le_refl _) _).setCell (p := ⟨w.heap.size + 1, 0, none⟩) (by simp) _).setCell (p := ⟨w.heap.size + 1, 1, none⟩) (by simp) _,
    (o1.other k2 (by decide) g1).other k3' (by decide) g2, (o2.other k2 (by decide) g1).other k3' (by decide) g2, (o3.other k2 (by decide) g1).other k3' (by decide) g2, (o4.other k2 (by decide) g1).other k3' (by decide) g2, l1, l2, l3, l4, ni, nj⟩
theorem T4.two {b' : Nat} {u1 u2 : Value} {jts : List Itm} {gls : List Flr} (h : U3 w X b v1 v2 its fls) (h' : U3 w X b' u1 u2 jts gls) (bl : Below w.heap.size w X) (k2 : X.heap[w.heap.size]? = some (StB (.slice none 0 0) (.slice none 0 0))) (k3 : X.heap[w.heap.size + 1]? = some (StB (.slice none 0 0) (.slice none 0 0)))
    (l1 : its.length ≤ 6) (l2 : fls.length ≤ 6) (l3 : jts.length ≤ 6) (l4 : gls.length ≤ 6) (ni : Nine its) (nj : Nine jts) :
    T4 w ((((X.setCell ⟨w.heap.size, 0, none⟩ v1).setCell ⟨w.heap.size, 1, none⟩ v2).setCell ⟨w.heap.size + 1, 0, none⟩ u1).setCell ⟨w.heap.size + 1, 1, none⟩ u2) v1 v2 u1 u2 its fls jts gls := T4.mk' h.oi h.of h'.oi h'.of bl k2 k3 l1 l2 l3 l4 ni nj
theorem T4.drew {u1 u2 : Value} {jts : List Itm} {gls : List Flr} (h : T4 w X v1 v2 u1 u2 its fls jts gls) : T4 w X.drew v1 v2 u1 u2 its fls jts gls :=
  have b : Below X.heap.size X X.drew := (Below.refl _ _).drew
  ⟨h.bel.trans (b.mono h.bel.size), h.oi.later b, h.of.later b, h.pi.later b, h.pf.later b, h.l1, h.l2, h.l3, h.l4, h.ni, h.nj⟩

set_option maxHeartbeats 8000000 in
set_option maxRecDepth 100000 in
theorem l3two_any (v : Value) (xs : List Int) (w : World) (hlen : xs.length ≤ 1048576) (hbd : ∀ z ∈ xs, 0 ≤ z ∧ z ≤ 255) (hv : Seg w v xs) :
    Calls Tryz.prog 67 #[v] w fun e w' => ∃ a1 n1 c1 a2 n2 c2 b1 m1 d1 b2 m2 d2 its fls jts gls, e = .returned (.tuple #[.agg #[.slice a1 n1 c1, .slice a2 n2 c2], .agg #[.slice b1 m1 d1, .slice b2 m2 d2]]) ∧ T4 w w' (.slice a1 n1 c1) (.slice a2 n2 c2) (.slice b1 m1 d1) (.slice b2 m2 d2) its fls jts gls := by
  have HD := hide hbd
  have HS := hide (hv.below (((Below.refl w.heap.size w).alloc (Nat.le_refl _) (StB (.slice none 0 0) (.slice none 0 0))).alloc (by simp) (StB (.slice none 0 0) (.slice none 0 0))) (Nat.le_refl _))
  clear hbd hv
  go_enter Tryz.func67, Tryz.ntmps67
  go_wp2_with fail
  refine (new_any v xs _ hlen (unhide HD) (unhide HS)).mono ?_
  rintro e w1 ⟨rfl, c1, b1, s1⟩
  have hw0 : ((w.alloc (StB (.slice none 0 0) (.slice none 0 0))).alloc (StB (.slice none 0 0) (.slice none 0 0))).heap.size = w.heap.size + 1 + 1 := by simp
  rw [hw0] at c1
  obtain ⟨g, hg⟩ : ∃ g, g = w.heap.size + 1 + 1 := ⟨_, rfl⟩
  rw [hw0, ← hg]
  rw [← hg] at c1
  have Z1 := hide (Z3.new b1 c1 hg)
  clear hg c1 b1 s1 hw0 HS
  go_wp2_with fail
  refine (l3draw_any g v xs _ hlen (unhide HD) (unhide Z1).cu).mono ?_
  rintro e w2 ⟨a1, n1, c1, a2, n2, c2, its, fls, rfl, d⟩
  go_upto_region 3 with fail
  obtain ⟨wa, hwa⟩ : ∃ W, W = w2.alloc (StB (.slice a1 n1 c1) (.slice a2 n2 c2)) := ⟨_, rfl⟩
  obtain ⟨ba, hba⟩ : ∃ b, b = w2.heap.size := ⟨_, rfl⟩
  rw [← hwa, ← hba]
  have bwa : Below w2.heap.size w2 wa := by rw [hwa]; exact (Below.refl _ _).alloc (Nat.le_refl _) _
  have Za := hide (((unhide Z1).call d.cu d.gr).later bwa)
  have hba1 : g < ba := by rw [hba]; exact Nat.lt_of_lt_of_le (unhide Z1).gl d.gr.size
  have hba2 : w.heap.size + 1 < ba := by have := (unhide Z1).gg; omega
  have VA := hide (show V3 w1 wa ba (.slice a1 n1 c1) (.slice a2 n2 c2) its fls from by rw [hwa, hba]; exact V3.new d.gr.size (Nat.le_refl _) d.oi d.of)
  have L1 := hide d.li
  have L2 := hide d.lf
  have NI := hide d.ni
  have hz1 := (unhide Z1).bel.size
  clear d hwa hba bwa
  go_wp2_with fail
  refine (l3draw_any g v xs _ hlen (unhide HD) (unhide Za).cu).mono ?_
  rintro e w3 ⟨b1, m1, d1, b2, m2, d2, jts, gls, rfl, d⟩
  go_upto_region 4 with fail
  obtain ⟨wb, hwb⟩ : ∃ W, W = w3.alloc (StB (.slice b1 m1 d1) (.slice b2 m2 d2)) := ⟨_, rfl⟩
  obtain ⟨bb, hbb⟩ : ∃ b, b = w3.heap.size := ⟨_, rfl⟩
  rw [← hwb, ← hbb]
  have bwb : Below w3.heap.size w3 wb := by rw [hwb]; exact (Below.refl _ _).alloc (Nat.le_refl _) _
  have Zb := hide (((unhide Za).call d.cu d.gr).later bwb)
  have hbb1 : ba < bb := by rw [hbb]; exact Nat.lt_of_lt_of_le (unhide VA).lt d.gr.size
  obtain ⟨⟨ix, qx, hkx, _⟩, _⟩ := (unhide Za).cu
  have VAb := hide (show V3 w1 wb ba (.slice a1 n1 c1) (.slice a2 n2 c2) its fls from (show V3 w1 w3 ba (.slice a1 n1 c1) (.slice a2 n2 c2) its fls from ⟨(unhide VA).ge, blk_grown d.gr (unhide VA).k1 (by omega), (unhide VA).oi.other hkx (by decide) d.gr, (unhide VA).of.other hkx (by decide) d.gr⟩).later bwb)
  have UB := hide (show U3 w wb bb (.slice b1 m1 d1) (.slice b2 m2 d2) jts gls from by rw [hwb, hbb]; exact U3.new ((unhide Za).bel.trans (show Below w.heap.size wa w3 from ⟨d.gr.os, d.gr.tape, d.gr.output, d.gr.size, fun k hk => d.gr.block k (Nat.lt_of_lt_of_le hk (unhide Za).bel.size) (by have := (unhide Za).gg; simp; omega)⟩)).size (unhide Za).bel.size (.inl d.oi) (.inl d.of))
  have L3 := hide d.li
  have L4 := hide d.lf
  have NJ := hide d.ni
  clear d hwb hbb bwb Za VA hkx
  go_wp2_with fail
  refine (below_any g v xs 5 _ hlen (unhide HD) (by omega) (by omega) (unhide Zb).cu).mono ?_
  rintro e w4 ⟨⟨x, rfl, xa, xb⟩, c4, g4⟩
  have Z4 := hide ((unhide Zb).call c4 g4)
  have U4 := hide ((unhide UB).call (unhide Zb).cu g4 (by omega))
  obtain ⟨⟨ix, qx, hkx, _⟩, _⟩ := (unhide Zb).cu
  have V4 := hide (show V3 w1 w4 ba (.slice a1 n1 c1) (.slice a2 n2 c2) its fls from ⟨(unhide VAb).ge, blk_grown g4 (unhide VAb).k1 (by omega), (unhide VAb).oi.other hkx (by decide) g4, (unhide VAb).of.other hkx (by decide) g4⟩)
  obtain ⟨f1, f2⟩ := (unhide V4).len
  obtain ⟨f3, f4⟩ := (unhide U4).len
  have l1 := unhide L1
  have l2 := unhide L2
  have l3 := unhide L3
  have l4 := unhide L4
  obtain ⟨h1, h2, h3, h4⟩ : n1 ≤ 6 ∧ n2 ≤ 6 ∧ m1 ≤ 6 ∧ m2 ≤ 6 := by omega
  clear c4 g4 Zb UB VAb hkx f1 f2 f3 f4 l1 l2 l3 l4
  have A4 := hide (show U3 w w4 ba (.slice a1 n1 c1) (.slice a2 n2 c2) its fls from ⟨by omega, (unhide V4).k1, .inl ((unhide V4).oi.base hz1), .inl ((unhide V4).of.base hz1)⟩)
  have hl4 := (unhide Z4).lt
  by_cases h0 : x = 0
  · subst h0
    obtain ⟨p0, p1⟩ := (unhide V4).cells
    go_wp2_with fail
    clear p0 p1
    refine (l3copy_any a1 n1 c1 its a2 n2 c2 fls w1.heap.size _ h1 h2 (unhide V4).oi (unhide V4).of).mono ?_
    rintro e w5 ⟨e1, k1, e2, k2, rfl, o1, o2, b5⟩
    have Z5 := hide ((unhide Z4).later b5)
    have U5 := hide ((unhide U4).later b5)
    have A5 := hide ((unhide A4).later b5)
    have O1 := hide o1
    have O2 := hide o2
    clear b5 o1 o2 U4 A4 V4
    obtain ⟨s0, s1, s2⟩ := blk_cells2 (unhide U5).k1
    go_upto_region 10 with fail
    clear s0 s1 s2
    obtain ⟨wx, hwx⟩ : ∃ W, W = (w5.setCell ⟨bb, 0, none⟩ (.slice e1 n1 k1)).setCell ⟨bb, 1, none⟩ (.slice e2 n2 k2) := ⟨_, rfl⟩
    rw [← hwx]
    have hgx : w5.grownBy wx (some bb) := by rw [hwx]; exact grown_set2 _ _ _ _
    have UX := hide (show U3 w wx bb (.slice e1 n1 k1) (.slice e2 n2 k2) its fls from by rw [hwx]; exact (unhide U5).put (unhide Z4).bel.size (unhide O1) (unhide O2))
    have AX := hide (show U3 w wx ba (.slice a1 n1 c1) (.slice a2 n2 c2) its fls from by rw [hwx]; exact (unhide A5).aside (unhide U5).k1 (by omega))
    have BX := hide (show Below w.heap.size w wx from by rw [hwx]; exact ((unhide Z5).bel.setCell (p := ⟨bb, 0, none⟩) (by show w.heap.size ≤ bb; omega) _).setCell (p := ⟨bb, 1, none⟩) (by show w.heap.size ≤ bb; omega) _)
    have K2 := hide (blk_grown hgx (unhide Z5).k2 (by omega))
    have K3 := hide (blk_grown hgx (unhide Z5).k3 (by omega))
    clear hwx hgx U5 A5 O1 O2 Z5 Z4
    have T := hide (T4.two (unhide AX) (unhide UX) (unhide BX) (unhide K2) (unhide K3) (unhide L1) (unhide L2) (unhide L1) (unhide L2) (unhide NI) (unhide NI))
    obtain ⟨p0, p1⟩ := (unhide AX).cells
    obtain ⟨q0, q1⟩ := (unhide UX).cells
    obtain ⟨r0, r1, r2⟩ := blk_cells2 (unhide K2)
    obtain ⟨t0, t1, t2⟩ := blk_cells2 (unhide K3)
    have ly0 := (unhide AX).lt
    have ly1 := (unhide UX).lt
    clear AX UX BX K2 K3
    go_region
    all_goals go_wp2
    all_goals exact bodyPost_ret (v := .tuple #[.agg #[.slice a1 n1 c1, .slice a2 n2 c2], .agg #[.slice e1 n1 k1, .slice e2 n2 k2]]) (by simp [results, Tryz.results67, go_sem, r0, r1, t0, t1]) rfl ⟨_, _, _, _, _, _, _, _, _, _, _, _, _, _, _, _, rfl, (unhide T).drew⟩
  have e0 : (x == 0) = false := by simpa using h0
  by_cases h1' : x = 1
  · subst h1'
    obtain ⟨okA, hokA⟩ : ∃ ok, Hid (okS its fls = ok) := ⟨_, hide rfl⟩
    obtain ⟨okB, hokB⟩ : ∃ ok, Hid (okS jts gls = ok) := ⟨_, hide rfl⟩
    obtain ⟨p0, p1⟩ := (unhide A4).cells
    go_wp2_with fail
    clear p0 p1
    refine (sstateok_any a1 n1 c1 its a2 n2 c2 fls okA hokA _ (by omega) (by omega) (unhide A4).rI (unhide A4).rF).mono ?_
    rintro e w5 ⟨rfl, b5⟩
    have Z5 := hide ((unhide Z4).later b5)
    have U5 := hide ((unhide U4).later b5)
    have A5 := hide ((unhide A4).later b5)
    have hl5 := (unhide Z5).lt
    clear b5 U4 A4 V4 Z4
    cases okA
    · go_upto_region 10 with fail
      obtain ⟨wx, hwx⟩ : ∃ W, W = w5 := ⟨_, rfl⟩
      subst hwx
      have UX := U5
      have AX := A5
      have BX := hide (unhide Z5).bel
      have K2 := hide (unhide Z5).k2
      have K3 := hide (unhide Z5).k3
      clear U5 A5 Z5
      have T := hide (T4.two (unhide AX) (unhide UX) (unhide BX) (unhide K2) (unhide K3) (unhide L1) (unhide L2) (unhide L3) (unhide L4) (unhide NI) (unhide NJ))
      obtain ⟨p0, p1⟩ := (unhide AX).cells
      obtain ⟨q0, q1⟩ := (unhide UX).cells
      obtain ⟨r0, r1, r2⟩ := blk_cells2 (unhide K2)
      obtain ⟨t0, t1, t2⟩ := blk_cells2 (unhide K3)
      have ly0 := (unhide AX).lt
      have ly1 := (unhide UX).lt
      clear AX UX BX K2 K3
      go_region
      all_goals go_wp2
      all_goals exact bodyPost_ret (v := .tuple #[.agg #[.slice a1 n1 c1, .slice a2 n2 c2], .agg #[.slice b1 m1 d1, .slice b2 m2 d2]]) (by simp [results, Tryz.results67, go_sem, r0, r1, t0, t1]) rfl ⟨_, _, _, _, _, _, _, _, _, _, _, _, _, _, _, _, rfl, (unhide T).drew⟩
    obtain ⟨p0, p1⟩ := (unhide U5).cells
    go_wp2_with fail
    clear p0 p1
    refine (sstateok_any b1 m1 d1 jts b2 m2 d2 gls okB hokB _ (by omega) (by omega) (unhide U5).rI (unhide U5).rF).mono ?_
    rintro e w6 ⟨rfl, b6⟩
    have Z6 := hide ((unhide Z5).later b6)
    have U6 := hide ((unhide U5).later b6)
    have A6 := hide ((unhide A5).later b6)
    have hl6 := (unhide Z6).lt
    clear b6 U5 A5 Z5
    cases okB
    · go_upto_region 10 with fail
      obtain ⟨wx, hwx⟩ : ∃ W, W = w6 := ⟨_, rfl⟩
      subst hwx
      have UX := U6
      have AX := A6
      have BX := hide (unhide Z6).bel
      have K2 := hide (unhide Z6).k2
      have K3 := hide (unhide Z6).k3
      clear U6 A6 Z6
      have T := hide (T4.two (unhide AX) (unhide UX) (unhide BX) (unhide K2) (unhide K3) (unhide L1) (unhide L2) (unhide L3) (unhide L4) (unhide NI) (unhide NJ))
      obtain ⟨p0, p1⟩ := (unhide AX).cells
      obtain ⟨q0, q1⟩ := (unhide UX).cells
      obtain ⟨r0, r1, r2⟩ := blk_cells2 (unhide K2)
      obtain ⟨t0, t1, t2⟩ := blk_cells2 (unhide K3)
      have ly0 := (unhide AX).lt
      have ly1 := (unhide UX).lt
      clear AX UX BX K2 K3
      go_region
      all_goals go_wp2
      all_goals exact bodyPost_ret (v := .tuple #[.agg #[.slice a1 n1 c1, .slice a2 n2 c2], .agg #[.slice b1 m1 d1, .slice b2 m2 d2]]) (by simp [results, Tryz.results67, go_sem, r0, r1, t0, t1]) rfl ⟨_, _, _, _, _, _, _, _, _, _, _, _, _, _, _, _, rfl, (unhide T).drew⟩
    obtain ⟨p0, p1⟩ := (unhide A6).cells
    obtain ⟨q0, q1⟩ := (unhide U6).cells
    go_wp2_with fail
    clear p0 p1 q0 q1
    refine (l3join_any a1 n1 c1 its a2 n2 c2 fls b1 m1 d1 jts b2 m2 d2 gls _ (by omega) (by omega) (by omega) (by omega) (unhide A6).rI (unhide A6).rF (unhide U6).rI (unhide U6).rF).mono ?_
    rintro e w7 ⟨e1, y1, k1, e2, y2, k2, rfl, o1, o2, b7⟩
    have Z7 := hide ((unhide Z6).later b7)
    have U7 := hide ((unhide U6).later b7)
    have A7 := hide ((unhide A6).later b7)
    have O1 := hide o1
    have O2 := hide o2
    have hl7 := (unhide Z7).lt
    clear b7 o1 o2 U6 A6
    obtain ⟨s0, s1, s2⟩ := blk_cells2 (unhide U7).k1
    go_upto_region 10 with fail
    clear s0 s1 s2
    obtain ⟨wx, hwx⟩ : ∃ W, W = (w7.setCell ⟨bb, 0, none⟩ (.slice e1 y1 k1)).setCell ⟨bb, 1, none⟩ (.slice e2 y2 k2) := ⟨_, rfl⟩
    rw [← hwx]
    have hgx : w7.grownBy wx (some bb) := by rw [hwx]; exact grown_set2 _ _ _ _
    have UX := hide (show U3 w wx bb (.slice e1 y1 k1) (.slice e2 y2 k2) (joinI its fls jts gls) (joinF fls gls) from by rw [hwx]; exact (unhide U7).put (unhide Z6).bel.size (.inl (unhide O1)) (.inl (unhide O2)))
    have AX := hide (show U3 w wx ba (.slice a1 n1 c1) (.slice a2 n2 c2) its fls from by rw [hwx]; exact (unhide A7).aside (unhide U7).k1 (by omega))
    have BX := hide (show Below w.heap.size w wx from by rw [hwx]; exact ((unhide Z7).bel.setCell (p := ⟨bb, 0, none⟩) (by show w.heap.size ≤ bb; omega) _).setCell (p := ⟨bb, 1, none⟩) (by show w.heap.size ≤ bb; omega) _)
    have K2 := hide (blk_grown hgx (unhide Z7).k2 (by omega))
    have K3 := hide (blk_grown hgx (unhide Z7).k3 (by omega))
    have L5 : Hid ((joinI its fls jts gls).length ≤ 6) := hide (by have := jI_len its fls jts gls 5; unfold joinI; omega)
    have L6 : Hid ((joinF fls gls).length ≤ 6) := hide (by have := jF_len fls gls 5; unfold joinF; omega)
    have NK := hide (nine_join (fs := fls) (gs := gls) (unhide NI) (unhide NJ))
    clear hwx hgx U7 A7 O1 O2 Z7 Z6
    have T := hide (T4.two (unhide AX) (unhide UX) (unhide BX) (unhide K2) (unhide K3) (unhide L1) (unhide L2) (unhide L5) (unhide L6) (unhide NI) (unhide NK))
    obtain ⟨p0, p1⟩ := (unhide AX).cells
    obtain ⟨q0, q1⟩ := (unhide UX).cells
    obtain ⟨r0, r1, r2⟩ := blk_cells2 (unhide K2)
    obtain ⟨t0, t1, t2⟩ := blk_cells2 (unhide K3)
    have ly0 := (unhide AX).lt
    have ly1 := (unhide UX).lt
    clear AX UX BX K2 K3
    go_region
    all_goals go_wp2
    all_goals exact bodyPost_ret (v := .tuple #[.agg #[.slice a1 n1 c1, .slice a2 n2 c2], .agg #[.slice e1 y1 k1, .slice e2 y2 k2]]) (by simp [results, Tryz.results67, go_sem, r0, r1, t0, t1]) rfl ⟨_, _, _, _, _, _, _, _, _, _, _, _, _, _, _, _, rfl, (unhide T).drew⟩
  have e1 : (x == 1) = false := by simpa using h1'
  go_upto_region 10 with fail
  obtain ⟨wx, hwx⟩ : ∃ W, W = w4 := ⟨_, rfl⟩
  subst hwx
  have UX := U4
  have AX := A4
  have BX := hide (unhide Z4).bel
  have K2 := hide (unhide Z4).k2
  have K3 := hide (unhide Z4).k3
  clear U4 A4 Z4 V4
  have T := hide (T4.two (unhide AX) (unhide UX) (unhide BX) (unhide K2) (unhide K3) (unhide L1) (unhide L2) (unhide L3) (unhide L4) (unhide NI) (unhide NJ))
  obtain ⟨p0, p1⟩ := (unhide AX).cells
  obtain ⟨q0, q1⟩ := (unhide UX).cells
  obtain ⟨r0, r1, r2⟩ := blk_cells2 (unhide K2)
  obtain ⟨t0, t1, t2⟩ := blk_cells2 (unhide K3)
  have ly0 := (unhide AX).lt
  have ly1 := (unhide UX).lt
  clear AX UX BX K2 K3
  go_region
  all_goals go_wp2
  all_goals exact bodyPost_ret (v := .tuple #[.agg #[.slice a1 n1 c1, .slice a2 n2 c2], .agg #[.slice b1 m1 d1, .slice b2 m2 d2]]) (by simp [results, Tryz.results67, go_sem, r0, r1, t0, t1]) rfl ⟨_, _, _, _, _, _, _, _, _, _, _, _, _, _, _, _, rfl, (unhide T).drew⟩

set_option maxHeartbeats 4000000 in
set_option maxRecDepth 100000 in
theorem drawjoin_any (v : Value) (xs : List Int) (w : World) (hlen : xs.length ≤ 1048576) (hbd : ∀ z ∈ xs, 0 ≤ z ∧ z ≤ 255) (hv : Seg w v xs) :
    Calls Tryz.prog 29 #[v] w fun e w' => ∃ a1 n1 c1 a2 n2 c2 b1 m1 d1 b2 m2 d2 its fls jts gls, e = .returned (.tuple #[.agg #[.slice a1 n1 c1, .slice a2 n2 c2], .agg #[.slice b1 m1 d1, .slice b2 m2 d2]]) ∧ T4 w w' (.slice a1 n1 c1) (.slice a2 n2 c2) (.slice b1 m1 d1) (.slice b2 m2 d2) its fls jts gls := by
  have HD := hide hbd
  have bA : Below w.heap.size w ((w.alloc (StB (.slice none 0 0) (.slice none 0 0))).alloc (StB (.slice none 0 0) (.slice none 0 0))) := ((Below.refl w.heap.size w).alloc (Nat.le_refl _) _).alloc (by simp) _
  have HS := hide (hv.below bA (Nat.le_refl _))
  have BA := hide bA
  have KA := hide (show ((w.alloc (StB (.slice none 0 0) (.slice none 0 0))).alloc (StB (.slice none 0 0) (.slice none 0 0))).heap[w.heap.size]? = some (StB (.slice none 0 0) (.slice none 0 0)) from (Below.heap_alloc _ _ _ (by simp)).trans (heap_alloc_new _ _))
  have KB := hide (newB2 w (StB (.slice none 0 0) (.slice none 0 0)) (StB (.slice none 0 0) (.slice none 0 0)))
  have hz : ((w.alloc (StB (.slice none 0 0) (.slice none 0 0))).alloc (StB (.slice none 0 0) (.slice none 0 0))).heap.size = w.heap.size + 1 + 1 := by simp
  have HZ := hide hz
  clear hbd hv bA hz
  go_enter Tryz.func29, Tryz.ntmps29
  go_wp2_with fail
  refine (l3two_any v xs _ hlen (unhide HD) (unhide HS)).mono ?_
  rintro e w1 ⟨a1, n1, c1, a2, n2, c2, b1, m1, d1, b2, m2, d2, its, fls, jts, gls, rfl, t⟩
  have hz := unhide HZ
  have B1 : Below w.heap.size w w1 := (unhide BA).trans (t.bel.mono (by rw [hz]; omega))
  have K2 := hide ((t.bel.block _ (by rw [hz]; omega)).trans (unhide KA))
  have K3 := hide ((t.bel.block _ (by rw [hz]; omega)).trans (unhide KB))
  have o1 := t.oi.base (base' := w.heap.size) (by rw [hz]; omega)
  have o2 := t.of.base (base' := w.heap.size) (by rw [hz]; omega)
  have o3 := t.pi.base (base' := w.heap.size) (by rw [hz]; omega)
  have o4 := t.pf.base (base' := w.heap.size) (by rw [hz]; omega)
  have T := hide (T4.mk' o1 o2 o3 o4 B1 (unhide K2) (unhide K3) t.l1 t.l2 t.l3 t.l4 t.ni t.nj)
  obtain ⟨r0, r1, r2⟩ := blk_cells2 (unhide K2)
  obtain ⟨t0, t1, t2⟩ := blk_cells2 (unhide K3)
  clear t o1 o2 o3 o4 B1 hz K2 K3 KA KB BA HS HZ
  go_wp2
  exact bodyPost_ret (v := .tuple #[.agg #[.slice a1 n1 c1, .slice a2 n2 c2], .agg #[.slice b1 m1 d1, .slice b2 m2 d2]]) (by simp [results, Tryz.results29, go_sem, r0, r1, t0, t1]) rfl ⟨_, _, _, _, _, _, _, _, _, _, _, _, _, _, _, _, rfl, unhide T⟩
theorem tail3_seg {w : World} {b off cap n : Nat} {xs : List Int} (hn : n = xs.length - 1) (hcap : xs.length ≤ cap) (h0 : xs.length ≠ 0) (hlt : b < w.heap.size) (hc : ∀ i, i < xs.length → w.cell? ⟨b, off + i, none⟩ = some (.int .u8 (xs.getD i 0))) : Seg w (.slice (some ⟨b, off + 1, none⟩) n (cap - 1)) xs.tail := by
  refine Seg.mk (by simp [hn]) (by omega) (.inr ⟨b, off + 1, rfl, hlt, fun i hi => ?_⟩)
  simp at hi
  rw [show off + 1 + i = off + (i + 1) by omega, hc (i + 1) (by omega)]
  cases xs with
  | nil => simp at h0
  | cons x r => simp

end Go.Proofs.YtdpaocikmijioabGreat
