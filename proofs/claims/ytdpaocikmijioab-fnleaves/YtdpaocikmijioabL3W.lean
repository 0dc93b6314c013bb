/-
  spec.l3Two, spec.DrawStateJoin, laws.tail: some two states, with short texts; nothing that was there turns. No statement is proved here.
-/
import Derived.Test.YtdpaocikmijioabL3C
namespace Go.Proofs.Ytdpaocikmijioab
open Go.RowKit

variable {w X Y : World} {b g : Nat} {v : Value} {xs : List Int} {v1 v2 : Value} {its : List Itm} {fls : List Flr}
/-- A variable that holds a state. -/
structure U3 (w X : World) (b : Nat) (v1 v2 : Value) (its : List Itm) (fls : List Flr) : Prop where
  ge : w.heap.size ≤ b
  k1 : X.heap[b]? = some (StB v1 v2)
  oi : WkI w.heap.size X v1 its
  of : WkF w.heap.size X v2 fls
theorem U3.lt (h : U3 w X b v1 v2 its fls) : b < X.heap.size := (Array.getElem?_eq_some_iff.1 h.k1).1
theorem U3.later (h : U3 w X b v1 v2 its fls) (bl : Below X.heap.size X Y) : U3 w Y b v1 v2 its fls := ⟨h.ge, (bl.block _ h.lt).trans h.k1, h.oi.later bl, h.of.later bl⟩
theorem U3.new {B : Nat} (hb : w.heap.size ≤ X.heap.size) (hB : w.heap.size ≤ B) (o1 : WkI B X v1 its) (o2 : WkF B X v2 fls) : U3 w (X.alloc (StB v1 v2)) X.heap.size v1 v2 its fls :=
  have bl : Below X.heap.size X (X.alloc (StB v1 v2)) := (Below.refl _ _).alloc (Nat.le_refl _) _
  ⟨hb, heap_alloc_new _ _, (o1.later bl).base hB, (o2.later bl).base hB⟩
theorem U3.call (h : U3 w X b v1 v2 its fls) (hc : Cur X g v xs) (hg : X.grownBy Y (some g)) (hne : b ≠ g) : U3 w Y b v1 v2 its fls := by
  obtain ⟨⟨i, q, hk, _⟩, _⟩ := hc
  exact ⟨h.ge, blk_grown hg h.k1 hne, h.oi.other hk (by decide) hg, h.of.other hk (by decide) hg⟩
theorem U3.put (h : U3 w X b v1 v2 its fls) {B : Nat} {u1 u2 : Value} {is' : List Itm} {fs' : List Flr} (hB : w.heap.size ≤ B) (o1 : WkI B X u1 is') (o2 : WkF B X u2 fs') : U3 w ((X.setCell ⟨b, 0, none⟩ u1).setCell ⟨b, 1, none⟩ u2) b u1 u2 is' fs' :=
  have hg := grown_set2 X b u1 u2
  ⟨h.ge, blk_set2 h.k1 _ _, (o1.other h.k1 (by decide) hg).base hB, (o2.other h.k1 (by decide) hg).base hB⟩
theorem U3.aside (h : U3 w X b v1 v2 its fls) {b2 : Nat} {y1 y2 u1 u2 : Value} (h2 : X.heap[b2]? = some (StB y1 y2)) (hne : b ≠ b2) : U3 w ((X.setCell ⟨b2, 0, none⟩ u1).setCell ⟨b2, 1, none⟩ u2) b v1 v2 its fls :=
  have hg := grown_set2 X b2 u1 u2
  ⟨h.ge, blk_grown hg h.k1 hne, h.oi.other h2 (by decide) hg, h.of.other h2 (by decide) hg⟩
theorem U3.cells (h : U3 w X b v1 v2 its fls) : X.cell? ⟨b, 0, none⟩ = some v1 ∧ X.cell? ⟨b, 1, none⟩ = some v2 := by
  obtain ⟨p0, p1, _⟩ := blk_cells2 h.k1
  exact ⟨p0, p1⟩
theorem U3.len {a1 : Option Addr} {n1 c1 : Nat} {a2 : Option Addr} {n2 c2 : Nat} (h : U3 w X b (.slice a1 n1 c1) (.slice a2 n2 c2) its fls) : n1 = its.length ∧ n2 = fls.length := ⟨(h.oi.rw encI_len).len.1, (h.of.rw encF_len).len.1⟩
theorem U3.rI (h : U3 w X b v1 v2 its fls) : Rw encI 6 X v1 its := h.oi.rw encI_len
theorem U3.rF (h : U3 w X b v1 v2 its fls) : Rw encF 2 X v2 fls := h.of.rw encF_len
/-- The two results' variables, the cursor and what was there. -/
structure Z3 (w X : World) (g : Nat) (v : Value) (xs : List Int) : Prop where
  bel : Below w.heap.size w X
  cu : Cur X g v xs
  gg : w.heap.size + 1 < g
  k2 : X.heap[w.heap.size]? = some (StB (.slice none 0 0) (.slice none 0 0))
  k3 : X.heap[w.heap.size + 1]? = some (StB (.slice none 0 0) (.slice none 0 0))
theorem Z3.lt (h : Z3 w X g v xs) : w.heap.size + 1 < X.heap.size := (Array.getElem?_eq_some_iff.1 h.k3).1
theorem Z3.gl (h : Z3 w X g v xs) : g < X.heap.size := cur_lt h.cu
theorem Z3.later (h : Z3 w X g v xs) (bl : Below X.heap.size X Y) : Z3 w Y g v xs := by
  have := h.lt
  exact ⟨h.bel.trans (bl.mono h.bel.size), h.cu.later bl (Nat.le_refl _), h.gg, (bl.block _ (by omega)).trans h.k2, (bl.block _ (by omega)).trans h.k3⟩
theorem Z3.call (h : Z3 w X g v xs) (hc : Cur Y g v xs) (hg : X.grownBy Y (some g)) : Z3 w Y g v xs := by
  have := h.gg
  exact ⟨h.bel.grown hg h.bel.size (fun q hq => by simp at hq; omega), hc, h.gg, blk_grown hg h.k2 (by omega), blk_grown hg h.k3 (by omega)⟩
theorem Z3.new {w1 : World} (b1 : Below ((w.alloc (StB (.slice none 0 0) (.slice none 0 0))).alloc (StB (.slice none 0 0) (.slice none 0 0))).heap.size ((w.alloc (StB (.slice none 0 0) (.slice none 0 0))).alloc (StB (.slice none 0 0) (.slice none 0 0))) w1) (c1 : Cur w1 g v xs) (hg : g = w.heap.size + 1 + 1) : Z3 w w1 g v xs := by
  have hw0 : ((w.alloc (StB (.slice none 0 0) (.slice none 0 0))).alloc (StB (.slice none 0 0) (.slice none 0 0))).heap.size = w.heap.size + 1 + 1 := by simp
  have b0 : Below w.heap.size w ((w.alloc (StB (.slice none 0 0) (.slice none 0 0))).alloc (StB (.slice none 0 0) (.slice none 0 0))) := ((Below.refl w.heap.size w).alloc (Nat.le_refl _) _).alloc (by simp) _
  exact ⟨b0.trans (b1.mono (by rw [hw0]; omega)), c1, by omega, (b1.block _ (by rw [hw0]; omega)).trans ((Below.heap_alloc _ _ _ (by simp)).trans (heap_alloc_new _ _)), (b1.block _ (by rw [hw0]; omega)).trans (newB2 _ _ _)⟩
/-- Two states that were drawn from a code. -/
structure T4 (w X : World) (v1 v2 u1 u2 : Value) (its : List Itm) (fls : List Flr) (jts : List Itm) (gls : List Flr) : Prop where
  bel : Below w.heap.size w X
  oi : WkI w.heap.size X v1 its
  of : WkF w.heap.size X v2 fls
  pi : WkI w.heap.size X u1 jts
  pf : WkF w.heap.size X u2 gls
  l1 : its.length ≤ 6
  l2 : fls.length ≤ 6
  l3 : jts.length ≤ 6
  l4 : gls.length ≤ 6
  ni : Nine its
  nj : Nine jts
/-- Two states are stored into the results. -/
theorem T4.mk' {u1 u2 : Value} {jts : List Itm} {gls : List Flr} (o1 : WkI w.heap.size X v1 its) (o2 : WkF w.heap.size X v2 fls) (o3 : WkI w.heap.size X u1 jts) (o4 : WkF w.heap.size X u2 gls) (bl : Below w.heap.size w X) (k2 : X.heap[w.heap.size]? = some (StB (.slice none 0 0) (.slice none 0 0))) (k3 : X.heap[w.heap.size + 1]? = some (StB (.slice none 0 0) (.slice none 0 0)))
    (l1 : its.length ≤ 6) (l2 : fls.length ≤ 6) (l3 : jts.length ≤ 6) (l4 : gls.length ≤ 6) (ni : Nine its) (nj : Nine jts) :
    T4 w ((((X.setCell ⟨w.heap.size, 0, none⟩ v1).setCell ⟨w.heap.size, 1, none⟩ v2).setCell ⟨w.heap.size + 1, 0, none⟩ u1).setCell ⟨w.heap.size + 1, 1, none⟩ u2) v1 v2 u1 u2 its fls jts gls := by
  have g1 := grown_set2 X w.heap.size v1 v2
  have k3' := blk_grown g1 k3 (by omega)
  have g2 := grown_set2 ((X.setCell ⟨w.heap.size, 0, none⟩ v1).setCell ⟨w.heap.size, 1, none⟩ v2) (w.heap.size + 1) u1 u2
  exact ⟨(((bl.setCell (p := ⟨w.heap.size, 0, none⟩) (Nat.le_refl _) _).setCell (p := ⟨w.heap.size, 1, none⟩) (Nat.le_refl _) _).setCell (p := ⟨w.heap.size + 1, 0, none⟩) (by simp) _).setCell (p := ⟨w.heap.size + 1, 1, none⟩) (by simp) _,
    (o1.other k2 (by decide) g1).other k3' (by decide) g2, (o2.other k2 (by decide) g1).other k3' (by decide) g2, (o3.other k2 (by decide) g1).other k3' (by decide) g2, (o4.other k2 (by decide) g1).other k3' (by decide) g2, l1, l2, l3, l4, ni, nj⟩
theorem T4.two {b' : Nat} {u1 u2 : Value} {jts : List Itm} {gls : List Flr} (h : U3 w X b v1 v2 its fls) (h' : U3 w X b' u1 u2 jts gls) (bl : Below w.heap.size w X) (k2 : X.heap[w.heap.size]? = some (StB (.slice none 0 0) (.slice none 0 0))) (k3 : X.heap[w.heap.size + 1]? = some (StB (.slice none 0 0) (.slice none 0 0)))
    (l1 : its.length ≤ 6) (l2 : fls.length ≤ 6) (l3 : jts.length ≤ 6) (l4 : gls.length ≤ 6) (ni : Nine its) (nj : Nine jts) :
    T4 w ((((X.setCell ⟨w.heap.size, 0, none⟩ v1).setCell ⟨w.heap.size, 1, none⟩ v2).setCell ⟨w.heap.size + 1, 0, none⟩ u1).setCell ⟨w.heap.size + 1, 1, none⟩ u2) v1 v2 u1 u2 its fls jts gls := T4.mk' h.oi h.of h'.oi h'.of bl k2 k3 l1 l2 l3 l4 ni nj
theorem T4.drew {u1 u2 : Value} {jts : List Itm} {gls : List Flr} (h : T4 w X v1 v2 u1 u2 its fls jts gls) : T4 w X.drew v1 v2 u1 u2 its fls jts gls :=
  have b : Below X.heap.size X X.drew := (Below.refl _ _).drew
  ⟨h.bel.trans (b.mono h.bel.size), h.oi.later b, h.of.later b, h.pi.later b, h.pf.later b, h.l1, h.l2, h.l3, h.l4, h.ni, h.nj⟩

theorem tail3_seg {w : World} {b off cap n : Nat} {xs : List Int} (hn : n = xs.length - 1) (hcap : xs.length ≤ cap) (h0 : xs.length ≠ 0) (hlt : b < w.heap.size) (hc : ∀ i, i < xs.length → w.cell? ⟨b, off + i, none⟩ = some (.int .u8 (xs.getD i 0))) : Seg w (.slice (some ⟨b, off + 1, none⟩) n (cap - 1)) xs.tail := by
  refine Seg.mk (by simp [hn]) (by omega) (.inr ⟨b, off + 1, rfl, hlt, fun i hi => ?_⟩)
  simp at hi
  rw [show off + 1 + i = off + (i + 1) by omega, hc (i + 1) (by omega)]
  cases xs with
  | nil => simp at h0
  | cons x r => simp

end Go.Proofs.Ytdpaocikmijioab
