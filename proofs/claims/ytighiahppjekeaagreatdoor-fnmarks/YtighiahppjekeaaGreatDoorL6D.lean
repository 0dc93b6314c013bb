/-
  spec.DrawEntryOf, spec.DrawLookup, spec.DrawSlice: some state, with short texts, and some Id, or some leaves; nothing that was there turns. No statement is proved here.
-/
import Derived.Test.YtighiahppjekeaaGreatDoorL3W
namespace Go.Proofs.YtighiahppjekeaaGreatDoor
open Go.RowKit

theorem blk_cells1 {w : World} {g : Nat} {T : TypeId} {c0 : Value} (h : w.heap[g]? = some (.cells #[c0] T (0, 0))) : w.cell? ⟨g, 0, none⟩ = some c0 ∧ ∀ o, w.frozen? ⟨g, o, none⟩ = false := by
  simp [World.cell?, World.frozen?, h]
theorem keep12 {P W : World} {g h s : Nat} {e0 e1 e2 e3 e4 f0 f1 f2 f3 f4 s0 s1 : Value} (hg : g < P.heap.size) (hh : h < P.heap.size) (hs : s < P.heap.size)
    (c0 : P.cell? ⟨g, 0, none⟩ = some e0) (c1 : P.cell? ⟨g, 1, none⟩ = some e1) (c2 : P.cell? ⟨g, 2, none⟩ = some e2) (c3 : P.cell? ⟨g, 3, none⟩ = some e3) (c4 : P.cell? ⟨g, 4, none⟩ = some e4)
    (d0 : P.cell? ⟨h, 0, none⟩ = some f0) (d1 : P.cell? ⟨h, 1, none⟩ = some f1) (d2 : P.cell? ⟨h, 2, none⟩ = some f2) (d3 : P.cell? ⟨h, 3, none⟩ = some f3) (d4 : P.cell? ⟨h, 4, none⟩ = some f4)
    (k0 : P.cell? ⟨s, 0, none⟩ = some s0) (k1 : P.cell? ⟨s, 1, none⟩ = some s1) (b : Below P.heap.size P W) :
    Below P.heap.size P W ∧ W.cell? ⟨g, 0, none⟩ = some e0 ∧ W.cell? ⟨g, 1, none⟩ = some e1 ∧ W.cell? ⟨g, 2, none⟩ = some e2 ∧ W.cell? ⟨g, 3, none⟩ = some e3 ∧ W.cell? ⟨g, 4, none⟩ = some e4 ∧ W.cell? ⟨h, 0, none⟩ = some f0 ∧ W.cell? ⟨h, 1, none⟩ = some f1 ∧ W.cell? ⟨h, 2, none⟩ = some f2 ∧ W.cell? ⟨h, 3, none⟩ = some f3 ∧ W.cell? ⟨h, 4, none⟩ = some f4 ∧ W.cell? ⟨s, 0, none⟩ = some s0 ∧ W.cell? ⟨s, 1, none⟩ = some s1 := by
  have t : ∀ {q o : Nat} {v : Value}, q < P.heap.size → P.cell? ⟨q, o, none⟩ = some v → W.cell? ⟨q, o, none⟩ = some v := fun {q o v} hq c => (b.cell (p := ⟨q, o, none⟩) hq).trans c
  exact ⟨b, t hg c0, t hg c1, t hg c2, t hg c3, t hg c4, t hh d0, t hh d1, t hh d2, t hh d3, t hh d4, t hs k0, t hs k1⟩
theorem entR_of {xs ys : List Itm} {id : Int} (h : ent ys id = ent xs id) : entR ys id = entR xs id := by unfold entR; rw [h]
theorem entR_none {xs : List Itm} {id : Int} (h : ent xs id = none) : entR xs id = (zeroK, false) := by unfold entR; rw [h]
/-- While a state and more are drawn: the cursor g, the result in the call's first block, the state in block b. -/
structure Q6 (w X : World) (g : Nat) (v : Value) (xs : List Int) (b : Nat) (v1 v2 : Value) (its : List Itm) (fls : List Flr) : Prop where
  bel : Below w.heap.size w X
  cu : Cur X g v xs
  hg : w.heap.size < g
  hb : g < b
  k0 : X.heap[w.heap.size]? = some (StB (.slice none 0 0) (.slice none 0 0))
  k1 : X.heap[b]? = some (StB v1 v2)
  oi : OwI w.heap.size X v1 its
  of : OwF w.heap.size X v2 fls
  li : its.length ≤ 6
  lf : fls.length ≤ 6
  ni : Nine its
section
variable {w X Y : World} {b g : Nat} {v : Value} {xs : List Int} {v1 v2 : Value} {its : List Itm} {fls : List Flr}
theorem Q6.gl (h : Q6 w X g v xs b v1 v2 its fls) : g < X.heap.size := cur_lt h.cu
theorem Q6.bl (h : Q6 w X g v xs b v1 v2 its fls) : b < X.heap.size := (Array.getElem?_eq_some_iff.1 h.k1).1
theorem Q6.call (h : Q6 w X g v xs b v1 v2 its fls) (hc : Cur Y g v xs) (hg : X.grownBy Y (some g)) : Q6 w Y g v xs b v1 v2 its fls := by
  obtain ⟨⟨i, q, hk, _⟩, _⟩ := h.cu
  have h1 := h.hg
  have h2 := h.hb
  exact ⟨h.bel.grown hg h.bel.size (fun q hq => by simp at hq; omega), hc, h.hg, h.hb, blk_grown hg h.k0 (by omega), blk_grown hg h.k1 (by omega), h.oi.other hk (by decide) hg, h.of.other hk (by decide) hg, h.li, h.lf, h.ni⟩
theorem Q6.later (h : Q6 w X g v xs b v1 v2 its fls) (bl : Below X.heap.size X Y) : Q6 w Y g v xs b v1 v2 its fls := by
  have h1 := h.hg
  have h3 := h.gl
  exact ⟨h.bel.trans (bl.mono h.bel.size), h.cu.later bl (Nat.le_refl _), h.hg, h.hb, (bl.block _ (by omega)).trans h.k0, (bl.block _ h.bl).trans h.k1, h.oi.later bl, h.of.later bl, h.li, h.lf, h.ni⟩
theorem Q6.drewH (h : Hid (Q6 w X g v xs b v1 v2 its fls)) : Hid (Q6 w X.drew g v xs b v1 v2 its fls) := hide ((unhide h).later (Below.refl _ _).drew)
theorem Q6.fin (h : Q6 w X g v xs b v1 v2 its fls) : T3 w ((X.setCell ⟨w.heap.size, 0, none⟩ v1).setCell ⟨w.heap.size, 1, none⟩ v2) v1 v2 its fls := by
  have hg := grown_set2 X w.heap.size v1 v2
  exact ⟨(h.bel.setCell (p := ⟨w.heap.size, 0, none⟩) (Nat.le_refl _) _).setCell (p := ⟨w.heap.size, 1, none⟩) (Nat.le_refl _) _, h.oi.other h.k0 (by decide) hg, h.of.other h.k0 (by decide) hg, h.li, h.lf, h.ni⟩
theorem kQ6 (h : Hid (Q6 w X g v xs b v1 v2 its fls)) : X.cell? ⟨b, 0, none⟩ = some v1 ∧ X.cell? ⟨b, 1, none⟩ = some v2 := by
  obtain ⟨p0, p1, _⟩ := blk_cells2 (unhide h).k1
  exact ⟨p0, p1⟩
end
theorem T3.resd {w X : World} {O : Obj} {v1 v2 : Value} {its : List Itm} {fls : List Flr} (hO : O = StB (.slice none 0 0) (.slice none 0 0)) (h : T3 (w.alloc O) X v1 v2 its fls) : T3 w ((X.setCell ⟨w.heap.size, 0, none⟩ v1).setCell ⟨w.heap.size, 1, none⟩ v2) v1 v2 its fls := by
  have hg := grown_set2 X w.heap.size v1 v2
  have hs : (w.alloc O).heap.size = w.heap.size + 1 := by simp
  have bA : Below w.heap.size w (w.alloc O) := (Below.refl _ _).alloc (Nat.le_refl _) _
  have k0 := (h.bel.block w.heap.size (by omega)).trans (heap_alloc_new w O)
  rw [hO] at k0
  have bl := bA.trans (h.bel.mono (by omega))
  exact ⟨(bl.setCell (p := ⟨w.heap.size, 0, none⟩) (Nat.le_refl _) _).setCell (p := ⟨w.heap.size, 1, none⟩) (Nat.le_refl _) _, Ow.base (h.oi.other k0 (by decide) hg) (by omega), Ow.base (h.of.other k0 (by decide) hg) (by omega), h.li, h.lf, h.ni⟩
--@end
--@end
end Go.Proofs.YtighiahppjekeaaGreatDoor
