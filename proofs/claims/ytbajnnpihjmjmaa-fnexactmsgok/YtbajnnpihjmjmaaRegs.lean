/-
  What is kept of a world while a statement that draws its order is gone through. No program here, no statement is proved here.
-/
import Derived.Test.YtbajnnpihjmjmaaBase
import Derived.Deep.RegionHeld3
import Derived.Deep.CutRange
namespace Go.Proofs.Ytbajnnpihjmjmaa
open Go.RowKit

theorem kc {W w1 : World} {g o : Nat} {v : Value} (hb : Below W.heap.size W w1) (hg : g < W.heap.size) (c : W.cell? ⟨g, o, none⟩ = some v) : w1.cell? ⟨g, o, none⟩ = some v := (hb.cell (p := ⟨g, o, none⟩) hg).trans c
theorem ka {W : World} {o1 : Obj} {g o : Nat} {v : Value} (hg : g < W.heap.size) (c : W.cell? ⟨g, o, none⟩ = some v) : (W.alloc o1).cell? ⟨g, o, none⟩ = some v := (World.cell?_of_block (w := W) (Below.heap_alloc W o1 g hg)).trans c
theorem kb {W : World} {o1 : Obj} {g o : Nat} {v : Value} (hg : g < W.heap.size) (c : (W.alloc o1).cell? ⟨g, o, none⟩ = some v) : W.cell? ⟨g, o, none⟩ = some v := (World.cell?_of_block (w := W) (Below.heap_alloc W o1 g hg)).symm.trans c
theorem newblk {X w1 : World} {o : Obj} (bx : Below (X.alloc o).heap.size (X.alloc o) w1) : w1.heap[X.heap.size]? = some o ∧ X.heap.size < w1.heap.size := ⟨(bx.block _ (by simp)).trans (heap_alloc_new _ _), by have := bx.size; simp at this; omega⟩
theorem newblkD {X w1 : World} {o : Obj} (bx : Below (X.alloc o).drew.heap.size (X.alloc o).drew w1) : w1.heap[X.heap.size]? = some o ∧ X.heap.size < w1.heap.size := newblk (X := X) (o := o) ⟨bx.os, bx.tape, bx.output, bx.size, bx.block⟩
theorem keptblk {W w1 : World} {g : Nat} {o : Obj} (bx : Below W.heap.size W w1) (h : Hid (W.heap[g]? = some o ∧ g < W.heap.size)) : w1.heap[g]? = some o ∧ g < w1.heap.size := ⟨(bx.block _ (unhide h).2).trans (unhide h).1, Nat.lt_of_lt_of_le (unhide h).2 bx.size⟩
theorem lt_drew {W : World} {g : Nat} (h : g < W.heap.size) : g < W.drew.heap.size := h
theorem blk_cells5 {w : World} {g : Nat} {T : TypeId} {c0 c1 c2 c3 c4 : Value} (h : w.heap[g]? = some (.cells #[c0, c1, c2, c3, c4] T (0, 0))) :
    w.cell? ⟨g, 0, none⟩ = some c0 ∧ w.cell? ⟨g, 1, none⟩ = some c1 ∧ w.cell? ⟨g, 2, none⟩ = some c2 ∧ w.cell? ⟨g, 3, none⟩ = some c3 ∧ w.cell? ⟨g, 4, none⟩ = some c4 ∧ ∀ o, w.frozen? ⟨g, o, none⟩ = false := by
  simp [World.cell?, World.frozen?, h]
theorem blk_set5 {w : World} {g : Nat} {T : TypeId} {c0 c1 c2 c3 c4 : Value} (h : w.heap[g]? = some (.cells #[c0, c1, c2, c3, c4] T (0, 0))) (v0 v1 v2 v3 v4 : Value) :
    (((((w.setCell ⟨g, 0, none⟩ v0).setCell ⟨g, 1, none⟩ v1).setCell ⟨g, 2, none⟩ v2).setCell ⟨g, 3, none⟩ v3).setCell ⟨g, 4, none⟩ v4).heap[g]? = some (.cells #[v0, v1, v2, v3, v4] T (0, 0)) :=
  (heap_setCell_same _ _ _ _ _ _ (heap_setCell_same _ _ _ _ _ _ (heap_setCell_same _ _ _ _ _ _ (heap_setCell_same _ _ _ _ _ _ (heap_setCell_same _ _ _ _ _ _ h)))))
theorem blk_far5 {W : World} {g k o : Nat} {v v0 v1 v2 v3 v4 : Value} (hg : k ≠ g) (c : W.cell? ⟨k, o, none⟩ = some v) : (((((W.setCell ⟨g, 0, none⟩ v0).setCell ⟨g, 1, none⟩ v1).setCell ⟨g, 2, none⟩ v2).setCell ⟨g, 3, none⟩ v3).setCell ⟨g, 4, none⟩ v4).cell? ⟨k, o, none⟩ = some v := by
  have hn : ∀ j, (⟨g, j, none⟩ : Addr) ≠ ⟨k, o, none⟩ := fun j e => hg (congrArg Addr.block e).symm
  rw [World.cell?_setCell_other _ _ _ _ (hn 4), World.cell?_setCell_other _ _ _ _ (hn 3), World.cell?_setCell_other _ _ _ _ (hn 2), World.cell?_setCell_other _ _ _ _ (hn 1), World.cell?_setCell_other _ _ _ _ (hn 0)]
  exact c
theorem below_set5 {B : Nat} {w W : World} {g : Nat} {v0 v1 v2 v3 v4 : Value} (hg : B ≤ g) (h : Below B w W) : Below B w (((((W.setCell ⟨g, 0, none⟩ v0).setCell ⟨g, 1, none⟩ v1).setCell ⟨g, 2, none⟩ v2).setCell ⟨g, 3, none⟩ v3).setCell ⟨g, 4, none⟩ v4) := by
  have h1 := h.setCell (p := ⟨g, 0, none⟩) hg v0; have h2 := h1.setCell (p := ⟨g, 1, none⟩) hg v1; have h3 := h2.setCell (p := ⟨g, 2, none⟩) hg v2; have h4 := h3.setCell (p := ⟨g, 3, none⟩) hg v3; have h5 := h4.setCell (p := ⟨g, 4, none⟩) hg v4
  exact h5
theorem blk_cells2 {w : World} {g : Nat} {T : TypeId} {c0 c1 : Value} (h : w.heap[g]? = some (.cells #[c0, c1] T (0, 0))) :
    w.cell? ⟨g, 0, none⟩ = some c0 ∧ w.cell? ⟨g, 1, none⟩ = some c1 ∧ ∀ o, w.frozen? ⟨g, o, none⟩ = false := by
  simp [World.cell?, World.frozen?, h]
theorem blk_set2 {w : World} {g : Nat} {T : TypeId} {c0 c1 : Value} (h : w.heap[g]? = some (.cells #[c0, c1] T (0, 0))) (v0 v1 : Value) :
    ((w.setCell ⟨g, 0, none⟩ v0).setCell ⟨g, 1, none⟩ v1).heap[g]? = some (.cells #[v0, v1] T (0, 0)) :=
  (heap_setCell_same _ _ _ _ _ _ (heap_setCell_same _ _ _ _ _ _ h))
theorem blk_far2 {W : World} {g k o : Nat} {v v0 v1 : Value} (hg : k ≠ g) (c : W.cell? ⟨k, o, none⟩ = some v) : ((W.setCell ⟨g, 0, none⟩ v0).setCell ⟨g, 1, none⟩ v1).cell? ⟨k, o, none⟩ = some v := by
  have hn : ∀ j, (⟨g, j, none⟩ : Addr) ≠ ⟨k, o, none⟩ := fun j e => hg (congrArg Addr.block e).symm
  rw [World.cell?_setCell_other _ _ _ _ (hn 1), World.cell?_setCell_other _ _ _ _ (hn 0)]
  exact c
theorem below_set2 {B : Nat} {w W : World} {g : Nat} {v0 v1 : Value} (hg : B ≤ g) (h : Below B w W) : Below B w ((W.setCell ⟨g, 0, none⟩ v0).setCell ⟨g, 1, none⟩ v1) := by
  have h1 := h.setCell (p := ⟨g, 0, none⟩) hg v0; have h2 := h1.setCell (p := ⟨g, 1, none⟩) hg v1
  exact h2
end Go.Proofs.Ytbajnnpihjmjmaa
