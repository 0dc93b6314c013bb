/-
  A variable that a drawn statement lays at some time, and stores a state of the call's own into. No program here, no statement is proved here.
-/
import Derived.Test.YtjlocbimkfocnaaApp2
import Derived.Test.YtjlocbimkfocnaaStA
namespace Go.Proofs.Ytjlocbimkfocnaa
open Go.RowKit

abbrev StZ : Obj := .cells #[.slice none 0 0, .slice none 0 0] 27
/-- The variable lies in block g, behind P, and is as it was laid. -/
structure Bx (P W : World) (g : Nat) : Prop where
  blk : W.heap[g]? = some StZ
  lt : g < W.heap.size
  ge : P.heap.size ≤ g
/-- The variable g, and where it lay ahead of the last call. -/
structure Bf (P V W : World) (g : Nat) : Prop where
  bx : Bx P W g
  lv : g < V.heap.size
theorem kal {P W : World} {o : Obj} (h : Below P.heap.size P W) : Below P.heap.size P (W.alloc o) := h.alloc h.size _
theorem Bx.new {P W w1 : World} (b : Below (W.alloc StZ).heap.size (W.alloc StZ) w1) (h : P.heap.size ≤ W.heap.size) : Bx P w1 W.heap.size := ⟨(newblk b).1, (newblk b).2, h⟩
theorem Bx.newD {P W w1 : World} (b : Below (W.alloc StZ).drew.heap.size (W.alloc StZ).drew w1) (h : P.heap.size ≤ W.heap.size) : Bx P w1 W.heap.size := ⟨(newblkD b).1, (newblkD b).2, h⟩
theorem Bx.kept {P W w1 : World} {g : Nat} (M : Hid (Bx P W g)) (b : Below W.heap.size W w1) : Bx P w1 g := ⟨(b.block _ (unhide M).lt).trans (unhide M).blk, Nat.lt_of_lt_of_le (unhide M).lt b.size, (unhide M).ge⟩
theorem Bf.new {P W w1 : World} (b : Below (W.alloc StZ).heap.size (W.alloc StZ) w1) (h : P.heap.size ≤ W.heap.size) : Bf P (W.alloc StZ) w1 W.heap.size := ⟨Bx.new b h, by simp⟩
theorem Bf.kept {P W w1 : World} {g : Nat} (M : Hid (Bx P W g)) (b : Below W.heap.size W w1) : Bf P W w1 g := ⟨Bx.kept M b, (unhide M).lt⟩
theorem kset {P V W : World} {g : Nat} {v1 v2 : Value} (b : Below P.heap.size P W) (M : Hid (Bf P V W g)) : Below P.heap.size P ((W.setCell ⟨g, 0, none⟩ v1).setCell ⟨g, 1, none⟩ v2) := (b.setCell (p := ⟨g, 0, none⟩) (unhide M).bx.ge _).setCell (p := ⟨g, 1, none⟩) (unhide M).bx.ge _
theorem Rw.later2 {α : Type} {enc : α → List Value} {k : Nat} {w w' : World} {o : Obj} {v : Value} {xs : List α} (h : Rw enc k w v xs) (b : Below (w.alloc o).heap.size (w.alloc o) w') : Rw enc k w' v xs := (h.alloc o).later b

/-- The variable holds the state of the call's own. -/
structure Fin (P W : World) (g : Nat) (v1 v2 : Value) (xs : List Itm) (fs : List Flr) : Prop where
  bel : Below P.heap.size P W
  ge : P.heap.size ≤ g
  lt : g < W.heap.size
  blk : W.heap[g]? = some (.cells #[v1, v2] 27 (0, 0))
  o1 : OwI P.heap.size W v1 xs
  o2 : OwF P.heap.size W v2 fs
theorem Fin.set {P V W : World} {g : Nat} {v1 v2 : Value} {xs : List Itm} {fs : List Flr} (b : Below P.heap.size P W) (h : P.heap.size ≤ V.heap.size) (M : Hid (Bf P V W g)) (o1 : Hid (OwI V.heap.size W v1 xs)) (o2 : Hid (OwF V.heap.size W v2 fs)) :
    Fin P ((W.setCell ⟨g, 0, none⟩ v1).setCell ⟨g, 1, none⟩ v2) g v1 v2 xs fs := by
  obtain ⟨⟨hb, hl, hg⟩, hv⟩ := unhide M
  refine ⟨(b.setCell (p := ⟨g, 0, none⟩) hg _).setCell (p := ⟨g, 1, none⟩) hg _, hg, by simpa using hl, blk_set2 hb _ _, ?_, ?_⟩
  · exact Ow.base (((unhide o1).set ⟨g, 0, none⟩ hv _).set ⟨g, 1, none⟩ hv _) h
  · exact Ow.base (((unhide o2).set ⟨g, 0, none⟩ hv _).set ⟨g, 1, none⟩ hv _) h
theorem Fin.new {P V W : World} {v1 v2 : Value} {xs : List Itm} {fs : List Flr} (b : Below P.heap.size P W) (h : P.heap.size ≤ V.heap.size) (o1 : Hid (OwI V.heap.size W v1 xs)) (o2 : Hid (OwF V.heap.size W v2 fs)) :
    Fin P (W.alloc (.cells #[v1, v2] 27)) W.heap.size v1 v2 xs fs := by
  refine ⟨kal b, b.size, by simp, heap_alloc_new _ _, ?_, ?_⟩
  · exact Ow.base (World.ownsRow.alloc (unhide o1) _) h
  · exact Ow.base (World.ownsRow.alloc (unhide o2) _) h
end Go.Proofs.Ytjlocbimkfocnaa
