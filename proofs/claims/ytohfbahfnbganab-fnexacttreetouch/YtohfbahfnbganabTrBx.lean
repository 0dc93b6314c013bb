/-
  A variable that a drawn statement lays at some time, and stores a tree of the call's own into. No program here, no statement is proved here.
-/
import Derived.Test.YtohfbahfnbganabTreL
import Derived.Test.YtohfbahfnbganabStBx
namespace Go.Proofs.Ytohfbahfnbganab
open Go.RowKit

abbrev TrN : Obj := .cells #[.slice none 0 0, .int .i64 0] 37
/-- The variable lies in block g, behind P, and is as it was laid. -/
structure BxT (P W : World) (g : Nat) : Prop where
  blk : W.heap[g]? = some TrN
  lt : g < W.heap.size
  ge : P.heap.size ≤ g
/-- The variable g, and where it lay ahead of the last call. -/
structure BfT (P V W : World) (g : Nat) : Prop where
  bx : BxT P W g
  lv : g < V.heap.size
theorem BxT.new {P W w1 : World} (b : Below (W.alloc TrN).heap.size (W.alloc TrN) w1) (h : P.heap.size ≤ W.heap.size) : BxT P w1 W.heap.size := ⟨(newblk b).1, (newblk b).2, h⟩
theorem BxT.newD {P W w1 : World} (b : Below (W.alloc TrN).drew.heap.size (W.alloc TrN).drew w1) (h : P.heap.size ≤ W.heap.size) : BxT P w1 W.heap.size := ⟨(newblkD b).1, (newblkD b).2, h⟩
theorem BxT.kept {P W w1 : World} {g : Nat} (M : Hid (BxT P W g)) (b : Below W.heap.size W w1) : BxT P w1 g := ⟨(b.block _ (unhide M).lt).trans (unhide M).blk, Nat.lt_of_lt_of_le (unhide M).lt b.size, (unhide M).ge⟩
theorem BfT.new {P W w1 : World} (b : Below (W.alloc TrN).heap.size (W.alloc TrN) w1) (h : P.heap.size ≤ W.heap.size) : BfT P (W.alloc TrN) w1 W.heap.size := ⟨BxT.new b h, by simp⟩
theorem BfT.kept {P W w1 : World} {g : Nat} (M : Hid (BxT P W g)) (b : Below W.heap.size W w1) : BfT P W w1 g := ⟨BxT.kept M b, (unhide M).lt⟩
theorem ksetT {P V W : World} {g : Nat} {v1 v2 : Value} (b : Below P.heap.size P W) (M : Hid (BfT P V W g)) : Below P.heap.size P ((W.setCell ⟨g, 0, none⟩ v1).setCell ⟨g, 1, none⟩ v2) := (b.setCell (p := ⟨g, 0, none⟩) (unhide M).bx.ge _).setCell (p := ⟨g, 1, none⟩) (unhide M).bx.ge _
theorem owT_of {E : TypeId} {base : Nat} {w : World} {v : Value} {ns : List Int} (o : Ow encN 1 E base w v ns) : OwT base w v ns := ⟨E, o⟩
/-- The variable holds the tree of the call's own. -/
structure FinT (P W : World) (g : Nat) (v : Value) (q : Int) (ns : List Int) : Prop where
  bel : Below P.heap.size P W
  ge : P.heap.size ≤ g
  lt : g < W.heap.size
  blk : W.heap[g]? = some (TreB v q)
  o1 : OwT P.heap.size W v ns
theorem FinT.set {P V W : World} {g : Nat} {v : Value} {q : Int} {ns : List Int} (b : Below P.heap.size P W) (h : P.heap.size ≤ V.heap.size) (M : Hid (BfT P V W g)) (o1 : Hid (OwT V.heap.size W v ns)) :
    FinT P ((W.setCell ⟨g, 0, none⟩ v).setCell ⟨g, 1, none⟩ (.int .i64 q)) g v q ns := by
  obtain ⟨⟨hb, hl, hg⟩, hv⟩ := unhide M
  obtain ⟨E, o⟩ := unhide o1
  refine ⟨(b.setCell (p := ⟨g, 0, none⟩) hg _).setCell (p := ⟨g, 1, none⟩) hg _, hg, by simpa using hl, blk_set2 hb _ _, E, ?_⟩
  exact Ow.base ((o.set ⟨g, 0, none⟩ hv _).set ⟨g, 1, none⟩ hv _) h
theorem FinT.new {P V W : World} {v : Value} {q : Int} {ns : List Int} (b : Below P.heap.size P W) (h : P.heap.size ≤ V.heap.size) (o1 : Hid (OwT V.heap.size W v ns)) :
    FinT P (W.alloc (TreB v q)) W.heap.size v q ns := by
  obtain ⟨E, o⟩ := unhide o1
  refine ⟨kal b, b.size, by simp, heap_alloc_new _ _, E, ?_⟩
  exact Ow.base (World.ownsRow.alloc o _) h
end Go.Proofs.Ytohfbahfnbganab
