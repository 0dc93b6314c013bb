/-
  A variable that a drawn statement lays at some time, and stores a log of the call's own into. No program here, no statement is proved here.
-/
import Derived.Test.YtijdmfakaompgaaLgW
namespace Go.Proofs.Ytijdmfakaompgaa
open Go.RowKit

theorem OwS.ow {lo hi : Nat} {w : World} {v : Value} {ss : List Sta} (h : OwS lo hi w v ss) : OwW lo w v ss := by
  obtain ⟨ps, h1, h2⟩ := h.own
  exact ⟨ps, h1, h2.len, fun i p s hp hs => ⟨.inl (h2.ins i p s hp hs).1, .inl (h2.ins i p s hp hs).2⟩⟩
abbrev LgZ0 : Obj := .cells #[.int .i64 0, .int .i64 0, .slice none 0 0] 26
/-- The variable lies in block g, behind P, and is as it was laid. -/
structure BxL (P W : World) (g : Nat) : Prop where
  blk : W.heap[g]? = some LgZ0
  lt : g < W.heap.size
  ge : P.heap.size ≤ g
theorem BxL.new {P W w1 : World} (b : Below (W.alloc LgZ0).heap.size (W.alloc LgZ0) w1) (h : P.heap.size ≤ W.heap.size) : BxL P w1 W.heap.size := ⟨(newblk b).1, (newblk b).2, h⟩
theorem BxL.newD {P W w1 : World} (b : Below (W.alloc LgZ0).drew.heap.size (W.alloc LgZ0).drew w1) (h : P.heap.size ≤ W.heap.size) : BxL P w1 W.heap.size := ⟨(newblkD b).1, (newblkD b).2, h⟩
theorem BxL.kept {P W w1 : World} {g : Nat} (M : Hid (BxL P W g)) (b : Below W.heap.size W w1) : BxL P w1 g := ⟨(b.block _ (unhide M).lt).trans (unhide M).blk, Nat.lt_of_lt_of_le (unhide M).lt b.size, (unhide M).ge⟩
theorem ksetL {P W : World} {g : Nat} {v0 v1 v2 : Value} (b : Below P.heap.size P W) (M : Hid (BxL P W g)) : Below P.heap.size P (((W.setCell ⟨g, 0, none⟩ v0).setCell ⟨g, 1, none⟩ v1).setCell ⟨g, 2, none⟩ v2) := below_set3 (unhide M).ge b
theorem kalL {P W : World} {o : Obj} (h : Below P.heap.size P W) : Below P.heap.size P (W.alloc o) := h.alloc h.size _
/-- The variable holds the log. -/
structure FinL (P W : World) (g : Nat) (c f : Int) (v : Value) (ss : List Sta) : Prop where
  bel : Below P.heap.size P W
  ge : P.heap.size ≤ g
  lt : g < W.heap.size
  blk : W.heap[g]? = some (LgO c f v)
  row : OwW P.heap.size W v ss
theorem FinL.set {P W : World} {g : Nat} {c f : Int} {v : Value} {ss : List Sta} (b : Below P.heap.size P W) (M : Hid (BxL P W g)) (o : Hid (OwW P.heap.size W v ss)) :
    FinL P (((W.setCell ⟨g, 0, none⟩ (.int .i64 c)).setCell ⟨g, 1, none⟩ (.int .i64 f)).setCell ⟨g, 2, none⟩ v) g c f v ss :=
  ⟨below_set3 (unhide M).ge b, (unhide M).ge, by simpa using (unhide M).lt, blk_set3 (unhide M).blk _ _ _, OwW.log3 (unhide M).blk _ _ _ (unhide o)⟩
theorem FinL.new {P W : World} {c f : Int} {v : Value} {ss : List Sta} (b : Below P.heap.size P W) (o : Hid (OwW P.heap.size W v ss)) : FinL P (W.alloc (LgO c f v)) W.heap.size c f v ss :=
  ⟨b.alloc b.size _, b.size, by simp, heap_alloc_new _ _, (unhide o).later ((Below.refl _ _).alloc (Nat.le_refl _) _)⟩
theorem RwS.later2 {w w' : World} {o : Obj} {v : Value} {ss : List Sta} (h : RwS w v ss) (b : Below (w.alloc o).heap.size (w.alloc o) w') : RwS w' v ss := (h.alloc o).later b
/-- A log and a state in variables, carried to a later world. -/
theorem keepLS {w5 W : World} {g h : Nat} {T U : TypeId} {a0 a1 a2 b0 b1 : Value} (hg : Hid (w5.heap[g]? = some (.cells #[a0, a1, a2] T (0, 0)) ∧ g < w5.heap.size)) (hh : Hid (w5.heap[h]? = some (.cells #[b0, b1] U (0, 0)) ∧ h < w5.heap.size)) (hb : Below w5.heap.size w5 W) :
    Below w5.heap.size w5 W ∧ W.cell? ⟨g, 0, none⟩ = some a0 ∧ W.cell? ⟨g, 1, none⟩ = some a1 ∧ W.cell? ⟨g, 2, none⟩ = some a2 ∧ W.cell? ⟨h, 0, none⟩ = some b0 ∧ W.cell? ⟨h, 1, none⟩ = some b1 := by
  obtain ⟨p0, p1, p2, -⟩ := blk_cells3 ((hb.block _ (unhide hg).2).trans (unhide hg).1)
  obtain ⟨q0, q1, -⟩ := blk_cells2 ((hb.block _ (unhide hh).2).trans (unhide hh).1)
  exact ⟨hb, p0, p1, p2, q0, q1⟩
end Go.Proofs.Ytijdmfakaompgaa
