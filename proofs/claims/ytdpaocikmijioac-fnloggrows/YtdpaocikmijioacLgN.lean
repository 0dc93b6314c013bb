/-
  Variables of three cells. No program here, no statement is proved here.
-/
import Derived.Test.YtdpaocikmijioacStBx
import Derived.Test.YtdpaocikmijioacSt3
import Derived.Test.YtdpaocikmijioacRegs
namespace Go.Proofs.Ytdpaocikmijioac
open Go.RowKit

theorem blk_cells3 {w : World} {g : Nat} {T : TypeId} {c0 c1 c2 : Value} (h : w.heap[g]? = some (.cells #[c0, c1, c2] T (0, 0))) :
    w.cell? ⟨g, 0, none⟩ = some c0 ∧ w.cell? ⟨g, 1, none⟩ = some c1 ∧ w.cell? ⟨g, 2, none⟩ = some c2 ∧ ∀ o, w.frozen? ⟨g, o, none⟩ = false := by
  simp [World.cell?, World.frozen?, h]
theorem blk_set3 {w : World} {g : Nat} {T : TypeId} {c0 c1 c2 : Value} (h : w.heap[g]? = some (.cells #[c0, c1, c2] T (0, 0))) (v0 v1 v2 : Value) :
    (((w.setCell ⟨g, 0, none⟩ v0).setCell ⟨g, 1, none⟩ v1).setCell ⟨g, 2, none⟩ v2).heap[g]? = some (.cells #[v0, v1, v2] T (0, 0)) :=
  heap_setCell_same _ _ _ _ _ _ (heap_setCell_same _ _ _ _ _ _ (heap_setCell_same _ _ _ _ _ _ h))
theorem blk_at {w : World} {g h : Nat} {o : Nat} {u : Value} {x : Obj} (k : w.heap[g]? = some x) (ne : g ≠ h) : (w.setCell ⟨h, o, none⟩ u).heap[g]? = some x := by
  rw [heap_setCell_other _ _ _ _ ne]; exact k
theorem grown_set1 (w : World) (g o : Nat) (u : Value) : w.grownBy (w.setCell ⟨g, o, none⟩ u) (some g) :=
  ⟨rfl, rfl, rfl, by simp, fun i _ hne => heap_setCell_other _ _ _ _ (fun e => hne (by simp [e]))⟩
theorem below_set3 {B : Nat} {w W : World} {g : Nat} {v0 v1 v2 : Value} (hg : B ≤ g) (h : Below B w W) : Below B w (((W.setCell ⟨g, 0, none⟩ v0).setCell ⟨g, 1, none⟩ v1).setCell ⟨g, 2, none⟩ v2) :=
  ((h.setCell (p := ⟨g, 0, none⟩) hg _).setCell (p := ⟨g, 1, none⟩) hg _).setCell (p := ⟨g, 2, none⟩) hg _
theorem kept3 {w W : World} {A B C : Obj} (b : Below (((w.alloc A).alloc B).alloc C).heap.size (((w.alloc A).alloc B).alloc C) W) : Below w.heap.size w W ∧ W.heap[w.heap.size]? = some A ∧ W.heap[w.heap.size + 1]? = some B ∧ W.heap[w.heap.size + 1 + 1]? = some C ∧ w.heap.size + 1 + 1 < W.heap.size := by
  refine ⟨((((Below.refl w.heap.size w).alloc (Nat.le_refl _) _).alloc (by simp) _).alloc (by simp; omega) _).trans (b.mono (by simp; omega)), (b.block _ (by simp; omega)).trans (lowB3 w _ _ _), (b.block _ (by simp)).trans (midB3 w _ _ _), (b.block _ (by simp)).trans (newB3 w _ _ _), ?_⟩
  have := b.size; simp at this; omega

/-- Two logs in variables, carried to a later world. -/
theorem keepL {w5 W : World} {g h : Nat} {T U : TypeId} {a0 a1 a2 b0 b1 b2 : Value} (hg : Hid (w5.heap[g]? = some (.cells #[a0, a1, a2] T (0, 0)) ∧ g < w5.heap.size)) (hh : Hid (w5.heap[h]? = some (.cells #[b0, b1, b2] U (0, 0)) ∧ h < w5.heap.size)) (hb : Below w5.heap.size w5 W) :
    Below w5.heap.size w5 W ∧ W.cell? ⟨g, 0, none⟩ = some a0 ∧ W.cell? ⟨g, 1, none⟩ = some a1 ∧ W.cell? ⟨g, 2, none⟩ = some a2 ∧ W.cell? ⟨h, 0, none⟩ = some b0 ∧ W.cell? ⟨h, 1, none⟩ = some b1 ∧ W.cell? ⟨h, 2, none⟩ = some b2 := by
  obtain ⟨p0, p1, p2, -⟩ := blk_cells3 ((hb.block _ (unhide hg).2).trans (unhide hg).1)
  obtain ⟨q0, q1, q2, -⟩ := blk_cells3 ((hb.block _ (unhide hh).2).trans (unhide hh).1)
  exact ⟨hb, p0, p1, p2, q0, q1, q2⟩
end Go.Proofs.Ytdpaocikmijioac
