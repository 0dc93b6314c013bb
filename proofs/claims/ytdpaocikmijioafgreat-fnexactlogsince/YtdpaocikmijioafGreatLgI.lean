/-
  The log above some number, its copy, a log that was dropped of or added to: the program's. No statement is proved here.
-/
import Derived.Test.YtdpaocikmijioafGreatLgG
namespace Go.Proofs.YtdpaocikmijioafGreat
open Go.RowKit

/-- While a log is laid: the argument's variable, the result's. -/
structure Lv (w W : World) (c f : Int) (v : Value) : Prop where
  bel : Below w.heap.size w W
  k1 : W.heap[w.heap.size]? = some (LgO c f v)
  k2 : W.heap[w.heap.size + 1]? = some (LgO 0 0 (.slice none 0 0))
theorem Lv.lt {w W : World} {c f : Int} {v : Value} (h : Lv w W c f v) : w.heap.size + 1 < W.heap.size := (Array.getElem?_eq_some_iff.1 h.k2).1
theorem Lv.later {w W Y : World} {c f : Int} {v : Value} (h : Lv w W c f v) (b : Below W.heap.size W Y) : Lv w Y c f v := by
  have := h.lt
  exact ⟨h.bel.trans (b.mono h.bel.size), (b.block _ (by omega)).trans h.k1, (b.block _ h.lt).trans h.k2⟩
theorem Lv.drewH {w W : World} {c f : Int} {v : Value} (h : Hid (Lv w W c f v)) : Hid (Lv w W.drew c f v) := hide ((unhide h).later ((Below.refl _ _).drew))
theorem kLv {w W : World} {c f : Int} {v : Value} (h : Hid (Lv w W c f v)) : Below w.heap.size w W ∧ W.cell? ⟨w.heap.size, 0, none⟩ = some (.int .i64 c) ∧ W.cell? ⟨w.heap.size, 1, none⟩ = some (.int .i64 f) ∧ W.cell? ⟨w.heap.size, 2, none⟩ = some v := by
  obtain ⟨p0, p1, p2, -⟩ := blk_cells3 (unhide h).k1
  exact ⟨(unhide h).bel, p0, p1, p2⟩
theorem kLvs {w W : World} {c f : Int} {v : Value} (h : Hid (Lv w W c f v)) (u0 u1 u2 : Value) : Below w.heap.size w (((W.setCell ⟨w.heap.size + 1, 0, none⟩ u0).setCell ⟨w.heap.size + 1, 1, none⟩ u1).setCell ⟨w.heap.size + 1, 2, none⟩ u2) ∧ (((W.setCell ⟨w.heap.size + 1, 0, none⟩ u0).setCell ⟨w.heap.size + 1, 1, none⟩ u1).setCell ⟨w.heap.size + 1, 2, none⟩ u2).cell? ⟨w.heap.size, 0, none⟩ = some (.int .i64 c) ∧ (((W.setCell ⟨w.heap.size + 1, 0, none⟩ u0).setCell ⟨w.heap.size + 1, 1, none⟩ u1).setCell ⟨w.heap.size + 1, 2, none⟩ u2).cell? ⟨w.heap.size, 1, none⟩ = some (.int .i64 f) ∧ (((W.setCell ⟨w.heap.size + 1, 0, none⟩ u0).setCell ⟨w.heap.size + 1, 1, none⟩ u1).setCell ⟨w.heap.size + 1, 2, none⟩ u2).cell? ⟨w.heap.size, 2, none⟩ = some v := by
  obtain ⟨p0, p1, p2, -⟩ := blk_cells3 (blk_at (h := w.heap.size + 1) (o := 2) (u := u2) (blk_at (h := w.heap.size + 1) (o := 1) (u := u1) (blk_at (h := w.heap.size + 1) (o := 0) (u := u0) (unhide h).k1 (by omega)) (by omega)) (by omega))
  exact ⟨below_set3 (by omega) (unhide h).bel, p0, p1, p2⟩
theorem Lv.new (w : World) (c f : Int) (v : Value) : Lv w ((w.alloc (LgO c f v)).alloc (LgO 0 0 (.slice none 0 0))) c f v :=
  ⟨((Below.refl w.heap.size w).alloc (Nat.le_refl _) _).alloc (by simp) _, lowB2 w _ _, newB2 w _ _⟩
theorem SmlS.drop {ss : List Sta} (h : SmlS ss) (k : Nat) : SmlS (ss.drop k) := fun i s hs => by rw [List.getElem?_drop] at hs; exact h _ s hs
def SzS (ss : List Sta) : Prop := ∀ (i : Nat) (s : Sta), ss[i]? = some s → s.1.length ≤ 1048576 ∧ s.2.length ≤ 1048576
theorem SzS.drop {ss : List Sta} (h : SzS ss) (k : Nat) : SzS (ss.drop k) := fun i s hs => by rw [List.getElem?_drop] at hs; exact h _ s hs
theorem SzS.tot {ss : List Sta} (h : tot ss ≤ 1048576) : SzS ss := fun i s hs => by have := tot_at hs; omega

end Go.Proofs.YtdpaocikmijioafGreat
