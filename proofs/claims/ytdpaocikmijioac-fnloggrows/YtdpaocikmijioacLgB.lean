/-
  What the laws do with a log: it is turned into the program's own, two are compared, it is marked, marks are held. No statement is proved here.
-/
import Derived.Test.YtdpaocikmijioacLgA
import Derived.Test.YtdpaocikmijioacStH
import Derived.BigQuiet
namespace Go.Proofs.Ytdpaocikmijioac
open Go.RowKit

abbrev LgV (c f : Int) (v : Value) : Value := .agg #[.int .i64 c, .int .i64 f, v]
abbrev LgO (c f : Int) (v : Value) : Obj := .cells #[.int .i64 c, .int .i64 f, v] 26

theorem OwV.otherT {base : Nat} {w w' : World} {v : Value} {ps : List Two} {T : TypeId} {b : Option Nat} (h : OwV base w v ps) (hb : ∀ g, b = some g → ∃ cs fz, w.heap[g]? = some (.cells cs T fz)) (hne : 30 ≠ T) (hg : w.grownBy w' b) : OwV base w' v ps := Ow.otherT h hb hne hg
/-- A write into a variable of type Log. -/
theorem OwS.log {lo hi : Nat} {w : World} {v : Value} {ss : List Sta} (h : OwS lo hi w v ss) {g : Nat} {cs : Array Value} {fz : Nat × Nat} (hg : w.heap[g]? = some (.cells cs 26 fz)) (o : Nat) (u : Value) : OwS lo hi (w.setCell ⟨g, o, none⟩ u) v ss := by
  obtain ⟨ps, h1, h2⟩ := h.own
  have hb : ∀ q, some g = some q → ∃ cs fz, w.heap[q]? = some (.cells cs 26 fz) := fun q e => by cases e; exact ⟨_, _, hg⟩
  exact ⟨⟨ps, h1.otherT hb (by decide) (grown_set1 w g o u), h2.len, fun i p s hp hs => ⟨(h2.ins i p s hp hs).1.otherT hb (by decide) (grown_set1 w g o u), (h2.ins i p s hp hs).2.otherT hb (by decide) (grown_set1 w g o u)⟩, h2.top, h2.apt⟩, h.top⟩
theorem log_set {w : World} {g : Nat} {c0 c1 c2 : Value} (h : w.heap[g]? = some (.cells #[c0, c1, c2] 26 (0, 0))) (v0 v1 v2 : Value) {lo hi : Nat} {v : Value} {ss : List Sta} (k : OwS lo hi w v ss) :
    OwS lo hi (((w.setCell ⟨g, 0, none⟩ v0).setCell ⟨g, 1, none⟩ v1).setCell ⟨g, 2, none⟩ v2) v ss :=
  ((k.log h 0 v0).log (heap_setCell_same _ _ _ _ _ _ h) 1 v1).log (heap_setCell_same _ _ _ _ _ _ (heap_setCell_same _ _ _ _ _ _ h)) 2 v2

end Go.Proofs.Ytdpaocikmijioac
