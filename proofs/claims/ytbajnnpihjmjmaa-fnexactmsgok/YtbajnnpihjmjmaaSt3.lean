/-
  What walks over several calls take. No program here, no statement is proved here.
-/
import Derived.Test.YtbajnnpihjmjmaaRegs6
import Derived.Test.YtbajnnpihjmjmaaRw
namespace Go.Proofs.Ytbajnnpihjmjmaa
open Go.RowKit

theorem newB1 (w : World) (A : Obj) : (w.alloc A).heap[w.heap.size]? = some A := heap_alloc_new w A
theorem kb1 {w5 W : World} {A : Prop} (h : Below w5.heap.size w5 W ∧ A) : Below w5.heap.size w5 W := h.1
theorem kb2 {w5 W W' : World} {A : Prop} (h : Below w5.heap.size w5 W ∧ A) (b : Below W.heap.size W W') : Below w5.heap.size w5 W' := h.1.trans (b.mono h.1.size)
theorem keep4 {w5 W : World} {b0 o0 b1 o1 b2 o2 b3 o3 : Nat} {v0 v1 v2 v3 : Value} (h0 : b0 < w5.heap.size) (h1 : b1 < w5.heap.size) (h2 : b2 < w5.heap.size) (h3 : b3 < w5.heap.size)
    (c0 : w5.cell? ⟨b0, o0, none⟩ = some v0) (c1 : w5.cell? ⟨b1, o1, none⟩ = some v1) (c2 : w5.cell? ⟨b2, o2, none⟩ = some v2) (c3 : w5.cell? ⟨b3, o3, none⟩ = some v3) (hb : Below w5.heap.size w5 W) :
    Below w5.heap.size w5 W ∧ W.cell? ⟨b0, o0, none⟩ = some v0 ∧ W.cell? ⟨b1, o1, none⟩ = some v1 ∧ W.cell? ⟨b2, o2, none⟩ = some v2 ∧ W.cell? ⟨b3, o3, none⟩ = some v3 :=
  ⟨hb, (hb.cell (p := ⟨b0, o0, none⟩) h0).trans c0, (hb.cell (p := ⟨b1, o1, none⟩) h1).trans c1, (hb.cell (p := ⟨b2, o2, none⟩) h2).trans c2, (hb.cell (p := ⟨b3, o3, none⟩) h3).trans c3⟩
end Go.Proofs.Ytbajnnpihjmjmaa
