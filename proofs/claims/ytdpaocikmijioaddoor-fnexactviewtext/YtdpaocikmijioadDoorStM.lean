/-
  The laws' 'markState' and 'heldState': what is marked is held. No statement is proved here.
-/
import Derived.BigQuiet
import Derived.Deep.QuietTactic
import Derived.Deep.RegionWith
import Derived.Test.YtdpaocikmijioadDoorStA
import Derived.Test.YtdpaocikmijioadDoorRegs6
import Derived.Test.YtdpaocikmijioadDoorTrn
import Derived.Test.YtdpaocikmijioadDoorPrt
namespace Go.Proofs.YtdpaocikmijioadDoor
open Go.RowKit

/-- Five of the six cells are stored, a call makes memory, the sixth is stored. -/
theorem put6 {base : Nat} {e : TypeId} {w w1 : World} {g n cap : Nat} {ys : List Itm} {x : Itm} (h : Ow encI 6 e base w (.slice (some ⟨g, 0, none⟩) n cap) ys) (hn : n = ys.length) (i : Nat) (hi : i < n)
    (hb : Below (setW w g (i * 6) [.int .i64 x.1, .int .i64 x.2.1, .int .i64 x.2.2.1, .int .i64 x.2.2.2.1, .int .i64 x.2.2.2.2.1]).heap.size (setW w g (i * 6) [.int .i64 x.1, .int .i64 x.2.1, .int .i64 x.2.2.1, .int .i64 x.2.2.2.1, .int .i64 x.2.2.2.2.1]) w1) :
    (∃ y5, w1.cell? ⟨g, i * 6 + 5, none⟩ = some y5) ∧ (∀ o, w1.frozen? ⟨g, o, none⟩ = false) ∧ Ow encI 6 e base (w1.setCell ⟨g, i * 6 + 5, none⟩ (.string x.2.2.2.2.2)) (.slice (some ⟨g, 0, none⟩) n cap) (ys.set i x) ∧ w.grownBy (w1.setCell ⟨g, i * 6 + 5, none⟩ (.string x.2.2.2.2.2)) (some g) := by
  subst hn
  obtain ⟨h1, h2⟩ := setW_own [.int .i64 x.1, .int .i64 x.2.1, .int .i64 x.2.2.1, .int .i64 x.2.2.2.1, .int .i64 x.2.2.2.2.1] (show w.ownsRow base e 6 (.slice (some ⟨g, 0, none⟩) ys.length cap) ys.length (ys.flatMap encI) from h) (i * 6)
  have h3 := owns_later h1 hb (Nat.le_refl _)
  obtain ⟨h4, h5⟩ := h3.stored (i * 6 + 5) (.string x.2.2.2.2.2)
  obtain ⟨y0, y1, y2, y3, y4, y5, -, -, -, -, -, q5, qf⟩ := own_cells6 h3 hi
  refine ⟨⟨y5, q5⟩, qf, ?_, grown_trans2 h2 (grown_trans2 (grown_below _ hb) h5)⟩
  unfold Ow
  rw [List.length_set, ← setL_flat (by omega) encI_len ys i hi x]
  exact h4

end Go.Proofs.YtdpaocikmijioadDoor
