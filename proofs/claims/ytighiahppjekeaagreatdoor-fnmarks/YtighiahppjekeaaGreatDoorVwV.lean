/-
  View and Lookup of the specification. No statement is proved here.
-/
import Derived.Test.YtighiahppjekeaaGreatDoorVwK
import Derived.Test.YtighiahppjekeaaGreatDoorSStOk
namespace Go.Proofs.YtighiahppjekeaaGreatDoor
open Go.RowKit

theorem own_empty {w : World} {g base : Nat} (hb : base ≤ g) (h : w.heap[g]? = some (.cells #[] 62 (0, 0))) : OwI base w (.slice (some ⟨g, 0, none⟩) 0 0) [] :=
  ⟨by simp, .inr ⟨g, 0, #[], rfl, hb, h, by simp, by simp⟩⟩
theorem upI_posS {xs : List Itm} {k : Nat} {x : Itm} (hx : xs[k]? = some x) (h : (x.2.2.1 == 0) = true) : upI (xs.take (k + 1)) = upI (xs.take k) ++ [x] := by
  rw [upI, take_filter hx, if_pos h]; rfl
theorem upI_negS {xs : List Itm} {k : Nat} {x : Itm} (hx : xs[k]? = some x) (h : (x.2.2.1 == 0) = false) : upI (xs.take (k + 1)) = upI (xs.take k) := by
  rw [upI, take_filter hx, if_neg (by simp [h]), List.append_nil]; rfl
theorem upI_kS {xs : List Itm} {k : Nat} : (upI (xs.take k)).length ≤ k := Nat.le_trans (List.length_filter_le _ _) (by simp; omega)

theorem vw_len (xs : List Itm) (fs : List Flr) : (vw xs fs).length ≤ 5 := by
  unfold vw
  split
  · rename_i h
    exact Nat.le_trans (List.length_filter_le _ _) ((okS_iff _ _).1 h).len5.1
  · simp
end Go.Proofs.YtighiahppjekeaaGreatDoor
