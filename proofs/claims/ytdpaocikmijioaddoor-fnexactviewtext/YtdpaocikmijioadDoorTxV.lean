/-
  StateText of both, the text a letter. No statement is proved here.
-/
import Derived.Test.YtdpaocikmijioadDoorITx
namespace Go.Proofs.YtdpaocikmijioadDoor
open Go.RowKit

theorem stx_v (ai : Option Addr) (ni ci : Nat) (xs : List Itm) (af : Option Addr) (nf cf : Nat) (fs : List Flr) (t : ByteArray) (ht : Hid (tx (xs.map wI ++ fs.map wF) = t)) (hfi : FitI xs) (hff : FitF fs) (hs : Sml xs) (w : World) (hni : ni ≤ 1048576) (hnf : nf ≤ 1048576) (hx : Rw encI 6 w (.slice ai ni ci) xs) (hf : Rw encF 2 w (.slice af nf cf) fs) :
    Calls Tryd.prog 11 #[.agg #[.slice ai ni ci, .slice af nf cf]] w fun e w' => e = .returned (.string t) ∧ Below w.heap.size w w' := by
  rw [← unhide ht]; exact stx_any ai ni ci xs af nf cf fs hfi hff hs w hni hnf hx hf
theorem itx_v (ai : Option Addr) (ni ci : Nat) (xs : List Itm) (af : Option Addr) (nf cf : Nat) (fs : List Flr) (t : ByteArray) (ht : Hid (tx (xs.map wI ++ fs.map wF) = t)) (hfi : FitI xs) (hff : FitF fs) (hs : Sml xs) (w : World) (hT : Lib.TabIs Tryd.prog w "internal/strconv.uint64pow10" .u64 Lib.pow10Tab) (hni : ni ≤ 1048576) (hnf : nf ≤ 1048576) (hx : Rw encI 6 w (.slice ai ni ci) xs) (hf : Rw encF 2 w (.slice af nf cf) fs) :
    Calls Tryd.prog 15 #[.agg #[.slice ai ni ci, .slice af nf cf]] w fun e w' => e = .returned (.string t) ∧ Below w.heap.size w w' := by
  rw [← unhide ht]; exact itx_any ai ni ci xs af nf cf fs hfi hff hs w hT hni hnf hx hf
end Go.Proofs.YtdpaocikmijioadDoor
