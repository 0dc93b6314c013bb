/-
  A draw that is once in a while. No statement is proved here.
-/
import Derived.Test.YtighiahppjekeaaGreatDoorEntDraw
namespace Go.Proofs.YtighiahppjekeaaGreatDoor
open Go.RowKit

theorem once_any (g : Nat) (v : Value) (xs : List Int) (n : Int) (w : World) (hlen : xs.length ≤ 1048576) (hbd : ∀ z ∈ xs, 0 ≤ z ∧ z ≤ 255) (hn0 : 0 < n) (hn1 : n ≤ 4294967296) (hc : Cur w g v xs) :
    Calls Tryz.prog 27 #[.pointer (some ⟨g, 0, none⟩), .int .i64 n] w fun e w' => (∃ b : Bool, e = .returned (.bool b)) ∧ Cur w' g v xs ∧ w.grownBy w' (some g) := by
  have HD := hide hbd
  have HC := hide hc
  clear hbd hc
  go_enter Tryz.func27, Tryz.ntmps27
  go_wp2_with fail
  refine (below_any g v xs n _ hlen (unhide HD) hn0 hn1 (unhide HC)).mono ?_
  rintro e w1 ⟨⟨x, rfl, xa, xb⟩, c1, g1⟩
  have C1 := hide c1
  have G1 := hide g1
  clear c1 g1
  go_wp2
  go_ret
  exact ⟨⟨_, rfl⟩, unhide C1, unhide G1⟩

end Go.Proofs.YtighiahppjekeaaGreatDoor
