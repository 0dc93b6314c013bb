/-
  Small helpers of chapter 8: the greater of two numbers, what stands at a place, whether numbers are right. No statement is proved here.
-/
import Derived.Test.YtighiahppjekeabGreatVcP
import Derived.Test.YtighiahppjekeabGreatMax
import Derived.BigQuiet
import Derived.Deep.QuietTactic
namespace Go.Proofs.YtighiahppjekeabGreat
open Go.RowKit

theorem hasplace_any (a : Option Addr) (n c : Nat) (at0 : Int) (b : Bool) (hb : inB at0 0 ((n : Int) - 1) = b) (w : World) (hn : n ≤ 140737488351232) :
    Calls Tryz.prog 50 #[.slice a n c, .int .i64 at0] w fun e w' => e = .returned (.bool b) ∧ w = w' := by
  have HB := hide hb
  clear hb
  go_enter Tryz.func50, Tryz.ntmps50
  go_wp2_with fail
  refine (within_is at0 0 ((n : Int) - 1) b (unhide HB) _).mono ?_
  rintro e _ ⟨rfl, rfl⟩
  go_wp2
  go_ret
  exact ⟨rfl, rfl⟩
end Go.Proofs.YtighiahppjekeabGreat
