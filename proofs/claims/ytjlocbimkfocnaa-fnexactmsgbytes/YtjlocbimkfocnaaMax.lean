/-
  The specification's word for the greater of two numbers. No statement is proved here.
-/
import Derived.Test.YtjlocbimkfocnaaBase
namespace Go.Proofs.Ytjlocbimkfocnaa
open Go.RowKit

theorem l1max_any (a b m : Int) (h : Hid (max a b = m)) (w : World) : Calls Try.prog 121 #[.int .i64 a, .int .i64 b] w fun e w' => e = .returned (.int .i64 m) ∧ w = w' := by
  by_cases hl : b < a
  · have hd : decide (b < a) = true := by simpa using hl
    obtain rfl : m = a := by rw [← unhide h]; omega
    clear h hl
    go_enter Try.func121, Try.ntmps121
    go_wp2
    go_ret
    exact ⟨rfl, rfl⟩
  · have hd : decide (b < a) = false := by simpa using hl
    obtain rfl : m = b := by rw [← unhide h]; omega
    clear h hl
    go_enter Try.func121, Try.ntmps121
    go_wp2
    go_ret
    exact ⟨rfl, rfl⟩
end Go.Proofs.Ytjlocbimkfocnaa
