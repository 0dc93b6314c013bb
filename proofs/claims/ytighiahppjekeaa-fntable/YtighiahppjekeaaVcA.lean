/-
  Small helpers of chapter 8: the greater of two numbers, what stands at a place, whether numbers are right. No statement is proved here.
-/
import Derived.Test.YtighiahppjekeaaVcP
import Derived.Test.YtighiahppjekeaaMax
import Derived.BigQuiet
import Derived.Deep.QuietTactic
namespace Go.Proofs.Ytighiahppjekeaa
open Go.RowKit

theorem greater_any (a b m : Int) (h : Hid (max a b = m)) (w : World) : Calls Try.prog 40 #[.int .i64 a, .int .i64 b] w fun e w' => e = .returned (.int .i64 m) ∧ w = w' := by
  by_cases hl : a < b
  · have hd : decide (a < b) = true := by simpa using hl
    obtain rfl : m = b := by rw [← unhide h]; omega
    clear h hl
    go_enter Try.func40, Try.ntmps40
    go_wp2
    go_ret
    exact ⟨rfl, rfl⟩
  · have hd : decide (a < b) = false := by simpa using hl
    obtain rfl : m = a := by rw [← unhide h]; omega
    clear h hl
    go_enter Try.func40, Try.ntmps40
    go_wp2
    go_ret
    exact ⟨rfl, rfl⟩
theorem hasplace_any (a : Option Addr) (n c : Nat) (at0 : Int) (b : Bool) (hb : inB at0 0 ((n : Int) - 1) = b) (w : World) (hn : n ≤ 140737488351232) :
    Calls Try.prog 44 #[.slice a n c, .int .i64 at0] w fun e w' => e = .returned (.bool b) ∧ w = w' := by
  have HB := hide hb
  clear hb
  go_enter Try.func44, Try.ntmps44
  go_wp2_with fail
  refine (within_is at0 0 ((n : Int) - 1) b (unhide HB) _).mono ?_
  rintro e _ ⟨rfl, rfl⟩
  go_wp2
  go_ret
  exact ⟨rfl, rfl⟩
end Go.Proofs.Ytighiahppjekeaa
