/-
  A number between two others: the program's word for it, and the specification's. No statement is proved here.
-/
import Derived.Test.YtbajnnpihjmjmaaBase
namespace Go.Proofs.Ytbajnnpihjmjmaa
open Go.RowKit

def inB (x lo hi : Int) : Bool := decide (lo ≤ x) && decide (x ≤ hi)

theorem l1in_is (x lo hi : Int) (b : Bool) (hb : inB x lo hi = b) (w : World) :
    Calls Try.prog 35 #[.int .i64 x, .int .i64 lo, .int .i64 hi] w fun e w' => e = .returned (.bool b) ∧ w = w' := by
  subst hb
  by_cases h1 : lo ≤ x
  · have hd1 : decide (lo ≤ x) = true := by simpa using h1
    by_cases h2 : x ≤ hi
    · have hd2 : decide (x ≤ hi) = true := by simpa using h2
      go_enter Try.func35, Try.ntmps35
      go_wp2
      go_ret
      exact ⟨by simp [inB, h1, h2], rfl⟩
    · have hd2 : decide (x ≤ hi) = false := by simpa using h2
      go_enter Try.func35, Try.ntmps35
      go_wp2
      go_ret
      exact ⟨by simp only [inB, hd1, hd2]; rfl, rfl⟩
  · have hd1 : decide (lo ≤ x) = false := by simpa using h1
    go_enter Try.func35, Try.ntmps35
    go_wp2
    go_ret
    exact ⟨by simp only [inB, hd1]; rfl, rfl⟩
theorem within_is (x lo hi : Int) (b : Bool) (hb : inB x lo hi = b) (w : World) :
    Calls Try.prog 57 #[.int .i64 x, .int .i64 lo, .int .i64 hi] w fun e w' => e = .returned (.bool b) ∧ w = w' := by
  subst hb
  by_cases h1 : lo ≤ x
  · have hd1 : decide (lo ≤ x) = true := by simpa using h1
    by_cases h2 : x ≤ hi
    · have hd2 : decide (x ≤ hi) = true := by simpa using h2
      go_enter Try.func57, Try.ntmps57
      go_wp2
      go_ret
      exact ⟨by simp [inB, h1, h2], rfl⟩
    · have hd2 : decide (x ≤ hi) = false := by simpa using h2
      go_enter Try.func57, Try.ntmps57
      go_wp2
      go_ret
      exact ⟨by simp only [inB, hd1, hd2]; rfl, rfl⟩
  · have hd1 : decide (lo ≤ x) = false := by simpa using h1
    go_enter Try.func57, Try.ntmps57
    go_wp2
    go_ret
    exact ⟨by simp only [inB, hd1]; rfl, rfl⟩
end Go.Proofs.Ytbajnnpihjmjmaa
