/-
  Lists in order of their numbers: plain lists. No program here, no statement is proved here.
-/
import Derived.Test.YtbajnnpihjmjmaaFlo
import Derived.Test.YtbajnnpihjmjmaaIn
namespace Go.Proofs.Ytbajnnpihjmjmaa
open Go.RowKit

def gF : Int → List Flr → Bool
  | _, [] => true
  | last, x :: r => inB x.1 0 4 && decide (last < x.1) && inB x.2 1 1000 && gF x.1 r

/-- The number of the element ahead of place k; -1 where there is none. -/
def prv {α : Type} (xs : List (Int × α)) : Nat → Int
  | 0 => -1
  | k + 1 => ((xs[k]?).map (·.1)).getD (-1)
theorem prv_succ {α : Type} {xs : List (Int × α)} {k : Nat} {x : Int × α} (h : xs[k]? = some x) : prv xs (k + 1) = x.1 := by simp [prv, h]
theorem drop_at {α : Type} {xs : List α} {k : Nat} {x : α} (h : xs[k]? = some x) : xs.drop k = x :: xs.drop (k + 1) := by
  obtain ⟨hk, rfl⟩ := List.getElem?_eq_some_iff.1 h
  exact List.drop_eq_getElem_cons hk
theorem in_low {x : Int} (h : inB x 0 4 = true) : decide ((-1 : Int) < x) = true := by
  simp only [inB, Bool.and_eq_true, decide_eq_true_eq] at h
  simp; omega

theorem gF_at {xs : List Flr} {k : Nat} {x : Flr} {last : Int} (h : xs[k]? = some x) : gF last (xs.drop k) = (inB x.1 0 4 && decide (last < x.1) && inB x.2 1 1000 && gF (prv xs (k + 1)) (xs.drop (k + 1))) := by
  rw [drop_at h, gF, prv_succ h]
theorem le_lt {a b : Int} {c : Bool} (h : decide (a ≤ b) = c) : decide (b < a) = !c := by
  subst h
  by_cases h : a ≤ b
  · simp [h]
  · simp [h]; omega
theorem drop_end {α : Type} {xs : List α} {n k : Nat} (hn : n = xs.length) (hk : k ≤ n) (h : ¬ k < n) : xs.drop k = [] := by
  have : k = xs.length := by omega
  subst this; simp
end Go.Proofs.Ytbajnnpihjmjmaa
