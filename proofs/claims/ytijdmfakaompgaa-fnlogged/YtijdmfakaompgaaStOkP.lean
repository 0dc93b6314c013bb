/-
  When a state is right: plain lists. No program here, no statement is proved here.
-/
import Derived.Test.YtijdmfakaompgaaEntOf
import Derived.Test.YtijdmfakaompgaaEntOk
namespace Go.Proofs.Ytijdmfakaompgaa
open Go.RowKit

def gI (fs : List Flr) : Int → List Itm → Bool
  | _, [] => true
  | last, x :: r => inB x.1 0 4 && decide (last < x.1) && okE x.2.1 x.2.2.1 x.2.2.2.1 x.2.2.2.2.1 x.2.2.2.2.2 && decide (flo fs x.1 < x.2.1) && gI fs x.1 r
def hI : Int → List Itm → Bool
  | _, [] => true
  | last, x :: r => inB x.1 0 4 && decide (last < x.1) && okE x.2.1 x.2.2.1 x.2.2.2.1 x.2.2.2.2.1 x.2.2.2.2.2 && hI x.1 r
def gF : Int → List Flr → Bool
  | _, [] => true
  | last, x :: r => inB x.1 0 4 && decide (last < x.1) && inB x.2 1 1000 && gF x.1 r
def novr (fs : List Flr) : List Itm → Bool
  | [] => true
  | x :: r => decide (flo fs x.1 < x.2.1) && novr fs r
def okS (xs : List Itm) (fs : List Flr) : Bool := gI fs (-1) xs && gF (-1) fs

theorem gI_split (fs : List Flr) : ∀ (last : Int) (xs : List Itm), gI fs last xs = (hI last xs && novr fs xs)
  | _, [] => rfl
  | last, x :: r => by
    rw [gI, hI, novr, gI_split fs x.1 r]
    cases inB x.1 0 4 <;> cases decide (last < x.1) <;> cases okE x.2.1 x.2.2.1 x.2.2.2.1 x.2.2.2.2.1 x.2.2.2.2.2 <;> cases decide (flo fs x.1 < x.2.1) <;> cases hI x.1 r <;> rfl
theorem okS_eq (xs : List Itm) (fs : List Flr) : okS xs fs = (hI (-1) xs && gF (-1) fs && novr fs xs) := by
  rw [okS, gI_split]
  cases hI (-1) xs <;> cases gF (-1) fs <;> cases novr fs xs <;> rfl

/-- The number of the element ahead of place k; -1 where there is none. -/
def prv {α : Type} (xs : List (Int × α)) : Nat → Int
  | 0 => -1
  | k + 1 => ((xs[k]?).map (·.1)).getD (-1)
theorem prv_succ {α : Type} {xs : List (Int × α)} {k : Nat} {x : Int × α} (h : xs[k]? = some x) : prv xs (k + 1) = x.1 := by simp [prv, h]
theorem drop_at {α : Type} {xs : List α} {k : Nat} {x : α} (h : xs[k]? = some x) : xs.drop k = x :: xs.drop (k + 1) := by
  obtain ⟨hk, rfl⟩ := List.getElem?_eq_some_iff.1 h
  exact List.drop_eq_getElem_cons hk
theorem in_low {x : Int} (h : inB x 0 4 = true) : decide ((-1 : Int) < x) = true := by
  simp only [inB, Bool.and_eq_true, decide_eq_true_eq] at h
  simp; omega

theorem gI_at {fs : List Flr} {xs : List Itm} {k : Nat} {x : Itm} {last : Int} (h : xs[k]? = some x) : gI fs last (xs.drop k) = (inB x.1 0 4 && decide (last < x.1) && okE x.2.1 x.2.2.1 x.2.2.2.1 x.2.2.2.2.1 x.2.2.2.2.2 && decide (flo fs x.1 < x.2.1) && gI fs (prv xs (k + 1)) (xs.drop (k + 1))) := by
  rw [drop_at h, gI, prv_succ h]
theorem hI_at {xs : List Itm} {k : Nat} {x : Itm} {last : Int} (h : xs[k]? = some x) : hI last (xs.drop k) = (inB x.1 0 4 && decide (last < x.1) && okE x.2.1 x.2.2.1 x.2.2.2.1 x.2.2.2.2.1 x.2.2.2.2.2 && hI (prv xs (k + 1)) (xs.drop (k + 1))) := by
  rw [drop_at h, hI, prv_succ h]
theorem gF_at {xs : List Flr} {k : Nat} {x : Flr} {last : Int} (h : xs[k]? = some x) : gF last (xs.drop k) = (inB x.1 0 4 && decide (last < x.1) && inB x.2 1 1000 && gF (prv xs (k + 1)) (xs.drop (k + 1))) := by
  rw [drop_at h, gF, prv_succ h]
theorem novr_at {fs : List Flr} {xs : List Itm} {k : Nat} {x : Itm} (h : xs[k]? = some x) : novr fs (xs.drop k) = (decide (flo fs x.1 < x.2.1) && novr fs (xs.drop (k + 1))) := by
  rw [drop_at h, novr]
theorem le_lt {a b : Int} {c : Bool} (h : decide (a ≤ b) = c) : decide (b < a) = !c := by
  subst h
  by_cases h : a ≤ b
  · simp [h]
  · simp [h]; omega
theorem drop_end {α : Type} {xs : List α} {n k : Nat} (hn : n = xs.length) (hk : k ≤ n) (h : ¬ k < n) : xs.drop k = [] := by
  have : k = xs.length := by omega
  subst this; simp
end Go.Proofs.Ytijdmfakaompgaa
