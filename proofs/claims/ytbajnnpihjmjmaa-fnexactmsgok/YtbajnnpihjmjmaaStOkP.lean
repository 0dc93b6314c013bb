/-
  When a state is right: plain lists. No program here, no statement is proved here.
-/
import Derived.Test.YtbajnnpihjmjmaaEntOf
import Derived.Test.YtbajnnpihjmjmaaEntOk
import Derived.Test.YtbajnnpihjmjmaaOrdP
namespace Go.Proofs.Ytbajnnpihjmjmaa
open Go.RowKit

def gI (fs : List Flr) : Int → List Itm → Bool
  | _, [] => true
  | last, x :: r => inB x.1 0 4 && decide (last < x.1) && okE x.2.1 x.2.2.1 x.2.2.2.1 x.2.2.2.2.1 x.2.2.2.2.2 && decide (flo fs x.1 < x.2.1) && gI fs x.1 r
def hI : Int → List Itm → Bool
  | _, [] => true
  | last, x :: r => inB x.1 0 4 && decide (last < x.1) && okE x.2.1 x.2.2.1 x.2.2.2.1 x.2.2.2.2.1 x.2.2.2.2.2 && hI x.1 r
def novr (fs : List Flr) : List Itm → Bool
  | [] => true
  | x :: r => decide (flo fs x.1 < x.2.1) && novr fs r
def okS (xs : List Itm) (fs : List Flr) : Bool := gI fs (-1) xs && gF (-1) fs

theorem gI_split (fs : List Flr) : ∀ (last : Int) (xs : List Itm), gI fs last xs = (hI last xs && novr fs xs)
  | _, [] => rfl
  | last, x :: r => by
    rw [gI, hI, novr, gI_split fs x.1 r]
    cases inB x.1 0 4 <;> cases decide (last < x.1) <;> cases okE x.2.1 x.2.2.1 x.2.2.2.1 x.2.2.2.2.1 x.2.2.2.2.2 <;> cases decide (flo fs x.1 < x.2.1) <;> cases hI x.1 r <;> rfl
theorem okS_eq (xs : List Itm) (fs : List Flr) : okS xs fs = (hI (-1) xs && gF (-1) fs && novr fs xs) := by
  rw [okS, gI_split]
  cases hI (-1) xs <;> cases gF (-1) fs <;> cases novr fs xs <;> rfl

theorem gI_at {fs : List Flr} {xs : List Itm} {k : Nat} {x : Itm} {last : Int} (h : xs[k]? = some x) : gI fs last (xs.drop k) = (inB x.1 0 4 && decide (last < x.1) && okE x.2.1 x.2.2.1 x.2.2.2.1 x.2.2.2.2.1 x.2.2.2.2.2 && decide (flo fs x.1 < x.2.1) && gI fs (prv xs (k + 1)) (xs.drop (k + 1))) := by
  rw [drop_at h, gI, prv_succ h]
theorem hI_at {xs : List Itm} {k : Nat} {x : Itm} {last : Int} (h : xs[k]? = some x) : hI last (xs.drop k) = (inB x.1 0 4 && decide (last < x.1) && okE x.2.1 x.2.2.1 x.2.2.2.1 x.2.2.2.2.1 x.2.2.2.2.2 && hI (prv xs (k + 1)) (xs.drop (k + 1))) := by
  rw [drop_at h, hI, prv_succ h]
theorem novr_at {fs : List Flr} {xs : List Itm} {k : Nat} {x : Itm} (h : xs[k]? = some x) : novr fs (xs.drop k) = (decide (flo fs x.1 < x.2.1) && novr fs (xs.drop (k + 1))) := by
  rw [drop_at h, novr]
end Go.Proofs.Ytbajnnpihjmjmaa
