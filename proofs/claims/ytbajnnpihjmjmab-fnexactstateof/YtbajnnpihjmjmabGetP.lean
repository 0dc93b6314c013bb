/-
  Reading a number, as a function on lists: the number that begins at that place and the place behind it, or none. No program; no statement is proved here.
-/
import Derived.Test.YtbajnnpihjmjmabBase
namespace Go.Proofs.Ytbajnnpihjmjmab
open Go.RowKit

def gnum : Nat → Int → Int → List Int → Int → Option (Int × Int)
  | 0, _, _, _, _ => none
  | _ + 1, _, _, [], _ => none
  | f + 1, u, n, d :: r, p => if d < 128 then (if 2147483647 < n + d * u ∨ (d = 0 ∧ 1 < u) then none else some (n + d * u, p + 1)) else gnum f (u * 128) (n + (d - 128) * u) r (p + 1)
def getN (xs : List Int) (p : Int) : Option (Int × Int) := if p < 0 then none else gnum 5 1 0 (xs.drop p.toNat) p
theorem gnum_nil (f : Nat) (u n p : Int) : gnum f u n [] p = none := by cases f <;> rfl
theorem gnum_end (f : Nat) (u n d p : Int) (r : List Int) (h : d < 128) (hc : ¬ (2147483647 < n + d * u ∨ (d = 0 ∧ 1 < u))) : gnum (f + 1) u n (d :: r) p = some (n + d * u, p + 1) := by
  simp only [gnum, h, if_true, hc, if_false]
theorem gnum_bad (f : Nat) (u n d p : Int) (r : List Int) (h : d < 128) (hc : 2147483647 < n + d * u ∨ (d = 0 ∧ 1 < u)) : gnum (f + 1) u n (d :: r) p = none := by
  simp only [gnum, h, if_true, hc]
theorem gnum_more (f : Nat) (u n d p : Int) (r : List Int) (h : ¬ d < 128) : gnum (f + 1) u n (d :: r) p = gnum f (u * 128) (n + (d - 128) * u) r (p + 1) := by
  simp only [gnum, h, if_false]
theorem drop_cons (xs : List Int) (q : Nat) (h : q < xs.length) : xs.drop q = xs.getD q 0 :: xs.drop (q + 1) := by
  rw [List.drop_eq_getElem_cons h]; simp [h]
end Go.Proofs.Ytbajnnpihjmjmab
