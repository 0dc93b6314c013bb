/-
  EntryCmp. No statement is proved here.
-/
import Derived.Test.YtbajnnpihjmjmaaEntA
import Derived.Deep.RegionHeld3
import Derived.Laws.Cover1
namespace Go.Proofs.Ytbajnnpihjmjmaa
open Go.RowKit

def cmpI (x y : Int) : Int := if x < y then -1 else if y < x then 1 else 0
def cmpS (x y : ByteArray) : Int := if Op.bytesLess x.toList y.toList = true then -1 else if (x.toList == y.toList) = true then 0 else 1

theorem cmpI_ways (x y : Int) : (decide (x < y) = true ∧ cmpI x y = -1) ∨ (decide (x < y) = false ∧ decide (y < x) = true ∧ cmpI x y = 1) ∨ (decide (x < y) = false ∧ decide (y < x) = false ∧ cmpI x y = 0) := by
  by_cases h : x < y
  · exact .inl (by simp [cmpI, h])
  · by_cases h2 : y < x
    · exact .inr (.inl (by simp [cmpI, h, h2]))
    · exact .inr (.inr (by simp only [cmpI, h, h2]; simp))

theorem cmpS_ways (x y : ByteArray) : (Op.bytesLess x.toList y.toList = true ∧ cmpS x y = -1) ∨ (Op.bytesLess x.toList y.toList = false ∧ (x.toList == y.toList) = true ∧ cmpS x y = 0) ∨ (Op.bytesLess x.toList y.toList = false ∧ (x.toList == y.toList) = false ∧ cmpS x y = 1) := by
  unfold cmpS
  rcases Bool.eq_false_or_eq_true (Op.bytesLess x.toList y.toList) with h | h <;> rcases Bool.eq_false_or_eq_true (x.toList == y.toList) with h2 | h2 <;> rw [h, h2] <;> simp

def orL : List Int → Int
  | [] => 0
  | x :: r => if x = 0 then orL r else x
theorem orL_step {xs : List Int} {k : Nat} (h : k < xs.length) : orL (xs.drop k) = if xs.getD k 0 = 0 then orL (xs.drop (k + 1)) else xs.getD k 0 := by
  rw [List.drop_eq_getElem_cons h, orL]
  simp [List.getD_eq_getElem?_getD, h]

theorem new2 (w : World) (A B C : Obj) : (((w.alloc A).alloc B).alloc C).drew.heap[w.heap.size + 1 + 1]? = some C := by
  have h := heap_alloc_new ((w.alloc A).alloc B) C
  have e : ((w.alloc A).alloc B).heap.size = w.heap.size + 1 + 1 := by simp
  rw [e] at h
  exact h

def cmpE (ai ar ab av : Int) (ad : ByteArray) (bi br bb bv : Int) (bd : ByteArray) : Int := orL [cmpI ai bi, cmpI ar br, cmpI ab bb, cmpI av bv, cmpS ad bd]

end Go.Proofs.Ytbajnnpihjmjmaa
