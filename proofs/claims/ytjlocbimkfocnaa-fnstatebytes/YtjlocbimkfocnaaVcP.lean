/-
  How far each was heard, as lists of numbers: right, the greater of two, beneath, raised. No program here, no statement is proved here.
-/
import Derived.Test.YtjlocbimkfocnaaNm
import Derived.Test.YtjlocbimkfocnaaApp2
namespace Go.Proofs.Ytjlocbimkfocnaa
open Go.RowKit

/-- What is not there counts as 0. -/
def nAt (ns : List Int) (k : Nat) : Int := ns.getD k 0
/-- The first k places of the greater of two. -/
def vmK (xs ys : List Int) (k : Nat) : List Int := (List.range k).map fun i => max (nAt xs i) (nAt ys i)
def vm (xs ys : List Int) : List Int := vmK xs ys (max xs.length ys.length)
/-- The first k places are beneath. -/
def vlK (xs ys : List Int) (k : Nat) : Bool := (List.range k).all fun i => decide (nAt xs i ≤ nAt ys i)
def vl (xs ys : List Int) : Bool := vlK xs ys xs.length
def inP (at0 : Int) (ns : List Int) : Bool := inB at0 0 ((ns.length : Int) - 1)
def vr (ns : List Int) (at0 n : Int) : List Int := if inP at0 ns = true then ns.set at0.toNat (max (nAt ns at0.toNat) n) else ns
/-- The first k numbers are right ones. -/
def okNK (ns : List Int) (k : Nat) : Bool := (ns.take k).all fun x => inB x 0 100000
def okN (ns : List Int) : Bool := ns.all fun x => inB x 0 100000
def vok (ns : List Int) (n : Int) : Bool := inB n 1 5 && ((ns.length : Int) == n) && okN ns

theorem vmK_len (xs ys : List Int) (k : Nat) : (vmK xs ys k).length = k := by simp [vmK]
theorem vm_len (xs ys : List Int) : (vm xs ys).length = max xs.length ys.length := vmK_len _ _ _
theorem vmK_succ (xs ys : List Int) (k : Nat) : vmK xs ys (k + 1) = vmK xs ys k ++ [max (nAt xs k) (nAt ys k)] := by simp [vmK, List.range_succ]
theorem vm_at (xs ys : List Int) (k : Nat) : nAt (vm xs ys) k = if k < max xs.length ys.length then max (nAt xs k) (nAt ys k) else 0 := by
  unfold nAt vm vmK
  rw [List.getD_eq_getElem?_getD, List.getElem?_map]
  by_cases h : k < max xs.length ys.length
  · rw [if_pos h, List.getElem?_range h]; rfl
  · rw [if_neg h, List.getElem?_eq_none (by simp; omega)]; rfl
theorem nAt_out {ns : List Int} {k : Nat} (h : ns.length ≤ k) : nAt ns k = 0 := by
  unfold nAt; rw [List.getD_eq_getElem?_getD, List.getElem?_eq_none h]; rfl
theorem nAt_in {ns : List Int} {k : Nat} {z : Int} (h : ns[k]? = some z) : nAt ns k = z := by
  unfold nAt; rw [List.getD_eq_getElem?_getD, h]; rfl
theorem vlK_succ (xs ys : List Int) (k : Nat) : vlK xs ys (k + 1) = (vlK xs ys k && decide (nAt xs k ≤ nAt ys k)) := by simp [vlK, List.range_succ]
theorem vl_iff {xs ys : List Int} : vl xs ys = true ↔ ∀ k, k < xs.length → nAt xs k ≤ nAt ys k := by simp [vl, vlK]
theorem vl_no {xs ys : List Int} {k : Nat} (hk : k < xs.length) (h : nAt ys k < nAt xs k) : vl xs ys = false := by
  rw [Bool.eq_false_iff]
  intro q
  have := vl_iff.1 q k hk
  omega
theorem okNK_succ {ns : List Int} {k : Nat} {z : Int} (h : ns[k]? = some z) : okNK ns (k + 1) = (okNK ns k && inB z 0 100000) := by
  rw [okNK, okNK, List.take_add_one, h]; simp
theorem okNK_all {ns : List Int} {k : Nat} (h : ns.length ≤ k) : okNK ns k = okN ns := by rw [okNK, List.take_of_length_le h, okN]
theorem okN_no {ns : List Int} {k : Nat} {z : Int} (h : ns[k]? = some z) (hz : inB z 0 100000 = false) : okN ns = false := by
  rw [Bool.eq_false_iff]
  intro q
  rw [okN, List.all_eq_true] at q
  rw [q z (List.mem_of_getElem? h)] at hz
  cases hz
theorem vr_len (ns : List Int) (at0 n : Int) : (vr ns at0 n).length = ns.length := by
  unfold vr; split <;> simp
theorem inP_iff {at0 : Int} {ns : List Int} : inP at0 ns = true ↔ 0 ≤ at0 ∧ at0 < ns.length := by
  unfold inP inB; simp; omega
theorem vl_left (xs ys : List Int) : vl xs (vm xs ys) = true := by
  rw [vl_iff]
  intro k hk
  rw [vm_at, if_pos (by omega)]
  omega
theorem vl_right (xs ys : List Int) : vl ys (vm xs ys) = true := by
  rw [vl_iff]
  intro k hk
  rw [vm_at, if_pos (by omega)]
  omega
theorem vl_swap (xs ys : List Int) : vl (vm ys xs) (vm xs ys) = true := by
  rw [vl_iff]
  intro k hk
  rw [vm_len] at hk
  rw [vm_at, vm_at, if_pos hk, if_pos (by omega)]
  omega
theorem vr_at {ns : List Int} {k : Nat} {n z : Int} (hk : k < ns.length) (h : (vr ns k n)[k]? = some z) : n ≤ z := by
  rw [vr, if_pos (inP_iff.2 (by omega)), Int.toNat_natCast, List.getElem?_set, if_pos rfl, if_pos hk] at h
  cases h
  omega
end Go.Proofs.Ytjlocbimkfocnaa
