/-
  Equality of items and of floors, as the model reckons it. No statement is proved here.
-/
import Derived.Test.YtjlocbimkfocnaaApp2
import Derived.Laws.StructEq
import Derived.Lib.Strings
namespace Go.Proofs.Ytjlocbimkfocnaa
open Go.RowKit

theorem bytes_eq (x y : ByteArray) : x.toList = y.toList ↔ x = y := by
  refine ⟨fun h => ?_, fun h => by rw [h]⟩
  rw [Lib.toList_data, Lib.toList_data] at h
  obtain ⟨⟨x⟩⟩ := x
  obtain ⟨⟨y⟩⟩ := y
  simp at h
  rw [h]
theorem eqI_iff (x y : Itm) : x = y ↔ x.1 = y.1 ∧ x.2.1 = y.2.1 ∧ x.2.2.1 = y.2.2.1 ∧ x.2.2.2.1 = y.2.2.2.1 ∧ x.2.2.2.2.1 = y.2.2.2.2.1 ∧ x.2.2.2.2.2.toList = y.2.2.2.2.2.toList := by
  rw [bytes_eq]
  obtain ⟨a0, a1, a2, a3, a4, a5⟩ := x
  obtain ⟨b0, b1, b2, b3, b4, b5⟩ := y
  simp only [Prod.mk.injEq]
set_option maxHeartbeats 1000000 in
theorem eqI_run (x y : Itm) (b : Bool) (hb : decide (x = y) = b) (W : World) : (Op.equalIn 10000 64 (.agg #[.int .i64 x.1, .int .i64 x.2.1, .int .i64 x.2.2.1, .int .i64 x.2.2.2.1, .int .i64 x.2.2.2.2.1, .string x.2.2.2.2.2]) (.agg #[.int .i64 y.1, .int .i64 y.2.1, .int .i64 y.2.2.1, .int .i64 y.2.2.2.1, .int .i64 y.2.2.2.2.1, .string y.2.2.2.2.2])).run Try.prog W = .ok b W := by
  subst hb
  have e : decide (x = y) = decide (x.1 = y.1 ∧ x.2.1 = y.2.1 ∧ x.2.2.1 = y.2.2.1 ∧ x.2.2.2.1 = y.2.2.2.1 ∧ x.2.2.2.2.1 = y.2.2.2.2.1 ∧ x.2.2.2.2.2.toList = y.2.2.2.2.2.toList) := decide_eq_decide.mpr (eqI_iff x y)
  rw [e]
  clear e
  generalize x.1 = a0
  generalize y.1 = b0
  obtain ⟨a1, a2, a3, a4, a5⟩ := x.2
  obtain ⟨b1, b2, b3, b4, b5⟩ := y.2
  go_simp
  repeat' split
  all_goals simp_all
set_option maxHeartbeats 1000000 in
theorem eqF_run (x y : Flr) (b : Bool) (hb : decide (x = y) = b) (W : World) : (Op.equalIn 10000 67 (.agg #[.int .i64 x.1, .int .i64 x.2]) (.agg #[.int .i64 y.1, .int .i64 y.2])).run Try.prog W = .ok b W := by
  subst hb
  obtain ⟨a0, a1⟩ := x
  obtain ⟨b0, b1⟩ := y
  have e : decide ((a0, a1) = (b0, b1)) = decide (a0 = b0 ∧ a1 = b1) := decide_eq_decide.mpr (by simp)
  rw [e]
  clear e
  go_simp
  repeat' split
  all_goals simp_all

theorem same_all {α : Type} {xs ys : List α} {n : Nat} (h1 : n = xs.length) (h2 : n = ys.length) (h : ∀ j : Nat, j < n → xs[j]? = ys[j]?) : xs = ys := by
  apply List.ext_getElem?
  intro i
  by_cases hi : i < n
  · exact h i hi
  · rw [List.getElem?_eq_none (by omega), List.getElem?_eq_none (by omega)]
theorem same_step {α : Type} {xs ys : List α} {k : Nat} {x y : α} (hx : xs[k]? = some x) (hy : ys[k]? = some y) (e : x = y) (h : ∀ j : Nat, j < k → xs[j]? = ys[j]?) : ∀ j : Nat, j < k + 1 → xs[j]? = ys[j]? := by
  intro j hj
  by_cases c : j = k
  · subst c; rw [hx, hy, e]
  · exact h j (by omega)
theorem same_not {α : Type} {xs ys : List α} {k : Nat} {x y : α} (hx : xs[k]? = some x) (hy : ys[k]? = some y) (e : x ≠ y) : xs ≠ ys := by
  intro h
  subst h
  rw [hx] at hy
  exact e (Option.some.inj hy)
theorem same_len {α : Type} {xs ys : List α} {n m : Nat} (h1 : n = xs.length) (h2 : m = ys.length) (h : n ≠ m) : xs ≠ ys := by
  intro e; subst e; omega
theorem nb_false {a b : Nat} (h : a ≠ b) : ((a : Int) != (b : Int)) = true := by
  simp; omega
end Go.Proofs.Ytjlocbimkfocnaa
