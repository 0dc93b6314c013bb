/-
  Rows that are marked part by part; what is written into one block, one behind the other. No program here, no statement is proved here.
-/
import Derived.Test.YtjlocbimkfocnaaApp2
namespace Go.Proofs.Ytjlocbimkfocnaa
open Go.RowKit

theorem encF_len (x : Flr) : (encF x).length = 2 := rfl
def mkF (k : Int) : Flr := (k, k + 1)
def mkFs (k : Int) (n : Nat) : List Flr := (List.range n).map fun i : Nat => mkF (k + 2 * (i : Int))
theorem mkFs_len (k : Int) (n : Nat) : (mkFs k n).length = n := by simp [mkFs]
theorem mkFs_at (k : Int) (n i : Nat) (h : i < n) : (mkFs k n)[i]? = some (mkF (k + 2 * (i : Int))) := by simp [mkFs, h]
/-- The first i marked, the rest as it was. -/
theorem part_set {α : Type} (ms xs : List α) (n i : Nat) (x : α) (hm : ms.length = n) (hx : xs.length = n) (hi : i < n) (h : ms[i]? = some x) : (ms.take i ++ xs.drop i).set i x = ms.take (i + 1) ++ xs.drop (i + 1) := by
  apply List.ext_getElem?
  intro j
  rw [List.getElem?_set]
  simp only [List.length_append, List.length_take, List.length_drop, List.getElem?_append, List.getElem?_take, List.getElem?_drop]
  have h1 : min i ms.length = i := by omega
  have h2 : min (i + 1) ms.length = i + 1 := by omega
  rw [h1, h2]
  by_cases e : i = j
  · subst e
    rw [if_pos rfl, if_pos (by omega), if_pos (by omega), if_pos (by omega), h]
  · rw [if_neg e]
    by_cases h3 : j < i
    · rw [if_pos h3, if_pos h3, if_pos (by omega), if_pos (by omega)]
    · rw [if_neg h3, if_neg (by omega)]
      congr 1; omega
theorem part_len {α : Type} (ms xs : List α) (n i : Nat) (hm : ms.length = n) (hx : xs.length = n) (hi : i ≤ n) : (ms.take i ++ xs.drop i).length = n := by simp; omega

theorem grown_trans2 {w w1 w2 : World} {row : Option Nat} (h1 : w.grownBy w1 row) (h2 : w1.grownBy w2 row) : w.grownBy w2 row :=
  ⟨h2.os.trans h1.os, h2.tape.trans h1.tape, h2.output.trans h1.output, Nat.le_trans h1.size h2.size, fun i hi hne => (h2.block i (Nat.lt_of_lt_of_le hi h1.size) hne).trans (h1.block i hi hne)⟩
theorem grown_refl (w : World) (row : Option Nat) : w.grownBy w row := ⟨rfl, rfl, rfl, Nat.le_refl _, fun _ _ _ => rfl⟩
theorem grown_below {w w' : World} (row : Option Nat) (h : Below w.heap.size w w') : w.grownBy w' row := ⟨h.os, h.tape, h.output, h.size, fun i hi _ => h.block i hi⟩

end Go.Proofs.Ytjlocbimkfocnaa
