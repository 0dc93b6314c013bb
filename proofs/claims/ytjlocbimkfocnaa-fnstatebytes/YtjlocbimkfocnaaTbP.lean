/-
  Tables as lists of rows, marks that are put into a row, the least of a place: plain lists. No program here, no statement is proved here.
-/
import Derived.Test.YtjlocbimkfocnaaVcP
import Derived.Test.YtjlocbimkfocnaaApp2
namespace Go.Proofs.Ytjlocbimkfocnaa
open Go.RowKit

abbrev Tb := List (List Int)
/-- A row of a right table. -/
def okR (r : List Int) : Bool := decide (r.length = 5) && r.all fun x => inB x 0 1000
def okRK (r : List Int) (k : Nat) : Bool := (r.take k).all fun x => inB x 0 1000
def okRs (t : Tb) : Bool := t.all okR
def okRsK (t : Tb) (k : Nat) : Bool := (t.take k).all okR
def okT (t : Tb) (n : Int) : Bool := inB n 1 5 && ((t.length : Int) == n) && okRs t
theorem okRK_succ {r : List Int} {k : Nat} {x : Int} (h : r[k]? = some x) : okRK r (k + 1) = (okRK r k && inB x 0 1000) := by
  unfold okRK
  rw [List.take_add_one, h, List.all_append]; simp
theorem okRK_all {r : List Int} {k : Nat} (h : k = r.length) : okRK r k = r.all fun x => inB x 0 1000 := by
  unfold okRK
  rw [List.take_of_length_le (by omega)]
theorem okRsK_succ {t : Tb} {k : Nat} {r : List Int} (h : t[k]? = some r) : okRsK t (k + 1) = (okRsK t k && okR r) := by
  unfold okRsK
  rw [List.take_add_one, h, List.all_append]; simp
theorem okRsK_all {t : Tb} {k : Nat} (h : k = t.length) : okRsK t k = okRs t := by
  unfold okRsK okRs
  rw [List.take_of_length_le (by omega)]
theorem all_no {α : Type} {p : α → Bool} {xs : List α} {k : Nat} {x : α} (h : xs[k]? = some x) (hp : p x = false) : xs.all p = false := by
  rw [← Bool.not_eq_true, List.all_eq_true]
  intro q
  have := q x (List.mem_of_getElem? h)
  rw [hp] at this; cases this
theorem okR_no {r : List Int} {k : Nat} {x : Int} (h : r[k]? = some x) (hp : inB x 0 1000 = false) : okR r = false := by
  unfold okR
  rw [all_no (p := fun x => inB x 0 1000) h hp, Bool.and_false]
theorem okRs_no {t : Tb} {k : Nat} {r : List Int} (h : t[k]? = some r) (hp : okR r = false) : okRs t = false := all_no (p := okR) h hp

/-- A table of noughts. -/
def nulR : List Int := List.replicate 5 0
def newT (n : Int) : Tb := if inB n 1 5 = true then List.replicate n.toNat nulR else []
theorem newT_len (n : Int) : (newT n).length ≤ 5 := by
  unfold newT
  split
  · rename_i h
    simp [inB] at h
    simp; omega
  · simp

/-- A mark that is put into a row; a list of marks. -/
def putM (r : List Int) (m : Flr) : List Int := r.set m.1.toNat (max (nAt r m.1.toNat) m.2)
def putMs (r : List Int) (ms : List Flr) : List Int := ms.foldl putM r
theorem putM_len (r : List Int) (m : Flr) : (putM r m).length = r.length := by simp [putM]
theorem putMs_len : ∀ (ms : List Flr) (r : List Int), (putMs r ms).length = r.length
  | [], _ => rfl
  | m :: ms, r => by
    show (putMs (putM r m) ms).length = _
    rw [putMs_len ms, putM_len]
theorem putMs_take {r : List Int} {ms : List Flr} {k : Nat} {m : Flr} (h : ms[k]? = some m) : putMs r (ms.take (k + 1)) = putM (putMs r (ms.take k)) m := by
  unfold putMs
  rw [List.take_add_one, h, List.foldl_append]; rfl
def rowT (t : Tb) (k : Int) : List Int := t.getD k.toNat []
theorem rowT_in {t : Tb} {k : Nat} {r : List Int} (h : t[k]? = some r) : rowT t (k : Int) = r := by
  unfold rowT; rw [List.getD_eq_getElem?_getD]; simp [h]
def addOk (t : Tb) (k : Int) (ms : List Flr) : Bool := inB k 0 ((t.length : Int) - 1) && gF (-1) ms && decide (5 ≤ (rowT t k).length)
def addT (t : Tb) (k : Int) (ms : List Flr) : Tb := if addOk t k ms = true then t.set k.toNat (putMs (rowT t k) ms) else t
theorem addT_len (t : Tb) (k : Int) (ms : List Flr) : (addT t k ms).length = t.length := by
  unfold addT; split <;> simp

/-- The least of some numbers; 0 of none. -/
def lst : List Int → Int
  | [] => 0
  | x :: r => r.foldl min x
theorem lst_one (x : Int) : lst [x] = x := rfl
theorem lst_snoc {ns : List Int} (h : ns ≠ []) (x : Int) : lst (ns ++ [x]) = min (lst ns) x := by
  cases ns with
  | nil => exact absurd rfl h
  | cons y r => simp [lst, List.foldl_append]
/-- The numbers at a place. -/
def col (t : Tb) (k : Nat) : List Int := t.map fun r => nAt r k
def hasR (id : Int) (r : List Int) : Bool := inB id 0 ((r.length : Int) - 1)
def com (t : Tb) (id : Int) : Int := if t.all (hasR id) = true then lst (col t id.toNat) else 0
theorem col_take {t : Tb} {i k : Nat} {r : List Int} (h : t[i]? = some r) : col (t.take (i + 1)) k = col (t.take i) k ++ [nAt r k] := by
  unfold col
  rw [List.take_add_one, h, List.map_append]; rfl
theorem com_no {t : Tb} {id : Int} {i : Nat} {r : List Int} (h : t[i]? = some r) (hp : hasR id r = false) : com t id = 0 := by
  unfold com
  rw [if_neg]
  rw [all_no h hp]; simp
theorem hasR_take {t : Tb} {id : Int} {i : Nat} {r : List Int} (h : t[i]? = some r) (hp : hasR id r = true) (hk : (t.take i).all (hasR id) = true) : (t.take (i + 1)).all (hasR id) = true := by
  rw [List.take_add_one, h, List.all_append, hk]; simp [hp]
theorem lst_le : ∀ {ns : List Int} {x : Int}, x ∈ ns → lst ns ≤ x := by
  have h : ∀ (r : List Int) (m : Int), r.foldl min m ≤ m ∧ ∀ y ∈ r, r.foldl min m ≤ y := by
    intro r
    induction r with
    | nil => intro m; exact ⟨Int.le_refl _, fun y hy => by simp at hy⟩
    | cons z r ih =>
      intro m
      obtain ⟨h1, h2⟩ := ih (min m z)
      refine ⟨by simp only [List.foldl_cons]; omega, fun y hy => ?_⟩
      simp only [List.foldl_cons]
      rcases List.mem_cons.1 hy with rfl | hy
      · omega
      · exact h2 y hy
  intro ns x hx
  cases ns with
  | nil => simp at hx
  | cons y r =>
    rcases List.mem_cons.1 hx with rfl | hx
    · exact (h r x).1
    · exact (h r y).2 x hx
end Go.Proofs.Ytjlocbimkfocnaa
