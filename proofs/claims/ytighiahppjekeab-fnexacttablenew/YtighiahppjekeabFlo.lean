/-
  FloorOf, the program's and the specification's. No statement is proved here.
-/
import Derived.Test.YtighiahppjekeabRw
namespace Go.Proofs.Ytighiahppjekeab
open Go.RowKit

abbrev Flr := Int × Int
def encF (x : Flr) : List Value := [.int .i64 x.1, .int .i64 x.2]
def flo (fs : List Flr) (id : Int) : Int := ((fs.find? fun x => x.1 == id).map (·.2)).getD 0

theorem find_hit {α : Type} {p : α → Bool} : ∀ {xs : List α} {k : Nat} {x : α}, xs[k]? = some x → p x = true → (∀ j y, j < k → xs[j]? = some y → p y = false) → xs.find? p = some x
  | [], _, _, h, _, _ => by simp at h
  | y :: ys, 0, x, h, hp, _ => by simp at h; subst h; simp [hp]
  | y :: ys, k + 1, x, h, hp, hn => by
    have h0 : p y = false := hn 0 y (by omega) (by simp)
    rw [List.find?_cons, h0]
    exact find_hit (by simpa using h) hp (fun j z hj hz => hn (j + 1) z (by omega) (by simpa using hz))
theorem find_miss {α : Type} {p : α → Bool} {xs : List α} (hn : ∀ (j : Nat) (y : α), j < xs.length → xs[j]? = some y → p y = false) : xs.find? p = none := by
  rw [List.find?_eq_none]
  intro x hx
  obtain ⟨j, hj, rfl⟩ := List.mem_iff_getElem.1 hx
  simp [hn j xs[j] hj (by simp [hj])]

theorem flo_hit {fs : List Flr} {id : Int} {k : Nat} {x : Flr} (hx : fs[k]? = some x) (h : (x.1 == id) = true) (hn : ∀ (j : Nat) (y : Flr), j < k → fs[j]? = some y → (y.1 == id) = false) : x.2 = flo fs id := by
  simp [flo, find_hit (p := fun x => x.1 == id) hx h hn]
theorem flo_miss {fs : List Flr} {id : Int} {n : Nat} (hl : n = fs.length) (hn : ∀ (j : Nat) (y : Flr), j < n → fs[j]? = some y → (y.1 == id) = false) : (0 : Int) = flo fs id := by
  subst hl
  unfold flo
  rw [find_miss (p := fun x : Flr => x.1 == id) hn]
  rfl
theorem step_no {α : Type} {p : α → Bool} {xs : List α} {k : Nat} {x : α} (hx : xs[k]? = some x) (h : p x = false) (hn : ∀ (j : Nat) (y : α), j < k → xs[j]? = some y → p y = false) : ∀ (j : Nat) (y : α), j < k + 1 → xs[j]? = some y → p y = false := by
  intro j y hj hy
  by_cases e : j = k
  · subst e; rw [hx] at hy; cases hy; exact h
  · exact hn j y (by omega) hy

end Go.Proofs.Ytighiahppjekeab
