/-
  EntryOf, the program's and the specification's. No statement is proved here.
-/
import Derived.Test.YtbajnnpihjmjmabEntMx
import Derived.Test.YtbajnnpihjmjmabFlo
namespace Go.Proofs.Ytbajnnpihjmjmab
open Go.RowKit

abbrev Itm := Int × Key
def encI (x : Itm) : List Value := [.int .i64 x.1, .int .i64 x.2.1, .int .i64 x.2.2.1, .int .i64 x.2.2.2.1, .int .i64 x.2.2.2.2.1, .string x.2.2.2.2.2]
def zeroK : Key := (0, 0, 0, 0, ⟨#[]⟩)
def ent (xs : List Itm) (id : Int) : Option Key := (xs.find? fun x => x.1 == id).map (·.2)
def entR (xs : List Itm) (id : Int) : Key × Bool := match ent xs id with
  | some e => (e, true)
  | none => (zeroK, false)
/-- Each text is short enough for this machine. -/
def Sml (xs : List Itm) : Prop := ∀ (k : Nat) (x : Itm), xs[k]? = some x → x.2.2.2.2.2.size ≤ 1048576

theorem entR_hit {xs : List Itm} {id : Int} {k : Nat} {x : Itm} {r : Key} {ok : Bool} (h0 : entR xs id = (r, ok)) (hx : xs[k]? = some x) (h : (x.1 == id) = true) (hn : ∀ (j : Nat) (y : Itm), j < k → xs[j]? = some y → (y.1 == id) = false) : r = x.2 ∧ ok = true := by
  have e : ent xs id = some x.2 := by simp [ent, find_hit (p := fun x : Itm => x.1 == id) hx h hn]
  simp only [entR, e, Prod.mk.injEq] at h0
  exact ⟨h0.1.symm, h0.2.symm⟩
theorem entR_miss {xs : List Itm} {id : Int} {n : Nat} {r : Key} {ok : Bool} (h0 : entR xs id = (r, ok)) (hl : n = xs.length) (hn : ∀ (j : Nat) (y : Itm), j < n → xs[j]? = some y → (y.1 == id) = false) : r = zeroK ∧ ok = false := by
  subst hl
  have e : ent xs id = none := by
    unfold ent
    rw [find_miss (p := fun x : Itm => x.1 == id) hn]
    rfl
  simp only [entR, e, Prod.mk.injEq] at h0
  exact ⟨h0.1.symm, h0.2.symm⟩
/-- The cells of an element, as the walk reads them. -/
theorem item_cells {w : World} {b off k : Nat} {x : Itm} (hc : ∀ j, j < 6 → w.cell? ⟨b, off + k * 6 + j, none⟩ = (encI x)[j]?) :
    w.cell? ⟨b, off + k * 6, none⟩ = some (.int .i64 x.1) ∧ w.cell? ⟨b, off + k * 6 + 1, none⟩ = some (.int .i64 x.2.1) ∧ w.cell? ⟨b, off + k * 6 + 1 + 1, none⟩ = some (.int .i64 x.2.2.1) ∧ w.cell? ⟨b, off + k * 6 + 1 + 2, none⟩ = some (.int .i64 x.2.2.2.1) ∧ w.cell? ⟨b, off + k * 6 + 1 + 3, none⟩ = some (.int .i64 x.2.2.2.2.1) ∧ w.cell? ⟨b, off + k * 6 + 1 + 4, none⟩ = some (.string x.2.2.2.2.2) :=
  ⟨hc 0 (by omega), hc 1 (by omega), hc 2 (by omega), hc 3 (by omega), hc 4 (by omega), hc 5 (by omega)⟩

end Go.Proofs.Ytbajnnpihjmjmab
