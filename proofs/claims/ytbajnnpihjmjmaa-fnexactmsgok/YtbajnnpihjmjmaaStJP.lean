/-
  States joined: plain lists. No program here, no statement is proved here.
-/
import Derived.Test.YtbajnnpihjmjmaaStOkP
namespace Go.Proofs.Ytbajnnpihjmjmaa
open Go.RowKit

def fl2 (fs gs : List Flr) (id : Int) : Int := if flo fs id < flo gs id then flo gs id else flo fs id
def jF1 (fs gs : List Flr) (i : Nat) : List Flr := if 0 < fl2 fs gs i then [((i : Int), fl2 fs gs i)] else []
/-- The floors of the first n nodes. -/
def jF (fs gs : List Flr) : Nat → List Flr
  | 0 => []
  | n + 1 => jF fs gs n ++ jF1 fs gs n
/-- Of both the one that is behind. -/
def jE : Option Key → Option Key → Option Key
  | none, y => y
  | x, none => x
  | some x, some y => some (mx x y)
def jI1 (xs : List Itm) (fs : List Flr) (ys : List Itm) (gs : List Flr) (i : Nat) : List Itm := match jE (ent xs i) (ent ys i) with
  | some e => if fl2 fs gs i < e.1 then [((i : Int), e)] else []
  | none => []
def jI (xs : List Itm) (fs : List Flr) (ys : List Itm) (gs : List Flr) : Nat → List Itm
  | 0 => []
  | n + 1 => jI xs fs ys gs n ++ jI1 xs fs ys gs n
theorem jF_len (fs gs : List Flr) : ∀ n, (jF fs gs n).length ≤ n
  | 0 => Nat.le_refl _
  | n + 1 => by
    have := jF_len fs gs n
    rw [jF, List.length_append, jF1]
    split <;> simp <;> omega
theorem jI_len (xs : List Itm) (fs : List Flr) (ys : List Itm) (gs : List Flr) : ∀ n, (jI xs fs ys gs n).length ≤ n
  | 0 => Nat.le_refl _
  | n + 1 => by
    have := jI_len xs fs ys gs n
    rw [jI, List.length_append, jI1]
    split
    · split <;> simp <;> omega
    · simp; omega
theorem jF_pos {fs gs : List Flr} {i : Nat} (h : decide (0 < fl2 fs gs i) = true) : jF fs gs (i + 1) = jF fs gs i ++ [((i : Int), fl2 fs gs i)] := by
  rw [jF, jF1, if_pos (of_decide_eq_true h)]
theorem jF_neg {fs gs : List Flr} {i : Nat} (h : decide (0 < fl2 fs gs i) = false) : jF fs gs (i + 1) = jF fs gs i := by
  rw [jF, jF1, if_neg (of_decide_eq_false h), List.append_nil]
theorem jI_pos {xs : List Itm} {fs : List Flr} {ys : List Itm} {gs : List Flr} {i : Nat} {e : Key} (he : jE (ent xs i) (ent ys i) = some e) (h : decide (fl2 fs gs i < e.1) = true) : jI xs fs ys gs (i + 1) = jI xs fs ys gs i ++ [((i : Int), e)] := by
  rw [jI, jI1, he]
  simp only
  rw [if_pos (of_decide_eq_true h)]
theorem jI_neg {xs : List Itm} {fs : List Flr} {ys : List Itm} {gs : List Flr} {i : Nat} {e : Key} (he : jE (ent xs i) (ent ys i) = some e) (h : decide (fl2 fs gs i < e.1) = false) : jI xs fs ys gs (i + 1) = jI xs fs ys gs i := by
  rw [jI, jI1, he]
  simp only
  rw [if_neg (of_decide_eq_false h), List.append_nil]
theorem jI_none {xs : List Itm} {fs : List Flr} {ys : List Itm} {gs : List Flr} {i : Nat} (he : jE (ent xs i) (ent ys i) = none) : jI xs fs ys gs (i + 1) = jI xs fs ys gs i := by
  rw [jI, jI1, he]
  simp
theorem entR_true {xs : List Itm} {id : Int} {r : Key} (h : entR xs id = (r, true)) : ent xs id = some r := by
  unfold entR at h
  split at h
  · rename_i e he; simp only [Prod.mk.injEq] at h; rw [he, h.1]
  · simp at h
theorem entR_false {xs : List Itm} {id : Int} {r : Key} (h : entR xs id = (r, false)) : ent xs id = none := by
  unfold entR at h
  split at h
  · simp at h
  · assumption
theorem fl2_lt {fs gs : List Flr} {id a b : Int} (ha : flo fs id = a) (hb : flo gs id = b) (h : a < b) : fl2 fs gs id = b := by rw [fl2, ha, hb, if_pos h]
theorem fl2_ge {fs gs : List Flr} {id a b : Int} (ha : flo fs id = a) (hb : flo gs id = b) (h : ¬ a < b) : fl2 fs gs id = a := by rw [fl2, ha, hb, if_neg h]
/-- The joined state. -/
def joinI (xs : List Itm) (fs : List Flr) (ys : List Itm) (gs : List Flr) : List Itm := jI xs fs ys gs 5
def joinF (fs gs : List Flr) : List Flr := jF fs gs 5
theorem mx_gt {x y : Key} (h : decide (0 < keyC y x) = true) : mx x y = y := by
  have a := keyC_is.anti x y
  have := of_decide_eq_true h
  rw [mx, if_pos (by omega)]
theorem mx_le1 {x y : Key} (h : decide (0 < keyC y x) = false) : mx x y = x := by
  have a := keyC_is.anti x y
  have := of_decide_eq_false h
  rw [mx, if_neg (by omega)]
end Go.Proofs.Ytbajnnpihjmjmaa
