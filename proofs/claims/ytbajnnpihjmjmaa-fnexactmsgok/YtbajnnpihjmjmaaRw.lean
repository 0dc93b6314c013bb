/-
  Rows of elements of several cells in memory: what reads so, what the call itself owns, carried from one world to a later one; a region that draws its order and whose calls make memory, gone through once. No statement is proved here.
-/
import Derived.Test.YtbajnnpihjmjmaaBase
import Derived.Deep.QuietTactic
import Derived.BigQuiet
import Derived.Shelf.SlSortCmp.QuietGrown
namespace Go.Proofs.Ytbajnnpihjmjmaa
open Go.RowKit

/-- The slice value v reads as the elements xs, each of k cells. -/
def Rw {α : Type} (enc : α → List Value) (k : Nat) (w : World) (v : Value) (xs : List α) : Prop :=
  ∃ a cap, v = .slice a xs.length cap ∧ xs.length ≤ cap ∧ (xs = [] ∨ ∃ b off, a = some ⟨b, off, none⟩ ∧ b < w.heap.size ∧ ∀ i x, xs[i]? = some x → ∀ j, j < k → w.cell? ⟨b, off + i * k + j, none⟩ = (enc x)[j]?)

theorem Rw.below {α : Type} {enc : α → List Value} {k : Nat} {w w' : World} {v : Value} {xs : List α} (h : Rw enc k w v xs) {B : Nat} (hb : Below B w w') (hB : w.heap.size ≤ B) : Rw enc k w' v xs := by
  obtain ⟨a, cap, rfl, hcap, h⟩ := h
  refine ⟨a, cap, rfl, hcap, ?_⟩
  rcases h with h | ⟨b, off, rfl, hlt, hc⟩
  · exact .inl h
  · exact .inr ⟨b, off, rfl, Nat.lt_of_lt_of_le hlt hb.size, fun i x hx j hj => (hb.cell (p := ⟨b, off + i * k + j, none⟩) (Nat.lt_of_lt_of_le hlt hB)).trans (hc i x hx j hj)⟩
theorem Rw.later {α : Type} {enc : α → List Value} {k : Nat} {w w' : World} {v : Value} {xs : List α} (h : Rw enc k w v xs) (hb : Below w.heap.size w w') : Rw enc k w' v xs := h.below hb (Nat.le_refl _)
theorem Rw.alloc {α : Type} {enc : α → List Value} {k : Nat} {w : World} {v : Value} {xs : List α} (h : Rw enc k w v xs) (o : Obj) : Rw enc k (w.alloc o) v xs := h.later ((Below.refl _ _).alloc (Nat.le_refl _) o)
theorem Rw.nil {α : Type} {enc : α → List Value} {k : Nat} {w : World} : Rw enc k w (.slice none 0 0) [] := ⟨none, 0, rfl, Nat.le_refl _, .inl rfl⟩

/-- An element that is read: where it lies. -/
theorem Rw.at {α : Type} {enc : α → List Value} {k : Nat} {w : World} {a : Option Addr} {n cap : Nat} {xs : List α} (h : Rw enc k w (.slice a n cap) xs) {i : Nat} (hi : i < n) :
    ∃ x b off, xs[i]? = some x ∧ a = some ⟨b, off, none⟩ ∧ b < w.heap.size ∧ n ≤ cap ∧ ∀ j, j < k → w.cell? ⟨b, off + i * k + j, none⟩ = (enc x)[j]? := by
  obtain ⟨a', cap', e, hcap, h⟩ := h
  simp only [Value.slice.injEq] at e
  obtain ⟨rfl, rfl, rfl⟩ := e
  rcases h with rfl | ⟨b, off, rfl, hlt, hc⟩
  · simp at hi
  · exact ⟨xs[i], b, off, by simp [hi], rfl, hlt, hcap, fun j hj => hc i xs[i] (by simp [hi]) j hj⟩
theorem Rw.len {α : Type} {enc : α → List Value} {k : Nat} {w : World} {a : Option Addr} {n cap : Nat} {xs : List α} (h : Rw enc k w (.slice a n cap) xs) : n = xs.length ∧ n ≤ cap := by
  obtain ⟨a', cap', e, hcap, h⟩ := h
  simp only [Value.slice.injEq] at e
  obtain ⟨rfl, rfl, rfl⟩ := e
  exact ⟨rfl, hcap⟩

/-! ### Worlds that are later than w: nothing of what lay in w has turned -/
def lw (w : World) (n : Nat) (os : Array Obj) : World := { w with heap := w.heap ++ os, drawn := n }
theorem later_cell {w : World} {n : Nat} {os : Array Obj} {b o : Nat} (hb : b < w.heap.size) : (lw w n os).cell? ⟨b, o, none⟩ = w.cell? ⟨b, o, none⟩ := by
  refine World.cell?_of_block (w := w) ?_
  show (w.heap ++ os)[b]? = w.heap[b]?
  rw [Array.getElem?_append_left hb]
theorem later_below (w : World) (n : Nat) (os : Array Obj) : Below w.heap.size w (lw w n os) :=
  ⟨rfl, rfl, rfl, by show w.heap.size ≤ (w.heap ++ os).size; simp, fun k hk => by show (w.heap ++ os)[k]? = w.heap[k]?; rw [Array.getElem?_append_left hk]⟩
theorem below_later {w W : World} (h : Below w.heap.size w W) : ∃ n os, W = lw w n os := by
  refine ⟨W.drawn, W.heap.extract w.heap.size W.heap.size, ?_⟩
  obtain ⟨h1, h2, h3, h4, h5⟩ := h
  cases W with
  | mk heap tape drawn os output =>
    simp only at h1 h2 h3 h4 h5
    subst h1 h2 h3
    simp only [lw, World.mk.injEq, and_true]
    refine Array.ext_getElem? fun i => ?_
    by_cases hi : i < w.heap.size
    · rw [Array.getElem?_append_left hi, h5 i hi]
    · rw [Array.getElem?_append_right (by omega), Array.getElem?_extract]
      by_cases hj : i < heap.size
      · rw [if_pos (by omega)]; congr 1; omega
      · rw [if_neg (by omega), Array.getElem?_eq_none (by omega)]

/-- A region that draws its order, whose operations only read, and whose calls make memory at most: gone through once, in the order of the text. -/
theorem wp_region_later {P : Program} {id : Nat} {Q : Exit → Act → World → Prop} {a : Act} {w : World} {l : List Oper} (hm : P.follows .mixedOrders = true) (hB : Region.lexB .any l.toArray = true)
    (h : wpQuiet P l.toArray (fun w' => ∃ p : GrownBy, w' = lw w p.n p.os) (fun a' => ∀ w', Below w.heap.size w w' → Q .normal a' w') l a) : (Code.region id l.toArray true).wp P Q a w :=
  wp_region_quiet (C := fun w' => ∃ p : GrownBy, w' = lw w p.n p.os) hm hB (by
    obtain ⟨n, os, h⟩ := below_later (w := w) (W := w.drew) ((Below.refl _ _).drew)
    exact ⟨⟨n, os⟩, h⟩) (by
    have e : (fun a' => ∀ w', Below w.heap.size w w' → Q .normal a' w') = (fun a' => ∀ w', (∃ p : GrownBy, w' = lw w p.n p.os) → Q .normal a' w') := by
      funext a'
      refine propext ⟨fun h w' ⟨p, hp⟩ => h w' (by rw [hp]; exact later_below _ _ _), fun h w' hb => h w' ?_⟩
      obtain ⟨n, os, h⟩ := below_later hb
      exact ⟨⟨n, os⟩, h⟩
    rw [e] at h
    exact h)
theorem Calls.later_of {P : Program} {f : FuncId} {args : Array Value} {w : World} {n : Nat} {os : Array Obj} {v : Value}
    (h : Calls P f args (lw w n os) fun e w' => e = .returned v ∧ Below (lw w n os).heap.size (lw w n os) w') : Calls P f args (lw w n os) fun e w'' => e = .returned v ∧ ∃ p : GrownBy, w'' = lw w p.n p.os :=
  h.mono fun _ _ ⟨he, hb⟩ => ⟨he, by
    obtain ⟨n', os', h'⟩ := below_later (((later_below w n os)).trans (hb.mono (later_below w n os).size))
    exact ⟨⟨n', os'⟩, h'⟩⟩
theorem Calls.later_same {P : Program} {f : FuncId} {args : Array Value} {w : World} {n : Nat} {os : Array Obj} {v : Value}
    (h : Calls P f args (lw w n os) fun e w' => e = .returned v ∧ lw w n os = w') : Calls P f args (lw w n os) fun e w'' => e = .returned v ∧ ∃ p : GrownBy, w'' = lw w p.n p.os :=
  h.mono fun _ _ ⟨he, hb⟩ => ⟨he, ⟨n, os⟩, hb.symm⟩
theorem later_some {w : World} {b o : Nat} {v : Value} (hb : b < w.heap.size) (h : w.cell? ⟨b, o, none⟩ = some v) : ∀ n os, (lw w n os).cell? ⟨b, o, none⟩ = some v := fun _ _ => (later_cell hb).trans h
theorem Rw.in_later {α : Type} {enc : α → List Value} {k : Nat} {w : World} {v : Value} {xs : List α} (h : Rw enc k w v xs) (n : Nat) (os : Array Obj) : Rw enc k (lw w n os) v xs := h.later (later_below w n os)
end Go.Proofs.Ytbajnnpihjmjmaa
