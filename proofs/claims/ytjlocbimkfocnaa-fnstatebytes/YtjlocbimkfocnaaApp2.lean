/-
  Rows of elements of several cells in memory: what reads so, what the call itself owns, carried from one world to a later one; a region that draws its order and whose calls make memory, gone through once. No statement is proved here.
  FloorOf, the program's and the specification's. No statement is proved here.
  EntryOf, the program's and the specification's. No statement is proved here.
  A number between two others: the program's word for it, and the specification's. No statement is proved here.
  EntryOk, the program's and the specification's: both answer by the five bounds. No statement is proved here.
  Lists in order of their numbers: plain lists. No program here, no statement is proved here.
  When a state is right: plain lists. No program here, no statement is proved here.
  States joined: plain lists. No program here, no statement is proved here.
  Rows of elements of several cells that the call itself owns: read, stored into, made. No program here, no statement is proved here.
  Blocks of six cells. No program here, no statement is proved here.
  What walks over several calls take. No program here, no statement is proved here.
  A law of the walk: append(dst, x) of one element of several cells onto a row that the call itself owns. No statement is proved here.
  append(dst, x) of one element onto a row of the call's own, at a step of a statement that draws its order. No statement is proved here.
-/
import Derived.Test.YtjlocbimkfocnaaBase
import Derived.Deep.QuietTactic
import Derived.BigQuiet
import Derived.Shelf.SlSortCmp.QuietGrown
import Derived.Test.YtjlocbimkfocnaaEntMx
import Derived.Deep.AppendLies
namespace Go.Proofs.Ytjlocbimkfocnaa
open Go.RowKit

/-- The slice value v reads as the elements xs, each of k cells. -/
def Rw {α : Type} (enc : α → List Value) (k : Nat) (w : World) (v : Value) (xs : List α) : Prop :=
  ∃ a cap, v = .slice a xs.length cap ∧ xs.length ≤ cap ∧ (xs = [] ∨ ∃ b off, a = some ⟨b, off, none⟩ ∧ b < w.heap.size ∧ ∀ i x, xs[i]? = some x → ∀ j, j < k → w.cell? ⟨b, off + i * k + j, none⟩ = (enc x)[j]?)

theorem Rw.below {α : Type} {enc : α → List Value} {k : Nat} {w w' : World} {v : Value} {xs : List α} (h : Rw enc k w v xs) {B : Nat} (hb : Below B w w') (hB : w.heap.size ≤ B) : Rw enc k w' v xs := by
  obtain ⟨a, cap, rfl, hcap, h⟩ := h
  refine ⟨a, cap, rfl, hcap, ?_⟩
  rcases h with h | ⟨b, off, rfl, hlt, hc⟩
  · exact .inl h
  · exact .inr ⟨b, off, rfl, Nat.lt_of_lt_of_le hlt hb.size, fun i x hx j hj => (hb.cell (p := ⟨b, off + i * k + j, none⟩) (Nat.lt_of_lt_of_le hlt hB)).trans (hc i x hx j hj)⟩
theorem Rw.later {α : Type} {enc : α → List Value} {k : Nat} {w w' : World} {v : Value} {xs : List α} (h : Rw enc k w v xs) (hb : Below w.heap.size w w') : Rw enc k w' v xs := h.below hb (Nat.le_refl _)
theorem Rw.alloc {α : Type} {enc : α → List Value} {k : Nat} {w : World} {v : Value} {xs : List α} (h : Rw enc k w v xs) (o : Obj) : Rw enc k (w.alloc o) v xs := h.later ((Below.refl _ _).alloc (Nat.le_refl _) o)
theorem Rw.nil {α : Type} {enc : α → List Value} {k : Nat} {w : World} : Rw enc k w (.slice none 0 0) [] := ⟨none, 0, rfl, Nat.le_refl _, .inl rfl⟩

/-- An element that is read: where it lies. -/
theorem Rw.at {α : Type} {enc : α → List Value} {k : Nat} {w : World} {a : Option Addr} {n cap : Nat} {xs : List α} (h : Rw enc k w (.slice a n cap) xs) {i : Nat} (hi : i < n) :
    ∃ x b off, xs[i]? = some x ∧ a = some ⟨b, off, none⟩ ∧ b < w.heap.size ∧ n ≤ cap ∧ ∀ j, j < k → w.cell? ⟨b, off + i * k + j, none⟩ = (enc x)[j]? := by
  obtain ⟨a', cap', e, hcap, h⟩ := h
  simp only [Value.slice.injEq] at e
  obtain ⟨rfl, rfl, rfl⟩ := e
  rcases h with rfl | ⟨b, off, rfl, hlt, hc⟩
  · simp at hi
  · exact ⟨xs[i], b, off, by simp [hi], rfl, hlt, hcap, fun j hj => hc i xs[i] (by simp [hi]) j hj⟩
theorem Rw.len {α : Type} {enc : α → List Value} {k : Nat} {w : World} {a : Option Addr} {n cap : Nat} {xs : List α} (h : Rw enc k w (.slice a n cap) xs) : n = xs.length ∧ n ≤ cap := by
  obtain ⟨a', cap', e, hcap, h⟩ := h
  simp only [Value.slice.injEq] at e
  obtain ⟨rfl, rfl, rfl⟩ := e
  exact ⟨rfl, hcap⟩

/-! ### Worlds that are later than w: nothing of what lay in w has turned -/
def lw (w : World) (n : Nat) (os : Array Obj) : World := { w with heap := w.heap ++ os, drawn := n }
theorem later_cell {w : World} {n : Nat} {os : Array Obj} {b o : Nat} (hb : b < w.heap.size) : (lw w n os).cell? ⟨b, o, none⟩ = w.cell? ⟨b, o, none⟩ := by
  refine World.cell?_of_block (w := w) ?_
  show (w.heap ++ os)[b]? = w.heap[b]?
  rw [Array.getElem?_append_left hb]
theorem later_below (w : World) (n : Nat) (os : Array Obj) : Below w.heap.size w (lw w n os) :=
  ⟨rfl, rfl, rfl, by show w.heap.size ≤ (w.heap ++ os).size; simp, fun k hk => by show (w.heap ++ os)[k]? = w.heap[k]?; rw [Array.getElem?_append_left hk]⟩
theorem below_later {w W : World} (h : Below w.heap.size w W) : ∃ n os, W = lw w n os := by
  refine ⟨W.drawn, W.heap.extract w.heap.size W.heap.size, ?_⟩
  obtain ⟨h1, h2, h3, h4, h5⟩ := h
  cases W with
  | mk heap tape drawn os output =>
    simp only at h1 h2 h3 h4 h5
    subst h1 h2 h3
    simp only [lw, World.mk.injEq, and_true]
    refine Array.ext_getElem? fun i => ?_
    by_cases hi : i < w.heap.size
    · rw [Array.getElem?_append_left hi, h5 i hi]
    · rw [Array.getElem?_append_right (by omega), Array.getElem?_extract]
      by_cases hj : i < heap.size
      · rw [if_pos (by omega)]; congr 1; omega
      · rw [if_neg (by omega), Array.getElem?_eq_none (by omega)]

/-- A region that draws its order, whose operations only read, and whose calls make memory at most: gone through once, in the order of the text. -/
theorem wp_region_later {P : Program} {id : Nat} {Q : Exit → Act → World → Prop} {a : Act} {w : World} {l : List Oper} (hm : P.follows .mixedOrders = true) (hB : Region.lexB .any l.toArray = true)
    (h : wpQuiet P l.toArray (fun w' => ∃ p : GrownBy, w' = lw w p.n p.os) (fun a' => ∀ w', Below w.heap.size w w' → Q .normal a' w') l a) : (Code.region id l.toArray true).wp P Q a w :=
  wp_region_quiet (C := fun w' => ∃ p : GrownBy, w' = lw w p.n p.os) hm hB (by
    obtain ⟨n, os, h⟩ := below_later (w := w) (W := w.drew) ((Below.refl _ _).drew)
    exact ⟨⟨n, os⟩, h⟩) (by
    have e : (fun a' => ∀ w', Below w.heap.size w w' → Q .normal a' w') = (fun a' => ∀ w', (∃ p : GrownBy, w' = lw w p.n p.os) → Q .normal a' w') := by
      funext a'
      refine propext ⟨fun h w' ⟨p, hp⟩ => h w' (by rw [hp]; exact later_below _ _ _), fun h w' hb => h w' ?_⟩
      obtain ⟨n, os, h⟩ := below_later hb
      exact ⟨⟨n, os⟩, h⟩
    rw [e] at h
    exact h)
theorem Calls.later_of {P : Program} {f : FuncId} {args : Array Value} {w : World} {n : Nat} {os : Array Obj} {v : Value}
    (h : Calls P f args (lw w n os) fun e w' => e = .returned v ∧ Below (lw w n os).heap.size (lw w n os) w') : Calls P f args (lw w n os) fun e w'' => e = .returned v ∧ ∃ p : GrownBy, w'' = lw w p.n p.os :=
  h.mono fun _ _ ⟨he, hb⟩ => ⟨he, by
    obtain ⟨n', os', h'⟩ := below_later (((later_below w n os)).trans (hb.mono (later_below w n os).size))
    exact ⟨⟨n', os'⟩, h'⟩⟩
theorem Calls.later_same {P : Program} {f : FuncId} {args : Array Value} {w : World} {n : Nat} {os : Array Obj} {v : Value}
    (h : Calls P f args (lw w n os) fun e w' => e = .returned v ∧ lw w n os = w') : Calls P f args (lw w n os) fun e w'' => e = .returned v ∧ ∃ p : GrownBy, w'' = lw w p.n p.os :=
  h.mono fun _ _ ⟨he, hb⟩ => ⟨he, ⟨n, os⟩, hb.symm⟩
theorem later_some {w : World} {b o : Nat} {v : Value} (hb : b < w.heap.size) (h : w.cell? ⟨b, o, none⟩ = some v) : ∀ n os, (lw w n os).cell? ⟨b, o, none⟩ = some v := fun _ _ => (later_cell hb).trans h
theorem Rw.in_later {α : Type} {enc : α → List Value} {k : Nat} {w : World} {v : Value} {xs : List α} (h : Rw enc k w v xs) (n : Nat) (os : Array Obj) : Rw enc k (lw w n os) v xs := h.later (later_below w n os)
end Go.Proofs.Ytjlocbimkfocnaa

namespace Go.Proofs.Ytjlocbimkfocnaa
open Go.RowKit

abbrev Flr := Int × Int
def encF (x : Flr) : List Value := [.int .i64 x.1, .int .i64 x.2]
def flo (fs : List Flr) (id : Int) : Int := ((fs.find? fun x => x.1 == id).map (·.2)).getD 0

theorem find_hit {α : Type} {p : α → Bool} : ∀ {xs : List α} {k : Nat} {x : α}, xs[k]? = some x → p x = true → (∀ j y, j < k → xs[j]? = some y → p y = false) → xs.find? p = some x
  | [], _, _, h, _, _ => by simp at h
  | y :: ys, 0, x, h, hp, _ => by simp at h; subst h; simp [hp]
  | y :: ys, k + 1, x, h, hp, hn => by
    have h0 : p y = false := hn 0 y (by omega) (by simp)
    rw [List.find?_cons, h0]
    exact find_hit (by simpa using h) hp (fun j z hj hz => hn (j + 1) z (by omega) (by simpa using hz))
theorem find_miss {α : Type} {p : α → Bool} {xs : List α} (hn : ∀ (j : Nat) (y : α), j < xs.length → xs[j]? = some y → p y = false) : xs.find? p = none := by
  rw [List.find?_eq_none]
  intro x hx
  obtain ⟨j, hj, rfl⟩ := List.mem_iff_getElem.1 hx
  simp [hn j xs[j] hj (by simp [hj])]

theorem flo_hit {fs : List Flr} {id : Int} {k : Nat} {x : Flr} (hx : fs[k]? = some x) (h : (x.1 == id) = true) (hn : ∀ (j : Nat) (y : Flr), j < k → fs[j]? = some y → (y.1 == id) = false) : x.2 = flo fs id := by
  simp [flo, find_hit (p := fun x => x.1 == id) hx h hn]
theorem flo_miss {fs : List Flr} {id : Int} {n : Nat} (hl : n = fs.length) (hn : ∀ (j : Nat) (y : Flr), j < n → fs[j]? = some y → (y.1 == id) = false) : (0 : Int) = flo fs id := by
  subst hl
  unfold flo
  rw [find_miss (p := fun x : Flr => x.1 == id) hn]
  rfl
theorem step_no {α : Type} {p : α → Bool} {xs : List α} {k : Nat} {x : α} (hx : xs[k]? = some x) (h : p x = false) (hn : ∀ (j : Nat) (y : α), j < k → xs[j]? = some y → p y = false) : ∀ (j : Nat) (y : α), j < k + 1 → xs[j]? = some y → p y = false := by
  intro j y hj hy
  by_cases e : j = k
  · subst e; rw [hx] at hy; cases hy; exact h
  · exact hn j y (by omega) hy

set_option maxHeartbeats 1000000 in
theorem sfloor_any (vi : Value) (a : Option Addr) (n cap : Nat) (fs : List Flr) (id : Int) (w : World) (hn : n ≤ 140737488351232) (hf : Rw encF 2 w (.slice a n cap) fs) :
    Calls Try.prog 31 #[.agg #[vi, .slice a n cap], .int .i64 id] w fun e w' => e = .returned (.int .i64 (flo fs id)) ∧ Below w.heap.size w w' := by
  have HF := hide hf
  clear hf
  go_enter Try.func31, Try.ntmps31
  go_wp2
  go_loop [5] (fun i => ∃ k : Nat, k ≤ n ∧ i = .int .i64 k ∧ ∀ (j : Nat) (y : Flr), j < k → fs[j]? = some y → (y.1 == id) = false) (fun i => n - (intOf i).toNat)
  case atStart => exact ⟨0, Nat.zero_le _, rfl, fun j x hj => absurd hj (Nat.not_lt_zero _)⟩
  case round =>
    obtain ⟨k, hk, rfl, hno⟩ := hrel
    have HN := hide hno
    clear hno
    by_cases hlt : k < n
    · obtain ⟨x, b, off, hx, rfl, hb, hcap, hc⟩ := (unhide HF).at hlt
      have c0 : w.cell? ⟨b, off + k * 2, none⟩ = some (.int .i64 x.1) := hc 0 (by omega)
      have c1 : w.cell? ⟨b, off + k * 2 + 1, none⟩ = some (.int .i64 x.2) := hc 1 (by omega)
      have HX := hide hx
      clear hc hx
      rcases Bool.eq_false_or_eq_true (x.1 == id) with he | he
      · have HE := hide (flo_hit (unhide HX) he (unhide HN))
        go_wp2
        go_ret
        exact ⟨ret_int (unhide HE), (Below.refl _ _).alloc (Nat.le_refl _) _⟩
      · have HE := hide (step_no (p := fun y => y.1 == id) (unhide HX) he (unhide HN))
        go_wp2
        go_round
        case rel => exact ⟨k + 1, by omega, by go_num, unhide HE⟩
        case measure => simp [intOf]; omega
    · have HE := hide (flo_miss (unhide HF).len.1 (by have e : k = n := by omega
                                                      exact e ▸ unhide HN))
      go_wp2
      go_ret
      exact ⟨ret_int (unhide HE), (Below.refl _ _).alloc (Nat.le_refl _) _⟩

set_option maxHeartbeats 1000000 in
theorem ifloor_any (vi : Value) (a : Option Addr) (n cap : Nat) (fs : List Flr) (id : Int) (w : World) (hn : n ≤ 140737488351232) (hf : Rw encF 2 w (.slice a n cap) fs) :
    Calls Try.prog 80 #[.agg #[vi, .slice a n cap], .int .i64 id] w fun e w' => e = .returned (.int .i64 (flo fs id)) ∧ Below w.heap.size w w' := by
  have HF := hide hf
  clear hf
  go_enter Try.func80, Try.ntmps80
  go_wp2
  go_loopw [10] (fun i wr => ∃ k : Nat, k ≤ n ∧ i = .int .i64 k ∧ (∀ (j : Nat) (y : Flr), j < k → fs[j]? = some y → (y.1 == id) = false) ∧ Below w.heap.size w wr) (fun i _ => n - (intOf i).toNat)
  case atStart => exact ⟨0, Nat.zero_le _, rfl, fun j x hj => absurd hj (Nat.not_lt_zero _), (Below.refl _ _).alloc (Nat.le_refl _) _⟩
  case round =>
    obtain ⟨k, hk, rfl, hno, hbel⟩ := hrel
    have HN := hide hno
    have HB := hide hbel
    have hsz := hbel.size
    clear hno
    by_cases hlt : k < n
    · obtain ⟨x, b, off, hx, rfl, hb, hcap, hc⟩ := (unhide HF).at hlt
      have c0 : wr.cell? ⟨b, off + k * 2, none⟩ = some (.int .i64 x.1) := (hbel.cell (p := ⟨b, off + k * 2, none⟩) hb).trans (hc 0 (by omega))
      have c1 : wr.cell? ⟨b, off + k * 2 + 1, none⟩ = some (.int .i64 x.2) := (hbel.cell (p := ⟨b, off + k * 2 + 1, none⟩) hb).trans (hc 1 (by omega))
      have HX := hide hx
      clear hc hx hbel
      rcases Bool.eq_false_or_eq_true (x.1 == id) with he | he
      · have HE := hide (flo_hit (unhide HX) he (unhide HN))
        go_wp2
        go_ret
        exact ⟨ret_int (unhide HE), (unhide HB).alloc hsz _⟩
      · have HE := hide (step_no (p := fun y => y.1 == id) (unhide HX) he (unhide HN))
        go_wp2
        go_roundw
        case rel => exact ⟨k + 1, by omega, by go_num, unhide HE, (unhide HB).alloc hsz _⟩
        case measure => simp [intOf]; omega
    · have HE := hide (flo_miss (unhide HF).len.1 (by have e : k = n := by omega
                                                      exact e ▸ unhide HN))
      clear hbel
      go_wp2
      go_ret
      exact ⟨ret_int (unhide HE), unhide HB⟩
end Go.Proofs.Ytjlocbimkfocnaa

namespace Go.Proofs.Ytjlocbimkfocnaa
open Go.RowKit

abbrev Itm := Int × Key
def encI (x : Itm) : List Value := [.int .i64 x.1, .int .i64 x.2.1, .int .i64 x.2.2.1, .int .i64 x.2.2.2.1, .int .i64 x.2.2.2.2.1, .string x.2.2.2.2.2]
def zeroK : Key := (0, 0, 0, 0, ⟨#[]⟩)
def ent (xs : List Itm) (id : Int) : Option Key := (xs.find? fun x => x.1 == id).map (·.2)
def entR (xs : List Itm) (id : Int) : Key × Bool := match ent xs id with
  | some e => (e, true)
  | none => (zeroK, false)
/-- Each text is short enough for this machine. -/
def Sml (xs : List Itm) : Prop := ∀ (k : Nat) (x : Itm), xs[k]? = some x → x.2.2.2.2.2.size ≤ 1048576

theorem entR_hit {xs : List Itm} {id : Int} {k : Nat} {x : Itm} {r : Key} {ok : Bool} (h0 : entR xs id = (r, ok)) (hx : xs[k]? = some x) (h : (x.1 == id) = true) (hn : ∀ (j : Nat) (y : Itm), j < k → xs[j]? = some y → (y.1 == id) = false) : r = x.2 ∧ ok = true := by
  have e : ent xs id = some x.2 := by simp [ent, find_hit (p := fun x : Itm => x.1 == id) hx h hn]
  simp only [entR, e, Prod.mk.injEq] at h0
  exact ⟨h0.1.symm, h0.2.symm⟩
theorem entR_miss {xs : List Itm} {id : Int} {n : Nat} {r : Key} {ok : Bool} (h0 : entR xs id = (r, ok)) (hl : n = xs.length) (hn : ∀ (j : Nat) (y : Itm), j < n → xs[j]? = some y → (y.1 == id) = false) : r = zeroK ∧ ok = false := by
  subst hl
  have e : ent xs id = none := by
    unfold ent
    rw [find_miss (p := fun x : Itm => x.1 == id) hn]
    rfl
  simp only [entR, e, Prod.mk.injEq] at h0
  exact ⟨h0.1.symm, h0.2.symm⟩
/-- The cells of an element, as the walk reads them. -/
theorem item_cells {w : World} {b off k : Nat} {x : Itm} (hc : ∀ j, j < 6 → w.cell? ⟨b, off + k * 6 + j, none⟩ = (encI x)[j]?) :
    w.cell? ⟨b, off + k * 6, none⟩ = some (.int .i64 x.1) ∧ w.cell? ⟨b, off + k * 6 + 1, none⟩ = some (.int .i64 x.2.1) ∧ w.cell? ⟨b, off + k * 6 + 1 + 1, none⟩ = some (.int .i64 x.2.2.1) ∧ w.cell? ⟨b, off + k * 6 + 1 + 2, none⟩ = some (.int .i64 x.2.2.2.1) ∧ w.cell? ⟨b, off + k * 6 + 1 + 3, none⟩ = some (.int .i64 x.2.2.2.2.1) ∧ w.cell? ⟨b, off + k * 6 + 1 + 4, none⟩ = some (.string x.2.2.2.2.2) :=
  ⟨hc 0 (by omega), hc 1 (by omega), hc 2 (by omega), hc 3 (by omega), hc 4 (by omega), hc 5 (by omega)⟩

set_option maxHeartbeats 1000000 in
theorem sentry_any (vf : Value) (a : Option Addr) (n cap : Nat) (xs : List Itm) (id : Int) (r : Key) (ok : Bool) (h0 : Hid (entR xs id = (r, ok))) (w : World) (hn : n ≤ 140737488351232) (hf : Rw encI 6 w (.slice a n cap) xs) :
    Calls Try.prog 122 #[.agg #[.slice a n cap, vf], .int .i64 id] w fun e w' => e = .returned (.tuple #[.agg #[.int .i64 r.1, .int .i64 r.2.1, .int .i64 r.2.2.1, .int .i64 r.2.2.2.1, .string r.2.2.2.2], .bool ok]) ∧ Below w.heap.size w w' := by
  have HF := hide hf
  clear hf
  go_enter Try.func122, Try.ntmps122
  go_wp2
  go_loop [6] (fun i => ∃ k : Nat, k ≤ n ∧ i = .int .i64 k ∧ ∀ (j : Nat) (y : Itm), j < k → xs[j]? = some y → (y.1 == id) = false) (fun i => n - (intOf i).toNat)
  case atStart => exact ⟨0, Nat.zero_le _, rfl, fun j x hj => absurd hj (Nat.not_lt_zero _)⟩
  case round =>
    obtain ⟨k, hk, rfl, hno⟩ := hrel
    have HN := hide hno
    clear hno
    by_cases hlt : k < n
    · obtain ⟨x, b, off, hx, rfl, hb, hcap, hc⟩ := (unhide HF).at hlt
      obtain ⟨c0, c1, c2, c3, c4, c5⟩ := item_cells hc
      have HX := hide hx
      clear hc hx
      rcases Bool.eq_false_or_eq_true (x.1 == id) with he | he
      · obtain ⟨rfl, rfl⟩ := entR_hit (unhide h0) (unhide HX) he (unhide HN)
        go_wp2
        exact bodyPost_ret (v := .tuple #[.agg #[.int .i64 x.2.1, .int .i64 x.2.2.1, .int .i64 x.2.2.2.1, .int .i64 x.2.2.2.2.1, .string x.2.2.2.2.2], .bool true]) (by simp [results, Try.results122, go_sem]) rfl ⟨rfl, ((Below.refl _ _).alloc (Nat.le_refl _) _).alloc (by simp) _⟩
      · have HE := hide (step_no (p := fun y => y.1 == id) (unhide HX) he (unhide HN))
        go_wp2
        go_round
        case rel => exact ⟨k + 1, by omega, by go_num, unhide HE⟩
        case measure => simp [intOf]; omega
    · obtain ⟨rfl, rfl⟩ := entR_miss (unhide h0) (unhide HF).len.1 (by have e : k = n := by omega
                                                                       exact e ▸ unhide HN)
      go_wp2
      exact bodyPost_ret (v := .tuple #[.agg #[.int .i64 zeroK.1, .int .i64 zeroK.2.1, .int .i64 zeroK.2.2.1, .int .i64 zeroK.2.2.2.1, .string zeroK.2.2.2.2], .bool false]) (by simp [results, Try.results122, go_sem, zeroK]) rfl ⟨rfl, ((Below.refl _ _).alloc (Nat.le_refl _) _).alloc (by simp) _⟩

end Go.Proofs.Ytjlocbimkfocnaa

namespace Go.Proofs.Ytjlocbimkfocnaa
open Go.RowKit

def inB (x lo hi : Int) : Bool := decide (lo ≤ x) && decide (x ≤ hi)

theorem l1in_is (x lo hi : Int) (b : Bool) (hb : inB x lo hi = b) (w : World) :
    Calls Try.prog 32 #[.int .i64 x, .int .i64 lo, .int .i64 hi] w fun e w' => e = .returned (.bool b) ∧ w = w' := by
  subst hb
  by_cases h1 : lo ≤ x
  · have hd1 : decide (lo ≤ x) = true := by simpa using h1
    by_cases h2 : x ≤ hi
    · have hd2 : decide (x ≤ hi) = true := by simpa using h2
      go_enter Try.func32, Try.ntmps32
      go_wp2
      go_ret
      exact ⟨by simp [inB, h1, h2], rfl⟩
    · have hd2 : decide (x ≤ hi) = false := by simpa using h2
      go_enter Try.func32, Try.ntmps32
      go_wp2
      go_ret
      exact ⟨by simp only [inB, hd1, hd2]; rfl, rfl⟩
  · have hd1 : decide (lo ≤ x) = false := by simpa using h1
    go_enter Try.func32, Try.ntmps32
    go_wp2
    go_ret
    exact ⟨by simp only [inB, hd1]; rfl, rfl⟩
theorem within_is (x lo hi : Int) (b : Bool) (hb : inB x lo hi = b) (w : World) :
    Calls Try.prog 91 #[.int .i64 x, .int .i64 lo, .int .i64 hi] w fun e w' => e = .returned (.bool b) ∧ w = w' := by
  subst hb
  by_cases h1 : lo ≤ x
  · have hd1 : decide (lo ≤ x) = true := by simpa using h1
    by_cases h2 : x ≤ hi
    · have hd2 : decide (x ≤ hi) = true := by simpa using h2
      go_enter Try.func91, Try.ntmps91
      go_wp2
      go_ret
      exact ⟨by simp [inB, h1, h2], rfl⟩
    · have hd2 : decide (x ≤ hi) = false := by simpa using h2
      go_enter Try.func91, Try.ntmps91
      go_wp2
      go_ret
      exact ⟨by simp only [inB, hd1, hd2]; rfl, rfl⟩
  · have hd1 : decide (lo ≤ x) = false := by simpa using h1
    go_enter Try.func91, Try.ntmps91
    go_wp2
    go_ret
    exact ⟨by simp only [inB, hd1]; rfl, rfl⟩
end Go.Proofs.Ytjlocbimkfocnaa

namespace Go.Proofs.Ytjlocbimkfocnaa
open Go.RowKit

def okE (ai ar ab av : Int) (ad : ByteArray) : Bool := inB ai 1 1000 && inB ar 0 1 && inB ab 0 100000 && inB av 0 1000 && decide ((ad.size : Int) ≤ 8)

theorem rankok_is (x : Int) (b : Bool) (hb : inB x 0 1 = b) (w : World) :
    Calls Try.prog 156 #[.int .i64 x] w fun e w' => e = .returned (.bool b) ∧ w = w' := by
  subst hb
  by_cases h1 : x = 0
  · subst h1
    go_enter Try.func156, Try.ntmps156
    go_wp2
    go_ret
    exact ⟨rfl, rfl⟩
  · have hd1 : (x == 0) = false := by simpa using h1
    by_cases h2 : x = 1
    · subst h2
      go_enter Try.func156, Try.ntmps156
      go_wp2
      go_ret
      exact ⟨rfl, rfl⟩
    · have hd2 : (x == 1) = false := by simpa using h2
      go_enter Try.func156, Try.ntmps156
      go_wp2
      go_ret
      exact ⟨by
        have hb : inB x 0 1 = false := by
          simp only [inB, Bool.and_eq_false_iff, decide_eq_false_iff_not]
          omega
        rw [hb]; rfl, rfl⟩

set_option maxHeartbeats 2000000 in
theorem sok_any (ai ar ab av : Int) (ad : ByteArray) (w : World) :
    Calls Try.prog 30 #[.agg #[.int .i64 ai, .int .i64 ar, .int .i64 ab, .int .i64 av, .string ad]] w fun e w' => e = .returned (.bool (okE ai ar ab av ad)) ∧ Below w.heap.size w w' := by

  have hb := (Below.refl w.heap.size w).alloc (Nat.le_refl _) (.cells #[.int .i64 ai, .int .i64 ar, .int .i64 ab, .int .i64 av, .string ad] 62)
  have HB := hide hb
  clear hb
  rcases Bool.eq_false_or_eq_true (inB ai 1 1000) with h | h
  rotate_left
  · have H0 := hide h
    clear h
    go_enter Try.func30, Try.ntmps30
    go_wp2_with fail
    refine (l1in_is _ 1 1000 _ (unhide H0) _).mono ?_
    rintro e _ ⟨rfl, rfl⟩
    go_wp2
    go_ret
    exact ⟨by simp only [okE, unhide H0]; rfl, unhide HB⟩
  have H0 := hide h
  clear h
  rcases Bool.eq_false_or_eq_true (inB ar 0 1) with h | h
  rotate_left
  · have H1 := hide h
    clear h
    go_enter Try.func30, Try.ntmps30
    go_wp2_with fail
    refine (l1in_is _ 1 1000 _ (unhide H0) _).mono ?_
    rintro e _ ⟨rfl, rfl⟩
    go_wp2_with fail
    refine (l1in_is _ 0 1 _ (unhide H1) _).mono ?_
    rintro e _ ⟨rfl, rfl⟩
    go_wp2
    go_ret
    exact ⟨by simp only [okE, unhide H0, unhide H1]; rfl, unhide HB⟩
  have H1 := hide h
  clear h
  rcases Bool.eq_false_or_eq_true (inB ab 0 100000) with h | h
  rotate_left
  · have H2 := hide h
    clear h
    go_enter Try.func30, Try.ntmps30
    go_wp2_with fail
    refine (l1in_is _ 1 1000 _ (unhide H0) _).mono ?_
    rintro e _ ⟨rfl, rfl⟩
    go_wp2_with fail
    refine (l1in_is _ 0 1 _ (unhide H1) _).mono ?_
    rintro e _ ⟨rfl, rfl⟩
    go_wp2_with fail
    refine (l1in_is _ 0 100000 _ (unhide H2) _).mono ?_
    rintro e _ ⟨rfl, rfl⟩
    go_wp2
    go_ret
    exact ⟨by simp only [okE, unhide H0, unhide H1, unhide H2]; rfl, unhide HB⟩
  have H2 := hide h
  clear h
  rcases Bool.eq_false_or_eq_true (inB av 0 1000) with h | h
  rotate_left
  · have H3 := hide h
    clear h
    go_enter Try.func30, Try.ntmps30
    go_wp2_with fail
    refine (l1in_is _ 1 1000 _ (unhide H0) _).mono ?_
    rintro e _ ⟨rfl, rfl⟩
    go_wp2_with fail
    refine (l1in_is _ 0 1 _ (unhide H1) _).mono ?_
    rintro e _ ⟨rfl, rfl⟩
    go_wp2_with fail
    refine (l1in_is _ 0 100000 _ (unhide H2) _).mono ?_
    rintro e _ ⟨rfl, rfl⟩
    go_wp2_with fail
    refine (l1in_is _ 0 1000 _ (unhide H3) _).mono ?_
    rintro e _ ⟨rfl, rfl⟩
    go_wp2
    go_ret
    exact ⟨by simp only [okE, unhide H0, unhide H1, unhide H2, unhide H3]; rfl, unhide HB⟩
  have H3 := hide h
  clear h
  rcases Bool.eq_false_or_eq_true (decide ((ad.size : Int) ≤ 8)) with h4 | h4
  · go_enter Try.func30, Try.ntmps30
    go_wp2_with fail
    refine (l1in_is _ 1 1000 _ (unhide H0) _).mono ?_
    rintro e _ ⟨rfl, rfl⟩
    go_wp2_with fail
    refine (l1in_is _ 0 1 _ (unhide H1) _).mono ?_
    rintro e _ ⟨rfl, rfl⟩
    go_wp2_with fail
    refine (l1in_is _ 0 100000 _ (unhide H2) _).mono ?_
    rintro e _ ⟨rfl, rfl⟩
    go_wp2_with fail
    refine (l1in_is _ 0 1000 _ (unhide H3) _).mono ?_
    rintro e _ ⟨rfl, rfl⟩
    go_wp2
    go_ret
    exact ⟨by simp only [okE, unhide H0, unhide H1, unhide H2, unhide H3, h4]; rfl, unhide HB⟩
  · go_enter Try.func30, Try.ntmps30
    go_wp2_with fail
    refine (l1in_is _ 1 1000 _ (unhide H0) _).mono ?_
    rintro e _ ⟨rfl, rfl⟩
    go_wp2_with fail
    refine (l1in_is _ 0 1 _ (unhide H1) _).mono ?_
    rintro e _ ⟨rfl, rfl⟩
    go_wp2_with fail
    refine (l1in_is _ 0 100000 _ (unhide H2) _).mono ?_
    rintro e _ ⟨rfl, rfl⟩
    go_wp2_with fail
    refine (l1in_is _ 0 1000 _ (unhide H3) _).mono ?_
    rintro e _ ⟨rfl, rfl⟩
    go_wp2
    go_ret
    exact ⟨by simp only [okE, unhide H0, unhide H1, unhide H2, unhide H3, h4]; rfl, unhide HB⟩

set_option maxHeartbeats 2000000 in
theorem iok_any (ai ar ab av : Int) (ad : ByteArray) (w : World) :
    Calls Try.prog 155 #[.agg #[.int .i64 ai, .int .i64 ar, .int .i64 ab, .int .i64 av, .string ad]] w fun e w' => e = .returned (.bool (okE ai ar ab av ad)) ∧ Below w.heap.size w w' := by

  have hb := (Below.refl w.heap.size w).alloc (Nat.le_refl _) (.cells #[.int .i64 ai, .int .i64 ar, .int .i64 ab, .int .i64 av, .string ad] 62)
  have HB := hide hb
  clear hb
  rcases Bool.eq_false_or_eq_true (inB ai 1 1000) with h | h
  rotate_left
  · have H0 := hide h
    clear h
    go_enter Try.func155, Try.ntmps155
    go_wp2_with fail
    refine (within_is _ 1 1000 _ (unhide H0) _).mono ?_
    rintro e _ ⟨rfl, rfl⟩
    go_wp2
    go_ret
    exact ⟨by simp only [okE, unhide H0]; rfl, unhide HB⟩
  have H0 := hide h
  clear h
  rcases Bool.eq_false_or_eq_true (inB ar 0 1) with h | h
  rotate_left
  · have H1 := hide h
    clear h
    go_enter Try.func155, Try.ntmps155
    go_wp2_with fail
    refine (within_is _ 1 1000 _ (unhide H0) _).mono ?_
    rintro e _ ⟨rfl, rfl⟩
    go_wp2_with fail
    refine (rankok_is _ _ (unhide H1) _).mono ?_
    rintro e _ ⟨rfl, rfl⟩
    go_wp2
    go_ret
    exact ⟨by simp only [okE, unhide H0, unhide H1]; rfl, unhide HB⟩
  have H1 := hide h
  clear h
  rcases Bool.eq_false_or_eq_true (inB ab 0 100000) with h | h
  rotate_left
  · have H2 := hide h
    clear h
    go_enter Try.func155, Try.ntmps155
    go_wp2_with fail
    refine (within_is _ 1 1000 _ (unhide H0) _).mono ?_
    rintro e _ ⟨rfl, rfl⟩
    go_wp2_with fail
    refine (rankok_is _ _ (unhide H1) _).mono ?_
    rintro e _ ⟨rfl, rfl⟩
    go_wp2_with fail
    refine (within_is _ 0 100000 _ (unhide H2) _).mono ?_
    rintro e _ ⟨rfl, rfl⟩
    go_wp2
    go_ret
    exact ⟨by simp only [okE, unhide H0, unhide H1, unhide H2]; rfl, unhide HB⟩
  have H2 := hide h
  clear h
  rcases Bool.eq_false_or_eq_true (inB av 0 1000) with h | h
  rotate_left
  · have H3 := hide h
    clear h
    go_enter Try.func155, Try.ntmps155
    go_wp2_with fail
    refine (within_is _ 1 1000 _ (unhide H0) _).mono ?_
    rintro e _ ⟨rfl, rfl⟩
    go_wp2_with fail
    refine (rankok_is _ _ (unhide H1) _).mono ?_
    rintro e _ ⟨rfl, rfl⟩
    go_wp2_with fail
    refine (within_is _ 0 100000 _ (unhide H2) _).mono ?_
    rintro e _ ⟨rfl, rfl⟩
    go_wp2_with fail
    refine (within_is _ 0 1000 _ (unhide H3) _).mono ?_
    rintro e _ ⟨rfl, rfl⟩
    go_wp2
    go_ret
    exact ⟨by simp only [okE, unhide H0, unhide H1, unhide H2, unhide H3]; rfl, unhide HB⟩
  have H3 := hide h
  clear h
  rcases Bool.eq_false_or_eq_true (decide ((ad.size : Int) ≤ 8)) with h4 | h4
  · go_enter Try.func155, Try.ntmps155
    go_wp2_with fail
    refine (within_is _ 1 1000 _ (unhide H0) _).mono ?_
    rintro e _ ⟨rfl, rfl⟩
    go_wp2_with fail
    refine (rankok_is _ _ (unhide H1) _).mono ?_
    rintro e _ ⟨rfl, rfl⟩
    go_wp2_with fail
    refine (within_is _ 0 100000 _ (unhide H2) _).mono ?_
    rintro e _ ⟨rfl, rfl⟩
    go_wp2_with fail
    refine (within_is _ 0 1000 _ (unhide H3) _).mono ?_
    rintro e _ ⟨rfl, rfl⟩
    go_wp2
    go_ret
    exact ⟨by simp only [okE, unhide H0, unhide H1, unhide H2, unhide H3, h4]; rfl, unhide HB⟩
  · go_enter Try.func155, Try.ntmps155
    go_wp2_with fail
    refine (within_is _ 1 1000 _ (unhide H0) _).mono ?_
    rintro e _ ⟨rfl, rfl⟩
    go_wp2_with fail
    refine (rankok_is _ _ (unhide H1) _).mono ?_
    rintro e _ ⟨rfl, rfl⟩
    go_wp2_with fail
    refine (within_is _ 0 100000 _ (unhide H2) _).mono ?_
    rintro e _ ⟨rfl, rfl⟩
    go_wp2_with fail
    refine (within_is _ 0 1000 _ (unhide H3) _).mono ?_
    rintro e _ ⟨rfl, rfl⟩
    go_wp2
    go_ret
    exact ⟨by simp only [okE, unhide H0, unhide H1, unhide H2, unhide H3, h4]; rfl, unhide HB⟩

end Go.Proofs.Ytjlocbimkfocnaa

namespace Go.Proofs.Ytjlocbimkfocnaa
open Go.RowKit

def gF : Int → List Flr → Bool
  | _, [] => true
  | last, x :: r => inB x.1 0 4 && decide (last < x.1) && inB x.2 1 1000 && gF x.1 r

/-- The number of the element ahead of place k; -1 where there is none. -/
def prv {α : Type} (xs : List (Int × α)) : Nat → Int
  | 0 => -1
  | k + 1 => ((xs[k]?).map (·.1)).getD (-1)
theorem prv_succ {α : Type} {xs : List (Int × α)} {k : Nat} {x : Int × α} (h : xs[k]? = some x) : prv xs (k + 1) = x.1 := by simp [prv, h]
theorem drop_at {α : Type} {xs : List α} {k : Nat} {x : α} (h : xs[k]? = some x) : xs.drop k = x :: xs.drop (k + 1) := by
  obtain ⟨hk, rfl⟩ := List.getElem?_eq_some_iff.1 h
  exact List.drop_eq_getElem_cons hk
theorem in_low {x : Int} (h : inB x 0 4 = true) : decide ((-1 : Int) < x) = true := by
  simp only [inB, Bool.and_eq_true, decide_eq_true_eq] at h
  simp; omega

theorem gF_at {xs : List Flr} {k : Nat} {x : Flr} {last : Int} (h : xs[k]? = some x) : gF last (xs.drop k) = (inB x.1 0 4 && decide (last < x.1) && inB x.2 1 1000 && gF (prv xs (k + 1)) (xs.drop (k + 1))) := by
  rw [drop_at h, gF, prv_succ h]
theorem le_lt {a b : Int} {c : Bool} (h : decide (a ≤ b) = c) : decide (b < a) = !c := by
  subst h
  by_cases h : a ≤ b
  · simp [h]
  · simp [h]; omega
theorem drop_end {α : Type} {xs : List α} {n k : Nat} (hn : n = xs.length) (hk : k ≤ n) (h : ¬ k < n) : xs.drop k = [] := by
  have : k = xs.length := by omega
  subst this; simp
end Go.Proofs.Ytjlocbimkfocnaa

namespace Go.Proofs.Ytjlocbimkfocnaa
open Go.RowKit

def gI (fs : List Flr) : Int → List Itm → Bool
  | _, [] => true
  | last, x :: r => inB x.1 0 4 && decide (last < x.1) && okE x.2.1 x.2.2.1 x.2.2.2.1 x.2.2.2.2.1 x.2.2.2.2.2 && decide (flo fs x.1 < x.2.1) && gI fs x.1 r
def hI : Int → List Itm → Bool
  | _, [] => true
  | last, x :: r => inB x.1 0 4 && decide (last < x.1) && okE x.2.1 x.2.2.1 x.2.2.2.1 x.2.2.2.2.1 x.2.2.2.2.2 && hI x.1 r
def novr (fs : List Flr) : List Itm → Bool
  | [] => true
  | x :: r => decide (flo fs x.1 < x.2.1) && novr fs r
def okS (xs : List Itm) (fs : List Flr) : Bool := gI fs (-1) xs && gF (-1) fs

theorem gI_split (fs : List Flr) : ∀ (last : Int) (xs : List Itm), gI fs last xs = (hI last xs && novr fs xs)
  | _, [] => rfl
  | last, x :: r => by
    rw [gI, hI, novr, gI_split fs x.1 r]
    cases inB x.1 0 4 <;> cases decide (last < x.1) <;> cases okE x.2.1 x.2.2.1 x.2.2.2.1 x.2.2.2.2.1 x.2.2.2.2.2 <;> cases decide (flo fs x.1 < x.2.1) <;> cases hI x.1 r <;> rfl
theorem okS_eq (xs : List Itm) (fs : List Flr) : okS xs fs = (hI (-1) xs && gF (-1) fs && novr fs xs) := by
  rw [okS, gI_split]
  cases hI (-1) xs <;> cases gF (-1) fs <;> cases novr fs xs <;> rfl

theorem gI_at {fs : List Flr} {xs : List Itm} {k : Nat} {x : Itm} {last : Int} (h : xs[k]? = some x) : gI fs last (xs.drop k) = (inB x.1 0 4 && decide (last < x.1) && okE x.2.1 x.2.2.1 x.2.2.2.1 x.2.2.2.2.1 x.2.2.2.2.2 && decide (flo fs x.1 < x.2.1) && gI fs (prv xs (k + 1)) (xs.drop (k + 1))) := by
  rw [drop_at h, gI, prv_succ h]
theorem hI_at {xs : List Itm} {k : Nat} {x : Itm} {last : Int} (h : xs[k]? = some x) : hI last (xs.drop k) = (inB x.1 0 4 && decide (last < x.1) && okE x.2.1 x.2.2.1 x.2.2.2.1 x.2.2.2.2.1 x.2.2.2.2.2 && hI (prv xs (k + 1)) (xs.drop (k + 1))) := by
  rw [drop_at h, hI, prv_succ h]
theorem novr_at {fs : List Flr} {xs : List Itm} {k : Nat} {x : Itm} (h : xs[k]? = some x) : novr fs (xs.drop k) = (decide (flo fs x.1 < x.2.1) && novr fs (xs.drop (k + 1))) := by
  rw [drop_at h, novr]
end Go.Proofs.Ytjlocbimkfocnaa

namespace Go.Proofs.Ytjlocbimkfocnaa
open Go.RowKit

def fl2 (fs gs : List Flr) (id : Int) : Int := if flo fs id < flo gs id then flo gs id else flo fs id
def jF1 (fs gs : List Flr) (i : Nat) : List Flr := if 0 < fl2 fs gs i then [((i : Int), fl2 fs gs i)] else []
/-- The floors of the first n nodes. -/
def jF (fs gs : List Flr) : Nat → List Flr
  | 0 => []
  | n + 1 => jF fs gs n ++ jF1 fs gs n
/-- Of both the one that is behind. -/
def jE : Option Key → Option Key → Option Key
  | none, y => y
  | x, none => x
  | some x, some y => some (mx x y)
def jI1 (xs : List Itm) (fs : List Flr) (ys : List Itm) (gs : List Flr) (i : Nat) : List Itm := match jE (ent xs i) (ent ys i) with
  | some e => if fl2 fs gs i < e.1 then [((i : Int), e)] else []
  | none => []
def jI (xs : List Itm) (fs : List Flr) (ys : List Itm) (gs : List Flr) : Nat → List Itm
  | 0 => []
  | n + 1 => jI xs fs ys gs n ++ jI1 xs fs ys gs n
theorem jF_len (fs gs : List Flr) : ∀ n, (jF fs gs n).length ≤ n
  | 0 => Nat.le_refl _
  | n + 1 => by
    have := jF_len fs gs n
    rw [jF, List.length_append, jF1]
    split <;> simp <;> omega
theorem jI_len (xs : List Itm) (fs : List Flr) (ys : List Itm) (gs : List Flr) : ∀ n, (jI xs fs ys gs n).length ≤ n
  | 0 => Nat.le_refl _
  | n + 1 => by
    have := jI_len xs fs ys gs n
    rw [jI, List.length_append, jI1]
    split
    · split <;> simp <;> omega
    · simp; omega
theorem jF_pos {fs gs : List Flr} {i : Nat} (h : decide (0 < fl2 fs gs i) = true) : jF fs gs (i + 1) = jF fs gs i ++ [((i : Int), fl2 fs gs i)] := by
  rw [jF, jF1, if_pos (of_decide_eq_true h)]
theorem jF_neg {fs gs : List Flr} {i : Nat} (h : decide (0 < fl2 fs gs i) = false) : jF fs gs (i + 1) = jF fs gs i := by
  rw [jF, jF1, if_neg (of_decide_eq_false h), List.append_nil]
theorem jI_pos {xs : List Itm} {fs : List Flr} {ys : List Itm} {gs : List Flr} {i : Nat} {e : Key} (he : jE (ent xs i) (ent ys i) = some e) (h : decide (fl2 fs gs i < e.1) = true) : jI xs fs ys gs (i + 1) = jI xs fs ys gs i ++ [((i : Int), e)] := by
  rw [jI, jI1, he]
  simp only
  rw [if_pos (of_decide_eq_true h)]
theorem jI_neg {xs : List Itm} {fs : List Flr} {ys : List Itm} {gs : List Flr} {i : Nat} {e : Key} (he : jE (ent xs i) (ent ys i) = some e) (h : decide (fl2 fs gs i < e.1) = false) : jI xs fs ys gs (i + 1) = jI xs fs ys gs i := by
  rw [jI, jI1, he]
  simp only
  rw [if_neg (of_decide_eq_false h), List.append_nil]
theorem jI_none {xs : List Itm} {fs : List Flr} {ys : List Itm} {gs : List Flr} {i : Nat} (he : jE (ent xs i) (ent ys i) = none) : jI xs fs ys gs (i + 1) = jI xs fs ys gs i := by
  rw [jI, jI1, he]
  simp
theorem entR_true {xs : List Itm} {id : Int} {r : Key} (h : entR xs id = (r, true)) : ent xs id = some r := by
  unfold entR at h
  split at h
  · rename_i e he; simp only [Prod.mk.injEq] at h; rw [he, h.1]
  · simp at h
theorem entR_false {xs : List Itm} {id : Int} {r : Key} (h : entR xs id = (r, false)) : ent xs id = none := by
  unfold entR at h
  split at h
  · simp at h
  · assumption
theorem fl2_lt {fs gs : List Flr} {id a b : Int} (ha : flo fs id = a) (hb : flo gs id = b) (h : a < b) : fl2 fs gs id = b := by rw [fl2, ha, hb, if_pos h]
theorem fl2_ge {fs gs : List Flr} {id a b : Int} (ha : flo fs id = a) (hb : flo gs id = b) (h : ¬ a < b) : fl2 fs gs id = a := by rw [fl2, ha, hb, if_neg h]
/-- The joined state. -/
def joinI (xs : List Itm) (fs : List Flr) (ys : List Itm) (gs : List Flr) : List Itm := jI xs fs ys gs 5
def joinF (fs gs : List Flr) : List Flr := jF fs gs 5
theorem mx_gt {x y : Key} (h : decide (0 < keyC y x) = true) : mx x y = y := by
  have a := keyC_is.anti x y
  have := of_decide_eq_true h
  rw [mx, if_pos (by omega)]
theorem mx_le1 {x y : Key} (h : decide (0 < keyC y x) = false) : mx x y = x := by
  have a := keyC_is.anti x y
  have := of_decide_eq_false h
  rw [mx, if_neg (by omega)]
end Go.Proofs.Ytjlocbimkfocnaa

namespace Go.Proofs.Ytjlocbimkfocnaa
open Go.RowKit

theorem flat_len {α : Type} {enc : α → List Value} {k : Nat} (hk : ∀ x, (enc x).length = k) : ∀ xs : List α, (xs.flatMap enc).length = xs.length * k
  | [] => by simp
  | x :: r => by
    rw [List.flatMap_cons, List.length_append, flat_len hk r, hk, List.length_cons, Nat.add_mul, Nat.one_mul, Nat.add_comm]
theorem flat_at {α : Type} {enc : α → List Value} {k : Nat} (hk : ∀ x, (enc x).length = k) : ∀ (xs : List α) (i : Nat) (x : α) (j : Nat), xs[i]? = some x → j < k → (xs.flatMap enc)[i * k + j]? = (enc x)[j]?
  | [], _, _, _, h, _ => by simp at h
  | y :: r, 0, x, j, h, hj => by
    simp at h
    subst h
    rw [List.flatMap_cons, Nat.zero_mul, Nat.zero_add, List.getElem?_append_left (by rw [hk]; exact hj)]
  | y :: r, i + 1, x, j, h, hj => by
    rw [List.flatMap_cons, List.getElem?_append_right (by rw [hk, Nat.add_mul]; omega), hk, show (i + 1) * k + j - k = i * k + j by rw [Nat.add_mul]; omega]
    exact flat_at hk r i x j (by simpa using h) hj
theorem flat_none {α : Type} {enc : α → List Value} {k : Nat} (hk : ∀ x, (enc x).length = k) (xs : List α) (m : Nat) (hm : xs.length * k ≤ m) : (xs.flatMap enc)[m]? = none := by
  rw [List.getElem?_eq_none]; rw [flat_len hk]; exact hm

/-- A list with the cells cs from place o on. -/
def setL : List Value → Nat → List Value → List Value
  | l, _, [] => l
  | l, o, c :: cs => setL (l.set o c) (o + 1) cs
theorem setL_len : ∀ (cs l : List Value) (o : Nat), (setL l o cs).length = l.length
  | [], _, _ => rfl
  | c :: cs, l, o => by rw [setL, setL_len]; simp
theorem setL_at : ∀ (cs l : List Value) (o m : Nat), (setL l o cs)[m]? = if o ≤ m ∧ m < o + cs.length ∧ m < l.length then cs[m - o]? else l[m]?
  | [], l, o, m => by rw [setL, if_neg (by simp; omega)]
  | c :: cs, l, o, m => by
    rw [setL, setL_at cs, List.length_set, List.getElem?_set]
    by_cases h1 : o = m
    · subst h1
      rw [if_neg (by omega), if_pos rfl]
      by_cases h2 : o < l.length
      · rw [if_pos h2, if_pos (by simp [h2])]; simp
      · rw [if_neg h2, if_neg (by omega), List.getElem?_eq_none (by omega)]
    · rw [if_neg h1]
      by_cases h2 : o + 1 ≤ m ∧ m < o + 1 + cs.length ∧ m < l.length
      · rw [if_pos h2, if_pos (by rw [List.length_cons]; omega), show m - o = (m - (o + 1)) + 1 by omega]; simp
      · rw [if_neg h2, if_neg (by rw [List.length_cons]; omega)]
theorem div_parts {k : Nat} (h0 : 0 < k) (m : Nat) : m = m / k * k + m % k ∧ m % k < k := ⟨by rw [Nat.mul_comm]; exact (Nat.div_add_mod m k).symm, Nat.mod_lt _ h0⟩
theorem lt_of_parts {k i q r : Nat} (hr : r < k) (h : i * k ≤ q * k + r) (h2 : q * k + r < i * k + k) : q = i := by
  have h3 : i * k + k = (i + 1) * k := by rw [Nat.add_mul, Nat.one_mul]
  have a : i ≤ q := by
    by_cases c : i ≤ q
    · exact c
    · have : (q + 1) * k ≤ i * k := Nat.mul_le_mul_right _ (by omega)
      rw [Nat.add_mul, Nat.one_mul] at this; omega
  have b : q ≤ i := by
    by_cases c : q ≤ i
    · exact c
    · have : (i + 1) * k ≤ q * k := Nat.mul_le_mul_right _ (by omega)
      omega
  omega
theorem setL_flat {α : Type} {enc : α → List Value} {k : Nat} (h0 : 0 < k) (hk : ∀ x, (enc x).length = k) (ys : List α) (i : Nat) (hi : i < ys.length) (x : α) : setL (ys.flatMap enc) (i * k) (enc x) = (ys.set i x).flatMap enc := by
  apply List.ext_getElem?
  intro m
  rw [setL_at, hk, flat_len hk]
  obtain ⟨e, hr⟩ := div_parts h0 m
  generalize hq : m / k = q at e
  generalize m % k = r at e hr
  subst e
  have hlt : ∀ a b : Nat, a < b → a * k + k ≤ b * k := fun a b h => by
    have := Nat.mul_le_mul_right k (show a + 1 ≤ b by omega)
    rw [Nat.add_mul, Nat.one_mul] at this; exact this
  by_cases h : i * k ≤ q * k + r ∧ q * k + r < i * k + k ∧ q * k + r < ys.length * k
  · rw [if_pos h]
    obtain rfl := lt_of_parts hr h.1 h.2.1
    rw [flat_at hk (ys.set q x) q x r (by simp [hi]) hr]
    congr 1; omega
  · rw [if_neg h]
    by_cases hq2 : q < ys.length
    · have hne : i ≠ q := by
        intro e; subst e
        have := hlt i ys.length hi
        omega
      rw [flat_at hk ys q ys[q] r (by simp [hq2]) hr, flat_at hk (ys.set i x) q ys[q] r (by rw [List.getElem?_set_ne hne]; simp [hq2]) hr]
    · have : ys.length * k ≤ q * k + r := Nat.le_trans (Nat.mul_le_mul_right _ (by omega)) (Nat.le_add_right _ _)
      rw [flat_none hk _ _ this, flat_none hk _ _ (by simpa using this)]

/-- A world with the cells cs stored from place o of block g on. -/
def setW : World → Nat → Nat → List Value → World
  | w, _, _, [] => w
  | w, g, o, c :: cs => setW (w.setCell ⟨g, o, none⟩ c) g (o + 1) cs
theorem setW_own {base : Nat} {e : TypeId} {k : Nat} {g n cap : Nat} : ∀ (cs : List Value) {w : World} {xs : List Value} (_ : w.ownsRow base e k (.slice (some ⟨g, 0, none⟩) n cap) n xs) (o : Nat),
    (setW w g o cs).ownsRow base e k (.slice (some ⟨g, 0, none⟩) n cap) n (setL xs o cs) ∧ w.grownBy (setW w g o cs) (some g)
  | [], w, _, h, _ => ⟨h, ⟨rfl, rfl, rfl, Nat.le_refl _, fun _ _ _ => rfl⟩⟩
  | c :: cs, w, xs, h, o => by
    obtain ⟨h1, h2⟩ := h.stored o c
    obtain ⟨h3, h4⟩ := setW_own cs h1 (o + 1)
    exact ⟨h3, h4.os.trans h2.os, h4.tape.trans h2.tape, h4.output.trans h2.output, Nat.le_trans h2.size h4.size, fun i hi hne => (h4.block i (Nat.lt_of_lt_of_le hi h2.size) hne).trans (h2.block i hi hne)⟩
theorem setW_below {B : Nat} {g : Nat} (hg : B ≤ g) : ∀ (cs : List Value) {w W : World} (_ : Below B w W) (o : Nat), Below B w (setW W g o cs)
  | [], _, _, h, _ => h
  | c :: cs, _, _, h, o => setW_below hg cs (h.setCell (p := ⟨g, o, none⟩) hg c) (o + 1)
theorem setW_size : ∀ (cs : List Value) (w : World) (g o : Nat), (setW w g o cs).heap.size = w.heap.size
  | [], _, _, _ => rfl
  | c :: cs, w, g, o => by rw [setW, setW_size]; simp

/-- The slice value v, in block 'base' or behind it, is the call's own, and reads as xs. -/
def Ow {α : Type} (enc : α → List Value) (k : Nat) (e : TypeId) (base : Nat) (w : World) (v : Value) (xs : List α) : Prop := w.ownsRow base e k v xs.length (xs.flatMap enc)
theorem Ow.rw {α : Type} {enc : α → List Value} {k : Nat} (hk : ∀ x, (enc x).length = k) {e : TypeId} {base : Nat} {w : World} {v : Value} {xs : List α} (h : Ow enc k e base w v xs) : Rw enc k w v xs := by
  rcases h.2 with ⟨rfl, h0⟩ | ⟨g, cap, cur, rfl, hb, hg, hnc, hcm, hcs, htake⟩
  · have : xs = [] := List.eq_nil_of_length_eq_zero h0
    subst this
    exact Rw.nil
  · refine ⟨_, cap, rfl, hnc, .inr ⟨g, 0, rfl, (Array.getElem?_eq_some_iff.1 hg).1, fun i x hx j hj => ?_⟩⟩
    have hi : i < xs.length := (List.getElem?_eq_some_iff.1 hx).1
    have hlt : i * k + j < xs.length * k := by
      have := Nat.mul_le_mul_right k (show i + 1 ≤ xs.length by omega)
      rw [Nat.add_mul, Nat.one_mul] at this; omega
    rw [Nat.zero_add, World.ownsRow.cellAt h (i * k + j) hlt, flat_at hk xs i x j hx hj]
theorem Ow.later {α : Type} {enc : α → List Value} {k : Nat} {e : TypeId} {base : Nat} {w w' : World} {v : Value} {xs : List α} (h : Ow enc k e base w v xs) (hb : Below w.heap.size w w') : Ow enc k e base w' v xs := owns_later h hb (Nat.le_refl _)
theorem Ow.base {α : Type} {enc : α → List Value} {k : Nat} {e : TypeId} {base base' : Nat} {w : World} {v : Value} {xs : List α} (h : Ow enc k e base w v xs) (hb : base' ≤ base) : Ow enc k e base' w v xs := owns_base h hb
/-- The shape of what is owned. -/
theorem Ow.form {α : Type} {enc : α → List Value} {k : Nat} {e : TypeId} {base : Nat} {w : World} {v : Value} {xs : List α} (h : Ow enc k e base w v xs) : ∃ a cap, v = .slice a xs.length cap := by
  rcases h.2 with ⟨rfl, h0⟩ | ⟨g, cap, cur, rfl, _⟩
  · exact ⟨none, 0, by rw [h0]⟩
  · exact ⟨_, cap, rfl⟩
theorem made_flat {α : Type} {enc : α → List Value} {k : Nat} (h0 : 0 < k) (hk : ∀ x, (enc x).length = k) (z : Array Value) (z0 : α) (hz : z.toList = enc z0) (n : Nat) : (madeCells z (n * k)).toList = (List.replicate n z0).flatMap enc := by
  have hzs : z.size = k := by rw [← hk z0, ← hz]; simp
  apply List.ext_getElem?
  intro m
  obtain ⟨e, hr⟩ := div_parts h0 m
  by_cases hm : m < n * k
  · have hq : m / k < n := Nat.div_lt_of_lt_mul (by rw [Nat.mul_comm]; exact hm)
    have e2 : (madeCells z (n * k)).toList[m]? = z[m % k]? := by
      rw [madeCells]
      simp [hm, hzs, hr, getElem!_def]
    rw [e2]
    conv => rhs; rw [e]
    rw [flat_at hk _ (m / k) z0 (m % k) (by simp [hq]) hr, ← hz]
    simp
  · rw [flat_none hk _ _ (by simp; omega), List.getElem?_eq_none (by simp [madeCells]; omega)]
theorem own_cells6 {base : Nat} {e : TypeId} {w : World} {g n cap k : Nat} {cs : List Value} (h : w.ownsRow base e 6 (.slice (some ⟨g, 0, none⟩) n cap) n cs) (hk : k < n) :
    ∃ y0 y1 y2 y3 y4 y5, w.cell? ⟨g, k * 6, none⟩ = some y0 ∧ w.cell? ⟨g, k * 6 + 1, none⟩ = some y1 ∧ w.cell? ⟨g, k * 6 + 2, none⟩ = some y2 ∧ w.cell? ⟨g, k * 6 + 3, none⟩ = some y3 ∧ w.cell? ⟨g, k * 6 + 4, none⟩ = some y4 ∧ w.cell? ⟨g, k * 6 + 5, none⟩ = some y5 ∧ ∀ o, w.frozen? ⟨g, o, none⟩ = false := by
  have hl := h.1
  have q : ∀ j, j < 6 → ∃ y, w.cell? ⟨g, k * 6 + j, none⟩ = some y := fun j hj => by
    rw [h.cellAt (k * 6 + j) (by omega)]
    exact ⟨_, List.getElem?_eq_getElem (by omega)⟩
  obtain ⟨y0, h0⟩ := q 0 (by omega); obtain ⟨y1, h1⟩ := q 1 (by omega); obtain ⟨y2, h2⟩ := q 2 (by omega); obtain ⟨y3, h3⟩ := q 3 (by omega); obtain ⟨y4, h4⟩ := q 4 (by omega); obtain ⟨y5, h5⟩ := q 5 (by omega)
  exact ⟨y0, y1, y2, y3, y4, y5, h0, h1, h2, h3, h4, h5, h.frozenAt⟩
theorem own_cells2 {base : Nat} {e : TypeId} {w : World} {g n cap k : Nat} {cs : List Value} (h : w.ownsRow base e 2 (.slice (some ⟨g, 0, none⟩) n cap) n cs) (hk : k < n) :
    ∃ y0 y1, w.cell? ⟨g, k * 2, none⟩ = some y0 ∧ w.cell? ⟨g, k * 2 + 1, none⟩ = some y1 ∧ ∀ o, w.frozen? ⟨g, o, none⟩ = false := by
  have hl := h.1
  have q : ∀ j, j < 2 → ∃ y, w.cell? ⟨g, k * 2 + j, none⟩ = some y := fun j hj => by
    rw [h.cellAt (k * 2 + j) (by omega)]
    exact ⟨_, List.getElem?_eq_getElem (by omega)⟩
  obtain ⟨y0, h0⟩ := q 0 (by omega); obtain ⟨y1, h1⟩ := q 1 (by omega)
  exact ⟨y0, y1, h0, h1, h.frozenAt⟩
/-- An element stored over another one. -/
theorem Ow.put {α : Type} {enc : α → List Value} {k : Nat} (h0 : 0 < k) (hk : ∀ x, (enc x).length = k) {e : TypeId} {base : Nat} {w : World} {g n cap : Nat} {ys : List α} (h : Ow enc k e base w (.slice (some ⟨g, 0, none⟩) n cap) ys) (hn : n = ys.length) (i : Nat) (hi : i < n) (x : α) :
    Ow enc k e base (setW w g (i * k) (enc x)) (.slice (some ⟨g, 0, none⟩) n cap) (ys.set i x) := by
  subst hn
  have := (setW_own (enc x) (show w.ownsRow base e k (.slice (some ⟨g, 0, none⟩) ys.length cap) ys.length (ys.flatMap enc) from h) (i * k)).1
  rw [setL_flat h0 hk ys i hi x] at this
  unfold Ow
  rw [List.length_set]
  exact this
theorem fill_set {α : Type} (xs : List α) (z : α) (k : Nat) (x : α) (hx : xs[k]? = some x) : (xs.take k ++ List.replicate (xs.length - k) z).set k x = xs.take (k + 1) ++ List.replicate (xs.length - (k + 1)) z := by
  obtain ⟨hk, rfl⟩ := List.getElem?_eq_some_iff.1 hx
  apply List.ext_getElem?
  intro i
  rw [List.getElem?_set]
  simp only [List.length_append, List.length_take, List.length_replicate, List.getElem?_append, List.getElem?_take, List.getElem?_replicate]
  have hm : min k xs.length = k := by omega
  have hm1 : min (k + 1) xs.length = k + 1 := by omega
  rw [hm, hm1]
  by_cases h1 : k = i
  · subst h1
    rw [if_pos rfl, if_pos (by omega), if_pos (by omega), if_pos (by omega), List.getElem?_eq_getElem hk]
  · rw [if_neg h1]
    by_cases h2 : i < k
    · rw [if_pos h2, if_pos h2, if_pos (by omega), if_pos (by omega)]
    · have e1 : ¬ i < k + 1 := by omega
      rw [if_neg h2, if_neg e1]
      by_cases h3 : i < xs.length
      · rw [if_pos (by omega), if_pos (by omega)]
      · rw [if_neg (by omega), if_neg (by omega)]
theorem fill_len {α : Type} (xs : List α) (z : α) (k : Nat) (hk : k ≤ xs.length) : (xs.take k ++ List.replicate (xs.length - k) z).length = xs.length := by simp; omega
theorem owns_set {base : Nat} {e : TypeId} {k : Nat} {w : World} {v : Value} {n : Nat} {xs : List Value} (h : w.ownsRow base e k v n xs) (p : Addr) (hp : p.block < base) (u : Value) : (w.setCell p u).ownsRow base e k v n xs := by
  refine ⟨h.1, ?_⟩
  rcases h.2 with hn | ⟨g, cap, cur, rfl, hg, hh, r⟩
  · exact .inl hn
  · refine .inr ⟨g, cap, cur, rfl, hg, ?_, r⟩
    rw [heap_setCell_other _ _ _ _ (by omega)]
    exact hh
theorem Ow.set {α : Type} {enc : α → List Value} {k : Nat} {e : TypeId} {base : Nat} {w : World} {v : Value} {xs : List α} (h : Ow enc k e base w v xs) (p : Addr) (hp : p.block < base) (u : Value) : Ow enc k e base (w.setCell p u) v xs := owns_set h p hp u
end Go.Proofs.Ytjlocbimkfocnaa

namespace Go.Proofs.Ytjlocbimkfocnaa
open Go.RowKit

theorem blk_cells6 {w : World} {g : Nat} {T : TypeId} {c0 c1 c2 c3 c4 c5 : Value} (h : w.heap[g]? = some (.cells #[c0, c1, c2, c3, c4, c5] T (0, 0))) :
    w.cell? ⟨g, 0, none⟩ = some c0 ∧ w.cell? ⟨g, 1, none⟩ = some c1 ∧ w.cell? ⟨g, 2, none⟩ = some c2 ∧ w.cell? ⟨g, 3, none⟩ = some c3 ∧ w.cell? ⟨g, 4, none⟩ = some c4 ∧ w.cell? ⟨g, 5, none⟩ = some c5 ∧ ∀ o, w.frozen? ⟨g, o, none⟩ = false := by
  simp [World.cell?, World.frozen?, h]
theorem blk_set6 {w : World} {g : Nat} {T : TypeId} {c0 c1 c2 c3 c4 c5 : Value} (h : w.heap[g]? = some (.cells #[c0, c1, c2, c3, c4, c5] T (0, 0))) (v0 v1 v2 v3 v4 v5 : Value) :
    ((((((w.setCell ⟨g, 0, none⟩ v0).setCell ⟨g, 1, none⟩ v1).setCell ⟨g, 2, none⟩ v2).setCell ⟨g, 3, none⟩ v3).setCell ⟨g, 4, none⟩ v4).setCell ⟨g, 5, none⟩ v5).heap[g]? = some (.cells #[v0, v1, v2, v3, v4, v5] T (0, 0)) :=
  (heap_setCell_same _ _ _ _ _ _ (heap_setCell_same _ _ _ _ _ _ (heap_setCell_same _ _ _ _ _ _ (heap_setCell_same _ _ _ _ _ _ (heap_setCell_same _ _ _ _ _ _ (heap_setCell_same _ _ _ _ _ _ h))))))
theorem blk_far6 {W : World} {g k o : Nat} {v v0 v1 v2 v3 v4 v5 : Value} (hg : k ≠ g) (c : W.cell? ⟨k, o, none⟩ = some v) : ((((((W.setCell ⟨g, 0, none⟩ v0).setCell ⟨g, 1, none⟩ v1).setCell ⟨g, 2, none⟩ v2).setCell ⟨g, 3, none⟩ v3).setCell ⟨g, 4, none⟩ v4).setCell ⟨g, 5, none⟩ v5).cell? ⟨k, o, none⟩ = some v := by
  have hn : ∀ j, (⟨g, j, none⟩ : Addr) ≠ ⟨k, o, none⟩ := fun j e => hg (congrArg Addr.block e).symm
  rw [World.cell?_setCell_other _ _ _ _ (hn 5), World.cell?_setCell_other _ _ _ _ (hn 4), World.cell?_setCell_other _ _ _ _ (hn 3), World.cell?_setCell_other _ _ _ _ (hn 2), World.cell?_setCell_other _ _ _ _ (hn 1), World.cell?_setCell_other _ _ _ _ (hn 0)]
  exact c
theorem below_set6 {B : Nat} {w W : World} {g : Nat} {v0 v1 v2 v3 v4 v5 : Value} (hg : B ≤ g) (h : Below B w W) : Below B w ((((((W.setCell ⟨g, 0, none⟩ v0).setCell ⟨g, 1, none⟩ v1).setCell ⟨g, 2, none⟩ v2).setCell ⟨g, 3, none⟩ v3).setCell ⟨g, 4, none⟩ v4).setCell ⟨g, 5, none⟩ v5) := by
  have h1 := h.setCell (p := ⟨g, 0, none⟩) hg v0; have h2 := h1.setCell (p := ⟨g, 1, none⟩) hg v1; have h3 := h2.setCell (p := ⟨g, 2, none⟩) hg v2; have h4 := h3.setCell (p := ⟨g, 3, none⟩) hg v3; have h5 := h4.setCell (p := ⟨g, 4, none⟩) hg v4; have h6 := h5.setCell (p := ⟨g, 5, none⟩) hg v5
  exact h6
theorem midB3 (w : World) (A B C : Obj) : (((w.alloc A).alloc B).alloc C).heap[w.heap.size + 1]? = some B := (Below.heap_alloc _ _ _ (by simp)).trans (newB2 w A B)
theorem lowB3 (w : World) (A B C : Obj) : (((w.alloc A).alloc B).alloc C).heap[w.heap.size]? = some A := (Below.heap_alloc _ _ _ (by simp; omega)).trans ((Below.heap_alloc _ _ _ (by simp)).trans (heap_alloc_new w A))
theorem lowB2 (w : World) (A B : Obj) : ((w.alloc A).alloc B).heap[w.heap.size]? = some A := (Below.heap_alloc _ _ _ (by simp)).trans (heap_alloc_new w A)
end Go.Proofs.Ytjlocbimkfocnaa

namespace Go.Proofs.Ytjlocbimkfocnaa
open Go.RowKit

theorem newB1 (w : World) (A : Obj) : (w.alloc A).heap[w.heap.size]? = some A := heap_alloc_new w A
theorem kb1 {w5 W : World} {A : Prop} (h : Below w5.heap.size w5 W ∧ A) : Below w5.heap.size w5 W := h.1
theorem kb2 {w5 W W' : World} {A : Prop} (h : Below w5.heap.size w5 W ∧ A) (b : Below W.heap.size W W') : Below w5.heap.size w5 W' := h.1.trans (b.mono h.1.size)
theorem keep4 {w5 W : World} {b0 o0 b1 o1 b2 o2 b3 o3 : Nat} {v0 v1 v2 v3 : Value} (h0 : b0 < w5.heap.size) (h1 : b1 < w5.heap.size) (h2 : b2 < w5.heap.size) (h3 : b3 < w5.heap.size)
    (c0 : w5.cell? ⟨b0, o0, none⟩ = some v0) (c1 : w5.cell? ⟨b1, o1, none⟩ = some v1) (c2 : w5.cell? ⟨b2, o2, none⟩ = some v2) (c3 : w5.cell? ⟨b3, o3, none⟩ = some v3) (hb : Below w5.heap.size w5 W) :
    Below w5.heap.size w5 W ∧ W.cell? ⟨b0, o0, none⟩ = some v0 ∧ W.cell? ⟨b1, o1, none⟩ = some v1 ∧ W.cell? ⟨b2, o2, none⟩ = some v2 ∧ W.cell? ⟨b3, o3, none⟩ = some v3 :=
  ⟨hb, (hb.cell (p := ⟨b0, o0, none⟩) h0).trans c0, (hb.cell (p := ⟨b1, o1, none⟩) h1).trans c1, (hb.cell (p := ⟨b2, o2, none⟩) h2).trans c2, (hb.cell (p := ⟨b3, o3, none⟩) h3).trans c3⟩
end Go.Proofs.Ytjlocbimkfocnaa

namespace Go.Proofs.Ytjlocbimkfocnaa
open Go.RowKit

theorem wpList_app1x {P : Program} {α : Type} {enc : α → List Value} {k : Nat} (hk : ∀ x, (enc x).length = k) (h0 : 0 < k) {ops : Array Oper} {rest : List Oper} {o : Oper} {a : Act} {Q : Exit → Act → World → Prop}
    (E T : TypeId) (i : TypeInfo) (z : Value) (bytes : Nat) (ht : P.underlying T = some (.slice E)) (hi : P.info? E = some i) (hz : i.zero = some z) (hsize : i.size = k) (hby : i.bytes = bytes) (hzs : z.cells.size = k) (hb : bytes ≤ 1000)
    (w : World) (x : α) (h1 : ∀ u ∈ enc x, u.oneCell' = true) (hgd : o.guard = none) (s xo : Operand) (ho : o.op = .call { callee := .builtin .append, args := #[s, xo], argTypes := #[T, T] })
    (base : Nat) (v : Value) (xs : List α) (n : Nat) (hn : Hid (n = xs.length)) (hs : a.eval s = v) (hown : Ow enc k E base w v xs) (hx : a.eval xo = .slice (some ⟨w.heap.size, 0, none⟩) 1 1) (hlen : n ≤ 2000000) (hbase : base ≤ w.heap.size)
    (h : ∀ a' c' w', Ow enc k E base w' (.slice a' (n + 1) c') (xs ++ [x]) → w.grownBy w' v.ownBlock → wpList P ops Q rest (a.put o.dst (.slice a' (n + 1) c')) w') :
    wpList P ops Q (o :: rest) a (w.alloc (.cells (enc x).toArray E)) := by
  obtain rfl := unhide hn
  refine wpList_append_own _ hgd s xo T ho base E i z k bytes ht hi hz hsize hby hzs h0 v xs.length (xs.flatMap enc) hs (World.ownsRow.alloc hown _) ⟨w.heap.size, 0, none⟩ 1 1 (enc x) hx (by rw [hk]; omega) ?_ h1 (by unfold maxLen; omega) ?_ (by simp; omega) ?_
  · intro j u hj
    have e : (⟨w.heap.size, 0, none⟩ : Addr).add j = ⟨w.heap.size, j, none⟩ := by unfold Addr.add; split <;> simp_all
    rw [e]
    have : (w.alloc (.cells (enc x).toArray E)).heap[w.heap.size]? = some (.cells (enc x).toArray E (0, 0)) := heap_alloc_new w _
    simp only [World.cell?, this]
    simpa using hj
  · have : (xs.length + 1) * bytes ≤ 2000001 * 1000 := Nat.mul_le_mul (by omega) hb
    omega
  · intro v' w' h2 h3 _
    have hO : Ow enc k E base w' v' (xs ++ [x]) := by
      unfold Ow
      rw [List.length_append, List.flatMap_append]
      simpa using h2
    obtain ⟨a', c', rfl⟩ := hO.form
    rw [List.length_append] at hO ⊢
    exact h a' c' w' hO (by
      have g0 := World.grownBy_alloc w (.cells (enc x).toArray E) v.ownBlock
      exact ⟨h3.os.trans g0.os, h3.tape.trans g0.tape, h3.output.trans g0.output, Nat.le_trans g0.size h3.size, fun i hi hne => (h3.block i (Nat.lt_of_lt_of_le hi g0.size) hne).trans (g0.block i hi hne)⟩)
theorem wpList_app1 {P : Program} {α : Type} {enc : α → List Value} {k : Nat} (hk : ∀ x, (enc x).length = k) (h0 : 0 < k) (h1 : ∀ x, ∀ u ∈ enc x, u.oneCell' = true) {ops : Array Oper} {rest : List Oper} {o : Oper} {a : Act} {Q : Exit → Act → World → Prop}
    (E T : TypeId) (i : TypeInfo) (z : Value) (bytes : Nat) (ht : P.underlying T = some (.slice E)) (hi : P.info? E = some i) (hz : i.zero = some z) (hsize : i.size = k) (hby : i.bytes = bytes) (hzs : z.cells.size = k) (hb : bytes ≤ 1000)
    (w : World) (x : α) (hgd : o.guard = none) (s xo : Operand) (ho : o.op = .call { callee := .builtin .append, args := #[s, xo], argTypes := #[T, T] })
    (base : Nat) (v : Value) (xs : List α) (n : Nat) (hn : Hid (n = xs.length)) (hs : a.eval s = v) (hown : Ow enc k E base w v xs) (hx : a.eval xo = .slice (some ⟨w.heap.size, 0, none⟩) 1 1) (hlen : n ≤ 2000000) (hbase : base ≤ w.heap.size)
    (h : ∀ a' c' w', Ow enc k E base w' (.slice a' (n + 1) c') (xs ++ [x]) → w.grownBy w' v.ownBlock → wpList P ops Q rest (a.put o.dst (.slice a' (n + 1) c')) w') :
    wpList P ops Q (o :: rest) a (w.alloc (.cells (enc x).toArray E)) := wpList_app1x hk h0 E T i z bytes ht hi hz hsize hby hzs hb w x (h1 x) hgd s xo ho base v xs n hn hs hown hx hlen hbase h
/-- A row and a variable of another type are not one block. -/
theorem own_ne {base : Nat} {e T : TypeId} {k : Nat} {w : World} {v : Value} {n : Nat} {xs : List Value} {g : Nat} {cs : Array Value} {fz : Nat × Nat} (h : w.ownsRow base e k v n xs) (hg : w.heap[g]? = some (.cells cs T fz)) (hne : e ≠ T) : v.ownBlock ≠ some g := by
  intro q
  rcases h.2 with ⟨rfl, _⟩ | ⟨g', cap, cur, rfl, _, hh, _⟩
  · cases q
  · simp only [Value.ownBlock, Option.some.injEq] at q
    subst q
    rw [hh] at hg
    simp at hg
    exact hne hg.2.1
theorem oneI (x : Int × Int × Int × Int × Int × ByteArray) : ∀ u ∈ ([.int .i64 x.1, .int .i64 x.2.1, .int .i64 x.2.2.1, .int .i64 x.2.2.2.1, .int .i64 x.2.2.2.2.1, .string x.2.2.2.2.2] : List Value), u.oneCell' = true := by
  intro u hu
  simp at hu
  rcases hu with rfl | rfl | rfl | rfl | rfl | rfl <;> rfl
theorem oneF (x : Int × Int) : ∀ u ∈ ([.int .i64 x.1, .int .i64 x.2] : List Value), u.oneCell' = true := by
  intro u hu
  simp at hu
  rcases hu with rfl | rfl <;> rfl
end Go.Proofs.Ytjlocbimkfocnaa

namespace Go.Proofs.Ytjlocbimkfocnaa
open Go.RowKit

theorem step_app1x {P : Program} {α : Type} {enc : α → List Value} {k : Nat} (hk : ∀ x, (enc x).length = k) (h0 : 0 < k) {ops : Array Oper} {o : Oper} {a : Act} {K : Act → World → Prop} {Q : Exit → Act → World → Prop} {R : Prop}
    (E T : TypeId) (i : TypeInfo) (z : Value) (bytes : Nat) (ht : P.underlying T = some (.slice E)) (hi : P.info? E = some i) (hz : i.zero = some z) (hsize : i.size = k) (hby : i.bytes = bytes) (hzs : z.cells.size = k) (hb : bytes ≤ 1000)
    (w : World) (x : α) (h1 : ∀ u ∈ enc x, u.oneCell' = true) (hgd : o.guard = none) (s xo : Operand) (ho : o.op = .call { callee := .builtin .append, args := #[s, xo], argTypes := #[T, T] })
    (base : Nat) (v : Value) (xs : List α) (n : Nat) (hn : Hid (n = xs.length)) (hs : a.eval s = v) (hown : Ow enc k E base w v xs) (hx : a.eval xo = .slice (some ⟨w.heap.size, 0, none⟩) 1 1) (hlen : n ≤ 20000000) (hbase : base ≤ w.heap.size)
    (h : ∀ a' c' w', Ow enc k E base w' (.slice a' (n + 1) c') (xs ++ [x]) → w.grownBy w' v.ownBlock → K (a.put o.dst (.slice a' (n + 1) c')) w') :
    if Region.wanted o (yielded ops a.tmps) = true then Oper.wp P o a (w.alloc (.cells (enc x).toArray E)) K Q else R := by
  obtain rfl := unhide hn
  refine step_append_lies _ hgd s xo T ho base E i z k bytes ht hi hz hsize hby hzs h0 v xs.length (xs.flatMap enc) hs (World.ownsRow.alloc hown _) ⟨w.heap.size, 0, none⟩ 1 1 (enc x) hx (by rw [hk]; omega) ?_ h1 (by omega) (by unfold maxLen; omega) ?_ (by simp; omega) _ rfl ?_
  · intro j u hj
    have e : (⟨w.heap.size, 0, none⟩ : Addr).add j = ⟨w.heap.size, j, none⟩ := by unfold Addr.add; split <;> simp_all
    rw [e]
    have : (w.alloc (.cells (enc x).toArray E)).heap[w.heap.size]? = some (.cells (enc x).toArray E (0, 0)) := heap_alloc_new w _
    simp only [World.cell?, this]
    simpa using hj
  · have : (xs.length + 1) * bytes ≤ 20000001 * 1000 := Nat.mul_le_mul (by omega) hb
    omega
  · intro g cap w' h2 h3 _ _
    have hO : Ow enc k E base w' (.slice (some ⟨g, 0, none⟩) (xs.length + 1) cap) (xs ++ [x]) := by
      unfold Ow
      rw [List.length_append, List.flatMap_append]
      simpa using h2
    exact h _ _ w' hO (by
      have g0 := World.grownBy_alloc w (.cells (enc x).toArray E) v.ownBlock
      exact ⟨h3.os.trans g0.os, h3.tape.trans g0.tape, h3.output.trans g0.output, Nat.le_trans g0.size h3.size, fun i hi hne => (h3.block i (Nat.lt_of_lt_of_le hi g0.size) hne).trans (g0.block i hi hne)⟩)
theorem step_app1 {P : Program} {α : Type} {enc : α → List Value} {k : Nat} (hk : ∀ x, (enc x).length = k) (h0 : 0 < k) (h1 : ∀ x, ∀ u ∈ enc x, u.oneCell' = true) {ops : Array Oper} {o : Oper} {a : Act} {K : Act → World → Prop} {Q : Exit → Act → World → Prop} {R : Prop}
    (E T : TypeId) (i : TypeInfo) (z : Value) (bytes : Nat) (ht : P.underlying T = some (.slice E)) (hi : P.info? E = some i) (hz : i.zero = some z) (hsize : i.size = k) (hby : i.bytes = bytes) (hzs : z.cells.size = k) (hb : bytes ≤ 1000)
    (w : World) (x : α) (hgd : o.guard = none) (s xo : Operand) (ho : o.op = .call { callee := .builtin .append, args := #[s, xo], argTypes := #[T, T] })
    (base : Nat) (v : Value) (xs : List α) (n : Nat) (hn : Hid (n = xs.length)) (hs : a.eval s = v) (hown : Ow enc k E base w v xs) (hx : a.eval xo = .slice (some ⟨w.heap.size, 0, none⟩) 1 1) (hlen : n ≤ 20000000) (hbase : base ≤ w.heap.size)
    (h : ∀ a' c' w', Ow enc k E base w' (.slice a' (n + 1) c') (xs ++ [x]) → w.grownBy w' v.ownBlock → K (a.put o.dst (.slice a' (n + 1) c')) w') :
    if Region.wanted o (yielded ops a.tmps) = true then Oper.wp P o a (w.alloc (.cells (enc x).toArray E)) K Q else R := step_app1x hk h0 E T i z bytes ht hi hz hsize hby hzs hb w x (h1 x) hgd s xo ho base v xs n hn hs hown hx hlen hbase h
end Go.Proofs.Ytjlocbimkfocnaa
