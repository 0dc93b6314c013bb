/-
  Rows of elements of several cells that the call itself owns: read, stored into, made. No program here, no statement is proved here.
-/
import Derived.Test.YtbajnnpihjmjmaaRw
namespace Go.Proofs.Ytbajnnpihjmjmaa
open Go.RowKit

theorem flat_len {α : Type} {enc : α → List Value} {k : Nat} (hk : ∀ x, (enc x).length = k) : ∀ xs : List α, (xs.flatMap enc).length = xs.length * k
  | [] => by simp
  | x :: r => by
    rw [List.flatMap_cons, List.length_append, flat_len hk r, hk, List.length_cons, Nat.add_mul, Nat.one_mul, Nat.add_comm]
theorem flat_at {α : Type} {enc : α → List Value} {k : Nat} (hk : ∀ x, (enc x).length = k) : ∀ (xs : List α) (i : Nat) (x : α) (j : Nat), xs[i]? = some x → j < k → (xs.flatMap enc)[i * k + j]? = (enc x)[j]?
  | [], _, _, _, h, _ => by simp at h
  | y :: r, 0, x, j, h, hj => by
    simp at h
    subst h
    rw [List.flatMap_cons, Nat.zero_mul, Nat.zero_add, List.getElem?_append_left (by rw [hk]; exact hj)]
  | y :: r, i + 1, x, j, h, hj => by
    rw [List.flatMap_cons, List.getElem?_append_right (by rw [hk, Nat.add_mul]; omega), hk, show (i + 1) * k + j - k = i * k + j by rw [Nat.add_mul]; omega]
    exact flat_at hk r i x j (by simpa using h) hj
theorem flat_none {α : Type} {enc : α → List Value} {k : Nat} (hk : ∀ x, (enc x).length = k) (xs : List α) (m : Nat) (hm : xs.length * k ≤ m) : (xs.flatMap enc)[m]? = none := by
  rw [List.getElem?_eq_none]; rw [flat_len hk]; exact hm

/-- A list with the cells cs from place o on. -/
def setL : List Value → Nat → List Value → List Value
  | l, _, [] => l
  | l, o, c :: cs => setL (l.set o c) (o + 1) cs
theorem setL_len : ∀ (cs l : List Value) (o : Nat), (setL l o cs).length = l.length
  | [], _, _ => rfl
  | c :: cs, l, o => by rw [setL, setL_len]; simp
theorem setL_at : ∀ (cs l : List Value) (o m : Nat), (setL l o cs)[m]? = if o ≤ m ∧ m < o + cs.length ∧ m < l.length then cs[m - o]? else l[m]?
  | [], l, o, m => by rw [setL, if_neg (by simp; omega)]
  | c :: cs, l, o, m => by
    rw [setL, setL_at cs, List.length_set, List.getElem?_set]
    by_cases h1 : o = m
    · subst h1
      rw [if_neg (by omega), if_pos rfl]
      by_cases h2 : o < l.length
      · rw [if_pos h2, if_pos (by simp [h2])]; simp
      · rw [if_neg h2, if_neg (by omega), List.getElem?_eq_none (by omega)]
    · rw [if_neg h1]
      by_cases h2 : o + 1 ≤ m ∧ m < o + 1 + cs.length ∧ m < l.length
      · rw [if_pos h2, if_pos (by rw [List.length_cons]; omega), show m - o = (m - (o + 1)) + 1 by omega]; simp
      · rw [if_neg h2, if_neg (by rw [List.length_cons]; omega)]
theorem div_parts {k : Nat} (h0 : 0 < k) (m : Nat) : m = m / k * k + m % k ∧ m % k < k := ⟨by rw [Nat.mul_comm]; exact (Nat.div_add_mod m k).symm, Nat.mod_lt _ h0⟩
theorem lt_of_parts {k i q r : Nat} (hr : r < k) (h : i * k ≤ q * k + r) (h2 : q * k + r < i * k + k) : q = i := by
  have h3 : i * k + k = (i + 1) * k := by rw [Nat.add_mul, Nat.one_mul]
  have a : i ≤ q := by
    by_cases c : i ≤ q
    · exact c
    · have : (q + 1) * k ≤ i * k := Nat.mul_le_mul_right _ (by omega)
      rw [Nat.add_mul, Nat.one_mul] at this; omega
  have b : q ≤ i := by
    by_cases c : q ≤ i
    · exact c
    · have : (i + 1) * k ≤ q * k := Nat.mul_le_mul_right _ (by omega)
      omega
  omega
theorem setL_flat {α : Type} {enc : α → List Value} {k : Nat} (h0 : 0 < k) (hk : ∀ x, (enc x).length = k) (ys : List α) (i : Nat) (hi : i < ys.length) (x : α) : setL (ys.flatMap enc) (i * k) (enc x) = (ys.set i x).flatMap enc := by
  apply List.ext_getElem?
  intro m
  rw [setL_at, hk, flat_len hk]
  obtain ⟨e, hr⟩ := div_parts h0 m
  generalize hq : m / k = q at e
  generalize m % k = r at e hr
  subst e
  have hlt : ∀ a b : Nat, a < b → a * k + k ≤ b * k := fun a b h => by
    have := Nat.mul_le_mul_right k (show a + 1 ≤ b by omega)
    rw [Nat.add_mul, Nat.one_mul] at this; exact this
  by_cases h : i * k ≤ q * k + r ∧ q * k + r < i * k + k ∧ q * k + r < ys.length * k
  · rw [if_pos h]
    obtain rfl := lt_of_parts hr h.1 h.2.1
    rw [flat_at hk (ys.set q x) q x r (by simp [hi]) hr]
    congr 1; omega
  · rw [if_neg h]
    by_cases hq2 : q < ys.length
    · have hne : i ≠ q := by
        intro e; subst e
        have := hlt i ys.length hi
        omega
      rw [flat_at hk ys q ys[q] r (by simp [hq2]) hr, flat_at hk (ys.set i x) q ys[q] r (by rw [List.getElem?_set_ne hne]; simp [hq2]) hr]
    · have : ys.length * k ≤ q * k + r := Nat.le_trans (Nat.mul_le_mul_right _ (by omega)) (Nat.le_add_right _ _)
      rw [flat_none hk _ _ this, flat_none hk _ _ (by simpa using this)]

/-- A world with the cells cs stored from place o of block g on. -/
def setW : World → Nat → Nat → List Value → World
  | w, _, _, [] => w
  | w, g, o, c :: cs => setW (w.setCell ⟨g, o, none⟩ c) g (o + 1) cs
theorem setW_own {base : Nat} {e : TypeId} {k : Nat} {g n cap : Nat} : ∀ (cs : List Value) {w : World} {xs : List Value} (_ : w.ownsRow base e k (.slice (some ⟨g, 0, none⟩) n cap) n xs) (o : Nat),
    (setW w g o cs).ownsRow base e k (.slice (some ⟨g, 0, none⟩) n cap) n (setL xs o cs) ∧ w.grownBy (setW w g o cs) (some g)
  | [], w, _, h, _ => ⟨h, ⟨rfl, rfl, rfl, Nat.le_refl _, fun _ _ _ => rfl⟩⟩
  | c :: cs, w, xs, h, o => by
    obtain ⟨h1, h2⟩ := h.stored o c
    obtain ⟨h3, h4⟩ := setW_own cs h1 (o + 1)
    exact ⟨h3, h4.os.trans h2.os, h4.tape.trans h2.tape, h4.output.trans h2.output, Nat.le_trans h2.size h4.size, fun i hi hne => (h4.block i (Nat.lt_of_lt_of_le hi h2.size) hne).trans (h2.block i hi hne)⟩
theorem setW_below {B : Nat} {g : Nat} (hg : B ≤ g) : ∀ (cs : List Value) {w W : World} (_ : Below B w W) (o : Nat), Below B w (setW W g o cs)
  | [], _, _, h, _ => h
  | c :: cs, _, _, h, o => setW_below hg cs (h.setCell (p := ⟨g, o, none⟩) hg c) (o + 1)
theorem setW_size : ∀ (cs : List Value) (w : World) (g o : Nat), (setW w g o cs).heap.size = w.heap.size
  | [], _, _, _ => rfl
  | c :: cs, w, g, o => by rw [setW, setW_size]; simp

/-- The slice value v, in block 'base' or behind it, is the call's own, and reads as xs. -/
def Ow {α : Type} (enc : α → List Value) (k : Nat) (e : TypeId) (base : Nat) (w : World) (v : Value) (xs : List α) : Prop := w.ownsRow base e k v xs.length (xs.flatMap enc)
theorem Ow.rw {α : Type} {enc : α → List Value} {k : Nat} (hk : ∀ x, (enc x).length = k) {e : TypeId} {base : Nat} {w : World} {v : Value} {xs : List α} (h : Ow enc k e base w v xs) : Rw enc k w v xs := by
  rcases h.2 with ⟨rfl, h0⟩ | ⟨g, cap, cur, rfl, hb, hg, hnc, hcm, hcs, htake⟩
  · have : xs = [] := List.eq_nil_of_length_eq_zero h0
    subst this
    exact Rw.nil
  · refine ⟨_, cap, rfl, hnc, .inr ⟨g, 0, rfl, (Array.getElem?_eq_some_iff.1 hg).1, fun i x hx j hj => ?_⟩⟩
    have hi : i < xs.length := (List.getElem?_eq_some_iff.1 hx).1
    have hlt : i * k + j < xs.length * k := by
      have := Nat.mul_le_mul_right k (show i + 1 ≤ xs.length by omega)
      rw [Nat.add_mul, Nat.one_mul] at this; omega
    rw [Nat.zero_add, World.ownsRow.cellAt h (i * k + j) hlt, flat_at hk xs i x j hx hj]
theorem Ow.later {α : Type} {enc : α → List Value} {k : Nat} {e : TypeId} {base : Nat} {w w' : World} {v : Value} {xs : List α} (h : Ow enc k e base w v xs) (hb : Below w.heap.size w w') : Ow enc k e base w' v xs := owns_later h hb (Nat.le_refl _)
theorem Ow.base {α : Type} {enc : α → List Value} {k : Nat} {e : TypeId} {base base' : Nat} {w : World} {v : Value} {xs : List α} (h : Ow enc k e base w v xs) (hb : base' ≤ base) : Ow enc k e base' w v xs := owns_base h hb
/-- The shape of what is owned. -/
theorem Ow.form {α : Type} {enc : α → List Value} {k : Nat} {e : TypeId} {base : Nat} {w : World} {v : Value} {xs : List α} (h : Ow enc k e base w v xs) : ∃ a cap, v = .slice a xs.length cap := by
  rcases h.2 with ⟨rfl, h0⟩ | ⟨g, cap, cur, rfl, _⟩
  · exact ⟨none, 0, by rw [h0]⟩
  · exact ⟨_, cap, rfl⟩
theorem made_flat {α : Type} {enc : α → List Value} {k : Nat} (h0 : 0 < k) (hk : ∀ x, (enc x).length = k) (z : Array Value) (z0 : α) (hz : z.toList = enc z0) (n : Nat) : (madeCells z (n * k)).toList = (List.replicate n z0).flatMap enc := by
  have hzs : z.size = k := by rw [← hk z0, ← hz]; simp
  apply List.ext_getElem?
  intro m
  obtain ⟨e, hr⟩ := div_parts h0 m
  by_cases hm : m < n * k
  · have hq : m / k < n := Nat.div_lt_of_lt_mul (by rw [Nat.mul_comm]; exact hm)
    have e2 : (madeCells z (n * k)).toList[m]? = z[m % k]? := by
      rw [madeCells]
      simp [hm, hzs, hr, getElem!_def]
    rw [e2]
    conv => rhs; rw [e]
    rw [flat_at hk _ (m / k) z0 (m % k) (by simp [hq]) hr, ← hz]
    simp
  · rw [flat_none hk _ _ (by simp; omega), List.getElem?_eq_none (by simp [madeCells]; omega)]
theorem own_cells6 {base : Nat} {e : TypeId} {w : World} {g n cap k : Nat} {cs : List Value} (h : w.ownsRow base e 6 (.slice (some ⟨g, 0, none⟩) n cap) n cs) (hk : k < n) :
    ∃ y0 y1 y2 y3 y4 y5, w.cell? ⟨g, k * 6, none⟩ = some y0 ∧ w.cell? ⟨g, k * 6 + 1, none⟩ = some y1 ∧ w.cell? ⟨g, k * 6 + 2, none⟩ = some y2 ∧ w.cell? ⟨g, k * 6 + 3, none⟩ = some y3 ∧ w.cell? ⟨g, k * 6 + 4, none⟩ = some y4 ∧ w.cell? ⟨g, k * 6 + 5, none⟩ = some y5 ∧ ∀ o, w.frozen? ⟨g, o, none⟩ = false := by
  have hl := h.1
  have q : ∀ j, j < 6 → ∃ y, w.cell? ⟨g, k * 6 + j, none⟩ = some y := fun j hj => by
    rw [h.cellAt (k * 6 + j) (by omega)]
    exact ⟨_, List.getElem?_eq_getElem (by omega)⟩
  obtain ⟨y0, h0⟩ := q 0 (by omega); obtain ⟨y1, h1⟩ := q 1 (by omega); obtain ⟨y2, h2⟩ := q 2 (by omega); obtain ⟨y3, h3⟩ := q 3 (by omega); obtain ⟨y4, h4⟩ := q 4 (by omega); obtain ⟨y5, h5⟩ := q 5 (by omega)
  exact ⟨y0, y1, y2, y3, y4, y5, h0, h1, h2, h3, h4, h5, h.frozenAt⟩
theorem own_cells2 {base : Nat} {e : TypeId} {w : World} {g n cap k : Nat} {cs : List Value} (h : w.ownsRow base e 2 (.slice (some ⟨g, 0, none⟩) n cap) n cs) (hk : k < n) :
    ∃ y0 y1, w.cell? ⟨g, k * 2, none⟩ = some y0 ∧ w.cell? ⟨g, k * 2 + 1, none⟩ = some y1 ∧ ∀ o, w.frozen? ⟨g, o, none⟩ = false := by
  have hl := h.1
  have q : ∀ j, j < 2 → ∃ y, w.cell? ⟨g, k * 2 + j, none⟩ = some y := fun j hj => by
    rw [h.cellAt (k * 2 + j) (by omega)]
    exact ⟨_, List.getElem?_eq_getElem (by omega)⟩
  obtain ⟨y0, h0⟩ := q 0 (by omega); obtain ⟨y1, h1⟩ := q 1 (by omega)
  exact ⟨y0, y1, h0, h1, h.frozenAt⟩
/-- An element stored over another one. -/
theorem Ow.put {α : Type} {enc : α → List Value} {k : Nat} (h0 : 0 < k) (hk : ∀ x, (enc x).length = k) {e : TypeId} {base : Nat} {w : World} {g n cap : Nat} {ys : List α} (h : Ow enc k e base w (.slice (some ⟨g, 0, none⟩) n cap) ys) (hn : n = ys.length) (i : Nat) (hi : i < n) (x : α) :
    Ow enc k e base (setW w g (i * k) (enc x)) (.slice (some ⟨g, 0, none⟩) n cap) (ys.set i x) := by
  subst hn
  have := (setW_own (enc x) (show w.ownsRow base e k (.slice (some ⟨g, 0, none⟩) ys.length cap) ys.length (ys.flatMap enc) from h) (i * k)).1
  rw [setL_flat h0 hk ys i hi x] at this
  unfold Ow
  rw [List.length_set]
  exact this
theorem fill_set {α : Type} (xs : List α) (z : α) (k : Nat) (x : α) (hx : xs[k]? = some x) : (xs.take k ++ List.replicate (xs.length - k) z).set k x = xs.take (k + 1) ++ List.replicate (xs.length - (k + 1)) z := by
  obtain ⟨hk, rfl⟩ := List.getElem?_eq_some_iff.1 hx
  apply List.ext_getElem?
  intro i
  rw [List.getElem?_set]
  simp only [List.length_append, List.length_take, List.length_replicate, List.getElem?_append, List.getElem?_take, List.getElem?_replicate]
  have hm : min k xs.length = k := by omega
  have hm1 : min (k + 1) xs.length = k + 1 := by omega
  rw [hm, hm1]
  by_cases h1 : k = i
  · subst h1
    rw [if_pos rfl, if_pos (by omega), if_pos (by omega), if_pos (by omega), List.getElem?_eq_getElem hk]
  · rw [if_neg h1]
    by_cases h2 : i < k
    · rw [if_pos h2, if_pos h2, if_pos (by omega), if_pos (by omega)]
    · have e1 : ¬ i < k + 1 := by omega
      rw [if_neg h2, if_neg e1]
      by_cases h3 : i < xs.length
      · rw [if_pos (by omega), if_pos (by omega)]
      · rw [if_neg (by omega), if_neg (by omega)]
theorem fill_len {α : Type} (xs : List α) (z : α) (k : Nat) (hk : k ≤ xs.length) : (xs.take k ++ List.replicate (xs.length - k) z).length = xs.length := by simp; omega
theorem owns_set {base : Nat} {e : TypeId} {k : Nat} {w : World} {v : Value} {n : Nat} {xs : List Value} (h : w.ownsRow base e k v n xs) (p : Addr) (hp : p.block < base) (u : Value) : (w.setCell p u).ownsRow base e k v n xs := by
  refine ⟨h.1, ?_⟩
  rcases h.2 with hn | ⟨g, cap, cur, rfl, hg, hh, r⟩
  · exact .inl hn
  · refine .inr ⟨g, cap, cur, rfl, hg, ?_, r⟩
    rw [heap_setCell_other _ _ _ _ (by omega)]
    exact hh
theorem Ow.set {α : Type} {enc : α → List Value} {k : Nat} {e : TypeId} {base : Nat} {w : World} {v : Value} {xs : List α} (h : Ow enc k e base w v xs) (p : Addr) (hp : p.block < base) (u : Value) : Ow enc k e base (w.setCell p u) v xs := owns_set h p hp u
end Go.Proofs.Ytbajnnpihjmjmaa
