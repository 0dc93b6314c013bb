/-
  Rows of rows of numbers in memory: what reads so, what the call itself owns. No program here, no statement is proved here.
-/
import Derived.Test.YtjlocbimkfocnaaIntS
import Derived.Test.YtjlocbimkfocnaaTrn
import Derived.Test.YtjlocbimkfocnaaTbP
namespace Go.Proofs.Ytjlocbimkfocnaa
open Go.RowKit

def encV (v : Value) : List Value := [v]
theorem encV_len (v : Value) : (encV v).length = 1 := rfl
abbrev OwR (base : Nat) (w : World) (v : Value) (ps : List Value) : Prop := Ow encV 1 35 base w v ps
/-- A slice without a block has no room. -/
def nilV (p : Value) : Prop := ∀ n c, p = .slice none n c → c = 0

/-- The inner rows, read. -/
structure InsG (w : World) (ps : List Value) (t : Tb) : Prop where
  len : ps.length = t.length
  ins : ∀ (i : Nat) (p : Value) (r : List Int), ps[i]? = some p → t[i]? = some r → RwN w p r ∧ nilV p
theorem InsG.later {w w' : World} {ps : List Value} {t : Tb} (h : InsG w ps t) (hb : Below w.heap.size w w') : InsG w' ps t := ⟨h.len, fun i p r hp hr => ⟨(h.ins i p r hp hr).1.later hb, (h.ins i p r hp hr).2⟩⟩
/-- The slice value v reads as the table t. -/
def RwG (w : World) (v : Value) (t : Tb) : Prop := ∃ ps, Rw encV 1 w v ps ∧ InsG w ps t
theorem RwG.later {w w' : World} {v : Value} {t : Tb} (h : RwG w v t) (hb : Below w.heap.size w w') : RwG w' v t := by
  obtain ⟨ps, h1, h2⟩ := h
  exact ⟨ps, h1.later hb, h2.later hb⟩
theorem RwG.alloc {w : World} {v : Value} {t : Tb} (h : RwG w v t) (o : Obj) : RwG (w.alloc o) v t := h.later ((Below.refl _ _).alloc (Nat.le_refl _) o)
theorem RwG.len {w : World} {a : Option Addr} {n cap : Nat} {t : Tb} (h : RwG w (.slice a n cap) t) : n = t.length ∧ n ≤ cap := by
  obtain ⟨ps, h1, h2⟩ := h
  exact ⟨h1.len.1.trans h2.len, h1.len.2⟩
theorem Rw.formG {α : Type} {enc : α → List Value} {k : Nat} {w : World} {v : Value} {xs : List α} (h : Rw enc k w v xs) : ∃ a n c, v = .slice a n c ∧ n = xs.length := by
  obtain ⟨a, cap, rfl, -⟩ := h
  exact ⟨a, _, cap, rfl, rfl⟩
/-- A row that is read: where it lies. -/
theorem RwG.at {w : World} {a : Option Addr} {n cap : Nat} {t : Tb} (h : RwG w (.slice a n cap) t) {i : Nat} (hi : i < n) :
    ∃ r ai ni ci b off, t[i]? = some r ∧ a = some ⟨b, off, none⟩ ∧ b < w.heap.size ∧ n ≤ cap ∧ w.cell? ⟨b, off + i, none⟩ = some (.slice ai ni ci) ∧ RwN w (.slice ai ni ci) r ∧ (ai = none → ci = 0) := by
  obtain ⟨ps, h1, h2⟩ := h
  obtain ⟨p, b, off, hp, ha, hb, hcap, hc⟩ := h1.at hi
  have hl := h1.len.1
  obtain ⟨r, hr⟩ : ∃ r, t[i]? = some r := ⟨_, List.getElem?_eq_getElem (by have := h2.len; omega)⟩
  obtain ⟨r1, r2⟩ := h2.ins i _ _ hp hr
  obtain ⟨ai, ni, ci, rfl, -⟩ := r1.formG
  have c0 := hc 0 (by omega)
  rw [Nat.mul_one, Nat.add_zero] at c0
  exact ⟨r, ai, ni, ci, b, off, hr, ha, hb, hcap, c0, r1, fun e => r2 ni ci (by rw [e])⟩

/-- How many numbers there are in all. -/
def totG : Tb → Nat
  | [] => 0
  | r :: t => r.length + totG t
theorem totG_app : ∀ (a b : Tb), totG (a ++ b) = totG a + totG b
  | [], b => by simp [totG]
  | s :: r, b => by rw [List.cons_append, totG, totG, totG_app r b]; omega
theorem totG_at : ∀ {t : Tb} {i : Nat} {r : List Int}, t[i]? = some r → totG (t.take i) + r.length + totG (t.drop (i + 1)) = totG t
  | [], i, s, h => by simp at h
  | x :: r, 0, s, h => by simp at h; subst h; simp [totG]
  | x :: r, i + 1, s, h => by
    have := totG_at (t := r) (i := i) (r := s) (by simpa using h)
    simp only [List.take_succ_cons, List.drop_succ_cons, totG]; omega
theorem takeG {α : Type} {xs : List α} {k : Nat} {x : α} (h : xs[k]? = some x) : xs.take (k + 1) = xs.take k ++ [x] := by
  rw [List.take_add_one, h]; rfl

/-- The inner rows of a table of the call's own: in blocks from lo on, ahead of hi, no two in one block. -/
structure PaG (lo hi : Nat) (w : World) (ps : List Value) (t : Tb) : Prop where
  len : ps.length = t.length
  ins : ∀ (i : Nat) (p : Value) (r : List Int), ps[i]? = some p → t[i]? = some r → OwN lo w p r
  top : ∀ p ∈ ps, ∀ g, p.ownBlock = some g → g < hi
  apt : ps.Pairwise fun p q => ∀ g, p.ownBlock = some g → q.ownBlock ≠ some g
theorem PaG.nil (lo hi : Nat) (w : World) : PaG lo hi w [] [] := ⟨rfl, fun i p s h => by simp at h, fun p h => by simp at h, .nil⟩
theorem PaG.later {lo hi : Nat} {w w' : World} {ps : List Value} {t : Tb} (h : PaG lo hi w ps t) (hb : Below w.heap.size w w') : PaG lo hi w' ps t :=
  ⟨h.len, fun i p s hp hs => (h.ins i p s hp hs).later hb, h.top, h.apt⟩
theorem Ow.nilV {E : TypeId} {base : Nat} {w : World} {p : Value} {ns : List Int} (h : Ow encN 1 E base w p ns) : nilV p := by
  rintro n c rfl
  rcases h.2 with ⟨e, _⟩ | ⟨g, cap, cur, e, _⟩
  · simp at e; exact e.2
  · simp at e
theorem PaG.rw {lo hi : Nat} {w : World} {ps : List Value} {t : Tb} (h : PaG lo hi w ps t) : InsG w ps t := ⟨h.len, fun i p s hp hs => ⟨(h.ins i p s hp hs).rw encN_len, (h.ins i p s hp hs).nilV⟩⟩
theorem PaG.trn {S : Nat → Prop} {lo hi : Nat} {w w' : World} {ps : List Value} {t : Tb} (h : PaG lo hi w ps t) (tr : Trn S w w') (hs : ∀ i, S i → ¬ (lo ≤ i ∧ i < hi)) : PaG lo hi w' ps t := by
  refine ⟨h.len, fun i p s hp hq => ?_, h.top, h.apt⟩
  have h1 := h.ins i p s hp hq
  exact tr.own h1 (fun g hg k => hs g k ⟨(World.ownsRow.lt h1 _ hg).1, h.top p (List.mem_of_getElem? hp) g hg⟩)
/-- A write into a block of another type. -/
theorem Ow.apartT {α : Type} {enc : α → List Value} {k : Nat} {E T : TypeId} {base : Nat} {w w' : World} {v : Value} {xs : List α} {b : Option Nat} (h : Ow enc k E base w v xs) (hb : ∀ g, b = some g → ∃ cs fz, w.heap[g]? = some (.cells cs T fz)) (hne : E ≠ T) (hg : w.grownBy w' b) : Ow enc k E base w' v xs := by
  refine (Trn.of_grown hg).own h (fun i hi q => ?_)
  obtain ⟨cs, fz, hb⟩ := hb i q
  rcases h.2 with ⟨rfl, _⟩ | ⟨g', cap, cur, rfl, _, hh, _⟩
  · cases hi
  · simp only [Value.ownBlock, Option.some.injEq] at hi
    subst hi
    rw [hh] at hb
    simp at hb
    exact hne hb.2.1
/-- The block of an owned row, where it has one. -/
theorem Ow.blkT {α : Type} {enc : α → List Value} {k : Nat} {E : TypeId} {base : Nat} {w : World} {v : Value} {xs : List α} (h : Ow enc k E base w v xs) : ∀ g, v.ownBlock = some g → ∃ cs fz, w.heap[g]? = some (.cells cs E fz) := by
  intro g hg
  rcases h.2 with ⟨rfl, _⟩ | ⟨g', cap, cur, rfl, _, hh, _⟩
  · cases hg
  · simp only [Value.ownBlock, Option.some.injEq] at hg
    subst hg
    exact ⟨_, _, hh⟩
theorem PaG.other {lo hi : Nat} {w w' : World} {ps : List Value} {t : Tb} {b : Option Nat} {T : TypeId} (h : PaG lo hi w ps t) (hb : ∀ g, b = some g → ∃ cs fz, w.heap[g]? = some (.cells cs T fz)) (hT : 3 ≠ T) (hg : w.grownBy w' b) : PaG lo hi w' ps t :=
  ⟨h.len, fun i p s hp hs => (h.ins i p s hp hs).apartT hb hT hg, h.top, h.apt⟩
theorem PaG.snoc {lo hi B hi' : Nat} {w : World} {ps : List Value} {t : Tb} {p : Value} {r : List Int} (h : PaG lo hi w ps t) (h1 : OwN B w p r) (hB : hi ≤ B) (hlo : lo ≤ B) (hh : w.heap.size ≤ hi') (hhi : hi ≤ hi') : PaG lo hi' w (ps ++ [p]) (t ++ [r]) := by
  refine ⟨by simp [h.len], fun i q s hq hs => ?_, fun q hq g hg => ?_, ?_⟩
  · by_cases hi : i < ps.length
    · rw [List.getElem?_append_left hi] at hq
      rw [List.getElem?_append_left (by rw [← h.len]; exact hi)] at hs
      exact h.ins i q s hq hs
    · rw [List.getElem?_append_right (by omega)] at hq
      rw [List.getElem?_append_right (by rw [← h.len]; omega), ← h.len] at hs
      have e : i - ps.length = 0 := by
        have := (List.getElem?_eq_some_iff.1 hq).1
        simp at this; omega
      rw [e] at hq hs
      simp at hq hs
      subst hq hs
      exact h1.base hlo
  · rcases List.mem_append.1 hq with hq | hq
    · have := h.top q hq g hg; omega
    · simp at hq; subst hq
      have := (World.ownsRow.lt h1 _ hg).2; omega
  · refine List.pairwise_append.2 ⟨h.apt, by simp, fun q hq s hs => ?_⟩
    simp at hs
    subst hs
    intro g hg k
    have a := h.top q hq g hg
    have b := (World.ownsRow.lt h1 _ k).1
    omega
theorem PaG.mono {lo hi lo' hi' : Nat} {w : World} {ps : List Value} {t : Tb} (h : PaG lo hi w ps t) (h1 : lo' ≤ lo) (h2 : hi ≤ hi') : PaG lo' hi' w ps t :=
  ⟨h.len, fun i p s hp hs => (h.ins i p s hp hs).base h1, fun p hp g hg => Nat.lt_of_lt_of_le (h.top p hp g hg) h2, h.apt⟩
/-- One of the rows is turned, in its own block. -/
theorem PaG.turn {lo hi : Nat} {w w' : World} {ps : List Value} {t : Tb} {k : Nat} {p : Value} {r : List Int} (h : PaG lo hi w ps t) (hp : ps[k]? = some p) (hg : w.grownBy w' p.ownBlock) (ho : OwN lo w' p r) : PaG lo hi w' ps (t.set k r) := by
  refine ⟨by simp [h.len], fun i q s hq hs => ?_, h.top, h.apt⟩
  rw [List.getElem?_set] at hs
  split at hs
  · rename_i e
    subst e
    rw [hp] at hq
    cases hq
    split at hs
    · cases hs; exact ho
    · cases hs
  · rename_i e
    refine (Trn.of_grown hg).own (h.ins i q s hq hs) (fun g h1 h2 => ?_)
    have hi := (List.getElem?_eq_some_iff.1 hq).1
    have hk := (List.getElem?_eq_some_iff.1 hp).1
    have ap := List.pairwise_iff_getElem.1 h.apt
    obtain ⟨_, eq⟩ := List.getElem?_eq_some_iff.1 hq
    obtain ⟨_, ep⟩ := List.getElem?_eq_some_iff.1 hp
    rcases Nat.lt_or_gt_of_ne e with l | l
    · exact ap k i hk hi l g (by rw [ep]; exact h2) (by rw [eq]; exact h1)
    · exact ap i k hi hk l g (by rw [eq]; exact h1) (by rw [ep]; exact h2)

/-- A table of the call's own, with all that is in it. -/
structure OwG (lo hi : Nat) (w : World) (v : Value) (t : Tb) : Prop where
  own : ∃ ps, OwR lo w v ps ∧ PaG lo hi w ps t
  top : ∀ g, v.ownBlock = some g → g < hi
theorem OwG.later {lo hi : Nat} {w w' : World} {v : Value} {t : Tb} (h : OwG lo hi w v t) (hb : Below w.heap.size w w') : OwG lo hi w' v t := by
  obtain ⟨ps, h1, h2⟩ := h.own
  exact ⟨⟨ps, h1.later hb, h2.later hb⟩, h.top⟩
theorem OwG.rw {lo hi : Nat} {w : World} {v : Value} {t : Tb} (h : OwG lo hi w v t) : RwG w v t := by
  obtain ⟨ps, h1, h2⟩ := h.own
  exact ⟨ps, h1.rw encV_len, h2.rw⟩
theorem OwG.mono {lo hi lo' hi' : Nat} {w : World} {v : Value} {t : Tb} (h : OwG lo hi w v t) (h1 : lo' ≤ lo) (h2 : hi ≤ hi') : OwG lo' hi' w v t := by
  obtain ⟨ps, k1, k2⟩ := h.own
  exact ⟨⟨ps, k1.base h1, k2.mono h1 h2⟩, fun g hg => Nat.lt_of_lt_of_le (h.top g hg) h2⟩
theorem OwG.trn {S : Nat → Prop} {lo hi : Nat} {w w' : World} {v : Value} {t : Tb} (h : OwG lo hi w v t) (tr : Trn S w w') (hs : ∀ i, S i → ¬ (lo ≤ i ∧ i < hi)) : OwG lo hi w' v t := by
  obtain ⟨ps, k1, k2⟩ := h.own
  exact ⟨⟨ps, tr.own k1 (fun i hi q => hs i q ⟨(World.ownsRow.lt k1 _ hi).1, h.top i hi⟩), k2.trn tr hs⟩, h.top⟩
theorem OwG.nil (lo hi : Nat) (w : World) : OwG lo hi w (.slice none 0 0) [] := ⟨⟨[], World.ownsRow_nil _ _ _ _, PaG.nil _ _ _⟩, fun g hg => by cases hg⟩
/-- A number of an owned table: where it lies, and the table with another one there. -/
theorem OwG.slot {lo hi n c : Nat} {a : Option Addr} {w : World} {t : Tb} (h : OwG lo hi w (.slice a n c) t) {k : Nat} {r : List Int} (hr : t[k]? = some r) :
    ∃ ob ar cr, a = some ⟨ob, 0, none⟩ ∧ n ≤ c ∧ ob < w.heap.size ∧ w.cell? ⟨ob, k, none⟩ = some (.slice ar r.length cr) ∧ OwN lo w (.slice ar r.length cr) r ∧ (∀ g, (Value.slice ar r.length cr).ownBlock = some g → g < hi) ∧
      ∀ (w' : World) (r' : List Int), w.grownBy w' (Value.slice ar r.length cr).ownBlock → OwN lo w' (.slice ar r.length cr) r' → OwG lo hi w' (.slice a n c) (t.set k r') := by
  obtain ⟨ps, h1, h2⟩ := h.own
  have hk := (List.getElem?_eq_some_iff.1 hr).1
  have hn := (h1.rw encV_len).len
  obtain ⟨p, b, off, hp, ha, hb, hcap, hc⟩ := (h1.rw encV_len).at (i := k) (by have := h2.len; omega)
  have ho := h2.ins k p r hp hr
  obtain ⟨ar, cr, rfl⟩ := ho.form
  have c0 := hc 0 (by omega)
  rw [Nat.mul_one, Nat.add_zero] at c0
  have e0 : off = 0 := by
    rcases h1.2 with ⟨hh, _⟩ | ⟨g, cap, cur, hh, _⟩
    · simp only [Value.slice.injEq] at hh
      rw [ha] at hh; cases hh.1
    · simp only [Value.slice.injEq] at hh
      rw [ha] at hh
      simp only [Option.some.injEq, Addr.mk.injEq] at hh
      exact hh.1.2.1
  subst e0
  rw [Nat.zero_add] at c0
  refine ⟨b, ar, cr, ha, hn.2, hb, c0, ho, h2.top _ (List.mem_of_getElem? hp), fun w' r' hg ho' => ⟨⟨ps, ?_, h2.turn hp hg ho'⟩, h.top⟩⟩
  exact h1.apartT (T := 3) ho.blkT (by decide) hg
end Go.Proofs.Ytjlocbimkfocnaa
