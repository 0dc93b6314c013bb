/-
  Logs: plain lists of states; how a row of states lies in memory. No program here, no statement is proved here.
-/
import Derived.Test.YtdpaocikmijioacStA
import Derived.Test.YtdpaocikmijioacStM
import Derived.Test.YtdpaocikmijioacStOkP
import Derived.Test.YtdpaocikmijioacStO
namespace Go.Proofs.Ytdpaocikmijioac
open Go.RowKit

abbrev Sta := List Itm × List Flr
abbrev Two := Value × Value
def encS (p : Two) : List Value := [p.1, p.2]
theorem encS_len (p : Two) : (encS p).length = 2 := rfl
theorem oneS (p : Two) (h1 : p.1.oneCell' = true) (h2 : p.2.oneCell' = true) : ∀ u ∈ encS p, u.oneCell' = true := by
  intro u hu
  simp [encS] at hu
  rcases hu with rfl | rfl
  · exact h1
  · exact h2
abbrev OwV (base : Nat) (w : World) (v : Value) (ps : List Two) : Prop := Ow encS 2 30 base w v ps

/-- The rows of the states, read. -/
structure Ins (w : World) (ps : List Two) (ss : List Sta) : Prop where
  len : ps.length = ss.length
  ins : ∀ (i : Nat) (p : Two) (s : Sta), ps[i]? = some p → ss[i]? = some s → Rw encI 6 w p.1 s.1 ∧ Rw encF 2 w p.2 s.2
theorem Ins.later {w w' : World} {ps : List Two} {ss : List Sta} (h : Ins w ps ss) (hb : Below w.heap.size w w') : Ins w' ps ss := ⟨h.len, fun i p s hp hs => ⟨(h.ins i p s hp hs).1.later hb, (h.ins i p s hp hs).2.later hb⟩⟩
/-- The slice value v reads as the states ss. -/
def RwS (w : World) (v : Value) (ss : List Sta) : Prop := ∃ ps, Rw encS 2 w v ps ∧ Ins w ps ss
theorem RwS.later {w w' : World} {v : Value} {ss : List Sta} (h : RwS w v ss) (hb : Below w.heap.size w w') : RwS w' v ss := by
  obtain ⟨ps, h1, h2⟩ := h
  exact ⟨ps, h1.later hb, h2.later hb⟩
theorem RwS.alloc {w : World} {v : Value} {ss : List Sta} (h : RwS w v ss) (o : Obj) : RwS (w.alloc o) v ss := h.later ((Below.refl _ _).alloc (Nat.le_refl _) o)
theorem RwS.len {w : World} {a : Option Addr} {n cap : Nat} {ss : List Sta} (h : RwS w (.slice a n cap) ss) : n = ss.length ∧ n ≤ cap := by
  obtain ⟨ps, h1, h2⟩ := h
  exact ⟨h1.len.1.trans h2.len, h1.len.2⟩
theorem Rw.form {α : Type} {enc : α → List Value} {k : Nat} {w : World} {v : Value} {xs : List α} (h : Rw enc k w v xs) : ∃ a n c, v = .slice a n c ∧ n = xs.length := by
  obtain ⟨a, cap, rfl, -⟩ := h
  exact ⟨a, _, cap, rfl, rfl⟩
/-- A state that is read: where it lies. -/
theorem RwS.at {w : World} {a : Option Addr} {n cap : Nat} {ss : List Sta} (h : RwS w (.slice a n cap) ss) {i : Nat} (hi : i < n) :
    ∃ xs fs ai ni ci af nf cf b off, ss[i]? = some (xs, fs) ∧ a = some ⟨b, off, none⟩ ∧ b < w.heap.size ∧ n ≤ cap ∧ w.cell? ⟨b, off + i * 2, none⟩ = some (.slice ai ni ci) ∧ w.cell? ⟨b, off + i * 2 + 1, none⟩ = some (.slice af nf cf) ∧ Rw encI 6 w (.slice ai ni ci) xs ∧ Rw encF 2 w (.slice af nf cf) fs := by
  obtain ⟨ps, h1, h2⟩ := h
  obtain ⟨⟨v1, v2⟩, b, off, hp, ha, hb, hcap, hc⟩ := h1.at hi
  have hl := h1.len.1
  obtain ⟨⟨xs, fs⟩, hs⟩ : ∃ s, ss[i]? = some s := ⟨_, List.getElem?_eq_getElem (by have := h2.len; omega)⟩
  obtain ⟨r1, r2⟩ := h2.ins i _ _ hp hs
  obtain ⟨ai, ni, ci, e1, -⟩ := r1.form
  obtain ⟨af, nf, cf, e2, -⟩ := r2.form
  simp only at r1 r2 e1 e2
  subst e1 e2
  exact ⟨xs, fs, ai, ni, ci, af, nf, cf, b, off, hs, ha, hb, hcap, hc 0 (by omega), hc 1 (by omega), r1, r2⟩

/-- How much there is in all. -/
def tot : List Sta → Nat
  | [] => 0
  | s :: r => s.1.length + s.2.length + tot r
theorem tot_app : ∀ (a b : List Sta), tot (a ++ b) = tot a + tot b
  | [], b => by simp [tot]
  | s :: r, b => by rw [List.cons_append, tot, tot, tot_app r b]; omega
theorem tot_at : ∀ {ss : List Sta} {i : Nat} {s : Sta}, ss[i]? = some s → tot (ss.take i) + (s.1.length + s.2.length) + tot (ss.drop (i + 1)) = tot ss
  | [], i, s, h => by simp at h
  | x :: r, 0, s, h => by simp at h; subst h; simp [tot]
  | x :: r, i + 1, s, h => by
    have := tot_at (ss := r) (i := i) (s := s) (by simpa using h)
    simp only [List.take_succ_cons, List.drop_succ_cons, tot]; omega
theorem take_at {α : Type} {xs : List α} {k : Nat} {x : α} (h : xs[k]? = some x) : xs.take (k + 1) = xs.take k ++ [x] := by
  rw [List.take_add_one, h]; rfl

/-- The inner rows of states of the call's own: in blocks from lo on, ahead of hi, no two in one block. -/
structure Pa (lo hi : Nat) (w : World) (ps : List Two) (ss : List Sta) : Prop where
  len : ps.length = ss.length
  ins : ∀ (i : Nat) (p : Two) (s : Sta), ps[i]? = some p → ss[i]? = some s → OwI lo w p.1 s.1 ∧ OwF lo w p.2 s.2
  top : ∀ p ∈ ps, ∀ g, (p.1.ownBlock = some g ∨ p.2.ownBlock = some g) → g < hi
  apt : ps.Pairwise fun p q => (∀ g, p.1.ownBlock = some g → q.1.ownBlock ≠ some g) ∧ (∀ g, p.2.ownBlock = some g → q.2.ownBlock ≠ some g)
theorem Pa.nil (lo hi : Nat) (w : World) : Pa lo hi w [] [] := ⟨rfl, fun i p s h => by simp at h, fun p h => by simp at h, .nil⟩
theorem Pa.later {lo hi : Nat} {w w' : World} {ps : List Two} {ss : List Sta} (h : Pa lo hi w ps ss) (hb : Below w.heap.size w w') : Pa lo hi w' ps ss :=
  ⟨h.len, fun i p s hp hs => ⟨(h.ins i p s hp hs).1.later hb, (h.ins i p s hp hs).2.later hb⟩, h.top, h.apt⟩
theorem Pa.rw {lo hi : Nat} {w : World} {ps : List Two} {ss : List Sta} (h : Pa lo hi w ps ss) : Ins w ps ss := ⟨h.len, fun i p s hp hs => ⟨(h.ins i p s hp hs).1.rw encI_len, (h.ins i p s hp hs).2.rw encF_len⟩⟩
theorem Pa.trn {S : Nat → Prop} {lo hi : Nat} {w w' : World} {ps : List Two} {ss : List Sta} (h : Pa lo hi w ps ss) (t : Trn S w w') (hs : ∀ i, S i → ¬ (lo ≤ i ∧ i < hi)) : Pa lo hi w' ps ss := by
  refine ⟨h.len, fun i p s hp hq => ?_, h.top, h.apt⟩
  obtain ⟨h1, h2⟩ := h.ins i p s hp hq
  exact ⟨t.own h1 (fun g hg k => hs g k ⟨(World.ownsRow.lt h1 _ hg).1, h.top p (List.mem_of_getElem? hp) g (.inl hg)⟩), t.own h2 (fun g hg k => hs g k ⟨(World.ownsRow.lt h2 _ hg).1, h.top p (List.mem_of_getElem? hp) g (.inr hg)⟩)⟩
/-- A write into a block of another type. -/
theorem Ow.otherT {α : Type} {enc : α → List Value} {k : Nat} {E T : TypeId} {base : Nat} {w w' : World} {v : Value} {xs : List α} {b : Option Nat} (h : Ow enc k E base w v xs) (hb : ∀ g, b = some g → ∃ cs fz, w.heap[g]? = some (.cells cs T fz)) (hne : E ≠ T) (hg : w.grownBy w' b) : Ow enc k E base w' v xs := by
  refine (Trn.of_grown hg).own h (fun i hi q => ?_)
  obtain ⟨cs, fz, hb⟩ := hb i q
  rcases h.2 with ⟨rfl, _⟩ | ⟨g', cap, cur, rfl, _, hh, _⟩
  · cases hi
  · simp only [Value.ownBlock, Option.some.injEq] at hi
    subst hi
    rw [hh] at hb
    simp at hb
    exact hne hb.2.1
theorem Pa.other {lo hi : Nat} {w w' : World} {ps : List Two} {ss : List Sta} {b : Option Nat} (h : Pa lo hi w ps ss) (hb : ∀ g, b = some g → ∃ cs fz, w.heap[g]? = some (.cells cs 30 fz)) (hg : w.grownBy w' b) : Pa lo hi w' ps ss :=
  ⟨h.len, fun i p s hp hs => ⟨(h.ins i p s hp hs).1.otherT hb (by decide) hg, (h.ins i p s hp hs).2.otherT hb (by decide) hg⟩, h.top, h.apt⟩
theorem Pa.snoc {lo hi B hi' : Nat} {w : World} {ps : List Two} {ss : List Sta} {p : Two} {s : Sta} (h : Pa lo hi w ps ss) (h1 : OwI B w p.1 s.1) (h2 : OwF B w p.2 s.2) (hB : hi ≤ B) (hlo : lo ≤ B) (hh : w.heap.size ≤ hi') (hhi : hi ≤ hi') : Pa lo hi' w (ps ++ [p]) (ss ++ [s]) := by
  refine ⟨by simp [h.len], fun i q t hq ht => ?_, fun q hq g hg => ?_, ?_⟩
  · by_cases hi : i < ps.length
    · rw [List.getElem?_append_left hi] at hq
      rw [List.getElem?_append_left (by rw [← h.len]; exact hi)] at ht
      exact h.ins i q t hq ht
    · rw [List.getElem?_append_right (by omega)] at hq
      rw [List.getElem?_append_right (by rw [← h.len]; omega), ← h.len] at ht
      have e : i - ps.length = 0 := by
        have := (List.getElem?_eq_some_iff.1 hq).1
        simp at this; omega
      rw [e] at hq ht
      simp at hq ht
      subst hq ht
      exact ⟨h1.base hlo, h2.base hlo⟩
  · rcases List.mem_append.1 hq with hq | hq
    · have := h.top q hq g hg; omega
    · simp at hq; subst hq
      rcases hg with hg | hg
      · have := (World.ownsRow.lt h1 _ hg).2; omega
      · have := (World.ownsRow.lt h2 _ hg).2; omega
  · refine List.pairwise_append.2 ⟨h.apt, by simp, fun q hq r hr => ?_⟩
    simp at hr
    subst hr
    refine ⟨fun g hg k => ?_, fun g hg k => ?_⟩
    · have a := h.top q hq g (.inl hg)
      have b := (World.ownsRow.lt h1 _ k).1
      omega
    · have a := h.top q hq g (.inr hg)
      have b := (World.ownsRow.lt h2 _ k).1
      omega
theorem Pa.mono {lo hi lo' hi' : Nat} {w : World} {ps : List Two} {ss : List Sta} (h : Pa lo hi w ps ss) (h1 : lo' ≤ lo) (h2 : hi ≤ hi') : Pa lo' hi' w ps ss :=
  ⟨h.len, fun i p s hp hs => ⟨(h.ins i p s hp hs).1.base h1, (h.ins i p s hp hs).2.base h1⟩, fun p hp g hg => Nat.lt_of_lt_of_le (h.top p hp g hg) h2, h.apt⟩

/-- A row of states of the call's own, with all that is in it. -/
structure OwS (lo hi : Nat) (w : World) (v : Value) (ss : List Sta) : Prop where
  own : ∃ ps, OwV lo w v ps ∧ Pa lo hi w ps ss
  top : ∀ g, v.ownBlock = some g → g < hi
theorem OwS.later {lo hi : Nat} {w w' : World} {v : Value} {ss : List Sta} (h : OwS lo hi w v ss) (hb : Below w.heap.size w w') : OwS lo hi w' v ss := by
  obtain ⟨ps, h1, h2⟩ := h.own
  exact ⟨⟨ps, h1.later hb, h2.later hb⟩, h.top⟩
theorem OwS.rw {lo hi : Nat} {w : World} {v : Value} {ss : List Sta} (h : OwS lo hi w v ss) : RwS w v ss := by
  obtain ⟨ps, h1, h2⟩ := h.own
  exact ⟨ps, h1.rw encS_len, h2.rw⟩
theorem OwS.mono {lo hi lo' hi' : Nat} {w : World} {v : Value} {ss : List Sta} (h : OwS lo hi w v ss) (h1 : lo' ≤ lo) (h2 : hi ≤ hi') : OwS lo' hi' w v ss := by
  obtain ⟨ps, k1, k2⟩ := h.own
  exact ⟨⟨ps, k1.base h1, k2.mono h1 h2⟩, fun g hg => Nat.lt_of_lt_of_le (h.top g hg) h2⟩
theorem OwS.trn {S : Nat → Prop} {lo hi : Nat} {w w' : World} {v : Value} {ss : List Sta} (h : OwS lo hi w v ss) (t : Trn S w w') (hs : ∀ i, S i → ¬ (lo ≤ i ∧ i < hi)) : OwS lo hi w' v ss := by
  obtain ⟨ps, k1, k2⟩ := h.own
  exact ⟨⟨ps, t.own k1 (fun i hi q => hs i q ⟨(World.ownsRow.lt k1 _ hi).1, h.top i hi⟩), k2.trn t hs⟩, h.top⟩

/-- What a log is asked for. -/
def okL (ss : List Sta) : Bool := ss.all fun s => okS s.1 s.2
def lokN (c f : Int) (n : Nat) (q : Bool) : Bool := inB c 1 8 && decide ((n : Int) ≤ c) && inB f 0 100000 && decide (f + (n : Int) ≤ 100000) && q
def lok (c f : Int) (ss : List Sta) : Bool := lokN c f ss.length (okL ss)
def lsq (c f : Int) (ss : List Sta) : Int := if lok c f ss = true then f + (ss.length : Int) else 0
theorem okL_no {ss : List Sta} {k : Nat} {s : Sta} (h : ss[k]? = some s) (hs : okS s.1 s.2 = false) : okL ss = false := by
  rcases Bool.eq_false_or_eq_true (okL ss) with q | q
  · rw [okL, List.all_eq_true] at q
    have := q s (List.mem_of_getElem? h)
    rw [hs] at this; cases this
  · exact q
theorem okL_next {ss : List Sta} {k : Nat} {s : Sta} (h : ss[k]? = some s) (hs : okS s.1 s.2 = true) (hk : okL (ss.take k) = true) : okL (ss.take (k + 1)) = true := by
  rw [take_at h, okL, List.all_append, ← okL, hk]; simp [hs]
theorem okL_at {ss : List Sta} (h : okL ss = true) {k : Nat} {s : Sta} (hs : ss[k]? = some s) : okS s.1 s.2 = true := by
  rw [okL, List.all_eq_true] at h
  exact h s (List.mem_of_getElem? hs)
theorem lok_iff {c f : Int} {ss : List Sta} : lok c f ss = true ↔ (1 ≤ c ∧ c ≤ 8) ∧ (ss.length : Int) ≤ c ∧ (0 ≤ f ∧ f ≤ 100000) ∧ f + (ss.length : Int) ≤ 100000 ∧ okL ss = true := by
  simp [lok, lokN, inB, and_assoc]
end Go.Proofs.Ytdpaocikmijioac
