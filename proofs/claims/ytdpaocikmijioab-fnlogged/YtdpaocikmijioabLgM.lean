/-
  A log is marked, marks are held. No statement is proved here.
-/
import Derived.Test.YtdpaocikmijioabLgB
namespace Go.Proofs.Ytdpaocikmijioab
open Go.RowKit

theorem Pa.turn {lo hi : Nat} {w w' : World} {ps : List Two} {ss : List Sta} {j : Nat} {p : Two} {s t : Sta} (h : Pa lo hi w ps ss) (hp : ps[j]? = some p) (hs : ss[j]? = some s) (h1 : OwI lo w' p.1 t.1) (h2 : OwF lo w' p.2 t.2) (k : Trn (fun i => p.1.ownBlock = some i ∨ p.2.ownBlock = some i) w w') : Pa lo hi w' ps (ss.set j t) := by
  have hjl := (List.getElem?_eq_some_iff.1 hp).1
  refine ⟨by simp [h.len], fun i q u hq hu => ?_, h.top, h.apt⟩
  rw [List.getElem?_set] at hu
  by_cases e : j = i
  · subst e
    rw [if_pos rfl, if_pos (by rw [← h.len]; exact hjl)] at hu
    rw [hp] at hq
    cases hq; cases hu
    exact ⟨h1, h2⟩
  · rw [if_neg e] at hu
    obtain ⟨o1, o2⟩ := h.ins i q u hq hu
    obtain ⟨q1, q2⟩ := h.ins j p s hp hs
    have hil := (List.getElem?_eq_some_iff.1 hq).1
    have hap : (∀ g, p.1.ownBlock = some g → q.1.ownBlock ≠ some g) ∧ (∀ g, p.2.ownBlock = some g → q.2.ownBlock ≠ some g) := by
      have ep := (List.getElem?_eq_some_iff.1 hp).2
      have eq := (List.getElem?_eq_some_iff.1 hq).2
      by_cases hlt : j < i
      · have := List.pairwise_iff_getElem.1 h.apt j i hjl hil hlt
        rw [ep, eq] at this
        exact this
      · have := List.pairwise_iff_getElem.1 h.apt i j hil hjl (by omega)
        rw [ep, eq] at this
        exact ⟨fun g a b => this.1 g b a, fun g a b => this.2 g b a⟩
    have a1 := owns_apart o2 q1 (by decide)
    have a2 := owns_apart o1 q2 (by decide)
    refine ⟨k.own o1 (fun g hg kk => ?_), k.own o2 (fun g hg kk => ?_)⟩
    · rcases kk with kk | kk
      · exact hap.1 g kk hg
      · rcases a2 with a | a
        · rw [a] at hg; cases hg
        · exact a (hg.trans kk.symm)
    · rcases kk with kk | kk
      · rcases a1 with a | a
        · rw [a] at hg; cases hg
        · exact a (hg.trans kk.symm)
      · exact hap.2 g kk hg
/-- A state of a row of the call's own: where it lies, what is in it. -/
theorem at2 {base : Nat} {w : World} {a : Option Addr} {n cap : Nat} {ps : List Two} (h : OwV base w (.slice a n cap) ps) {i : Nat} (hi : i < n) : ∃ p g, ps[i]? = some p ∧ a = some ⟨g, 0, none⟩ ∧ n ≤ cap ∧ g < w.heap.size ∧ w.cell? ⟨g, i * 2, none⟩ = some p.1 ∧ w.cell? ⟨g, i * 2 + 1, none⟩ = some p.2 := by
  have r := Ow.rw encS_len h
  obtain ⟨p, b, off, hp, rfl, hb, hc, cc⟩ := r.at hi
  rcases h.2 with ⟨hv, _⟩ | ⟨g, cap', cur, hv, hlo, hh, hr⟩
  · simp at hv
  · simp only [Value.slice.injEq, Option.some.injEq, Addr.mk.injEq, and_true] at hv
    obtain ⟨⟨rfl, rfl⟩, -, -⟩ := hv
    exact ⟨p, b, hp, rfl, hc, hb, by simpa [encS] using cc 0 (by omega), by simpa [encS] using cc 1 (by omega)⟩
theorem OwV.trn {S : Nat → Prop} {base : Nat} {w w' : World} {v : Value} {ps : List Two} (h : OwV base w v ps) (k : Trn S w w') (hs : ∀ i, S i → ∀ cs fz, w.heap[i]? ≠ some (.cells cs 27 fz)) : OwV base w' v ps :=
  k.own h (fun i hi q => by obtain ⟨cs, fz, hb⟩ := OwV.blk h i hi; exact hs i q cs fz hb)
theorem ow_type {α : Type} {enc : α → List Value} {k : Nat} {E T : TypeId} {base : Nat} {w : World} {v : Value} {xs : List α} (h : Ow enc k E base w v xs) (hne : E ≠ T) : ∀ i, v.ownBlock = some i → ∀ cs fz, w.heap[i]? ≠ some (.cells cs T fz) := by
  intro i hi cs fz hb
  rcases h.2 with ⟨rfl, _⟩ | ⟨g', cap, cur, rfl, _, hh, _⟩
  · cases hi
  · simp only [Value.ownBlock, Option.some.injEq] at hi
    subst hi
    rw [hh] at hb
    simp at hb
    exact hne hb.2.1

end Go.Proofs.Ytdpaocikmijioab
