/-
  The order of entries: of any two one is behind, or they are the same; what is behind what is behind is behind. No program here, no statement is proved here.
-/
import Derived.Test.YtbajnnpihjmjmaaEntCmp
import Derived.Lib.Strings
namespace Go.Proofs.Ytbajnnpihjmjmaa
open Go.RowKit

structure IsCmp {α : Type} (c : α → α → Int) : Prop where
  anti : ∀ x y, c y x = - c x y
  zero : ∀ x y, c x y = 0 ↔ x = y
  trans : ∀ x y z, 0 ≤ c x y → 0 ≤ c y z → 0 ≤ c x z

def lexC {α β : Type} (c1 : α → α → Int) (c2 : β → β → Int) (x y : α × β) : Int := if c1 x.1 y.1 = 0 then c2 x.2 y.2 else c1 x.1 y.1

theorem lexC_is {α β : Type} {c1 : α → α → Int} {c2 : β → β → Int} (h1 : IsCmp c1) (h2 : IsCmp c2) : IsCmp (lexC c1 c2) := by
  refine ⟨?_, ?_, ?_⟩
  · intro x y
    have a1 := h1.anti x.1 y.1
    have a2 := h2.anti x.2 y.2
    unfold lexC
    repeat' split
    all_goals omega
  · intro x y
    have z1 := h1.zero x.1 y.1
    have z2 := h2.zero x.2 y.2
    unfold lexC
    rw [Prod.ext_iff]
    split
    · rename_i h
      rw [z2]
      exact ⟨fun k => ⟨z1.mp h, k⟩, fun k => k.2⟩
    · rename_i h
      exact ⟨fun k => absurd k h, fun k => absurd (z1.mpr k.1) h⟩
  · rintro ⟨x1, x2⟩ ⟨y1, y2⟩ ⟨z1, z2⟩
    have t1 := h1.trans x1 y1 z1
    have t2 := h2.trans x2 y2 z2
    have zxy := h1.zero x1 y1
    have zyz := h1.zero y1 z1
    have zxz := h1.zero x1 z1
    have aa := h1.anti x1 y1
    simp only [lexC]
    by_cases hxy : c1 x1 y1 = 0
    · obtain rfl := zxy.mp hxy
      rw [if_pos hxy]
      by_cases hyz : c1 x1 z1 = 0
      · rw [if_pos hyz, if_pos hyz]; exact t2
      · rw [if_neg hyz, if_neg hyz]; intro _ h; exact h
    · rw [if_neg hxy]
      by_cases hyz : c1 y1 z1 = 0
      · obtain rfl := zyz.mp hyz
        rw [if_pos hyz, if_neg hxy]
        intro h _; exact h
      · rw [if_neg hyz]
        intro p q
        have r := t1 p q
        by_cases hxz : c1 x1 z1 = 0
        · exfalso
          obtain rfl := zxz.mp hxz
          omega
        · rw [if_neg hxz]; exact r

theorem cmpI_is : IsCmp cmpI := by
  refine ⟨?_, ?_, ?_⟩
  · intro x y
    unfold cmpI
    repeat' split
    all_goals omega
  · intro x y
    unfold cmpI
    repeat' split
    all_goals omega
  · intro x y z
    unfold cmpI
    repeat' split
    all_goals omega

theorem less_iff : ∀ (x y : List UInt8), Op.bytesLess x y = true ↔ x < y
  | [], [] => by simp [Op.bytesLess]
  | _ :: _, [] => by simp [Op.bytesLess]
  | [], _ :: _ => by simp [Op.bytesLess]
  | a :: x, b :: y => by
    rw [Op.bytesLess, List.cons_lt_cons_iff, Bool.or_eq_true, Bool.and_eq_true, less_iff x y]
    simp

theorem cmpS_is : IsCmp cmpS := by
  have hl : ∀ x y : ByteArray, cmpS x y = if x.toList < y.toList then -1 else if x.toList = y.toList then 0 else 1 := by
    intro x y
    unfold cmpS
    simp only [less_iff, beq_iff_eq]
  have inj : ∀ x y : ByteArray, x.toList = y.toList ↔ x = y := by
    intro x y
    refine ⟨fun h => ?_, fun h => by rw [h]⟩
    rw [Lib.toList_data, Lib.toList_data] at h
    obtain ⟨⟨x⟩⟩ := x
    obtain ⟨⟨y⟩⟩ := y
    simp at h
    rw [h]
  have tri : ∀ x y : List UInt8, ¬ x < y → ¬ y < x → x = y := fun x y h k => List.le_antisymm (List.not_lt.mp k) (List.not_lt.mp h)
  refine ⟨?_, ?_, ?_⟩
  · intro x y
    rw [hl, hl]
    by_cases h : x.toList < y.toList
    · have hne : ¬ y.toList < x.toList := List.lt_asymm h
      have hn2 : y.toList ≠ x.toList := fun e => by rw [e] at h; exact List.lt_irrefl _ h
      rw [if_pos h, if_neg hne, if_neg hn2]; rfl
    · rw [if_neg h]
      by_cases e : x.toList = y.toList
      · rw [if_pos e, e, if_neg (List.lt_irrefl _), if_pos rfl]; rfl
      · have : y.toList < x.toList := by
          by_cases k : y.toList < x.toList
          · exact k
          · exact absurd (tri _ _ h k) e
        rw [if_neg e, if_pos this]
  · intro x y
    rw [hl, ← inj]
    by_cases h : x.toList < y.toList
    · rw [if_pos h]
      refine ⟨fun k => by omega, fun k => ?_⟩
      rw [k] at h
      exact absurd h (List.lt_irrefl _)
    · rw [if_neg h]
      by_cases e : x.toList = y.toList
      · simp [e]
      · simp [e]
  · intro x y z
    rw [hl, hl, hl]
    have neg : ∀ u v : List UInt8, (0 : Int) ≤ (if u < v then -1 else if u = v then 0 else 1) ↔ ¬ u < v := by
      intro u v
      by_cases h : u < v
      · simp [h]
      · rw [if_neg h]
        refine ⟨fun _ => h, fun _ => ?_⟩
        split <;> omega
    rw [neg, neg, neg, List.not_lt, List.not_lt, List.not_lt]
    intro p q
    exact List.le_trans q p

def keyC := lexC cmpI (lexC cmpI (lexC cmpI (lexC cmpI cmpS)))
theorem keyC_is : IsCmp keyC := lexC_is cmpI_is (lexC_is cmpI_is (lexC_is cmpI_is (lexC_is cmpI_is cmpS_is)))
theorem cmpE_key (ai ar ab av : Int) (ad : ByteArray) (bi br bb bv : Int) (bd : ByteArray) : cmpE ai ar ab av ad bi br bb bv bd = keyC (ai, ar, ab, av, ad) (bi, br, bb, bv, bd) := by
  simp only [cmpE, keyC, lexC, orL]
  repeat' split
  all_goals first | rfl | omega
end Go.Proofs.Ytbajnnpihjmjmaa
