/-
  The marks of a state, floors that are told node by node: plain lists. No program here, no statement is proved here.
-/
import Derived.Test.YtighiahppjekeaaGreatDoorVwP
namespace Go.Proofs.YtighiahppjekeaaGreatDoor
open Go.RowKit

/-- For each node of the first n whose number is above 0: that. -/
def mk1 (f : Int → Int) (i : Nat) : List Flr := if 0 < f i then [((i : Int), f i)] else []
def mkK (f : Int → Int) : Nat → List Flr
  | 0 => []
  | n + 1 => mkK f n ++ mk1 f n
def mks (xs : List Itm) (fs : List Flr) : List Flr := mkK (gone xs fs) 5
theorem mem_mk1 {f : Int → Int} {i : Nat} {x : Flr} : x ∈ mk1 f i ↔ x.1 = i ∧ 0 < x.2 ∧ f x.1 = x.2 := by
  unfold mk1
  split
  · rename_i h
    rw [List.mem_singleton]
    constructor
    · rintro rfl; exact ⟨rfl, h, rfl⟩
    · rintro ⟨h1, h2, h3⟩; rw [h1] at h3; exact Prod.ext h1 h3.symm
  · rename_i h
    simp only [List.not_mem_nil, false_iff]
    rintro ⟨h1, h2, h3⟩; rw [h1] at h3; omega
theorem mem_mkK {f : Int → Int} : ∀ {n : Nat} {x : Flr}, x ∈ mkK f n ↔ 0 ≤ x.1 ∧ x.1 < n ∧ 0 < x.2 ∧ f x.1 = x.2
  | 0, x => by simp [mkK]; omega
  | n + 1, x => by
    rw [mkK, List.mem_append, mem_mkK, mem_mk1]
    constructor
    · rintro (⟨h1, h2, h3⟩ | ⟨h1, h3⟩)
      · exact ⟨h1, by omega, h3⟩
      · exact ⟨by omega, by omega, h3⟩
    · rintro ⟨h1, h2, h3⟩
      by_cases h : x.1 = n
      · exact .inr ⟨h, h3⟩
      · exact .inl ⟨h1, by omega, h3⟩
theorem mkK_pair (f : Int → Int) : ∀ n : Nat, (mkK f n).Pairwise (fun a b => a.1 < b.1)
  | 0 => List.Pairwise.nil
  | n + 1 => by
    rw [mkK, List.pairwise_append]
    refine ⟨mkK_pair f n, ?_, fun a ha b hb => ?_⟩
    · unfold mk1; split <;> simp
    · have := mem_mkK.1 ha; have := mem_mk1.1 hb; omega
theorem mkK_len (f : Int → Int) : ∀ n : Nat, (mkK f n).length ≤ n
  | 0 => Nat.le_refl _
  | n + 1 => by
    have := mkK_len f n
    rw [mkK, List.length_append]
    unfold mk1
    split <;> simp <;> omega
theorem mkK_flo (f : Int → Int) (n : Nat) (id : Int) : flo (mkK f n) id = if 0 ≤ id ∧ id < n ∧ 0 < f id then f id else 0 := by
  split
  · rename_i h
    exact flo_mem (mkK_pair f n) (mem_mkK.2 ⟨h.1, h.2.1, h.2.2, rfl⟩)
  · rename_i h
    by_cases hc : flo (mkK f n) id = 0
    · exact hc
    · have := mem_mkK.1 ((flo_pos (mkK_pair f n) hc).1 rfl)
      simp only at this
      exact absurd ⟨this.1, this.2.1, by omega⟩ h
theorem mkK_gF {f : Int → Int} (h : ∀ id, f id ≤ 1000) : gF (-1) (mkK f 5) = true := by
  rw [gF_iff]
  refine ⟨mkK_pair f 5, fun x hx => ?_⟩
  have := mem_mkK.1 hx
  have := h x.1
  omega
theorem gone_le (xs : List Itm) (fs : List Flr) (id : Int) : 0 ≤ gone xs fs id ∧ gone xs fs id ≤ 1000 := by
  unfold gone
  split
  · rename_i h
    have hx := (okS_iff _ _).1 h
    cases he : ent xs id with
    | none => simp only; exact hx.flo_nn id
    | some e =>
      have := okE_inc (hx.ent_in he).2.2.1
      simp only
      split <;> omega
  · omega
theorem mks_ok (xs : List Itm) (fs : List Flr) : gF (-1) (mks xs fs) = true := mkK_gF (fun id => (gone_le xs fs id).2)
theorem mks_len (xs : List Itm) (fs : List Flr) : (mks xs fs).length ≤ 5 := mkK_len _ 5
end Go.Proofs.YtighiahppjekeaaGreatDoor
