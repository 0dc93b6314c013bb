/-
  What a row of marks tells, what all know, what is pruned: plain lists. No program here, no statement is proved here.
-/
import Derived.Test.YtighiahppjekeaaGreatDoorMkP
import Derived.Test.YtighiahppjekeaaGreatDoorTbD
namespace Go.Proofs.YtighiahppjekeaaGreatDoor
open Go.RowKit

/-- The greatest of what is there and each mark of that node. -/
def top (ms : List Flr) (i : Int) (z : Int) : Int := ms.foldl (fun z m => if m.1 = i then max z m.2 else z) z
theorem nAt_set {r : List Int} {k i : Nat} {z : Int} : nAt (r.set k z) i = if k = i ∧ k < r.length then z else nAt r i := by
  unfold nAt
  rw [List.getD_eq_getElem?_getD, List.getD_eq_getElem?_getD, List.getElem?_set]
  by_cases h : k = i
  · subst h
    by_cases hk : k < r.length
    · rw [if_pos rfl, if_pos hk, if_pos ⟨rfl, hk⟩]; rfl
    · rw [if_pos rfl, if_neg hk, if_neg (by omega), List.getElem?_eq_none (by omega)]
  · rw [if_neg h, if_neg (by omega)]
theorem nAt_putMs : ∀ (ms : List Flr) (r : List Int) (i : Nat), (∀ m ∈ ms, 0 ≤ m.1 ∧ m.1 < r.length) → nAt (putMs r ms) i = top ms i (nAt r i)
  | [], r, i, _ => rfl
  | m :: ms, r, i, h => by
    show nAt (putMs (putM r m) ms) i = _
    obtain ⟨h0, h1⟩ := h m (by simp)
    rw [nAt_putMs ms (putM r m) i (fun q hq => by rw [putM_len]; exact h q (by simp [hq]))]
    unfold top
    rw [List.foldl_cons]
    congr 1
    unfold putM
    rw [nAt_set]
    by_cases e : m.1 = (i : Int)
    · rw [if_pos e, if_pos (by omega), show m.1.toNat = i by omega]
    · rw [if_neg e, if_neg (by omega)]
theorem top_mkK (f : Int → Int) (i : Int) (z : Int) : ∀ n : Nat, top (mkK f n) i z = if 0 ≤ i ∧ i < n ∧ 0 < f i then max z (f i) else z
  | 0 => by rw [if_neg (by omega)]; rfl
  | n + 1 => by
    have ih := top_mkK f i z n
    unfold top at ih ⊢
    rw [mkK, List.foldl_append, ih]
    unfold mk1
    by_cases hn : 0 < f (n : Int)
    · rw [if_pos hn]
      simp only [List.foldl_cons, List.foldl_nil]
      by_cases e : (n : Int) = i
      · subst e
        rw [if_pos rfl, if_neg (by omega), if_pos (by omega)]
      · rw [if_neg e]
        by_cases h : 0 ≤ i ∧ i < n ∧ 0 < f i
        · rw [if_pos h, if_pos (by omega)]
        · rw [if_neg h, if_neg (by omega)]
    · rw [if_neg hn]
      simp only [List.foldl_nil]
      by_cases e : (n : Int) = i
      · subst e
        rw [if_neg (by omega), if_neg (by omega)]
      · by_cases h : 0 ≤ i ∧ i < n ∧ 0 < f i
        · rw [if_pos h, if_pos (by omega)]
        · rw [if_neg h, if_neg (by omega)]
/-- A row of five numbers into which marks of numbers from 0 on are put. -/
theorem row_mks {r : List Int} (hl : r.length = 5) (h0 : ∀ i, 0 ≤ nAt r i) (f : Int → Int) (hf : ∀ id, 0 ≤ f id) {i : Nat} (hi : i < 5) : nAt (putMs r (mkK f 5)) i = max (nAt r i) (f i) := by
  rw [nAt_putMs _ _ _ (fun m hm => by have := mem_mkK.1 hm; omega), top_mkK]
  have := hf i
  have := h0 i
  split <;> omega
theorem nul_at (i : Nat) : nAt nulR i = 0 := by
  unfold nAt nulR
  rw [List.getD_eq_getElem?_getD, List.getElem?_replicate]
  split <;> rfl
theorem nAt_nn {r : List Int} (h : ∀ i, i < r.length → 0 ≤ nAt r i) (i : Nat) : 0 ≤ nAt r i := by
  by_cases hi : i < r.length
  · exact h i hi
  · rw [nAt_out (by omega)]; omega
/-- Marks are put into one row of a table whose rows have five numbers. -/
theorem addT_row {t : Tb} {k : Nat} {r : List Int} {ms : List Flr} (hr : t[k]? = some r) (hl : 5 ≤ r.length) (hm : gF (-1) ms = true) : addT t (k : Int) ms = t.set k (putMs r ms) := by
  have hk := (List.getElem?_eq_some_iff.1 hr).1
  unfold addT
  rw [if_pos, rowT_in hr]
  · simp
  · rw [addOk, rowT_in hr, hm]
    simp [inB, hl]; omega
theorem com_one {r : List Int} {i : Nat} (hi : i < r.length) : com [r] (i : Int) = nAt r i := by
  unfold com
  rw [if_pos (by simp [hasR, inB]; omega)]
  simp [col, lst]
theorem com_two {r q : List Int} {i : Nat} (hi : i < r.length) (hj : i < q.length) : com [r, q] (i : Int) = min (nAt r i) (nAt q i) := by
  unfold com
  rw [if_pos (by simp [hasR, inB]; omega)]
  simp [col, lst]

/-- The floors that are pruned, and what comes of it. -/
def pf (xs : List Itm) (fs : List Flr) (t : Tb) : List Flr := mkK (fun id => min (com t id) (gone xs fs id)) 5
def prI (xs : List Itm) (fs : List Flr) (t : Tb) : List Itm := if okS xs fs = true then joinI xs fs [] (pf xs fs t) else xs
def prF (xs : List Itm) (fs : List Flr) (t : Tb) : List Flr := if okS xs fs = true then joinF fs (pf xs fs t) else fs
theorem okF_of {f : Int → Int} (h : ∀ id, f id ≤ 1000) : OkS [] (mkK f 5) :=
  ⟨.nil, mkK_pair f 5, fun _ h => by simp at h, fun x hx => by
    have := mem_mkK.1 hx
    have := h x.1
    omega⟩
theorem pf_ok (xs : List Itm) (fs : List Flr) (t : Tb) : OkS [] (pf xs fs t) := okF_of (fun id => by have := gone_le xs fs id; omega)
theorem pf_len (xs : List Itm) (fs : List Flr) (t : Tb) : (pf xs fs t).length ≤ 5 := mkK_len _ 5
theorem pf_flo (xs : List Itm) (fs : List Flr) (t : Tb) (id : Int) : flo (pf xs fs t) id = if 0 ≤ id ∧ id < 5 ∧ 0 < min (com t id) (gone xs fs id) then min (com t id) (gone xs fs id) else 0 := mkK_flo _ 5 id
section
variable {xs : List Itm} {fs : List Flr}
/-- Floors that are no more than what is over turn nothing that is over. -/
theorem OkS.under (hx : OkS xs fs) {gs : List Flr} (hg : OkS [] gs) (h : ∀ id, flo gs id ≤ gone xs fs id) (id : Int) : gone (joinI xs fs [] gs) (joinF fs gs) id = gone xs fs id := by
  have hj := hx.join hg
  have hfl := (hx.fl2_nn hg id).2.2
  have hh := h id
  have hff := hx.flo_nn id
  have hgg := hg.flo_nn id
  rw [gone_ok hx] at hh
  rw [gone_ok hx, gone_ok hj, join_flo hx hg, join_ent' hx hg, ent_nil, jE_none]
  cases he : ent xs id with
  | none =>
    rw [he] at hh
    simp only [keep] at hh ⊢
    omega
  | some e =>
    rw [he] at hh
    have hi := hx.ent_in he
    have hr := okE_rank hi.2.2.1
    simp only [keep] at hh ⊢
    by_cases hz : e.2.1 = 0
    · rw [if_pos hz] at hh ⊢
      rw [if_pos (by omega)]
      simp only [hz, if_true]
    · rw [if_neg hz] at hh ⊢
      by_cases hlt : fl2 fs gs id < e.1
      · rw [if_pos hlt]
        simp only [if_neg hz]
      · rw [if_neg hlt]
        simp only
        omega
/-- .. and nothing that is seen. -/
theorem OkS.under_up (hx : OkS xs fs) {gs : List Flr} (hg : OkS [] gs) (h : ∀ id, flo gs id ≤ gone xs fs id) : upI (joinI xs fs [] gs) = upI xs := by
  have hj := hx.join hg
  refine list_of_mem (hj.px.sublist List.filter_sublist) (hx.px.sublist List.filter_sublist) (fun x => ?_)
  unfold upI
  rw [List.mem_filter, List.mem_filter, show x = (x.1, x.2) from rfl, ← ent_iff hj.px, ← ent_iff hx.px, join_ent' hx hg, ent_nil, jE_none]
  have hfl := (hx.fl2_nn hg x.1).2.2
  have hh := h x.1
  constructor
  · rintro ⟨h1, h2⟩
    refine ⟨?_, h2⟩
    cases he : ent xs x.1 with
    | none => rw [he] at h1; cases h1
    | some e =>
      rw [he] at h1
      simp only [keep] at h1
      split at h1
      · exact h1
      · cases h1
  · rintro ⟨h1, h2⟩
    refine ⟨?_, h2⟩
    have hi := hx.ent_in h1
    rw [h1]
    simp only [keep]
    rw [if_pos]
    rw [gone_ok hx, h1] at hh
    simp only [beq_iff_eq] at h2
    simp only [h2, if_true] at hh
    omega
end
theorem pf_under (xs : List Itm) (fs : List Flr) (t : Tb) (id : Int) : flo (pf xs fs t) id ≤ gone xs fs id := by
  rw [pf_flo]
  have := gone_le xs fs id
  split <;> omega
end Go.Proofs.YtighiahppjekeaaGreatDoor
