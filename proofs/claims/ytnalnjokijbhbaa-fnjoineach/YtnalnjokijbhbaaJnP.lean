/-
  Right states as functions of the node, and what is joined of them: plain lists. No program here, no statement is proved here.
-/
import Derived.Test.YtnalnjokijbhbaaStJP
namespace Go.Proofs.Ytnalnjokijbhbaa
open Go.RowKit

/-- A right state, said plainly. -/
structure OkS (xs : List Itm) (fs : List Flr) : Prop where
  px : xs.Pairwise (fun a b => a.1 < b.1)
  pf : fs.Pairwise (fun a b => a.1 < b.1)
  ix : ∀ x ∈ xs, 0 ≤ x.1 ∧ x.1 ≤ 4 ∧ okE x.2.1 x.2.2.1 x.2.2.2.1 x.2.2.2.2.1 x.2.2.2.2.2 = true ∧ flo fs x.1 < x.2.1
  jf : ∀ f ∈ fs, 0 ≤ f.1 ∧ f.1 ≤ 4 ∧ 1 ≤ f.2 ∧ f.2 ≤ 1000
theorem inB_iff {x a b : Int} : inB x a b = true ↔ a ≤ x ∧ x ≤ b := by simp [inB]
theorem gI_iff (fs : List Flr) : ∀ (last : Int) (xs : List Itm), gI fs last xs = true ↔ (xs.Pairwise (fun a b => a.1 < b.1) ∧ ∀ x ∈ xs, last < x.1 ∧ 0 ≤ x.1 ∧ x.1 ≤ 4 ∧ okE x.2.1 x.2.2.1 x.2.2.2.1 x.2.2.2.2.1 x.2.2.2.2.2 = true ∧ flo fs x.1 < x.2.1)
  | _, [] => by simp [gI]
  | last, x :: r => by
    rw [gI, Bool.and_eq_true, Bool.and_eq_true, Bool.and_eq_true, Bool.and_eq_true, inB_iff, decide_eq_true_eq, decide_eq_true_eq, gI_iff fs x.1 r, List.pairwise_cons]
    constructor
    · rintro ⟨⟨⟨⟨h1, h2⟩, h3⟩, h4⟩, h5, h6⟩
      refine ⟨⟨fun y hy => (h6 y hy).1, h5⟩, fun y hy => ?_⟩
      rcases List.mem_cons.1 hy with rfl | hy
      · exact ⟨h2, h1.1, h1.2, h3, h4⟩
      · have := h6 y hy
        exact ⟨by omega, this.2⟩
    · rintro ⟨⟨h1, h2⟩, h3⟩
      have hx := h3 x (by simp)
      exact ⟨⟨⟨⟨⟨hx.2.1, hx.2.2.1⟩, hx.1⟩, hx.2.2.2.1⟩, hx.2.2.2.2⟩, h2, fun y hy => ⟨h1 y hy, (h3 y (by simp [hy])).2⟩⟩
theorem gF_iff : ∀ (last : Int) (fs : List Flr), gF last fs = true ↔ (fs.Pairwise (fun a b => a.1 < b.1) ∧ ∀ x ∈ fs, last < x.1 ∧ 0 ≤ x.1 ∧ x.1 ≤ 4 ∧ 1 ≤ x.2 ∧ x.2 ≤ 1000)
  | _, [] => by simp [gF]
  | last, x :: r => by
    rw [gF, Bool.and_eq_true, Bool.and_eq_true, Bool.and_eq_true, inB_iff, inB_iff, decide_eq_true_eq, gF_iff x.1 r, List.pairwise_cons]
    constructor
    · rintro ⟨⟨⟨h1, h2⟩, h3⟩, h5, h6⟩
      refine ⟨⟨fun y hy => (h6 y hy).1, h5⟩, fun y hy => ?_⟩
      rcases List.mem_cons.1 hy with rfl | hy
      · exact ⟨h2, h1.1, h1.2, h3⟩
      · have := h6 y hy
        exact ⟨by omega, this.2⟩
    · rintro ⟨⟨h1, h2⟩, h3⟩
      have hx := h3 x (by simp)
      exact ⟨⟨⟨⟨hx.2.1, hx.2.2.1⟩, hx.1⟩, hx.2.2.2⟩, h2, fun y hy => ⟨h1 y hy, (h3 y (by simp [hy])).2⟩⟩
theorem okS_iff (xs : List Itm) (fs : List Flr) : okS xs fs = true ↔ OkS xs fs := by
  rw [okS, Bool.and_eq_true, gI_iff, gF_iff]
  constructor
  · rintro ⟨⟨h1, h2⟩, h3, h4⟩
    exact ⟨h1, h3, fun x hx => (h2 x hx).2, fun x hx => (h4 x hx).2⟩
  · rintro ⟨h1, h2, h3, h4⟩
    exact ⟨⟨h1, fun x hx => ⟨by have := h3 x hx; omega, h3 x hx⟩⟩, h2, fun x hx => ⟨by have := h4 x hx; omega, h4 x hx⟩⟩

/-- The first of the number is the only one. -/
theorem find_iff {α : Type} : ∀ {xs : List (Int × α)}, xs.Pairwise (fun a b => a.1 < b.1) → ∀ (id : Int) (e : α), ((xs.find? fun x => x.1 == id).map (·.2)) = some e ↔ (id, e) ∈ xs
  | [], _, id, e => by simp
  | x :: r, h, id, e => by
    obtain ⟨h1, h2⟩ := List.pairwise_cons.1 h
    rw [List.find?_cons]
    by_cases hx : x.1 = id
    · subst hx
      simp only [beq_self_eq_true, Option.map_some, Option.some.injEq, List.mem_cons]
      constructor
      · rintro rfl; exact .inl rfl
      · rintro (q | q)
        · rw [← q]
        · have := h1 _ q
          simp at this
    · rw [show (x.1 == id) = false by simpa using hx]
      simp only [List.mem_cons]
      rw [find_iff h2 id e]
      constructor
      · exact .inr
      · rintro (q | q)
        · exact absurd (by rw [← q]) hx
        · exact q
theorem ent_iff {xs : List Itm} (h : xs.Pairwise (fun a b => a.1 < b.1)) {id : Int} {e : Key} : ent xs id = some e ↔ (id, e) ∈ xs := find_iff h id e
theorem flo_pos {fs : List Flr} (h : fs.Pairwise (fun a b => a.1 < b.1)) {id c : Int} (hc : c ≠ 0) : flo fs id = c ↔ (id, c) ∈ fs := by
  rw [← find_iff h id c, flo]
  cases hq : (fs.find? fun x => x.1 == id).map (·.2) with
  | none => simp; omega
  | some v => simp
theorem flo_mem {fs : List Flr} (h : fs.Pairwise (fun a b => a.1 < b.1)) {id c : Int} (hm : (id, c) ∈ fs) : flo fs id = c := by
  rw [flo, (find_iff h id c).2 hm]; rfl

section
variable {xs ys : List Itm} {fs gs : List Flr}
theorem OkS.ent_in (h : OkS xs fs) {id : Int} {e : Key} (he : ent xs id = some e) : 0 ≤ id ∧ id ≤ 4 ∧ okE e.1 e.2.1 e.2.2.1 e.2.2.2.1 e.2.2.2.2 = true ∧ flo fs id < e.1 := h.ix _ ((ent_iff h.px).1 he)
theorem OkS.flo_nn (h : OkS xs fs) (id : Int) : 0 ≤ flo fs id ∧ flo fs id ≤ 1000 := by
  by_cases hc : flo fs id = 0
  · omega
  · have := h.jf _ ((flo_pos h.pf hc).1 rfl)
    simp only at this; omega
theorem OkS.flo_in (h : OkS xs fs) {id : Int} (hp : 0 < flo fs id) : 0 ≤ id ∧ id ≤ 4 := by
  have := h.jf _ ((flo_pos h.pf (c := flo fs id) (by omega)).1 rfl)
  simp only at this; omega
theorem okE_inc {e : Key} (h : okE e.1 e.2.1 e.2.2.1 e.2.2.2.1 e.2.2.2.2 = true) : 1 ≤ e.1 ∧ e.1 ≤ 1000 := by
  simp only [okE, Bool.and_eq_true, inB_iff] at h
  exact h.1.1.1.1
theorem okE_size {e : Key} (h : okE e.1 e.2.1 e.2.2.1 e.2.2.2.1 e.2.2.2.2 = true) : e.2.2.2.2.size ≤ 8 := by
  simp only [okE, Bool.and_eq_true, decide_eq_true_eq] at h
  have := h.2
  omega
/-- Two right states are one where they say the same of every node. -/
theorem list_of_mem {α : Type} {xs ys : List (Int × α)} (hx : xs.Pairwise (fun a b => a.1 < b.1)) (hy : ys.Pairwise (fun a b => a.1 < b.1)) (h : ∀ x, x ∈ xs ↔ x ∈ ys) : xs = ys := by
  have nx : xs.Nodup := hx.imp (fun h e => by rw [e] at h; omega)
  have ny : ys.Nodup := hy.imp (fun h e => by rw [e] at h; omega)
  refine List.Perm.eq_of_pairwise (le := fun a b => a.1 < b.1) (fun a b _ _ h1 h2 => by omega) hx hy ((List.perm_ext_iff_of_nodup nx ny).2 h)
theorem OkS.ext {xs ys : List Itm} {fs gs : List Flr} (hx : OkS xs fs) (hy : OkS ys gs) (he : ∀ id, ent xs id = ent ys id) (hf : ∀ id, flo fs id = flo gs id) : xs = ys ∧ fs = gs := by
  refine ⟨list_of_mem hx.px hy.px (fun x => ?_), list_of_mem hx.pf hy.pf (fun x => ?_)⟩
  · rw [show x = (x.1, x.2) from rfl, ← ent_iff hx.px, ← ent_iff hy.px, he]
  · rw [show x = (x.1, x.2) from rfl]
    constructor
    · intro h
      have := hx.jf _ h
      simp only at this
      rw [← flo_pos hy.pf (by omega), ← hf, flo_pos hx.pf (by omega)]; exact h
    · intro h
      have := hy.jf _ h
      simp only at this
      rw [← flo_pos hx.pf (by omega), hf, flo_pos hy.pf (by omega)]; exact h

theorem mem_jF1 {i : Nat} {f : Flr} : f ∈ jF1 fs gs i ↔ f.1 = i ∧ 0 < f.2 ∧ fl2 fs gs f.1 = f.2 := by
  unfold jF1
  split
  · rename_i h
    rw [List.mem_singleton]
    constructor
    · rintro rfl; exact ⟨rfl, h, rfl⟩
    · rintro ⟨h1, h2, h3⟩; rw [h1] at h3; exact Prod.ext h1 h3.symm
  · rename_i h
    simp only [List.not_mem_nil, false_iff]
    rintro ⟨h1, h2, h3⟩; rw [h1] at h3; omega
theorem mem_jF : ∀ {n : Nat} {f : Flr}, f ∈ jF fs gs n ↔ 0 ≤ f.1 ∧ f.1 < n ∧ 0 < f.2 ∧ fl2 fs gs f.1 = f.2
  | 0, f => by simp [jF]; omega
  | n + 1, f => by
    rw [jF, List.mem_append, mem_jF, mem_jF1]
    constructor
    · rintro (⟨h1, h2, h3⟩ | ⟨h1, h3⟩)
      · exact ⟨h1, by omega, h3⟩
      · exact ⟨by omega, by omega, h3⟩
    · rintro ⟨h1, h2, h3⟩
      by_cases h : f.1 = n
      · exact .inr ⟨h, h3⟩
      · exact .inl ⟨h1, by omega, h3⟩
theorem jF_pair : ∀ n : Nat, (jF fs gs n).Pairwise (fun a b => a.1 < b.1)
  | 0 => List.Pairwise.nil
  | n + 1 => by
    rw [jF, List.pairwise_append]
    refine ⟨jF_pair n, ?_, fun a ha b hb => ?_⟩
    · unfold jF1; split <;> simp
    · have := mem_jF.1 ha; have := mem_jF1.1 hb; omega
theorem mem_jI1 {i : Nat} {x : Itm} : x ∈ jI1 xs fs ys gs i ↔ x.1 = i ∧ jE (ent xs x.1) (ent ys x.1) = some x.2 ∧ fl2 fs gs x.1 < x.2.1 := by
  unfold jI1
  split
  · rename_i e he
    split
    · rename_i h
      rw [List.mem_singleton]
      constructor
      · rintro rfl; exact ⟨rfl, he, h⟩
      · rintro ⟨h1, h2, h3⟩; rw [h1, he] at h2; exact Prod.ext h1 (Option.some.inj h2).symm
    · rename_i h
      simp only [List.not_mem_nil, false_iff]
      rintro ⟨h1, h2, h3⟩; rw [h1, he] at h2; rw [h1, ← Option.some.inj h2] at h3; omega
  · rename_i he
    simp only [List.not_mem_nil, false_iff]
    rintro ⟨h1, h2, h3⟩; rw [h1, he] at h2; cases h2
theorem mem_jI : ∀ {n : Nat} {x : Itm}, x ∈ jI xs fs ys gs n ↔ 0 ≤ x.1 ∧ x.1 < n ∧ jE (ent xs x.1) (ent ys x.1) = some x.2 ∧ fl2 fs gs x.1 < x.2.1
  | 0, f => by simp [jI]; omega
  | n + 1, f => by
    rw [jI, List.mem_append, mem_jI, mem_jI1]
    constructor
    · rintro (⟨h1, h2, h3⟩ | ⟨h1, h3⟩)
      · exact ⟨h1, by omega, h3⟩
      · exact ⟨by omega, by omega, h3⟩
    · rintro ⟨h1, h2, h3⟩
      by_cases h : f.1 = n
      · exact .inr ⟨h, h3⟩
      · exact .inl ⟨h1, by omega, h3⟩
theorem jI_pair : ∀ n : Nat, (jI xs fs ys gs n).Pairwise (fun a b => a.1 < b.1)
  | 0 => List.Pairwise.nil
  | n + 1 => by
    rw [jI, List.pairwise_append]
    refine ⟨jI_pair n, ?_, fun a ha b hb => ?_⟩
    · unfold jI1; split
      · split <;> simp
      · simp
    · have := mem_jI.1 ha; have := mem_jI1.1 hb; omega

/-- Of both the one that is behind: right, if both are. -/
theorem mx_or (x y : Key) : mx x y = x ∨ mx x y = y := by
  unfold mx
  split
  · exact .inr rfl
  · exact .inl rfl
theorem jE_ok {a b : Option Key} {e : Key} (h : jE a b = some e) : a = some e ∨ b = some e := by
  cases a with
  | none => exact .inr h
  | some x =>
    cases b with
    | none => exact .inl h
    | some y =>
      simp only [jE, Option.some.injEq] at h
      rcases mx_or x y with q | q
      · left; rw [← h, q]
      · right; rw [← h, q]
theorem OkS.jE_in (hx : OkS xs fs) (hy : OkS ys gs) {id : Int} {e : Key} (h : jE (ent xs id) (ent ys id) = some e) : 0 ≤ id ∧ id ≤ 4 ∧ okE e.1 e.2.1 e.2.2.1 e.2.2.2.1 e.2.2.2.2 = true := by
  rcases jE_ok h with q | q
  · have := hx.ent_in q; exact ⟨this.1, this.2.1, this.2.2.1⟩
  · have := hy.ent_in q; exact ⟨this.1, this.2.1, this.2.2.1⟩
theorem OkS.fl2_nn (hx : OkS xs fs) (hy : OkS ys gs) (id : Int) : 0 ≤ fl2 fs gs id ∧ fl2 fs gs id ≤ 1000 ∧ fl2 fs gs id = max (flo fs id) (flo gs id) := by
  have := hx.flo_nn id; have := hy.flo_nn id
  unfold fl2; split <;> omega
theorem OkS.fl2_in (hx : OkS xs fs) (hy : OkS ys gs) {id : Int} (h : 0 < fl2 fs gs id) : 0 ≤ id ∧ id ≤ 4 := by
  unfold fl2 at h
  split at h
  · exact hy.flo_in h
  · exact hx.flo_in h
/-- The joined state, node by node. -/
theorem join_flo (hx : OkS xs fs) (hy : OkS ys gs) (id : Int) : flo (joinF fs gs) id = fl2 fs gs id := by
  have hn := hx.fl2_nn hy id
  by_cases h0 : fl2 fs gs id = 0
  · rw [h0]
    by_cases hc : flo (joinF fs gs) id = 0
    · exact hc
    · have := mem_jF.1 ((flo_pos (jF_pair 5) hc).1 rfl)
      simp only at this; omega
  · have hi := hx.fl2_in hy (id := id) (by omega)
    exact flo_mem (jF_pair 5) (mem_jF.2 ⟨hi.1, by simp only; omega, by simp only; omega, rfl⟩)
theorem join_ent (hx : OkS xs fs) (hy : OkS ys gs) (id : Int) : ent (joinI xs fs ys gs) id = (match jE (ent xs id) (ent ys id) with
    | some e => if fl2 fs gs id < e.1 then some e else none
    | none => none) := by
  apply Option.ext
  intro e
  rw [joinI, ent_iff (jI_pair 5), mem_jI]
  simp only
  constructor
  · rintro ⟨_, _, h3, h4⟩
    rw [h3]; simp [h4]
  · intro h
    cases hj : jE (ent xs id) (ent ys id) with
    | none => rw [hj] at h; simp at h
    | some e' =>
      rw [hj] at h
      simp only at h
      split at h
      · rename_i hlt
        cases h
        have := hx.jE_in hy hj
        exact ⟨this.1, by omega, rfl, hlt⟩
      · cases h
theorem OkS.join (hx : OkS xs fs) (hy : OkS ys gs) : OkS (joinI xs fs ys gs) (joinF fs gs) := by
  refine ⟨jI_pair 5, jF_pair 5, fun x hm => ?_, fun f hm => ?_⟩
  · have h := mem_jI.1 hm
    have hj := hx.jE_in hy h.2.2.1
    rw [join_flo hx hy]
    exact ⟨hj.1, hj.2.1, hj.2.2, h.2.2.2⟩
  · have h := mem_jF.1 hm
    have := hx.fl2_nn hy f.1
    omega
end
end Go.Proofs.Ytnalnjokijbhbaa
