/-
  Right states as functions of the node, and what is joined of them: plain lists. No program here, no statement is proved here.
  What is joined of right states does not hang on their order, nor on how often; a state is its items and floors joined: plain lists. No program here, no statement is proved here.
  What one sees, what a state lacks of another one, when one state is beneath another: plain lists. No program here, no statement is proved here.
-/
import Derived.Test.YtjlocbimkfocnaaApp2
namespace Go.Proofs.Ytjlocbimkfocnaa
open Go.RowKit

/-- A right state, said plainly. -/
structure OkS (xs : List Itm) (fs : List Flr) : Prop where
  px : xs.Pairwise (fun a b => a.1 < b.1)
  pf : fs.Pairwise (fun a b => a.1 < b.1)
  ix : ∀ x ∈ xs, 0 ≤ x.1 ∧ x.1 ≤ 4 ∧ okE x.2.1 x.2.2.1 x.2.2.2.1 x.2.2.2.2.1 x.2.2.2.2.2 = true ∧ flo fs x.1 < x.2.1
  jf : ∀ f ∈ fs, 0 ≤ f.1 ∧ f.1 ≤ 4 ∧ 1 ≤ f.2 ∧ f.2 ≤ 1000
theorem inB_iff {x a b : Int} : inB x a b = true ↔ a ≤ x ∧ x ≤ b := by simp [inB]
theorem gI_iff (fs : List Flr) : ∀ (last : Int) (xs : List Itm), gI fs last xs = true ↔ (xs.Pairwise (fun a b => a.1 < b.1) ∧ ∀ x ∈ xs, last < x.1 ∧ 0 ≤ x.1 ∧ x.1 ≤ 4 ∧ okE x.2.1 x.2.2.1 x.2.2.2.1 x.2.2.2.2.1 x.2.2.2.2.2 = true ∧ flo fs x.1 < x.2.1)
  | _, [] => by simp [gI]
  | last, x :: r => by
    rw [gI, Bool.and_eq_true, Bool.and_eq_true, Bool.and_eq_true, Bool.and_eq_true, inB_iff, decide_eq_true_eq, decide_eq_true_eq, gI_iff fs x.1 r, List.pairwise_cons]
    constructor
    · rintro ⟨⟨⟨⟨h1, h2⟩, h3⟩, h4⟩, h5, h6⟩
      refine ⟨⟨fun y hy => (h6 y hy).1, h5⟩, fun y hy => ?_⟩
      rcases List.mem_cons.1 hy with rfl | hy
      · exact ⟨h2, h1.1, h1.2, h3, h4⟩
      · have := h6 y hy
        exact ⟨by omega, this.2⟩
    · rintro ⟨⟨h1, h2⟩, h3⟩
      have hx := h3 x (by simp)
      exact ⟨⟨⟨⟨⟨hx.2.1, hx.2.2.1⟩, hx.1⟩, hx.2.2.2.1⟩, hx.2.2.2.2⟩, h2, fun y hy => ⟨h1 y hy, (h3 y (by simp [hy])).2⟩⟩
theorem gF_iff : ∀ (last : Int) (fs : List Flr), gF last fs = true ↔ (fs.Pairwise (fun a b => a.1 < b.1) ∧ ∀ x ∈ fs, last < x.1 ∧ 0 ≤ x.1 ∧ x.1 ≤ 4 ∧ 1 ≤ x.2 ∧ x.2 ≤ 1000)
  | _, [] => by simp [gF]
  | last, x :: r => by
    rw [gF, Bool.and_eq_true, Bool.and_eq_true, Bool.and_eq_true, inB_iff, inB_iff, decide_eq_true_eq, gF_iff x.1 r, List.pairwise_cons]
    constructor
    · rintro ⟨⟨⟨h1, h2⟩, h3⟩, h5, h6⟩
      refine ⟨⟨fun y hy => (h6 y hy).1, h5⟩, fun y hy => ?_⟩
      rcases List.mem_cons.1 hy with rfl | hy
      · exact ⟨h2, h1.1, h1.2, h3⟩
      · have := h6 y hy
        exact ⟨by omega, this.2⟩
    · rintro ⟨⟨h1, h2⟩, h3⟩
      have hx := h3 x (by simp)
      exact ⟨⟨⟨⟨hx.2.1, hx.2.2.1⟩, hx.1⟩, hx.2.2.2⟩, h2, fun y hy => ⟨h1 y hy, (h3 y (by simp [hy])).2⟩⟩
theorem okS_iff (xs : List Itm) (fs : List Flr) : okS xs fs = true ↔ OkS xs fs := by
  rw [okS, Bool.and_eq_true, gI_iff, gF_iff]
  constructor
  · rintro ⟨⟨h1, h2⟩, h3, h4⟩
    exact ⟨h1, h3, fun x hx => (h2 x hx).2, fun x hx => (h4 x hx).2⟩
  · rintro ⟨h1, h2, h3, h4⟩
    exact ⟨⟨h1, fun x hx => ⟨by have := h3 x hx; omega, h3 x hx⟩⟩, h2, fun x hx => ⟨by have := h4 x hx; omega, h4 x hx⟩⟩

/-- The first of the number is the only one. -/
theorem find_iff {α : Type} : ∀ {xs : List (Int × α)}, xs.Pairwise (fun a b => a.1 < b.1) → ∀ (id : Int) (e : α), ((xs.find? fun x => x.1 == id).map (·.2)) = some e ↔ (id, e) ∈ xs
  | [], _, id, e => by simp
  | x :: r, h, id, e => by
    obtain ⟨h1, h2⟩ := List.pairwise_cons.1 h
    rw [List.find?_cons]
    by_cases hx : x.1 = id
    · subst hx
      simp only [beq_self_eq_true, Option.map_some, Option.some.injEq, List.mem_cons]
      constructor
      · rintro rfl; exact .inl rfl
      · rintro (q | q)
        · rw [← q]
        · have := h1 _ q
          simp at this
    · rw [show (x.1 == id) = false by simpa using hx]
      simp only [List.mem_cons]
      rw [find_iff h2 id e]
      constructor
      · exact .inr
      · rintro (q | q)
        · exact absurd (by rw [← q]) hx
        · exact q
theorem ent_iff {xs : List Itm} (h : xs.Pairwise (fun a b => a.1 < b.1)) {id : Int} {e : Key} : ent xs id = some e ↔ (id, e) ∈ xs := find_iff h id e
theorem flo_pos {fs : List Flr} (h : fs.Pairwise (fun a b => a.1 < b.1)) {id c : Int} (hc : c ≠ 0) : flo fs id = c ↔ (id, c) ∈ fs := by
  rw [← find_iff h id c, flo]
  cases hq : (fs.find? fun x => x.1 == id).map (·.2) with
  | none => simp; omega
  | some v => simp
theorem flo_mem {fs : List Flr} (h : fs.Pairwise (fun a b => a.1 < b.1)) {id c : Int} (hm : (id, c) ∈ fs) : flo fs id = c := by
  rw [flo, (find_iff h id c).2 hm]; rfl

section
variable {xs ys : List Itm} {fs gs : List Flr}
theorem OkS.ent_in (h : OkS xs fs) {id : Int} {e : Key} (he : ent xs id = some e) : 0 ≤ id ∧ id ≤ 4 ∧ okE e.1 e.2.1 e.2.2.1 e.2.2.2.1 e.2.2.2.2 = true ∧ flo fs id < e.1 := h.ix _ ((ent_iff h.px).1 he)
theorem OkS.flo_nn (h : OkS xs fs) (id : Int) : 0 ≤ flo fs id ∧ flo fs id ≤ 1000 := by
  by_cases hc : flo fs id = 0
  · omega
  · have := h.jf _ ((flo_pos h.pf hc).1 rfl)
    simp only at this; omega
theorem OkS.flo_in (h : OkS xs fs) {id : Int} (hp : 0 < flo fs id) : 0 ≤ id ∧ id ≤ 4 := by
  have := h.jf _ ((flo_pos h.pf (c := flo fs id) (by omega)).1 rfl)
  simp only at this; omega
theorem okE_inc {e : Key} (h : okE e.1 e.2.1 e.2.2.1 e.2.2.2.1 e.2.2.2.2 = true) : 1 ≤ e.1 ∧ e.1 ≤ 1000 := by
  simp only [okE, Bool.and_eq_true, inB_iff] at h
  exact h.1.1.1.1
theorem okE_size {e : Key} (h : okE e.1 e.2.1 e.2.2.1 e.2.2.2.1 e.2.2.2.2 = true) : e.2.2.2.2.size ≤ 8 := by
  simp only [okE, Bool.and_eq_true, decide_eq_true_eq] at h
  have := h.2
  omega
/-- Two right states are one where they say the same of every node. -/
theorem list_of_mem {α : Type} {xs ys : List (Int × α)} (hx : xs.Pairwise (fun a b => a.1 < b.1)) (hy : ys.Pairwise (fun a b => a.1 < b.1)) (h : ∀ x, x ∈ xs ↔ x ∈ ys) : xs = ys := by
  have nx : xs.Nodup := hx.imp (fun h e => by rw [e] at h; omega)
  have ny : ys.Nodup := hy.imp (fun h e => by rw [e] at h; omega)
  refine List.Perm.eq_of_pairwise (le := fun a b => a.1 < b.1) (fun a b _ _ h1 h2 => by omega) hx hy ((List.perm_ext_iff_of_nodup nx ny).2 h)
theorem OkS.ext {xs ys : List Itm} {fs gs : List Flr} (hx : OkS xs fs) (hy : OkS ys gs) (he : ∀ id, ent xs id = ent ys id) (hf : ∀ id, flo fs id = flo gs id) : xs = ys ∧ fs = gs := by
  refine ⟨list_of_mem hx.px hy.px (fun x => ?_), list_of_mem hx.pf hy.pf (fun x => ?_)⟩
  · rw [show x = (x.1, x.2) from rfl, ← ent_iff hx.px, ← ent_iff hy.px, he]
  · rw [show x = (x.1, x.2) from rfl]
    constructor
    · intro h
      have := hx.jf _ h
      simp only at this
      rw [← flo_pos hy.pf (by omega), ← hf, flo_pos hx.pf (by omega)]; exact h
    · intro h
      have := hy.jf _ h
      simp only at this
      rw [← flo_pos hx.pf (by omega), hf, flo_pos hy.pf (by omega)]; exact h

theorem mem_jF1 {i : Nat} {f : Flr} : f ∈ jF1 fs gs i ↔ f.1 = i ∧ 0 < f.2 ∧ fl2 fs gs f.1 = f.2 := by
  unfold jF1
  split
  · rename_i h
    rw [List.mem_singleton]
    constructor
    · rintro rfl; exact ⟨rfl, h, rfl⟩
    · rintro ⟨h1, h2, h3⟩; rw [h1] at h3; exact Prod.ext h1 h3.symm
  · rename_i h
    simp only [List.not_mem_nil, false_iff]
    rintro ⟨h1, h2, h3⟩; rw [h1] at h3; omega
theorem mem_jF : ∀ {n : Nat} {f : Flr}, f ∈ jF fs gs n ↔ 0 ≤ f.1 ∧ f.1 < n ∧ 0 < f.2 ∧ fl2 fs gs f.1 = f.2
  | 0, f => by simp [jF]; omega
  | n + 1, f => by
    rw [jF, List.mem_append, mem_jF, mem_jF1]
    constructor
    · rintro (⟨h1, h2, h3⟩ | ⟨h1, h3⟩)
      · exact ⟨h1, by omega, h3⟩
      · exact ⟨by omega, by omega, h3⟩
    · rintro ⟨h1, h2, h3⟩
      by_cases h : f.1 = n
      · exact .inr ⟨h, h3⟩
      · exact .inl ⟨h1, by omega, h3⟩
theorem jF_pair : ∀ n : Nat, (jF fs gs n).Pairwise (fun a b => a.1 < b.1)
  | 0 => List.Pairwise.nil
  | n + 1 => by
    rw [jF, List.pairwise_append]
    refine ⟨jF_pair n, ?_, fun a ha b hb => ?_⟩
    · unfold jF1; split <;> simp
    · have := mem_jF.1 ha; have := mem_jF1.1 hb; omega
theorem mem_jI1 {i : Nat} {x : Itm} : x ∈ jI1 xs fs ys gs i ↔ x.1 = i ∧ jE (ent xs x.1) (ent ys x.1) = some x.2 ∧ fl2 fs gs x.1 < x.2.1 := by
  unfold jI1
  split
  · rename_i e he
    split
    · rename_i h
      rw [List.mem_singleton]
      constructor
      · rintro rfl; exact ⟨rfl, he, h⟩
      · rintro ⟨h1, h2, h3⟩; rw [h1, he] at h2; exact Prod.ext h1 (Option.some.inj h2).symm
    · rename_i h
      simp only [List.not_mem_nil, false_iff]
      rintro ⟨h1, h2, h3⟩; rw [h1, he] at h2; rw [h1, ← Option.some.inj h2] at h3; omega
  · rename_i he
    simp only [List.not_mem_nil, false_iff]
    rintro ⟨h1, h2, h3⟩; rw [h1, he] at h2; cases h2
theorem mem_jI : ∀ {n : Nat} {x : Itm}, x ∈ jI xs fs ys gs n ↔ 0 ≤ x.1 ∧ x.1 < n ∧ jE (ent xs x.1) (ent ys x.1) = some x.2 ∧ fl2 fs gs x.1 < x.2.1
  | 0, f => by simp [jI]; omega
  | n + 1, f => by
    rw [jI, List.mem_append, mem_jI, mem_jI1]
    constructor
    · rintro (⟨h1, h2, h3⟩ | ⟨h1, h3⟩)
      · exact ⟨h1, by omega, h3⟩
      · exact ⟨by omega, by omega, h3⟩
    · rintro ⟨h1, h2, h3⟩
      by_cases h : f.1 = n
      · exact .inr ⟨h, h3⟩
      · exact .inl ⟨h1, by omega, h3⟩
theorem jI_pair : ∀ n : Nat, (jI xs fs ys gs n).Pairwise (fun a b => a.1 < b.1)
  | 0 => List.Pairwise.nil
  | n + 1 => by
    rw [jI, List.pairwise_append]
    refine ⟨jI_pair n, ?_, fun a ha b hb => ?_⟩
    · unfold jI1; split
      · split <;> simp
      · simp
    · have := mem_jI.1 ha; have := mem_jI1.1 hb; omega

/-- Of both the one that is behind: right, if both are. -/
theorem mx_or (x y : Key) : mx x y = x ∨ mx x y = y := by
  unfold mx
  split
  · exact .inr rfl
  · exact .inl rfl
theorem jE_ok {a b : Option Key} {e : Key} (h : jE a b = some e) : a = some e ∨ b = some e := by
  cases a with
  | none => exact .inr h
  | some x =>
    cases b with
    | none => exact .inl h
    | some y =>
      simp only [jE, Option.some.injEq] at h
      rcases mx_or x y with q | q
      · left; rw [← h, q]
      · right; rw [← h, q]
theorem OkS.jE_in (hx : OkS xs fs) (hy : OkS ys gs) {id : Int} {e : Key} (h : jE (ent xs id) (ent ys id) = some e) : 0 ≤ id ∧ id ≤ 4 ∧ okE e.1 e.2.1 e.2.2.1 e.2.2.2.1 e.2.2.2.2 = true := by
  rcases jE_ok h with q | q
  · have := hx.ent_in q; exact ⟨this.1, this.2.1, this.2.2.1⟩
  · have := hy.ent_in q; exact ⟨this.1, this.2.1, this.2.2.1⟩
theorem OkS.fl2_nn (hx : OkS xs fs) (hy : OkS ys gs) (id : Int) : 0 ≤ fl2 fs gs id ∧ fl2 fs gs id ≤ 1000 ∧ fl2 fs gs id = max (flo fs id) (flo gs id) := by
  have := hx.flo_nn id; have := hy.flo_nn id
  unfold fl2; split <;> omega
theorem OkS.fl2_in (hx : OkS xs fs) (hy : OkS ys gs) {id : Int} (h : 0 < fl2 fs gs id) : 0 ≤ id ∧ id ≤ 4 := by
  unfold fl2 at h
  split at h
  · exact hy.flo_in h
  · exact hx.flo_in h
/-- The joined state, node by node. -/
theorem join_flo (hx : OkS xs fs) (hy : OkS ys gs) (id : Int) : flo (joinF fs gs) id = fl2 fs gs id := by
  have hn := hx.fl2_nn hy id
  by_cases h0 : fl2 fs gs id = 0
  · rw [h0]
    by_cases hc : flo (joinF fs gs) id = 0
    · exact hc
    · have := mem_jF.1 ((flo_pos (jF_pair 5) hc).1 rfl)
      simp only at this; omega
  · have hi := hx.fl2_in hy (id := id) (by omega)
    exact flo_mem (jF_pair 5) (mem_jF.2 ⟨hi.1, by simp only; omega, by simp only; omega, rfl⟩)
theorem join_ent (hx : OkS xs fs) (hy : OkS ys gs) (id : Int) : ent (joinI xs fs ys gs) id = (match jE (ent xs id) (ent ys id) with
    | some e => if fl2 fs gs id < e.1 then some e else none
    | none => none) := by
  apply Option.ext
  intro e
  rw [joinI, ent_iff (jI_pair 5), mem_jI]
  simp only
  constructor
  · rintro ⟨_, _, h3, h4⟩
    rw [h3]; simp [h4]
  · intro h
    cases hj : jE (ent xs id) (ent ys id) with
    | none => rw [hj] at h; simp at h
    | some e' =>
      rw [hj] at h
      simp only at h
      split at h
      · rename_i hlt
        cases h
        have := hx.jE_in hy hj
        exact ⟨this.1, by omega, rfl, hlt⟩
      · cases h
theorem OkS.join (hx : OkS xs fs) (hy : OkS ys gs) : OkS (joinI xs fs ys gs) (joinF fs gs) := by
  refine ⟨jI_pair 5, jF_pair 5, fun x hm => ?_, fun f hm => ?_⟩
  · have h := mem_jI.1 hm
    have hj := hx.jE_in hy h.2.2.1
    rw [join_flo hx hy]
    exact ⟨hj.1, hj.2.1, hj.2.2, h.2.2.2⟩
  · have h := mem_jF.1 hm
    have := hx.fl2_nn hy f.1
    omega
end
end Go.Proofs.Ytjlocbimkfocnaa

namespace Go.Proofs.Ytjlocbimkfocnaa
open Go.RowKit

theorem mx_inc (x y : Key) : (mx x y).1 = max x.1 y.1 := by
  by_cases h1 : x.1 < y.1
  · unfold mx keyC lexC cmpI
    simp only [h1, if_true]; simp; omega
  · by_cases h2 : y.1 < x.1
    · unfold mx keyC lexC cmpI
      simp only [h1, h2, if_true, if_false]; simp; omega
    · rcases mx_or x y with e | e <;> rw [e] <;> omega

/-- What is not over. -/
def keep (f : Int) : Option Key → Option Key
  | some e => if f < e.1 then some e else none
  | none => none
theorem join_ent' {xs ys : List Itm} {fs gs : List Flr} (hx : OkS xs fs) (hy : OkS ys gs) (id : Int) : ent (joinI xs fs ys gs) id = keep (fl2 fs gs id) (jE (ent xs id) (ent ys id)) := by
  rw [join_ent hx hy]
  cases jE (ent xs id) (ent ys id) <;> rfl
theorem jE_comm (a b : Option Key) : jE a b = jE b a := by
  cases a <;> cases b <;> simp [jE, mx_comm]
theorem jE_assoc (a b d : Option Key) : jE (jE a b) d = jE a (jE b d) := by
  cases a <;> cases b <;> cases d <;> simp [jE, mx_assoc]
theorem jE_self (a : Option Key) : jE a a = a := by
  cases a <;> simp [jE, mx_self]
theorem jE_none (a : Option Key) : jE a none = a := by cases a <;> rfl
theorem keep_jE {f f' : Int} (h : f ≤ f') (a d : Option Key) : keep f' (jE (keep f a) d) = keep f' (jE a d) := by
  cases a with
  | none => rfl
  | some a =>
    by_cases ha : f < a.1
    · simp [keep, ha]
    · cases d with
      | none => simp [keep, ha, jE]; omega
      | some d =>
        have hm := mx_inc a d
        simp only [keep, ha, if_false, jE]
        by_cases hd : f' < d.1
        · have : mx a d = d := by
            rcases mx_or a d with e | e
            · rw [e] at hm; omega
            · exact e
          rw [this]
        · rw [if_neg hd, if_neg (by omega)]
theorem OkS.keep_ent {xs : List Itm} {fs : List Flr} (h : OkS xs fs) (id : Int) {f : Int} (hf : f ≤ flo fs id) : keep f (ent xs id) = ent xs id := by
  cases e : ent xs id with
  | none => rfl
  | some k =>
    have := h.ent_in e
    simp [keep]; omega
theorem OkS.comm {xs ys : List Itm} {fs gs : List Flr} (hx : OkS xs fs) (hy : OkS ys gs) : joinI xs fs ys gs = joinI ys gs xs fs ∧ joinF fs gs = joinF gs fs := by
  refine OkS.ext (hx.join hy) (hy.join hx) (fun id => ?_) (fun id => ?_)
  · rw [join_ent' hx hy, join_ent' hy hx, jE_comm, (hx.fl2_nn hy id).2.2, (hy.fl2_nn hx id).2.2, Int.max_comm]
  · rw [join_flo hx hy, join_flo hy hx, (hx.fl2_nn hy id).2.2, (hy.fl2_nn hx id).2.2, Int.max_comm]
theorem OkS.again {xs ys : List Itm} {fs gs : List Flr} (hx : OkS xs fs) (hy : OkS ys gs) : joinI (joinI xs fs ys gs) (joinF fs gs) ys gs = joinI xs fs ys gs ∧ joinF (joinF fs gs) gs = joinF fs gs := by
  have hj := hx.join hy
  refine OkS.ext (hj.join hy) hj (fun id => ?_) (fun id => ?_)
  · have e : fl2 (joinF fs gs) gs id = fl2 fs gs id := by rw [(hj.fl2_nn hy id).2.2, join_flo hx hy, (hx.fl2_nn hy id).2.2]; omega
    rw [join_ent' hj hy, join_ent' hx hy, e, keep_jE (Int.le_refl _), jE_assoc, jE_self]
  · rw [join_flo hj hy, (hj.fl2_nn hy id).2.2, join_flo hx hy, (hx.fl2_nn hy id).2.2]; omega
theorem OkS.twice {xs : List Itm} {fs : List Flr} (hx : OkS xs fs) : joinI xs fs xs fs = xs ∧ joinF fs fs = fs := by
  refine OkS.ext (hx.join hx) hx (fun id => ?_) (fun id => ?_)
  · rw [join_ent' hx hx, jE_self, hx.keep_ent id (by rw [(hx.fl2_nn hx id).2.2]; omega)]
  · rw [join_flo hx hx, (hx.fl2_nn hx id).2.2]; omega
theorem OkS.assoc {xs ys zs : List Itm} {fs gs hs : List Flr} (hx : OkS xs fs) (hy : OkS ys gs) (hz : OkS zs hs) :
    joinI (joinI xs fs ys gs) (joinF fs gs) zs hs = joinI xs fs (joinI ys gs zs hs) (joinF gs hs) ∧ joinF (joinF fs gs) hs = joinF fs (joinF gs hs) := by
  have hj := hx.join hy
  have hk := hy.join hz
  have e1 : ∀ id, fl2 (joinF fs gs) hs id = max (max (flo fs id) (flo gs id)) (flo hs id) := fun id => by rw [(hj.fl2_nn hz id).2.2, join_flo hx hy, (hx.fl2_nn hy id).2.2]
  have e2 : ∀ id, fl2 fs (joinF gs hs) id = max (max (flo fs id) (flo gs id)) (flo hs id) := fun id => by rw [(hx.fl2_nn hk id).2.2, join_flo hy hz, (hy.fl2_nn hz id).2.2]; omega
  refine OkS.ext (hj.join hz) (hx.join hk) (fun id => ?_) (fun id => ?_)
  · rw [join_ent' hj hz, join_ent' hx hk, join_ent' hx hy, join_ent' hy hz, e1, e2, keep_jE (by rw [(hx.fl2_nn hy id).2.2]; omega), jE_comm (ent xs id) (keep _ _), keep_jE (by rw [(hy.fl2_nn hz id).2.2]; omega), jE_comm _ (ent xs id), jE_assoc]
  · rw [join_flo hj hz, join_flo hx hk, e1, e2]

/-- Of two the one that is to be held against the joined entry. -/
def mm (a b : Bool) (x y : Key) : Key := if b = false then x else if a = false then y else mx x y
theorem entR_ent {xs : List Itm} {id : Int} {x : Key} {a : Bool} (h : entR xs id = (x, a)) : ent xs id = if a then some x else none := by
  cases a
  · exact entR_false h
  · exact entR_true h
theorem OkS.each {xs ys : List Itm} {fs gs : List Flr} (hx : OkS xs fs) (hy : OkS ys gs) {id : Int} {x y e : Key} {a b c : Bool} (ha : entR xs id = (x, a)) (hb : entR ys id = (y, b)) (hj : entR (joinI xs fs ys gs) id = (e, c)) :
    c = ((a || b) && decide (fl2 fs gs id < (mm a b x y).1)) ∧ (c = true → e = mm a b x y) := by
  have h := entR_ent hj
  rw [join_ent' hx hy, entR_ent ha, entR_ent hb] at h
  cases a <;> cases b <;> cases c <;> simp [jE, keep, mm] at h ⊢ <;> first | omega | exact h | (obtain ⟨h1, rfl⟩ := h; exact ⟨h1, rfl⟩) | skip
theorem OkS.each_flo {xs ys : List Itm} {fs gs : List Flr} (hx : OkS xs fs) (hy : OkS ys gs) (id : Int) : flo (joinF fs gs) id = fl2 fs gs id ∧ ¬ fl2 fs gs id < flo fs id ∧ ¬ fl2 fs gs id < flo gs id ∧ (fl2 fs gs id = flo fs id ∨ fl2 fs gs id = flo gs id) := by
  have h := (hx.fl2_nn hy id).2.2
  exact ⟨join_flo hx hy id, by omega, by omega, by omega⟩

theorem OkS.nil : OkS [] [] := ⟨.nil, .nil, fun _ h => by simp at h, fun _ h => by simp at h⟩
theorem flo_nil (id : Int) : flo [] id = 0 := rfl
theorem ent_nil (id : Int) : ent [] id = none := rfl
theorem OkS.items {xs : List Itm} {fs : List Flr} (h : OkS xs fs) (k : Nat) : OkS (xs.take k) [] :=
  ⟨h.px.sublist (List.take_sublist k xs), .nil, fun x hx => by
    have := h.ix x (List.mem_of_mem_take hx)
    have := h.flo_nn x.1
    exact ⟨by omega, by omega, by simp_all, by rw [flo_nil]; omega⟩, fun _ h => by simp at h⟩
theorem OkS.floors {xs : List Itm} {fs : List Flr} (h : OkS xs fs) : OkS [] fs := ⟨.nil, h.pf, fun _ h => by simp at h, h.jf⟩
theorem OkS.one {xs : List Itm} {fs : List Flr} (h : OkS xs fs) {x : Itm} (hx : x ∈ xs) : OkS [x] [] :=
  ⟨by simp, .nil, fun y hy => by
    rw [List.mem_singleton] at hy
    subst hy
    have := h.ix y hx
    have := h.flo_nn y.1
    exact ⟨by omega, by omega, by simp_all, by rw [flo_nil]; omega⟩, fun _ h => by simp at h⟩
theorem opt_ext {a b : Option Key} (h : ∀ e, a = some e ↔ b = some e) : a = b := by
  cases a with
  | none => cases b with
    | none => rfl
    | some b => exact absurd ((h b).2 rfl) (by simp)
  | some a => exact ((h a).1 rfl).symm
theorem OkS.step {xs : List Itm} {fs : List Flr} (h : OkS xs fs) {k : Nat} {x : Itm} (hx : xs[k]? = some x) : joinI (xs.take k) [] [x] [] = xs.take (k + 1) ∧ joinF [] [] = [] := by
  have h1 := h.items k
  have hm : x ∈ xs := List.mem_of_getElem? hx
  have h2 := h.one hm
  have ht : xs.take (k + 1) = xs.take k ++ [x] := by rw [List.take_add_one, hx]; rfl
  have hp := (h.items (k + 1)).px
  rw [ht] at hp
  refine OkS.ext (h1.join h2) (h.items (k + 1)) (fun id => ?_) (fun id => ?_)
  · have z : fl2 [] [] id = 0 := rfl
    rw [join_ent' h1 h2, z]
    refine opt_ext fun e => ?_
    rw [ent_iff (h.items (k + 1)).px, ht, List.mem_append, List.mem_singleton]
    have hlt : ∀ e', (id, e') ∈ xs.take k → id < x.1 := fun e' he => (List.pairwise_append.1 hp).2.2 _ he _ (by simp)
    have hk : keep 0 (jE (ent (xs.take k) id) (ent [x] id)) = jE (ent (xs.take k) id) (ent [x] id) := by
      cases hj : jE (ent (xs.take k) id) (ent [x] id) with
      | none => rfl
      | some q =>
        have := okE_inc (OkS.jE_in h1 h2 hj).2.2
        simp [keep]; omega
    rw [hk]
    by_cases hid : x.1 = id
    · have e2 : ent [x] id = some x.2 := by simp [ent, hid]
      have e1 : ent (xs.take k) id = none := by
        cases hq : ent (xs.take k) id with
        | none => rfl
        | some q => have := hlt q ((ent_iff h1.px).1 hq); omega
      rw [e1, e2]
      constructor
      · intro he
        right
        simp [jE] at he
        rw [← hid, ← he]
      · rintro (he | he)
        · have := hlt e he; omega
        · rw [← he]; rfl
    · have e2 : ent [x] id = none := by simp [ent, hid]
      rw [e2, jE_none, ent_iff h1.px]
      constructor
      · exact .inl
      · rintro (he | he)
        · exact he
        · exact absurd (by rw [← he]) hid
  · rfl
theorem OkS.whole {xs : List Itm} {fs : List Flr} (h : OkS xs fs) : joinI xs [] [] fs = xs ∧ joinF [] fs = fs := by
  have h1 : OkS xs [] := by have := h.items xs.length; rwa [List.take_length] at this
  have h2 := h.floors
  have hz : ∀ id, fl2 [] fs id = flo fs id := fun id => by rw [(h1.fl2_nn h2 id).2.2, flo_nil]; have := h.flo_nn id; omega
  refine OkS.ext (h1.join h2) h (fun id => ?_) (fun id => ?_)
  · rw [join_ent' h1 h2, ent_nil, jE_none, hz, h.keep_ent id (Int.le_refl _)]
  · rw [join_flo h1 h2, hz]
end Go.Proofs.Ytjlocbimkfocnaa

namespace Go.Proofs.Ytjlocbimkfocnaa
open Go.RowKit

/-- Beneath. -/
def leqS (xs : List Itm) (fs : List Flr) (ys : List Itm) (gs : List Flr) : Bool := (okS xs fs && okS ys gs) && (decide (joinI xs fs ys gs = ys) && decide (joinF fs gs = gs))
theorem leqS_iff (xs : List Itm) (fs : List Flr) (ys : List Itm) (gs : List Flr) : leqS xs fs ys gs = true ↔ OkS xs fs ∧ OkS ys gs ∧ joinI xs fs ys gs = ys ∧ joinF fs gs = gs := by
  simp only [leqS, Bool.and_eq_true, decide_eq_true_eq, okS_iff, and_assoc]
theorem leqS_self (xs : List Itm) (fs : List Flr) : leqS xs fs xs fs = okS xs fs := by
  rcases Bool.eq_false_or_eq_true (okS xs fs) with h | h
  · rw [h, leqS_iff]
    have k := (okS_iff _ _).1 h
    exact ⟨k, k, k.twice⟩
  · simp [leqS, h]
theorem leqS_anti {xs : List Itm} {fs : List Flr} {ys : List Itm} {gs : List Flr} (h : leqS xs fs ys gs = true) (k : leqS ys gs xs fs = true) : xs = ys ∧ fs = gs := by
  obtain ⟨h1, h2, h3, h4⟩ := (leqS_iff _ _ _ _).1 h
  obtain ⟨_, _, k3, k4⟩ := (leqS_iff _ _ _ _).1 k
  have c := h1.comm h2
  exact ⟨by rw [← k3, ← c.1, h3], by rw [← k4, ← c.2, h4]⟩
theorem leqS_trans {xs : List Itm} {fs : List Flr} {ys : List Itm} {gs : List Flr} {zs : List Itm} {hs : List Flr} (h : leqS xs fs ys gs = true) (k : leqS ys gs zs hs = true) : leqS xs fs zs hs = true := by
  obtain ⟨h1, h2, h3, h4⟩ := (leqS_iff _ _ _ _).1 h
  obtain ⟨_, k2, k3, k4⟩ := (leqS_iff _ _ _ _).1 k
  have a := h1.assoc h2 k2
  rw [h3, h4, k3, k4] at a
  exact (leqS_iff _ _ _ _).2 ⟨h1, k2, a.1.symm, a.2.symm⟩

/-- An entry is newer than what is had. -/
def newr (e : Key) : Option Key → Bool
  | none => true
  | some x => decide (0 < keyC e x)
def lkI1 (xs : List Itm) (fs : List Flr) (y : Itm) : Bool := newr y.2 (ent xs y.1) && decide (flo fs y.1 < y.2.1)
def lkI (xs : List Itm) (fs : List Flr) (ys : List Itm) : List Itm := ys.filter (lkI1 xs fs)
def lkF1 (fs : List Flr) (f : Flr) : Bool := decide (flo fs f.1 < f.2)
def lkF (fs gs : List Flr) : List Flr := gs.filter (lkF1 fs)
theorem lkI_len (xs : List Itm) (fs : List Flr) (ys : List Itm) : (lkI xs fs ys).length ≤ ys.length := List.length_filter_le _ _
theorem lkF_len (fs gs : List Flr) : (lkF fs gs).length ≤ gs.length := List.length_filter_le _ _
theorem keyC_inc {a b : Key} (h : a.1 < b.1) : 0 < keyC b a := by
  unfold keyC lexC cmpI
  simp only [h, if_neg (show ¬ b.1 < a.1 by omega)]
  simp
theorem newr_zero {e : Key} (h : 1 ≤ e.1) : 0 < keyC e zeroK := keyC_inc (by simp only [zeroK]; omega)
/-- As the program asks it: against the zero entry where there is none. -/
theorem newr_R {xs : List Itm} {id : Int} {x : Key} {a : Bool} (h : entR xs id = (x, a)) {e : Key} (he : 1 ≤ e.1) : newr e (ent xs id) = decide (0 < keyC e x) := by
  have k := entR_ent h
  cases a
  · have : x = zeroK := by
      unfold entR at h
      cases hq : ent xs id with
      | none => rw [hq] at h; simp only [Prod.mk.injEq] at h; exact h.1.symm
      | some q => rw [hq] at h; simp at h
    rw [k, this]
    simp [newr, newr_zero he]
  · rw [k]; rfl

section
variable {xs ys : List Itm} {fs gs : List Flr}
theorem OkS.lacks (hy : OkS ys gs) (xs : List Itm) (fs : List Flr) : OkS (lkI xs fs ys) (lkF fs gs) := by
  have hf : ∀ id, flo (lkF fs gs) id ≤ flo gs id := fun id => by
    have hp : (lkF fs gs).Pairwise (fun a b => a.1 < b.1) := hy.pf.sublist List.filter_sublist
    by_cases h : flo (lkF fs gs) id = 0
    · rw [h]; exact (hy.flo_nn id).1
    · have hm := (flo_pos hp h).1 rfl
      rw [flo_mem hy.pf (List.mem_filter.1 hm).1]; omega
  refine ⟨hy.px.sublist List.filter_sublist, hy.pf.sublist List.filter_sublist, fun x hx => ?_, fun f h => hy.jf f (List.mem_filter.1 h).1⟩
  have h := hy.ix x (List.mem_filter.1 hx).1
  have := hf x.1
  exact ⟨h.1, h.2.1, h.2.2.1, by omega⟩
theorem lk_flo (hy : OkS ys gs) (fs : List Flr) (id : Int) : flo (lkF fs gs) id = if flo fs id < flo gs id then flo gs id else 0 := by
  have hp : (lkF fs gs).Pairwise (fun a b => a.1 < b.1) := hy.pf.sublist List.filter_sublist
  by_cases h : flo (lkF fs gs) id = 0
  · rw [h]
    split
    · rename_i hlt
      by_cases hz : flo gs id = 0
      · exact hz.symm
      · have hm := (flo_pos hy.pf hz).1 rfl
        have : (id, flo gs id) ∈ lkF fs gs := List.mem_filter.2 ⟨hm, by simp [lkF1, hlt]⟩
        rw [flo_mem hp this] at h
        exact h.symm
    · rfl
  · have hm := (flo_pos hp h).1 rfl
    obtain ⟨h1, h2⟩ := List.mem_filter.1 hm
    have e := flo_mem hy.pf h1
    simp only [lkF1, decide_eq_true_eq] at h2
    rw [e, if_pos h2]
theorem lk_ent (hy : OkS ys gs) (xs : List Itm) (fs : List Flr) (id : Int) : ent (lkI xs fs ys) id = (match ent ys id with
    | some e => if lkI1 xs fs (id, e) = true then some e else none
    | none => none) := by
  have hp : (lkI xs fs ys).Pairwise (fun a b => a.1 < b.1) := hy.px.sublist List.filter_sublist
  refine opt_ext fun e => ?_
  rw [ent_iff hp, lkI, List.mem_filter, ← ent_iff hy.px]
  cases hq : ent ys id with
  | none => simp
  | some q =>
    simp only [Option.some.injEq]
    constructor
    · rintro ⟨rfl, h⟩; rw [if_pos h]
    · intro h
      split at h
      · rename_i hk; cases h; exact ⟨rfl, hk⟩
      · cases h
theorem lk_fl2 (hx : OkS xs fs) (hy : OkS ys gs) (id : Int) : fl2 fs (lkF fs gs) id = fl2 fs gs id := by
  have := hx.flo_nn id
  unfold fl2
  rw [lk_flo hy]
  by_cases h : flo fs id < flo gs id
  · simp [h]
  · simp only [h, if_false]; split <;> omega
/-- With what it lacks a state is both joined. -/
theorem OkS.with (hx : OkS xs fs) (hy : OkS ys gs) : joinI xs fs (lkI xs fs ys) (lkF fs gs) = joinI xs fs ys gs ∧ joinF fs (lkF fs gs) = joinF fs gs := by
  have hl := hy.lacks xs fs
  refine OkS.ext (hx.join hl) (hx.join hy) (fun id => ?_) (fun id => ?_)
  · rw [join_ent' hx hl, join_ent' hx hy, lk_fl2 hx hy, lk_ent hy]
    cases hq : ent ys id with
    | none => rfl
    | some e =>
      simp only
      by_cases hk : lkI1 xs fs (id, e) = true
      · rw [if_pos hk]
      · rw [if_neg hk]
        simp only [lkI1, Bool.and_eq_true, decide_eq_true_eq, not_and] at hk
        rw [jE_none]
        by_cases hlt : flo fs id < e.1
        · cases ha : ent xs id with
          | none => exact absurd hlt (hk (by rw [ha]; rfl))
          | some x =>
            have hn : ¬ 0 < keyC e x := fun h => hk (by rw [ha]; simp [newr, h]) hlt
            have an := keyC_is.anti x e
            have : mx x e = x := by unfold mx; rw [if_neg (by omega)]
            simp only [jE, this]
        · have hfl := (hx.fl2_nn hy id).2.2
          rw [jE_comm, ← keep_jE (Int.le_refl _) (some e)]
          have : keep (fl2 fs gs id) (some e) = none := by
            simp only [keep]; rw [if_neg (by omega)]
          rw [this]
          rfl
  · rw [join_flo hx hl, join_flo hx hy, lk_fl2 hx hy]
theorem OkS.leq_join (hx : OkS xs fs) (hy : OkS ys gs) : leqS xs fs (joinI xs fs ys gs) (joinF fs gs) = true := by
  have a := hx.assoc hx hy
  have t := hx.twice
  rw [t.1, t.2] at a
  exact (leqS_iff _ _ _ _).2 ⟨hx, hx.join hy, a.1.symm, a.2.symm⟩
theorem OkS.leq_join' (hx : OkS xs fs) (hy : OkS ys gs) : leqS ys gs (joinI xs fs ys gs) (joinF fs gs) = true := by
  have c := hx.comm hy
  rw [c.1, c.2]
  exact hy.leq_join hx
theorem OkS.lacks_leq (hy : OkS ys gs) (xs : List Itm) (fs : List Flr) : leqS (lkI xs fs ys) (lkF fs gs) ys gs = true := by
  have hl := hy.lacks xs fs
  have hfe : ∀ id, fl2 (lkF fs gs) gs id = flo gs id := fun id => by
    have := hy.flo_nn id
    rw [(hl.fl2_nn hy id).2.2, lk_flo hy]
    split <;> omega
  refine (leqS_iff _ _ _ _).2 ⟨hl, hy, OkS.ext (hl.join hy) hy (fun id => ?_) (fun id => ?_)⟩
  · rw [join_ent' hl hy, hfe]
    have : jE (ent (lkI xs fs ys) id) (ent ys id) = ent ys id := by
      rw [lk_ent hy]
      cases ent ys id with
      | none => rfl
      | some e =>
        simp only
        split
        · exact jE_self _
        · rfl
    rw [this, hy.keep_ent id (Int.le_refl _)]
  · rw [join_flo hl hy, hfe]
theorem OkS.lacks_none (hx : OkS xs fs) (hy : OkS ys gs) : lkI (joinI xs fs ys gs) (joinF fs gs) ys = [] ∧ lkF (joinF fs gs) gs = [] := by
  refine ⟨List.filter_eq_nil_iff.2 fun y hm => ?_, List.filter_eq_nil_iff.2 fun f hm => ?_⟩
  · have he := (ent_iff (id := y.1) (e := y.2) hy.px).2 hm
    simp only [lkI1, Bool.and_eq_true, decide_eq_true_eq, not_and]
    intro hn hlt
    rw [join_flo hx hy] at hlt
    rw [join_ent' hx hy, he] at hn
    cases ha : ent xs y.1 with
    | none =>
      rw [ha] at hn
      simp only [jE, keep, if_pos hlt, newr, decide_eq_true_eq] at hn
      have := (keyC_is.zero y.2 y.2).2 rfl
      omega
    | some x =>
      rw [ha] at hn
      have hi := mx_inc x y.2
      have hle := (mx_le x y.2).2.1
      have an := keyC_is.anti (mx x y.2) y.2
      simp only [jE, keep, if_pos (show fl2 fs gs y.1 < (mx x y.2).1 by omega), newr, decide_eq_true_eq] at hn
      omega
  · have he := flo_mem (id := f.1) (c := f.2) hy.pf hm
    have := (hx.fl2_nn hy f.1).2.2
    simp only [lkF1, decide_eq_true_eq, join_flo hx hy]
    omega

/-- How far one is over. -/
def gone (xs : List Itm) (fs : List Flr) (id : Int) : Int := if okS xs fs = true then (match ent xs id with
    | none => flo fs id
    | some e => if e.2.1 = 0 then e.1 - 1 else e.1) else 0
def upI (xs : List Itm) : List Itm := xs.filter fun x => x.2.2.1 == 0
def vw (xs : List Itm) (fs : List Flr) : List Itm := if okS xs fs = true then upI xs else []
theorem okE_rank {e : Key} (h : okE e.1 e.2.1 e.2.2.1 e.2.2.2.1 e.2.2.2.2 = true) : e.2.1 = 0 ∨ e.2.1 = 1 := by
  simp only [okE, Bool.and_eq_true, inB_iff] at h
  have := h.1.1.1.2
  omega
theorem mx_rank {x y : Key} (h : (mx x y).1 = x.1) : x.2.1 ≤ (mx x y).2.1 := by
  rcases mx_or x y with e | e
  · rw [e]; omega
  · rw [e] at h ⊢
    have hle := (mx_le x y).1
    rw [e] at hle
    unfold keyC lexC cmpI at hle
    simp only [h, Int.lt_irrefl, if_false, if_true] at hle
    by_cases hq : x.2.1 ≤ y.2.1
    · exact hq
    · exfalso
      rw [if_neg (by split <;> omega)] at hle
      split at hle <;> omega
theorem gone_ok (hx : OkS xs fs) (id : Int) : gone xs fs id = (match ent xs id with
    | none => flo fs id
    | some e => if e.2.1 = 0 then e.1 - 1 else e.1) := by
  rw [gone, if_pos ((okS_iff _ _).2 hx)]
/-- What is over stays over. -/
theorem OkS.over (hx : OkS xs fs) (hy : OkS ys gs) (id : Int) : gone xs fs id ≤ gone (joinI xs fs ys gs) (joinF fs gs) id ∧ ∀ e, ent (joinI xs fs ys gs) id = some e → e.2.1 = 0 → gone xs fs id < e.1 := by
  have hj := hx.join hy
  have hfl := (hx.fl2_nn hy id).2.2
  have hff := hx.flo_nn id
  rw [gone_ok hx, gone_ok hj, join_flo hx hy, join_ent' hx hy]
  cases ha : ent xs id with
  | none =>
    simp only
    have hk : ∀ e, keep (fl2 fs gs id) (jE none (ent ys id)) = some e → fl2 fs gs id < e.1 := fun e he => by
      cases hb : ent ys id with
      | none => rw [hb] at he; cases he
      | some y =>
        rw [hb] at he
        simp only [jE, keep] at he
        split at he
        · cases he; assumption
        · cases he
    refine ⟨?_, fun e he _ => by have := hk e he; omega⟩
    cases hq : keep (fl2 fs gs id) (jE none (ent ys id)) with
    | none => simp only; omega
    | some e =>
      have := hk e hq
      simp only
      split <;> omega
  | some x =>
    obtain ⟨m, hm, hle, hrk⟩ : ∃ m, jE (some x) (ent ys id) = some m ∧ x.1 ≤ m.1 ∧ (m.1 = x.1 → x.2.1 ≤ m.2.1) := by
      cases hb : ent ys id with
      | none => exact ⟨x, rfl, Int.le_refl _, fun _ => Int.le_refl _⟩
      | some y =>
        have := mx_inc x y
        exact ⟨mx x y, rfl, by omega, fun h => mx_rank h⟩
    have hr := okE_rank (hx.ent_in ha).2.2.1
    have hmo := okE_rank (hx.jE_in hy (by rw [ha]; exact hm)).2.2
    rw [hm]
    simp only [keep]
    by_cases hlt : fl2 fs gs id < m.1
    · rw [if_pos hlt]
      simp only
      refine ⟨?_, fun e he hz => ?_⟩
      · by_cases h : m.1 = x.1
        · have := hrk h
          split <;> split <;> omega
        · split <;> split <;> omega
      · cases he
        by_cases h : m.1 = x.1
        · have := hrk h
          rw [if_pos (by omega)]; omega
        · split <;> omega
    · rw [if_neg hlt]
      simp only
      refine ⟨?_, fun e he => by cases he⟩
      split <;> omega
end
theorem take_filter {α : Type} {p : α → Bool} {xs : List α} {k : Nat} {x : α} (hx : xs[k]? = some x) : (xs.take (k + 1)).filter p = (xs.take k).filter p ++ if p x = true then [x] else [] := by
  rw [List.take_add_one, hx, List.filter_append]
  congr 1
  cases h : p x <;> simp [h]
theorem OkS.len5 {xs : List Itm} {fs : List Flr} (h : OkS xs fs) : xs.length ≤ 5 ∧ fs.length ≤ 5 := by
  have t := h.twice
  have h1 := jI_len xs fs xs fs 5
  have h2 := jF_len fs fs 5
  exact ⟨by have := congrArg List.length t.1; unfold joinI at this; omega, by have := congrArg List.length t.2; unfold joinF at this; omega⟩
theorem OkS.sml {xs : List Itm} {fs : List Flr} (h : OkS xs fs) : Sml xs := fun _ x hk => by
  have := okE_size (h.ix x (List.mem_of_getElem? hk)).2.2.1
  omega
end Go.Proofs.Ytjlocbimkfocnaa
