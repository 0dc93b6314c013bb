/-
  What is joined of right states does not hang on their order, nor on how often; a state is its items and floors joined: plain lists. No program here, no statement is proved here.
-/
import Derived.Test.YtnalnjokijbhbaaJnP
namespace Go.Proofs.Ytnalnjokijbhbaa
open Go.RowKit

theorem mx_inc (x y : Key) : (mx x y).1 = max x.1 y.1 := by
  by_cases h1 : x.1 < y.1
  · unfold mx keyC lexC cmpI
    simp only [h1, if_true]; simp; omega
  · by_cases h2 : y.1 < x.1
    · unfold mx keyC lexC cmpI
      simp only [h1, h2, if_true, if_false]; simp; omega
    · rcases mx_or x y with e | e <;> rw [e] <;> omega

/-- What is not over. -/
def keep (f : Int) : Option Key → Option Key
  | some e => if f < e.1 then some e else none
  | none => none
theorem join_ent' {xs ys : List Itm} {fs gs : List Flr} (hx : OkS xs fs) (hy : OkS ys gs) (id : Int) : ent (joinI xs fs ys gs) id = keep (fl2 fs gs id) (jE (ent xs id) (ent ys id)) := by
  rw [join_ent hx hy]
  cases jE (ent xs id) (ent ys id) <;> rfl
theorem jE_comm (a b : Option Key) : jE a b = jE b a := by
  cases a <;> cases b <;> simp [jE, mx_comm]
theorem jE_assoc (a b d : Option Key) : jE (jE a b) d = jE a (jE b d) := by
  cases a <;> cases b <;> cases d <;> simp [jE, mx_assoc]
theorem jE_self (a : Option Key) : jE a a = a := by
  cases a <;> simp [jE, mx_self]
theorem jE_none (a : Option Key) : jE a none = a := by cases a <;> rfl
theorem keep_jE {f f' : Int} (h : f ≤ f') (a d : Option Key) : keep f' (jE (keep f a) d) = keep f' (jE a d) := by
  cases a with
  | none => rfl
  | some a =>
    by_cases ha : f < a.1
    · simp [keep, ha]
    · cases d with
      | none => simp [keep, ha, jE]; omega
      | some d =>
        have hm := mx_inc a d
        simp only [keep, ha, if_false, jE]
        by_cases hd : f' < d.1
        · have : mx a d = d := by
            rcases mx_or a d with e | e
            · rw [e] at hm; omega
            · exact e
          rw [this]
        · rw [if_neg hd, if_neg (by omega)]
theorem OkS.keep_ent {xs : List Itm} {fs : List Flr} (h : OkS xs fs) (id : Int) {f : Int} (hf : f ≤ flo fs id) : keep f (ent xs id) = ent xs id := by
  cases e : ent xs id with
  | none => rfl
  | some k =>
    have := h.ent_in e
    simp [keep]; omega
theorem OkS.comm {xs ys : List Itm} {fs gs : List Flr} (hx : OkS xs fs) (hy : OkS ys gs) : joinI xs fs ys gs = joinI ys gs xs fs ∧ joinF fs gs = joinF gs fs := by
  refine OkS.ext (hx.join hy) (hy.join hx) (fun id => ?_) (fun id => ?_)
  · rw [join_ent' hx hy, join_ent' hy hx, jE_comm, (hx.fl2_nn hy id).2.2, (hy.fl2_nn hx id).2.2, Int.max_comm]
  · rw [join_flo hx hy, join_flo hy hx, (hx.fl2_nn hy id).2.2, (hy.fl2_nn hx id).2.2, Int.max_comm]
theorem OkS.again {xs ys : List Itm} {fs gs : List Flr} (hx : OkS xs fs) (hy : OkS ys gs) : joinI (joinI xs fs ys gs) (joinF fs gs) ys gs = joinI xs fs ys gs ∧ joinF (joinF fs gs) gs = joinF fs gs := by
  have hj := hx.join hy
  refine OkS.ext (hj.join hy) hj (fun id => ?_) (fun id => ?_)
  · have e : fl2 (joinF fs gs) gs id = fl2 fs gs id := by rw [(hj.fl2_nn hy id).2.2, join_flo hx hy, (hx.fl2_nn hy id).2.2]; omega
    rw [join_ent' hj hy, join_ent' hx hy, e, keep_jE (Int.le_refl _), jE_assoc, jE_self]
  · rw [join_flo hj hy, (hj.fl2_nn hy id).2.2, join_flo hx hy, (hx.fl2_nn hy id).2.2]; omega
theorem OkS.twice {xs : List Itm} {fs : List Flr} (hx : OkS xs fs) : joinI xs fs xs fs = xs ∧ joinF fs fs = fs := by
  refine OkS.ext (hx.join hx) hx (fun id => ?_) (fun id => ?_)
  · rw [join_ent' hx hx, jE_self, hx.keep_ent id (by rw [(hx.fl2_nn hx id).2.2]; omega)]
  · rw [join_flo hx hx, (hx.fl2_nn hx id).2.2]; omega
theorem OkS.assoc {xs ys zs : List Itm} {fs gs hs : List Flr} (hx : OkS xs fs) (hy : OkS ys gs) (hz : OkS zs hs) :
    joinI (joinI xs fs ys gs) (joinF fs gs) zs hs = joinI xs fs (joinI ys gs zs hs) (joinF gs hs) ∧ joinF (joinF fs gs) hs = joinF fs (joinF gs hs) := by
  have hj := hx.join hy
  have hk := hy.join hz
  have e1 : ∀ id, fl2 (joinF fs gs) hs id = max (max (flo fs id) (flo gs id)) (flo hs id) := fun id => by rw [(hj.fl2_nn hz id).2.2, join_flo hx hy, (hx.fl2_nn hy id).2.2]
  have e2 : ∀ id, fl2 fs (joinF gs hs) id = max (max (flo fs id) (flo gs id)) (flo hs id) := fun id => by rw [(hx.fl2_nn hk id).2.2, join_flo hy hz, (hy.fl2_nn hz id).2.2]; omega
  refine OkS.ext (hj.join hz) (hx.join hk) (fun id => ?_) (fun id => ?_)
  · rw [join_ent' hj hz, join_ent' hx hk, join_ent' hx hy, join_ent' hy hz, e1, e2, keep_jE (by rw [(hx.fl2_nn hy id).2.2]; omega), jE_comm (ent xs id) (keep _ _), keep_jE (by rw [(hy.fl2_nn hz id).2.2]; omega), jE_comm _ (ent xs id), jE_assoc]
  · rw [join_flo hj hz, join_flo hx hk, e1, e2]

/-- Of two the one that is to be held against the joined entry. -/
def mm (a b : Bool) (x y : Key) : Key := if b = false then x else if a = false then y else mx x y
theorem entR_ent {xs : List Itm} {id : Int} {x : Key} {a : Bool} (h : entR xs id = (x, a)) : ent xs id = if a then some x else none := by
  cases a
  · exact entR_false h
  · exact entR_true h
theorem OkS.each {xs ys : List Itm} {fs gs : List Flr} (hx : OkS xs fs) (hy : OkS ys gs) {id : Int} {x y e : Key} {a b c : Bool} (ha : entR xs id = (x, a)) (hb : entR ys id = (y, b)) (hj : entR (joinI xs fs ys gs) id = (e, c)) :
    c = ((a || b) && decide (fl2 fs gs id < (mm a b x y).1)) ∧ (c = true → e = mm a b x y) := by
  have h := entR_ent hj
  rw [join_ent' hx hy, entR_ent ha, entR_ent hb] at h
  cases a <;> cases b <;> cases c <;> simp [jE, keep, mm] at h ⊢ <;> first | omega | exact h | (obtain ⟨h1, rfl⟩ := h; exact ⟨h1, rfl⟩) | skip
theorem OkS.each_flo {xs ys : List Itm} {fs gs : List Flr} (hx : OkS xs fs) (hy : OkS ys gs) (id : Int) : flo (joinF fs gs) id = fl2 fs gs id ∧ ¬ fl2 fs gs id < flo fs id ∧ ¬ fl2 fs gs id < flo gs id ∧ (fl2 fs gs id = flo fs id ∨ fl2 fs gs id = flo gs id) := by
  have h := (hx.fl2_nn hy id).2.2
  exact ⟨join_flo hx hy id, by omega, by omega, by omega⟩

theorem OkS.nil : OkS [] [] := ⟨.nil, .nil, fun _ h => by simp at h, fun _ h => by simp at h⟩
theorem flo_nil (id : Int) : flo [] id = 0 := rfl
theorem ent_nil (id : Int) : ent [] id = none := rfl
theorem OkS.items {xs : List Itm} {fs : List Flr} (h : OkS xs fs) (k : Nat) : OkS (xs.take k) [] :=
  ⟨h.px.sublist (List.take_sublist k xs), .nil, fun x hx => by
    have := h.ix x (List.mem_of_mem_take hx)
    have := h.flo_nn x.1
    exact ⟨by omega, by omega, by simp_all, by rw [flo_nil]; omega⟩, fun _ h => by simp at h⟩
theorem OkS.floors {xs : List Itm} {fs : List Flr} (h : OkS xs fs) : OkS [] fs := ⟨.nil, h.pf, fun _ h => by simp at h, h.jf⟩
theorem OkS.one {xs : List Itm} {fs : List Flr} (h : OkS xs fs) {x : Itm} (hx : x ∈ xs) : OkS [x] [] :=
  ⟨by simp, .nil, fun y hy => by
    rw [List.mem_singleton] at hy
    subst hy
    have := h.ix y hx
    have := h.flo_nn y.1
    exact ⟨by omega, by omega, by simp_all, by rw [flo_nil]; omega⟩, fun _ h => by simp at h⟩
theorem opt_ext {a b : Option Key} (h : ∀ e, a = some e ↔ b = some e) : a = b := by
  cases a with
  | none => cases b with
    | none => rfl
    | some b => exact absurd ((h b).2 rfl) (by simp)
  | some a => exact ((h a).1 rfl).symm
theorem OkS.step {xs : List Itm} {fs : List Flr} (h : OkS xs fs) {k : Nat} {x : Itm} (hx : xs[k]? = some x) : joinI (xs.take k) [] [x] [] = xs.take (k + 1) ∧ joinF [] [] = [] := by
  have h1 := h.items k
  have hm : x ∈ xs := List.mem_of_getElem? hx
  have h2 := h.one hm
  have ht : xs.take (k + 1) = xs.take k ++ [x] := by rw [List.take_add_one, hx]; rfl
  have hp := (h.items (k + 1)).px
  rw [ht] at hp
  refine OkS.ext (h1.join h2) (h.items (k + 1)) (fun id => ?_) (fun id => ?_)
  · have z : fl2 [] [] id = 0 := rfl
    rw [join_ent' h1 h2, z]
    refine opt_ext fun e => ?_
    rw [ent_iff (h.items (k + 1)).px, ht, List.mem_append, List.mem_singleton]
    have hlt : ∀ e', (id, e') ∈ xs.take k → id < x.1 := fun e' he => (List.pairwise_append.1 hp).2.2 _ he _ (by simp)
    have hk : keep 0 (jE (ent (xs.take k) id) (ent [x] id)) = jE (ent (xs.take k) id) (ent [x] id) := by
      cases hj : jE (ent (xs.take k) id) (ent [x] id) with
      | none => rfl
      | some q =>
        have := okE_inc (OkS.jE_in h1 h2 hj).2.2
        simp [keep]; omega
    rw [hk]
    by_cases hid : x.1 = id
    · have e2 : ent [x] id = some x.2 := by simp [ent, hid]
      have e1 : ent (xs.take k) id = none := by
        cases hq : ent (xs.take k) id with
        | none => rfl
        | some q => have := hlt q ((ent_iff h1.px).1 hq); omega
      rw [e1, e2]
      constructor
      · intro he
        right
        simp [jE] at he
        rw [← hid, ← he]
      · rintro (he | he)
        · have := hlt e he; omega
        · rw [← he]; rfl
    · have e2 : ent [x] id = none := by simp [ent, hid]
      rw [e2, jE_none, ent_iff h1.px]
      constructor
      · exact .inl
      · rintro (he | he)
        · exact he
        · exact absurd (by rw [← he]) hid
  · rfl
theorem OkS.whole {xs : List Itm} {fs : List Flr} (h : OkS xs fs) : joinI xs [] [] fs = xs ∧ joinF [] fs = fs := by
  have h1 : OkS xs [] := by have := h.items xs.length; rwa [List.take_length] at this
  have h2 := h.floors
  have hz : ∀ id, fl2 [] fs id = flo fs id := fun id => by rw [(h1.fl2_nn h2 id).2.2, flo_nil]; have := h.flo_nn id; omega
  refine OkS.ext (h1.join h2) h (fun id => ?_) (fun id => ?_)
  · rw [join_ent' h1 h2, ent_nil, jE_none, hz, h.keep_ent id (Int.le_refl _)]
  · rw [join_flo h1 h2, hz]
end Go.Proofs.Ytnalnjokijbhbaa
