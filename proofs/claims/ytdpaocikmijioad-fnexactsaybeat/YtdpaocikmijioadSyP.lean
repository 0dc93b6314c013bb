/-
  What may be said: plain lists. No program here, no statement is proved here.
-/
import Derived.Test.YtdpaocikmijioadVwP
import Derived.Test.YtdpaocikmijioadStSg
import Derived.Test.YtdpaocikmijioadApp2
namespace Go.Proofs.Ytdpaocikmijioad
open Go.RowKit

/-- The entry that a change says, and the code (0: it may be said). -/
def chJ (there : Bool) (inc : Int) : Key × Int := if there = true then (zeroK, 2) else if (inc == 1000) = true then (zeroK, 4) else ((inc + 1, 0, 0, 0, ⟨#[]⟩), 0)
def chB (there : Bool) (r : Key) : Key × Int := if there = false then (zeroK, 3) else if (r.2.2.1 == 100000) = true then (zeroK, 4) else ((r.1, r.2.1, r.2.2.1 + 1, r.2.2.2.1, r.2.2.2.2), 0)
def chS (d : ByteArray) (there : Bool) (r : Key) : Key × Int := if there = false then (zeroK, 3) else if (r.2.2.2.1 == 1000) = true then (zeroK, 4) else if decide (8 < (d.size : Int)) = true then (zeroK, 4) else ((r.1, r.2.1, r.2.2.1, r.2.2.2.1 + 1, d), 0)
def chG (there : Bool) (r : Key) : Key × Int := if there = false then (zeroK, 3) else ((r.1, 1, r.2.2.1, r.2.2.2.1, r.2.2.2.2), 0)
def lastI (xs : List Itm) (fs : List Flr) (id : Int) : Int := max (entR xs id).1.1 (flo fs id)
def chg (k : Nat) (d : ByteArray) (xs : List Itm) (fs : List Flr) (id : Int) : Key × Int := match k with
  | 0 => chJ (entR (vw xs fs) id).2 (lastI xs fs id)
  | 1 => chB (entR (vw xs fs) id).2 (entR (vw xs fs) id).1
  | 2 => chS d (entR (vw xs fs) id).2 (entR (vw xs fs) id).1
  | _ => chG (entR (vw xs fs) id).2 (entR (vw xs fs) id).1
/-- What is said: one item, or none; the code. -/
def sayL (k : Nat) (d : ByteArray) (xs : List Itm) (fs : List Flr) (id : Int) : List Itm := if (okS xs fs && inB id 0 4) = true then (if (chg k d xs fs id).2 = 0 then [(id, (chg k d xs fs id).1)] else []) else []
def sayC (k : Nat) (d : ByteArray) (xs : List Itm) (fs : List Flr) (id : Int) : Int := if (okS xs fs && inB id 0 4) = true then (chg k d xs fs id).2 else 1

theorem sayL_len (k : Nat) (d : ByteArray) (xs : List Itm) (fs : List Flr) (id : Int) : (sayL k d xs fs id).length ≤ 1 := by
  unfold sayL; split
  · split <;> simp
  · simp

section
variable {xs : List Itm} {fs : List Flr}
theorem vw_ok (hx : OkS xs fs) : vw xs fs = upI xs := by rw [vw, if_pos ((okS_iff _ _).2 hx)]
theorem upI_ent (hx : OkS xs fs) (id : Int) (e : Key) : ent (upI xs) id = some e ↔ ent xs id = some e ∧ e.2.1 = 0 := by
  have hp : (upI xs).Pairwise (fun a b => a.1 < b.1) := hx.px.sublist List.filter_sublist
  rw [ent_iff hp, ent_iff hx.px, upI, List.mem_filter]
  simp
/-- One that is found is up; one that is not found is none, or gone. -/
theorem there_iff (hx : OkS xs fs) {id : Int} {r : Key} {t : Bool} (h : entR (vw xs fs) id = (r, t)) : (t = true → ent xs id = some r ∧ r.2.1 = 0) ∧ (t = false → r = zeroK ∧ ∀ e, ent xs id = some e → e.2.1 = 1) := by
  have he := entR_ent h
  rw [vw_ok hx] at he
  constructor
  · intro ht; subst ht
    exact (upI_ent hx id r).1 (by simpa using he)
  · intro ht; subst ht
    refine ⟨?_, fun e hm => ?_⟩
    · have := h
      rw [entR, vw_ok hx] at this
      rw [show ent (upI xs) id = none by simpa using he] at this
      simp only [Prod.mk.injEq] at this
      exact this.1.symm
    · rcases okE_rank (hx.ent_in hm).2.2.1 with hr | hr
      · have := (upI_ent hx id e).2 ⟨hm, hr⟩
        rw [this] at he; simp at he
      · exact hr
theorem lastI_is (xs : List Itm) (fs : List Flr) (id : Int) : lastI xs fs id = max (match ent xs id with | some e => e.1 | none => 0) (flo fs id) := by
  rw [lastI, entR]
  cases ent xs id <;> rfl
theorem lastI_nn (hx : OkS xs fs) (id : Int) : 0 ≤ lastI xs fs id ∧ lastI xs fs id ≤ 1000 ∧ flo fs id ≤ lastI xs fs id ∧ (∀ e, ent xs id = some e → lastI xs fs id = e.1) ∧ (ent xs id = none → lastI xs fs id = flo fs id) := by
  have hf := hx.flo_nn id
  rw [lastI_is]
  cases he : ent xs id with
  | none => refine ⟨by simp only; omega, by simp only; omega, by simp only; omega, fun e h => (by cases h), fun _ => by simp only; omega⟩
  | some e =>
    have hi := hx.ent_in he
    have := okE_inc hi.2.2.1
    refine ⟨by simp only; omega, by simp only; omega, by simp only; omega, fun e' h => by cases h; simp only; omega, fun h => by cases h⟩
theorem okE_all {e : Key} : okE e.1 e.2.1 e.2.2.1 e.2.2.2.1 e.2.2.2.2 = true ↔ (1 ≤ e.1 ∧ e.1 ≤ 1000) ∧ (0 ≤ e.2.1 ∧ e.2.1 ≤ 1) ∧ (0 ≤ e.2.2.1 ∧ e.2.2.1 ≤ 100000) ∧ (0 ≤ e.2.2.2.1 ∧ e.2.2.2.1 ≤ 1000) ∧ (e.2.2.2.2.size : Int) ≤ 8 := by
  simp only [okE, Bool.and_eq_true, inB_iff, decide_eq_true_eq]
  constructor
  · rintro ⟨⟨⟨⟨a, b⟩, c⟩, d⟩, e⟩; exact ⟨a, b, c, d, e⟩
  · rintro ⟨a, b, c, d, e⟩; exact ⟨⟨⟨⟨a, b⟩, c⟩, d⟩, e⟩

theorem key_inc {x y : Key} (h : x.1 < y.1) : 0 < keyC y x := keyC_inc h
theorem key_rank {x y : Key} (h0 : y.1 = x.1) (h : x.2.1 < y.2.1) : 0 < keyC y x := by
  obtain ⟨a, b, c, d, e⟩ := x; obtain ⟨a', b', c', d', e'⟩ := y
  simp only at h0 h; subst h0
  unfold keyC lexC cmpI; simp; omega
theorem key_beat {x y : Key} (h0 : y.1 = x.1) (h1 : y.2.1 = x.2.1) (h : x.2.2.1 < y.2.2.1) : 0 < keyC y x := by
  obtain ⟨a, b, c, d, e⟩ := x; obtain ⟨a', b', c', d', e'⟩ := y
  simp only at h0 h1 h; subst h0 h1
  unfold keyC lexC cmpI; simp; omega
theorem key_ver {x y : Key} (h0 : y.1 = x.1) (h1 : y.2.1 = x.2.1) (h2 : y.2.2.1 = x.2.2.1) (h : x.2.2.2.1 < y.2.2.2.1) : 0 < keyC y x := by
  obtain ⟨a, b, c, d, e⟩ := x; obtain ⟨a', b', c', d', e'⟩ := y
  simp only at h0 h1 h2 h; subst h0 h1 h2
  unfold keyC lexC cmpI; simp; omega

/-- What may be said: right, not over, behind what was; up, unless one goes. -/
structure Said (k : Nat) (xs : List Itm) (fs : List Flr) (id : Int) (e : Key) : Prop where
  ok : okE e.1 e.2.1 e.2.2.1 e.2.2.2.1 e.2.2.2.2 = true
  fl : flo fs id < e.1
  nw : ∀ o, ent xs id = some o → 0 < keyC e o
  rk : e.2.1 = if k = 3 then 1 else 0
  gn : k = 0 → gone xs fs id < e.1
theorem chg_said (k : Nat) (hk : k < 4) (d : ByteArray) (hx : OkS xs fs) {id : Int} (hc : (chg k d xs fs id).2 = 0) : Said k xs fs id (chg k d xs fs id).1 := by
  obtain ⟨r, t, hr⟩ : ∃ r t, entR (vw xs fs) id = (r, t) := ⟨_, _, rfl⟩
  obtain ⟨h1, h2⟩ := there_iff hx hr
  obtain ⟨l1, l2, l3, l4, l5⟩ := lastI_nn hx id
  have hz := okE_all (e := (0, 0, 0, 0, ⟨#[]⟩))
  rcases (by omega : k = 0 ∨ k = 1 ∨ k = 2 ∨ k = 3) with rfl | rfl | rfl | rfl
  · simp only [chg, hr, chJ] at hc ⊢
    cases t
    · simp only [Bool.false_eq_true, if_false] at hc ⊢
      by_cases hm : (lastI xs fs id == 1000) = true
      · rw [if_pos hm] at hc; simp at hc
      · rw [if_neg hm]
        have hm' : lastI xs fs id ≠ 1000 := by simpa using hm
        refine ⟨okE_all.2 ⟨⟨by simp only; omega, by simp only; omega⟩, by simp, by simp, by simp, by simp [ByteArray.size]⟩, by simp only; omega, fun o ho => key_inc (by have := l4 o ho; simp only; omega), by simp, fun _ => ?_⟩
        rw [gone_ok hx]
        cases he : ent xs id with
        | none => have := l5 he; simp only; omega
        | some o => have := l4 o he; have := (h2 rfl).2 o he; simp only; split <;> omega
    · simp at hc
  · simp only [chg, hr, chB] at hc ⊢
    cases t
    · simp at hc
    · obtain ⟨ho, hk0⟩ := h1 rfl
      have hi := hx.ent_in ho
      have ha := okE_all.1 hi.2.2.1
      simp only [Bool.true_eq_false, if_false] at hc ⊢
      by_cases hm : (r.2.2.1 == 100000) = true
      · rw [if_pos hm] at hc; simp at hc
      · rw [if_neg hm]
        have hm' : r.2.2.1 ≠ 100000 := by simpa using hm
        refine ⟨okE_all.2 ⟨ha.1, ha.2.1, ⟨by simp only; omega, by simp only; omega⟩, ha.2.2.2.1, ha.2.2.2.2⟩, hi.2.2.2, fun o h => ?_, by simpa using hk0, fun h => by cases h⟩
        rw [ho] at h; cases h
        exact key_beat rfl rfl (by simp only; omega)
  · simp only [chg, hr, chS] at hc ⊢
    cases t
    · simp at hc
    · obtain ⟨ho, hk0⟩ := h1 rfl
      have hi := hx.ent_in ho
      have ha := okE_all.1 hi.2.2.1
      simp only [Bool.true_eq_false, if_false] at hc ⊢
      by_cases hm : (r.2.2.2.1 == 1000) = true
      · rw [if_pos hm] at hc; simp at hc
      · rw [if_neg hm] at hc ⊢
        have hm' : r.2.2.2.1 ≠ 1000 := by simpa using hm
        by_cases hd : decide (8 < (d.size : Int)) = true
        · rw [if_pos hd] at hc; simp at hc
        · rw [if_neg hd]
          have hd' : ¬ 8 < (d.size : Int) := by simpa using hd
          refine ⟨okE_all.2 ⟨ha.1, ha.2.1, ha.2.2.1, ⟨by simp only; omega, by simp only; omega⟩, by simp only; omega⟩, hi.2.2.2, fun o h => ?_, by simpa using hk0, fun h => by cases h⟩
          rw [ho] at h; cases h
          exact key_ver rfl rfl rfl (by simp only; omega)
  · simp only [chg, hr, chG] at hc ⊢
    cases t
    · simp at hc
    · obtain ⟨ho, hk0⟩ := h1 rfl
      have hi := hx.ent_in ho
      have ha := okE_all.1 hi.2.2.1
      simp only [Bool.true_eq_false, if_false]
      refine ⟨okE_all.2 ⟨ha.1, by simp, ha.2.2.1, ha.2.2.2.1, ha.2.2.2.2⟩, hi.2.2.2, fun o h => ?_, by simp, fun h => by cases h⟩
      rw [ho] at h; cases h
      exact key_rank rfl (by simp only; omega)
theorem one_ok {id : Int} {e : Key} (hi : inB id 0 4 = true) (h : okE e.1 e.2.1 e.2.2.1 e.2.2.2.1 e.2.2.2.2 = true) : OkS [(id, e)] [] := by
  have := okE_inc h
  have := inB_iff.1 hi
  exact ⟨List.pairwise_singleton _ _, .nil, fun x hm => by rw [List.mem_singleton.1 hm]; exact ⟨this.1, this.2, h, by rw [flo_nil]; simp only; omega⟩, fun _ h => by simp at h⟩
theorem Said.one {k : Nat} {id : Int} {e : Key} (h : Said k xs fs id e) (hi : inB id 0 4 = true) : OkS [(id, e)] [] := one_ok hi h.ok
theorem said_single {k : Nat} (hk : k < 4) {d : ByteArray} (h0 : okS xs fs = true) {id : Int} (hi : inB id 0 4 = true) (hc : (chg k d xs fs id).2 = 0) : okS [(id, (chg k d xs fs id).1)] [] = true :=
  (okS_iff _ _).2 ((chg_said k hk d ((okS_iff _ _).1 h0) hc).one hi)
theorem ent_one (id i : Int) (e : Key) : ent [(id, e)] i = if i = id then some e else none := by
  by_cases h : i = id
  · subst h; simp [ent]
  · have hq : (id == i) = false := by simpa using fun q => h q.symm
    rw [if_neg h, ent, List.find?_cons, hq]; rfl

/-- What was, with what is said. -/
theorem Said.ent {k : Nat} {id : Int} {e : Key} (hx : OkS xs fs) (h : Said k xs fs id e) (hi : inB id 0 4 = true) (i : Int) : Go.Proofs.Ytdpaocikmijioad.ent (joinI xs fs [(id, e)] []) i = if i = id then some e else Go.Proofs.Ytdpaocikmijioad.ent xs i := by
  have ho := h.one hi
  rw [join_ent' hx ho, ent_one, (hx.fl2_nn ho i).2.2, flo_nil]
  have hf := hx.flo_nn i
  have hm : max (flo fs i) 0 = flo fs i := by omega
  rw [hm]
  by_cases hq : i = id
  · subst hq
    rw [if_pos rfl, if_pos rfl]
    cases he : Go.Proofs.Ytdpaocikmijioad.ent xs i with
    | none => simp only [jE, keep, if_pos h.fl]
    | some o =>
      have := h.nw o he
      have hmx : mx o e = e := mx_gt (decide_eq_true this)
      simp only [jE, hmx, keep, if_pos h.fl]
  · rw [if_neg hq, if_neg hq, jE_none]
    exact hx.keep_ent i (Int.le_refl _)
theorem Said.news {k : Nat} {id : Int} {e : Key} (hx : OkS xs fs) (h : Said k xs fs id e) (hi : inB id 0 4 = true) : leqS [(id, e)] [] xs fs = false := by
  have ho := h.one hi
  by_cases hl : leqS [(id, e)] [] xs fs = true
  · exfalso
    obtain ⟨-, -, h1, h2⟩ := (leqS_iff _ _ _ _).1 hl
    have hc := (ho.comm hx).1
    rw [h1] at hc
    have he := h.ent hx hi id
    rw [← hc, if_pos rfl] at he
    have := h.nw e he
    have := keyC_is.anti e e
    omega
  · simpa using hl
theorem Said.seen {k : Nat} {id : Int} {e : Key} (hx : OkS xs fs) (h : Said k xs fs id e) (hi : inB id 0 4 = true) : entR (vw (joinI xs fs [(id, e)] []) (joinF fs [])) id = if k = 3 then (zeroK, false) else (e, true) := by
  have hj := hx.join (h.one hi)
  have he := h.ent hx hi id
  rw [if_pos rfl] at he
  rw [vw_ok hj]
  by_cases hk : k = 3
  · have hr := h.rk
    rw [if_pos hk] at hr ⊢
    have : Go.Proofs.Ytdpaocikmijioad.ent (upI (joinI xs fs [(id, e)] [])) id = none := by
      cases hq : Go.Proofs.Ytdpaocikmijioad.ent (upI (joinI xs fs [(id, e)] [])) id with
      | none => rfl
      | some o =>
        obtain ⟨h1, h2⟩ := (upI_ent hj id o).1 hq
        rw [he] at h1; cases h1; omega
    rw [entR, this]
  · have hr := h.rk
    rw [if_neg hk] at hr ⊢
    rw [entR, (upI_ent hj id e).2 ⟨he, hr⟩]
theorem Said.others {k : Nat} {id : Int} {e : Key} (hx : OkS xs fs) (h : Said k xs fs id e) (hi : inB id 0 4 = true) (i : Int) (hn : i ≠ id) : entR (joinI xs fs [(id, e)] []) i = entR xs i := by
  rw [entR, entR, h.ent hx hi i, if_neg hn]

/-- A floor at the greatest count: nobody can join. -/
theorem top_ok {id : Int} (hi : inB id 0 4 = true) : OkS [] [(id, 1000)] := by
  have := inB_iff.1 hi
  exact ⟨.nil, List.pairwise_singleton _ _, fun _ h => by simp at h, fun x hm => by rw [List.mem_singleton.1 hm]; exact ⟨this.1, this.2, by simp, by simp⟩⟩
theorem flo_one (id c : Int) : flo [(id, c)] id = c := by simp [flo]
theorem top_flo (hx : OkS xs fs) {id : Int} (hi : inB id 0 4 = true) : flo (joinF fs [(id, 1000)]) id = 1000 := by
  have ho := top_ok hi
  rw [join_flo hx ho, (hx.fl2_nn ho id).2.2, flo_one]
  have := hx.flo_nn id
  omega
theorem top_ent (hx : OkS xs fs) {id : Int} (hi : inB id 0 4 = true) : Go.Proofs.Ytdpaocikmijioad.ent (joinI xs fs [] [(id, 1000)]) id = none := by
  have hj := hx.join (top_ok hi)
  cases he : Go.Proofs.Ytdpaocikmijioad.ent (joinI xs fs [] [(id, 1000)]) id with
  | none => rfl
  | some e =>
    have h1 := hj.ent_in he
    have h2 := okE_inc h1.2.2.1
    have h3 := top_flo hx hi
    omega
theorem top_gone (hx : OkS xs fs) {id : Int} (hi : inB id 0 4 = true) : gone (joinI xs fs [] [(id, 1000)]) (joinF fs [(id, 1000)]) id = 1000 := by
  rw [gone_ok (hx.join (top_ok hi)), top_ent hx hi]
  exact top_flo hx hi
theorem top_say (d : ByteArray) (hx : OkS xs fs) {id : Int} (hi : inB id 0 4 = true) : sayC 0 d (joinI xs fs [] [(id, 1000)]) (joinF fs [(id, 1000)]) id = 4 ∧ sayL 0 d (joinI xs fs [] [(id, 1000)]) (joinF fs [(id, 1000)]) id = [] := by
  have hj := hx.join (top_ok hi)
  have he := top_ent hx hi
  have hl := (lastI_nn hj id).2.2.2.2 he
  rw [top_flo hx hi] at hl
  obtain ⟨r, t, hr⟩ : ∃ r t, entR (vw (joinI xs fs [] [(id, 1000)]) (joinF fs [(id, 1000)])) id = (r, t) := ⟨_, _, rfl⟩
  have ht : t = false := by
    cases t
    · rfl
    · have := ((there_iff hj hr).1 rfl).1
      rw [he] at this; cases this
  subst ht
  have hc : chg 0 d (joinI xs fs [] [(id, 1000)]) (joinF fs [(id, 1000)]) id = (zeroK, 4) := by
    simp only [chg, hr, chJ, hl]; simp
  constructor
  · rw [sayC, (okS_iff _ _).2 hj, hi, hc]; simp
  · rw [sayL, (okS_iff _ _).2 hj, hi, hc]; simp
/-- Who cannot join as it is there. -/
theorem join_there (d : ByteArray) (hx : OkS xs fs) {id : Int} (hi : inB id 0 4 = true) {r : Key} {t : Bool} (hr : entR (vw xs fs) id = (r, t)) : t = (sayC 0 d xs fs id == 2) := by
  rw [sayC, (okS_iff _ _).2 hx, hi]
  simp only [chg, hr, chJ, Bool.and_self, if_true]
  cases t
  · simp only [Bool.false_eq_true, if_false]
    by_cases hm : (lastI xs fs id == 1000) = true
    · rw [if_pos hm]; rfl
    · rw [if_neg hm]; rfl
  · rfl
end
theorem said_of {k : Nat} (hk : k < 4) {d : ByteArray} {xs : List Itm} {fs : List Flr} {id : Int} (h : sayC k d xs fs id = 0) : OkS xs fs ∧ inB id 0 4 = true ∧ sayL k d xs fs id = [(id, (chg k d xs fs id).1)] ∧ Said k xs fs id (chg k d xs fs id).1 := by
  unfold sayC at h
  by_cases ho : (okS xs fs && inB id 0 4) = true
  · rw [if_pos ho] at h
    obtain ⟨h1, h2⟩ := (Bool.and_eq_true _ _ ▸ ho : okS xs fs = true ∧ inB id 0 4 = true)
    have hx := (okS_iff _ _).1 h1
    exact ⟨hx, h2, by rw [sayL, if_pos ho, if_pos h], chg_said k hk d hx h⟩
  · rw [if_neg ho] at h; cases h
theorem unsaid {k : Nat} {d : ByteArray} {xs : List Itm} {fs : List Flr} {id : Int} (h : sayC k d xs fs id ≠ 0) : sayL k d xs fs id = [] := by
  unfold sayC at h; unfold sayL
  by_cases ho : (okS xs fs && inB id 0 4) = true
  · rw [if_pos ho] at h ⊢; rw [if_neg h]
  · rw [if_neg ho]
theorem say_bad {k : Nat} {d : ByteArray} {xs : List Itm} {fs : List Flr} {id : Int} (h : (okS xs fs && inB id 0 4) = false) : sayL k d xs fs id = [] ∧ sayC k d xs fs id = 1 := by
  simp only [sayL, sayC, h, Bool.false_eq_true, if_false, and_self]
theorem say_no {k : Nat} {d : ByteArray} {xs : List Itm} {fs : List Flr} {id : Int} (h : (okS xs fs && inB id 0 4) = true) {e : Key} {c : Int} (hc : chg k d xs fs id = (e, c)) (h0 : c ≠ 0) : sayL k d xs fs id = [] ∧ sayC k d xs fs id = c := by
  simp only [sayL, sayC, h, if_true, hc, if_neg h0, and_self]
theorem say_ok {k : Nat} {d : ByteArray} {xs : List Itm} {fs : List Flr} {id : Int} (h : (okS xs fs && inB id 0 4) = true) {e : Key} (hc : chg k d xs fs id = (e, 0)) : sayL k d xs fs id = [(id, e)] ∧ sayC k d xs fs id = 0 := by
  simp only [sayL, sayC, h, if_true, hc, and_self]
theorem ok_parts {xs : List Itm} {fs : List Flr} {id : Int} (h : (okS xs fs && inB id 0 4) = true) : okS xs fs = true ∧ inB id 0 4 = true := Bool.and_eq_true _ _ ▸ h
theorem chg_one {k : Nat} (hk : k < 4) {d : ByteArray} {xs : List Itm} {fs : List Flr} {id : Int} (h : (okS xs fs && inB id 0 4) = true) {e : Key} (hc : chg k d xs fs id = (e, 0)) : okS [(id, e)] [] = true ∧ e.2.2.2.2.size ≤ 8 := by
  obtain ⟨h1, h2⟩ := ok_parts h
  have hs := chg_said k hk d ((okS_iff _ _).1 h1) (id := id) (by rw [hc])
  rw [hc] at hs
  exact ⟨(okS_iff _ _).2 (hs.one h2), okE_size hs.ok⟩
theorem OkS.sml5 {xs : List Itm} {fs : List Flr} (h : OkS xs fs) : Sml xs := fun k x hk => by
  have := okE_size (h.ix x (List.mem_of_getElem? hk)).2.2.1
  omega
/-- What l5Up answers. -/
def upR : Bool → Bool → Key → Key × Int
  | false, _, _ => (zeroK, 1)
  | true, false, _ => (zeroK, 3)
  | true, true, r => (r, 0)
/-- The result's variable is written: what was told stays. -/
theorem ow_res {base r : Nat} {W : World} {v : Value} {xs : List Itm} {c0 c1 : Value} (h : OwI base W v xs) (hb : W.heap[r]? = some (.cells #[c0, c1] 31 (0, 0))) (v1 v2 : Value) : OwI base ((W.setCell ⟨r, 0, none⟩ v1).setCell ⟨r, 1, none⟩ v2) v xs :=
  have hg : W.grownBy ((W.setCell ⟨r, 0, none⟩ v1).setCell ⟨r, 1, none⟩ v2) (some r) := ⟨rfl, rfl, rfl, by simp, fun k _ hk => by
    have hk' : k ≠ r := fun e => hk (by simp [e])
    rw [heap_setCell_other _ ⟨r, 1, none⟩ k _ hk', heap_setCell_other _ ⟨r, 0, none⟩ k _ hk']⟩
  World.ownsRow.kept h hg (.inr (own_ne h hb (by decide)))
theorem below_res {B r : Nat} {w W : World} (h : Below B w W) (hr : B ≤ r) (v1 v2 : Value) : Below B w ((W.setCell ⟨r, 0, none⟩ v1).setCell ⟨r, 1, none⟩ v2) := (h.setCell (p := ⟨r, 0, none⟩) hr _).setCell (p := ⟨r, 1, none⟩) hr _
theorem below_al {B : Nat} {w W : World} (h : Below B w W) (hr : B ≤ W.heap.size) (o : Obj) : Below B w (W.alloc o) := h.alloc hr o
theorem blk_al {W : World} {r : Nat} {o : Obj} (h : W.heap[r]? = some o) (q : Obj) : (W.alloc q).heap[r]? = some o := (Below.heap_alloc _ _ _ (Array.getElem?_eq_some_iff.1 h).1).trans h
theorem ow_al {base : Nat} {W : World} {v : Value} {xs : List Itm} (h : OwI base W v xs) (o : Obj) : OwI base (W.alloc o) v xs := h.later ((Below.refl _ _).alloc (Nat.le_refl _) o)
theorem blk_cells4 {w : World} {g : Nat} {T : TypeId} {c0 c1 c2 c3 : Value} (h : w.heap[g]? = some (.cells #[c0, c1, c2, c3] T (0, 0))) :
    w.cell? ⟨g, 0, none⟩ = some c0 ∧ w.cell? ⟨g, 1, none⟩ = some c1 ∧ w.cell? ⟨g, 2, none⟩ = some c2 ∧ w.cell? ⟨g, 3, none⟩ = some c3 ∧ ∀ o, w.frozen? ⟨g, o, none⟩ = false := by
  simp [World.cell?, World.frozen?, h]
theorem said_data {d : ByteArray} {xs : List Itm} {fs : List Flr} {id : Int} (h : sayC 2 d xs fs id = 0) : (chg 2 d xs fs id).1.2.2.2.2 = d := by
  unfold sayC at h
  split at h
  · simp only [chg, chS] at h ⊢
    split at h
    · cases h
    · rename_i h1
      rw [if_neg h1]
      split at h
      · cases h
      · rename_i h2
        rw [if_neg h2]
        split at h
        · cases h
        · rename_i h3
          rw [if_neg h3]
  · cases h
end Go.Proofs.Ytdpaocikmijioad
