/-
  What may be said: plain lists. No program here, no statement is proved here.
  What a state lacks of another one: the program's. No statement is proved here.
  View and Lookup of the specification. No statement is proved here.
  What may be said, the specification's: l5One, l5Up, SayJoin, SayBeat, SaySet, SayGone. No statement is proved here.
  Who is up, told one by one by a function that is ranged over. No statement is proved here.
  Lookup of the program: the entry of who is up. No statement is proved here.
  What may be said, the program's: the changes (methods of a wish, kept in a table of method expressions), tell, SayJoin, SayBeat, SaySet, SayGone. No statement is proved here.
  What may be said, the program's: tell, SayJoin, SayBeat, SaySet, SayGone. No statement is proved here.
-/
import Derived.Test.YtdpaocikmijioabGreatVwP
import Derived.Test.YtdpaocikmijioabGreatStSg
import Derived.Test.YtdpaocikmijioabGreatApp2
import Derived.Test.YtdpaocikmijioabGreatSt3
import Derived.Test.YtdpaocikmijioabGreatStBx
import Derived.Test.YtdpaocikmijioabGreatRegs6
import Derived.Test.YtdpaocikmijioabGreatIStOk
import Derived.Test.YtdpaocikmijioabGreatStT
import Derived.Test.YtdpaocikmijioabGreatStM
import Derived.Test.YtdpaocikmijioabGreatSStOk
import Derived.Test.YtdpaocikmijioabGreatMax
import Derived.RangeFuncNested
import Derived.RangeFuncBound
import Derived.RangeFuncCalls
import Derived.RangeFuncLeaves
import Derived.Shelf.Abstract
import Derived.Shelf.RegionOpen
import Derived.WalkKit
import Derived.OwnWalkIn
import Derived.TacticsInMore
import Derived.LoopNIn
import Derived.LoopIn
import Derived.Laws.EntriesVeiled
namespace Go.Proofs.YtdpaocikmijioabGreat
open Go.RowKit

/-- The entry that a change says, and the code (0: it may be said). -/
def chJ (there : Bool) (inc : Int) : Key × Int := if there = true then (zeroK, 2) else if (inc == 1000) = true then (zeroK, 4) else ((inc + 1, 0, 0, 0, ⟨#[]⟩), 0)
def chB (there : Bool) (r : Key) : Key × Int := if there = false then (zeroK, 3) else if (r.2.2.1 == 100000) = true then (zeroK, 4) else ((r.1, r.2.1, r.2.2.1 + 1, r.2.2.2.1, r.2.2.2.2), 0)
def chS (d : ByteArray) (there : Bool) (r : Key) : Key × Int := if there = false then (zeroK, 3) else if (r.2.2.2.1 == 1000) = true then (zeroK, 4) else if decide (8 < (d.size : Int)) = true then (zeroK, 4) else ((r.1, r.2.1, r.2.2.1, r.2.2.2.1 + 1, d), 0)
def chG (there : Bool) (r : Key) : Key × Int := if there = false then (zeroK, 3) else ((r.1, 1, r.2.2.1, r.2.2.2.1, r.2.2.2.2), 0)
def lastI (xs : List Itm) (fs : List Flr) (id : Int) : Int := max (entR xs id).1.1 (flo fs id)
def chg (k : Nat) (d : ByteArray) (xs : List Itm) (fs : List Flr) (id : Int) : Key × Int := match k with
  | 0 => chJ (entR (vw xs fs) id).2 (lastI xs fs id)
  | 1 => chB (entR (vw xs fs) id).2 (entR (vw xs fs) id).1
  | 2 => chS d (entR (vw xs fs) id).2 (entR (vw xs fs) id).1
  | _ => chG (entR (vw xs fs) id).2 (entR (vw xs fs) id).1
/-- What is said: one item, or none; the code. -/
def sayL (k : Nat) (d : ByteArray) (xs : List Itm) (fs : List Flr) (id : Int) : List Itm := if (okS xs fs && inB id 0 4) = true then (if (chg k d xs fs id).2 = 0 then [(id, (chg k d xs fs id).1)] else []) else []
def sayC (k : Nat) (d : ByteArray) (xs : List Itm) (fs : List Flr) (id : Int) : Int := if (okS xs fs && inB id 0 4) = true then (chg k d xs fs id).2 else 1

theorem sayL_len (k : Nat) (d : ByteArray) (xs : List Itm) (fs : List Flr) (id : Int) : (sayL k d xs fs id).length ≤ 1 := by
  unfold sayL; split
  · split <;> simp
  · simp

section
variable {xs : List Itm} {fs : List Flr}
theorem vw_ok (hx : OkS xs fs) : vw xs fs = upI xs := by rw [vw, if_pos ((okS_iff _ _).2 hx)]
theorem upI_ent (hx : OkS xs fs) (id : Int) (e : Key) : ent (upI xs) id = some e ↔ ent xs id = some e ∧ e.2.1 = 0 := by
  have hp : (upI xs).Pairwise (fun a b => a.1 < b.1) := hx.px.sublist List.filter_sublist
  rw [ent_iff hp, ent_iff hx.px, upI, List.mem_filter]
  simp
/-- One that is found is up; one that is not found is none, or gone. -/
theorem there_iff (hx : OkS xs fs) {id : Int} {r : Key} {t : Bool} (h : entR (vw xs fs) id = (r, t)) : (t = true → ent xs id = some r ∧ r.2.1 = 0) ∧ (t = false → r = zeroK ∧ ∀ e, ent xs id = some e → e.2.1 = 1) := by
  have he := entR_ent h
  rw [vw_ok hx] at he
  constructor
  · intro ht; subst ht
    exact (upI_ent hx id r).1 (by simpa using he)
  · intro ht; subst ht
    refine ⟨?_, fun e hm => ?_⟩
    · have := h
      rw [entR, vw_ok hx] at this
      rw [show ent (upI xs) id = none by simpa using he] at this
      simp only [Prod.mk.injEq] at this
      exact this.1.symm
    · rcases okE_rank (hx.ent_in hm).2.2.1 with hr | hr
      · have := (upI_ent hx id e).2 ⟨hm, hr⟩
        rw [this] at he; simp at he
      · exact hr
theorem lastI_is (xs : List Itm) (fs : List Flr) (id : Int) : lastI xs fs id = max (match ent xs id with | some e => e.1 | none => 0) (flo fs id) := by
  rw [lastI, entR]
  cases ent xs id <;> rfl
theorem lastI_nn (hx : OkS xs fs) (id : Int) : 0 ≤ lastI xs fs id ∧ lastI xs fs id ≤ 1000 ∧ flo fs id ≤ lastI xs fs id ∧ (∀ e, ent xs id = some e → lastI xs fs id = e.1) ∧ (ent xs id = none → lastI xs fs id = flo fs id) := by
  have hf := hx.flo_nn id
  rw [lastI_is]
  cases he : ent xs id with
  | none => refine ⟨by simp only; omega, by simp only; omega, by simp only; omega, fun e h => (by cases h), fun _ => by simp only; omega⟩
  | some e =>
    have hi := hx.ent_in he
    have := okE_inc hi.2.2.1
    refine ⟨by simp only; omega, by simp only; omega, by simp only; omega, fun e' h => by cases h; simp only; omega, fun h => by cases h⟩
theorem okE_all {e : Key} : okE e.1 e.2.1 e.2.2.1 e.2.2.2.1 e.2.2.2.2 = true ↔ (1 ≤ e.1 ∧ e.1 ≤ 1000) ∧ (0 ≤ e.2.1 ∧ e.2.1 ≤ 1) ∧ (0 ≤ e.2.2.1 ∧ e.2.2.1 ≤ 100000) ∧ (0 ≤ e.2.2.2.1 ∧ e.2.2.2.1 ≤ 1000) ∧ (e.2.2.2.2.size : Int) ≤ 8 := by
  simp only [okE, Bool.and_eq_true, inB_iff, decide_eq_true_eq]
  constructor
  · rintro ⟨⟨⟨⟨a, b⟩, c⟩, d⟩, e⟩; exact ⟨a, b, c, d, e⟩
  · rintro ⟨a, b, c, d, e⟩; exact ⟨⟨⟨⟨a, b⟩, c⟩, d⟩, e⟩

theorem key_inc {x y : Key} (h : x.1 < y.1) : 0 < keyC y x := keyC_inc h
theorem key_rank {x y : Key} (h0 : y.1 = x.1) (h : x.2.1 < y.2.1) : 0 < keyC y x := by
  obtain ⟨a, b, c, d, e⟩ := x; obtain ⟨a', b', c', d', e'⟩ := y
  simp only at h0 h; subst h0
  unfold keyC lexC cmpI; simp; omega
theorem key_beat {x y : Key} (h0 : y.1 = x.1) (h1 : y.2.1 = x.2.1) (h : x.2.2.1 < y.2.2.1) : 0 < keyC y x := by
  obtain ⟨a, b, c, d, e⟩ := x; obtain ⟨a', b', c', d', e'⟩ := y
  simp only at h0 h1 h; subst h0 h1
  unfold keyC lexC cmpI; simp; omega
theorem key_ver {x y : Key} (h0 : y.1 = x.1) (h1 : y.2.1 = x.2.1) (h2 : y.2.2.1 = x.2.2.1) (h : x.2.2.2.1 < y.2.2.2.1) : 0 < keyC y x := by
  obtain ⟨a, b, c, d, e⟩ := x; obtain ⟨a', b', c', d', e'⟩ := y
  simp only at h0 h1 h2 h; subst h0 h1 h2
  unfold keyC lexC cmpI; simp; omega

/-- What may be said: right, not over, behind what was; up, unless one goes. -/
structure Said (k : Nat) (xs : List Itm) (fs : List Flr) (id : Int) (e : Key) : Prop where
  ok : okE e.1 e.2.1 e.2.2.1 e.2.2.2.1 e.2.2.2.2 = true
  fl : flo fs id < e.1
  nw : ∀ o, ent xs id = some o → 0 < keyC e o
  rk : e.2.1 = if k = 3 then 1 else 0
  gn : k = 0 → gone xs fs id < e.1
theorem chg_said (k : Nat) (hk : k < 4) (d : ByteArray) (hx : OkS xs fs) {id : Int} (hc : (chg k d xs fs id).2 = 0) : Said k xs fs id (chg k d xs fs id).1 := by
  obtain ⟨r, t, hr⟩ : ∃ r t, entR (vw xs fs) id = (r, t) := ⟨_, _, rfl⟩
  obtain ⟨h1, h2⟩ := there_iff hx hr
  obtain ⟨l1, l2, l3, l4, l5⟩ := lastI_nn hx id
  have hz := okE_all (e := (0, 0, 0, 0, ⟨#[]⟩))
  rcases (by omega : k = 0 ∨ k = 1 ∨ k = 2 ∨ k = 3) with rfl | rfl | rfl | rfl
  · simp only [chg, hr, chJ] at hc ⊢
    cases t
    · simp only [Bool.false_eq_true, if_false] at hc ⊢
      by_cases hm : (lastI xs fs id == 1000) = true
      · rw [if_pos hm] at hc; simp at hc
      · rw [if_neg hm]
        have hm' : lastI xs fs id ≠ 1000 := by simpa using hm
        refine ⟨okE_all.2 ⟨⟨by simp only; omega, by simp only; omega⟩, by simp, by simp, by simp, by simp [ByteArray.size]⟩, by simp only; omega, fun o ho => key_inc (by have := l4 o ho; simp only; omega), by simp, fun _ => ?_⟩
        rw [gone_ok hx]
        cases he : ent xs id with
        | none => have := l5 he; simp only; omega
        | some o => have := l4 o he; have := (h2 rfl).2 o he; simp only; split <;> omega
    · simp at hc
  · simp only [chg, hr, chB] at hc ⊢
    cases t
    · simp at hc
    · obtain ⟨ho, hk0⟩ := h1 rfl
      have hi := hx.ent_in ho
      have ha := okE_all.1 hi.2.2.1
      simp only [Bool.true_eq_false, if_false] at hc ⊢
      by_cases hm : (r.2.2.1 == 100000) = true
      · rw [if_pos hm] at hc; simp at hc
      · rw [if_neg hm]
        have hm' : r.2.2.1 ≠ 100000 := by simpa using hm
        refine ⟨okE_all.2 ⟨ha.1, ha.2.1, ⟨by simp only; omega, by simp only; omega⟩, ha.2.2.2.1, ha.2.2.2.2⟩, hi.2.2.2, fun o h => ?_, by simpa using hk0, fun h => by cases h⟩
        rw [ho] at h; cases h
        exact key_beat rfl rfl (by simp only; omega)
  · simp only [chg, hr, chS] at hc ⊢
    cases t
    · simp at hc
    · obtain ⟨ho, hk0⟩ := h1 rfl
      have hi := hx.ent_in ho
      have ha := okE_all.1 hi.2.2.1
      simp only [Bool.true_eq_false, if_false] at hc ⊢
      by_cases hm : (r.2.2.2.1 == 1000) = true
      · rw [if_pos hm] at hc; simp at hc
      · rw [if_neg hm] at hc ⊢
        have hm' : r.2.2.2.1 ≠ 1000 := by simpa using hm
        by_cases hd : decide (8 < (d.size : Int)) = true
        · rw [if_pos hd] at hc; simp at hc
        · rw [if_neg hd]
          have hd' : ¬ 8 < (d.size : Int) := by simpa using hd
          refine ⟨okE_all.2 ⟨ha.1, ha.2.1, ha.2.2.1, ⟨by simp only; omega, by simp only; omega⟩, by simp only; omega⟩, hi.2.2.2, fun o h => ?_, by simpa using hk0, fun h => by cases h⟩
          rw [ho] at h; cases h
          exact key_ver rfl rfl rfl (by simp only; omega)
  · simp only [chg, hr, chG] at hc ⊢
    cases t
    · simp at hc
    · obtain ⟨ho, hk0⟩ := h1 rfl
      have hi := hx.ent_in ho
      have ha := okE_all.1 hi.2.2.1
      simp only [Bool.true_eq_false, if_false]
      refine ⟨okE_all.2 ⟨ha.1, by simp, ha.2.2.1, ha.2.2.2.1, ha.2.2.2.2⟩, hi.2.2.2, fun o h => ?_, by simp, fun h => by cases h⟩
      rw [ho] at h; cases h
      exact key_rank rfl (by simp only; omega)
theorem one_ok {id : Int} {e : Key} (hi : inB id 0 4 = true) (h : okE e.1 e.2.1 e.2.2.1 e.2.2.2.1 e.2.2.2.2 = true) : OkS [(id, e)] [] := by
  have := okE_inc h
  have := inB_iff.1 hi
  exact ⟨List.pairwise_singleton _ _, .nil, fun x hm => by rw [List.mem_singleton.1 hm]; exact ⟨this.1, this.2, h, by rw [flo_nil]; simp only; omega⟩, fun _ h => by simp at h⟩
theorem Said.one {k : Nat} {id : Int} {e : Key} (h : Said k xs fs id e) (hi : inB id 0 4 = true) : OkS [(id, e)] [] := one_ok hi h.ok
theorem said_single {k : Nat} (hk : k < 4) {d : ByteArray} (h0 : okS xs fs = true) {id : Int} (hi : inB id 0 4 = true) (hc : (chg k d xs fs id).2 = 0) : okS [(id, (chg k d xs fs id).1)] [] = true :=
  (okS_iff _ _).2 ((chg_said k hk d ((okS_iff _ _).1 h0) hc).one hi)
theorem ent_one (id i : Int) (e : Key) : ent [(id, e)] i = if i = id then some e else none := by
  by_cases h : i = id
  · subst h; simp [ent]
  · have hq : (id == i) = false := by simpa using fun q => h q.symm
    rw [if_neg h, ent, List.find?_cons, hq]; rfl

/-- What was, with what is said. -/
theorem Said.ent {k : Nat} {id : Int} {e : Key} (hx : OkS xs fs) (h : Said k xs fs id e) (hi : inB id 0 4 = true) (i : Int) : Go.Proofs.YtdpaocikmijioabGreat.ent (joinI xs fs [(id, e)] []) i = if i = id then some e else Go.Proofs.YtdpaocikmijioabGreat.ent xs i := by
  have ho := h.one hi
  rw [join_ent' hx ho, ent_one, (hx.fl2_nn ho i).2.2, flo_nil]
  have hf := hx.flo_nn i
  have hm : max (flo fs i) 0 = flo fs i := by omega
  rw [hm]
  by_cases hq : i = id
  · subst hq
    rw [if_pos rfl, if_pos rfl]
    cases he : Go.Proofs.YtdpaocikmijioabGreat.ent xs i with
    | none => simp only [jE, keep, if_pos h.fl]
    | some o =>
      have := h.nw o he
      have hmx : mx o e = e := mx_gt (decide_eq_true this)
      simp only [jE, hmx, keep, if_pos h.fl]
  · rw [if_neg hq, if_neg hq, jE_none]
    exact hx.keep_ent i (Int.le_refl _)
theorem Said.news {k : Nat} {id : Int} {e : Key} (hx : OkS xs fs) (h : Said k xs fs id e) (hi : inB id 0 4 = true) : leqS [(id, e)] [] xs fs = false := by
  have ho := h.one hi
  by_cases hl : leqS [(id, e)] [] xs fs = true
  · exfalso
    obtain ⟨-, -, h1, h2⟩ := (leqS_iff _ _ _ _).1 hl
    have hc := (ho.comm hx).1
    rw [h1] at hc
    have he := h.ent hx hi id
    rw [← hc, if_pos rfl] at he
    have := h.nw e he
    have := keyC_is.anti e e
    omega
  · simpa using hl
theorem Said.seen {k : Nat} {id : Int} {e : Key} (hx : OkS xs fs) (h : Said k xs fs id e) (hi : inB id 0 4 = true) : entR (vw (joinI xs fs [(id, e)] []) (joinF fs [])) id = if k = 3 then (zeroK, false) else (e, true) := by
  have hj := hx.join (h.one hi)
  have he := h.ent hx hi id
  rw [if_pos rfl] at he
  rw [vw_ok hj]
  by_cases hk : k = 3
  · have hr := h.rk
    rw [if_pos hk] at hr ⊢
    have : Go.Proofs.YtdpaocikmijioabGreat.ent (upI (joinI xs fs [(id, e)] [])) id = none := by
      cases hq : Go.Proofs.YtdpaocikmijioabGreat.ent (upI (joinI xs fs [(id, e)] [])) id with
      | none => rfl
      | some o =>
        obtain ⟨h1, h2⟩ := (upI_ent hj id o).1 hq
        rw [he] at h1; cases h1; omega
    rw [entR, this]
  · have hr := h.rk
    rw [if_neg hk] at hr ⊢
    rw [entR, (upI_ent hj id e).2 ⟨he, hr⟩]
theorem Said.others {k : Nat} {id : Int} {e : Key} (hx : OkS xs fs) (h : Said k xs fs id e) (hi : inB id 0 4 = true) (i : Int) (hn : i ≠ id) : entR (joinI xs fs [(id, e)] []) i = entR xs i := by
  rw [entR, entR, h.ent hx hi i, if_neg hn]

/-- A floor at the greatest count: nobody can join. -/
theorem top_ok {id : Int} (hi : inB id 0 4 = true) : OkS [] [(id, 1000)] := by
  have := inB_iff.1 hi
  exact ⟨.nil, List.pairwise_singleton _ _, fun _ h => by simp at h, fun x hm => by rw [List.mem_singleton.1 hm]; exact ⟨this.1, this.2, by simp, by simp⟩⟩
theorem flo_one (id c : Int) : flo [(id, c)] id = c := by simp [flo]
theorem top_flo (hx : OkS xs fs) {id : Int} (hi : inB id 0 4 = true) : flo (joinF fs [(id, 1000)]) id = 1000 := by
  have ho := top_ok hi
  rw [join_flo hx ho, (hx.fl2_nn ho id).2.2, flo_one]
  have := hx.flo_nn id
  omega
theorem top_ent (hx : OkS xs fs) {id : Int} (hi : inB id 0 4 = true) : Go.Proofs.YtdpaocikmijioabGreat.ent (joinI xs fs [] [(id, 1000)]) id = none := by
  have hj := hx.join (top_ok hi)
  cases he : Go.Proofs.YtdpaocikmijioabGreat.ent (joinI xs fs [] [(id, 1000)]) id with
  | none => rfl
  | some e =>
    have h1 := hj.ent_in he
    have h2 := okE_inc h1.2.2.1
    have h3 := top_flo hx hi
    omega
theorem top_gone (hx : OkS xs fs) {id : Int} (hi : inB id 0 4 = true) : gone (joinI xs fs [] [(id, 1000)]) (joinF fs [(id, 1000)]) id = 1000 := by
  rw [gone_ok (hx.join (top_ok hi)), top_ent hx hi]
  exact top_flo hx hi
theorem top_say (d : ByteArray) (hx : OkS xs fs) {id : Int} (hi : inB id 0 4 = true) : sayC 0 d (joinI xs fs [] [(id, 1000)]) (joinF fs [(id, 1000)]) id = 4 ∧ sayL 0 d (joinI xs fs [] [(id, 1000)]) (joinF fs [(id, 1000)]) id = [] := by
  have hj := hx.join (top_ok hi)
  have he := top_ent hx hi
  have hl := (lastI_nn hj id).2.2.2.2 he
  rw [top_flo hx hi] at hl
  obtain ⟨r, t, hr⟩ : ∃ r t, entR (vw (joinI xs fs [] [(id, 1000)]) (joinF fs [(id, 1000)])) id = (r, t) := ⟨_, _, rfl⟩
  have ht : t = false := by
    cases t
    · rfl
    · have := ((there_iff hj hr).1 rfl).1
      rw [he] at this; cases this
  subst ht
  have hc : chg 0 d (joinI xs fs [] [(id, 1000)]) (joinF fs [(id, 1000)]) id = (zeroK, 4) := by
    simp only [chg, hr, chJ, hl]; simp
  constructor
  · rw [sayC, (okS_iff _ _).2 hj, hi, hc]; simp
  · rw [sayL, (okS_iff _ _).2 hj, hi, hc]; simp
/-- Who cannot join as it is there. -/
theorem join_there (d : ByteArray) (hx : OkS xs fs) {id : Int} (hi : inB id 0 4 = true) {r : Key} {t : Bool} (hr : entR (vw xs fs) id = (r, t)) : t = (sayC 0 d xs fs id == 2) := by
  rw [sayC, (okS_iff _ _).2 hx, hi]
  simp only [chg, hr, chJ, Bool.and_self, if_true]
  cases t
  · simp only [Bool.false_eq_true, if_false]
    by_cases hm : (lastI xs fs id == 1000) = true
    · rw [if_pos hm]; rfl
    · rw [if_neg hm]; rfl
  · rfl
end
theorem said_of {k : Nat} (hk : k < 4) {d : ByteArray} {xs : List Itm} {fs : List Flr} {id : Int} (h : sayC k d xs fs id = 0) : OkS xs fs ∧ inB id 0 4 = true ∧ sayL k d xs fs id = [(id, (chg k d xs fs id).1)] ∧ Said k xs fs id (chg k d xs fs id).1 := by
  unfold sayC at h
  by_cases ho : (okS xs fs && inB id 0 4) = true
  · rw [if_pos ho] at h
    obtain ⟨h1, h2⟩ := (Bool.and_eq_true _ _ ▸ ho : okS xs fs = true ∧ inB id 0 4 = true)
    have hx := (okS_iff _ _).1 h1
    exact ⟨hx, h2, by rw [sayL, if_pos ho, if_pos h], chg_said k hk d hx h⟩
  · rw [if_neg ho] at h; cases h
theorem unsaid {k : Nat} {d : ByteArray} {xs : List Itm} {fs : List Flr} {id : Int} (h : sayC k d xs fs id ≠ 0) : sayL k d xs fs id = [] := by
  unfold sayC at h; unfold sayL
  by_cases ho : (okS xs fs && inB id 0 4) = true
  · rw [if_pos ho] at h ⊢; rw [if_neg h]
  · rw [if_neg ho]
theorem say_bad {k : Nat} {d : ByteArray} {xs : List Itm} {fs : List Flr} {id : Int} (h : (okS xs fs && inB id 0 4) = false) : sayL k d xs fs id = [] ∧ sayC k d xs fs id = 1 := by
  simp only [sayL, sayC, h, Bool.false_eq_true, if_false, and_self]
theorem say_no {k : Nat} {d : ByteArray} {xs : List Itm} {fs : List Flr} {id : Int} (h : (okS xs fs && inB id 0 4) = true) {e : Key} {c : Int} (hc : chg k d xs fs id = (e, c)) (h0 : c ≠ 0) : sayL k d xs fs id = [] ∧ sayC k d xs fs id = c := by
  simp only [sayL, sayC, h, if_true, hc, if_neg h0, and_self]
theorem say_ok {k : Nat} {d : ByteArray} {xs : List Itm} {fs : List Flr} {id : Int} (h : (okS xs fs && inB id 0 4) = true) {e : Key} (hc : chg k d xs fs id = (e, 0)) : sayL k d xs fs id = [(id, e)] ∧ sayC k d xs fs id = 0 := by
  simp only [sayL, sayC, h, if_true, hc, and_self]
theorem ok_parts {xs : List Itm} {fs : List Flr} {id : Int} (h : (okS xs fs && inB id 0 4) = true) : okS xs fs = true ∧ inB id 0 4 = true := Bool.and_eq_true _ _ ▸ h
theorem chg_one {k : Nat} (hk : k < 4) {d : ByteArray} {xs : List Itm} {fs : List Flr} {id : Int} (h : (okS xs fs && inB id 0 4) = true) {e : Key} (hc : chg k d xs fs id = (e, 0)) : okS [(id, e)] [] = true ∧ e.2.2.2.2.size ≤ 8 := by
  obtain ⟨h1, h2⟩ := ok_parts h
  have hs := chg_said k hk d ((okS_iff _ _).1 h1) (id := id) (by rw [hc])
  rw [hc] at hs
  exact ⟨(okS_iff _ _).2 (hs.one h2), okE_size hs.ok⟩
theorem OkS.sml5 {xs : List Itm} {fs : List Flr} (h : OkS xs fs) : Sml xs := fun k x hk => by
  have := okE_size (h.ix x (List.mem_of_getElem? hk)).2.2.1
  omega
/-- What l5Up answers. -/
def upR : Bool → Bool → Key → Key × Int
  | false, _, _ => (zeroK, 1)
  | true, false, _ => (zeroK, 3)
  | true, true, r => (r, 0)
/-- The result's variable is written: what was told stays. -/
theorem ow_res {base r : Nat} {W : World} {v : Value} {xs : List Itm} {c0 c1 : Value} (h : OwI base W v xs) (hb : W.heap[r]? = some (.cells #[c0, c1] 27 (0, 0))) (v1 v2 : Value) : OwI base ((W.setCell ⟨r, 0, none⟩ v1).setCell ⟨r, 1, none⟩ v2) v xs :=
  have hg : W.grownBy ((W.setCell ⟨r, 0, none⟩ v1).setCell ⟨r, 1, none⟩ v2) (some r) := ⟨rfl, rfl, rfl, by simp, fun k _ hk => by
    have hk' : k ≠ r := fun e => hk (by simp [e])
    rw [heap_setCell_other _ ⟨r, 1, none⟩ k _ hk', heap_setCell_other _ ⟨r, 0, none⟩ k _ hk']⟩
  World.ownsRow.kept h hg (.inr (own_ne h hb (by decide)))
theorem below_res {B r : Nat} {w W : World} (h : Below B w W) (hr : B ≤ r) (v1 v2 : Value) : Below B w ((W.setCell ⟨r, 0, none⟩ v1).setCell ⟨r, 1, none⟩ v2) := (h.setCell (p := ⟨r, 0, none⟩) hr _).setCell (p := ⟨r, 1, none⟩) hr _
theorem below_al {B : Nat} {w W : World} (h : Below B w W) (hr : B ≤ W.heap.size) (o : Obj) : Below B w (W.alloc o) := h.alloc hr o
theorem blk_al {W : World} {r : Nat} {o : Obj} (h : W.heap[r]? = some o) (q : Obj) : (W.alloc q).heap[r]? = some o := (Below.heap_alloc _ _ _ (Array.getElem?_eq_some_iff.1 h).1).trans h
theorem ow_al {base : Nat} {W : World} {v : Value} {xs : List Itm} (h : OwI base W v xs) (o : Obj) : OwI base (W.alloc o) v xs := h.later ((Below.refl _ _).alloc (Nat.le_refl _) o)
theorem blk_cells4 {w : World} {g : Nat} {T : TypeId} {c0 c1 c2 c3 : Value} (h : w.heap[g]? = some (.cells #[c0, c1, c2, c3] T (0, 0))) :
    w.cell? ⟨g, 0, none⟩ = some c0 ∧ w.cell? ⟨g, 1, none⟩ = some c1 ∧ w.cell? ⟨g, 2, none⟩ = some c2 ∧ w.cell? ⟨g, 3, none⟩ = some c3 ∧ ∀ o, w.frozen? ⟨g, o, none⟩ = false := by
  simp [World.cell?, World.frozen?, h]
theorem said_data {d : ByteArray} {xs : List Itm} {fs : List Flr} {id : Int} (h : sayC 2 d xs fs id = 0) : (chg 2 d xs fs id).1.2.2.2.2 = d := by
  unfold sayC at h
  split at h
  · simp only [chg, chS] at h ⊢
    split at h
    · cases h
    · rename_i h1
      rw [if_neg h1]
      split at h
      · cases h
      · rename_i h2
        rw [if_neg h2]
        split at h
        · cases h
        · rename_i h3
          rw [if_neg h3]
  · cases h
end Go.Proofs.YtdpaocikmijioabGreat

namespace Go.Proofs.YtdpaocikmijioabGreat
open Go.RowKit

/-- While an item is copied: the argument, the result's variable. -/
structure C6 (w W : World) (x : Itm) : Prop where
  bel : Below w.heap.size w W
  k1 : W.heap[w.heap.size]? = some (.cells #[.int .i64 x.1, .int .i64 x.2.1, .int .i64 x.2.2.1, .int .i64 x.2.2.2.1, .int .i64 x.2.2.2.2.1, .string x.2.2.2.2.2] 40 (0, 0))
  k2 : W.heap[w.heap.size + 1]? = some (.cells #[.int .i64 0, .int .i64 0, .int .i64 0, .int .i64 0, .int .i64 0, .string ⟨#[]⟩] 40 (0, 0))
theorem C6.lt {w W : World} {x : Itm} (h : C6 w W x) : w.heap.size + 1 < W.heap.size := (Array.getElem?_eq_some_iff.1 h.k2).1
theorem C6.later {w W Y : World} {x : Itm} (h : C6 w W x) (b : Below W.heap.size W Y) : C6 w Y x := by
  have := h.lt
  exact ⟨h.bel.trans (b.mono h.bel.size), (b.block _ (by omega)).trans h.k1, (b.block _ h.lt).trans h.k2⟩
theorem C6.drewH {w W : World} {x : Itm} (h : Hid (C6 w W x)) : Hid (C6 w W.drew x) := hide ⟨(unhide h).bel.drew, (unhide h).k1, (unhide h).k2⟩
theorem kC6 {w W : World} {x : Itm} (h : Hid (C6 w W x)) : Below w.heap.size w W ∧ W.cell? ⟨w.heap.size, 0, none⟩ = some (.int .i64 x.1) ∧ W.cell? ⟨w.heap.size, 1, none⟩ = some (.int .i64 x.2.1) ∧ W.cell? ⟨w.heap.size, 2, none⟩ = some (.int .i64 x.2.2.1) ∧ W.cell? ⟨w.heap.size, 3, none⟩ = some (.int .i64 x.2.2.2.1) ∧ W.cell? ⟨w.heap.size, 4, none⟩ = some (.int .i64 x.2.2.2.2.1) ∧ W.cell? ⟨w.heap.size, 5, none⟩ = some (.string x.2.2.2.2.2) := by
  obtain ⟨h0, h1, h2, h3, h4, h5, -⟩ := blk_cells6 (unhide h).k1
  exact ⟨(unhide h).bel, h0, h1, h2, h3, h4, h5⟩
theorem kC6s {w W : World} {x : Itm} (h : Hid (C6 w W x)) (v0 v1 v2 v3 v4 v5 : Value) : Below w.heap.size w ((((((W.setCell ⟨w.heap.size + 1, 0, none⟩ v0).setCell ⟨w.heap.size + 1, 1, none⟩ v1).setCell ⟨w.heap.size + 1, 2, none⟩ v2).setCell ⟨w.heap.size + 1, 3, none⟩ v3).setCell ⟨w.heap.size + 1, 4, none⟩ v4).setCell ⟨w.heap.size + 1, 5, none⟩ v5) ∧ ((((((W.setCell ⟨w.heap.size + 1, 0, none⟩ v0).setCell ⟨w.heap.size + 1, 1, none⟩ v1).setCell ⟨w.heap.size + 1, 2, none⟩ v2).setCell ⟨w.heap.size + 1, 3, none⟩ v3).setCell ⟨w.heap.size + 1, 4, none⟩ v4).setCell ⟨w.heap.size + 1, 5, none⟩ v5).cell? ⟨w.heap.size, 0, none⟩ = some (.int .i64 x.1) ∧ ((((((W.setCell ⟨w.heap.size + 1, 0, none⟩ v0).setCell ⟨w.heap.size + 1, 1, none⟩ v1).setCell ⟨w.heap.size + 1, 2, none⟩ v2).setCell ⟨w.heap.size + 1, 3, none⟩ v3).setCell ⟨w.heap.size + 1, 4, none⟩ v4).setCell ⟨w.heap.size + 1, 5, none⟩ v5).cell? ⟨w.heap.size, 1, none⟩ = some (.int .i64 x.2.1) ∧ ((((((W.setCell ⟨w.heap.size + 1, 0, none⟩ v0).setCell ⟨w.heap.size + 1, 1, none⟩ v1).setCell ⟨w.heap.size + 1, 2, none⟩ v2).setCell ⟨w.heap.size + 1, 3, none⟩ v3).setCell ⟨w.heap.size + 1, 4, none⟩ v4).setCell ⟨w.heap.size + 1, 5, none⟩ v5).cell? ⟨w.heap.size, 2, none⟩ = some (.int .i64 x.2.2.1) ∧ ((((((W.setCell ⟨w.heap.size + 1, 0, none⟩ v0).setCell ⟨w.heap.size + 1, 1, none⟩ v1).setCell ⟨w.heap.size + 1, 2, none⟩ v2).setCell ⟨w.heap.size + 1, 3, none⟩ v3).setCell ⟨w.heap.size + 1, 4, none⟩ v4).setCell ⟨w.heap.size + 1, 5, none⟩ v5).cell? ⟨w.heap.size, 3, none⟩ = some (.int .i64 x.2.2.2.1) ∧ ((((((W.setCell ⟨w.heap.size + 1, 0, none⟩ v0).setCell ⟨w.heap.size + 1, 1, none⟩ v1).setCell ⟨w.heap.size + 1, 2, none⟩ v2).setCell ⟨w.heap.size + 1, 3, none⟩ v3).setCell ⟨w.heap.size + 1, 4, none⟩ v4).setCell ⟨w.heap.size + 1, 5, none⟩ v5).cell? ⟨w.heap.size, 4, none⟩ = some (.int .i64 x.2.2.2.2.1) ∧ ((((((W.setCell ⟨w.heap.size + 1, 0, none⟩ v0).setCell ⟨w.heap.size + 1, 1, none⟩ v1).setCell ⟨w.heap.size + 1, 2, none⟩ v2).setCell ⟨w.heap.size + 1, 3, none⟩ v3).setCell ⟨w.heap.size + 1, 4, none⟩ v4).setCell ⟨w.heap.size + 1, 5, none⟩ v5).cell? ⟨w.heap.size, 5, none⟩ = some (.string x.2.2.2.2.2) := by
  obtain ⟨hb, h0, h1, h2, h3, h4, h5⟩ := kC6 h
  have ne : w.heap.size ≠ w.heap.size + 1 := by omega
  exact ⟨below_set6 (by omega) hb, blk_far6 ne h0, blk_far6 ne h1, blk_far6 ne h2, blk_far6 ne h3, blk_far6 ne h4, blk_far6 ne h5⟩

set_option maxHeartbeats 4000000 in
set_option maxRecDepth 100000 in
theorem icopyI_any (x : Itm) (hd : x.2.2.2.2.2.size ≤ 281474976710656) (w : World) :
    Calls Tryz.prog 92 #[.agg #[.int .i64 x.1, .int .i64 x.2.1, .int .i64 x.2.2.1, .int .i64 x.2.2.2.1, .int .i64 x.2.2.2.2.1, .string x.2.2.2.2.2]] w fun e w' => e = .returned (.agg #[.int .i64 x.1, .int .i64 x.2.1, .int .i64 x.2.2.1, .int .i64 x.2.2.2.1, .int .i64 x.2.2.2.2.1, .string x.2.2.2.2.2]) ∧ Below w.heap.size w w' := by
  go_enter Tryz.func92, Tryz.ntmps92
  go_upto_region 1 with fail
  obtain ⟨V, hV⟩ : ∃ V, V = (w.alloc (.cells #[.int .i64 x.1, .int .i64 x.2.1, .int .i64 x.2.2.1, .int .i64 x.2.2.2.1, .int .i64 x.2.2.2.2.1, .string x.2.2.2.2.2] 40)).alloc (.cells #[.int .i64 0, .int .i64 0, .int .i64 0, .int .i64 0, .int .i64 0, .string ⟨#[]⟩] 40) := ⟨_, rfl⟩
  have CV := hide (show C6 w V x from by rw [hV]; exact ⟨((Below.refl w.heap.size w).alloc (Nat.le_refl _) _).alloc (by simp) _, lowB2 w _ _, newB2 w _ _⟩)
  rw [← hV]
  clear hV
  have CD := C6.drewH CV
  have z1 := (unhide CV).lt
  have z0 : w.heap.size < V.heap.size := by omega
  go_region_held3 (fun W => Below w.heap.size w W ∧ W.cell? ⟨w.heap.size, 0, none⟩ = some (.int .i64 x.1) ∧ W.cell? ⟨w.heap.size, 1, none⟩ = some (.int .i64 x.2.1) ∧ W.cell? ⟨w.heap.size, 2, none⟩ = some (.int .i64 x.2.2.1) ∧ W.cell? ⟨w.heap.size, 3, none⟩ = some (.int .i64 x.2.2.2.1) ∧ W.cell? ⟨w.heap.size, 4, none⟩ = some (.int .i64 x.2.2.2.2.1) ∧ W.cell? ⟨w.heap.size, 5, none⟩ = some (.string x.2.2.2.2.2))
    (first | (with_reducible exact kC6 CV) | (with_reducible exact kC6 CD) | (with_reducible exact kC6 CA) | (with_reducible exact kC6s CA _ _ _ _ _ _))
    (first | (go_at_call 54; refine (icopy_any x.2.1 x.2.2.1 x.2.2.2.1 x.2.2.2.2.1 x.2.2.2.2.2 hd _).mono ?_; rintro e w6 ⟨rfl, b6⟩; (first | (with_reducible have CA := hide ((unhide CD).later b6)) | (with_reducible have CA := hide ((unhide CV).later b6))); obtain ⟨q0, q1, q2, q3, q4, q5, qf⟩ := blk_cells6 (unhide CA).k2; have zA := (unhide CA).lt; clear b6))
  all_goals go_wp2
  all_goals exact bodyPost_ret (v := .agg #[.int .i64 x.1, .int .i64 x.2.1, .int .i64 x.2.2.1, .int .i64 x.2.2.2.1, .int .i64 x.2.2.2.2.1, .string x.2.2.2.2.2]) (by simp [results, Tryz.results92, go_sem, q0, q1, q2, q3, q4, q5]) rfl ⟨rfl, (kC6s CA _ _ _ _ _ _).1⟩
theorem lkF_pos {fs gs : List Flr} {k : Nat} {x : Flr} (hx : gs[k]? = some x) (h : lkF1 fs x = true) : lkF fs (gs.take (k + 1)) = lkF fs (gs.take k) ++ [x] := by
  rw [lkF, take_filter hx, if_pos h]; rfl
theorem lkF_neg {fs gs : List Flr} {k : Nat} {x : Flr} (hx : gs[k]? = some x) (h : lkF1 fs x = false) : lkF fs (gs.take (k + 1)) = lkF fs (gs.take k) := by
  rw [lkF, take_filter hx, if_neg (by simp [h]), List.append_nil]; rfl
theorem lkI_pos {xs ys : List Itm} {fs : List Flr} {k : Nat} {x : Itm} (hx : ys[k]? = some x) (h : lkI1 xs fs x = true) : lkI xs fs (ys.take (k + 1)) = lkI xs fs (ys.take k) ++ [x] := by
  rw [lkI, take_filter hx, if_pos h]; rfl
theorem lkI_neg {xs ys : List Itm} {fs : List Flr} {k : Nat} {x : Itm} (hx : ys[k]? = some x) (h : lkI1 xs fs x = false) : lkI xs fs (ys.take (k + 1)) = lkI xs fs (ys.take k) := by
  rw [lkI, take_filter hx, if_neg (by simp [h]), List.append_nil]; rfl
theorem lkF_k {fs gs : List Flr} {k : Nat} : (lkF fs (gs.take k)).length ≤ k := Nat.le_trans (lkF_len _ _) (by simp; omega)
theorem lkI_k {xs ys : List Itm} {fs : List Flr} {k : Nat} : (lkI xs fs (ys.take k)).length ≤ k := Nat.le_trans (lkI_len _ _ _) (by simp; omega)
theorem inewerK_v (a b : Key) (r : Bool) (h : Hid (decide (0 < cmpE a.1 a.2.1 a.2.2.1 a.2.2.2.1 a.2.2.2.2 b.1 b.2.1 b.2.2.1 b.2.2.2.1 b.2.2.2.2) = r)) (w : World) : Calls Tryz.prog 112 #[.agg #[.int .i64 a.1, .int .i64 a.2.1, .int .i64 a.2.2.1, .int .i64 a.2.2.2.1, .string a.2.2.2.2], .agg #[.int .i64 b.1, .int .i64 b.2.1, .int .i64 b.2.2.1, .int .i64 b.2.2.2.1, .string b.2.2.2.2]] w fun e w' => e = .returned (.bool r) ∧ Below w.heap.size w w' := by
  rw [← unhide h]; exact inewer_any _ _ _ _ _ _ _ _ _ _ w

end Go.Proofs.YtdpaocikmijioabGreat

namespace Go.Proofs.YtdpaocikmijioabGreat
open Go.RowKit

theorem own_empty {w : World} {g base : Nat} (hb : base ≤ g) (h : w.heap[g]? = some (.cells #[] 40 (0, 0))) : OwI base w (.slice (some ⟨g, 0, none⟩) 0 0) [] :=
  ⟨by simp, .inr ⟨g, 0, #[], rfl, hb, h, by simp, by simp⟩⟩
theorem upI_posS {xs : List Itm} {k : Nat} {x : Itm} (hx : xs[k]? = some x) (h : (x.2.2.1 == 0) = true) : upI (xs.take (k + 1)) = upI (xs.take k) ++ [x] := by
  rw [upI, take_filter hx, if_pos h]; rfl
theorem upI_negS {xs : List Itm} {k : Nat} {x : Itm} (hx : xs[k]? = some x) (h : (x.2.2.1 == 0) = false) : upI (xs.take (k + 1)) = upI (xs.take k) := by
  rw [upI, take_filter hx, if_neg (by simp [h]), List.append_nil]; rfl
theorem upI_kS {xs : List Itm} {k : Nat} : (upI (xs.take k)).length ≤ k := Nat.le_trans (List.length_filter_le _ _) (by simp; omega)

set_option maxHeartbeats 4000000 in
set_option maxRecDepth 100000 in
theorem sview_any (ai : Option Addr) (ni ci : Nat) (xs : List Itm) (af : Option Addr) (nf cf : Nat) (fs : List Flr) (w : World)
    (hni : ni ≤ 140737488351232) (hnf : nf ≤ 140737488351232) (hx : Rw encI 6 w (.slice ai ni ci) xs) (hf : Rw encF 2 w (.slice af nf cf) fs) :
    Calls Tryz.prog 82 #[.agg #[.slice ai ni ci, .slice af nf cf]] w fun e w' => ∃ a1 n1 c1, e = .returned (.slice a1 n1 c1) ∧ OwI w.heap.size w' (.slice a1 n1 c1) (vw xs fs) ∧ Below w.heap.size w w' := by
  obtain ⟨i0, hi, hz0, hz1, hz2⟩ := info_parts Tryz.infoItem
  obtain ⟨okA, hA⟩ : ∃ okA, okS xs fs = okA := ⟨_, rfl⟩
  have HV := hide (show vw xs fs = if okA = true then upI xs else [] by rw [vw, hA])
  have HX := hide hx
  have HF := hide hf
  have HA := hide hA
  clear hx hf hA
  go_enter Tryz.func82, Tryz.ntmps82
  go_wp2_with fail
  have bW : Below w.heap.size w ((w.alloc (.cells #[.slice ai ni ci, .slice af nf cf] 27)).alloc (.cells #[] 40)) := ((Below.refl w.heap.size w).alloc (Nat.le_refl _) _).alloc (by simp) _
  have oW : OwI w.heap.size ((w.alloc (.cells #[.slice ai ni ci, .slice af nf cf] 27)).alloc (.cells #[] 40)) (.slice (some ⟨w.heap.size + 1, 0, none⟩) 0 0) [] := own_empty (by omega) (newB2 w _ _)
  refine (sstateok_any ai ni ci xs af nf cf fs _ HA _ hni hnf ((unhide HX).later bW) ((unhide HF).later bW)).mono ?_
  rintro e w1 ⟨rfl, b1⟩
  have HB1 := hide (bW.trans (b1.mono (by simp; omega)))
  have MA := hide ((b1.block _ (by simp; omega)).trans (lowB2 w _ _))
  have hz1 : w.heap.size < w1.heap.size := (Array.getElem?_eq_some_iff.mp (unhide MA)).1
  have O1 := hide (oW.later b1)
  clear b1 bW oW
  cases okA
  · go_wp2
    go_ret
    exact ⟨_, _, _, rfl, by rw [unhide HV]; exact unhide O1, unhide HB1⟩
  · have OA := (okS_iff _ _).1 (unhide HA)
    have m5 : ni ≤ 5 := by have := (unhide HX).len.1; have := OA.len5.1; omega
    replace HV := hide (show vw xs fs = upI xs from unhide HV)
    clear OA
    go_wp2
    go_loopw [3, 4] (fun v i wr => ∃ (k : Nat) (a2 : Option Addr) (n2 c2 : Nat), k ≤ ni ∧ i = .int .i64 k ∧ v = .slice a2 n2 c2 ∧ OwI w.heap.size wr (.slice a2 n2 c2) (upI (xs.take k)) ∧ Below w.heap.size w wr ∧ wr.heap[w.heap.size]? = some (.cells #[.slice ai ni ci, .slice af nf cf] 27 (0, 0))) (fun _ i _ => ni - (intOf i).toNat)
    case atStart => exact ⟨0, _, 0, 0, by omega, rfl, rfl, unhide O1, unhide HB1, unhide MA⟩
    case round =>
      clear HB1 MA O1 hz1
      obtain ⟨k, a2, n2, c2, hk, rfl, rfl, hown, hbel, ka⟩ := hrel
      have HO := hide hown
      have HB := hide hbel
      have KA := hide ka
      have hsz := hbel.size
      have hz : w.heap.size < wr.heap.size := (Array.getElem?_eq_some_iff.mp ka).1
      obtain ⟨pa0, pa1, -⟩ := blk_cells2 ka
      clear hown ka
      by_cases hlt : k < ni
      · obtain ⟨x, b, off, hx, rfl, hb, hcap, hc⟩ := ((unhide HX).later hbel).at hlt
        obtain ⟨c0, c1, c2', c3, c4, c5⟩ := item_cells hc
        have HX1 := hide hx
        have hn2 : Hid (n2 = (upI (xs.take k)).length) := hide ((unhide HO).rw encI_len).len.1
        have hn2l : n2 ≤ k := by have := unhide hn2; have := upI_kS (xs := xs) (k := k); omega
        clear hx hc hbel
        rcases Bool.eq_false_or_eq_true (x.2.2.1 == 0) with he | he
        · have HP := hide (upI_posS (unhide HX1) he)
          go_wp2_with (first | (at_builtin; refine wpList_app1 encI_len (by omega) oneI 40 24 i0 _ 56 Tryz.underlying24 hi hz0 hz1 hz2 rfl (by omega) wr x rfl _ _ rfl w.heap.size _ (upI (xs.take k)) n2 hn2 rfl (unhide HO) rfl (by omega) hsz ?_; intro a2' c2' w4 hO hG; have HO4 := hide hO; have HB4 := hide ((Trn.of_grown hG).below (unhide HB) hsz (fun i q => (World.ownsRow.lt (unhide HO) i q).1)); have HG4 := hide hG; clear hO hG))
          go_roundw
          case rel =>
            have hnA := own_ne (unhide HO) (unhide KA) (by decide)
            exact ⟨k + 1, a2', n2 + 1, c2', by omega, by go_num, rfl, by rw [unhide HP]; exact unhide HO4, unhide HB4, ((unhide HG4).block _ hz (fun q => hnA q.symm)).trans (unhide KA)⟩
          case measure => simp [intOf]; omega
        · have HP := hide (upI_negS (unhide HX1) he)
          go_wp2
          go_roundw
          case rel => exact ⟨k + 1, a2, n2, c2, by omega, by go_num, rfl, by rw [unhide HP]; exact unhide HO, unhide HB, unhide KA⟩
          case measure => simp [intOf]; omega
      · have HT : Hid (upI (xs.take k) = vw xs fs) := hide (by rw [unhide HV, List.take_of_length_le (by have := (unhide HX).len.1; omega)])
        clear hbel
        go_wp2
        go_ret
        exact ⟨a2, n2, c2, rfl, by rw [← unhide HT]; exact unhide HO, unhide HB⟩
theorem vw_len (xs : List Itm) (fs : List Flr) : (vw xs fs).length ≤ 5 := by
  unfold vw
  split
  · rename_i h
    exact Nat.le_trans (List.length_filter_le _ _) ((okS_iff _ _).1 h).len5.1
  · simp
set_option maxHeartbeats 4000000 in
set_option maxRecDepth 100000 in
theorem slookup_any (ai : Option Addr) (ni ci : Nat) (xs : List Itm) (af : Option Addr) (nf cf : Nat) (fs : List Flr) (id : Int) (r : Key) (ok : Bool) (h0 : Hid (entR (vw xs fs) id = (r, ok))) (w : World)
    (hni : ni ≤ 140737488351232) (hnf : nf ≤ 140737488351232) (hx : Rw encI 6 w (.slice ai ni ci) xs) (hf : Rw encF 2 w (.slice af nf cf) fs) :
    Calls Tryz.prog 41 #[.agg #[.slice ai ni ci, .slice af nf cf], .int .i64 id] w fun e w' => e = .returned (.tuple #[.agg #[.int .i64 r.1, .int .i64 r.2.1, .int .i64 r.2.2.1, .int .i64 r.2.2.2.1, .string r.2.2.2.2], .bool ok]) ∧ Below w.heap.size w w' := by
  have bW : Below w.heap.size w ((w.alloc (.cells #[.slice ai ni ci, .slice af nf cf] 27)).alloc (.cells #[.int .i64 0, .int .i64 0, .int .i64 0, .int .i64 0, .string ⟨#[]⟩] 38)) := ((Below.refl w.heap.size w).alloc (Nat.le_refl _) _).alloc (by simp) _
  have HX := hide (hx.later bW)
  have HF := hide (hf.later bW)
  clear hx hf
  go_enter Tryz.func41, Tryz.ntmps41
  go_wp2_with fail
  refine (sview_any ai ni ci xs af nf cf fs _ hni hnf (unhide HX) (unhide HF)).mono ?_
  rintro e w1 ⟨a1, n1, c1, rfl, o1, b1⟩
  have n5 : n1 ≤ 5 := by have := (o1.rw encI_len).len.1; have := vw_len xs fs; omega
  have R1 := hide (o1.rw encI_len)
  have HB1 := hide (bW.trans (b1.mono (by simp; omega)))
  have KE := hide ((b1.block (w.heap.size + 1) (by simp)).trans (newB2 w _ _))
  have hz1 : w.heap.size + 1 < w1.heap.size := (Array.getElem?_eq_some_iff.mp (unhide KE)).1
  clear o1 b1 bW HX HF
  go_wp2_with fail
  refine (sentry_any _ a1 n1 c1 (vw xs fs) id r ok h0 _ (by omega) (unhide R1)).mono ?_
  rintro e w2 ⟨rfl, b2⟩
  have HB2 := hide ((unhide HB1).trans (b2.mono (unhide HB1).size))
  obtain ⟨q0, q1, q2, q3, q4, qf⟩ := blk_cells5 ((b2.block _ hz1).trans (unhide KE))
  clear b2 KE R1 HB1
  go_wp2
  exact bodyPost_ret (v := .tuple #[.agg #[.int .i64 r.1, .int .i64 r.2.1, .int .i64 r.2.2.1, .int .i64 r.2.2.2.1, .string r.2.2.2.2], .bool ok]) (by simp [results, Tryz.results41, go_sem, q0, q1, q2, q3, q4]) rfl ⟨rfl, below_set5 (by omega) (unhide HB2)⟩
end Go.Proofs.YtdpaocikmijioabGreat

namespace Go.Proofs.YtdpaocikmijioabGreat
open Go.RowKit

set_option maxHeartbeats 4000000 in
set_option maxRecDepth 100000 in
theorem l5one_any (id : Int) (e : Key) (h0 : Hid (okS [(id, e)] [] = true)) (w : World) :
    Calls Tryz.prog 45 #[.int .i64 id, .agg #[.int .i64 e.1, .int .i64 e.2.1, .int .i64 e.2.2.1, .int .i64 e.2.2.2.1, .string e.2.2.2.2]] w fun r w' => ∃ a c, r = .returned (.tuple #[.agg #[.slice a 1 c, .slice none 0 0], .int .i64 0]) ∧ OwI w.heap.size w' (.slice a 1 c) [(id, e)] ∧ Below w.heap.size w w' := by
  go_enter Tryz.func45, Tryz.ntmps45
  go_wp2_with fail
  refine (ssingle_any id e true h0 1 (hide rfl) _).mono ?_
  rintro e w1 ⟨a, c, rfl, o1, b1⟩
  have cw1 := (((Below.refl w.heap.size w).alloc (Nat.le_refl _) _).alloc (by simp <;> omega) _).trans (b1.mono (by simp <;> omega))
  have zw1 := cw1.size
  have K_e : Hid (w1.heap[w.heap.size]? = some (.cells #[.int .i64 e.1, .int .i64 e.2.1, .int .i64 e.2.2.1, .int .i64 e.2.2.2.1, .string e.2.2.2.2] 38 (0, 0)) ∧ w.heap.size < w1.heap.size) := hide ⟨(b1.block _ (by simp <;> omega)).trans (lowB2 w _ _), by have := b1.size; simp at this; omega⟩
  have y_e := (unhide K_e).2
  have K_r : Hid (w1.heap[w.heap.size + 1]? = some (.cells #[.slice none 0 0, .slice none 0 0] 27 (0, 0)) ∧ w.heap.size + 1 < w1.heap.size) := hide ⟨(b1.block _ (by simp <;> omega)).trans (newB2 w _ _), by have := b1.size; simp at this; omega⟩
  have y_r := (unhide K_r).2
  have BL := hide cw1
  have R_oS1 := hide (o1)
  have L_oS1 := hide (World.ownsRow.lt (unhide R_oS1))
  clear b1 cw1
  obtain ⟨e_0, e_1, e_2, e_3, e_4, e_z⟩ := blk_cells5 (unhide K_e).1
  have n_e := (unhide K_e).2
  obtain ⟨r_0, r_1, r_z⟩ := blk_cells2 (unhide K_r).1
  have n_r := (unhide K_r).2
  clear o1
  go_wp2
  obtain ⟨p0, p1, -⟩ := blk_cells2 (blk_al (blk_set2 (unhide K_r).1 (.slice a 1 c) (.slice none 0 0)) (.cells #[.slice a 1 c, .slice none 0 0] 27))
  exact bodyPost_ret (v := .tuple #[.agg #[.slice a 1 c, .slice none 0 0], .int .i64 0]) (by simp [results, Tryz.results45, go_sem, p0, p1]) rfl ⟨a, c, rfl, ow_al (ow_res (Ow.base (unhide R_oS1) (by simp; omega)) (unhide K_r).1 _ _) _, below_al (below_res (unhide BL) (by omega) _ _) (by simp; omega) _⟩
set_option maxHeartbeats 4000000 in
set_option maxRecDepth 100000 in
theorem l5up_any (ai : Option Addr) (ni ci : Nat) (xs : List Itm) (af : Option Addr) (nf cf : Nat) (fs : List Flr) (id : Int) (ok : Bool) (h0 : Hid ((okS xs fs && inB id 0 4) = ok)) (r : Key) (t : Bool) (hr : Hid (entR (vw xs fs) id = (r, t))) (u : Key) (c : Int) (hu : Hid (upR ok t r = (u, c))) (w : World) (hni : ni ≤ 140737488351232) (hnf : nf ≤ 140737488351232) (hx : Rw encI 6 w (.slice ai ni ci) xs) (hf : Rw encF 2 w (.slice af nf cf) fs) :
    Calls Tryz.prog 46 #[.agg #[.slice ai ni ci, .slice af nf cf], .int .i64 id] w fun e w' => e = .returned (.tuple #[.agg #[.int .i64 u.1, .int .i64 u.2.1, .int .i64 u.2.2.1, .int .i64 u.2.2.2.1, .string u.2.2.2.2], .int .i64 c]) ∧ Below w.heap.size w w' := by
  have R_x := hide hx
  have R_f := hide hf
  clear hx hf
  obtain ⟨k1, HK1⟩ : ∃ k, Hid (okS xs fs = k) := ⟨_, hide rfl⟩
  obtain ⟨k2, HK2⟩ : ∃ k, Hid (inB id 0 4 = k) := ⟨_, hide rfl⟩
  have HK : Hid ((k1 && k2) = ok) := hide (by rw [← unhide HK1, ← unhide HK2]; exact unhide h0)
  go_enter Tryz.func46, Tryz.ntmps46
  go_wp2_with fail
  refine (sstateok_any ai ni ci xs af nf cf fs k1 HK1 _ hni hnf (((unhide R_x).alloc _).alloc _) (((unhide R_f).alloc _).alloc _)).mono ?_
  rintro e w1 ⟨rfl, b1⟩
  have cw1 := (((Below.refl w.heap.size w).alloc (Nat.le_refl _) _).alloc (by simp <;> omega) _).trans (b1.mono (by simp <;> omega))
  have zw1 := cw1.size
  have K_s : Hid (w1.heap[w.heap.size]? = some (.cells #[.slice ai ni ci, .slice af nf cf] 27 (0, 0)) ∧ w.heap.size < w1.heap.size) := hide ⟨(b1.block _ (by simp <;> omega)).trans (lowB2 w _ _), by have := b1.size; simp at this; omega⟩
  have y_s := (unhide K_s).2
  have K_r : Hid (w1.heap[w.heap.size + 1]? = some (.cells #[.int .i64 0, .int .i64 0, .int .i64 0, .int .i64 0, .string ⟨#[]⟩] 38 (0, 0)) ∧ w.heap.size + 1 < w1.heap.size) := hide ⟨(b1.block _ (by simp <;> omega)).trans (newB2 w _ _), by have := b1.size; simp at this; omega⟩
  have y_r := (unhide K_r).2
  have R_x := hide ((unhide R_x).later cw1)
  have R_f := hide ((unhide R_f).later cw1)
  have BL := hide cw1
  clear b1 cw1
  obtain ⟨s_0, s_1, -⟩ := blk_cells2 (unhide K_s).1
  have n_s := (unhide K_s).2
  obtain ⟨r_0, r_1, r_2, r_3, r_4, r_z⟩ := blk_cells5 (unhide K_r).1
  have n_r := (unhide K_r).2
  cases k1
  · obtain ⟨rfl, rfl⟩ : u = zeroK ∧ c = 1 := by have h := unhide hu; rw [← unhide HK] at h; exact ⟨(congrArg Prod.fst h).symm, (congrArg Prod.snd h).symm⟩
    go_wp2
    exact bodyPost_ret (v := .tuple #[.agg #[.int .i64 zeroK.1, .int .i64 zeroK.2.1, .int .i64 zeroK.2.2.1, .int .i64 zeroK.2.2.2.1, .string zeroK.2.2.2.2], .int .i64 1]) (by simp [results, Tryz.results46, go_sem, zeroK, r_0, r_1, r_2, r_3, r_4]) rfl ⟨rfl, below_set5 (by omega) (unhide BL)⟩
  go_wp2_with fail
  refine (l3node_any id k2 HK2 _).mono ?_
  rintro e _ ⟨rfl, rfl⟩
  cases k2
  · obtain ⟨rfl, rfl⟩ : u = zeroK ∧ c = 1 := by have h := unhide hu; rw [← unhide HK] at h; exact ⟨(congrArg Prod.fst h).symm, (congrArg Prod.snd h).symm⟩
    go_wp2
    exact bodyPost_ret (v := .tuple #[.agg #[.int .i64 zeroK.1, .int .i64 zeroK.2.1, .int .i64 zeroK.2.2.1, .int .i64 zeroK.2.2.2.1, .string zeroK.2.2.2.2], .int .i64 1]) (by simp [results, Tryz.results46, go_sem, zeroK, r_0, r_1, r_2, r_3, r_4]) rfl ⟨rfl, below_set5 (by omega) (unhide BL)⟩
  obtain rfl : ok = true := (unhide HK).symm
  go_wp2_with fail
  refine (slookup_any ai ni ci xs af nf cf fs id r t hr _ hni hnf (unhide R_x) (unhide R_f)).mono ?_
  rintro e w2 ⟨rfl, b2⟩
  clear r_0 r_1 r_2 r_3 r_4 r_z n_r s_0 s_1 n_s
  have cw2 := b2
  have zw2 := cw2.size
  have K_s := hide (keptblk cw2 K_s)
  have K_r := hide (keptblk cw2 K_r)
  have R_x := hide ((unhide R_x).later cw2)
  have R_f := hide ((unhide R_f).later cw2)
  have BL := hide ((unhide BL).trans (cw2.mono (unhide BL).size))
  clear b2 cw2
  obtain ⟨s_0, s_1, -⟩ := blk_cells2 (unhide K_s).1
  have n_s := (unhide K_s).2
  obtain ⟨r_0, r_1, r_2, r_3, r_4, r_z⟩ := blk_cells5 (unhide K_r).1
  have n_r := (unhide K_r).2
  cases t
  · obtain ⟨rfl, rfl⟩ : u = zeroK ∧ c = 3 := ⟨(congrArg Prod.fst (unhide hu)).symm, (congrArg Prod.snd (unhide hu)).symm⟩
    go_wp2
    obtain ⟨p0, p1, p2, p3, p4, -⟩ := blk_cells5 (blk_al (blk_set5 (unhide K_r).1 (.int .i64 0) (.int .i64 0) (.int .i64 0) (.int .i64 0) (.string ⟨#[]⟩)) (.cells #[.int .i64 r.1, .int .i64 r.2.1, .int .i64 r.2.2.1, .int .i64 r.2.2.2.1, .string r.2.2.2.2] 38))
    exact bodyPost_ret (v := .tuple #[.agg #[.int .i64 zeroK.1, .int .i64 zeroK.2.1, .int .i64 zeroK.2.2.1, .int .i64 zeroK.2.2.2.1, .string zeroK.2.2.2.2], .int .i64 3]) (by simp [results, Tryz.results46, go_sem, zeroK, p0, p1, p2, p3, p4]) rfl ⟨rfl, below_al (below_set5 (by omega) (unhide BL)) (by simp; omega) _⟩
  obtain ⟨rfl, rfl⟩ : u = r ∧ c = 0 := ⟨(congrArg Prod.fst (unhide hu)).symm, (congrArg Prod.snd (unhide hu)).symm⟩
  go_wp2
  obtain ⟨p0, p1, p2, p3, p4, -⟩ := blk_cells5 (blk_al (blk_set5 (unhide K_r).1 (.int .i64 u.1) (.int .i64 u.2.1) (.int .i64 u.2.2.1) (.int .i64 u.2.2.2.1) (.string u.2.2.2.2)) (.cells #[.int .i64 u.1, .int .i64 u.2.1, .int .i64 u.2.2.1, .int .i64 u.2.2.2.1, .string u.2.2.2.2] 38))
  exact bodyPost_ret (v := .tuple #[.agg #[.int .i64 u.1, .int .i64 u.2.1, .int .i64 u.2.2.1, .int .i64 u.2.2.2.1, .string u.2.2.2.2], .int .i64 0]) (by simp [results, Tryz.results46, go_sem, p0, p1, p2, p3, p4]) rfl ⟨rfl, below_al (below_set5 (by omega) (unhide BL)) (by simp; omega) _⟩
set_option maxHeartbeats 4000000 in
set_option maxRecDepth 100000 in
theorem ssay1_any (ai : Option Addr) (ni ci : Nat) (xs : List Itm) (af : Option Addr) (nf cf : Nat) (fs : List Flr) (id : Int) (n : Nat) (HN : Hid ((sayL 1 ⟨#[]⟩ xs fs id).length = n)) (c : Int) (HC : Hid (sayC 1 ⟨#[]⟩ xs fs id = c)) (w : World) (hni : ni ≤ 140737488351232) (hnf : nf ≤ 140737488351232) (hx : Rw encI 6 w (.slice ai ni ci) xs) (hf : Rw encF 2 w (.slice af nf cf) fs) :
    Calls Tryz.prog 12 #[.agg #[.slice ai ni ci, .slice af nf cf], .int .i64 id] w fun e w' => ∃ a q, e = .returned (.tuple #[.agg #[.slice a n q, .slice none 0 0], .int .i64 c]) ∧ OwI w.heap.size w' (.slice a n q) (sayL 1 ⟨#[]⟩ xs fs id) ∧ Below w.heap.size w w' := by
  have R_x := hide hx
  have R_f := hide hf
  clear hx hf
  obtain ⟨ok, h0⟩ : ∃ k, Hid ((okS xs fs && inB id 0 4) = k) := ⟨_, hide rfl⟩
  obtain ⟨r, t, hr⟩ : ∃ r t, Hid (entR (vw xs fs) id = (r, t)) := ⟨_, _, hide rfl⟩
  obtain ⟨u, uc, hu⟩ : ∃ u uc, Hid (upR ok t r = (u, uc)) := ⟨_, _, hide rfl⟩
  go_enter Tryz.func12, Tryz.ntmps12
  go_wp2_with fail
  refine (l5up_any ai ni ci xs af nf cf fs id ok h0 r t hr u uc hu _ hni hnf (((unhide R_x).alloc _).alloc _) (((unhide R_f).alloc _).alloc _)).mono ?_
  rintro e w1 ⟨rfl, b1⟩
  have cw1 := (((Below.refl w.heap.size w).alloc (Nat.le_refl _) _).alloc (by simp <;> omega) _).trans (b1.mono (by simp <;> omega))
  have zw1 := cw1.size
  have K_s : Hid (w1.heap[w.heap.size]? = some (.cells #[.slice ai ni ci, .slice af nf cf] 27 (0, 0)) ∧ w.heap.size < w1.heap.size) := hide ⟨(b1.block _ (by simp <;> omega)).trans (lowB2 w _ _), by have := b1.size; simp at this; omega⟩
  have y_s := (unhide K_s).2
  have K_r : Hid (w1.heap[w.heap.size + 1]? = some (.cells #[.slice none 0 0, .slice none 0 0] 27 (0, 0)) ∧ w.heap.size + 1 < w1.heap.size) := hide ⟨(b1.block _ (by simp <;> omega)).trans (newB2 w _ _), by have := b1.size; simp at this; omega⟩
  have y_r := (unhide K_r).2
  have R_x := hide ((unhide R_x).later cw1)
  have R_f := hide ((unhide R_f).later cw1)
  have BL := hide cw1
  clear b1 cw1
  obtain ⟨s_0, s_1, -⟩ := blk_cells2 (unhide K_s).1
  have n_s := (unhide K_s).2
  obtain ⟨r_0, r_1, r_z⟩ := blk_cells2 (unhide K_r).1
  have n_r := (unhide K_r).2
  cases ok
  · obtain ⟨rfl, rfl⟩ : u = zeroK ∧ uc = 1 := ⟨(congrArg Prod.fst (unhide hu)).symm, (congrArg Prod.snd (unhide hu)).symm⟩
    obtain ⟨hL, hC⟩ := say_bad (k := 1) (d := ⟨#[]⟩) (unhide h0)
    obtain rfl : n = 0 := by rw [← unhide HN, hL]; rfl
    obtain rfl : c = 1 := by rw [← unhide HC]; exact hC
    simp only [zeroK]
    go_wp2
    obtain ⟨p0, p1, -⟩ := blk_cells2 (blk_al (blk_set2 (unhide K_r).1 (.slice none 0 0) (.slice none 0 0)) (.cells #[.int .i64 0, .int .i64 0, .int .i64 0, .int .i64 0, .string ⟨#[]⟩] 38))
    exact bodyPost_ret (v := .tuple #[.agg #[.slice none 0 0, .slice none 0 0], .int .i64 1]) (by simp [results, Tryz.results12, go_sem, p0, p1]) rfl ⟨_, _, rfl, by rw [hL]; exact own_nil _ _, below_al (below_res (unhide BL) (by omega) _ _) (by simp; omega) _⟩
  cases t
  · obtain ⟨rfl, rfl⟩ : u = zeroK ∧ uc = 3 := ⟨(congrArg Prod.fst (unhide hu)).symm, (congrArg Prod.snd (unhide hu)).symm⟩
    have hch : chg 1 ⟨#[]⟩ xs fs id = (zeroK, 3) := by simp only [chg, unhide hr, chB]; rfl
    obtain ⟨hL, hC⟩ := say_no (unhide h0) hch (by omega)
    obtain rfl : n = 0 := by rw [← unhide HN, hL]; rfl
    obtain rfl : c = 3 := by rw [← unhide HC]; exact hC
    clear hch
    simp only [zeroK]
    go_wp2
    obtain ⟨p0, p1, -⟩ := blk_cells2 (blk_al (blk_set2 (unhide K_r).1 (.slice none 0 0) (.slice none 0 0)) (.cells #[.int .i64 0, .int .i64 0, .int .i64 0, .int .i64 0, .string ⟨#[]⟩] 38))
    exact bodyPost_ret (v := .tuple #[.agg #[.slice none 0 0, .slice none 0 0], .int .i64 3]) (by simp [results, Tryz.results12, go_sem, p0, p1]) rfl ⟨_, _, rfl, by rw [hL]; exact own_nil _ _, below_al (below_res (unhide BL) (by omega) _ _) (by simp; omega) _⟩
  obtain ⟨rfl, rfl⟩ : u = r ∧ uc = 0 := ⟨(congrArg Prod.fst (unhide hu)).symm, (congrArg Prod.snd (unhide hu)).symm⟩
  obtain ⟨q1, q2, q3, q4, q5⟩ := okE_all.1 (((okS_iff _ _).1 (ok_parts (unhide h0)).1).ent_in ((there_iff ((okS_iff _ _).1 (ok_parts (unhide h0)).1) (unhide hr)).1 rfl).1).2.2.1
  rcases Bool.eq_false_or_eq_true (u.2.2.1 == 100000) with hm | hm
  · skip
    have hch : chg 1 ⟨#[]⟩ xs fs id = (zeroK, 4) := by simp only [chg, unhide hr, chB, hm]; rfl
    obtain ⟨hL, hC⟩ := say_no (unhide h0) hch (by omega)
    obtain rfl : n = 0 := by rw [← unhide HN, hL]; rfl
    obtain rfl : c = 4 := by rw [← unhide HC]; exact hC
    clear hch
    go_wp2
    obtain ⟨p0, p1, -⟩ := blk_cells2 (blk_al (blk_set2 (unhide K_r).1 (.slice none 0 0) (.slice none 0 0)) (.cells #[.int .i64 u.1, .int .i64 u.2.1, .int .i64 u.2.2.1, .int .i64 u.2.2.2.1, .string u.2.2.2.2] 38))
    exact bodyPost_ret (v := .tuple #[.agg #[.slice none 0 0, .slice none 0 0], .int .i64 4]) (by simp [results, Tryz.results12, go_sem, p0, p1]) rfl ⟨_, _, rfl, by rw [hL]; exact own_nil _ _, below_al (below_res (unhide BL) (by omega) _ _) (by simp; omega) _⟩
  · skip
    have hch : chg 1 ⟨#[]⟩ xs fs id = ((u.1, u.2.1, u.2.2.1 + 1, u.2.2.2.1, u.2.2.2.2), 0) := by simp only [chg, unhide hr, chB, hm]; rfl
    have HO := hide (chg_one (by omega) (unhide h0) hch).1
    have HCH := hide hch
    clear hch
    go_wp2_with fail
    refine (l5one_any id (u.1, u.2.1, u.2.2.1 + 1, u.2.2.2.1, u.2.2.2.2) HO _).mono ?_
    rintro e w2 ⟨a1, c1, rfl, o1, b2⟩
    clear r_0 r_1 r_z n_r s_0 s_1 n_s
    have cw2 := ((Below.refl w1.heap.size w1).alloc (Nat.le_refl _) _).trans (b2.mono (by simp <;> omega))
    have zw2 := cw2.size
    have K_s := hide (keptblk cw2 K_s)
    have K_r := hide (keptblk cw2 K_r)
    have K_e : Hid (w2.heap[w1.heap.size]? = some (.cells #[.int .i64 (u.1), .int .i64 (u.2.1), .int .i64 (u.2.2.1 + 1), .int .i64 (u.2.2.2.1), .string u.2.2.2.2] 38 (0, 0)) ∧ w1.heap.size < w2.heap.size) := hide ⟨(b2.block _ (by simp <;> omega)).trans (newB1 w1 _), by have := b2.size; simp at this; omega⟩
    have y_e := (unhide K_e).2
    have R_x := hide ((unhide R_x).later cw2)
    have R_f := hide ((unhide R_f).later cw2)
    have BL := hide ((unhide BL).trans (cw2.mono (unhide BL).size))
    have R_oS1 := hide (o1)
    have L_oS1 := hide (World.ownsRow.lt (unhide R_oS1))
    clear b2 cw2
    obtain ⟨s_0, s_1, -⟩ := blk_cells2 (unhide K_s).1
    have n_s := (unhide K_s).2
    obtain ⟨r_0, r_1, r_z⟩ := blk_cells2 (unhide K_r).1
    have n_r := (unhide K_r).2
    obtain ⟨e_0, e_1, e_2, e_3, e_4, e_z⟩ := blk_cells5 (unhide K_e).1
    have n_e := (unhide K_e).2
    clear o1
    obtain ⟨hL, hC⟩ := say_ok (unhide h0) (unhide HCH)
    obtain rfl : n = 1 := by rw [← unhide HN, hL]; rfl
    obtain rfl : c = 0 := by rw [← unhide HC]; exact hC
    go_wp2
    obtain ⟨p0, p1, -⟩ := blk_cells2 (blk_set2 (unhide K_r).1 (.slice a1 1 c1) (.slice none 0 0))
    exact bodyPost_ret (v := .tuple #[.agg #[.slice a1 1 c1, .slice none 0 0], .int .i64 0]) (by simp [results, Tryz.results12, go_sem, p0, p1]) rfl ⟨_, _, rfl, by rw [hL]; exact ow_res (Ow.base (unhide R_oS1) (by first | omega | (simp; omega))) (unhide K_r).1 _ _, below_res (unhide BL) (by omega) _ _⟩
set_option maxHeartbeats 4000000 in
set_option maxRecDepth 100000 in
theorem ssay2_any (ai : Option Addr) (ni ci : Nat) (xs : List Itm) (af : Option Addr) (nf cf : Nat) (fs : List Flr) (id : Int) (dt : ByteArray) (n : Nat) (HN : Hid ((sayL 2 dt xs fs id).length = n)) (c : Int) (HC : Hid (sayC 2 dt xs fs id = c)) (w : World) (hni : ni ≤ 140737488351232) (hnf : nf ≤ 140737488351232) (hx : Rw encI 6 w (.slice ai ni ci) xs) (hf : Rw encF 2 w (.slice af nf cf) fs) :
    Calls Tryz.prog 14 #[.agg #[.slice ai ni ci, .slice af nf cf], .int .i64 id, .string dt] w fun e w' => ∃ a q, e = .returned (.tuple #[.agg #[.slice a n q, .slice none 0 0], .int .i64 c]) ∧ OwI w.heap.size w' (.slice a n q) (sayL 2 dt xs fs id) ∧ Below w.heap.size w w' := by
  have R_x := hide hx
  have R_f := hide hf
  clear hx hf
  obtain ⟨ok, h0⟩ : ∃ k, Hid ((okS xs fs && inB id 0 4) = k) := ⟨_, hide rfl⟩
  obtain ⟨r, t, hr⟩ : ∃ r t, Hid (entR (vw xs fs) id = (r, t)) := ⟨_, _, hide rfl⟩
  obtain ⟨u, uc, hu⟩ : ∃ u uc, Hid (upR ok t r = (u, uc)) := ⟨_, _, hide rfl⟩
  go_enter Tryz.func14, Tryz.ntmps14
  go_wp2_with fail
  refine (l5up_any ai ni ci xs af nf cf fs id ok h0 r t hr u uc hu _ hni hnf (((unhide R_x).alloc _).alloc _) (((unhide R_f).alloc _).alloc _)).mono ?_
  rintro e w1 ⟨rfl, b1⟩
  have cw1 := (((Below.refl w.heap.size w).alloc (Nat.le_refl _) _).alloc (by simp <;> omega) _).trans (b1.mono (by simp <;> omega))
  have zw1 := cw1.size
  have K_s : Hid (w1.heap[w.heap.size]? = some (.cells #[.slice ai ni ci, .slice af nf cf] 27 (0, 0)) ∧ w.heap.size < w1.heap.size) := hide ⟨(b1.block _ (by simp <;> omega)).trans (lowB2 w _ _), by have := b1.size; simp at this; omega⟩
  have y_s := (unhide K_s).2
  have K_r : Hid (w1.heap[w.heap.size + 1]? = some (.cells #[.slice none 0 0, .slice none 0 0] 27 (0, 0)) ∧ w.heap.size + 1 < w1.heap.size) := hide ⟨(b1.block _ (by simp <;> omega)).trans (newB2 w _ _), by have := b1.size; simp at this; omega⟩
  have y_r := (unhide K_r).2
  have R_x := hide ((unhide R_x).later cw1)
  have R_f := hide ((unhide R_f).later cw1)
  have BL := hide cw1
  clear b1 cw1
  obtain ⟨s_0, s_1, -⟩ := blk_cells2 (unhide K_s).1
  have n_s := (unhide K_s).2
  obtain ⟨r_0, r_1, r_z⟩ := blk_cells2 (unhide K_r).1
  have n_r := (unhide K_r).2
  cases ok
  · obtain ⟨rfl, rfl⟩ : u = zeroK ∧ uc = 1 := ⟨(congrArg Prod.fst (unhide hu)).symm, (congrArg Prod.snd (unhide hu)).symm⟩
    obtain ⟨hL, hC⟩ := say_bad (k := 2) (d := dt) (unhide h0)
    obtain rfl : n = 0 := by rw [← unhide HN, hL]; rfl
    obtain rfl : c = 1 := by rw [← unhide HC]; exact hC
    simp only [zeroK]
    go_wp2
    obtain ⟨p0, p1, -⟩ := blk_cells2 (blk_al (blk_set2 (unhide K_r).1 (.slice none 0 0) (.slice none 0 0)) (.cells #[.int .i64 0, .int .i64 0, .int .i64 0, .int .i64 0, .string ⟨#[]⟩] 38))
    exact bodyPost_ret (v := .tuple #[.agg #[.slice none 0 0, .slice none 0 0], .int .i64 1]) (by simp [results, Tryz.results14, go_sem, p0, p1]) rfl ⟨_, _, rfl, by rw [hL]; exact own_nil _ _, below_al (below_res (unhide BL) (by omega) _ _) (by simp; omega) _⟩
  cases t
  · obtain ⟨rfl, rfl⟩ : u = zeroK ∧ uc = 3 := ⟨(congrArg Prod.fst (unhide hu)).symm, (congrArg Prod.snd (unhide hu)).symm⟩
    have hch : chg 2 dt xs fs id = (zeroK, 3) := by simp only [chg, unhide hr, chS]; rfl
    obtain ⟨hL, hC⟩ := say_no (unhide h0) hch (by omega)
    obtain rfl : n = 0 := by rw [← unhide HN, hL]; rfl
    obtain rfl : c = 3 := by rw [← unhide HC]; exact hC
    clear hch
    simp only [zeroK]
    go_wp2
    obtain ⟨p0, p1, -⟩ := blk_cells2 (blk_al (blk_set2 (unhide K_r).1 (.slice none 0 0) (.slice none 0 0)) (.cells #[.int .i64 0, .int .i64 0, .int .i64 0, .int .i64 0, .string ⟨#[]⟩] 38))
    exact bodyPost_ret (v := .tuple #[.agg #[.slice none 0 0, .slice none 0 0], .int .i64 3]) (by simp [results, Tryz.results14, go_sem, p0, p1]) rfl ⟨_, _, rfl, by rw [hL]; exact own_nil _ _, below_al (below_res (unhide BL) (by omega) _ _) (by simp; omega) _⟩
  obtain ⟨rfl, rfl⟩ : u = r ∧ uc = 0 := ⟨(congrArg Prod.fst (unhide hu)).symm, (congrArg Prod.snd (unhide hu)).symm⟩
  obtain ⟨q1, q2, q3, q4, q5⟩ := okE_all.1 (((okS_iff _ _).1 (ok_parts (unhide h0)).1).ent_in ((there_iff ((okS_iff _ _).1 (ok_parts (unhide h0)).1) (unhide hr)).1 rfl).1).2.2.1
  rcases Bool.eq_false_or_eq_true (u.2.2.2.1 == 1000) with hm | hm
  · skip
    have hch : chg 2 dt xs fs id = (zeroK, 4) := by simp only [chg, unhide hr, chS, hm]; rfl
    obtain ⟨hL, hC⟩ := say_no (unhide h0) hch (by omega)
    obtain rfl : n = 0 := by rw [← unhide HN, hL]; rfl
    obtain rfl : c = 4 := by rw [← unhide HC]; exact hC
    clear hch
    go_wp2
    obtain ⟨p0, p1, -⟩ := blk_cells2 (blk_al (blk_set2 (unhide K_r).1 (.slice none 0 0) (.slice none 0 0)) (.cells #[.int .i64 u.1, .int .i64 u.2.1, .int .i64 u.2.2.1, .int .i64 u.2.2.2.1, .string u.2.2.2.2] 38))
    exact bodyPost_ret (v := .tuple #[.agg #[.slice none 0 0, .slice none 0 0], .int .i64 4]) (by simp [results, Tryz.results14, go_sem, p0, p1]) rfl ⟨_, _, rfl, by rw [hL]; exact own_nil _ _, below_al (below_res (unhide BL) (by omega) _ _) (by simp; omega) _⟩
  · skip
    rcases Bool.eq_false_or_eq_true (decide (8 < (dt.size : Int))) with hd | hd
    · skip
      have hch : chg 2 dt xs fs id = (zeroK, 4) := by simp only [chg, unhide hr, chS, hm, hd]; rfl
      obtain ⟨hL, hC⟩ := say_no (unhide h0) hch (by omega)
      obtain rfl : n = 0 := by rw [← unhide HN, hL]; rfl
      obtain rfl : c = 4 := by rw [← unhide HC]; exact hC
      clear hch
      go_wp2
      obtain ⟨p0, p1, -⟩ := blk_cells2 (blk_al (blk_set2 (unhide K_r).1 (.slice none 0 0) (.slice none 0 0)) (.cells #[.int .i64 u.1, .int .i64 u.2.1, .int .i64 u.2.2.1, .int .i64 u.2.2.2.1, .string u.2.2.2.2] 38))
      exact bodyPost_ret (v := .tuple #[.agg #[.slice none 0 0, .slice none 0 0], .int .i64 4]) (by simp [results, Tryz.results14, go_sem, p0, p1]) rfl ⟨_, _, rfl, by rw [hL]; exact own_nil _ _, below_al (below_res (unhide BL) (by omega) _ _) (by simp; omega) _⟩
    · skip
      have hch : chg 2 dt xs fs id = ((u.1, u.2.1, u.2.2.1, u.2.2.2.1 + 1, dt), 0) := by simp only [chg, unhide hr, chS, hm, hd]; rfl
      have HO := hide (chg_one (by omega) (unhide h0) hch).1
      have HCH := hide hch
      clear hch
      go_wp2_with fail
      refine (l5one_any id (u.1, u.2.1, u.2.2.1, u.2.2.2.1 + 1, dt) HO _).mono ?_
      rintro e w2 ⟨a1, c1, rfl, o1, b2⟩
      clear r_0 r_1 r_z n_r s_0 s_1 n_s
      have cw2 := ((Below.refl w1.heap.size w1).alloc (Nat.le_refl _) _).trans (b2.mono (by simp <;> omega))
      have zw2 := cw2.size
      have K_s := hide (keptblk cw2 K_s)
      have K_r := hide (keptblk cw2 K_r)
      have K_e : Hid (w2.heap[w1.heap.size]? = some (.cells #[.int .i64 (u.1), .int .i64 (u.2.1), .int .i64 (u.2.2.1), .int .i64 (u.2.2.2.1 + 1), .string dt] 38 (0, 0)) ∧ w1.heap.size < w2.heap.size) := hide ⟨(b2.block _ (by simp <;> omega)).trans (newB1 w1 _), by have := b2.size; simp at this; omega⟩
      have y_e := (unhide K_e).2
      have R_x := hide ((unhide R_x).later cw2)
      have R_f := hide ((unhide R_f).later cw2)
      have BL := hide ((unhide BL).trans (cw2.mono (unhide BL).size))
      have R_oS1 := hide (o1)
      have L_oS1 := hide (World.ownsRow.lt (unhide R_oS1))
      clear b2 cw2
      obtain ⟨s_0, s_1, -⟩ := blk_cells2 (unhide K_s).1
      have n_s := (unhide K_s).2
      obtain ⟨r_0, r_1, r_z⟩ := blk_cells2 (unhide K_r).1
      have n_r := (unhide K_r).2
      obtain ⟨e_0, e_1, e_2, e_3, e_4, e_z⟩ := blk_cells5 (unhide K_e).1
      have n_e := (unhide K_e).2
      clear o1
      obtain ⟨hL, hC⟩ := say_ok (unhide h0) (unhide HCH)
      obtain rfl : n = 1 := by rw [← unhide HN, hL]; rfl
      obtain rfl : c = 0 := by rw [← unhide HC]; exact hC
      go_wp2
      obtain ⟨p0, p1, -⟩ := blk_cells2 (blk_set2 (unhide K_r).1 (.slice a1 1 c1) (.slice none 0 0))
      exact bodyPost_ret (v := .tuple #[.agg #[.slice a1 1 c1, .slice none 0 0], .int .i64 0]) (by simp [results, Tryz.results14, go_sem, p0, p1]) rfl ⟨_, _, rfl, by rw [hL]; exact ow_res (Ow.base (unhide R_oS1) (by first | omega | (simp; omega))) (unhide K_r).1 _ _, below_res (unhide BL) (by omega) _ _⟩
set_option maxHeartbeats 4000000 in
set_option maxRecDepth 100000 in
theorem ssay3_any (ai : Option Addr) (ni ci : Nat) (xs : List Itm) (af : Option Addr) (nf cf : Nat) (fs : List Flr) (id : Int) (n : Nat) (HN : Hid ((sayL 3 ⟨#[]⟩ xs fs id).length = n)) (c : Int) (HC : Hid (sayC 3 ⟨#[]⟩ xs fs id = c)) (w : World) (hni : ni ≤ 140737488351232) (hnf : nf ≤ 140737488351232) (hx : Rw encI 6 w (.slice ai ni ci) xs) (hf : Rw encF 2 w (.slice af nf cf) fs) :
    Calls Tryz.prog 16 #[.agg #[.slice ai ni ci, .slice af nf cf], .int .i64 id] w fun e w' => ∃ a q, e = .returned (.tuple #[.agg #[.slice a n q, .slice none 0 0], .int .i64 c]) ∧ OwI w.heap.size w' (.slice a n q) (sayL 3 ⟨#[]⟩ xs fs id) ∧ Below w.heap.size w w' := by
  have R_x := hide hx
  have R_f := hide hf
  clear hx hf
  obtain ⟨ok, h0⟩ : ∃ k, Hid ((okS xs fs && inB id 0 4) = k) := ⟨_, hide rfl⟩
  obtain ⟨r, t, hr⟩ : ∃ r t, Hid (entR (vw xs fs) id = (r, t)) := ⟨_, _, hide rfl⟩
  obtain ⟨u, uc, hu⟩ : ∃ u uc, Hid (upR ok t r = (u, uc)) := ⟨_, _, hide rfl⟩
  go_enter Tryz.func16, Tryz.ntmps16
  go_wp2_with fail
  refine (l5up_any ai ni ci xs af nf cf fs id ok h0 r t hr u uc hu _ hni hnf (((unhide R_x).alloc _).alloc _) (((unhide R_f).alloc _).alloc _)).mono ?_
  rintro e w1 ⟨rfl, b1⟩
  have cw1 := (((Below.refl w.heap.size w).alloc (Nat.le_refl _) _).alloc (by simp <;> omega) _).trans (b1.mono (by simp <;> omega))
  have zw1 := cw1.size
  have K_s : Hid (w1.heap[w.heap.size]? = some (.cells #[.slice ai ni ci, .slice af nf cf] 27 (0, 0)) ∧ w.heap.size < w1.heap.size) := hide ⟨(b1.block _ (by simp <;> omega)).trans (lowB2 w _ _), by have := b1.size; simp at this; omega⟩
  have y_s := (unhide K_s).2
  have K_r : Hid (w1.heap[w.heap.size + 1]? = some (.cells #[.slice none 0 0, .slice none 0 0] 27 (0, 0)) ∧ w.heap.size + 1 < w1.heap.size) := hide ⟨(b1.block _ (by simp <;> omega)).trans (newB2 w _ _), by have := b1.size; simp at this; omega⟩
  have y_r := (unhide K_r).2
  have R_x := hide ((unhide R_x).later cw1)
  have R_f := hide ((unhide R_f).later cw1)
  have BL := hide cw1
  clear b1 cw1
  obtain ⟨s_0, s_1, -⟩ := blk_cells2 (unhide K_s).1
  have n_s := (unhide K_s).2
  obtain ⟨r_0, r_1, r_z⟩ := blk_cells2 (unhide K_r).1
  have n_r := (unhide K_r).2
  cases ok
  · obtain ⟨rfl, rfl⟩ : u = zeroK ∧ uc = 1 := ⟨(congrArg Prod.fst (unhide hu)).symm, (congrArg Prod.snd (unhide hu)).symm⟩
    obtain ⟨hL, hC⟩ := say_bad (k := 3) (d := ⟨#[]⟩) (unhide h0)
    obtain rfl : n = 0 := by rw [← unhide HN, hL]; rfl
    obtain rfl : c = 1 := by rw [← unhide HC]; exact hC
    simp only [zeroK]
    go_wp2
    obtain ⟨p0, p1, -⟩ := blk_cells2 (blk_al (blk_set2 (unhide K_r).1 (.slice none 0 0) (.slice none 0 0)) (.cells #[.int .i64 0, .int .i64 0, .int .i64 0, .int .i64 0, .string ⟨#[]⟩] 38))
    exact bodyPost_ret (v := .tuple #[.agg #[.slice none 0 0, .slice none 0 0], .int .i64 1]) (by simp [results, Tryz.results16, go_sem, p0, p1]) rfl ⟨_, _, rfl, by rw [hL]; exact own_nil _ _, below_al (below_res (unhide BL) (by omega) _ _) (by simp; omega) _⟩
  cases t
  · obtain ⟨rfl, rfl⟩ : u = zeroK ∧ uc = 3 := ⟨(congrArg Prod.fst (unhide hu)).symm, (congrArg Prod.snd (unhide hu)).symm⟩
    have hch : chg 3 ⟨#[]⟩ xs fs id = (zeroK, 3) := by simp only [chg, unhide hr, chG]; rfl
    obtain ⟨hL, hC⟩ := say_no (unhide h0) hch (by omega)
    obtain rfl : n = 0 := by rw [← unhide HN, hL]; rfl
    obtain rfl : c = 3 := by rw [← unhide HC]; exact hC
    clear hch
    simp only [zeroK]
    go_wp2
    obtain ⟨p0, p1, -⟩ := blk_cells2 (blk_al (blk_set2 (unhide K_r).1 (.slice none 0 0) (.slice none 0 0)) (.cells #[.int .i64 0, .int .i64 0, .int .i64 0, .int .i64 0, .string ⟨#[]⟩] 38))
    exact bodyPost_ret (v := .tuple #[.agg #[.slice none 0 0, .slice none 0 0], .int .i64 3]) (by simp [results, Tryz.results16, go_sem, p0, p1]) rfl ⟨_, _, rfl, by rw [hL]; exact own_nil _ _, below_al (below_res (unhide BL) (by omega) _ _) (by simp; omega) _⟩
  obtain ⟨rfl, rfl⟩ : u = r ∧ uc = 0 := ⟨(congrArg Prod.fst (unhide hu)).symm, (congrArg Prod.snd (unhide hu)).symm⟩
  obtain ⟨q1, q2, q3, q4, q5⟩ := okE_all.1 (((okS_iff _ _).1 (ok_parts (unhide h0)).1).ent_in ((there_iff ((okS_iff _ _).1 (ok_parts (unhide h0)).1) (unhide hr)).1 rfl).1).2.2.1
  have hch : chg 3 ⟨#[]⟩ xs fs id = ((u.1, 1, u.2.2.1, u.2.2.2.1, u.2.2.2.2), 0) := by simp only [chg, unhide hr, chG]; rfl
  have HO := hide (chg_one (by omega) (unhide h0) hch).1
  have HCH := hide hch
  clear hch
  go_wp2_with fail
  refine (l5one_any id (u.1, 1, u.2.2.1, u.2.2.2.1, u.2.2.2.2) HO _).mono ?_
  rintro e w2 ⟨a1, c1, rfl, o1, b2⟩
  clear r_0 r_1 r_z n_r s_0 s_1 n_s
  have cw2 := ((Below.refl w1.heap.size w1).alloc (Nat.le_refl _) _).trans (b2.mono (by simp <;> omega))
  have zw2 := cw2.size
  have K_s := hide (keptblk cw2 K_s)
  have K_r := hide (keptblk cw2 K_r)
  have K_e : Hid (w2.heap[w1.heap.size]? = some (.cells #[.int .i64 (u.1), .int .i64 (1), .int .i64 (u.2.2.1), .int .i64 (u.2.2.2.1), .string u.2.2.2.2] 38 (0, 0)) ∧ w1.heap.size < w2.heap.size) := hide ⟨(b2.block _ (by simp <;> omega)).trans (newB1 w1 _), by have := b2.size; simp at this; omega⟩
  have y_e := (unhide K_e).2
  have R_x := hide ((unhide R_x).later cw2)
  have R_f := hide ((unhide R_f).later cw2)
  have BL := hide ((unhide BL).trans (cw2.mono (unhide BL).size))
  have R_oS1 := hide (o1)
  have L_oS1 := hide (World.ownsRow.lt (unhide R_oS1))
  clear b2 cw2
  obtain ⟨s_0, s_1, -⟩ := blk_cells2 (unhide K_s).1
  have n_s := (unhide K_s).2
  obtain ⟨r_0, r_1, r_z⟩ := blk_cells2 (unhide K_r).1
  have n_r := (unhide K_r).2
  obtain ⟨e_0, e_1, e_2, e_3, e_4, e_z⟩ := blk_cells5 (unhide K_e).1
  have n_e := (unhide K_e).2
  clear o1
  obtain ⟨hL, hC⟩ := say_ok (unhide h0) (unhide HCH)
  obtain rfl : n = 1 := by rw [← unhide HN, hL]; rfl
  obtain rfl : c = 0 := by rw [← unhide HC]; exact hC
  go_wp2
  obtain ⟨p0, p1, -⟩ := blk_cells2 (blk_set2 (unhide K_r).1 (.slice a1 1 c1) (.slice none 0 0))
  exact bodyPost_ret (v := .tuple #[.agg #[.slice a1 1 c1, .slice none 0 0], .int .i64 0]) (by simp [results, Tryz.results16, go_sem, p0, p1]) rfl ⟨_, _, rfl, by rw [hL]; exact ow_res (Ow.base (unhide R_oS1) (by first | omega | (simp; omega))) (unhide K_r).1 _ _, below_res (unhide BL) (by omega) _ _⟩
set_option maxHeartbeats 4000000 in
set_option maxRecDepth 100000 in
theorem ssay0_any (ai : Option Addr) (ni ci : Nat) (xs : List Itm) (af : Option Addr) (nf cf : Nat) (fs : List Flr) (id : Int) (n : Nat) (HN : Hid ((sayL 0 ⟨#[]⟩ xs fs id).length = n)) (c : Int) (HC : Hid (sayC 0 ⟨#[]⟩ xs fs id = c)) (w : World) (hni : ni ≤ 140737488351232) (hnf : nf ≤ 140737488351232) (hx : Rw encI 6 w (.slice ai ni ci) xs) (hf : Rw encF 2 w (.slice af nf cf) fs) :
    Calls Tryz.prog 10 #[.agg #[.slice ai ni ci, .slice af nf cf], .int .i64 id] w fun e w' => ∃ a q, e = .returned (.tuple #[.agg #[.slice a n q, .slice none 0 0], .int .i64 c]) ∧ OwI w.heap.size w' (.slice a n q) (sayL 0 ⟨#[]⟩ xs fs id) ∧ Below w.heap.size w w' := by
  have R_x := hide hx
  have R_f := hide hf
  clear hx hf
  obtain ⟨ok, h0⟩ : ∃ k, Hid ((okS xs fs && inB id 0 4) = k) := ⟨_, hide rfl⟩
  obtain ⟨k1, HK1⟩ : ∃ k, Hid (okS xs fs = k) := ⟨_, hide rfl⟩
  obtain ⟨k2, HK2⟩ : ∃ k, Hid (inB id 0 4 = k) := ⟨_, hide rfl⟩
  have HK : Hid ((k1 && k2) = ok) := hide (by rw [← unhide HK1, ← unhide HK2]; exact unhide h0)
  obtain ⟨r, t, hr⟩ : ∃ r t, Hid (entR (vw xs fs) id = (r, t)) := ⟨_, _, hide rfl⟩
  obtain ⟨e, eo, he⟩ : ∃ r t, Hid (entR xs id = (r, t)) := ⟨_, _, hide rfl⟩
  obtain ⟨fl, hfl⟩ : ∃ f, Hid (flo fs id = f) := ⟨_, hide rfl⟩
  obtain ⟨inc, hinc⟩ : ∃ i, Hid (lastI xs fs id = i) := ⟨_, hide rfl⟩
  have hmx : Hid (max e.1 fl = inc) := hide (by rw [← unhide hinc, lastI, unhide he, unhide hfl])
  go_enter Tryz.func10, Tryz.ntmps10
  go_wp2_with fail
  refine (sstateok_any ai ni ci xs af nf cf fs k1 HK1 _ hni hnf (((unhide R_x).alloc _).alloc _) (((unhide R_f).alloc _).alloc _)).mono ?_
  rintro e w1 ⟨rfl, b1⟩
  have cw1 := (((Below.refl w.heap.size w).alloc (Nat.le_refl _) _).alloc (by simp <;> omega) _).trans (b1.mono (by simp <;> omega))
  have zw1 := cw1.size
  have K_s : Hid (w1.heap[w.heap.size]? = some (.cells #[.slice ai ni ci, .slice af nf cf] 27 (0, 0)) ∧ w.heap.size < w1.heap.size) := hide ⟨(b1.block _ (by simp <;> omega)).trans (lowB2 w _ _), by have := b1.size; simp at this; omega⟩
  have y_s := (unhide K_s).2
  have K_r : Hid (w1.heap[w.heap.size + 1]? = some (.cells #[.slice none 0 0, .slice none 0 0] 27 (0, 0)) ∧ w.heap.size + 1 < w1.heap.size) := hide ⟨(b1.block _ (by simp <;> omega)).trans (newB2 w _ _), by have := b1.size; simp at this; omega⟩
  have y_r := (unhide K_r).2
  have R_x := hide ((unhide R_x).later cw1)
  have R_f := hide ((unhide R_f).later cw1)
  have BL := hide cw1
  clear b1 cw1
  obtain ⟨s_0, s_1, -⟩ := blk_cells2 (unhide K_s).1
  have n_s := (unhide K_s).2
  obtain ⟨r_0, r_1, r_z⟩ := blk_cells2 (unhide K_r).1
  have n_r := (unhide K_r).2
  cases k1
  · obtain rfl : ok = false := (unhide HK).symm
    obtain ⟨hL, hC⟩ := say_bad (k := 0) (d := ⟨#[]⟩) (unhide h0)
    obtain rfl : n = 0 := by rw [← unhide HN, hL]; rfl
    obtain rfl : c = 1 := by rw [← unhide HC]; exact hC
    go_wp2
    obtain ⟨p0, p1, -⟩ := blk_cells2 (blk_set2 (unhide K_r).1 (.slice none 0 0) (.slice none 0 0))
    exact bodyPost_ret (v := .tuple #[.agg #[.slice none 0 0, .slice none 0 0], .int .i64 1]) (by simp [results, Tryz.results10, go_sem, p0, p1]) rfl ⟨_, _, rfl, by rw [hL]; exact own_nil _ _, below_res (unhide BL) (by omega) _ _⟩
  go_wp2_with fail
  refine (l3node_any id k2 HK2 _).mono ?_
  rintro e _ ⟨rfl, rfl⟩
  cases k2
  · obtain rfl : ok = false := (unhide HK).symm
    obtain ⟨hL, hC⟩ := say_bad (k := 0) (d := ⟨#[]⟩) (unhide h0)
    obtain rfl : n = 0 := by rw [← unhide HN, hL]; rfl
    obtain rfl : c = 1 := by rw [← unhide HC]; exact hC
    go_wp2
    obtain ⟨p0, p1, -⟩ := blk_cells2 (blk_set2 (unhide K_r).1 (.slice none 0 0) (.slice none 0 0))
    exact bodyPost_ret (v := .tuple #[.agg #[.slice none 0 0, .slice none 0 0], .int .i64 1]) (by simp [results, Tryz.results10, go_sem, p0, p1]) rfl ⟨_, _, rfl, by rw [hL]; exact own_nil _ _, below_res (unhide BL) (by omega) _ _⟩
  obtain rfl : ok = true := (unhide HK).symm
  go_wp2_with fail
  refine (slookup_any ai ni ci xs af nf cf fs id r t hr _ hni hnf (unhide R_x) (unhide R_f)).mono ?_
  rintro e w2 ⟨rfl, b2⟩
  clear r_0 r_1 r_z n_r s_0 s_1 n_s
  have cw2 := b2
  have zw2 := cw2.size
  have K_s := hide (keptblk cw2 K_s)
  have K_r := hide (keptblk cw2 K_r)
  have R_x := hide ((unhide R_x).later cw2)
  have R_f := hide ((unhide R_f).later cw2)
  have BL := hide ((unhide BL).trans (cw2.mono (unhide BL).size))
  clear b2 cw2
  obtain ⟨s_0, s_1, -⟩ := blk_cells2 (unhide K_s).1
  have n_s := (unhide K_s).2
  obtain ⟨r_0, r_1, r_z⟩ := blk_cells2 (unhide K_r).1
  have n_r := (unhide K_r).2
  cases t
  rotate_left
  · have hch : chg 0 ⟨#[]⟩ xs fs id = (zeroK, 2) := by simp only [chg, unhide hr, chJ]; rfl
    obtain ⟨hL, hC⟩ := say_no (unhide h0) hch (by omega)
    obtain rfl : n = 0 := by rw [← unhide HN, hL]; rfl
    obtain rfl : c = 2 := by rw [← unhide HC]; exact hC
    clear hch
    go_wp2
    obtain ⟨p0, p1, -⟩ := blk_cells2 (blk_al (blk_set2 (unhide K_r).1 (.slice none 0 0) (.slice none 0 0)) (.cells #[.int .i64 r.1, .int .i64 r.2.1, .int .i64 r.2.2.1, .int .i64 r.2.2.2.1, .string r.2.2.2.2] 38))
    exact bodyPost_ret (v := .tuple #[.agg #[.slice none 0 0, .slice none 0 0], .int .i64 2]) (by simp [results, Tryz.results10, go_sem, p0, p1]) rfl ⟨_, _, rfl, by rw [hL]; exact own_nil _ _, below_al (below_res (unhide BL) (by omega) _ _) (by simp; omega) _⟩
  go_wp2_with fail
  refine (sentry_any _ ai ni ci xs id e eo he _ hni ((unhide R_x).alloc _)).mono ?_
  rintro e w3 ⟨rfl, b3⟩
  clear r_0 r_1 r_z n_r s_0 s_1 n_s
  have cw3 := ((Below.refl w2.heap.size w2).alloc (Nat.le_refl _) _).trans (b3.mono (by simp <;> omega))
  have zw3 := cw3.size
  have K_s := hide (keptblk cw3 K_s)
  have K_r := hide (keptblk cw3 K_r)
  have K_b : Hid (w3.heap[w2.heap.size]? = some (.cells #[.int .i64 r.1, .int .i64 r.2.1, .int .i64 r.2.2.1, .int .i64 r.2.2.2.1, .string r.2.2.2.2] 38 (0, 0)) ∧ w2.heap.size < w3.heap.size) := hide ⟨(b3.block _ (by simp <;> omega)).trans (newB1 w2 _), by have := b3.size; simp at this; omega⟩
  have y_b := (unhide K_b).2
  have R_x := hide ((unhide R_x).later cw3)
  have R_f := hide ((unhide R_f).later cw3)
  have BL := hide ((unhide BL).trans (cw3.mono (unhide BL).size))
  clear b3 cw3
  obtain ⟨s_0, s_1, -⟩ := blk_cells2 (unhide K_s).1
  have n_s := (unhide K_s).2
  obtain ⟨r_0, r_1, r_z⟩ := blk_cells2 (unhide K_r).1
  have n_r := (unhide K_r).2
  obtain ⟨b_0, b_1, b_2, b_3, b_4, -⟩ := blk_cells5 (unhide K_b).1
  have n_b := (unhide K_b).2
  go_wp2_with fail
  clear b_0 b_1 b_2 b_3 b_4 n_b r_0 r_1 r_z n_r s_0 s_1 n_s
  obtain ⟨w7, hw7⟩ : ∃ W, W = w3.alloc (.cells #[.int .i64 e.1, .int .i64 e.2.1, .int .i64 e.2.2.1, .int .i64 e.2.2.2.1, .string e.2.2.2.2] 38) := ⟨_, rfl⟩
  rw [← hw7]
  have cw7 : Below w3.heap.size w3 w7 := by rw [hw7]; exact (Below.refl _ _).alloc (Nat.le_refl _) _
  have zw7 := cw7.size
  have K_e9 : Hid (w7.heap[w3.heap.size]? = some (.cells #[.int .i64 e.1, .int .i64 e.2.1, .int .i64 e.2.2.1, .int .i64 e.2.2.2.1, .string e.2.2.2.2] 38 (0, 0)) ∧ w3.heap.size < w7.heap.size) := hide ⟨by rw [hw7]; exact heap_alloc_new _ _, by rw [hw7]; simp⟩
  clear hw7
  have K_s := hide (keptblk cw7 K_s)
  have K_r := hide (keptblk cw7 K_r)
  have K_b := hide (keptblk cw7 K_b)
  have R_x := hide ((unhide R_x).later cw7)
  have R_f := hide ((unhide R_f).later cw7)
  have BL := hide ((unhide BL).trans (cw7.mono (unhide BL).size))
  clear cw7
  obtain ⟨s_0, s_1, -⟩ := blk_cells2 (unhide K_s).1
  have n_s := (unhide K_s).2
  obtain ⟨r_0, r_1, r_z⟩ := blk_cells2 (unhide K_r).1
  have n_r := (unhide K_r).2
  obtain ⟨b_0, b_1, b_2, b_3, b_4, -⟩ := blk_cells5 (unhide K_b).1
  have n_b := (unhide K_b).2
  have K_e := K_e9
  clear K_e9
  obtain ⟨e_0, e_1, e_2, e_3, e_4, e_z⟩ := blk_cells5 (unhide K_e).1
  have n_e := (unhide K_e).2
  have l_s0 := later_some (w := w7) n_s s_0
  have l_s1 := later_some (w := w7) n_s s_1
  have l_e0 := later_some (w := w7) n_e e_0
  have l_e1 := later_some (w := w7) n_e e_1
  have l_e2 := later_some (w := w7) n_e e_2
  have l_e3 := later_some (w := w7) n_e e_3
  have l_e4 := later_some (w := w7) n_e e_4
  refine wp_region_later (by kernel_rfl) (by kernel_rfl) ?_
  repeat (go_big_quiet_step (first
    | (go_at_call 44; exact Calls.later_of (sfloor_v _ af nf cf fs id fl hfl _ hnf ((unhide R_f).in_later _ _)))
    | (go_at_call 43; exact Calls.later_same (l1max_any _ _ _ hmx _))))
  refine wpQuiet_nil ?_
  intro w8 cw8
  have zw8 := cw8.size
  clear l_s0 l_s1 l_e0 l_e1 l_e2 l_e3 l_e4
  clear b_0 b_1 b_2 b_3 b_4 n_b e_0 e_1 e_2 e_3 e_4 e_z n_e r_0 r_1 r_z n_r s_0 s_1 n_s
  have K_s := hide (keptblk cw8 K_s)
  have K_r := hide (keptblk cw8 K_r)
  have K_b := hide (keptblk cw8 K_b)
  have K_e := hide (keptblk cw8 K_e)
  have R_x := hide ((unhide R_x).later cw8)
  have R_f := hide ((unhide R_f).later cw8)
  have BL := hide ((unhide BL).trans (cw8.mono (unhide BL).size))
  clear cw8
  obtain ⟨s_0, s_1, -⟩ := blk_cells2 (unhide K_s).1
  have n_s := (unhide K_s).2
  obtain ⟨r_0, r_1, r_z⟩ := blk_cells2 (unhide K_r).1
  have n_r := (unhide K_r).2
  obtain ⟨b_0, b_1, b_2, b_3, b_4, -⟩ := blk_cells5 (unhide K_b).1
  have n_b := (unhide K_b).2
  obtain ⟨e_0, e_1, e_2, e_3, e_4, e_z⟩ := blk_cells5 (unhide K_e).1
  have n_e := (unhide K_e).2
  obtain ⟨i1, i2⟩ : 0 ≤ inc ∧ inc ≤ 1000 := by have h := lastI_nn ((okS_iff _ _).1 (ok_parts (unhide h0)).1) id; rw [unhide hinc] at h; exact ⟨h.1, h.2.1⟩
  rcases Bool.eq_false_or_eq_true (inc == 1000) with hm | hm
  · have hch : chg 0 ⟨#[]⟩ xs fs id = (zeroK, 4) := by simp only [chg, unhide hr, unhide hinc, chJ, hm]; rfl
    obtain ⟨hL, hC⟩ := say_no (unhide h0) hch (by omega)
    obtain rfl : n = 0 := by rw [← unhide HN, hL]; rfl
    obtain rfl : c = 4 := by rw [← unhide HC]; exact hC
    clear hch
    go_wp2
    obtain ⟨p0, p1, -⟩ := blk_cells2 (blk_set2 (unhide K_r).1 (.slice none 0 0) (.slice none 0 0))
    exact bodyPost_ret (v := .tuple #[.agg #[.slice none 0 0, .slice none 0 0], .int .i64 4]) (by simp [results, Tryz.results10, go_sem, p0, p1]) rfl ⟨_, _, rfl, by rw [hL]; exact own_nil _ _, below_res (unhide BL) (by omega) _ _⟩
  · skip
    have hch : chg 0 ⟨#[]⟩ xs fs id = ((inc + 1, 0, 0, 0, ⟨#[]⟩), 0) := by simp only [chg, unhide hr, unhide hinc, chJ, hm]; rfl
    have HO := hide (chg_one (by omega) (unhide h0) hch).1
    have HCH := hide hch
    clear hch
    go_wp2_with fail
    refine (l5one_any id (inc + 1, 0, 0, 0, ⟨#[]⟩) HO _).mono ?_
    rintro e w4 ⟨a1, c1, rfl, o1, b4⟩
    clear b_0 b_1 b_2 b_3 b_4 n_b e_0 e_1 e_2 e_3 e_4 e_z n_e r_0 r_1 r_z n_r s_0 s_1 n_s
    have cw4 := b4
    have zw4 := cw4.size
    have K_s := hide (keptblk cw4 K_s)
    have K_r := hide (keptblk cw4 K_r)
    have K_b := hide (keptblk cw4 K_b)
    have K_e := hide (keptblk cw4 K_e)
    have R_x := hide ((unhide R_x).later cw4)
    have R_f := hide ((unhide R_f).later cw4)
    have BL := hide ((unhide BL).trans (cw4.mono (unhide BL).size))
    have R_oS1 := hide (o1)
    have L_oS1 := hide (World.ownsRow.lt (unhide R_oS1))
    clear b4 cw4
    obtain ⟨s_0, s_1, -⟩ := blk_cells2 (unhide K_s).1
    have n_s := (unhide K_s).2
    obtain ⟨r_0, r_1, r_z⟩ := blk_cells2 (unhide K_r).1
    have n_r := (unhide K_r).2
    obtain ⟨b_0, b_1, b_2, b_3, b_4, -⟩ := blk_cells5 (unhide K_b).1
    have n_b := (unhide K_b).2
    obtain ⟨e_0, e_1, e_2, e_3, e_4, e_z⟩ := blk_cells5 (unhide K_e).1
    have n_e := (unhide K_e).2
    clear o1
    obtain ⟨hL, hC⟩ := say_ok (unhide h0) (unhide HCH)
    obtain rfl : n = 1 := by rw [← unhide HN, hL]; rfl
    obtain rfl : c = 0 := by rw [← unhide HC]; exact hC
    go_wp2
    obtain ⟨p0, p1, -⟩ := blk_cells2 (blk_set2 (unhide K_r).1 (.slice a1 1 c1) (.slice none 0 0))
    exact bodyPost_ret (v := .tuple #[.agg #[.slice a1 1 c1, .slice none 0 0], .int .i64 0]) (by simp [results, Tryz.results10, go_sem, p0, p1]) rfl ⟨_, _, rfl, by rw [hL]; exact ow_res (Ow.base (unhide R_oS1) (by first | omega | (simp; omega))) (unhide K_r).1 _ _, below_res (unhide BL) (by omega) _ _⟩
end Go.Proofs.YtdpaocikmijioabGreat

namespace Go.Proofs.YtdpaocikmijioabGreat
open Go.RowKit Go.Shelf

attribute [local go_sem] Oper.semAt_some

theorem grown_none {w w' : World} (h : Below w.heap.size w w') : w.grownBy w' none := ⟨h.os, h.tape, h.output, h.size, fun k hk _ => h.block k hk⟩
theorem wide_call {n m : Nat} {P : Program} {f : FuncId} {args : Array Value} {w : World} {R : Ending → World → Prop} (h : CallsIn Fence.wide m P f args w R) : Fence.wide.fn f ∧ (Fence.wide.depth.isSome = true → 1 ≤ n) ∧ CallsIn Fence.wide m P f args w R := ⟨trivial, (fun k => by cases k), h⟩
theorem gi_call {m : Nat} {P : Program} {f : FuncId} {args : Array Value} {w : World} {R R' : Ending → World → Prop} (h : Calls P f args w R) (k : ∀ e w', R e w' → R' e w') : CallsIn Fence.wide m P f args w R' := (callsIn_wide.2 h).mono k
theorem upI_pos {xs : List Itm} {k : Nat} {x : Itm} (hx : xs[k]? = some x) (h : (x.2.2.1 == 0) = true) : upI (xs.take (k + 1)) = upI (xs.take k) ++ [x] := by
  rw [upI, take_filter hx, if_pos h]; rfl
theorem upI_neg {xs : List Itm} {k : Nat} {x : Itm} (hx : xs[k]? = some x) (h : (x.2.2.1 == 0) = false) : upI (xs.take (k + 1)) = upI (xs.take k) := by
  rw [upI, take_filter hx, if_neg (by simp [h]), List.append_nil]; rfl
theorem upI_k {xs : List Itm} {k : Nat} : (upI (xs.take k)).length ≤ k := Nat.le_trans (List.length_filter_le _ _) (by simp; omega)
theorem upI_pre {xs : List Itm} (k : Nat) : upI (xs.take k) <+: upI xs := (List.take_prefix k xs).filter _

theorem iup_any (v1 v2 : Value) (w : World) : Calls Tryz.prog 52 #[.agg #[v1, v2]] w fun e w' => e = .returned (.func (.func 91) #[] #[.pointer (some ⟨w.heap.size, 0, none⟩)]) ∧ w' = w.alloc (.cells #[v1, v2] 27) := by
  go_enter Tryz.func52, Tryz.ntmps52
  go_wp2
  go_ret
  exact ⟨rfl, rfl⟩

set_option maxRecDepth 100000 in
set_option maxHeartbeats 4000000 in
theorem iup1_in (n l Bs : Nat) (ai : Option Addr) (ni ci : Nat) (xs : List Itm) (af : Option Addr) (nf cf : Nat) (fs : List Flr) (wS : World) (J Jx : List Itm → World → Prop)
    (hY : ∀ pre (x : Itm) W, J pre W → pre.length < 5 → YieldAt Fence.wide (n - 1) Tryz.prog l #[.agg #[.int .i64 x.1, .int .i64 x.2.1, .int .i64 x.2.2.1, .int .i64 x.2.2.2.1, .int .i64 x.2.2.2.2.1, .string x.2.2.2.2.2]] W fun e W' =>
      (e = .returned (.bool true) ∧ J (pre ++ [x]) W' ∧ Below wS.heap.size W W') ∨ (e = .returned (.bool false) ∧ Jx (pre ++ [x]) W'))
    (W : World) (hJ : AbidesFrom W.heap.size J) (hW : Below wS.heap.size wS W) (hbox : W.heap[Bs]? = some (.cells #[.slice ai ni ci, .slice af nf cf] 27 (0, 0)))
    (hni : ni ≤ 140737488351232) (hnf : nf ≤ 140737488351232) (hx : Rw encI 6 wS (.slice ai ni ci) xs) (hf : Rw encF 2 wS (.slice af nf cf) fs) (h0 : J [] W) :
    CallsIn Fence.wide n Tryz.prog 91 #[.func (.yield l) #[] #[], .pointer (some ⟨Bs, 0, none⟩)] W fun e W' => (∃ v, e = .returned v) ∧
      ((∃ ys, ys = vw xs fs ∧ J ys W') ∨ (∃ pre, pre <+: vw xs fs ∧ Jx pre W')) := by
  obtain ⟨okA, hA⟩ : ∃ okA, okS xs fs = okA := ⟨_, rfl⟩
  have hV : vw xs fs = if okA = true then upI xs else [] := by rw [vw, hA]
  have HV := hide hV
  have HA := hide hA
  have HX := hide hx
  have HF := hide hf
  have HW := hide hW
  have HJ := hide hJ
  have HY := hide hY
  have KB := hide hbox
  have hBs : Bs < W.heap.size := (Array.getElem?_eq_some_iff.1 hbox).1
  obtain ⟨p0, p1, -⟩ := blk_cells2 hbox
  clear hA hx hf hW hJ hY hbox hV
  refine callsIn_of_wp Tryz.func91 rfl trivial ?_ rfl
  simp only [Tryz.ntmps91, List.size_toArray, List.length_cons, List.length_nil, Nat.reduceAdd, Nat.reduceSub, Array.replicate_succ, Array.replicate_zero, List.push_toArray, List.append_toArray, List.nil_append, List.cons_append]
  gi_wp2
  refine wide_call (gi_call (istateok_any ai ni ci xs af nf cf fs _ HA _ hni hnf ((unhide HX).later (unhide HW)) ((unhide HF).later (unhide HW))) ?_)
  rintro e w1 ⟨rfl, b1⟩
  have J1 := hide (unhide HJ [] W w1 none h0 (grown_none b1) (fun r e => by cases e))
  have HW1 := hide ((unhide HW).trans (b1.mono (unhide HW).size))
  have hBs1 : Bs < w1.heap.size := Nat.lt_of_lt_of_le hBs b1.size
  have KB1 := hide ((b1.block _ hBs).trans (unhide KB))
  clear p0 p1 b1 KB
  obtain ⟨p0, p1, -⟩ := blk_cells2 (unhide KB1)
  cases okA
  · gi_wp2
    refine bodyPost_ret (results_none rfl _ _ _) rfl ?_
    exact ⟨⟨_, rfl⟩, .inl ⟨[], by rw [unhide HV]; rfl, unhide J1⟩⟩
  · have OA := (okS_iff _ _).1 (unhide HA)
    have m5 : ni ≤ 5 := by have := (unhide HX).len.1; have := OA.len5.1; omega
    have SM := hide OA.sml
    replace HV := hide (show vw xs fs = upI xs from unhide HV)
    clear OA
    gi_wp2
    gi_loopw [11] (fun i wr => ∃ k : Nat, k ≤ ni ∧ i = .int .i64 k ∧ J (upI (xs.take k)) wr ∧ Below wS.heap.size wS wr) (fun i _ => ni - (intOf i).toNat)
    case atStart => exact ⟨0, Nat.zero_le _, rfl, unhide J1, unhide HW1⟩
    case round =>
      clear p0 p1 KB1 hBs1 HW1 J1
      obtain ⟨k, hk, rfl, hJs, hB⟩ := hrel
      have HJs := hide hJs
      have HB := hide hB
      clear hJs
      by_cases hlt : k < ni
      · obtain ⟨x, b, off, hx, rfl, hb, hcap, hc⟩ := ((unhide HX).later hB).at hlt
        obtain ⟨c0, c1, c2, c3, c4, c5⟩ := item_cells hc
        have hd := unhide SM k x hx
        have HX1 := hide hx
        have BX := hide ((Below.refl wr.heap.size wr).alloc (Nat.le_refl _) (.cells #[.int .i64 x.1, .int .i64 x.2.1, .int .i64 x.2.2.1, .int .i64 x.2.2.2.1, .int .i64 x.2.2.2.2.1, .string x.2.2.2.2.2] 40))
        clear hc hx hB
        rcases Bool.eq_false_or_eq_true (x.2.2.1 == 0) with he | he
        · have HP := hide (upI_pos (unhide HX1) he)
          gi_wp2
          refine wide_call (gi_call (icopyI_any x (by omega) _) ?_)
          rintro e w3 ⟨rfl, b3⟩
          have b3' := (unhide BX).trans (b3.mono (by simp))
          have J3 := unhide HJ _ _ w3 none (unhide HJs) (grown_none b3') (fun r e => by cases e)
          have HB3 := hide ((unhide HB).trans (b3'.mono (unhide HB).size))
          obtain ⟨fn, tmps, assign, body, hy, hR⟩ := unhide HY _ x w3 J3 (Nat.lt_of_le_of_lt upI_k (by omega))
          clear b3 b3' J3 BX HB HJs c0 c1 c2 c3 c4 c5
          gi_wp2
          refine ⟨(fun k => by cases k), hR.mono ?_⟩
          clear hR hy
          rintro e W3 (⟨rfl, hJ3, hk3⟩ | ⟨rfl, hJx3⟩)
          · have HJ3 := hide hJ3
            have HB4 := hide ((unhide HB3).trans hk3)
            clear hJ3 hk3
            gi_wp2
            go_roundw
            case rel => exact ⟨k + 1, by omega, by go_num, by rw [unhide HP]; exact unhide HJ3, unhide HB4⟩
            case measure => simp [intOf]; omega
          · have HJ3 := hide hJx3
            clear hJx3
            gi_wp2
            refine bodyPost_ret (results_none rfl _ _ _) rfl ?_
            exact ⟨⟨_, rfl⟩, .inr ⟨_, by rw [unhide HV, ← unhide HP]; exact upI_pre _, unhide HJ3⟩⟩
        · have HP := hide (upI_neg (unhide HX1) he)
          gi_wp2
          refine ⟨trivial, ?_⟩
          gi_wp2
          refine ⟨(fun _ k => by cases k), ?_⟩
          gi_wp2
          go_roundw
          case rel => exact ⟨k + 1, by omega, by go_num, by rw [unhide HP]; exact unhide HJ _ _ _ none (unhide HJs) (grown_none (unhide BX)) (fun r e => by cases e), (unhide HB).trans ((unhide BX).mono (unhide HB).size)⟩
          case measure => simp [intOf]; omega
      · have HT : Hid (upI (xs.take k) = vw xs fs) := hide (by rw [unhide HV, List.take_of_length_le (by have := (unhide HX).len.1; omega)])
        clear hB
        gi_wp2
        go_end0
        exact ⟨⟨_, rfl⟩, .inl ⟨_, unhide HT, unhide HJs⟩⟩

/-- Who is up, one by one: all, or some first ones. -/
theorem iup_stops (n Bs : Nat) (ai : Option Addr) (ni ci : Nat) (xs : List Itm) (af : Option Addr) (nf cf : Nat) (fs : List Flr) (wS w : World) (hW : Below wS.heap.size wS w) (hbox : w.heap[Bs]? = some (.cells #[.slice ai ni ci, .slice af nf cf] 27 (0, 0)))
    (hni : ni ≤ 140737488351232) (hnf : nf ≤ 140737488351232) (hx : Rw encI 6 wS (.slice ai ni ci) xs) (hf : Rw encF 2 wS (.slice af nf cf) fs) :
    SeqStopsK Fence.wide n Tryz.prog 91 #[.pointer (some ⟨Bs, 0, none⟩)] (fun x : Itm => #[.agg #[.int .i64 x.1, .int .i64 x.2.1, .int .i64 x.2.2.1, .int .i64 x.2.2.2.1, .int .i64 x.2.2.2.2.1, .string x.2.2.2.2.2]]) (Below wS.heap.size) (fun ys => ys = vw xs fs) (fun pre => pre <+: vw xs fs) 5 w := fun l J Jx W hb hJ _ hY h0 =>
  iup1_in n l Bs ai ni ci xs af nf cf fs wS J Jx hY W hJ (hW.trans (hb.mono hW.size)) ((hb.block _ (Array.getElem?_eq_some_iff.1 hbox).1).trans hbox) hni hnf hx hf h0
end Go.Proofs.YtdpaocikmijioabGreat

namespace Go.Proofs.YtdpaocikmijioabGreat
open Go.RowKit Go.Shelf

attribute [local go_sem] Oper.semAt_some

/-- While one is looked for: the number, and both variables of the result. -/
structure LK (w W : World) (id : Int) (r : Key) (b : Bool) : Prop where
  bel : Below w.heap.size w W
  ki : W.heap[w.heap.size + 1]? = some (.cells #[.int .i64 id] 3 (0, 0))
  ke : W.heap[w.heap.size + 1 + 1]? = some (.cells #[.int .i64 r.1, .int .i64 r.2.1, .int .i64 r.2.2.1, .int .i64 r.2.2.2.1, .string r.2.2.2.2] 38 (0, 0))
  kb : W.heap[w.heap.size + 1 + 1 + 1]? = some (.cells #[.bool b] 4 (0, 0))
theorem LK.lt {w W : World} {id : Int} {r : Key} {b : Bool} (h : LK w W id r b) : w.heap.size + 1 + 1 + 1 < W.heap.size := (Array.getElem?_eq_some_iff.1 h.kb).1
theorem LK.own {β : Type} {w : World} {id : Int} {r : Key} {b : Bool} {B : Nat} (hB : w.heap.size + 1 + 1 + 1 < B) : OwnFrom B (fun (_ : β) W => LK w W id r b) := fun _ W W' row h hg hr => by
  have hl := h.lt
  have k : ∀ g, g < B → g < W.heap.size → W'.heap[g]? = W.heap[g]? := fun g h1 h2 => hg.block g h2 (fun e => by have := (hr g e.symm).1; omega)
  exact ⟨h.bel.grown hg h.bel.size (fun r e => by have := (hr r e).1; omega), (k _ (by omega) (by omega)).trans h.ki, (k _ (by omega) (by omega)).trans h.ke, (k _ (by omega) (by omega)).trans h.kb⟩
theorem LK.alloc {w W : World} {id : Int} {r : Key} {b : Bool} (h : LK w W id r b) (o : Obj) : LK w (W.alloc o) id r b := by
  have hl := h.lt
  exact ⟨h.bel.alloc h.bel.size _, (Below.heap_alloc _ _ _ (by omega)).trans h.ki, (Below.heap_alloc _ _ _ (by omega)).trans h.ke, (Below.heap_alloc _ _ _ (by omega)).trans h.kb⟩

theorem keeps_put (W : World) (e b : Nat) (v0 v1 v2 v3 v4 u : Value) : KeepsOthers W ((((((W.setCell ⟨e, 0, none⟩ v0).setCell ⟨e, 1, none⟩ v1).setCell ⟨e, 2, none⟩ v2).setCell ⟨e, 3, none⟩ v3).setCell ⟨e, 4, none⟩ v4).setCell ⟨b, 0, none⟩ u) :=
  ((((KeepsOthers.setCell _ _ _).trans (KeepsOthers.setCell _ _ _)).trans (KeepsOthers.setCell _ _ _)).trans (KeepsOthers.setCell _ _ _)).trans ((KeepsOthers.setCell _ _ _).trans (KeepsOthers.setCell _ _ _))
theorem LK.put {w W : World} {id : Int} {r : Key} {b : Bool} (h : LK w W id r b) (x : Key) (c : Bool) : LK w ((((((W.setCell ⟨w.heap.size + 1 + 1, 0, none⟩ (.int .i64 x.1)).setCell ⟨w.heap.size + 1 + 1, 1, none⟩ (.int .i64 x.2.1)).setCell ⟨w.heap.size + 1 + 1, 2, none⟩ (.int .i64 x.2.2.1)).setCell ⟨w.heap.size + 1 + 1, 3, none⟩ (.int .i64 x.2.2.2.1)).setCell ⟨w.heap.size + 1 + 1, 4, none⟩ (.string x.2.2.2.2)).setCell ⟨w.heap.size + 1 + 1 + 1, 0, none⟩ (.bool c)) id x c := by
  have hb := (below_set5 (g := w.heap.size + 1 + 1) (v0 := .int .i64 x.1) (v1 := .int .i64 x.2.1) (v2 := .int .i64 x.2.2.1) (v3 := .int .i64 x.2.2.2.1) (v4 := .string x.2.2.2.2) (by omega) h.bel).setCell (p := ⟨w.heap.size + 1 + 1 + 1, 0, none⟩) (by simp; omega) (.bool c)
  have far : ∀ k, k ≠ w.heap.size + 1 + 1 → k ≠ w.heap.size + 1 + 1 + 1 → ((((((W.setCell ⟨w.heap.size + 1 + 1, 0, none⟩ (.int .i64 x.1)).setCell ⟨w.heap.size + 1 + 1, 1, none⟩ (.int .i64 x.2.1)).setCell ⟨w.heap.size + 1 + 1, 2, none⟩ (.int .i64 x.2.2.1)).setCell ⟨w.heap.size + 1 + 1, 3, none⟩ (.int .i64 x.2.2.2.1)).setCell ⟨w.heap.size + 1 + 1, 4, none⟩ (.string x.2.2.2.2)).setCell ⟨w.heap.size + 1 + 1 + 1, 0, none⟩ (.bool c)).heap[k]? = W.heap[k]? := fun k h1 h2 => by
    rw [heap_setCell_other _ _ _ _ (by exact h2), heap_setCell_other _ _ _ _ (by exact h1), heap_setCell_other _ _ _ _ (by exact h1), heap_setCell_other _ _ _ _ (by exact h1), heap_setCell_other _ _ _ _ (by exact h1), heap_setCell_other _ _ _ _ (by exact h1)]
  refine ⟨hb, (far _ (by omega) (by omega)).trans h.ki, ?_, ?_⟩
  · rw [heap_setCell_other _ _ _ _ (by show w.heap.size + 1 + 1 ≠ w.heap.size + 1 + 1 + 1; omega)]
    exact blk_set5 h.ke _ _ _ _ _
  · refine heap_setCell_same _ (w.heap.size + 1 + 1 + 1) 0 #[.bool b] 4 (.bool c) ?_
    have ne : w.heap.size + 1 + 1 + 1 ≠ w.heap.size + 1 + 1 := by omega
    rw [heap_setCell_other _ _ _ _ (by exact ne), heap_setCell_other _ _ _ _ (by exact ne), heap_setCell_other _ _ _ _ (by exact ne), heap_setCell_other _ _ _ _ (by exact ne), heap_setCell_other _ _ _ _ (by exact ne)]
    exact h.kb
theorem LK.cells {w W : World} {id : Int} {r : Key} {b : Bool} (h : LK w W id r b) : W.cell? ⟨w.heap.size + 1, 0, none⟩ = some (.int .i64 id) ∧ (W.cell? ⟨w.heap.size + 1 + 1, 0, none⟩ = some (.int .i64 r.1) ∧ W.cell? ⟨w.heap.size + 1 + 1, 1, none⟩ = some (.int .i64 r.2.1) ∧ W.cell? ⟨w.heap.size + 1 + 1, 2, none⟩ = some (.int .i64 r.2.2.1) ∧ W.cell? ⟨w.heap.size + 1 + 1, 3, none⟩ = some (.int .i64 r.2.2.2.1) ∧ W.cell? ⟨w.heap.size + 1 + 1, 4, none⟩ = some (.string r.2.2.2.2) ∧ ∀ o, W.frozen? ⟨w.heap.size + 1 + 1, o, none⟩ = false) ∧ W.cell? ⟨w.heap.size + 1 + 1 + 1, 0, none⟩ = some (.bool b) ∧ ∀ o, W.frozen? ⟨w.heap.size + 1 + 1 + 1, o, none⟩ = false :=
  ⟨by simp [World.cell?, h.ki], blk_cells5 h.ke, by simp [World.cell?, h.kb], fun o => by simp [World.frozen?, h.kb]⟩
theorem LK.new (w : World) (v1 v2 : Value) (id : Int) : LK w (((((w.alloc (.cells #[v1, v2] 27)).alloc (.cells #[.int .i64 id] 3)).alloc (.cells #[.int .i64 0, .int .i64 0, .int .i64 0, .int .i64 0, .string ⟨#[]⟩] 38)).alloc (.cells #[.bool false] 4)).alloc (.cells #[v1, v2] 27)) id zeroK false := by
  obtain ⟨m1, m2, m3⟩ := new4 w (.cells #[v1, v2] 27) (.cells #[.int .i64 id] 3) (.cells #[.int .i64 0, .int .i64 0, .int .i64 0, .int .i64 0, .string ⟨#[]⟩] 38) (.cells #[.bool false] 4)
  exact LK.alloc ⟨((((Below.refl w.heap.size w).alloc (Nat.le_refl _) _).alloc (by simp) _).alloc (by simp; omega) _).alloc (by simp; omega) _, m1, m2, m3⟩ _
theorem entR_none {ys : List Itm} {id : Int} {r : Key} {ok : Bool} (h : entR ys id = (r, ok)) (hp : ∀ y ∈ ys, (y.1 == id) = false) : r = zeroK ∧ ok = false := by
  have e : ent ys id = none := by rw [ent, List.find?_eq_none.2 (fun x hx => by simp [hp x hx])]; rfl
  rw [entR, e] at h
  simp only [Prod.mk.injEq] at h
  exact ⟨h.1.symm, h.2.symm⟩
theorem entR_first {ys p : List Itm} {x : Itm} {id : Int} {r : Key} {ok : Bool} (h : entR ys id = (r, ok)) (hy : p ++ [x] <+: ys) (hp : ∀ y ∈ p, (y.1 == id) = false) (hx : (x.1 == id) = true) : r = x.2 ∧ ok = true := by
  obtain ⟨q, rfl⟩ := hy
  have e : ent (p ++ [x] ++ q) id = some x.2 := by
    rw [ent, List.find?_append, List.find?_append, List.find?_eq_none.2 (fun y hm => by simp [hp y hm]), List.find?_cons, hx]; rfl
  rw [entR, e] at h
  simp only [Prod.mk.injEq] at h
  exact ⟨h.1.symm, h.2.symm⟩

set_option maxRecDepth 100000 in
set_option maxHeartbeats 4000000 in
theorem ilookup_any (ai : Option Addr) (ni ci : Nat) (xs : List Itm) (af : Option Addr) (nf cf : Nat) (fs : List Flr) (id : Int) (r : Key) (ok : Bool) (h0 : Hid (entR (vw xs fs) id = (r, ok))) (w : World)
    (hni : ni ≤ 140737488351232) (hnf : nf ≤ 140737488351232) (hx : Rw encI 6 w (.slice ai ni ci) xs) (hf : Rw encF 2 w (.slice af nf cf) fs) :
    Calls Tryz.prog 19 #[.agg #[.slice ai ni ci, .slice af nf cf], .int .i64 id] w fun e w' => e = .returned (.tuple #[.agg #[.int .i64 r.1, .int .i64 r.2.1, .int .i64 r.2.2.1, .int .i64 r.2.2.2.1, .string r.2.2.2.2], .bool ok]) ∧ Below w.heap.size w w' := by
  have HX := hide hx
  have HF := hide hf
  clear hx hf
  refine (callsIn_wide (n := 10)).1 ?_
  refine callsIn_of_wp_marks Tryz.func19 rfl trivial ?_ rfl
  simp only [Tryz.ntmps19, List.size_toArray, List.length_cons, List.length_nil, Nat.reduceAdd, Nat.reduceSub, Array.replicate_succ, Array.replicate_zero, List.push_toArray, List.append_toArray, List.nil_append, List.cons_append]
  gi_wp2
  refine ⟨trivial, gi_call (iup_any _ _ _) ?_⟩
  rintro e _ ⟨rfl, rfl⟩
  gi_wp2
  obtain ⟨V, hV⟩ : ∃ V, V = ((((w.alloc (.cells #[.slice ai ni ci, .slice af nf cf] 27)).alloc (.cells #[.int .i64 id] 3)).alloc (.cells #[.int .i64 0, .int .i64 0, .int .i64 0, .int .i64 0, .string ⟨#[]⟩] 38)).alloc (.cells #[.bool false] 4)).alloc (.cells #[.slice ai ni ci, .slice af nf cf] 27) := ⟨_, rfl⟩
  have LV : LK w V id zeroK false := by rw [hV]; exact LK.new w _ _ id
  have KX : V.heap[w.heap.size + 1 + 1 + 1 + 1]? = some (.cells #[.slice ai ni ci, .slice af nf cf] 27 (0, 0)) := by
    rw [hV]
    have e := heap_alloc_new ((((w.alloc (.cells #[.slice ai ni ci, .slice af nf cf] 27)).alloc (.cells #[.int .i64 id] 3)).alloc (.cells #[.int .i64 0, .int .i64 0, .int .i64 0, .int .i64 0, .string ⟨#[]⟩] 38)).alloc (.cells #[.bool false] 4)) (.cells #[.slice ai ni ci, .slice af nf cf] 27)
    simpa using e
  have sV : V.heap.size = w.heap.size + 1 + 1 + 1 + 1 + 1 := by rw [hV]; simp
  rw [← hV]
  clear hV
  have hB : w.heap.size + 1 + 1 + 1 < V.heap.size := by omega
  refine wpIn_rangeFunc_ownH rfl (by omega) (gf := 91) (lb := #[.pointer (some ⟨w.heap.size + 1 + 1 + 1 + 1, 0, none⟩)]) rfl trivial (enters_of Tryz.func91 (by kernel_rfl) rfl)
    (iup_stops 9 _ ai ni ci xs af nf cf fs w V LV.bel KX hni hnf (unhide HX) (unhide HF)) belowK_t (belowK_b (by omega)) (Below.refl _ _) (fun _ => rfl)
    (fun pre W => (∀ y ∈ pre, (y.1 == id) = false) ∧ LK w W id zeroK false)
    (fun c pre W => c = .ret ∧ ∃ p x, pre = p ++ [x] ∧ (∀ y ∈ p, (y.1 == id) = false) ∧ (x.1 == id) = true ∧ LK w W id x.2 true)
    (OwnFrom.and (ownFrom_pure _ _) (LK.own hB))
    (fun c s X Y row h hg hr => by obtain ⟨e0, p, x, e, h1, h2, h3⟩ := h; exact ⟨e0, p, x, e, h1, h2, LK.own (β := Unit) hB () X Y row h3 hg hr⟩)
    ⟨by simp, LV⟩
    (fun x a' W => ∃ Bx, w.heap.size + 1 + 1 + 1 < Bx ∧ W.heap[Bx]? = some (.cells #[.int .i64 x.1, .int .i64 x.2.1, .int .i64 x.2.2.1, .int .i64 x.2.2.2.1, .int .i64 x.2.2.2.2.1, .string x.2.2.2.2.2] 40 (0, 0)) ∧ a' = { tmps := #[.agg #[.slice ai ni ci, .slice af nf cf], .int .i64 id, .pointer (some ⟨w.heap.size, 0, none⟩), .pointer (some ⟨w.heap.size + 1, 0, none⟩), .pointer (some ⟨w.heap.size + 1 + 1, 0, none⟩), .pointer (some ⟨w.heap.size + 1 + 1 + 1, 0, none⟩), .pointer (some ⟨Bx, 0, none⟩), .agg #[.slice ai ni ci, .slice af nf cf], .func (.func 91) #[] #[.pointer (some ⟨w.heap.size + 1 + 1 + 1 + 1, 0, none⟩)], .agg #[.int .i64 x.1, .int .i64 x.2.1, .int .i64 x.2.2.1, .int .i64 x.2.2.2.1, .int .i64 x.2.2.2.2.1, .string x.2.2.2.2.2], undef, undef, undef, undef, undef, undef, undef], defers := [] })
    (fun x a' _ X Y row h hg hr => by
      obtain ⟨Bx, h1, h2, h3⟩ := h
      refine ⟨Bx, h1, (hg.block Bx (Array.getElem?_eq_some_iff.1 h2).1 (fun e => ?_)).trans h2, h3⟩
      obtain ⟨_, o, ho, hc⟩ := hr Bx e.symm
      rw [h2] at ho; cases ho; cases hc)
    ?assign ?body ?done ?stop
  case assign =>
    rintro l pre x W K ⟨hp, hi⟩ hK
    have hl := hi.lt
    have hls := hi.bel.size
    gi_wp2
    exact hK _ _ ((KeepsOthers.alloc _ _).from _) ((Below.refl _ W).alloc hls _) ⟨hp, hi.alloc _⟩ ⟨W.heap.size, by omega, heap_alloc_new _ _, rfl⟩
  case body =>
    rintro l pre x a' W _ _ ⟨hp, hi⟩ ⟨Bx, hBx, bX, rfl⟩ hlt
    have HI := hide hi
    have HP := hide hp
    obtain ⟨x0, x1, x2, x3, x4, x5, -⟩ := blk_cells6 bX
    obtain ⟨i0, ⟨e0, e1, e2, e3, e4, ef⟩, b0, bf⟩ := hi.cells
    clear hi hp bX
    rcases Bool.eq_false_or_eq_true (x.1 == id) with he | he
    · gi_wp2
      exact ⟨(keeps_put _ _ _ _ _ _ _ _ _).from _, rfl, pre, x, rfl, unhide HP, he, (unhide HI).put x.2 true⟩
    · gi_wp2
      exact ⟨KeepsFrom.refl _ _, Below.refl _ _, fun y hy => (List.mem_append.1 hy).elim (unhide HP y) (fun e => by rw [List.mem_singleton.1 e]; exact he), unhide HI⟩
  case done =>
    rintro D ys W hD rfl ⟨hp, hi⟩ hK
    obtain ⟨rfl, rfl⟩ := entR_none (unhide h0) hp
    have HI := hide hi
    obtain ⟨-, ⟨e0, e1, e2, e3, e4, ef⟩, b0, bf⟩ := hi.cells
    have HK := hide hK
    clear hi hp hK
    gi_wp2
    have hK' := (keeps_put W (w.heap.size + 1 + 1) (w.heap.size + 1 + 1 + 1) (.int .i64 0) (.int .i64 0) (.int .i64 0) (.int .i64 0) (.string ⟨#[]⟩) (.bool false)).same D _ (unhide HK) rfl
    refine ⟨by simp, .inl ⟨_, _, rfl, run_takeDeferred hK', ?_⟩⟩
    have hL := LK.own (β := Unit) hB () _ _ (some D) ((unhide HI).put zeroK false) (grownBy_putObj' _ D (.deferred none)) (fun r e => by cases e; exact ⟨hD, _, hK', rfl⟩)
    obtain ⟨-, ⟨q0, q1, q2, q3, q4, -⟩, q5, -⟩ := hL.cells
    simp only [zeroK] at q0 q1 q2 q3 q4 q5
    refine ⟨.tuple #[.agg #[.int .i64 zeroK.1, .int .i64 zeroK.2.1, .int .i64 zeroK.2.2.1, .int .i64 zeroK.2.2.2.1, .string zeroK.2.2.2.2], .bool false], ?_, rfl, hL.bel⟩
    simp [results, Tryz.f19, go_sem, zeroK, q0, q1, q2, q3, q4, q5]
  case stop =>
    rintro D c pre W hD hpre ⟨rfl, p, x, rfl, hp, hx, hi⟩ hK
    obtain ⟨rfl, rfl⟩ := entR_first (unhide h0) hpre hp hx
    have HI := hide hi
    have HK := hide hK
    clear hi hp hK
    gi_wp2
    refine ⟨by simp, .inl ⟨_, _, rfl, run_takeDeferred (unhide HK), ?_⟩⟩
    have hL := LK.own (β := Unit) hB () _ _ (some D) (unhide HI) (grownBy_putObj' _ D (.deferred none)) (fun r e => by cases e; exact ⟨hD, _, unhide HK, rfl⟩)
    obtain ⟨-, ⟨q0, q1, q2, q3, q4, -⟩, q5, -⟩ := hL.cells
    refine ⟨.tuple #[.agg #[.int .i64 x.2.1, .int .i64 x.2.2.1, .int .i64 x.2.2.2.1, .int .i64 x.2.2.2.2.1, .string x.2.2.2.2.2], .bool true], ?_, rfl, hL.bel⟩
    simp [results, Tryz.f19, go_sem, q0, q1, q2, q3, q4, q5]
end Go.Proofs.YtdpaocikmijioabGreat

namespace Go.Proofs.YtdpaocikmijioabGreat
open Go.RowKit

set_option maxHeartbeats 4000000 in
set_option maxRecDepth 100000 in
theorem lastinc_any (ai : Option Addr) (ni ci : Nat) (xs : List Itm) (af : Option Addr) (nf cf : Nat) (fs : List Flr) (id : Int) (dv : ByteArray) (hs : Hid (Sml xs)) (i : Int) (hi : Hid (lastI xs fs id = i)) (w : World) (hni : ni ≤ 140737488351232) (hnf : nf ≤ 140737488351232) (hx : Rw encI 6 w (.slice ai ni ci) xs) (hf : Rw encF 2 w (.slice af nf cf) fs) :
    Calls Tryz.prog 121 #[.agg #[.slice ai ni ci, .slice af nf cf, .int .i64 id, .string dv]] w fun e w' => e = .returned (.int .i64 i) ∧ Below w.heap.size w w' := by
  have R_x := hide hx
  have R_f := hide hf
  clear hx hf
  obtain ⟨e, eo, he⟩ : ∃ r t, Hid (entR xs id = (r, t)) := ⟨_, _, hide rfl⟩
  obtain ⟨fl, hfl⟩ : ∃ f, Hid (flo fs id = f) := ⟨_, hide rfl⟩
  have hmx : Hid (max e.1 fl = i) := hide (by rw [← unhide hi, lastI, unhide he, unhide hfl])
  go_enter Tryz.func121, Tryz.ntmps121
  go_wp2_with fail
  refine (ientry_any _ ai ni ci xs (unhide hs) id e eo he _ hni ((unhide R_x).alloc _)).mono ?_
  rintro e w1 ⟨rfl, b1⟩
  have cw1 := ((Below.refl w.heap.size w).alloc (Nat.le_refl _) _).trans (b1.mono (by simp <;> omega))
  have zw1 := cw1.size
  have K_w : Hid (w1.heap[w.heap.size]? = some (.cells #[.slice ai ni ci, .slice af nf cf, .int .i64 id, .string dv] 62 (0, 0)) ∧ w.heap.size < w1.heap.size) := hide ⟨(b1.block _ (by simp <;> omega)).trans (newB1 w _), by have := b1.size; simp at this; omega⟩
  have y_w := (unhide K_w).2
  have R_x := hide ((unhide R_x).later cw1)
  have R_f := hide ((unhide R_f).later cw1)
  have BL := hide cw1
  clear b1 cw1
  obtain ⟨w_0, w_1, w_2, w_3, -⟩ := blk_cells4 (unhide K_w).1
  have n_w := (unhide K_w).2
  go_wp2_with fail
  clear w_0 w_1 w_2 w_3 n_w
  obtain ⟨w7, hw7⟩ : ∃ W, W = w1.alloc (.cells #[.int .i64 e.1, .int .i64 e.2.1, .int .i64 e.2.2.1, .int .i64 e.2.2.2.1, .string e.2.2.2.2] 38) := ⟨_, rfl⟩
  rw [← hw7]
  have cw7 : Below w1.heap.size w1 w7 := by rw [hw7]; exact (Below.refl _ _).alloc (Nat.le_refl _) _
  have zw7 := cw7.size
  have K_e9 : Hid (w7.heap[w1.heap.size]? = some (.cells #[.int .i64 e.1, .int .i64 e.2.1, .int .i64 e.2.2.1, .int .i64 e.2.2.2.1, .string e.2.2.2.2] 38 (0, 0)) ∧ w1.heap.size < w7.heap.size) := hide ⟨by rw [hw7]; exact heap_alloc_new _ _, by rw [hw7]; simp⟩
  clear hw7
  have K_w := hide (keptblk cw7 K_w)
  have R_x := hide ((unhide R_x).later cw7)
  have R_f := hide ((unhide R_f).later cw7)
  have BL := hide ((unhide BL).trans (cw7.mono (unhide BL).size))
  clear cw7
  obtain ⟨w_0, w_1, w_2, w_3, -⟩ := blk_cells4 (unhide K_w).1
  have n_w := (unhide K_w).2
  have K_e := K_e9
  clear K_e9
  obtain ⟨e_0, e_1, e_2, e_3, e_4, e_z⟩ := blk_cells5 (unhide K_e).1
  have n_e := (unhide K_e).2
  have l_w0 := later_some (w := w7) n_w w_0
  have l_w1 := later_some (w := w7) n_w w_1
  have l_w2 := later_some (w := w7) n_w w_2
  have l_w3 := later_some (w := w7) n_w w_3
  have l_e0 := later_some (w := w7) n_e e_0
  have l_e1 := later_some (w := w7) n_e e_1
  have l_e2 := later_some (w := w7) n_e e_2
  have l_e3 := later_some (w := w7) n_e e_3
  have l_e4 := later_some (w := w7) n_e e_4
  refine wp_region_later (by kernel_rfl) (by kernel_rfl) ?_
  repeat (go_big_quiet_step (first
    | (go_at_call 53; exact Calls.later_of (ifloor_v _ af nf cf fs id fl hfl _ hnf ((unhide R_f).in_later _ _)))))
  refine wpQuiet_nil ?_
  intro w8 cw8
  have zw8 := cw8.size
  clear l_w0 l_w1 l_w2 l_w3 l_e0 l_e1 l_e2 l_e3 l_e4
  clear e_0 e_1 e_2 e_3 e_4 e_z n_e w_0 w_1 w_2 w_3 n_w
  have K_w := hide (keptblk cw8 K_w)
  have K_e := hide (keptblk cw8 K_e)
  have R_x := hide ((unhide R_x).later cw8)
  have R_f := hide ((unhide R_f).later cw8)
  have BL := hide ((unhide BL).trans (cw8.mono (unhide BL).size))
  clear cw8
  obtain ⟨w_0, w_1, w_2, w_3, -⟩ := blk_cells4 (unhide K_w).1
  have n_w := (unhide K_w).2
  obtain ⟨e_0, e_1, e_2, e_3, e_4, e_z⟩ := blk_cells5 (unhide K_e).1
  have n_e := (unhide K_e).2
  rw [unhide hmx]
  go_wp2
  go_ret
  exact ⟨rfl, unhide BL⟩

set_option maxHeartbeats 4000000 in
set_option maxRecDepth 100000 in
theorem wjoin_any (ai : Option Addr) (ni ci : Nat) (xs : List Itm) (af : Option Addr) (nf cf : Nat) (fs : List Flr) (id : Int) (dv : ByteArray) (dd : ByteArray) (h0 : Hid ((okS xs fs && inB id 0 4) = true)) (e : Key) (c : Int) (hch : Hid (chg 0 dd xs fs id = (e, c))) (w : World) (hni : ni ≤ 140737488351232) (hnf : nf ≤ 140737488351232) (hx : Rw encI 6 w (.slice ai ni ci) xs) (hf : Rw encF 2 w (.slice af nf cf) fs) :
    Calls Tryz.prog 108 #[.agg #[.slice ai ni ci, .slice af nf cf, .int .i64 id, .string dv]] w fun r w' => r = .returned (.tuple #[.agg #[.int .i64 e.1, .int .i64 e.2.1, .int .i64 e.2.2.1, .int .i64 e.2.2.2.1, .string e.2.2.2.2], .int .i64 c]) ∧ Below w.heap.size w w' := by
  have R_x := hide hx
  have R_f := hide hf
  clear hx hf
  obtain ⟨u, t, hr⟩ : ∃ r t, Hid (entR (vw xs fs) id = (r, t)) := ⟨_, _, hide rfl⟩
  obtain ⟨inc, hinc⟩ : ∃ i, Hid (lastI xs fs id = i) := ⟨_, hide rfl⟩
  have HSM := hide (OkS.sml5 ((okS_iff _ _).1 (ok_parts (unhide h0)).1))
  go_enter Tryz.func108, Tryz.ntmps108
  go_wp2_with fail
  refine (ilookup_any ai ni ci xs af nf cf fs id u t hr _ hni hnf (((unhide R_x).alloc _).alloc _) (((unhide R_f).alloc _).alloc _)).mono ?_
  rintro e w1 ⟨rfl, b1⟩
  have cw1 := (((Below.refl w.heap.size w).alloc (Nat.le_refl _) _).alloc (by simp <;> omega) _).trans (b1.mono (by simp <;> omega))
  have zw1 := cw1.size
  have K_w : Hid (w1.heap[w.heap.size]? = some (.cells #[.slice ai ni ci, .slice af nf cf, .int .i64 id, .string dv] 62 (0, 0)) ∧ w.heap.size < w1.heap.size) := hide ⟨(b1.block _ (by simp <;> omega)).trans (lowB2 w _ _), by have := b1.size; simp at this; omega⟩
  have y_w := (unhide K_w).2
  have K_r : Hid (w1.heap[w.heap.size + 1]? = some (.cells #[.int .i64 0, .int .i64 0, .int .i64 0, .int .i64 0, .string ⟨#[]⟩] 38 (0, 0)) ∧ w.heap.size + 1 < w1.heap.size) := hide ⟨(b1.block _ (by simp <;> omega)).trans (newB2 w _ _), by have := b1.size; simp at this; omega⟩
  have y_r := (unhide K_r).2
  have R_x := hide ((unhide R_x).later cw1)
  have R_f := hide ((unhide R_f).later cw1)
  have BL := hide cw1
  clear b1 cw1
  obtain ⟨w_0, w_1, w_2, w_3, -⟩ := blk_cells4 (unhide K_w).1
  have n_w := (unhide K_w).2
  obtain ⟨r_0, r_1, r_2, r_3, r_4, r_z⟩ := blk_cells5 (unhide K_r).1
  have n_r := (unhide K_r).2
  cases t
  rotate_left
  · have hc : chg 0 dd xs fs id = (zeroK, 2) := by simp only [chg, unhide hr, chJ]; rfl
    obtain ⟨rfl, rfl⟩ : e = zeroK ∧ c = 2 := by have h := (unhide hch).symm.trans hc; exact ⟨congrArg Prod.fst h, congrArg Prod.snd h⟩
    clear hc hch
    go_wp2
    obtain ⟨p0, p1, p2, p3, p4, -⟩ := blk_cells5 (blk_al (blk_set5 (unhide K_r).1 (.int .i64 0) (.int .i64 0) (.int .i64 0) (.int .i64 0) (.string ⟨#[]⟩)) (.cells #[.int .i64 u.1, .int .i64 u.2.1, .int .i64 u.2.2.1, .int .i64 u.2.2.2.1, .string u.2.2.2.2] 38))
    exact bodyPost_ret (v := .tuple #[.agg #[.int .i64 0, .int .i64 0, .int .i64 0, .int .i64 0, .string ⟨#[]⟩], .int .i64 2]) (by simp [results, Tryz.results108, go_sem, p0, p1, p2, p3, p4]) rfl ⟨rfl, below_al (below_set5 (by omega) (unhide BL)) (by simp; omega) _⟩
  go_wp2_with fail
  refine (lastinc_any ai ni ci xs af nf cf fs id dv HSM inc hinc _ hni hnf ((unhide R_x).alloc _) ((unhide R_f).alloc _)).mono ?_
  rintro e w2 ⟨rfl, b2⟩
  clear r_0 r_1 r_2 r_3 r_4 r_z n_r w_0 w_1 w_2 w_3 n_w
  have cw2 := ((Below.refl w1.heap.size w1).alloc (Nat.le_refl _) _).trans (b2.mono (by simp <;> omega))
  have zw2 := cw2.size
  have K_w := hide (keptblk cw2 K_w)
  have K_r := hide (keptblk cw2 K_r)
  have K_b : Hid (w2.heap[w1.heap.size]? = some (.cells #[.int .i64 u.1, .int .i64 u.2.1, .int .i64 u.2.2.1, .int .i64 u.2.2.2.1, .string u.2.2.2.2] 38 (0, 0)) ∧ w1.heap.size < w2.heap.size) := hide ⟨(b2.block _ (by simp <;> omega)).trans (newB1 w1 _), by have := b2.size; simp at this; omega⟩
  have y_b := (unhide K_b).2
  have R_x := hide ((unhide R_x).later cw2)
  have R_f := hide ((unhide R_f).later cw2)
  have BL := hide ((unhide BL).trans (cw2.mono (unhide BL).size))
  clear b2 cw2
  obtain ⟨w_0, w_1, w_2, w_3, -⟩ := blk_cells4 (unhide K_w).1
  have n_w := (unhide K_w).2
  obtain ⟨r_0, r_1, r_2, r_3, r_4, r_z⟩ := blk_cells5 (unhide K_r).1
  have n_r := (unhide K_r).2
  obtain ⟨b_0, b_1, b_2, b_3, b_4, -⟩ := blk_cells5 (unhide K_b).1
  have n_b := (unhide K_b).2
  obtain ⟨i1, i2⟩ : 0 ≤ inc ∧ inc ≤ 1000 := by have h := lastI_nn ((okS_iff _ _).1 (ok_parts (unhide h0)).1) id; rw [unhide hinc] at h; exact ⟨h.1, h.2.1⟩
  rcases Bool.eq_false_or_eq_true (inc == 1000) with hm | hm
  · have hc : chg 0 dd xs fs id = (zeroK, 4) := by simp only [chg, unhide hr, unhide hinc, chJ, hm]; rfl
    obtain ⟨rfl, rfl⟩ : e = zeroK ∧ c = 4 := by have h := (unhide hch).symm.trans hc; exact ⟨congrArg Prod.fst h, congrArg Prod.snd h⟩
    clear hc hch
    go_wp2
    obtain ⟨p0, p1, p2, p3, p4, -⟩ := blk_cells5 (blk_set5 (unhide K_r).1 (.int .i64 0) (.int .i64 0) (.int .i64 0) (.int .i64 0) (.string ⟨#[]⟩))
    exact bodyPost_ret (v := .tuple #[.agg #[.int .i64 0, .int .i64 0, .int .i64 0, .int .i64 0, .string ⟨#[]⟩], .int .i64 4]) (by simp [results, Tryz.results108, go_sem, p0, p1, p2, p3, p4]) rfl ⟨rfl, below_set5 (by omega) (unhide BL)⟩
  have hc : chg 0 dd xs fs id = ((inc + 1, 0, 0, 0, ⟨#[]⟩), 0) := by simp only [chg, unhide hr, unhide hinc, chJ, hm]; rfl
  obtain ⟨rfl, rfl⟩ : e = (inc + 1, 0, 0, 0, ⟨#[]⟩) ∧ c = 0 := by have h := (unhide hch).symm.trans hc; exact ⟨congrArg Prod.fst h, congrArg Prod.snd h⟩
  clear hc hch
  go_wp2
  obtain ⟨p0, p1, p2, p3, p4, -⟩ := blk_cells5 (blk_set5 (unhide K_r).1 (.int .i64 (inc + 1)) (.int .i64 0) (.int .i64 0) (.int .i64 0) (.string ⟨#[]⟩))
  exact bodyPost_ret (v := .tuple #[.agg #[.int .i64 (inc + 1), .int .i64 0, .int .i64 0, .int .i64 0, .string ⟨#[]⟩], .int .i64 0]) (by simp [results, Tryz.results108, go_sem, p0, p1, p2, p3, p4]) rfl ⟨rfl, below_set5 (by omega) (unhide BL)⟩

set_option maxHeartbeats 4000000 in
set_option maxRecDepth 100000 in
theorem wbeat_any (ai : Option Addr) (ni ci : Nat) (xs : List Itm) (af : Option Addr) (nf cf : Nat) (fs : List Flr) (id : Int) (dv : ByteArray) (dd : ByteArray) (h0 : Hid ((okS xs fs && inB id 0 4) = true)) (e : Key) (c : Int) (hch : Hid (chg 1 dd xs fs id = (e, c))) (w : World) (hni : ni ≤ 140737488351232) (hnf : nf ≤ 140737488351232) (hx : Rw encI 6 w (.slice ai ni ci) xs) (hf : Rw encF 2 w (.slice af nf cf) fs) :
    Calls Tryz.prog 109 #[.agg #[.slice ai ni ci, .slice af nf cf, .int .i64 id, .string dv]] w fun r w' => r = .returned (.tuple #[.agg #[.int .i64 e.1, .int .i64 e.2.1, .int .i64 e.2.2.1, .int .i64 e.2.2.2.1, .string e.2.2.2.2], .int .i64 c]) ∧ Below w.heap.size w w' := by
  have R_x := hide hx
  have R_f := hide hf
  clear hx hf
  obtain ⟨u, t, hr⟩ : ∃ r t, Hid (entR (vw xs fs) id = (r, t)) := ⟨_, _, hide rfl⟩
  go_enter Tryz.func109, Tryz.ntmps109
  go_wp2_with fail
  refine (ilookup_any ai ni ci xs af nf cf fs id u t hr _ hni hnf (((unhide R_x).alloc _).alloc _) (((unhide R_f).alloc _).alloc _)).mono ?_
  rintro e w1 ⟨rfl, b1⟩
  have cw1 := (((Below.refl w.heap.size w).alloc (Nat.le_refl _) _).alloc (by simp <;> omega) _).trans (b1.mono (by simp <;> omega))
  have zw1 := cw1.size
  have K_w : Hid (w1.heap[w.heap.size]? = some (.cells #[.slice ai ni ci, .slice af nf cf, .int .i64 id, .string dv] 62 (0, 0)) ∧ w.heap.size < w1.heap.size) := hide ⟨(b1.block _ (by simp <;> omega)).trans (lowB2 w _ _), by have := b1.size; simp at this; omega⟩
  have y_w := (unhide K_w).2
  have K_r : Hid (w1.heap[w.heap.size + 1]? = some (.cells #[.int .i64 0, .int .i64 0, .int .i64 0, .int .i64 0, .string ⟨#[]⟩] 38 (0, 0)) ∧ w.heap.size + 1 < w1.heap.size) := hide ⟨(b1.block _ (by simp <;> omega)).trans (newB2 w _ _), by have := b1.size; simp at this; omega⟩
  have y_r := (unhide K_r).2
  have R_x := hide ((unhide R_x).later cw1)
  have R_f := hide ((unhide R_f).later cw1)
  have BL := hide cw1
  clear b1 cw1
  obtain ⟨w_0, w_1, w_2, w_3, -⟩ := blk_cells4 (unhide K_w).1
  have n_w := (unhide K_w).2
  obtain ⟨r_0, r_1, r_2, r_3, r_4, r_z⟩ := blk_cells5 (unhide K_r).1
  have n_r := (unhide K_r).2
  cases t
  · have hc : chg 1 dd xs fs id = (zeroK, 3) := by simp only [chg, unhide hr, chB]; rfl
    obtain ⟨rfl, rfl⟩ : e = zeroK ∧ c = 3 := by have h := (unhide hch).symm.trans hc; exact ⟨congrArg Prod.fst h, congrArg Prod.snd h⟩
    clear hc hch
    go_wp2
    obtain ⟨p0, p1, p2, p3, p4, -⟩ := blk_cells5 (blk_al (blk_set5 (unhide K_r).1 (.int .i64 0) (.int .i64 0) (.int .i64 0) (.int .i64 0) (.string ⟨#[]⟩)) (.cells #[.int .i64 u.1, .int .i64 u.2.1, .int .i64 u.2.2.1, .int .i64 u.2.2.2.1, .string u.2.2.2.2] 38))
    exact bodyPost_ret (v := .tuple #[.agg #[.int .i64 0, .int .i64 0, .int .i64 0, .int .i64 0, .string ⟨#[]⟩], .int .i64 3]) (by simp [results, Tryz.results109, go_sem, p0, p1, p2, p3, p4]) rfl ⟨rfl, below_al (below_set5 (by omega) (unhide BL)) (by simp; omega) _⟩
  obtain ⟨q1, q2, q3, q4, q5⟩ := okE_all.1 (((okS_iff _ _).1 (ok_parts (unhide h0)).1).ent_in ((there_iff ((okS_iff _ _).1 (ok_parts (unhide h0)).1) (unhide hr)).1 rfl).1).2.2.1
  rcases Bool.eq_false_or_eq_true (u.2.2.1 == 100000) with hm | hm
  · have hc : chg 1 dd xs fs id = (zeroK, 4) := by simp only [chg, unhide hr, chB, hm]; rfl
    obtain ⟨rfl, rfl⟩ : e = zeroK ∧ c = 4 := by have h := (unhide hch).symm.trans hc; exact ⟨congrArg Prod.fst h, congrArg Prod.snd h⟩
    clear hc hch
    go_wp2
    obtain ⟨p0, p1, p2, p3, p4, -⟩ := blk_cells5 (blk_al (blk_set5 (unhide K_r).1 (.int .i64 0) (.int .i64 0) (.int .i64 0) (.int .i64 0) (.string ⟨#[]⟩)) (.cells #[.int .i64 u.1, .int .i64 u.2.1, .int .i64 u.2.2.1, .int .i64 u.2.2.2.1, .string u.2.2.2.2] 38))
    exact bodyPost_ret (v := .tuple #[.agg #[.int .i64 0, .int .i64 0, .int .i64 0, .int .i64 0, .string ⟨#[]⟩], .int .i64 4]) (by simp [results, Tryz.results109, go_sem, p0, p1, p2, p3, p4]) rfl ⟨rfl, below_al (below_set5 (by omega) (unhide BL)) (by simp; omega) _⟩
  have hc : chg 1 dd xs fs id = ((u.1, u.2.1, u.2.2.1 + 1, u.2.2.2.1, u.2.2.2.2), 0) := by simp only [chg, unhide hr, chB, hm]; rfl
  obtain ⟨rfl, rfl⟩ : e = (u.1, u.2.1, u.2.2.1 + 1, u.2.2.2.1, u.2.2.2.2) ∧ c = 0 := by have h := (unhide hch).symm.trans hc; exact ⟨congrArg Prod.fst h, congrArg Prod.snd h⟩
  clear hc hch
  go_wp2
  obtain ⟨p0, p1, p2, p3, p4, -⟩ := blk_cells5 (blk_al (blk_set5 (unhide K_r).1 (.int .i64 (u.1)) (.int .i64 (u.2.1)) (.int .i64 (u.2.2.1 + 1)) (.int .i64 (u.2.2.2.1)) (.string u.2.2.2.2)) (.cells #[.int .i64 (u.1), .int .i64 (u.2.1), .int .i64 (u.2.2.1 + 1), .int .i64 (u.2.2.2.1), .string u.2.2.2.2] 38))
  exact bodyPost_ret (v := .tuple #[.agg #[.int .i64 (u.1), .int .i64 (u.2.1), .int .i64 (u.2.2.1 + 1), .int .i64 (u.2.2.2.1), .string u.2.2.2.2], .int .i64 0]) (by simp [results, Tryz.results109, go_sem, p0, p1, p2, p3, p4]) rfl ⟨rfl, below_al (below_set5 (by omega) (unhide BL)) (by simp; omega) _⟩

set_option maxHeartbeats 4000000 in
set_option maxRecDepth 100000 in
theorem wset_any (ai : Option Addr) (ni ci : Nat) (xs : List Itm) (af : Option Addr) (nf cf : Nat) (fs : List Flr) (id : Int) (dv : ByteArray) (h0 : Hid ((okS xs fs && inB id 0 4) = true)) (e : Key) (c : Int) (hch : Hid (chg 2 dv xs fs id = (e, c))) (w : World) (hni : ni ≤ 140737488351232) (hnf : nf ≤ 140737488351232) (hx : Rw encI 6 w (.slice ai ni ci) xs) (hf : Rw encF 2 w (.slice af nf cf) fs) :
    Calls Tryz.prog 110 #[.agg #[.slice ai ni ci, .slice af nf cf, .int .i64 id, .string dv]] w fun r w' => r = .returned (.tuple #[.agg #[.int .i64 e.1, .int .i64 e.2.1, .int .i64 e.2.2.1, .int .i64 e.2.2.2.1, .string e.2.2.2.2], .int .i64 c]) ∧ Below w.heap.size w w' := by
  have R_x := hide hx
  have R_f := hide hf
  clear hx hf
  obtain ⟨u, t, hr⟩ : ∃ r t, Hid (entR (vw xs fs) id = (r, t)) := ⟨_, _, hide rfl⟩
  go_enter Tryz.func110, Tryz.ntmps110
  go_wp2_with fail
  refine (ilookup_any ai ni ci xs af nf cf fs id u t hr _ hni hnf (((unhide R_x).alloc _).alloc _) (((unhide R_f).alloc _).alloc _)).mono ?_
  rintro e w1 ⟨rfl, b1⟩
  have cw1 := (((Below.refl w.heap.size w).alloc (Nat.le_refl _) _).alloc (by simp <;> omega) _).trans (b1.mono (by simp <;> omega))
  have zw1 := cw1.size
  have K_w : Hid (w1.heap[w.heap.size]? = some (.cells #[.slice ai ni ci, .slice af nf cf, .int .i64 id, .string dv] 62 (0, 0)) ∧ w.heap.size < w1.heap.size) := hide ⟨(b1.block _ (by simp <;> omega)).trans (lowB2 w _ _), by have := b1.size; simp at this; omega⟩
  have y_w := (unhide K_w).2
  have K_r : Hid (w1.heap[w.heap.size + 1]? = some (.cells #[.int .i64 0, .int .i64 0, .int .i64 0, .int .i64 0, .string ⟨#[]⟩] 38 (0, 0)) ∧ w.heap.size + 1 < w1.heap.size) := hide ⟨(b1.block _ (by simp <;> omega)).trans (newB2 w _ _), by have := b1.size; simp at this; omega⟩
  have y_r := (unhide K_r).2
  have R_x := hide ((unhide R_x).later cw1)
  have R_f := hide ((unhide R_f).later cw1)
  have BL := hide cw1
  clear b1 cw1
  obtain ⟨w_0, w_1, w_2, w_3, -⟩ := blk_cells4 (unhide K_w).1
  have n_w := (unhide K_w).2
  obtain ⟨r_0, r_1, r_2, r_3, r_4, r_z⟩ := blk_cells5 (unhide K_r).1
  have n_r := (unhide K_r).2
  cases t
  · have hc : chg 2 dv xs fs id = (zeroK, 3) := by simp only [chg, unhide hr, chS]; rfl
    obtain ⟨rfl, rfl⟩ : e = zeroK ∧ c = 3 := by have h := (unhide hch).symm.trans hc; exact ⟨congrArg Prod.fst h, congrArg Prod.snd h⟩
    clear hc hch
    go_wp2
    obtain ⟨p0, p1, p2, p3, p4, -⟩ := blk_cells5 (blk_al (blk_set5 (unhide K_r).1 (.int .i64 0) (.int .i64 0) (.int .i64 0) (.int .i64 0) (.string ⟨#[]⟩)) (.cells #[.int .i64 u.1, .int .i64 u.2.1, .int .i64 u.2.2.1, .int .i64 u.2.2.2.1, .string u.2.2.2.2] 38))
    exact bodyPost_ret (v := .tuple #[.agg #[.int .i64 0, .int .i64 0, .int .i64 0, .int .i64 0, .string ⟨#[]⟩], .int .i64 3]) (by simp [results, Tryz.results110, go_sem, p0, p1, p2, p3, p4]) rfl ⟨rfl, below_al (below_set5 (by omega) (unhide BL)) (by simp; omega) _⟩
  obtain ⟨q1, q2, q3, q4, q5⟩ := okE_all.1 (((okS_iff _ _).1 (ok_parts (unhide h0)).1).ent_in ((there_iff ((okS_iff _ _).1 (ok_parts (unhide h0)).1) (unhide hr)).1 rfl).1).2.2.1
  rcases Bool.eq_false_or_eq_true (u.2.2.2.1 == 1000) with hm | hm
  · have hc : chg 2 dv xs fs id = (zeroK, 4) := by simp only [chg, unhide hr, chS, hm]; rfl
    obtain ⟨rfl, rfl⟩ : e = zeroK ∧ c = 4 := by have h := (unhide hch).symm.trans hc; exact ⟨congrArg Prod.fst h, congrArg Prod.snd h⟩
    clear hc hch
    go_wp2
    obtain ⟨p0, p1, p2, p3, p4, -⟩ := blk_cells5 (blk_al (blk_set5 (unhide K_r).1 (.int .i64 0) (.int .i64 0) (.int .i64 0) (.int .i64 0) (.string ⟨#[]⟩)) (.cells #[.int .i64 u.1, .int .i64 u.2.1, .int .i64 u.2.2.1, .int .i64 u.2.2.2.1, .string u.2.2.2.2] 38))
    exact bodyPost_ret (v := .tuple #[.agg #[.int .i64 0, .int .i64 0, .int .i64 0, .int .i64 0, .string ⟨#[]⟩], .int .i64 4]) (by simp [results, Tryz.results110, go_sem, p0, p1, p2, p3, p4]) rfl ⟨rfl, below_al (below_set5 (by omega) (unhide BL)) (by simp; omega) _⟩
  rcases Bool.eq_false_or_eq_true (decide (8 < (dv.size : Int))) with hd | hd
  · have hc : chg 2 dv xs fs id = (zeroK, 4) := by simp only [chg, unhide hr, chS, hm, hd]; rfl
    obtain ⟨rfl, rfl⟩ : e = zeroK ∧ c = 4 := by have h := (unhide hch).symm.trans hc; exact ⟨congrArg Prod.fst h, congrArg Prod.snd h⟩
    clear hc hch
    go_wp2
    obtain ⟨p0, p1, p2, p3, p4, -⟩ := blk_cells5 (blk_al (blk_set5 (unhide K_r).1 (.int .i64 0) (.int .i64 0) (.int .i64 0) (.int .i64 0) (.string ⟨#[]⟩)) (.cells #[.int .i64 u.1, .int .i64 u.2.1, .int .i64 u.2.2.1, .int .i64 u.2.2.2.1, .string u.2.2.2.2] 38))
    exact bodyPost_ret (v := .tuple #[.agg #[.int .i64 0, .int .i64 0, .int .i64 0, .int .i64 0, .string ⟨#[]⟩], .int .i64 4]) (by simp [results, Tryz.results110, go_sem, p0, p1, p2, p3, p4]) rfl ⟨rfl, below_al (below_set5 (by omega) (unhide BL)) (by simp; omega) _⟩
  have hc : chg 2 dv xs fs id = ((u.1, u.2.1, u.2.2.1, u.2.2.2.1 + 1, dv), 0) := by simp only [chg, unhide hr, chS, hm, hd]; rfl
  obtain ⟨rfl, rfl⟩ : e = (u.1, u.2.1, u.2.2.1, u.2.2.2.1 + 1, dv) ∧ c = 0 := by have h := (unhide hch).symm.trans hc; exact ⟨congrArg Prod.fst h, congrArg Prod.snd h⟩
  clear hc hch
  go_wp2
  obtain ⟨p0, p1, p2, p3, p4, -⟩ := blk_cells5 (blk_al (blk_set5 (unhide K_r).1 (.int .i64 (u.1)) (.int .i64 (u.2.1)) (.int .i64 (u.2.2.1)) (.int .i64 (u.2.2.2.1 + 1)) (.string dv)) (.cells #[.int .i64 (u.1), .int .i64 (u.2.1), .int .i64 (u.2.2.1), .int .i64 (u.2.2.2.1 + 1), .string dv] 38))
  exact bodyPost_ret (v := .tuple #[.agg #[.int .i64 (u.1), .int .i64 (u.2.1), .int .i64 (u.2.2.1), .int .i64 (u.2.2.2.1 + 1), .string dv], .int .i64 0]) (by simp [results, Tryz.results110, go_sem, p0, p1, p2, p3, p4]) rfl ⟨rfl, below_al (below_set5 (by omega) (unhide BL)) (by simp; omega) _⟩

set_option maxHeartbeats 4000000 in
set_option maxRecDepth 100000 in
theorem wgone_any (ai : Option Addr) (ni ci : Nat) (xs : List Itm) (af : Option Addr) (nf cf : Nat) (fs : List Flr) (id : Int) (dv : ByteArray) (dd : ByteArray) (h0 : Hid ((okS xs fs && inB id 0 4) = true)) (e : Key) (c : Int) (hch : Hid (chg 3 dd xs fs id = (e, c))) (w : World) (hni : ni ≤ 140737488351232) (hnf : nf ≤ 140737488351232) (hx : Rw encI 6 w (.slice ai ni ci) xs) (hf : Rw encF 2 w (.slice af nf cf) fs) :
    Calls Tryz.prog 111 #[.agg #[.slice ai ni ci, .slice af nf cf, .int .i64 id, .string dv]] w fun r w' => r = .returned (.tuple #[.agg #[.int .i64 e.1, .int .i64 e.2.1, .int .i64 e.2.2.1, .int .i64 e.2.2.2.1, .string e.2.2.2.2], .int .i64 c]) ∧ Below w.heap.size w w' := by
  have R_x := hide hx
  have R_f := hide hf
  clear hx hf
  obtain ⟨u, t, hr⟩ : ∃ r t, Hid (entR (vw xs fs) id = (r, t)) := ⟨_, _, hide rfl⟩
  go_enter Tryz.func111, Tryz.ntmps111
  go_wp2_with fail
  refine (ilookup_any ai ni ci xs af nf cf fs id u t hr _ hni hnf (((unhide R_x).alloc _).alloc _) (((unhide R_f).alloc _).alloc _)).mono ?_
  rintro e w1 ⟨rfl, b1⟩
  have cw1 := (((Below.refl w.heap.size w).alloc (Nat.le_refl _) _).alloc (by simp <;> omega) _).trans (b1.mono (by simp <;> omega))
  have zw1 := cw1.size
  have K_w : Hid (w1.heap[w.heap.size]? = some (.cells #[.slice ai ni ci, .slice af nf cf, .int .i64 id, .string dv] 62 (0, 0)) ∧ w.heap.size < w1.heap.size) := hide ⟨(b1.block _ (by simp <;> omega)).trans (lowB2 w _ _), by have := b1.size; simp at this; omega⟩
  have y_w := (unhide K_w).2
  have K_r : Hid (w1.heap[w.heap.size + 1]? = some (.cells #[.int .i64 0, .int .i64 0, .int .i64 0, .int .i64 0, .string ⟨#[]⟩] 38 (0, 0)) ∧ w.heap.size + 1 < w1.heap.size) := hide ⟨(b1.block _ (by simp <;> omega)).trans (newB2 w _ _), by have := b1.size; simp at this; omega⟩
  have y_r := (unhide K_r).2
  have R_x := hide ((unhide R_x).later cw1)
  have R_f := hide ((unhide R_f).later cw1)
  have BL := hide cw1
  clear b1 cw1
  obtain ⟨w_0, w_1, w_2, w_3, -⟩ := blk_cells4 (unhide K_w).1
  have n_w := (unhide K_w).2
  obtain ⟨r_0, r_1, r_2, r_3, r_4, r_z⟩ := blk_cells5 (unhide K_r).1
  have n_r := (unhide K_r).2
  cases t
  · have hc : chg 3 dd xs fs id = (zeroK, 3) := by simp only [chg, unhide hr, chG]; rfl
    obtain ⟨rfl, rfl⟩ : e = zeroK ∧ c = 3 := by have h := (unhide hch).symm.trans hc; exact ⟨congrArg Prod.fst h, congrArg Prod.snd h⟩
    clear hc hch
    go_wp2
    obtain ⟨p0, p1, p2, p3, p4, -⟩ := blk_cells5 (blk_al (blk_set5 (unhide K_r).1 (.int .i64 0) (.int .i64 0) (.int .i64 0) (.int .i64 0) (.string ⟨#[]⟩)) (.cells #[.int .i64 u.1, .int .i64 u.2.1, .int .i64 u.2.2.1, .int .i64 u.2.2.2.1, .string u.2.2.2.2] 38))
    exact bodyPost_ret (v := .tuple #[.agg #[.int .i64 0, .int .i64 0, .int .i64 0, .int .i64 0, .string ⟨#[]⟩], .int .i64 3]) (by simp [results, Tryz.results111, go_sem, p0, p1, p2, p3, p4]) rfl ⟨rfl, below_al (below_set5 (by omega) (unhide BL)) (by simp; omega) _⟩
  obtain ⟨q1, q2, q3, q4, q5⟩ := okE_all.1 (((okS_iff _ _).1 (ok_parts (unhide h0)).1).ent_in ((there_iff ((okS_iff _ _).1 (ok_parts (unhide h0)).1) (unhide hr)).1 rfl).1).2.2.1
  have hc : chg 3 dd xs fs id = ((u.1, 1, u.2.2.1, u.2.2.2.1, u.2.2.2.2), 0) := by simp only [chg, unhide hr, chG]; rfl
  obtain ⟨rfl, rfl⟩ : e = (u.1, 1, u.2.2.1, u.2.2.2.1, u.2.2.2.2) ∧ c = 0 := by have h := (unhide hch).symm.trans hc; exact ⟨congrArg Prod.fst h, congrArg Prod.snd h⟩
  clear hc hch
  go_wp2
  obtain ⟨p0, p1, p2, p3, p4, -⟩ := blk_cells5 (blk_al (blk_set5 (unhide K_r).1 (.int .i64 (u.1)) (.int .i64 (1)) (.int .i64 (u.2.2.1)) (.int .i64 (u.2.2.2.1)) (.string u.2.2.2.2)) (.cells #[.int .i64 (u.1), .int .i64 (1), .int .i64 (u.2.2.1), .int .i64 (u.2.2.2.1), .string u.2.2.2.2] 38))
  exact bodyPost_ret (v := .tuple #[.agg #[.int .i64 (u.1), .int .i64 (1), .int .i64 (u.2.2.1), .int .i64 (u.2.2.2.1), .string u.2.2.2.2], .int .i64 0]) (by simp [results, Tryz.results111, go_sem, p0, p1, p2, p3, p4]) rfl ⟨rfl, below_al (below_set5 (by omega) (unhide BL)) (by simp; omega) _⟩

set_option maxHeartbeats 4000000 in
set_option maxRecDepth 100000 in
theorem change0_any (w : World) :
    Calls Tryz.prog 81 #[.int .i64 0] w fun e w' => e = .returned (.func (.func 108) #[] #[]) ∧ Below w.heap.size w w' := by
  go_enter Tryz.func81, Tryz.ntmps81
  go_wp2
  go_ret
  exact ⟨rfl, (Below.refl _ _).alloc (Nat.le_refl _) _⟩

set_option maxHeartbeats 4000000 in
set_option maxRecDepth 100000 in
theorem change1_any (w : World) :
    Calls Tryz.prog 81 #[.int .i64 1] w fun e w' => e = .returned (.func (.func 109) #[] #[]) ∧ Below w.heap.size w w' := by
  go_enter Tryz.func81, Tryz.ntmps81
  go_wp2
  go_ret
  exact ⟨rfl, (Below.refl _ _).alloc (Nat.le_refl _) _⟩

set_option maxHeartbeats 4000000 in
set_option maxRecDepth 100000 in
theorem change2_any (w : World) :
    Calls Tryz.prog 81 #[.int .i64 2] w fun e w' => e = .returned (.func (.func 110) #[] #[]) ∧ Below w.heap.size w w' := by
  go_enter Tryz.func81, Tryz.ntmps81
  go_wp2
  go_ret
  exact ⟨rfl, (Below.refl _ _).alloc (Nat.le_refl _) _⟩

set_option maxHeartbeats 4000000 in
set_option maxRecDepth 100000 in
theorem change3_any (w : World) :
    Calls Tryz.prog 81 #[.int .i64 3] w fun e w' => e = .returned (.func (.func 111) #[] #[]) ∧ Below w.heap.size w w' := by
  go_enter Tryz.func81, Tryz.ntmps81
  go_wp2
  go_ret
  exact ⟨rfl, (Below.refl _ _).alloc (Nat.le_refl _) _⟩
end Go.Proofs.YtdpaocikmijioabGreat

namespace Go.Proofs.YtdpaocikmijioabGreat
open Go.RowKit

/- what is kept of a world while tell's drawn statement is gone through -/
theorem keepST {ai : Option Addr} {ni ci : Nat} {af : Option Addr} {nf cf : Nat} {id : Int} {dv : ByteArray} {gw : Nat} {w W w1 : World} (hb : Below W.heap.size W w1) (h : Below w.heap.size w W ∧ gw < W.heap.size ∧ W.cell? ⟨gw, 0, none⟩ = some (.slice ai ni ci) ∧ W.cell? ⟨gw, 1, none⟩ = some (.slice af nf cf) ∧ W.cell? ⟨gw, 2, none⟩ = some (.int .i64 id) ∧ W.cell? ⟨gw, 3, none⟩ = some (.string dv)) : Below w.heap.size w w1 ∧ gw < w1.heap.size ∧ w1.cell? ⟨gw, 0, none⟩ = some (.slice ai ni ci) ∧ w1.cell? ⟨gw, 1, none⟩ = some (.slice af nf cf) ∧ w1.cell? ⟨gw, 2, none⟩ = some (.int .i64 id) ∧ w1.cell? ⟨gw, 3, none⟩ = some (.string dv) := by
  obtain ⟨b, z0, c0, c1, c2, c3⟩ := h
  have hz := hb.size
  have hB := b.size
  exact ⟨b.trans (hb.mono hB), by omega, kc hb (by omega) c0, kc hb (by omega) c1, kc hb (by omega) c2, kc hb (by omega) c3⟩
theorem keepDT {ai : Option Addr} {ni ci : Nat} {af : Option Addr} {nf cf : Nat} {id : Int} {dv : ByteArray} {gw : Nat} {w W : World} (h : Below w.heap.size w W ∧ gw < W.heap.size ∧ W.cell? ⟨gw, 0, none⟩ = some (.slice ai ni ci) ∧ W.cell? ⟨gw, 1, none⟩ = some (.slice af nf cf) ∧ W.cell? ⟨gw, 2, none⟩ = some (.int .i64 id) ∧ W.cell? ⟨gw, 3, none⟩ = some (.string dv)) : Below w.heap.size w W.drew ∧ gw < W.drew.heap.size ∧ W.drew.cell? ⟨gw, 0, none⟩ = some (.slice ai ni ci) ∧ W.drew.cell? ⟨gw, 1, none⟩ = some (.slice af nf cf) ∧ W.drew.cell? ⟨gw, 2, none⟩ = some (.int .i64 id) ∧ W.drew.cell? ⟨gw, 3, none⟩ = some (.string dv) := ⟨h.1.drew, h.2⟩
theorem keepAT {ai : Option Addr} {ni ci : Nat} {af : Option Addr} {nf cf : Nat} {id : Int} {dv : ByteArray} {gw : Nat} {w W : World} (o : Obj) (h : Below w.heap.size w W ∧ gw < W.heap.size ∧ W.cell? ⟨gw, 0, none⟩ = some (.slice ai ni ci) ∧ W.cell? ⟨gw, 1, none⟩ = some (.slice af nf cf) ∧ W.cell? ⟨gw, 2, none⟩ = some (.int .i64 id) ∧ W.cell? ⟨gw, 3, none⟩ = some (.string dv)) : Below w.heap.size w (W.alloc o) ∧ gw < (W.alloc o).heap.size ∧ (W.alloc o).cell? ⟨gw, 0, none⟩ = some (.slice ai ni ci) ∧ (W.alloc o).cell? ⟨gw, 1, none⟩ = some (.slice af nf cf) ∧ (W.alloc o).cell? ⟨gw, 2, none⟩ = some (.int .i64 id) ∧ (W.alloc o).cell? ⟨gw, 3, none⟩ = some (.string dv) := by
  obtain ⟨b, z0, c0, c1, c2, c3⟩ := h
  exact ⟨b.alloc b.size o, by simp; omega, ka (by omega) c0, ka (by omega) c1, ka (by omega) c2, ka (by omega) c3⟩
theorem keepADT {ai : Option Addr} {ni ci : Nat} {af : Option Addr} {nf cf : Nat} {id : Int} {dv : ByteArray} {gw : Nat} {w W : World} (o : Obj) (h : Below w.heap.size w W.drew ∧ gw < W.drew.heap.size ∧ W.drew.cell? ⟨gw, 0, none⟩ = some (.slice ai ni ci) ∧ W.drew.cell? ⟨gw, 1, none⟩ = some (.slice af nf cf) ∧ W.drew.cell? ⟨gw, 2, none⟩ = some (.int .i64 id) ∧ W.drew.cell? ⟨gw, 3, none⟩ = some (.string dv)) : Below w.heap.size w (W.alloc o).drew ∧ gw < (W.alloc o).drew.heap.size ∧ (W.alloc o).drew.cell? ⟨gw, 0, none⟩ = some (.slice ai ni ci) ∧ (W.alloc o).drew.cell? ⟨gw, 1, none⟩ = some (.slice af nf cf) ∧ (W.alloc o).drew.cell? ⟨gw, 2, none⟩ = some (.int .i64 id) ∧ (W.alloc o).drew.cell? ⟨gw, 3, none⟩ = some (.string dv) := keepDT (keepAT o ⟨⟨h.1.os, h.1.tape, h.1.output, h.1.size, h.1.block⟩, h.2⟩)
theorem keepBT {ai : Option Addr} {ni ci : Nat} {af : Option Addr} {nf cf : Nat} {id : Int} {dv : ByteArray} {gw : Nat} {w W : World} (o1 o : Obj) (y0 : gw < W.heap.size) (_y : w.heap.size ≤ W.heap.size) (h : Below w.heap.size w (W.alloc o1) ∧ gw < (W.alloc o1).heap.size ∧ (W.alloc o1).cell? ⟨gw, 0, none⟩ = some (.slice ai ni ci) ∧ (W.alloc o1).cell? ⟨gw, 1, none⟩ = some (.slice af nf cf) ∧ (W.alloc o1).cell? ⟨gw, 2, none⟩ = some (.int .i64 id) ∧ (W.alloc o1).cell? ⟨gw, 3, none⟩ = some (.string dv)) : Below w.heap.size w (W.alloc o) ∧ gw < (W.alloc o).heap.size ∧ (W.alloc o).cell? ⟨gw, 0, none⟩ = some (.slice ai ni ci) ∧ (W.alloc o).cell? ⟨gw, 1, none⟩ = some (.slice af nf cf) ∧ (W.alloc o).cell? ⟨gw, 2, none⟩ = some (.int .i64 id) ∧ (W.alloc o).cell? ⟨gw, 3, none⟩ = some (.string dv) := by
  obtain ⟨b, z0, c0, c1, c2, c3⟩ := h
  exact ⟨⟨b.os, b.tape, b.output, by simp; omega, fun k hk => (Below.heap_alloc W o k (by omega)).trans ((Below.heap_alloc W o1 k (by omega)).symm.trans (b.block k hk))⟩, by simp; omega, ka (by omega) (kb (by omega) c0), ka (by omega) (kb (by omega) c1), ka (by omega) (kb (by omega) c2), ka (by omega) (kb (by omega) c3)⟩
theorem keepBDT {ai : Option Addr} {ni ci : Nat} {af : Option Addr} {nf cf : Nat} {id : Int} {dv : ByteArray} {gw : Nat} {w W : World} (o1 o : Obj) (y0 : gw < W.heap.size) (_y : w.heap.size ≤ W.heap.size) (h : Below w.heap.size w (W.alloc o1).drew ∧ gw < (W.alloc o1).drew.heap.size ∧ (W.alloc o1).drew.cell? ⟨gw, 0, none⟩ = some (.slice ai ni ci) ∧ (W.alloc o1).drew.cell? ⟨gw, 1, none⟩ = some (.slice af nf cf) ∧ (W.alloc o1).drew.cell? ⟨gw, 2, none⟩ = some (.int .i64 id) ∧ (W.alloc o1).drew.cell? ⟨gw, 3, none⟩ = some (.string dv)) : Below w.heap.size w (W.alloc o).drew ∧ gw < (W.alloc o).drew.heap.size ∧ (W.alloc o).drew.cell? ⟨gw, 0, none⟩ = some (.slice ai ni ci) ∧ (W.alloc o).drew.cell? ⟨gw, 1, none⟩ = some (.slice af nf cf) ∧ (W.alloc o).drew.cell? ⟨gw, 2, none⟩ = some (.int .i64 id) ∧ (W.alloc o).drew.cell? ⟨gw, 3, none⟩ = some (.string dv) := keepDT (keepBT (W := W) o1 o y0 _y ⟨⟨h.1.os, h.1.tape, h.1.output, h.1.size, h.1.block⟩, h.2⟩)
theorem keepWT5 {ai : Option Addr} {ni ci : Nat} {af : Option Addr} {nf cf : Nat} {id : Int} {dv : ByteArray} {gw : Nat} {w W : World} {gg : Nat} {v0 v1 v2 v3 v4 : Value} (y0 : gw ≠ gg) (y : w.heap.size ≤ gg) (h : Below w.heap.size w W ∧ gw < W.heap.size ∧ W.cell? ⟨gw, 0, none⟩ = some (.slice ai ni ci) ∧ W.cell? ⟨gw, 1, none⟩ = some (.slice af nf cf) ∧ W.cell? ⟨gw, 2, none⟩ = some (.int .i64 id) ∧ W.cell? ⟨gw, 3, none⟩ = some (.string dv)) : Below w.heap.size w (((((W.setCell ⟨gg, 0, none⟩ v0).setCell ⟨gg, 1, none⟩ v1).setCell ⟨gg, 2, none⟩ v2).setCell ⟨gg, 3, none⟩ v3).setCell ⟨gg, 4, none⟩ v4) ∧ gw < (((((W.setCell ⟨gg, 0, none⟩ v0).setCell ⟨gg, 1, none⟩ v1).setCell ⟨gg, 2, none⟩ v2).setCell ⟨gg, 3, none⟩ v3).setCell ⟨gg, 4, none⟩ v4).heap.size ∧ (((((W.setCell ⟨gg, 0, none⟩ v0).setCell ⟨gg, 1, none⟩ v1).setCell ⟨gg, 2, none⟩ v2).setCell ⟨gg, 3, none⟩ v3).setCell ⟨gg, 4, none⟩ v4).cell? ⟨gw, 0, none⟩ = some (.slice ai ni ci) ∧ (((((W.setCell ⟨gg, 0, none⟩ v0).setCell ⟨gg, 1, none⟩ v1).setCell ⟨gg, 2, none⟩ v2).setCell ⟨gg, 3, none⟩ v3).setCell ⟨gg, 4, none⟩ v4).cell? ⟨gw, 1, none⟩ = some (.slice af nf cf) ∧ (((((W.setCell ⟨gg, 0, none⟩ v0).setCell ⟨gg, 1, none⟩ v1).setCell ⟨gg, 2, none⟩ v2).setCell ⟨gg, 3, none⟩ v3).setCell ⟨gg, 4, none⟩ v4).cell? ⟨gw, 2, none⟩ = some (.int .i64 id) ∧ (((((W.setCell ⟨gg, 0, none⟩ v0).setCell ⟨gg, 1, none⟩ v1).setCell ⟨gg, 2, none⟩ v2).setCell ⟨gg, 3, none⟩ v3).setCell ⟨gg, 4, none⟩ v4).cell? ⟨gw, 3, none⟩ = some (.string dv) := by
  obtain ⟨b, z0, c0, c1, c2, c3⟩ := h
  exact ⟨below_set5 y b, by simpa using z0, blk_far5 y0 c0, blk_far5 y0 c1, blk_far5 y0 c2, blk_far5 y0 c3⟩
theorem keepWDT5 {ai : Option Addr} {ni ci : Nat} {af : Option Addr} {nf cf : Nat} {id : Int} {dv : ByteArray} {gw : Nat} {w W : World} {gg : Nat} {v0 v1 v2 v3 v4 : Value} (y0 : gw ≠ gg) (y : w.heap.size ≤ gg) (h : Below w.heap.size w W.drew ∧ gw < W.drew.heap.size ∧ W.drew.cell? ⟨gw, 0, none⟩ = some (.slice ai ni ci) ∧ W.drew.cell? ⟨gw, 1, none⟩ = some (.slice af nf cf) ∧ W.drew.cell? ⟨gw, 2, none⟩ = some (.int .i64 id) ∧ W.drew.cell? ⟨gw, 3, none⟩ = some (.string dv)) : Below w.heap.size w (((((W.setCell ⟨gg, 0, none⟩ v0).setCell ⟨gg, 1, none⟩ v1).setCell ⟨gg, 2, none⟩ v2).setCell ⟨gg, 3, none⟩ v3).setCell ⟨gg, 4, none⟩ v4).drew ∧ gw < (((((W.setCell ⟨gg, 0, none⟩ v0).setCell ⟨gg, 1, none⟩ v1).setCell ⟨gg, 2, none⟩ v2).setCell ⟨gg, 3, none⟩ v3).setCell ⟨gg, 4, none⟩ v4).drew.heap.size ∧ (((((W.setCell ⟨gg, 0, none⟩ v0).setCell ⟨gg, 1, none⟩ v1).setCell ⟨gg, 2, none⟩ v2).setCell ⟨gg, 3, none⟩ v3).setCell ⟨gg, 4, none⟩ v4).drew.cell? ⟨gw, 0, none⟩ = some (.slice ai ni ci) ∧ (((((W.setCell ⟨gg, 0, none⟩ v0).setCell ⟨gg, 1, none⟩ v1).setCell ⟨gg, 2, none⟩ v2).setCell ⟨gg, 3, none⟩ v3).setCell ⟨gg, 4, none⟩ v4).drew.cell? ⟨gw, 1, none⟩ = some (.slice af nf cf) ∧ (((((W.setCell ⟨gg, 0, none⟩ v0).setCell ⟨gg, 1, none⟩ v1).setCell ⟨gg, 2, none⟩ v2).setCell ⟨gg, 3, none⟩ v3).setCell ⟨gg, 4, none⟩ v4).drew.cell? ⟨gw, 2, none⟩ = some (.int .i64 id) ∧ (((((W.setCell ⟨gg, 0, none⟩ v0).setCell ⟨gg, 1, none⟩ v1).setCell ⟨gg, 2, none⟩ v2).setCell ⟨gg, 3, none⟩ v3).setCell ⟨gg, 4, none⟩ v4).drew.cell? ⟨gw, 3, none⟩ = some (.string dv) := keepDT (keepWT5 (W := W) y0 y ⟨⟨h.1.os, h.1.tape, h.1.output, h.1.size, h.1.block⟩, h.2⟩)

set_option maxHeartbeats 4000000 in
set_option maxRecDepth 100000 in
theorem tell0_any (ai : Option Addr) (ni ci : Nat) (xs : List Itm) (af : Option Addr) (nf cf : Nat) (fs : List Flr) (id : Int) (dv : ByteArray) (n : Nat) (HN : Hid ((sayL 0 ⟨#[]⟩ xs fs id).length = n)) (c : Int) (HC : Hid (sayC 0 ⟨#[]⟩ xs fs id = c)) (w : World) (hni : ni ≤ 140737488351232) (hnf : nf ≤ 140737488351232) (hx : Rw encI 6 w (.slice ai ni ci) xs) (hf : Rw encF 2 w (.slice af nf cf) fs) :
    Calls Tryz.prog 39 #[.int .i64 0, .agg #[.slice ai ni ci, .slice af nf cf, .int .i64 id, .string dv]] w fun e w' => ∃ a q, e = .returned (.tuple #[.agg #[.slice a n q, .slice none 0 0], .int .i64 c]) ∧ OwI w.heap.size w' (.slice a n q) (sayL 0 ⟨#[]⟩ xs fs id) ∧ Below w.heap.size w w' := by
  have R_x := hide hx
  have R_f := hide hf
  clear hx hf
  obtain ⟨ok, h0⟩ : ∃ k, Hid ((okS xs fs && inB id 0 4) = k) := ⟨_, hide rfl⟩
  obtain ⟨k1, HK1⟩ : ∃ k, Hid (okS xs fs = k) := ⟨_, hide rfl⟩
  obtain ⟨k2, HK2⟩ : ∃ k, Hid (inB id 0 4 = k) := ⟨_, hide rfl⟩
  have HK : Hid ((k1 && k2) = ok) := hide (by rw [← unhide HK1, ← unhide HK2]; exact unhide h0)
  obtain ⟨e, h, hch⟩ : ∃ e h, Hid (chg 0 ⟨#[]⟩ xs fs id = (e, h)) := ⟨_, _, hide rfl⟩
  go_enter Tryz.func39, Tryz.ntmps39
  go_wp2_with fail
  refine (istateok_any ai ni ci xs af nf cf fs k1 HK1 _ hni hnf (((unhide R_x).alloc _).alloc _) (((unhide R_f).alloc _).alloc _)).mono ?_
  rintro e w1 ⟨rfl, b1⟩
  have cw1 := (((Below.refl w.heap.size w).alloc (Nat.le_refl _) _).alloc (by simp <;> omega) _).trans (b1.mono (by simp <;> omega))
  have zw1 := cw1.size
  have K_w : Hid (w1.heap[w.heap.size]? = some (.cells #[.slice ai ni ci, .slice af nf cf, .int .i64 id, .string dv] 62 (0, 0)) ∧ w.heap.size < w1.heap.size) := hide ⟨(b1.block _ (by simp <;> omega)).trans (lowB2 w _ _), by have := b1.size; simp at this; omega⟩
  have y_w := (unhide K_w).2
  have K_r : Hid (w1.heap[w.heap.size + 1]? = some (.cells #[.slice none 0 0, .slice none 0 0] 27 (0, 0)) ∧ w.heap.size + 1 < w1.heap.size) := hide ⟨(b1.block _ (by simp <;> omega)).trans (newB2 w _ _), by have := b1.size; simp at this; omega⟩
  have y_r := (unhide K_r).2
  have R_x := hide ((unhide R_x).later cw1)
  have R_f := hide ((unhide R_f).later cw1)
  have BL := hide cw1
  clear b1 cw1
  obtain ⟨w_0, w_1, w_2, w_3, -⟩ := blk_cells4 (unhide K_w).1
  have n_w := (unhide K_w).2
  obtain ⟨r_0, r_1, r_z⟩ := blk_cells2 (unhide K_r).1
  have n_r := (unhide K_r).2
  cases k1
  · obtain rfl : ok = false := (unhide HK).symm
    obtain ⟨hL, hC⟩ := say_bad (k := 0) (d := ⟨#[]⟩) (unhide h0)
    obtain rfl : n = 0 := by rw [← unhide HN, hL]; rfl
    obtain rfl : c = 1 := by rw [← unhide HC]; exact hC
    go_wp2
    obtain ⟨p0, p1, -⟩ := blk_cells2 (blk_set2 (unhide K_r).1 (.slice none 0 0) (.slice none 0 0))
    exact bodyPost_ret (v := .tuple #[.agg #[.slice none 0 0, .slice none 0 0], .int .i64 1]) (by simp [results, Tryz.results39, go_sem, p0, p1]) rfl ⟨_, _, rfl, by rw [hL]; exact own_nil _ _, below_res (unhide BL) (by omega) _ _⟩
  go_wp2_with fail
  refine (inode_any id k2 HK2 _).mono ?_
  rintro e _ ⟨rfl, rfl⟩
  cases k2
  · obtain rfl : ok = false := (unhide HK).symm
    obtain ⟨hL, hC⟩ := say_bad (k := 0) (d := ⟨#[]⟩) (unhide h0)
    obtain rfl : n = 0 := by rw [← unhide HN, hL]; rfl
    obtain rfl : c = 1 := by rw [← unhide HC]; exact hC
    go_wp2
    obtain ⟨p0, p1, -⟩ := blk_cells2 (blk_set2 (unhide K_r).1 (.slice none 0 0) (.slice none 0 0))
    exact bodyPost_ret (v := .tuple #[.agg #[.slice none 0 0, .slice none 0 0], .int .i64 1]) (by simp [results, Tryz.results39, go_sem, p0, p1]) rfl ⟨_, _, rfl, by rw [hL]; exact own_nil _ _, below_res (unhide BL) (by omega) _ _⟩
  obtain rfl : ok = true := (unhide HK).symm
  clear r_0 r_1 r_z n_r w_0 w_1 w_2 w_3 n_w
  obtain ⟨x0, x1, x2, x3, -⟩ := blk_cells4 (unhide K_w).1
  have nw := (unhide K_w).2
  have HT : Hid (Below w1.heap.size w1 w1 ∧ w.heap.size < w1.heap.size ∧ w1.cell? ⟨w.heap.size, 0, none⟩ = some (.slice ai ni ci) ∧ w1.cell? ⟨w.heap.size, 1, none⟩ = some (.slice af nf cf) ∧ w1.cell? ⟨w.heap.size, 2, none⟩ = some (.int .i64 id) ∧ w1.cell? ⟨w.heap.size, 3, none⟩ = some (.string dv)) := hide ⟨Below.refl _ _, nw, x0, x1, x2, x3⟩
  go_wp2_with fail
  clear x0 x1 x2 x3
  go_cut [6, 7] from 21 to 27 (fun p q wx => ∃ g : Nat, p = .pointer (some ⟨g, 0, none⟩) ∧ q = .int .i64 h ∧ Below w1.heap.size w1 wx ∧ wx.heap[g]? = some (.cells #[.int .i64 e.1, .int .i64 e.2.1, .int .i64 e.2.2.1, .int .i64 e.2.2.2.1, .string e.2.2.2.2] 38 (0, 0)))
  case first =>
    have st := unhide HT
    go_region_held3 (fun W => Below w1.heap.size w1 W ∧ w.heap.size < W.heap.size ∧ W.cell? ⟨w.heap.size, 0, none⟩ = some (.slice ai ni ci) ∧ W.cell? ⟨w.heap.size, 1, none⟩ = some (.slice af nf cf) ∧ W.cell? ⟨w.heap.size, 2, none⟩ = some (.int .i64 id) ∧ W.cell? ⟨w.heap.size, 3, none⟩ = some (.string dv))
      (first | with_reducible exact unhide (by assumption) | with_reducible exact keepDT (unhide HT) | with_reducible exact keepDT (by assumption) | with_reducible exact keepADT _ (by assumption) | (with_reducible refine keepBDT _ _ ?_ ?_ (by assumption) <;> omega) | with_reducible exact keepAT _ (by assumption) | (with_reducible refine keepBT _ _ ?_ ?_ (by assumption) <;> omega) | (with_reducible refine keepWDT5 ?_ ?_ (by assumption) <;> omega) | (with_reducible refine keepWT5 ?_ ?_ (by assumption) <;> omega))
      (first
        | (go_at_call 81; with_reducible refine (change0_any _).mono ?_; rintro e u1 ⟨rfl, bx⟩; have hS1 := hide (keepST bx (by assumption)); obtain ⟨hw1, hz0, -⟩ := unhide hS1; have hwz := hw1.size; clear hw1; (first | (with_reducible have M := hide (newblkD bx); clear bx; obtain ⟨q0, q1, q2, q3, q4, q5⟩ := blk_cells5 (unhide M).1) | (with_reducible have M := hide (newblk bx); clear bx; obtain ⟨q0, q1, q2, q3, q4, q5⟩ := blk_cells5 (unhide M).1) | (with_reducible have M := hide (keptblk bx (by assumption)); clear bx; obtain ⟨q0, q1, q2, q3, q4, q5⟩ := blk_cells5 (unhide M).1) | clear bx))
        | (go_at_call 108; with_reducible refine (wjoin_any ai ni ci xs af nf cf fs id dv ⟨#[]⟩ h0 e h hch _ hni hnf ?_ ?_).mono ?_; exact (unhide R_x).later (kb1 (by assumption)); exact (unhide R_f).later (kb1 (by assumption)); rintro e u2 ⟨rfl, bx⟩; have hS1 := hide (keepST bx (by assumption)); obtain ⟨hw1, hz0, -⟩ := unhide hS1; have hwz := hw1.size; clear hw1; (first | (with_reducible have M := hide (newblkD bx); clear bx; obtain ⟨q0, q1, q2, q3, q4, q5⟩ := blk_cells5 (unhide M).1) | (with_reducible have M := hide (newblk bx); clear bx; obtain ⟨q0, q1, q2, q3, q4, q5⟩ := blk_cells5 (unhide M).1) | (with_reducible have M := hide (keptblk bx (by assumption)); clear bx; obtain ⟨q0, q1, q2, q3, q4, q5⟩ := blk_cells5 (unhide M).1) | clear bx)))
    all_goals
      rename_i hS
      go_wp2_with fail
      go_meet
      first
        | with_reducible exact ⟨_, rfl, rfl, hS.1, blk_set5 (unhide M).1 _ _ _ _ _⟩
        | with_reducible exact ⟨_, rfl, rfl, hS.1, heap_alloc_new _ _⟩
  case rest =>
    obtain ⟨ge, rfl, rfl, cwc, hblk⟩ := hcut
    have zwc := cwc.size
    have K_e9 := hide (And.intro hblk (Array.getElem?_eq_some_iff.1 hblk).1)
    clear hblk HT nw
    have K_w := hide (keptblk cwc K_w)
    have K_r := hide (keptblk cwc K_r)
    have R_x := hide ((unhide R_x).later cwc)
    have R_f := hide ((unhide R_f).later cwc)
    have BL := hide ((unhide BL).trans (cwc.mono (unhide BL).size))
    clear cwc
    obtain ⟨w_0, w_1, w_2, w_3, -⟩ := blk_cells4 (unhide K_w).1
    have n_w := (unhide K_w).2
    obtain ⟨r_0, r_1, r_z⟩ := blk_cells2 (unhide K_r).1
    have n_r := (unhide K_r).2
    have K_e := K_e9
    clear K_e9
    obtain ⟨e_0, e_1, e_2, e_3, e_4, e_z⟩ := blk_cells5 (unhide K_e).1
    have n_e := (unhide K_e).2
    rcases Bool.eq_false_or_eq_true (h != 0) with hh | hh
    · have hne : h ≠ 0 := by simpa using hh
      obtain ⟨hL, hC⟩ := say_no (unhide h0) (unhide hch) hne
      obtain rfl : n = 0 := by rw [← unhide HN, hL]; rfl
      obtain rfl : c = h := by rw [← unhide HC]; exact hC
      clear hne
      go_wp2
      obtain ⟨p0, p1, -⟩ := blk_cells2 (blk_set2 (unhide K_r).1 (.slice none 0 0) (.slice none 0 0))
      exact bodyPost_ret (v := .tuple #[.agg #[.slice none 0 0, .slice none 0 0], .int .i64 c]) (by simp [results, Tryz.results39, go_sem, p0, p1]) rfl ⟨_, _, rfl, by rw [hL]; exact own_nil _ _, below_res (unhide BL) (by omega) _ _⟩
    obtain rfl : h = 0 := by simpa using hh
    obtain ⟨ho1, ho2⟩ := chg_one (by omega) (unhide h0) (unhide hch)
    have HO := hide ho1
    clear ho1
    go_wp2_with fail
    refine (isingle_any id e (by omega) true HO 1 (hide rfl) _).mono ?_
    rintro e w2 ⟨a1, c1, rfl, o1, b2⟩
    clear e_0 e_1 e_2 e_3 e_4 e_z n_e r_0 r_1 r_z n_r w_0 w_1 w_2 w_3 n_w
    have cw2 := b2
    have zw2 := cw2.size
    have K_w := hide (keptblk cw2 K_w)
    have K_r := hide (keptblk cw2 K_r)
    have K_e := hide (keptblk cw2 K_e)
    have R_x := hide ((unhide R_x).later cw2)
    have R_f := hide ((unhide R_f).later cw2)
    have BL := hide ((unhide BL).trans (cw2.mono (unhide BL).size))
    have R_oS1 := hide (o1)
    have L_oS1 := hide (World.ownsRow.lt (unhide R_oS1))
    clear b2 cw2
    obtain ⟨w_0, w_1, w_2, w_3, -⟩ := blk_cells4 (unhide K_w).1
    have n_w := (unhide K_w).2
    obtain ⟨r_0, r_1, r_z⟩ := blk_cells2 (unhide K_r).1
    have n_r := (unhide K_r).2
    obtain ⟨e_0, e_1, e_2, e_3, e_4, e_z⟩ := blk_cells5 (unhide K_e).1
    have n_e := (unhide K_e).2
    clear o1
    obtain ⟨hL, hC⟩ := say_ok (unhide h0) (unhide hch)
    obtain rfl : n = 1 := by rw [← unhide HN, hL]; rfl
    obtain rfl : c = 0 := by rw [← unhide HC]; exact hC
    go_wp2
    obtain ⟨p0, p1, -⟩ := blk_cells2 (blk_al (blk_set2 (unhide K_r).1 (.slice a1 1 c1) (.slice none 0 0)) (.cells #[.slice a1 1 c1, .slice none 0 0] 27))
    exact bodyPost_ret (v := .tuple #[.agg #[.slice a1 1 c1, .slice none 0 0], .int .i64 0]) (by simp [results, Tryz.results39, go_sem, p0, p1]) rfl ⟨_, _, rfl, by rw [hL]; exact ow_al (ow_res (Ow.base (unhide R_oS1) (by first | omega | (simp; omega))) (unhide K_r).1 _ _) _, below_al (below_res (unhide BL) (by omega) _ _) (by simp; omega) _⟩

set_option maxHeartbeats 4000000 in
set_option maxRecDepth 100000 in
theorem tell1_any (ai : Option Addr) (ni ci : Nat) (xs : List Itm) (af : Option Addr) (nf cf : Nat) (fs : List Flr) (id : Int) (dv : ByteArray) (n : Nat) (HN : Hid ((sayL 1 ⟨#[]⟩ xs fs id).length = n)) (c : Int) (HC : Hid (sayC 1 ⟨#[]⟩ xs fs id = c)) (w : World) (hni : ni ≤ 140737488351232) (hnf : nf ≤ 140737488351232) (hx : Rw encI 6 w (.slice ai ni ci) xs) (hf : Rw encF 2 w (.slice af nf cf) fs) :
    Calls Tryz.prog 39 #[.int .i64 1, .agg #[.slice ai ni ci, .slice af nf cf, .int .i64 id, .string dv]] w fun e w' => ∃ a q, e = .returned (.tuple #[.agg #[.slice a n q, .slice none 0 0], .int .i64 c]) ∧ OwI w.heap.size w' (.slice a n q) (sayL 1 ⟨#[]⟩ xs fs id) ∧ Below w.heap.size w w' := by
  have R_x := hide hx
  have R_f := hide hf
  clear hx hf
  obtain ⟨ok, h0⟩ : ∃ k, Hid ((okS xs fs && inB id 0 4) = k) := ⟨_, hide rfl⟩
  obtain ⟨k1, HK1⟩ : ∃ k, Hid (okS xs fs = k) := ⟨_, hide rfl⟩
  obtain ⟨k2, HK2⟩ : ∃ k, Hid (inB id 0 4 = k) := ⟨_, hide rfl⟩
  have HK : Hid ((k1 && k2) = ok) := hide (by rw [← unhide HK1, ← unhide HK2]; exact unhide h0)
  obtain ⟨e, h, hch⟩ : ∃ e h, Hid (chg 1 ⟨#[]⟩ xs fs id = (e, h)) := ⟨_, _, hide rfl⟩
  go_enter Tryz.func39, Tryz.ntmps39
  go_wp2_with fail
  refine (istateok_any ai ni ci xs af nf cf fs k1 HK1 _ hni hnf (((unhide R_x).alloc _).alloc _) (((unhide R_f).alloc _).alloc _)).mono ?_
  rintro e w1 ⟨rfl, b1⟩
  have cw1 := (((Below.refl w.heap.size w).alloc (Nat.le_refl _) _).alloc (by simp <;> omega) _).trans (b1.mono (by simp <;> omega))
  have zw1 := cw1.size
  have K_w : Hid (w1.heap[w.heap.size]? = some (.cells #[.slice ai ni ci, .slice af nf cf, .int .i64 id, .string dv] 62 (0, 0)) ∧ w.heap.size < w1.heap.size) := hide ⟨(b1.block _ (by simp <;> omega)).trans (lowB2 w _ _), by have := b1.size; simp at this; omega⟩
  have y_w := (unhide K_w).2
  have K_r : Hid (w1.heap[w.heap.size + 1]? = some (.cells #[.slice none 0 0, .slice none 0 0] 27 (0, 0)) ∧ w.heap.size + 1 < w1.heap.size) := hide ⟨(b1.block _ (by simp <;> omega)).trans (newB2 w _ _), by have := b1.size; simp at this; omega⟩
  have y_r := (unhide K_r).2
  have R_x := hide ((unhide R_x).later cw1)
  have R_f := hide ((unhide R_f).later cw1)
  have BL := hide cw1
  clear b1 cw1
  obtain ⟨w_0, w_1, w_2, w_3, -⟩ := blk_cells4 (unhide K_w).1
  have n_w := (unhide K_w).2
  obtain ⟨r_0, r_1, r_z⟩ := blk_cells2 (unhide K_r).1
  have n_r := (unhide K_r).2
  cases k1
  · obtain rfl : ok = false := (unhide HK).symm
    obtain ⟨hL, hC⟩ := say_bad (k := 1) (d := ⟨#[]⟩) (unhide h0)
    obtain rfl : n = 0 := by rw [← unhide HN, hL]; rfl
    obtain rfl : c = 1 := by rw [← unhide HC]; exact hC
    go_wp2
    obtain ⟨p0, p1, -⟩ := blk_cells2 (blk_set2 (unhide K_r).1 (.slice none 0 0) (.slice none 0 0))
    exact bodyPost_ret (v := .tuple #[.agg #[.slice none 0 0, .slice none 0 0], .int .i64 1]) (by simp [results, Tryz.results39, go_sem, p0, p1]) rfl ⟨_, _, rfl, by rw [hL]; exact own_nil _ _, below_res (unhide BL) (by omega) _ _⟩
  go_wp2_with fail
  refine (inode_any id k2 HK2 _).mono ?_
  rintro e _ ⟨rfl, rfl⟩
  cases k2
  · obtain rfl : ok = false := (unhide HK).symm
    obtain ⟨hL, hC⟩ := say_bad (k := 1) (d := ⟨#[]⟩) (unhide h0)
    obtain rfl : n = 0 := by rw [← unhide HN, hL]; rfl
    obtain rfl : c = 1 := by rw [← unhide HC]; exact hC
    go_wp2
    obtain ⟨p0, p1, -⟩ := blk_cells2 (blk_set2 (unhide K_r).1 (.slice none 0 0) (.slice none 0 0))
    exact bodyPost_ret (v := .tuple #[.agg #[.slice none 0 0, .slice none 0 0], .int .i64 1]) (by simp [results, Tryz.results39, go_sem, p0, p1]) rfl ⟨_, _, rfl, by rw [hL]; exact own_nil _ _, below_res (unhide BL) (by omega) _ _⟩
  obtain rfl : ok = true := (unhide HK).symm
  clear r_0 r_1 r_z n_r w_0 w_1 w_2 w_3 n_w
  obtain ⟨x0, x1, x2, x3, -⟩ := blk_cells4 (unhide K_w).1
  have nw := (unhide K_w).2
  have HT : Hid (Below w1.heap.size w1 w1 ∧ w.heap.size < w1.heap.size ∧ w1.cell? ⟨w.heap.size, 0, none⟩ = some (.slice ai ni ci) ∧ w1.cell? ⟨w.heap.size, 1, none⟩ = some (.slice af nf cf) ∧ w1.cell? ⟨w.heap.size, 2, none⟩ = some (.int .i64 id) ∧ w1.cell? ⟨w.heap.size, 3, none⟩ = some (.string dv)) := hide ⟨Below.refl _ _, nw, x0, x1, x2, x3⟩
  go_wp2_with fail
  clear x0 x1 x2 x3
  go_cut [6, 7] from 21 to 27 (fun p q wx => ∃ g : Nat, p = .pointer (some ⟨g, 0, none⟩) ∧ q = .int .i64 h ∧ Below w1.heap.size w1 wx ∧ wx.heap[g]? = some (.cells #[.int .i64 e.1, .int .i64 e.2.1, .int .i64 e.2.2.1, .int .i64 e.2.2.2.1, .string e.2.2.2.2] 38 (0, 0)))
  case first =>
    have st := unhide HT
    go_region_held3 (fun W => Below w1.heap.size w1 W ∧ w.heap.size < W.heap.size ∧ W.cell? ⟨w.heap.size, 0, none⟩ = some (.slice ai ni ci) ∧ W.cell? ⟨w.heap.size, 1, none⟩ = some (.slice af nf cf) ∧ W.cell? ⟨w.heap.size, 2, none⟩ = some (.int .i64 id) ∧ W.cell? ⟨w.heap.size, 3, none⟩ = some (.string dv))
      (first | with_reducible exact unhide (by assumption) | with_reducible exact keepDT (unhide HT) | with_reducible exact keepDT (by assumption) | with_reducible exact keepADT _ (by assumption) | (with_reducible refine keepBDT _ _ ?_ ?_ (by assumption) <;> omega) | with_reducible exact keepAT _ (by assumption) | (with_reducible refine keepBT _ _ ?_ ?_ (by assumption) <;> omega) | (with_reducible refine keepWDT5 ?_ ?_ (by assumption) <;> omega) | (with_reducible refine keepWT5 ?_ ?_ (by assumption) <;> omega))
      (first
        | (go_at_call 81; with_reducible refine (change1_any _).mono ?_; rintro e u1 ⟨rfl, bx⟩; have hS1 := hide (keepST bx (by assumption)); obtain ⟨hw1, hz0, -⟩ := unhide hS1; have hwz := hw1.size; clear hw1; (first | (with_reducible have M := hide (newblkD bx); clear bx; obtain ⟨q0, q1, q2, q3, q4, q5⟩ := blk_cells5 (unhide M).1) | (with_reducible have M := hide (newblk bx); clear bx; obtain ⟨q0, q1, q2, q3, q4, q5⟩ := blk_cells5 (unhide M).1) | (with_reducible have M := hide (keptblk bx (by assumption)); clear bx; obtain ⟨q0, q1, q2, q3, q4, q5⟩ := blk_cells5 (unhide M).1) | clear bx))
        | (go_at_call 109; with_reducible refine (wbeat_any ai ni ci xs af nf cf fs id dv ⟨#[]⟩ h0 e h hch _ hni hnf ?_ ?_).mono ?_; exact (unhide R_x).later (kb1 (by assumption)); exact (unhide R_f).later (kb1 (by assumption)); rintro e u2 ⟨rfl, bx⟩; have hS1 := hide (keepST bx (by assumption)); obtain ⟨hw1, hz0, -⟩ := unhide hS1; have hwz := hw1.size; clear hw1; (first | (with_reducible have M := hide (newblkD bx); clear bx; obtain ⟨q0, q1, q2, q3, q4, q5⟩ := blk_cells5 (unhide M).1) | (with_reducible have M := hide (newblk bx); clear bx; obtain ⟨q0, q1, q2, q3, q4, q5⟩ := blk_cells5 (unhide M).1) | (with_reducible have M := hide (keptblk bx (by assumption)); clear bx; obtain ⟨q0, q1, q2, q3, q4, q5⟩ := blk_cells5 (unhide M).1) | clear bx)))
    all_goals
      rename_i hS
      go_wp2_with fail
      go_meet
      first
        | with_reducible exact ⟨_, rfl, rfl, hS.1, blk_set5 (unhide M).1 _ _ _ _ _⟩
        | with_reducible exact ⟨_, rfl, rfl, hS.1, heap_alloc_new _ _⟩
  case rest =>
    obtain ⟨ge, rfl, rfl, cwc, hblk⟩ := hcut
    have zwc := cwc.size
    have K_e9 := hide (And.intro hblk (Array.getElem?_eq_some_iff.1 hblk).1)
    clear hblk HT nw
    have K_w := hide (keptblk cwc K_w)
    have K_r := hide (keptblk cwc K_r)
    have R_x := hide ((unhide R_x).later cwc)
    have R_f := hide ((unhide R_f).later cwc)
    have BL := hide ((unhide BL).trans (cwc.mono (unhide BL).size))
    clear cwc
    obtain ⟨w_0, w_1, w_2, w_3, -⟩ := blk_cells4 (unhide K_w).1
    have n_w := (unhide K_w).2
    obtain ⟨r_0, r_1, r_z⟩ := blk_cells2 (unhide K_r).1
    have n_r := (unhide K_r).2
    have K_e := K_e9
    clear K_e9
    obtain ⟨e_0, e_1, e_2, e_3, e_4, e_z⟩ := blk_cells5 (unhide K_e).1
    have n_e := (unhide K_e).2
    rcases Bool.eq_false_or_eq_true (h != 0) with hh | hh
    · have hne : h ≠ 0 := by simpa using hh
      obtain ⟨hL, hC⟩ := say_no (unhide h0) (unhide hch) hne
      obtain rfl : n = 0 := by rw [← unhide HN, hL]; rfl
      obtain rfl : c = h := by rw [← unhide HC]; exact hC
      clear hne
      go_wp2
      obtain ⟨p0, p1, -⟩ := blk_cells2 (blk_set2 (unhide K_r).1 (.slice none 0 0) (.slice none 0 0))
      exact bodyPost_ret (v := .tuple #[.agg #[.slice none 0 0, .slice none 0 0], .int .i64 c]) (by simp [results, Tryz.results39, go_sem, p0, p1]) rfl ⟨_, _, rfl, by rw [hL]; exact own_nil _ _, below_res (unhide BL) (by omega) _ _⟩
    obtain rfl : h = 0 := by simpa using hh
    obtain ⟨ho1, ho2⟩ := chg_one (by omega) (unhide h0) (unhide hch)
    have HO := hide ho1
    clear ho1
    go_wp2_with fail
    refine (isingle_any id e (by omega) true HO 1 (hide rfl) _).mono ?_
    rintro e w2 ⟨a1, c1, rfl, o1, b2⟩
    clear e_0 e_1 e_2 e_3 e_4 e_z n_e r_0 r_1 r_z n_r w_0 w_1 w_2 w_3 n_w
    have cw2 := b2
    have zw2 := cw2.size
    have K_w := hide (keptblk cw2 K_w)
    have K_r := hide (keptblk cw2 K_r)
    have K_e := hide (keptblk cw2 K_e)
    have R_x := hide ((unhide R_x).later cw2)
    have R_f := hide ((unhide R_f).later cw2)
    have BL := hide ((unhide BL).trans (cw2.mono (unhide BL).size))
    have R_oS1 := hide (o1)
    have L_oS1 := hide (World.ownsRow.lt (unhide R_oS1))
    clear b2 cw2
    obtain ⟨w_0, w_1, w_2, w_3, -⟩ := blk_cells4 (unhide K_w).1
    have n_w := (unhide K_w).2
    obtain ⟨r_0, r_1, r_z⟩ := blk_cells2 (unhide K_r).1
    have n_r := (unhide K_r).2
    obtain ⟨e_0, e_1, e_2, e_3, e_4, e_z⟩ := blk_cells5 (unhide K_e).1
    have n_e := (unhide K_e).2
    clear o1
    obtain ⟨hL, hC⟩ := say_ok (unhide h0) (unhide hch)
    obtain rfl : n = 1 := by rw [← unhide HN, hL]; rfl
    obtain rfl : c = 0 := by rw [← unhide HC]; exact hC
    go_wp2
    obtain ⟨p0, p1, -⟩ := blk_cells2 (blk_al (blk_set2 (unhide K_r).1 (.slice a1 1 c1) (.slice none 0 0)) (.cells #[.slice a1 1 c1, .slice none 0 0] 27))
    exact bodyPost_ret (v := .tuple #[.agg #[.slice a1 1 c1, .slice none 0 0], .int .i64 0]) (by simp [results, Tryz.results39, go_sem, p0, p1]) rfl ⟨_, _, rfl, by rw [hL]; exact ow_al (ow_res (Ow.base (unhide R_oS1) (by first | omega | (simp; omega))) (unhide K_r).1 _ _) _, below_al (below_res (unhide BL) (by omega) _ _) (by simp; omega) _⟩

set_option maxHeartbeats 4000000 in
set_option maxRecDepth 100000 in
theorem tell2_any (ai : Option Addr) (ni ci : Nat) (xs : List Itm) (af : Option Addr) (nf cf : Nat) (fs : List Flr) (id : Int) (dv : ByteArray) (n : Nat) (HN : Hid ((sayL 2 dv xs fs id).length = n)) (c : Int) (HC : Hid (sayC 2 dv xs fs id = c)) (w : World) (hni : ni ≤ 140737488351232) (hnf : nf ≤ 140737488351232) (hx : Rw encI 6 w (.slice ai ni ci) xs) (hf : Rw encF 2 w (.slice af nf cf) fs) :
    Calls Tryz.prog 39 #[.int .i64 2, .agg #[.slice ai ni ci, .slice af nf cf, .int .i64 id, .string dv]] w fun e w' => ∃ a q, e = .returned (.tuple #[.agg #[.slice a n q, .slice none 0 0], .int .i64 c]) ∧ OwI w.heap.size w' (.slice a n q) (sayL 2 dv xs fs id) ∧ Below w.heap.size w w' := by
  have R_x := hide hx
  have R_f := hide hf
  clear hx hf
  obtain ⟨ok, h0⟩ : ∃ k, Hid ((okS xs fs && inB id 0 4) = k) := ⟨_, hide rfl⟩
  obtain ⟨k1, HK1⟩ : ∃ k, Hid (okS xs fs = k) := ⟨_, hide rfl⟩
  obtain ⟨k2, HK2⟩ : ∃ k, Hid (inB id 0 4 = k) := ⟨_, hide rfl⟩
  have HK : Hid ((k1 && k2) = ok) := hide (by rw [← unhide HK1, ← unhide HK2]; exact unhide h0)
  obtain ⟨e, h, hch⟩ : ∃ e h, Hid (chg 2 dv xs fs id = (e, h)) := ⟨_, _, hide rfl⟩
  go_enter Tryz.func39, Tryz.ntmps39
  go_wp2_with fail
  refine (istateok_any ai ni ci xs af nf cf fs k1 HK1 _ hni hnf (((unhide R_x).alloc _).alloc _) (((unhide R_f).alloc _).alloc _)).mono ?_
  rintro e w1 ⟨rfl, b1⟩
  have cw1 := (((Below.refl w.heap.size w).alloc (Nat.le_refl _) _).alloc (by simp <;> omega) _).trans (b1.mono (by simp <;> omega))
  have zw1 := cw1.size
  have K_w : Hid (w1.heap[w.heap.size]? = some (.cells #[.slice ai ni ci, .slice af nf cf, .int .i64 id, .string dv] 62 (0, 0)) ∧ w.heap.size < w1.heap.size) := hide ⟨(b1.block _ (by simp <;> omega)).trans (lowB2 w _ _), by have := b1.size; simp at this; omega⟩
  have y_w := (unhide K_w).2
  have K_r : Hid (w1.heap[w.heap.size + 1]? = some (.cells #[.slice none 0 0, .slice none 0 0] 27 (0, 0)) ∧ w.heap.size + 1 < w1.heap.size) := hide ⟨(b1.block _ (by simp <;> omega)).trans (newB2 w _ _), by have := b1.size; simp at this; omega⟩
  have y_r := (unhide K_r).2
  have R_x := hide ((unhide R_x).later cw1)
  have R_f := hide ((unhide R_f).later cw1)
  have BL := hide cw1
  clear b1 cw1
  obtain ⟨w_0, w_1, w_2, w_3, -⟩ := blk_cells4 (unhide K_w).1
  have n_w := (unhide K_w).2
  obtain ⟨r_0, r_1, r_z⟩ := blk_cells2 (unhide K_r).1
  have n_r := (unhide K_r).2
  cases k1
  · obtain rfl : ok = false := (unhide HK).symm
    obtain ⟨hL, hC⟩ := say_bad (k := 2) (d := dv) (unhide h0)
    obtain rfl : n = 0 := by rw [← unhide HN, hL]; rfl
    obtain rfl : c = 1 := by rw [← unhide HC]; exact hC
    go_wp2
    obtain ⟨p0, p1, -⟩ := blk_cells2 (blk_set2 (unhide K_r).1 (.slice none 0 0) (.slice none 0 0))
    exact bodyPost_ret (v := .tuple #[.agg #[.slice none 0 0, .slice none 0 0], .int .i64 1]) (by simp [results, Tryz.results39, go_sem, p0, p1]) rfl ⟨_, _, rfl, by rw [hL]; exact own_nil _ _, below_res (unhide BL) (by omega) _ _⟩
  go_wp2_with fail
  refine (inode_any id k2 HK2 _).mono ?_
  rintro e _ ⟨rfl, rfl⟩
  cases k2
  · obtain rfl : ok = false := (unhide HK).symm
    obtain ⟨hL, hC⟩ := say_bad (k := 2) (d := dv) (unhide h0)
    obtain rfl : n = 0 := by rw [← unhide HN, hL]; rfl
    obtain rfl : c = 1 := by rw [← unhide HC]; exact hC
    go_wp2
    obtain ⟨p0, p1, -⟩ := blk_cells2 (blk_set2 (unhide K_r).1 (.slice none 0 0) (.slice none 0 0))
    exact bodyPost_ret (v := .tuple #[.agg #[.slice none 0 0, .slice none 0 0], .int .i64 1]) (by simp [results, Tryz.results39, go_sem, p0, p1]) rfl ⟨_, _, rfl, by rw [hL]; exact own_nil _ _, below_res (unhide BL) (by omega) _ _⟩
  obtain rfl : ok = true := (unhide HK).symm
  clear r_0 r_1 r_z n_r w_0 w_1 w_2 w_3 n_w
  obtain ⟨x0, x1, x2, x3, -⟩ := blk_cells4 (unhide K_w).1
  have nw := (unhide K_w).2
  have HT : Hid (Below w1.heap.size w1 w1 ∧ w.heap.size < w1.heap.size ∧ w1.cell? ⟨w.heap.size, 0, none⟩ = some (.slice ai ni ci) ∧ w1.cell? ⟨w.heap.size, 1, none⟩ = some (.slice af nf cf) ∧ w1.cell? ⟨w.heap.size, 2, none⟩ = some (.int .i64 id) ∧ w1.cell? ⟨w.heap.size, 3, none⟩ = some (.string dv)) := hide ⟨Below.refl _ _, nw, x0, x1, x2, x3⟩
  go_wp2_with fail
  clear x0 x1 x2 x3
  go_cut [6, 7] from 21 to 27 (fun p q wx => ∃ g : Nat, p = .pointer (some ⟨g, 0, none⟩) ∧ q = .int .i64 h ∧ Below w1.heap.size w1 wx ∧ wx.heap[g]? = some (.cells #[.int .i64 e.1, .int .i64 e.2.1, .int .i64 e.2.2.1, .int .i64 e.2.2.2.1, .string e.2.2.2.2] 38 (0, 0)))
  case first =>
    have st := unhide HT
    go_region_held3 (fun W => Below w1.heap.size w1 W ∧ w.heap.size < W.heap.size ∧ W.cell? ⟨w.heap.size, 0, none⟩ = some (.slice ai ni ci) ∧ W.cell? ⟨w.heap.size, 1, none⟩ = some (.slice af nf cf) ∧ W.cell? ⟨w.heap.size, 2, none⟩ = some (.int .i64 id) ∧ W.cell? ⟨w.heap.size, 3, none⟩ = some (.string dv))
      (first | with_reducible exact unhide (by assumption) | with_reducible exact keepDT (unhide HT) | with_reducible exact keepDT (by assumption) | with_reducible exact keepADT _ (by assumption) | (with_reducible refine keepBDT _ _ ?_ ?_ (by assumption) <;> omega) | with_reducible exact keepAT _ (by assumption) | (with_reducible refine keepBT _ _ ?_ ?_ (by assumption) <;> omega) | (with_reducible refine keepWDT5 ?_ ?_ (by assumption) <;> omega) | (with_reducible refine keepWT5 ?_ ?_ (by assumption) <;> omega))
      (first
        | (go_at_call 81; with_reducible refine (change2_any _).mono ?_; rintro e u1 ⟨rfl, bx⟩; have hS1 := hide (keepST bx (by assumption)); obtain ⟨hw1, hz0, -⟩ := unhide hS1; have hwz := hw1.size; clear hw1; (first | (with_reducible have M := hide (newblkD bx); clear bx; obtain ⟨q0, q1, q2, q3, q4, q5⟩ := blk_cells5 (unhide M).1) | (with_reducible have M := hide (newblk bx); clear bx; obtain ⟨q0, q1, q2, q3, q4, q5⟩ := blk_cells5 (unhide M).1) | (with_reducible have M := hide (keptblk bx (by assumption)); clear bx; obtain ⟨q0, q1, q2, q3, q4, q5⟩ := blk_cells5 (unhide M).1) | clear bx))
        | (go_at_call 110; with_reducible refine (wset_any ai ni ci xs af nf cf fs id dv h0 e h hch _ hni hnf ?_ ?_).mono ?_; exact (unhide R_x).later (kb1 (by assumption)); exact (unhide R_f).later (kb1 (by assumption)); rintro e u2 ⟨rfl, bx⟩; have hS1 := hide (keepST bx (by assumption)); obtain ⟨hw1, hz0, -⟩ := unhide hS1; have hwz := hw1.size; clear hw1; (first | (with_reducible have M := hide (newblkD bx); clear bx; obtain ⟨q0, q1, q2, q3, q4, q5⟩ := blk_cells5 (unhide M).1) | (with_reducible have M := hide (newblk bx); clear bx; obtain ⟨q0, q1, q2, q3, q4, q5⟩ := blk_cells5 (unhide M).1) | (with_reducible have M := hide (keptblk bx (by assumption)); clear bx; obtain ⟨q0, q1, q2, q3, q4, q5⟩ := blk_cells5 (unhide M).1) | clear bx)))
    all_goals
      rename_i hS
      go_wp2_with fail
      go_meet
      first
        | with_reducible exact ⟨_, rfl, rfl, hS.1, blk_set5 (unhide M).1 _ _ _ _ _⟩
        | with_reducible exact ⟨_, rfl, rfl, hS.1, heap_alloc_new _ _⟩
  case rest =>
    obtain ⟨ge, rfl, rfl, cwc, hblk⟩ := hcut
    have zwc := cwc.size
    have K_e9 := hide (And.intro hblk (Array.getElem?_eq_some_iff.1 hblk).1)
    clear hblk HT nw
    have K_w := hide (keptblk cwc K_w)
    have K_r := hide (keptblk cwc K_r)
    have R_x := hide ((unhide R_x).later cwc)
    have R_f := hide ((unhide R_f).later cwc)
    have BL := hide ((unhide BL).trans (cwc.mono (unhide BL).size))
    clear cwc
    obtain ⟨w_0, w_1, w_2, w_3, -⟩ := blk_cells4 (unhide K_w).1
    have n_w := (unhide K_w).2
    obtain ⟨r_0, r_1, r_z⟩ := blk_cells2 (unhide K_r).1
    have n_r := (unhide K_r).2
    have K_e := K_e9
    clear K_e9
    obtain ⟨e_0, e_1, e_2, e_3, e_4, e_z⟩ := blk_cells5 (unhide K_e).1
    have n_e := (unhide K_e).2
    rcases Bool.eq_false_or_eq_true (h != 0) with hh | hh
    · have hne : h ≠ 0 := by simpa using hh
      obtain ⟨hL, hC⟩ := say_no (unhide h0) (unhide hch) hne
      obtain rfl : n = 0 := by rw [← unhide HN, hL]; rfl
      obtain rfl : c = h := by rw [← unhide HC]; exact hC
      clear hne
      go_wp2
      obtain ⟨p0, p1, -⟩ := blk_cells2 (blk_set2 (unhide K_r).1 (.slice none 0 0) (.slice none 0 0))
      exact bodyPost_ret (v := .tuple #[.agg #[.slice none 0 0, .slice none 0 0], .int .i64 c]) (by simp [results, Tryz.results39, go_sem, p0, p1]) rfl ⟨_, _, rfl, by rw [hL]; exact own_nil _ _, below_res (unhide BL) (by omega) _ _⟩
    obtain rfl : h = 0 := by simpa using hh
    obtain ⟨ho1, ho2⟩ := chg_one (by omega) (unhide h0) (unhide hch)
    have HO := hide ho1
    clear ho1
    go_wp2_with fail
    refine (isingle_any id e (by omega) true HO 1 (hide rfl) _).mono ?_
    rintro e w2 ⟨a1, c1, rfl, o1, b2⟩
    clear e_0 e_1 e_2 e_3 e_4 e_z n_e r_0 r_1 r_z n_r w_0 w_1 w_2 w_3 n_w
    have cw2 := b2
    have zw2 := cw2.size
    have K_w := hide (keptblk cw2 K_w)
    have K_r := hide (keptblk cw2 K_r)
    have K_e := hide (keptblk cw2 K_e)
    have R_x := hide ((unhide R_x).later cw2)
    have R_f := hide ((unhide R_f).later cw2)
    have BL := hide ((unhide BL).trans (cw2.mono (unhide BL).size))
    have R_oS1 := hide (o1)
    have L_oS1 := hide (World.ownsRow.lt (unhide R_oS1))
    clear b2 cw2
    obtain ⟨w_0, w_1, w_2, w_3, -⟩ := blk_cells4 (unhide K_w).1
    have n_w := (unhide K_w).2
    obtain ⟨r_0, r_1, r_z⟩ := blk_cells2 (unhide K_r).1
    have n_r := (unhide K_r).2
    obtain ⟨e_0, e_1, e_2, e_3, e_4, e_z⟩ := blk_cells5 (unhide K_e).1
    have n_e := (unhide K_e).2
    clear o1
    obtain ⟨hL, hC⟩ := say_ok (unhide h0) (unhide hch)
    obtain rfl : n = 1 := by rw [← unhide HN, hL]; rfl
    obtain rfl : c = 0 := by rw [← unhide HC]; exact hC
    go_wp2
    obtain ⟨p0, p1, -⟩ := blk_cells2 (blk_al (blk_set2 (unhide K_r).1 (.slice a1 1 c1) (.slice none 0 0)) (.cells #[.slice a1 1 c1, .slice none 0 0] 27))
    exact bodyPost_ret (v := .tuple #[.agg #[.slice a1 1 c1, .slice none 0 0], .int .i64 0]) (by simp [results, Tryz.results39, go_sem, p0, p1]) rfl ⟨_, _, rfl, by rw [hL]; exact ow_al (ow_res (Ow.base (unhide R_oS1) (by first | omega | (simp; omega))) (unhide K_r).1 _ _) _, below_al (below_res (unhide BL) (by omega) _ _) (by simp; omega) _⟩

set_option maxHeartbeats 4000000 in
set_option maxRecDepth 100000 in
theorem tell3_any (ai : Option Addr) (ni ci : Nat) (xs : List Itm) (af : Option Addr) (nf cf : Nat) (fs : List Flr) (id : Int) (dv : ByteArray) (n : Nat) (HN : Hid ((sayL 3 ⟨#[]⟩ xs fs id).length = n)) (c : Int) (HC : Hid (sayC 3 ⟨#[]⟩ xs fs id = c)) (w : World) (hni : ni ≤ 140737488351232) (hnf : nf ≤ 140737488351232) (hx : Rw encI 6 w (.slice ai ni ci) xs) (hf : Rw encF 2 w (.slice af nf cf) fs) :
    Calls Tryz.prog 39 #[.int .i64 3, .agg #[.slice ai ni ci, .slice af nf cf, .int .i64 id, .string dv]] w fun e w' => ∃ a q, e = .returned (.tuple #[.agg #[.slice a n q, .slice none 0 0], .int .i64 c]) ∧ OwI w.heap.size w' (.slice a n q) (sayL 3 ⟨#[]⟩ xs fs id) ∧ Below w.heap.size w w' := by
  have R_x := hide hx
  have R_f := hide hf
  clear hx hf
  obtain ⟨ok, h0⟩ : ∃ k, Hid ((okS xs fs && inB id 0 4) = k) := ⟨_, hide rfl⟩
  obtain ⟨k1, HK1⟩ : ∃ k, Hid (okS xs fs = k) := ⟨_, hide rfl⟩
  obtain ⟨k2, HK2⟩ : ∃ k, Hid (inB id 0 4 = k) := ⟨_, hide rfl⟩
  have HK : Hid ((k1 && k2) = ok) := hide (by rw [← unhide HK1, ← unhide HK2]; exact unhide h0)
  obtain ⟨e, h, hch⟩ : ∃ e h, Hid (chg 3 ⟨#[]⟩ xs fs id = (e, h)) := ⟨_, _, hide rfl⟩
  go_enter Tryz.func39, Tryz.ntmps39
  go_wp2_with fail
  refine (istateok_any ai ni ci xs af nf cf fs k1 HK1 _ hni hnf (((unhide R_x).alloc _).alloc _) (((unhide R_f).alloc _).alloc _)).mono ?_
  rintro e w1 ⟨rfl, b1⟩
  have cw1 := (((Below.refl w.heap.size w).alloc (Nat.le_refl _) _).alloc (by simp <;> omega) _).trans (b1.mono (by simp <;> omega))
  have zw1 := cw1.size
  have K_w : Hid (w1.heap[w.heap.size]? = some (.cells #[.slice ai ni ci, .slice af nf cf, .int .i64 id, .string dv] 62 (0, 0)) ∧ w.heap.size < w1.heap.size) := hide ⟨(b1.block _ (by simp <;> omega)).trans (lowB2 w _ _), by have := b1.size; simp at this; omega⟩
  have y_w := (unhide K_w).2
  have K_r : Hid (w1.heap[w.heap.size + 1]? = some (.cells #[.slice none 0 0, .slice none 0 0] 27 (0, 0)) ∧ w.heap.size + 1 < w1.heap.size) := hide ⟨(b1.block _ (by simp <;> omega)).trans (newB2 w _ _), by have := b1.size; simp at this; omega⟩
  have y_r := (unhide K_r).2
  have R_x := hide ((unhide R_x).later cw1)
  have R_f := hide ((unhide R_f).later cw1)
  have BL := hide cw1
  clear b1 cw1
  obtain ⟨w_0, w_1, w_2, w_3, -⟩ := blk_cells4 (unhide K_w).1
  have n_w := (unhide K_w).2
  obtain ⟨r_0, r_1, r_z⟩ := blk_cells2 (unhide K_r).1
  have n_r := (unhide K_r).2
  cases k1
  · obtain rfl : ok = false := (unhide HK).symm
    obtain ⟨hL, hC⟩ := say_bad (k := 3) (d := ⟨#[]⟩) (unhide h0)
    obtain rfl : n = 0 := by rw [← unhide HN, hL]; rfl
    obtain rfl : c = 1 := by rw [← unhide HC]; exact hC
    go_wp2
    obtain ⟨p0, p1, -⟩ := blk_cells2 (blk_set2 (unhide K_r).1 (.slice none 0 0) (.slice none 0 0))
    exact bodyPost_ret (v := .tuple #[.agg #[.slice none 0 0, .slice none 0 0], .int .i64 1]) (by simp [results, Tryz.results39, go_sem, p0, p1]) rfl ⟨_, _, rfl, by rw [hL]; exact own_nil _ _, below_res (unhide BL) (by omega) _ _⟩
  go_wp2_with fail
  refine (inode_any id k2 HK2 _).mono ?_
  rintro e _ ⟨rfl, rfl⟩
  cases k2
  · obtain rfl : ok = false := (unhide HK).symm
    obtain ⟨hL, hC⟩ := say_bad (k := 3) (d := ⟨#[]⟩) (unhide h0)
    obtain rfl : n = 0 := by rw [← unhide HN, hL]; rfl
    obtain rfl : c = 1 := by rw [← unhide HC]; exact hC
    go_wp2
    obtain ⟨p0, p1, -⟩ := blk_cells2 (blk_set2 (unhide K_r).1 (.slice none 0 0) (.slice none 0 0))
    exact bodyPost_ret (v := .tuple #[.agg #[.slice none 0 0, .slice none 0 0], .int .i64 1]) (by simp [results, Tryz.results39, go_sem, p0, p1]) rfl ⟨_, _, rfl, by rw [hL]; exact own_nil _ _, below_res (unhide BL) (by omega) _ _⟩
  obtain rfl : ok = true := (unhide HK).symm
  clear r_0 r_1 r_z n_r w_0 w_1 w_2 w_3 n_w
  obtain ⟨x0, x1, x2, x3, -⟩ := blk_cells4 (unhide K_w).1
  have nw := (unhide K_w).2
  have HT : Hid (Below w1.heap.size w1 w1 ∧ w.heap.size < w1.heap.size ∧ w1.cell? ⟨w.heap.size, 0, none⟩ = some (.slice ai ni ci) ∧ w1.cell? ⟨w.heap.size, 1, none⟩ = some (.slice af nf cf) ∧ w1.cell? ⟨w.heap.size, 2, none⟩ = some (.int .i64 id) ∧ w1.cell? ⟨w.heap.size, 3, none⟩ = some (.string dv)) := hide ⟨Below.refl _ _, nw, x0, x1, x2, x3⟩
  go_wp2_with fail
  clear x0 x1 x2 x3
  go_cut [6, 7] from 21 to 27 (fun p q wx => ∃ g : Nat, p = .pointer (some ⟨g, 0, none⟩) ∧ q = .int .i64 h ∧ Below w1.heap.size w1 wx ∧ wx.heap[g]? = some (.cells #[.int .i64 e.1, .int .i64 e.2.1, .int .i64 e.2.2.1, .int .i64 e.2.2.2.1, .string e.2.2.2.2] 38 (0, 0)))
  case first =>
    have st := unhide HT
    go_region_held3 (fun W => Below w1.heap.size w1 W ∧ w.heap.size < W.heap.size ∧ W.cell? ⟨w.heap.size, 0, none⟩ = some (.slice ai ni ci) ∧ W.cell? ⟨w.heap.size, 1, none⟩ = some (.slice af nf cf) ∧ W.cell? ⟨w.heap.size, 2, none⟩ = some (.int .i64 id) ∧ W.cell? ⟨w.heap.size, 3, none⟩ = some (.string dv))
      (first | with_reducible exact unhide (by assumption) | with_reducible exact keepDT (unhide HT) | with_reducible exact keepDT (by assumption) | with_reducible exact keepADT _ (by assumption) | (with_reducible refine keepBDT _ _ ?_ ?_ (by assumption) <;> omega) | with_reducible exact keepAT _ (by assumption) | (with_reducible refine keepBT _ _ ?_ ?_ (by assumption) <;> omega) | (with_reducible refine keepWDT5 ?_ ?_ (by assumption) <;> omega) | (with_reducible refine keepWT5 ?_ ?_ (by assumption) <;> omega))
      (first
        | (go_at_call 81; with_reducible refine (change3_any _).mono ?_; rintro e u1 ⟨rfl, bx⟩; have hS1 := hide (keepST bx (by assumption)); obtain ⟨hw1, hz0, -⟩ := unhide hS1; have hwz := hw1.size; clear hw1; (first | (with_reducible have M := hide (newblkD bx); clear bx; obtain ⟨q0, q1, q2, q3, q4, q5⟩ := blk_cells5 (unhide M).1) | (with_reducible have M := hide (newblk bx); clear bx; obtain ⟨q0, q1, q2, q3, q4, q5⟩ := blk_cells5 (unhide M).1) | (with_reducible have M := hide (keptblk bx (by assumption)); clear bx; obtain ⟨q0, q1, q2, q3, q4, q5⟩ := blk_cells5 (unhide M).1) | clear bx))
        | (go_at_call 111; with_reducible refine (wgone_any ai ni ci xs af nf cf fs id dv ⟨#[]⟩ h0 e h hch _ hni hnf ?_ ?_).mono ?_; exact (unhide R_x).later (kb1 (by assumption)); exact (unhide R_f).later (kb1 (by assumption)); rintro e u2 ⟨rfl, bx⟩; have hS1 := hide (keepST bx (by assumption)); obtain ⟨hw1, hz0, -⟩ := unhide hS1; have hwz := hw1.size; clear hw1; (first | (with_reducible have M := hide (newblkD bx); clear bx; obtain ⟨q0, q1, q2, q3, q4, q5⟩ := blk_cells5 (unhide M).1) | (with_reducible have M := hide (newblk bx); clear bx; obtain ⟨q0, q1, q2, q3, q4, q5⟩ := blk_cells5 (unhide M).1) | (with_reducible have M := hide (keptblk bx (by assumption)); clear bx; obtain ⟨q0, q1, q2, q3, q4, q5⟩ := blk_cells5 (unhide M).1) | clear bx)))
    all_goals
      rename_i hS
      go_wp2_with fail
      go_meet
      first
        | with_reducible exact ⟨_, rfl, rfl, hS.1, blk_set5 (unhide M).1 _ _ _ _ _⟩
        | with_reducible exact ⟨_, rfl, rfl, hS.1, heap_alloc_new _ _⟩
  case rest =>
    obtain ⟨ge, rfl, rfl, cwc, hblk⟩ := hcut
    have zwc := cwc.size
    have K_e9 := hide (And.intro hblk (Array.getElem?_eq_some_iff.1 hblk).1)
    clear hblk HT nw
    have K_w := hide (keptblk cwc K_w)
    have K_r := hide (keptblk cwc K_r)
    have R_x := hide ((unhide R_x).later cwc)
    have R_f := hide ((unhide R_f).later cwc)
    have BL := hide ((unhide BL).trans (cwc.mono (unhide BL).size))
    clear cwc
    obtain ⟨w_0, w_1, w_2, w_3, -⟩ := blk_cells4 (unhide K_w).1
    have n_w := (unhide K_w).2
    obtain ⟨r_0, r_1, r_z⟩ := blk_cells2 (unhide K_r).1
    have n_r := (unhide K_r).2
    have K_e := K_e9
    clear K_e9
    obtain ⟨e_0, e_1, e_2, e_3, e_4, e_z⟩ := blk_cells5 (unhide K_e).1
    have n_e := (unhide K_e).2
    rcases Bool.eq_false_or_eq_true (h != 0) with hh | hh
    · have hne : h ≠ 0 := by simpa using hh
      obtain ⟨hL, hC⟩ := say_no (unhide h0) (unhide hch) hne
      obtain rfl : n = 0 := by rw [← unhide HN, hL]; rfl
      obtain rfl : c = h := by rw [← unhide HC]; exact hC
      clear hne
      go_wp2
      obtain ⟨p0, p1, -⟩ := blk_cells2 (blk_set2 (unhide K_r).1 (.slice none 0 0) (.slice none 0 0))
      exact bodyPost_ret (v := .tuple #[.agg #[.slice none 0 0, .slice none 0 0], .int .i64 c]) (by simp [results, Tryz.results39, go_sem, p0, p1]) rfl ⟨_, _, rfl, by rw [hL]; exact own_nil _ _, below_res (unhide BL) (by omega) _ _⟩
    obtain rfl : h = 0 := by simpa using hh
    obtain ⟨ho1, ho2⟩ := chg_one (by omega) (unhide h0) (unhide hch)
    have HO := hide ho1
    clear ho1
    go_wp2_with fail
    refine (isingle_any id e (by omega) true HO 1 (hide rfl) _).mono ?_
    rintro e w2 ⟨a1, c1, rfl, o1, b2⟩
    clear e_0 e_1 e_2 e_3 e_4 e_z n_e r_0 r_1 r_z n_r w_0 w_1 w_2 w_3 n_w
    have cw2 := b2
    have zw2 := cw2.size
    have K_w := hide (keptblk cw2 K_w)
    have K_r := hide (keptblk cw2 K_r)
    have K_e := hide (keptblk cw2 K_e)
    have R_x := hide ((unhide R_x).later cw2)
    have R_f := hide ((unhide R_f).later cw2)
    have BL := hide ((unhide BL).trans (cw2.mono (unhide BL).size))
    have R_oS1 := hide (o1)
    have L_oS1 := hide (World.ownsRow.lt (unhide R_oS1))
    clear b2 cw2
    obtain ⟨w_0, w_1, w_2, w_3, -⟩ := blk_cells4 (unhide K_w).1
    have n_w := (unhide K_w).2
    obtain ⟨r_0, r_1, r_z⟩ := blk_cells2 (unhide K_r).1
    have n_r := (unhide K_r).2
    obtain ⟨e_0, e_1, e_2, e_3, e_4, e_z⟩ := blk_cells5 (unhide K_e).1
    have n_e := (unhide K_e).2
    clear o1
    obtain ⟨hL, hC⟩ := say_ok (unhide h0) (unhide hch)
    obtain rfl : n = 1 := by rw [← unhide HN, hL]; rfl
    obtain rfl : c = 0 := by rw [← unhide HC]; exact hC
    go_wp2
    obtain ⟨p0, p1, -⟩ := blk_cells2 (blk_al (blk_set2 (unhide K_r).1 (.slice a1 1 c1) (.slice none 0 0)) (.cells #[.slice a1 1 c1, .slice none 0 0] 27))
    exact bodyPost_ret (v := .tuple #[.agg #[.slice a1 1 c1, .slice none 0 0], .int .i64 0]) (by simp [results, Tryz.results39, go_sem, p0, p1]) rfl ⟨_, _, rfl, by rw [hL]; exact ow_al (ow_res (Ow.base (unhide R_oS1) (by first | omega | (simp; omega))) (unhide K_r).1 _ _) _, below_al (below_res (unhide BL) (by omega) _ _) (by simp; omega) _⟩

set_option maxHeartbeats 4000000 in
set_option maxRecDepth 100000 in
theorem isay0_any (ai : Option Addr) (ni ci : Nat) (xs : List Itm) (af : Option Addr) (nf cf : Nat) (fs : List Flr) (id : Int) (n : Nat) (HN : Hid ((sayL 0 ⟨#[]⟩ xs fs id).length = n)) (c : Int) (HC : Hid (sayC 0 ⟨#[]⟩ xs fs id = c)) (w : World) (hni : ni ≤ 140737488351232) (hnf : nf ≤ 140737488351232) (hx : Rw encI 6 w (.slice ai ni ci) xs) (hf : Rw encF 2 w (.slice af nf cf) fs) :
    Calls Tryz.prog 9 #[.agg #[.slice ai ni ci, .slice af nf cf], .int .i64 id] w fun e w' => ∃ a q, e = .returned (.tuple #[.agg #[.slice a n q, .slice none 0 0], .int .i64 c]) ∧ OwI w.heap.size w' (.slice a n q) (sayL 0 ⟨#[]⟩ xs fs id) ∧ Below w.heap.size w w' := by
  have R_x := hide hx
  have R_f := hide hf
  clear hx hf
  go_enter Tryz.func9, Tryz.ntmps9
  go_wp2_with fail
  refine (tell0_any ai ni ci xs af nf cf fs id ⟨#[]⟩ n HN c HC _ hni hnf (((unhide R_x).alloc _).alloc _) (((unhide R_f).alloc _).alloc _)).mono ?_
  rintro e w1 ⟨a1, c1, rfl, o1, b1⟩
  have cw1 := (((Below.refl w.heap.size w).alloc (Nat.le_refl _) _).alloc (by simp <;> omega) _).trans (b1.mono (by simp <;> omega))
  have zw1 := cw1.size
  have K_s : Hid (w1.heap[w.heap.size]? = some (.cells #[.slice ai ni ci, .slice af nf cf] 27 (0, 0)) ∧ w.heap.size < w1.heap.size) := hide ⟨(b1.block _ (by simp <;> omega)).trans (lowB2 w _ _), by have := b1.size; simp at this; omega⟩
  have y_s := (unhide K_s).2
  have K_r : Hid (w1.heap[w.heap.size + 1]? = some (.cells #[.slice none 0 0, .slice none 0 0] 27 (0, 0)) ∧ w.heap.size + 1 < w1.heap.size) := hide ⟨(b1.block _ (by simp <;> omega)).trans (newB2 w _ _), by have := b1.size; simp at this; omega⟩
  have y_r := (unhide K_r).2
  have R_x := hide ((unhide R_x).later cw1)
  have R_f := hide ((unhide R_f).later cw1)
  have BL := hide cw1
  have R_oS1 := hide (o1)
  have L_oS1 := hide (World.ownsRow.lt (unhide R_oS1))
  clear b1 cw1
  obtain ⟨s_0, s_1, -⟩ := blk_cells2 (unhide K_s).1
  have n_s := (unhide K_s).2
  obtain ⟨r_0, r_1, r_z⟩ := blk_cells2 (unhide K_r).1
  have n_r := (unhide K_r).2
  clear o1
  go_wp2
  obtain ⟨p0, p1, -⟩ := blk_cells2 (blk_set2 (unhide K_r).1 (.slice a1 n c1) (.slice none 0 0))
  exact bodyPost_ret (v := .tuple #[.agg #[.slice a1 n c1, .slice none 0 0], .int .i64 c]) (by simp [results, Tryz.results9, go_sem, p0, p1]) rfl ⟨_, _, rfl, ow_res (Ow.base (unhide R_oS1) (by first | omega | (simp; omega))) (unhide K_r).1 _ _, below_res (unhide BL) (by omega) _ _⟩
set_option maxHeartbeats 4000000 in
set_option maxRecDepth 100000 in
theorem isay1_any (ai : Option Addr) (ni ci : Nat) (xs : List Itm) (af : Option Addr) (nf cf : Nat) (fs : List Flr) (id : Int) (n : Nat) (HN : Hid ((sayL 1 ⟨#[]⟩ xs fs id).length = n)) (c : Int) (HC : Hid (sayC 1 ⟨#[]⟩ xs fs id = c)) (w : World) (hni : ni ≤ 140737488351232) (hnf : nf ≤ 140737488351232) (hx : Rw encI 6 w (.slice ai ni ci) xs) (hf : Rw encF 2 w (.slice af nf cf) fs) :
    Calls Tryz.prog 11 #[.agg #[.slice ai ni ci, .slice af nf cf], .int .i64 id] w fun e w' => ∃ a q, e = .returned (.tuple #[.agg #[.slice a n q, .slice none 0 0], .int .i64 c]) ∧ OwI w.heap.size w' (.slice a n q) (sayL 1 ⟨#[]⟩ xs fs id) ∧ Below w.heap.size w w' := by
  have R_x := hide hx
  have R_f := hide hf
  clear hx hf
  go_enter Tryz.func11, Tryz.ntmps11
  go_wp2_with fail
  refine (tell1_any ai ni ci xs af nf cf fs id ⟨#[]⟩ n HN c HC _ hni hnf (((unhide R_x).alloc _).alloc _) (((unhide R_f).alloc _).alloc _)).mono ?_
  rintro e w1 ⟨a1, c1, rfl, o1, b1⟩
  have cw1 := (((Below.refl w.heap.size w).alloc (Nat.le_refl _) _).alloc (by simp <;> omega) _).trans (b1.mono (by simp <;> omega))
  have zw1 := cw1.size
  have K_s : Hid (w1.heap[w.heap.size]? = some (.cells #[.slice ai ni ci, .slice af nf cf] 27 (0, 0)) ∧ w.heap.size < w1.heap.size) := hide ⟨(b1.block _ (by simp <;> omega)).trans (lowB2 w _ _), by have := b1.size; simp at this; omega⟩
  have y_s := (unhide K_s).2
  have K_r : Hid (w1.heap[w.heap.size + 1]? = some (.cells #[.slice none 0 0, .slice none 0 0] 27 (0, 0)) ∧ w.heap.size + 1 < w1.heap.size) := hide ⟨(b1.block _ (by simp <;> omega)).trans (newB2 w _ _), by have := b1.size; simp at this; omega⟩
  have y_r := (unhide K_r).2
  have R_x := hide ((unhide R_x).later cw1)
  have R_f := hide ((unhide R_f).later cw1)
  have BL := hide cw1
  have R_oS1 := hide (o1)
  have L_oS1 := hide (World.ownsRow.lt (unhide R_oS1))
  clear b1 cw1
  obtain ⟨s_0, s_1, -⟩ := blk_cells2 (unhide K_s).1
  have n_s := (unhide K_s).2
  obtain ⟨r_0, r_1, r_z⟩ := blk_cells2 (unhide K_r).1
  have n_r := (unhide K_r).2
  clear o1
  go_wp2
  obtain ⟨p0, p1, -⟩ := blk_cells2 (blk_set2 (unhide K_r).1 (.slice a1 n c1) (.slice none 0 0))
  exact bodyPost_ret (v := .tuple #[.agg #[.slice a1 n c1, .slice none 0 0], .int .i64 c]) (by simp [results, Tryz.results11, go_sem, p0, p1]) rfl ⟨_, _, rfl, ow_res (Ow.base (unhide R_oS1) (by first | omega | (simp; omega))) (unhide K_r).1 _ _, below_res (unhide BL) (by omega) _ _⟩
set_option maxHeartbeats 4000000 in
set_option maxRecDepth 100000 in
theorem isay2_any (ai : Option Addr) (ni ci : Nat) (xs : List Itm) (af : Option Addr) (nf cf : Nat) (fs : List Flr) (id : Int) (dt : ByteArray) (n : Nat) (HN : Hid ((sayL 2 dt xs fs id).length = n)) (c : Int) (HC : Hid (sayC 2 dt xs fs id = c)) (w : World) (hni : ni ≤ 140737488351232) (hnf : nf ≤ 140737488351232) (hx : Rw encI 6 w (.slice ai ni ci) xs) (hf : Rw encF 2 w (.slice af nf cf) fs) :
    Calls Tryz.prog 13 #[.agg #[.slice ai ni ci, .slice af nf cf], .int .i64 id, .string dt] w fun e w' => ∃ a q, e = .returned (.tuple #[.agg #[.slice a n q, .slice none 0 0], .int .i64 c]) ∧ OwI w.heap.size w' (.slice a n q) (sayL 2 dt xs fs id) ∧ Below w.heap.size w w' := by
  have R_x := hide hx
  have R_f := hide hf
  clear hx hf
  go_enter Tryz.func13, Tryz.ntmps13
  go_wp2_with fail
  refine (tell2_any ai ni ci xs af nf cf fs id dt n HN c HC _ hni hnf (((unhide R_x).alloc _).alloc _) (((unhide R_f).alloc _).alloc _)).mono ?_
  rintro e w1 ⟨a1, c1, rfl, o1, b1⟩
  have cw1 := (((Below.refl w.heap.size w).alloc (Nat.le_refl _) _).alloc (by simp <;> omega) _).trans (b1.mono (by simp <;> omega))
  have zw1 := cw1.size
  have K_s : Hid (w1.heap[w.heap.size]? = some (.cells #[.slice ai ni ci, .slice af nf cf] 27 (0, 0)) ∧ w.heap.size < w1.heap.size) := hide ⟨(b1.block _ (by simp <;> omega)).trans (lowB2 w _ _), by have := b1.size; simp at this; omega⟩
  have y_s := (unhide K_s).2
  have K_r : Hid (w1.heap[w.heap.size + 1]? = some (.cells #[.slice none 0 0, .slice none 0 0] 27 (0, 0)) ∧ w.heap.size + 1 < w1.heap.size) := hide ⟨(b1.block _ (by simp <;> omega)).trans (newB2 w _ _), by have := b1.size; simp at this; omega⟩
  have y_r := (unhide K_r).2
  have R_x := hide ((unhide R_x).later cw1)
  have R_f := hide ((unhide R_f).later cw1)
  have BL := hide cw1
  have R_oS1 := hide (o1)
  have L_oS1 := hide (World.ownsRow.lt (unhide R_oS1))
  clear b1 cw1
  obtain ⟨s_0, s_1, -⟩ := blk_cells2 (unhide K_s).1
  have n_s := (unhide K_s).2
  obtain ⟨r_0, r_1, r_z⟩ := blk_cells2 (unhide K_r).1
  have n_r := (unhide K_r).2
  clear o1
  go_wp2
  obtain ⟨p0, p1, -⟩ := blk_cells2 (blk_set2 (unhide K_r).1 (.slice a1 n c1) (.slice none 0 0))
  exact bodyPost_ret (v := .tuple #[.agg #[.slice a1 n c1, .slice none 0 0], .int .i64 c]) (by simp [results, Tryz.results13, go_sem, p0, p1]) rfl ⟨_, _, rfl, ow_res (Ow.base (unhide R_oS1) (by first | omega | (simp; omega))) (unhide K_r).1 _ _, below_res (unhide BL) (by omega) _ _⟩
set_option maxHeartbeats 4000000 in
set_option maxRecDepth 100000 in
theorem isay3_any (ai : Option Addr) (ni ci : Nat) (xs : List Itm) (af : Option Addr) (nf cf : Nat) (fs : List Flr) (id : Int) (n : Nat) (HN : Hid ((sayL 3 ⟨#[]⟩ xs fs id).length = n)) (c : Int) (HC : Hid (sayC 3 ⟨#[]⟩ xs fs id = c)) (w : World) (hni : ni ≤ 140737488351232) (hnf : nf ≤ 140737488351232) (hx : Rw encI 6 w (.slice ai ni ci) xs) (hf : Rw encF 2 w (.slice af nf cf) fs) :
    Calls Tryz.prog 15 #[.agg #[.slice ai ni ci, .slice af nf cf], .int .i64 id] w fun e w' => ∃ a q, e = .returned (.tuple #[.agg #[.slice a n q, .slice none 0 0], .int .i64 c]) ∧ OwI w.heap.size w' (.slice a n q) (sayL 3 ⟨#[]⟩ xs fs id) ∧ Below w.heap.size w w' := by
  have R_x := hide hx
  have R_f := hide hf
  clear hx hf
  go_enter Tryz.func15, Tryz.ntmps15
  go_wp2_with fail
  refine (tell3_any ai ni ci xs af nf cf fs id ⟨#[]⟩ n HN c HC _ hni hnf (((unhide R_x).alloc _).alloc _) (((unhide R_f).alloc _).alloc _)).mono ?_
  rintro e w1 ⟨a1, c1, rfl, o1, b1⟩
  have cw1 := (((Below.refl w.heap.size w).alloc (Nat.le_refl _) _).alloc (by simp <;> omega) _).trans (b1.mono (by simp <;> omega))
  have zw1 := cw1.size
  have K_s : Hid (w1.heap[w.heap.size]? = some (.cells #[.slice ai ni ci, .slice af nf cf] 27 (0, 0)) ∧ w.heap.size < w1.heap.size) := hide ⟨(b1.block _ (by simp <;> omega)).trans (lowB2 w _ _), by have := b1.size; simp at this; omega⟩
  have y_s := (unhide K_s).2
  have K_r : Hid (w1.heap[w.heap.size + 1]? = some (.cells #[.slice none 0 0, .slice none 0 0] 27 (0, 0)) ∧ w.heap.size + 1 < w1.heap.size) := hide ⟨(b1.block _ (by simp <;> omega)).trans (newB2 w _ _), by have := b1.size; simp at this; omega⟩
  have y_r := (unhide K_r).2
  have R_x := hide ((unhide R_x).later cw1)
  have R_f := hide ((unhide R_f).later cw1)
  have BL := hide cw1
  have R_oS1 := hide (o1)
  have L_oS1 := hide (World.ownsRow.lt (unhide R_oS1))
  clear b1 cw1
  obtain ⟨s_0, s_1, -⟩ := blk_cells2 (unhide K_s).1
  have n_s := (unhide K_s).2
  obtain ⟨r_0, r_1, r_z⟩ := blk_cells2 (unhide K_r).1
  have n_r := (unhide K_r).2
  clear o1
  go_wp2
  obtain ⟨p0, p1, -⟩ := blk_cells2 (blk_set2 (unhide K_r).1 (.slice a1 n c1) (.slice none 0 0))
  exact bodyPost_ret (v := .tuple #[.agg #[.slice a1 n c1, .slice none 0 0], .int .i64 c]) (by simp [results, Tryz.results15, go_sem, p0, p1]) rfl ⟨_, _, rfl, ow_res (Ow.base (unhide R_oS1) (by first | omega | (simp; omega))) (unhide K_r).1 _ _, below_res (unhide BL) (by omega) _ _⟩
end Go.Proofs.YtdpaocikmijioabGreat
