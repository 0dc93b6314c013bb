/-
  What comes of pruning: nothing that is seen turns; pruned again it is the same; pruned ahead of being joined or behind. No statement is proved here.
-/
import Derived.Test.YtighiahppjekeaaGreatDoorMkQ
namespace Go.Proofs.YtighiahppjekeaaGreatDoor
open Go.RowKit

variable {xs ys : List Itm} {fs gs : List Flr}
theorem prI_ok (hx : OkS xs fs) (t : Tb) : prI xs fs t = joinI xs fs [] (pf xs fs t) := by
  rw [prI, if_pos ((okS_iff _ _).2 hx)]
theorem prF_ok (hx : OkS xs fs) (t : Tb) : prF xs fs t = joinF fs (pf xs fs t) := by
  rw [prF, if_pos ((okS_iff _ _).2 hx)]
theorem OkS.pruned (hx : OkS xs fs) (t : Tb) : OkS (prI xs fs t) (prF xs fs t) := by
  rw [prI_ok hx, prF_ok hx]
  exact hx.join (pf_ok xs fs t)
theorem pr_gone (hx : OkS xs fs) (t : Tb) (id : Int) : gone (prI xs fs t) (prF xs fs t) id = gone xs fs id := by
  rw [prI_ok hx, prF_ok hx]
  exact hx.under (pf_ok xs fs t) (pf_under xs fs t) id
theorem pr_up (hx : OkS xs fs) (t : Tb) : upI (prI xs fs t) = upI xs := by
  rw [prI_ok hx]
  exact hx.under_up (pf_ok xs fs t) (pf_under xs fs t)
theorem pr_vw (hx : OkS xs fs) (t : Tb) : vw (prI xs fs t) (prF xs fs t) = vw xs fs := by
  rw [vw, vw, if_pos ((okS_iff _ _).2 hx), if_pos ((okS_iff _ _).2 (by rw [prI_ok hx, prF_ok hx]; exact hx.join (pf_ok xs fs t))), pr_up hx t]
theorem pr_leq (hx : OkS xs fs) (t : Tb) : leqS xs fs (prI xs fs t) (prF xs fs t) = true := by
  rw [prI_ok hx, prF_ok hx]
  exact hx.leq_join (pf_ok xs fs t)
theorem pf_same {t : Tb} (h : ∀ id, gone xs fs id = gone ys gs id) : pf xs fs t = pf ys gs t := by
  have e : (fun id => min (com t id) (gone xs fs id)) = (fun id => min (com t id) (gone ys gs id)) := funext fun id => by rw [h]
  unfold pf
  rw [e]
/-- Pruned again it is the same. -/
theorem pr_again (hx : OkS xs fs) (t : Tb) : prI (prI xs fs t) (prF xs fs t) t = prI xs fs t ∧ prF (prI xs fs t) (prF xs fs t) t = prF xs fs t := by
  have hp := hx.pruned t
  rw [prI_ok hp, prF_ok hp, pf_same (fun id => pr_gone hx t id), prI_ok hx, prF_ok hx]
  exact hx.again (pf_ok xs fs t)
theorem gone_in (hx : OkS xs fs) {id : Int} (h : 0 < gone xs fs id) : 0 ≤ id ∧ id < 5 := by
  rw [gone_ok hx] at h
  cases he : ent xs id with
  | none =>
    rw [he] at h
    have := hx.flo_in h
    omega
  | some e =>
    have := hx.ent_in he
    omega
theorem pr_flo (hx : OkS xs fs) (t : Tb) (id : Int) : flo (prF xs fs t) id = max (flo fs id) (flo (pf xs fs t) id) := by
  rw [prF_ok hx, join_flo hx (pf_ok xs fs t), (hx.fl2_nn (pf_ok xs fs t) id).2.2]
/-- What is pruned is known by all. -/
theorem pr_known (hx : OkS xs fs) (t : Tb) (id : Int) : ¬ (flo fs id < flo (prF xs fs t) id ∧ com t id < flo (prF xs fs t) id) := by
  rw [pr_flo hx, pf_flo]
  have := hx.flo_nn id
  split <;> omega
/-- Of whom all know that it has gone there is no entry. -/
theorem pr_left (hx : OkS xs fs) (t : Tb) {id : Int} {e : Key} (h : ent (prI xs fs t) id = some e) (hr : e.2.1 = 1) : com t id < e.1 := by
  have hp := pf_ok xs fs t
  have hj := hx.pruned t
  have hi := hj.ent_in h
  have hn := hx.flo_nn id
  rw [prI_ok hx, join_ent' hx hp, ent_nil, jE_none] at h
  have hg := gone_ok hx id
  cases he : ent xs id with
  | none => rw [he] at h; cases h
  | some k =>
    rw [he] at h hg
    simp only [keep] at h
    split at h
    · cases h
      rename_i hlt
      simp only [hr] at hg
      rw [if_neg (by omega)] at hg
      rw [(hx.fl2_nn hp id).2.2, pf_flo] at hlt
      have hk := hx.ent_in he
      have h1 := okE_inc hk.2.2.1
      by_cases hc : com t id < e.1
      · exact hc
      · exfalso
        rw [if_pos ⟨hk.1, by omega, by omega⟩] at hlt
        omega
    · cases h
theorem prI_len6 {xs : List Itm} (h : xs.length ≤ 6) {fs : List Flr} (t : Tb) : (prI xs fs t).length ≤ 6 := by
  unfold prI
  split
  · rename_i hk
    have := ((((okS_iff _ _).1 hk).join (pf_ok xs fs t)).len5).1
    omega
  · exact h
theorem prF_len6 {fs : List Flr} (h : fs.length ≤ 6) {xs : List Itm} (t : Tb) : (prF xs fs t).length ≤ 6 := by
  unfold prF
  split
  · rename_i hk
    have := ((((okS_iff _ _).1 hk).join (pf_ok xs fs t)).len5).2
    omega
  · exact h
/-- Floors that are the greater of two. -/
theorem pr_order (hx : OkS xs fs) (hy : OkS ys gs) {t : Tb} (hc : ∀ id, 0 ≤ id → id < 5 → com t id = max (gone xs fs id) (gone ys gs id)) :
    joinI (prI xs fs t) (prF xs fs t) (prI ys gs t) (prF ys gs t) = prI (joinI xs fs ys gs) (joinF fs gs) t ∧ joinF (prF xs fs t) (prF ys gs t) = prF (joinI xs fs ys gs) (joinF fs gs) t := by
  have hj := hx.join hy
  have pX := pf_ok xs fs t
  have pY := pf_ok ys gs t
  have pJ := pf_ok (joinI xs fs ys gs) (joinF fs gs) t
  have fX : ∀ id, flo (pf xs fs t) id = gone xs fs id := fun id => by
    rw [pf_flo]
    have h0 := gone_le xs fs id
    by_cases hp : 0 < gone xs fs id
    · have hi := gone_in hx hp
      rw [hc id hi.1 hi.2, if_pos ⟨hi.1, hi.2, by omega⟩]; omega
    · rw [if_neg (by omega)]; omega
  have fY : ∀ id, flo (pf ys gs t) id = gone ys gs id := fun id => by
    rw [pf_flo]
    have h0 := gone_le ys gs id
    by_cases hp : 0 < gone ys gs id
    · have hi := gone_in hy hp
      rw [hc id hi.1 hi.2, if_pos ⟨hi.1, hi.2, by omega⟩]; omega
    · rw [if_neg (by omega)]; omega
  have g1 : ∀ id, gone xs fs id ≤ gone (joinI xs fs ys gs) (joinF fs gs) id := fun id => (hx.over hy id).1
  have g2 : ∀ id, gone ys gs id ≤ gone (joinI xs fs ys gs) (joinF fs gs) id := fun id => by
    have h := (hy.over hx id).1
    have c := hx.comm hy
    rw [← c.1, ← c.2] at h
    exact h
  have fJ : ∀ id, flo (pf (joinI xs fs ys gs) (joinF fs gs) t) id = max (gone xs fs id) (gone ys gs id) := fun id => by
    rw [pf_flo]
    have h0 := gone_le xs fs id
    have h1 := gone_le ys gs id
    have h2 := g1 id
    have h3 := g2 id
    by_cases hp : 0 < max (gone xs fs id) (gone ys gs id)
    · have hi : 0 ≤ id ∧ id < 5 := by
        by_cases hq : 0 < gone xs fs id
        · exact gone_in hx hq
        · exact gone_in hy (by omega)
      rw [hc id hi.1 hi.2, if_pos ⟨hi.1, hi.2, by omega⟩]; omega
    · by_cases hi : 0 ≤ id ∧ id < 5
      · rw [hc id hi.1 hi.2, if_neg (by omega)]; omega
      · rw [if_neg (by omega)]; omega
  have qX := hx.pruned t
  have qY := hy.pruned t
  have qJ := hj.pruned t
  have m1 : ∀ id, fl2 (prF xs fs t) (prF ys gs t) id = max (max (flo fs id) (flo gs id)) (max (gone xs fs id) (gone ys gs id)) := fun id => by
    rw [(qX.fl2_nn qY id).2.2, pr_flo hx, pr_flo hy, fX, fY]; omega
  have m2 : ∀ id, fl2 (joinF fs gs) (pf (joinI xs fs ys gs) (joinF fs gs) t) id = max (max (flo fs id) (flo gs id)) (max (gone xs fs id) (gone ys gs id)) := fun id => by
    rw [(hj.fl2_nn pJ id).2.2, join_flo hx hy, (hx.fl2_nn hy id).2.2, fJ]
  refine OkS.ext (qX.join qY) qJ (fun id => ?_) (fun id => ?_)
  · rw [join_ent' qX qY, m1, prI_ok hj, join_ent' hj pJ, m2, ent_nil, jE_none, join_ent' hx hy, prI_ok hx, prI_ok hy, join_ent' hx pX, join_ent' hy pY, ent_nil, jE_none, jE_none]
    rw [keep_jE (by rw [(hx.fl2_nn pX id).2.2, fX]; omega), jE_comm (ent xs id) (keep _ _), keep_jE (by rw [(hy.fl2_nn pY id).2.2, fY]; omega), jE_comm (ent ys id)]
    rw [← jE_none (keep (fl2 fs gs id) (jE (ent xs id) (ent ys id))), keep_jE (by rw [(hx.fl2_nn hy id).2.2]; omega), jE_none]
  · rw [join_flo qX qY, m1, prF_ok hj, join_flo hj pJ, m2]
/-- The table of FnPruneOrder: one row has heard of both, the other one of both joined. -/
theorem com_order (hx : OkS xs fs) (hy : OkS ys gs) {r q : List Int} (hr : r.length = 5) (hq : q.length = 5) (h1 : ∀ i : Nat, i < 5 → nAt r i = max (gone xs fs (i : Int)) (gone ys gs (i : Int)))
    (h2 : ∀ i : Nat, i < 5 → nAt q i = gone (joinI xs fs ys gs) (joinF fs gs) (i : Int)) (id : Int) (h3 : 0 ≤ id) (h4 : id < 5) : com [r, q] id = max (gone xs fs id) (gone ys gs id) := by
  obtain ⟨i, rfl⟩ := Int.eq_ofNat_of_zero_le h3
  rw [com_two (by omega) (by omega), h1 i (by omega), h2 i (by omega)]
  have g1 := (hx.over hy (i : Int)).1
  have g2 := (hy.over hx (i : Int)).1
  have c := hx.comm hy
  rw [← c.1, ← c.2] at g2
  omega
end Go.Proofs.YtighiahppjekeaaGreatDoor
