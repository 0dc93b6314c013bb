/-
  A state and a message that are read: as functions on lists; what is read whole and right is the state, the message, of these bytes, else there is none. No program here, no statement is proved here.
-/
import Derived.Test.YtbajnnpihjmjmabRdP
namespace Go.Proofs.Ytbajnnpihjmjmab
open Go.RowKit

def riF (xs : List Int) : Cu → Flr × Cu := riP (riN xs) (riN xs)
def riE (xs : List Int) (c : Cu) : Key × Cu :=
  (((riN xs c).1, (riN xs (riN xs c).2).1, (riN xs (riN xs (riN xs c).2).2).1, (riN xs (riN xs (riN xs (riN xs c).2).2).2).1, strOfNums (riT xs (riN xs (riN xs (riN xs (riN xs c).2).2).2).2).1),
    (riT xs (riN xs (riN xs (riN xs (riN xs c).2).2).2).2).2)
def riI (xs : List Int) : Cu → Itm × Cu := riP (riN xs) (riE xs)
def riS (xs : List Int) : Cu → (List Itm × List Flr) × Cu := riP (lsR xs 5 (riI xs)) (lsR xs 5 (riF xs))
noncomputable def riPt (xs : List Int) (c : Cu) : (List Itm × List Flr) × Cu :=
  ((sof (riT xs c).1).getD ([], []), ((riT xs c).2.1, (riT xs c).2.2 || !(sof (riT xs c).1).isSome))
section
variable {xs : List Int} (hbd : ∀ z ∈ xs, 0 ≤ z ∧ z ≤ 255)
include hbd
theorem reads_flr : Reads xs (riF xs) sbF RngF := by
  have h := (reads_num hbd).pair (reads_num hbd)
  refine ⟨h.win, fun c hw e => ?_, fun p q v hv ht => ?_⟩
  · obtain ⟨a, b, d⟩ := h.snd c hw e
    refine ⟨a, b, ?_⟩
    rw [sbF, nums_cons, nums_one]
    exact d
  · rw [sbF, nums_cons, nums_one] at ht
    exact h.cpl p q v hv ht
/-- The bytes of an entry. -/
theorem reads_ent : Reads xs (riE xs) (fun e => nums [e.1, e.2.1, e.2.2.1, e.2.2.2.1] ++ putT (bl e.2.2.2.2)) (fun e => Rng e.1 ∧ Rng e.2.1 ∧ Rng e.2.2.1 ∧ Rng e.2.2.2.1 ∧ e.2.2.2.2.size ≤ 2147483647) := by
  have hN := reads_num hbd
  have h := hN.pair (hN.pair (hN.pair (hN.pair (reads_text hbd))))
  have k := h.map (fun v => ((v.1, v.2.1, v.2.2.1, v.2.2.2.1, strOfNums v.2.2.2.2) : Key)) (fun e => nums [e.1, e.2.1, e.2.2.1, e.2.2.2.1] ++ putT (bl e.2.2.2.2)) (fun e => Rng e.1 ∧ Rng e.2.1 ∧ Rng e.2.2.1 ∧ Rng e.2.2.2.1 ∧ e.2.2.2.2.size ≤ 2147483647)
    (fun v hv => by
      obtain ⟨a, b, c, d, l⟩ := v
      obtain ⟨h1, h2, h3, h4, h5, h6⟩ := hv
      simp only at h1 h2 h3 h4 h5 h6 ⊢
      rw [bl_str _ h6]
      refine ⟨by simp [nums], h1, h2, h3, h4, ?_⟩
      have := bl_length (strOfNums l)
      rw [bl_str _ h6] at this
      omega)
    (fun e he => by
      obtain ⟨a, b, c, d, s⟩ := e
      obtain ⟨h1, h2, h3, h4, h5⟩ := he
      exact ⟨(a, b, c, d, bl s), ⟨h1, h2, h3, h4, by rw [bl_length]; exact h5, bl_bytes s⟩, by simp only [str_bl]⟩)
  exact k
theorem reads_itm : Reads xs (riI xs) sbI RngI := by
  have h := (reads_num hbd).pair (reads_ent hbd)
  have e1 : ∀ v : Itm, putN v.1 ++ (nums [v.2.1, v.2.2.1, v.2.2.2.1, v.2.2.2.2.1] ++ putT (bl v.2.2.2.2.2)) = sbI v := fun v => by simp [sbI, nums]
  refine ⟨h.win, fun c hw e => ?_, fun p q v hv ht => ?_⟩
  · obtain ⟨a, b, d⟩ := h.snd c hw e
    refine ⟨a, b, ?_⟩
    rw [← e1]
    exact d
  · rw [← e1] at ht
    exact h.cpl p q v hv ht
theorem reads_sta : Reads xs (riS xs) (fun s => sb s.1 s.2) (fun s => (s.1.length ≤ 5 ∧ ∀ x ∈ s.1, RngI x) ∧ (s.2.length ≤ 5 ∧ ∀ f ∈ s.2, RngF f)) := by
  have h := (Reads.lsR hbd (reads_itm hbd) 5 (by omega)).pair (Reads.lsR hbd (reads_flr hbd) 5 (by omega))
  have e1 : ∀ s : List Itm × List Flr, (putN s.1.length ++ s.1.flatMap sbI) ++ (putN s.2.length ++ s.2.flatMap sbF) = sb s.1 s.2 := fun s => by simp only [sb, sbIs, sbFs, List.append_assoc]
  refine ⟨h.win, fun c hw e => ?_, fun p q v hv ht => ?_⟩
  · obtain ⟨a, b, d⟩ := h.snd c hw e
    refine ⟨a, b, ?_⟩
    rw [← e1]
    exact d
  · rw [← e1] at ht
    exact h.cpl p q v hv ht
theorem reads_part : Reads xs (riPt xs) (fun s => putT (sb s.1 s.2)) (fun s => OkS s.1 s.2) := by
  have h := reads_text hbd
  refine ⟨fun c hw => h.win c hw, fun c hw e => ?_, fun p q v hv ht => ?_⟩
  · simp only [riPt, Bool.or_eq_false_iff, Bool.not_eq_false'] at e
    obtain ⟨a, b, d⟩ := h.snd c hw e.1
    obtain ⟨s, hs⟩ := Option.isSome_iff_exists.1 e.2
    have q := sof_is (xs := s.1) (fs := s.2) hs
    refine ⟨a, ?_, ?_⟩
    · simp only [riPt, hs, Option.getD_some]; exact q.1
    · simp only [riPt, hs, Option.getD_some]
      rw [q.2]
      exact d
  · have e := h.cpl p q (sb v.1 v.2) ⟨by have := sb_len hv; omega, fun z hz => sb_bytes _ _ z hz⟩ ht
    have hs := sof_some hv rfl
    unfold riPt
    rw [e]
    simp only
    rw [hs]
    rfl
/-- What is read whole and right is the state of these bytes; else there is none. -/
theorem sof_rd : sof xs = if ((riS xs (0, false)).2.2 = false ∧ (riS xs (0, false)).2.1 = xs.length) ∧ okS (riS xs (0, false)).1.1 (riS xs (0, false)).1.2 = true then some (riS xs (0, false)).1 else none := by
  have h := reads_sta hbd
  split
  · rename_i e
    obtain ⟨a, b, d⟩ := h.snd (0, false) ⟨by simp, by simp⟩ e.1.1
    simp only at d
    rw [e.1.2] at d
    exact sof_some ((okS_iff _ _).1 e.2) d.whole
  · rename_i e
    refine sof_none fun ys gs ho q => e ?_
    have hl := ho.len5
    have k := h.cpl 0 (xs.length : Int) (ys, gs) ⟨⟨hl.1, ho.rng.1⟩, ⟨hl.2, ho.rng.2⟩⟩ (by simp only; rw [q]; exact Took.of_whole)
    rw [k]
    exact ⟨⟨rfl, rfl⟩, (okS_iff _ _).2 ho⟩
end
/-! ### A message -/
/-- The numbers of the head; the tree; lists; the part; the marks: as they stand behind the sign. -/
noncomputable def riM (xs : List Int) (c : Cu) : Mg × Cu :=
  let k := riN xs c; let f := riN xs k.2; let t := riN xs f.2; let n := riN xs t.2; let h := riN xs n.2
  let tl := lsR xs 4 (riN xs) h.2; let tr := riN xs tl.2; let ve := lsR xs 5 (riN xs) tr.2; let le := lsR xs 4 (riN xs) ve.2
  let s := riPt xs le.2; let ma := lsR xs 5 (riF xs) s.2
  (⟨k.1, f.1, t.1, n.1, h.1, tl.1, tr.1, ve.1, le.1, s.1.1, s.1.2, ma.1⟩, ma.2)
/-- What stands behind the sign. -/
def encM (m : Mg) : List Int := nums [m.k, m.f, m.t, m.n, m.h] ++ lsB m.tl ++ putN m.tr ++ lsB m.ve ++ lsB m.le ++ (putN (sb m.its m.fls).length ++ sb m.its m.fls) ++ (putN m.ma.length ++ sbFs m.ma)
theorem bodyM_enc (m : Mg) : bodyM m = [82, 75] ++ encM m := by simp only [bodyM, encM, List.append_assoc]
structure RngM (m : Mg) : Prop where
  k : Rng m.k
  f : Rng m.f
  t : Rng m.t
  n : Rng m.n
  h : Rng m.h
  tl : m.tl.length ≤ 4 ∧ ∀ z ∈ m.tl, Rng z
  tr : Rng m.tr
  ve : m.ve.length ≤ 5 ∧ ∀ z ∈ m.ve, Rng z
  le : m.le.length ≤ 4 ∧ ∀ z ∈ m.le, Rng z
  st : OkS m.its m.fls
  ma : m.ma.length ≤ 5 ∧ ∀ f ∈ m.ma, RngF f
theorem OkM.rng {m : Mg} (h : OkM m) : RngM m := by
  have nr : ∀ {ns : List Int} {most : Nat} {hi : Int}, hi ≤ 2147483647 → nmOk ns most hi = true → ∀ z ∈ ns, Rng z := fun hi h z hz => by
    have := (nmOk_iff.1 h).2 z hz
    exact ⟨by omega, by omega⟩
  exact ⟨inB_rng h.k (by omega) (by omega), inB_rng h.f (by omega) (by omega), inB_rng h.t (by omega) (by omega), inB_rng h.n (by omega) (by omega), inB_rng h.h (by omega) (by omega),
    ⟨trOk_len h.tr, (trOk_rng h.tr).1⟩, (trOk_rng h.tr).2, ⟨(nmOk_iff.1 h.ve).1, nr (by omega) h.ve⟩, ⟨(nmOk_iff.1 h.le).1, nr (by omega) h.le⟩, h.st, ⟨gF_len h.ma, gF_rng h.ma⟩⟩
theorem nums_flat (ns : List Int) : ns.flatMap putN = nums ns := rfl
section
variable {xs : List Int} (hbd : ∀ z ∈ xs, 0 ≤ z ∧ z ≤ 255)
include hbd
theorem reads_msg : Reads xs (riM xs) encM RngM := by
  have hN := reads_num hbd
  have hL4 := Reads.lsR hbd hN 4 (by omega)
  have hL5 := Reads.lsR hbd hN 5 (by omega)
  have hK := Reads.lsR hbd (reads_flr hbd) 5 (by omega)
  have h := hN.pair (hN.pair (hN.pair (hN.pair (hN.pair (hL4.pair (hN.pair (hL5.pair (hL4.pair ((reads_part hbd).pair hK)))))))))
  have k := h.map (fun v => (⟨v.1, v.2.1, v.2.2.1, v.2.2.2.1, v.2.2.2.2.1, v.2.2.2.2.2.1, v.2.2.2.2.2.2.1, v.2.2.2.2.2.2.2.1, v.2.2.2.2.2.2.2.2.1, v.2.2.2.2.2.2.2.2.2.1.1, v.2.2.2.2.2.2.2.2.2.1.2, v.2.2.2.2.2.2.2.2.2.2⟩ : Mg)) encM RngM
    (fun v hv => by
      obtain ⟨a, b, c, d, e, tl, tr, ve, le, s, ma⟩ := v
      obtain ⟨h1, h2, h3, h4, h5, h6, h7, h8, h9, h10, h11⟩ := hv
      refine ⟨?_, ⟨h1, h2, h3, h4, h5, h6, h7, h8, h9, h10, h11⟩⟩
      simp only [encM, lsB, nums_cons, putT, List.append_assoc]
      rfl)
    (fun m hm => ⟨(m.k, m.f, m.t, m.n, m.h, m.tl, m.tr, m.ve, m.le, (m.its, m.fls), m.ma), ⟨hm.k, hm.f, hm.t, hm.n, hm.h, hm.tl, hm.tr, hm.ve, hm.le, hm.st, hm.ma⟩, rfl⟩)
  exact k
end
/-- What stands between the sign and the seal, where both are right. -/
def bdy (b : List Int) : Option (List Int) := if 4 ≤ b.length ∧ b.drop (b.length - 4) = sumB (crcOf (b.take (b.length - 4))) ∧ [82, 75] <+: b.take (b.length - 4) then some ((b.take (b.length - 4)).drop 2) else none
theorem mof_none_of {b : List Int} (h : bdy b = none) : mof b = none := by
  refine mof_none fun m hm e => ?_
  rw [msB, if_pos ((okM_iff m).2 hm)] at e
  have hl : b.length = (bodyM m).length + 4 := by rw [← e, List.length_append, sumB_len]
  have e1 : b.take (b.length - 4) = bodyM m := by rw [hl, Nat.add_sub_cancel, ← e, List.take_left]
  have e2 : b.drop (b.length - 4) = sumB (crcOf (bodyM m)) := by rw [hl, Nat.add_sub_cancel, ← e, List.drop_left]
  unfold bdy at h
  rw [if_pos ⟨by omega, by rw [e1, e2], by rw [e1, bodyM_enc]; exact ⟨_, rfl⟩⟩] at h
  cases h
/-- What is read whole and right is the message of these bytes; else there is none. -/
theorem mof_rd {b xs : List Int} (hbd : ∀ z ∈ b, 0 ≤ z ∧ z ≤ 255) (h : bdy b = some xs) : mof b = if ((riM xs (0, false)).2.2 = false ∧ (riM xs (0, false)).2.1 = xs.length) ∧ okM (riM xs (0, false)).1 = true then some (riM xs (0, false)).1 else none := by
  unfold bdy at h
  split at h
  · rename_i hc
    obtain ⟨h4, hs, t, ht⟩ := hc
    simp only [Option.some.injEq] at h
    rw [← ht] at h
    have hx : t = xs := by simpa using h
    subst hx
    have hbx : ∀ z ∈ t, 0 ≤ z ∧ z ≤ 255 := fun z hz => hbd z (List.mem_of_mem_take (by rw [← ht]; exact List.mem_append_right _ hz))
    have hR := reads_msg hbx
    have hb : b = ([82, 75] ++ t) ++ sumB (crcOf ([82, 75] ++ t)) := by
      conv => lhs; rw [← List.take_append_drop (b.length - 4) b]
      rw [hs, ← ht]
    split
    · rename_i e
      obtain ⟨a, c, d⟩ := hR.snd (0, false) ⟨by simp, by simp⟩ e.1.1
      simp only at d
      rw [e.1.2] at d
      refine mof_some ((okM_iff _).1 e.2) ?_
      rw [msB, if_pos e.2, bodyM_enc, d.whole, ← hb]
    · rename_i e
      refine mof_none fun m hm q => e ?_
      rw [msB, if_pos ((okM_iff m).2 hm), hb] at q
      have q1 := (List.append_inj' q (by rw [sumB_len, sumB_len])).1
      rw [bodyM_enc] at q1
      have q2 := List.append_cancel_left q1
      have k := hR.cpl 0 (t.length : Int) m hm.rng (by rw [q2]; exact Took.of_whole)
      rw [k]
      exact ⟨⟨rfl, rfl⟩, (okM_iff m).2 hm⟩
  · cases h
end Go.Proofs.Ytbajnnpihjmjmab
