/-
  Bytes are of one state, and of one message, alone; what is put is got, in the midst of other bytes. No program here, no statement is proved here.
-/
import Derived.Test.YtbajnnpihjmjmabMsP
import Derived.Test.YtbajnnpihjmjmabRoundP
namespace Go.Proofs.Ytbajnnpihjmjmab
open Go.RowKit

def Rng (n : Int) : Prop := 0 ≤ n ∧ n ≤ 2147483647
theorem getN_at {b pre post : List Int} {n : Int} (h : b = pre ++ (putN n ++ post)) (hn : Rng n) : getN b pre.length = some (n, ((pre ++ putN n).length : Int)) := by
  rw [h, ← List.append_assoc, getN_put pre post n hn.1 hn.2, List.length_append]
  simp
theorem getT_mid {b pre post l : List Int} (h : b = pre ++ (putT l ++ post)) (hl : l.length ≤ 2147483647) : getT b pre.length = some (l, ((pre ++ putT l).length : Int)) := by
  have e : b = pre ++ (putN l.length ++ (l ++ post)) := by rw [h, putT]; simp
  have g := getN_at e ⟨by omega, by omega⟩
  unfold getT
  rw [g]
  simp only
  have h1 : (b.length : Int) = ((pre ++ putN l.length).length : Int) + (l.length + post.length) := by rw [e]; simp; omega
  rw [if_neg (by omega), Int.toNat_natCast]
  have h2 : b.drop (pre ++ putN l.length).length = l ++ post := by rw [e, ← List.append_assoc, List.drop_left]
  rw [Int.toNat_natCast, h2, List.take_left]
  congr 2
  simp [putT]; omega
theorem putN_inj {a b : Int} {x y : List Int} (ha : Rng a) (hb : Rng b) (h : putN a ++ x = putN b ++ y) : a = b ∧ x = y := by
  have g1 := getN_at (b := putN a ++ x) (pre := []) (post := x) rfl ha
  have g2 := getN_at (b := putN a ++ x) (pre := []) (post := y) h hb
  rw [g1] at g2
  simp only [Option.some.injEq, Prod.mk.injEq] at g2
  obtain ⟨rfl, -⟩ := g2
  exact ⟨rfl, List.append_cancel_left h⟩
theorem nums_inj : ∀ {us vs : List Int} {x y : List Int}, us.length = vs.length → (∀ z ∈ us, Rng z) → (∀ z ∈ vs, Rng z) → nums us ++ x = nums vs ++ y → us = vs ∧ x = y
  | [], [], _, _, _, _, _, h => ⟨rfl, h⟩
  | a :: us, b :: vs, x, y, hl, ha, hb, h => by
    rw [nums_cons, nums_cons, List.append_assoc, List.append_assoc] at h
    obtain ⟨rfl, q1⟩ := putN_inj (ha a (by simp)) (hb b (by simp)) h
    obtain ⟨rfl, q2⟩ := nums_inj (by simpa using hl) (fun z hz => ha z (by simp [hz])) (fun z hz => hb z (by simp [hz])) q1
    exact ⟨rfl, q2⟩
  | [], _ :: _, _, _, hl, _, _, _ => by simp at hl
  | _ :: _, [], _, _, hl, _, _, _ => by simp at hl
theorem len_rng {α : Type} {l : List α} (h : l.length ≤ 2147483647) : Rng (l.length : Int) := ⟨by omega, by omega⟩
theorem lsB_inj {us vs x y : List Int} (la : us.length ≤ 2147483647) (lb : vs.length ≤ 2147483647) (ha : ∀ z ∈ us, Rng z) (hb : ∀ z ∈ vs, Rng z) (h : lsB us ++ x = lsB vs ++ y) : us = vs ∧ x = y := by
  rw [lsB, lsB, List.append_assoc, List.append_assoc] at h
  obtain ⟨e, q1⟩ := putN_inj (len_rng la) (len_rng lb) h
  exact nums_inj (by omega) ha hb q1
theorem putT_inj {a b x y : List Int} (la : a.length ≤ 2147483647) (lb : b.length ≤ 2147483647) (h : putT a ++ x = putT b ++ y) : a = b ∧ x = y := by
  rw [putT, putT, List.append_assoc, List.append_assoc] at h
  obtain ⟨e, q1⟩ := putN_inj (len_rng la) (len_rng lb) h
  exact List.append_inj q1 (by omega)
theorem bl_inj {s t : ByteArray} (h : bl s = bl t) : s = t := by rw [← str_bl s, h, str_bl]
/-- The numbers of an item, of a floor, are numbers that can be put. -/
def RngI (x : Itm) : Prop := Rng x.1 ∧ Rng x.2.1 ∧ Rng x.2.2.1 ∧ Rng x.2.2.2.1 ∧ Rng x.2.2.2.2.1 ∧ x.2.2.2.2.2.size ≤ 2147483647
def RngF (x : Flr) : Prop := Rng x.1 ∧ Rng x.2
theorem sbI_inj {x y : Itm} {p q : List Int} (hx : RngI x) (hy : RngI y) (h : sbI x ++ p = sbI y ++ q) : x = y ∧ p = q := by
  obtain ⟨x1, x2, x3, x4, x5, x6⟩ := x
  obtain ⟨y1, y2, y3, y4, y5, y6⟩ := y
  obtain ⟨a1, a2, a3, a4, a5, a6⟩ := hx
  obtain ⟨b1, b2, b3, b4, b5, b6⟩ := hy
  rw [sbI, sbI, List.append_assoc, List.append_assoc] at h
  obtain ⟨e, q1⟩ := nums_inj (us := [x1, x2, x3, x4, x5]) (vs := [y1, y2, y3, y4, y5]) rfl (fun z hz => by simp at hz; rcases hz with rfl | rfl | rfl | rfl | rfl <;> assumption) (fun z hz => by simp at hz; rcases hz with rfl | rfl | rfl | rfl | rfl <;> assumption) h
  obtain ⟨e2, q2⟩ := putT_inj (by rw [bl_length]; exact a6) (by rw [bl_length]; exact b6) q1
  have e3 := bl_inj e2
  simp only [List.cons.injEq, and_true] at e
  simp only at e3
  exact ⟨by simp [e, e3], q2⟩
theorem sbIs_inj : ∀ {xs ys : List Itm} {p q : List Int}, xs.length = ys.length → (∀ x ∈ xs, RngI x) → (∀ x ∈ ys, RngI x) → sbIs xs ++ p = sbIs ys ++ q → xs = ys ∧ p = q
  | [], [], _, _, _, _, _, h => ⟨rfl, h⟩
  | x :: xs, y :: ys, p, q, hl, hx, hy, h => by
    rw [show sbIs (x :: xs) = sbI x ++ sbIs xs from rfl, show sbIs (y :: ys) = sbI y ++ sbIs ys from rfl, List.append_assoc, List.append_assoc] at h
    obtain ⟨rfl, q1⟩ := sbI_inj (hx x (by simp)) (hy y (by simp)) h
    obtain ⟨rfl, q2⟩ := sbIs_inj (by simpa using hl) (fun z hz => hx z (by simp [hz])) (fun z hz => hy z (by simp [hz])) q1
    exact ⟨rfl, q2⟩
  | [], _ :: _, _, _, hl, _, _, _ => by simp at hl
  | _ :: _, [], _, _, hl, _, _, _ => by simp at hl
theorem sbF_inj {x y : Flr} {p q : List Int} (hx : RngF x) (hy : RngF y) (h : sbF x ++ p = sbF y ++ q) : x = y ∧ p = q := by
  obtain ⟨x1, x2⟩ := x
  obtain ⟨y1, y2⟩ := y
  obtain ⟨a1, a2⟩ := hx
  obtain ⟨b1, b2⟩ := hy
  rw [sbF, sbF] at h
  obtain ⟨e, q1⟩ := nums_inj (us := [x1, x2]) (vs := [y1, y2]) rfl (fun z hz => by simp at hz; rcases hz with rfl | rfl <;> assumption) (fun z hz => by simp at hz; rcases hz with rfl | rfl <;> assumption) h
  simp only [List.cons.injEq, and_true] at e
  exact ⟨by simp [e], q1⟩
theorem sbFs_inj : ∀ {xs ys : List Flr} {p q : List Int}, xs.length = ys.length → (∀ x ∈ xs, RngF x) → (∀ x ∈ ys, RngF x) → sbFs xs ++ p = sbFs ys ++ q → xs = ys ∧ p = q
  | [], [], _, _, _, _, _, h => ⟨rfl, h⟩
  | x :: xs, y :: ys, p, q, hl, hx, hy, h => by
    rw [show sbFs (x :: xs) = sbF x ++ sbFs xs from rfl, show sbFs (y :: ys) = sbF y ++ sbFs ys from rfl, List.append_assoc, List.append_assoc] at h
    obtain ⟨rfl, q1⟩ := sbF_inj (hx x (by simp)) (hy y (by simp)) h
    obtain ⟨rfl, q2⟩ := sbFs_inj (by simpa using hl) (fun z hz => hx z (by simp [hz])) (fun z hz => hy z (by simp [hz])) q1
    exact ⟨rfl, q2⟩
  | [], _ :: _, _, _, hl, _, _, _ => by simp at hl
  | _ :: _, [], _, _, hl, _, _, _ => by simp at hl
theorem okE_rng {e : Key} (h : okE e.1 e.2.1 e.2.2.1 e.2.2.2.1 e.2.2.2.2 = true) : Rng e.1 ∧ Rng e.2.1 ∧ Rng e.2.2.1 ∧ Rng e.2.2.2.1 := by
  simp only [okE, Bool.and_eq_true, inB_iff] at h
  obtain ⟨⟨⟨⟨a1, a2⟩, a3⟩, a4⟩, _⟩ := h
  refine ⟨⟨by omega, by omega⟩, ⟨by omega, by omega⟩, ⟨by omega, by omega⟩, ⟨by omega, by omega⟩⟩
theorem OkS.rng {xs : List Itm} {fs : List Flr} (h : OkS xs fs) : (∀ x ∈ xs, RngI x) ∧ (∀ f ∈ fs, RngF f) := by
  refine ⟨fun x hx => ?_, fun f hf => ?_⟩
  · have a := h.ix x hx
    have b := okE_rng a.2.2.1
    have c := okE_size a.2.2.1
    exact ⟨⟨by omega, by omega⟩, b.1, b.2.1, b.2.2.1, b.2.2.2, by omega⟩
  · have a := h.jf f hf
    exact ⟨⟨by omega, by omega⟩, ⟨by omega, by omega⟩⟩
theorem sb_inj {xs ys : List Itm} {fs gs : List Flr} {p q : List Int} (hx : OkS xs fs) (hy : OkS ys gs) (h : sb xs fs ++ p = sb ys gs ++ q) : xs = ys ∧ fs = gs ∧ p = q := by
  have l1 := hx.len5
  have l2 := hy.len5
  simp only [sb, List.append_assoc] at h
  obtain ⟨e, q1⟩ := putN_inj (len_rng (l := xs) (by omega)) (len_rng (l := ys) (by omega)) h
  obtain ⟨rfl, q2⟩ := sbIs_inj (by omega) hx.rng.1 hy.rng.1 q1
  obtain ⟨e, q3⟩ := putN_inj (len_rng (l := fs) (by omega)) (len_rng (l := gs) (by omega)) q2
  obtain ⟨rfl, q4⟩ := sbFs_inj (by omega) hx.rng.2 hy.rng.2 q3
  exact ⟨rfl, rfl, q4⟩
theorem sb_one {xs ys : List Itm} {fs gs : List Flr} (hx : OkS xs fs) (hy : OkS ys gs) (h : sb xs fs = sb ys gs) : xs = ys ∧ fs = gs := by
  have := sb_inj (p := []) (q := []) hx hy (by rw [h])
  exact ⟨this.1, this.2.1⟩
theorem inB_rng {x a b : Int} (h : inB x a b = true) (ha : 0 ≤ a) (hb : b ≤ 2147483647) : Rng x := by
  have := inB_iff.1 h
  exact ⟨by omega, by omega⟩
theorem trOk_rng {tl : List Int} {tr : Int} (h : trOk tl tr = true) : (∀ z ∈ tl, Rng z) ∧ Rng tr := by
  unfold trOk at h
  split at h
  · rename_i e
    simp only [beq_iff_eq] at h
    rw [List.length_eq_zero_iff] at e
    subst e h
    exact ⟨fun z hz => by simp at hz, by omega, by omega⟩
  · simp only [Bool.and_eq_true, nmOk_iff] at h
    exact ⟨fun z hz => by have := h.1.2.2 z hz; exact ⟨by omega, by omega⟩, inB_rng h.2 (by omega) (by omega)⟩
/-- What is asked of a right message, taken apart. -/
structure OkM (m : Mg) : Prop where
  k : inB m.k 0 5 = true
  f : inB m.f 0 4 = true
  t : inB m.t 0 4 = true
  ne : (m.f != m.t) = true
  n : inB m.n 0 100000 = true
  h : inB m.h 0 100000 = true
  tr : trOk m.tl m.tr = true
  ve : nmOk m.ve 5 100000 = true
  le : nmOk m.le 4 3 = true
  st : OkS m.its m.fls
  ma : gF (-1) m.ma = true
  ac : asc m.le = true
theorem okM_iff (m : Mg) : okM m = true ↔ OkM m := by
  constructor
  · intro h
    simp only [okM, Bool.and_eq_true, okS_iff] at h
    obtain ⟨⟨⟨⟨⟨⟨⟨a1, a2⟩, a3⟩, a4⟩, a5⟩, a6⟩, ⟨⟨⟨b1, b2⟩, b3⟩, b4⟩, b5⟩, c⟩ := h
    exact ⟨a1, a2, a3, a4, a5, a6, b1, b2, b3, b4, b5, c⟩
  · intro h
    simp only [okM, Bool.and_eq_true, okS_iff]
    exact ⟨⟨⟨⟨⟨⟨⟨h.k, h.f⟩, h.t⟩, h.ne⟩, h.n⟩, h.h⟩, ⟨⟨⟨h.tr, h.ve⟩, h.le⟩, h.st⟩, h.ma⟩, h.ac⟩
theorem gF_rng {fs : List Flr} (h : gF (-1) fs = true) : ∀ f ∈ fs, RngF f := fun f hf => by
  have := ((gF_iff (-1) fs).1 h).2 f hf
  exact ⟨⟨by omega, by omega⟩, ⟨by omega, by omega⟩⟩
theorem bodyM_inj {m m' : Mg} (hm : OkM m) (hm' : OkM m') (h : bodyM m = bodyM m') : m = m' := by
  obtain ⟨k, f, t, n, hh, tl, tr, ve, le, its, fls, ma⟩ := m
  obtain ⟨k', f', t', n', hh', tl', tr', ve', le', its', fls', ma'⟩ := m'
  obtain ⟨a1, a2, a3, a4, a5, a6, a7, a8, a9, a10, a11, a12⟩ := hm
  obtain ⟨b1, b2, b3, b4, b5, b6, b7, b8, b9, b10, b11, b12⟩ := hm'
  simp only [bodyM, List.append_assoc] at h
  simp only at a1 a2 a3 a5 a6 a7 a8 a9 a10 a11 b1 b2 b3 b5 b6 b7 b8 b9 b10 b11
  have q0 := List.append_cancel_left h
  have r1 : ∀ z ∈ [k, f, t, n, hh], Rng z := fun z hz => by
    simp at hz
    rcases hz with rfl | rfl | rfl | rfl | rfl
    · exact inB_rng a1 (by omega) (by omega)
    · exact inB_rng a2 (by omega) (by omega)
    · exact inB_rng a3 (by omega) (by omega)
    · exact inB_rng a5 (by omega) (by omega)
    · exact inB_rng a6 (by omega) (by omega)
  have r2 : ∀ z ∈ [k', f', t', n', hh'], Rng z := fun z hz => by
    simp at hz
    rcases hz with rfl | rfl | rfl | rfl | rfl
    · exact inB_rng b1 (by omega) (by omega)
    · exact inB_rng b2 (by omega) (by omega)
    · exact inB_rng b3 (by omega) (by omega)
    · exact inB_rng b5 (by omega) (by omega)
    · exact inB_rng b6 (by omega) (by omega)
  obtain ⟨e, q1⟩ := nums_inj (us := [k, f, t, n, hh]) (vs := [k', f', t', n', hh']) rfl r1 r2 q0
  simp only [List.cons.injEq, and_true] at e
  obtain ⟨rfl, rfl, rfl, rfl, rfl⟩ := e
  have nr : ∀ {ns : List Int} {most : Nat} {hi : Int}, hi ≤ 2147483647 → nmOk ns most hi = true → ∀ z ∈ ns, Rng z := fun hi h z hz => by
    have := (nmOk_iff.1 h).2 z hz
    exact ⟨by omega, by omega⟩
  obtain ⟨rfl, q2⟩ := lsB_inj (by have := trOk_len a7; omega) (by have := trOk_len b7; omega) (trOk_rng a7).1 (trOk_rng b7).1 q1
  obtain ⟨rfl, q3⟩ := putN_inj (trOk_rng a7).2 (trOk_rng b7).2 q2
  obtain ⟨rfl, q4⟩ := lsB_inj (by have := (nmOk_iff.1 a8).1; omega) (by have := (nmOk_iff.1 b8).1; omega) (nr (by omega) a8) (nr (by omega) b8) q3
  obtain ⟨rfl, q5⟩ := lsB_inj (by have := (nmOk_iff.1 a9).1; omega) (by have := (nmOk_iff.1 b9).1; omega) (nr (by omega) a9) (nr (by omega) b9) q4
  obtain ⟨-, q6⟩ := putN_inj (len_rng (by have := sb_len a10; omega)) (len_rng (by have := sb_len b10; omega)) q5
  obtain ⟨rfl, rfl, q7⟩ := sb_inj a10 b10 q6
  obtain ⟨e, q8⟩ := putN_inj (len_rng (by have := gF_len a11; omega)) (len_rng (by have := gF_len b11; omega)) q7
  obtain ⟨rfl, -⟩ := sbFs_inj (p := []) (q := []) (by omega) (gF_rng a11) (gF_rng b11) (by simpa using q8)
  rfl
theorem sumB_len (x : Int) : (sumB x).length = 4 := rfl
theorem msB_inj {m m' : Mg} (hm : OkM m) (hm' : OkM m') (h : msB m = msB m') : m = m' := by
  rw [msB, msB, if_pos ((okM_iff m).2 hm), if_pos ((okM_iff m').2 hm')] at h
  exact bodyM_inj hm hm' (List.append_inj h (by have := congrArg List.length h; simp only [List.length_append, sumB_len] at this; omega)).1
/-- A right message's bytes with one byte that is another one are no message's. -/
theorem msB_spoilt {m m' : Mg} (hm : OkM m) (hm' : OkM m') {i : Nat} {z : Int} (hi : i < (msB m).length) (hne : (msB m)[i]? ≠ some z) : msB m' ≠ (msB m).set i z := by
  intro h
  have e : msB m = bodyM m ++ sumB (crcOf (bodyM m)) := by rw [msB, if_pos ((okM_iff m).2 hm)]
  have e' : msB m' = bodyM m' ++ sumB (crcOf (bodyM m')) := by rw [msB, if_pos ((okM_iff m').2 hm')]
  rw [e] at hi hne
  rw [e, e'] at h
  have hl : (bodyM m').length = (bodyM m).length := by
    have := congrArg List.length h
    simp only [List.length_append, List.length_set, sumB_len] at this
    omega
  have c0 := crcOf_nonneg _ (bodyM_bytes m)
  have c1 := crcOf_range _ (bodyM_bytes m)
  have d0 := crcOf_nonneg _ (bodyM_bytes m')
  have d1 := crcOf_range _ (bodyM_bytes m')
  by_cases hb : i < (bodyM m).length
  · rw [List.set_append_left _ _ hb] at h
    obtain ⟨h1, h2⟩ := List.append_inj h (by rw [List.length_set]; exact hl)
    have hs := sumB_inj d0 d1 c0 c1 h2
    rw [List.getElem?_append_left hb] at hne
    obtain ⟨y, hy⟩ : ∃ y, (bodyM m)[i]? = some y := ⟨_, List.getElem?_eq_getElem hb⟩
    rw [hy] at hne
    have hyz : y ≠ z := fun q => hne (by rw [q])
    have s1 : bodyM m = (bodyM m).take i ++ y :: (bodyM m).drop (i + 1) := by
      conv => lhs; rw [← List.take_append_drop i (bodyM m), List.drop_eq_getElem_cons hb]
      rw [(List.getElem?_eq_some_iff.1 hy).2]
    have s2 : (bodyM m).set i z = (bodyM m).take i ++ z :: (bodyM m).drop (i + 1) := by
      rw [List.set_eq_take_append_cons_drop, if_pos hb]
    have hby := bodyM_bytes m
    refine crcOf_ne ((bodyM m).take i) ((bodyM m).drop (i + 1)) y z ?_ ?_ hyz ?_
    · rw [← s1]; exact hby
    · rw [← s2, ← h1]; exact bodyM_bytes m'
    · rw [← s1, ← s2, ← h1, hs]
  · rw [List.set_append_right _ _ (by omega)] at h
    obtain ⟨h1, h2⟩ := List.append_inj h hl
    rw [h1] at h2
    rw [List.getElem?_append_right (by omega)] at hne
    apply hne
    have : i - (bodyM m).length < (sumB (crcOf (bodyM m))).length := by simp only [List.length_append] at hi; omega
    rw [h2, List.getElem?_set, if_pos rfl, if_pos this]

/-- The state of which these are the bytes. -/
noncomputable def sof (b : List Int) : Option (List Itm × List Flr) :=
  open Classical in if h : ∃ p : List Itm × List Flr, OkS p.1 p.2 ∧ sb p.1 p.2 = b then some h.choose else none
theorem sof_some {xs : List Itm} {fs : List Flr} {b : List Int} (hx : OkS xs fs) (e : sb xs fs = b) : sof b = some (xs, fs) := by
  have h : ∃ p : List Itm × List Flr, OkS p.1 p.2 ∧ sb p.1 p.2 = b := ⟨(xs, fs), hx, e⟩
  unfold sof
  rw [dif_pos h]
  have q := h.choose_spec
  have r := sb_one q.1 hx (q.2.trans e.symm)
  rw [show h.choose = (h.choose.1, h.choose.2) from rfl, r.1, r.2]
theorem sof_none {b : List Int} (h : ∀ xs fs, OkS xs fs → sb xs fs ≠ b) : sof b = none := by
  unfold sof
  rw [dif_neg]
  rintro ⟨p, h1, h2⟩
  exact h _ _ h1 h2
theorem sof_is {b : List Int} {xs : List Itm} {fs : List Flr} (h : sof b = some (xs, fs)) : OkS xs fs ∧ sb xs fs = b := by
  unfold sof at h
  split at h
  · rename_i q
    have r := q.choose_spec
    simp only [Option.some.injEq] at h
    rw [h] at r
    exact r
  · cases h
noncomputable def sofI (xs : List Int) : List Itm := ((sof xs).getD ([], [])).1
noncomputable def sofF (xs : List Int) : List Flr := ((sof xs).getD ([], [])).2
/-- The message of which these are the bytes. -/
noncomputable def mof (b : List Int) : Option Mg :=
  open Classical in if h : ∃ m : Mg, OkM m ∧ msB m = b then some h.choose else none
theorem mof_some {m : Mg} {b : List Int} (hm : OkM m) (e : msB m = b) : mof b = some m := by
  have h : ∃ m : Mg, OkM m ∧ msB m = b := ⟨m, hm, e⟩
  unfold mof
  rw [dif_pos h]
  have q := h.choose_spec
  rw [msB_inj q.1 hm (q.2.trans e.symm)]
theorem mof_none {b : List Int} (h : ∀ m, OkM m → msB m ≠ b) : mof b = none := by
  unfold mof
  rw [dif_neg]
  rintro ⟨m, h1, h2⟩
  exact h m h1 h2
theorem mof_is {b : List Int} {m : Mg} (h : mof b = some m) : OkM m ∧ msB m = b := by
  unfold mof at h
  split at h
  · rename_i q
    have r := q.choose_spec
    simp only [Option.some.injEq] at h
    rw [h] at r
    exact r
  · cases h
end Go.Proofs.Ytbajnnpihjmjmab
