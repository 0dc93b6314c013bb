/-
  The program's reader of bytes as functions on lists: what it reads is what was put, and whatever it reads whole was put so. No program here, no statement is proved here.
-/
import Derived.Test.YtbajnnpihjmjmabMsR
namespace Go.Proofs.Ytbajnnpihjmjmab
open Go.RowKit

/-- At place p of xs the bytes e stand, and behind them is place q. -/
structure Took (xs : List Int) (p : Int) (e : List Int) (q : Int) : Prop where
  lo : 0 ≤ p
  hi : q ≤ xs.length
  len : q = p + e.length
  at' : xs.drop p.toNat = e ++ xs.drop q.toNat
theorem Took.nil {xs : List Int} {p : Int} (h0 : 0 ≤ p) (h1 : p ≤ xs.length) : Took xs p [] p := ⟨h0, h1, by simp, rfl⟩
theorem Took.app {xs e f : List Int} {p q r : Int} (h : Took xs p e q) (k : Took xs q f r) : Took xs p (e ++ f) r := by
  refine ⟨h.lo, k.hi, ?_, ?_⟩
  · rw [k.len, h.len, List.length_append]; omega
  · rw [h.at', k.at', List.append_assoc]
theorem Took.split {xs e f : List Int} {p r : Int} (h : Took xs p (e ++ f) r) : Took xs p e (p + e.length) ∧ Took xs (p + e.length) f r := by
  have h0 := h.lo
  have h1 := h.hi
  have h2 := h.len
  have h3 := h.at'
  rw [List.length_append] at h2
  have e1 : xs.drop (p + e.length).toNat = f ++ xs.drop r.toNat := by
    have := congrArg (List.drop e.length) h3
    rw [List.drop_drop, List.append_assoc, List.drop_left] at this
    rw [show (p + (e.length : Int)).toNat = p.toNat + e.length by omega]
    exact this
  refine ⟨⟨h0, by omega, rfl, ?_⟩, ⟨by omega, h1, by omega, e1⟩⟩
  rw [e1, h3, List.append_assoc]
theorem Took.whole {xs e : List Int} (h : Took xs 0 e (xs.length : Int)) : e = xs := by
  have := h.at'
  simp at this
  exact this.symm
theorem Took.of_whole {xs : List Int} : Took xs 0 xs (xs.length : Int) := ⟨by omega, by omega, by omega, by simp⟩
theorem Took.pre {xs e : List Int} {p q : Int} (h : Took xs p e q) : xs = xs.take p.toNat ++ (e ++ xs.drop q.toNat) ∧ ((xs.take p.toNat).length : Int) = p ∧ q = ((xs.take p.toNat ++ e).length : Int) := by
  have h0 := h.lo
  have h1 := h.hi
  have h2 := h.len
  have hp : ((xs.take p.toNat).length : Int) = p := by simp; omega
  refine ⟨?_, hp, ?_⟩
  · rw [← h.at', List.take_append_drop]
  · rw [List.length_append]; omega

/-! ### Whatever number is read was put so -/
theorem gnum_canon : ∀ (f : Nat) (u m : Int) (l : List Int) (r n q : Int), 0 < u → (∀ z ∈ l, 0 ≤ z ∧ z ≤ 255) → gnum f u m l r = some (n, q) → ∃ t : Nat, n = m + t * u ∧ (t ≠ 0 ∨ ¬ 1 < u) ∧ ∃ post, l = putf (f - 1) t ++ post ∧ q = r + (putf (f - 1) t).length
  | 0, _, _, _, _, _, _, _, _, h => by simp [gnum] at h
  | f + 1, u, m, [], r, n, q, _, _, h => by simp [gnum] at h
  | f + 1, u, m, d :: l, r, n, q, hu, hl, h => by
    have hd := hl d (by simp)
    by_cases h128 : d < 128
    · by_cases hc : 2147483647 < m + d * u ∨ (d = 0 ∧ 1 < u)
      · rw [gnum_bad _ _ _ _ _ _ h128 hc] at h; cases h
      · rw [gnum_end _ _ _ _ _ _ h128 hc] at h
        simp only [Option.some.injEq, Prod.mk.injEq] at h
        obtain ⟨rfl, rfl⟩ := h
        obtain ⟨t, rfl⟩ := Int.eq_ofNat_of_zero_le hd.1
        refine ⟨t, rfl, ?_, l, ?_, ?_⟩
        · by_cases ht : t = 0
          · exact .inr (fun h1 => hc (.inr ⟨by omega, h1⟩))
          · exact .inl ht
        · rw [putf_small _ _ (by omega)]; rfl
        · rw [putf_small _ _ (by omega)]; rfl
    · rw [gnum_more _ _ _ _ _ _ h128] at h
      obtain ⟨t, h1, h2, post, h3, h4⟩ := gnum_canon f (u * 128) _ l (r + 1) n q (by omega) (fun z hz => hl z (by simp [hz])) h
      have ht : t ≠ 0 := h2.resolve_right (by omega)
      obtain ⟨k, rfl⟩ : ∃ k, f = k + 1 := by
        cases f with
        | zero => simp [gnum] at h
        | succ k => exact ⟨k, rfl⟩
      obtain ⟨c, hc⟩ := Int.eq_ofNat_of_zero_le (show 0 ≤ d - 128 by omega)
      have hd2 : d = ((c + 128 : Nat) : Int) := by omega
      have hc2 : c < 128 := by omega
      refine ⟨t * 128 + c, ?_, .inl (by omega), post, ?_, ?_⟩
      · rw [h1, hc]
        have : ((t * 128 + c : Nat) : Int) * u = (t : Int) * (u * 128) + (c : Int) * u := by
          rw [show ((t * 128 + c : Nat) : Int) = (t : Int) * 128 + c by omega, Int.add_mul, Int.mul_assoc, Int.mul_comm 128 u]
        rw [this]; omega
      · have e : putf (k + 1) (t * 128 + c) = d :: putf k t := by
          rw [putf, if_neg (by omega), show (t * 128 + c) % 128 = c by omega, show (t * 128 + c) / 128 = t by omega, hd2]
        show d :: l = putf (k + 1) (t * 128 + c) ++ post
        rw [e, h3]; rfl
      · have e : putf (k + 1) (t * 128 + c) = d :: putf k t := by
          rw [putf, if_neg (by omega), show (t * 128 + c) % 128 = c by omega, show (t * 128 + c) / 128 = t by omega, hd2]
        show q = r + (putf (k + 1) (t * 128 + c)).length
        rw [e, h4, List.length_cons]
        simp only [Nat.add_sub_cancel]
        omega
theorem getN_canon {xs : List Int} {p n q : Int} (hbd : ∀ z ∈ xs, 0 ≤ z ∧ z ≤ 255) (h : getN xs p = some (n, q)) : Took xs p (putN n) q ∧ Rng n := by
  have hb := getN_bd xs p n q hbd h
  have hp : ¬ p < 0 := by
    intro hp
    unfold getN at h
    rw [if_pos hp] at h
    cases h
  have h' := h
  unfold getN at h'
  rw [if_neg hp] at h'
  obtain ⟨t, h1, h2, post, h3, h4⟩ := gnum_canon 5 1 0 _ p n q (by omega) (fun z hz => hbd z (List.mem_of_mem_drop hz)) h'
  have hn : n = (t : Int) := by omega
  have e : putN n = putf 4 t := by
    rw [hn, putN, if_pos (by omega), Int.toNat_natCast]
  refine ⟨⟨by omega, hb.2.2.2, by rw [e]; exact h4, ?_⟩, ⟨by omega, by omega⟩⟩
  rw [e, h3]
  have : xs.drop q.toNat = post := by
    have e2 := congrArg (List.drop (putf 4 t).length) h3
    rw [List.drop_drop, List.drop_left] at e2
    rw [← e2]
    congr 1
    simp only [Nat.add_one_sub_one] at h4
    omega
  rw [this]

/-! ### The cursor -/
abbrev Cu := Int × Bool
/-- The cursor lies within the bytes. -/
def Win (xs : List Int) (c : Cu) : Prop := 0 ≤ c.1 ∧ c.1 ≤ xs.length
def riN (xs : List Int) (c : Cu) : Int × Cu := match getN xs c.1 with
  | some (n, q) => (n, (q, c.2))
  | none => (0, (0, true))
def riT (xs : List Int) (c : Cu) : List Int × Cu := match getT xs c.1 with
  | some (l, q) => (l, (q, c.2))
  | none => ([], (0, true))
/-- What a reader reads: of what is read whole the bytes stand there, and where they stand that is read. -/
structure Reads {α : Type} (xs : List Int) (rd : Cu → α × Cu) (enc : α → List Int) (P : α → Prop) : Prop where
  win : ∀ c, Win xs c → Win xs (rd c).2
  snd : ∀ c, Win xs c → (rd c).2.2 = false → c.2 = false ∧ P (rd c).1 ∧ Took xs c.1 (enc (rd c).1) (rd c).2.1
  cpl : ∀ p q v, P v → Took xs p (enc v) q → rd (p, false) = (v, (q, false))
theorem Reads.bad {α : Type} {xs : List Int} {rd : Cu → α × Cu} {enc : α → List Int} {P : α → Prop} (h : Reads xs rd enc P) {c : Cu} (hw : Win xs c) (hc : c.2 = true) : (rd c).2.2 = true := by
  cases e : (rd c).2.2
  · have := (h.snd c hw e).1
    rw [hc] at this
    cases this
  · rfl
theorem reads_num {xs : List Int} (hbd : ∀ z ∈ xs, 0 ≤ z ∧ z ≤ 255) : Reads xs (riN xs) putN Rng := by
  refine ⟨fun c hw => ?_, fun c hw h => ?_, fun p q v hv ht => ?_⟩
  · unfold riN
    split
    · rename_i n q e
      have := getN_bd _ _ _ _ hbd e
      exact ⟨by simp only; omega, by simp only; omega⟩
    · exact ⟨by simp, by simp⟩
  · unfold riN at h ⊢
    split at h
    · rename_i n q e
      have := getN_canon hbd e
      exact ⟨h, this.2, this.1⟩
    · cases h
  · obtain ⟨e1, e2, e3⟩ := ht.pre
    have := getN_at e1 hv
    rw [e2] at this
    unfold riN
    rw [show ((p, false) : Cu).1 = p from rfl, this, ← e3]
theorem getT_canon {xs l : List Int} {p q : Int} (hbd : ∀ z ∈ xs, 0 ≤ z ∧ z ≤ 255) (h : getT xs p = some (l, q)) : Took xs p (putT l) q ∧ l.length ≤ 2147483647 ∧ ∀ z ∈ l, 0 ≤ z ∧ z ≤ 255 := by
  obtain ⟨n, r, h1, h2, h3, h4⟩ := getT_some xs p q l h
  obtain ⟨t1, t2⟩ := getN_canon hbd h1
  have hb := getN_bd xs p n r hbd h1
  have hl : (l.length : Int) = n := by
    rw [h3]; simp; omega
  have t3 : Took xs r l q := ⟨by omega, by omega, by omega, by
    rw [h3, h4, show (r + n).toNat = r.toNat + n.toNat by omega, ← List.drop_drop, List.take_append_drop]⟩
  refine ⟨?_, by omega, fun z hz => hbd z (List.mem_of_mem_drop (List.mem_of_mem_take (by rw [h3] at hz; exact hz)))⟩
  unfold putT
  rw [hl]
  exact t1.app t3
theorem reads_text {xs : List Int} (hbd : ∀ z ∈ xs, 0 ≤ z ∧ z ≤ 255) : Reads xs (riT xs) putT (fun l => l.length ≤ 2147483647 ∧ ∀ z ∈ l, 0 ≤ z ∧ z ≤ 255) := by
  refine ⟨fun c hw => ?_, fun c hw h => ?_, fun p q v hv ht => ?_⟩
  · unfold riT
    split
    · rename_i n q e
      have h1 := (getT_canon hbd e).1
      have h2 := h1.hi
      have h3 := h1.lo
      have h4 := h1.len
      exact ⟨by simp only; omega, h2⟩
    · exact ⟨by simp, by simp⟩
  · unfold riT at h ⊢
    split at h
    · rename_i n q e
      have := getT_canon hbd e
      exact ⟨h, this.2, this.1⟩
    · cases h
  · obtain ⟨e1, e2, e3⟩ := ht.pre
    have := getT_mid e1 hv.1
    rw [e2] at this
    unfold riT
    rw [show ((p, false) : Cu).1 = p from rfl, this, ← e3]
/-- One thing, and another one behind it. -/
def riP {α β : Type} (f : Cu → α × Cu) (g : Cu → β × Cu) (c : Cu) : (α × β) × Cu := (((f c).1, (g (f c).2).1), (g (f c).2).2)
theorem Reads.pair {α β : Type} {xs : List Int} {f : Cu → α × Cu} {g : Cu → β × Cu} {ef : α → List Int} {eg : β → List Int} {P : α → Prop} {Q : β → Prop} (hf : Reads xs f ef P) (hg : Reads xs g eg Q) :
    Reads xs (riP f g) (fun v => ef v.1 ++ eg v.2) (fun v => P v.1 ∧ Q v.2) := by
  refine ⟨fun c hw => hg.win _ (hf.win _ hw), fun c hw h => ?_, fun p q v hv ht => ?_⟩
  · obtain ⟨a1, a2, a3⟩ := hg.snd _ (hf.win _ hw) h
    obtain ⟨b1, b2, b3⟩ := hf.snd _ hw a1
    exact ⟨b1, ⟨b2, a2⟩, b3.app a3⟩
  · obtain ⟨t1, t2⟩ := ht.split
    have e1 := hf.cpl _ _ _ hv.1 t1
    have e2 := hg.cpl _ _ _ hv.2 t2
    unfold riP
    rw [e1]
    simp only
    rw [e2]
theorem Reads.map {α β : Type} {xs : List Int} {f : Cu → α × Cu} {ef : α → List Int} {P : α → Prop} (hf : Reads xs f ef P) (m : α → β) (eb : β → List Int) (Q : β → Prop) (he : ∀ v, P v → eb (m v) = ef v ∧ Q (m v)) (hi : ∀ b, Q b → ∃ v, P v ∧ m v = b) :
    Reads xs (fun c => (m (f c).1, (f c).2)) eb Q := by
  refine ⟨fun c hw => hf.win _ hw, fun c hw h => ?_, fun p q v hv ht => ?_⟩
  · obtain ⟨b1, b2, b3⟩ := hf.snd _ hw h
    refine ⟨b1, (he _ b2).2, ?_⟩
    rw [(he _ b2).1]
    exact b3
  · obtain ⟨a, ha, rfl⟩ := hi v hv
    rw [(he _ ha).1] at ht
    have := hf.cpl _ _ _ ha ht
    rw [this]
/-- So many things, one behind the other, as long as all fits. -/
def rpt {α : Type} (one : Cu → α × Cu) : Nat → Cu → List α × Cu
  | 0, c => ([], c)
  | i + 1, c => if (rpt one i c).2.2 = true then rpt one i c else ((rpt one i c).1 ++ [(one (rpt one i c).2).1], (one (rpt one i c).2).2)
/-- A list: how many there are, and these. -/
def lsR {α : Type} (xs : List Int) (most : Nat) (one : Cu → α × Cu) (c : Cu) : List α × Cu :=
  if (most : Int) < (riN xs c).1 then ([], ((riN xs c).2.1, true)) else
    if (rpt one (riN xs c).1.toNat (riN xs c).2).2.2 = true then ([], ((rpt one (riN xs c).1.toNat (riN xs c).2).2.1, true)) else rpt one (riN xs c).1.toNat (riN xs c).2
theorem rpt_win {α : Type} {xs : List Int} {one : Cu → α × Cu} {enc : α → List Int} {P : α → Prop} (h : Reads xs one enc P) {c : Cu} (hw : Win xs c) : ∀ i, Win xs (rpt one i c).2
  | 0 => hw
  | i + 1 => by
    rw [rpt]
    split
    · exact rpt_win h hw i
    · exact h.win _ (rpt_win h hw i)
theorem rpt_len {α : Type} (one : Cu → α × Cu) (c : Cu) : ∀ i, (rpt one i c).1.length ≤ i ∧ ((rpt one i c).2.2 = false → (rpt one i c).1.length = i)
  | 0 => by simp [rpt]
  | i + 1 => by
    have ih := rpt_len one c i
    rw [rpt]
    split
    · rename_i h
      exact ⟨by omega, fun q => by rw [h] at q; cases q⟩
    · rename_i h
      have e := ih.2 (by simpa using h)
      simp only [List.length_append, List.length_cons, List.length_nil]
      exact ⟨by omega, fun _ => by omega⟩
theorem rpt_stop {α : Type} {one : Cu → α × Cu} {c : Cu} {i : Nat} (h : (rpt one i c).2.2 = true) : ∀ m, i ≤ m → rpt one m c = rpt one i c
  | 0, hm => by obtain rfl := Nat.le_zero.1 hm; rfl
  | m + 1, hm => by
    by_cases q : i = m + 1
    · rw [q]
    · have ih := rpt_stop h m (by omega)
      rw [rpt, ih, if_pos h]
theorem rpt_next {α : Type} {one : Cu → α × Cu} {c : Cu} {i : Nat} (h : (rpt one i c).2.2 = false) : rpt one (i + 1) c = ((rpt one i c).1 ++ [(one (rpt one i c).2).1], (one (rpt one i c).2).2) := by
  rw [rpt, if_neg (by rw [h]; simp)]
theorem rpt_snd {α : Type} {xs : List Int} {one : Cu → α × Cu} {enc : α → List Int} {P : α → Prop} (h : Reads xs one enc P) {c : Cu} (hw : Win xs c) : ∀ i, (rpt one i c).2.2 = false → c.2 = false ∧ (∀ x ∈ (rpt one i c).1, P x) ∧ Took xs c.1 ((rpt one i c).1.flatMap enc) (rpt one i c).2.1
  | 0, e => ⟨e, fun x hx => by simp [rpt] at hx, Took.nil hw.1 hw.2⟩
  | i + 1, e => by
    cases q : (rpt one i c).2.2
    · rw [rpt_next q] at e ⊢
      obtain ⟨a1, a2, a3⟩ := h.snd _ (rpt_win h hw i) e
      obtain ⟨b1, b2, b3⟩ := rpt_snd h hw i q
      refine ⟨b1, fun x hx => ?_, ?_⟩
      · rcases List.mem_append.1 hx with hx | hx
        · exact b2 x hx
        · rw [List.mem_singleton.1 hx]; exact a2
      · rw [List.flatMap_append, List.flatMap_cons, List.flatMap_nil, List.append_nil]
        exact b3.app a3
    · rw [rpt_stop q (i + 1) (by omega), q] at e
      cases e
theorem rpt_cpl {α : Type} {xs : List Int} {one : Cu → α × Cu} {enc : α → List Int} {P : α → Prop} (h : Reads xs one enc P) {p q : Int} {l : List α} (hl : ∀ x ∈ l, P x) (ht : Took xs p (l.flatMap enc) q) : ∀ i, i ≤ l.length → rpt one i (p, false) = (l.take i, (p + ((l.take i).flatMap enc).length, false))
  | 0, _ => by simp [rpt]
  | i + 1, hi => by
    have ih := rpt_cpl h hl ht i (by omega)
    obtain ⟨z, hz⟩ : ∃ z, l[i]? = some z := ⟨_, List.getElem?_eq_getElem (by omega)⟩
    have e : l = l.take i ++ (z :: l.drop (i + 1)) := by
      conv => lhs; rw [← List.take_append_drop i l, List.drop_eq_getElem_cons (by omega)]
      rw [(List.getElem?_eq_some_iff.1 hz).2]
    have t1 : Took xs p ((l.take i).flatMap enc ++ (enc z ++ (l.drop (i + 1)).flatMap enc)) q := by
      rw [e] at ht
      simpa [List.flatMap_append] using ht
    obtain ⟨-, t2⟩ := t1.split
    obtain ⟨t3, -⟩ := t2.split
    have e2 := h.cpl _ _ _ (hl z (List.mem_of_getElem? hz)) t3
    rw [rpt_next (by rw [ih]), ih]
    simp only
    rw [e2, List.take_add_one, hz]
    simp only [Option.toList_some, List.flatMap_append, List.flatMap_cons, List.flatMap_nil, List.append_nil, List.length_append]
    congr 2
    omega
theorem Reads.lsR {α : Type} {xs : List Int} {one : Cu → α × Cu} {enc : α → List Int} {P : α → Prop} (hbd : ∀ z ∈ xs, 0 ≤ z ∧ z ≤ 255) (h : Reads xs one enc P) (most : Nat) (hm : most ≤ 2147483647) :
    Reads xs (lsR xs most one) (fun l => putN l.length ++ l.flatMap enc) (fun l => l.length ≤ most ∧ ∀ x ∈ l, P x) := by
  have hN := reads_num hbd
  refine ⟨fun c hw => ?_, fun c hw e => ?_, fun p q l hl ht => ?_⟩
  · have w1 := hN.win c hw
    unfold Go.Proofs.Ytbajnnpihjmjmab.lsR
    split
    · exact w1
    · split
      · exact rpt_win h w1 _
      · exact rpt_win h w1 _
  · have w1 := hN.win c hw
    unfold Go.Proofs.Ytbajnnpihjmjmab.lsR at e ⊢
    by_cases q1 : (most : Int) < (riN xs c).1
    · rw [if_pos q1] at e; cases e
    · rw [if_neg q1] at e ⊢
      by_cases q2 : (rpt one (riN xs c).1.toNat (riN xs c).2).2.2 = true
      · rw [if_pos q2] at e; cases e
      · rw [if_neg q2] at e ⊢
        obtain ⟨a1, a2, a3⟩ := rpt_snd h w1 _ e
        obtain ⟨b1, b2, b3⟩ := hN.snd c hw a1
        have hl := (rpt_len one (riN xs c).2 (riN xs c).1.toNat).2 e
        have hr : ((rpt one (riN xs c).1.toNat (riN xs c).2).1.length : Int) = (riN xs c).1 := by rw [hl]; have := b2.1; omega
        refine ⟨b1, ⟨by omega, a2⟩, ?_⟩
        rw [hr]
        exact b3.app a3
  · obtain ⟨t1, t2⟩ := ht.split
    have e1 := hN.cpl _ _ _ (len_rng (l := l) (by omega)) t1
    have e2 := rpt_cpl h hl.2 t2 l.length (Nat.le_refl _)
    rw [List.take_length] at e2
    unfold Go.Proofs.Ytbajnnpihjmjmab.lsR
    rw [e1]
    simp only [Int.toNat_natCast]
    rw [if_neg (by omega), e2]
    simp only
    rw [if_neg (by simp)]
    congr 2
    have := t2.len
    omega
theorem lsR_len {α : Type} {xs : List Int} {most : Nat} {one : Cu → α × Cu} {c : Cu} : (lsR xs most one c).1.length ≤ most := by
  unfold lsR
  split
  · simp
  · split
    · simp
    · have := (rpt_len one (riN xs c).2 (riN xs c).1.toNat).1
      omega
end Go.Proofs.Ytbajnnpihjmjmab
