/-
  A log is marked, marks are held. No statement is proved here.
-/
import Derived.Test.YtdpaocikmijioafLgB
namespace Go.Proofs.Ytdpaocikmijioaf
open Go.RowKit

def mkSt (k : Int) (s : Sta) : Sta := (mkIs k s.1.length, mkFs (k + 6 * (s.1.length : Int)) s.2.length)
def nxt (k : Int) (s : Sta) : Int := k + 6 * (s.1.length : Int) + 2 * (s.2.length : Int)
def mkSs : Int → List Sta → List Sta
  | _, [] => []
  | k, s :: r => mkSt k s :: mkSs (nxt k s) r
def ndS : Int → List Sta → Int
  | k, [] => k
  | k, s :: r => ndS (nxt k s) r
theorem mkSs_app : ∀ (a b : List Sta) (k : Int), mkSs k (a ++ b) = mkSs k a ++ mkSs (ndS k a) b
  | [], b, k => rfl
  | s :: r, b, k => by rw [List.cons_append, mkSs, mkSs, ndS, mkSs_app r b]; rfl
theorem ndS_app : ∀ (a b : List Sta) (k : Int), ndS k (a ++ b) = ndS (ndS k a) b
  | [], b, k => rfl
  | s :: r, b, k => by rw [List.cons_append, ndS, ndS, ndS_app r b]
theorem mkSs_len : ∀ (a : List Sta) (k : Int), (mkSs k a).length = a.length
  | [], k => rfl
  | s :: r, k => by rw [mkSs, List.length_cons, List.length_cons, mkSs_len r]
theorem ndS_le : ∀ (a : List Sta) (k : Int), k ≤ ndS k a ∧ ndS k a ≤ k + 6 * (tot a : Int)
  | [], k => by simp [ndS, tot]
  | s :: r, k => by
    have := ndS_le r (nxt k s)
    rw [ndS, tot]
    unfold nxt at *
    omega
theorem mkSs_at {ss : List Sta} {j : Nat} {s : Sta} (h : ss[j]? = some s) (k : Int) : (mkSs k ss)[j]? = some (mkSt (ndS k (ss.take j)) s) := by
  have hj := (List.getElem?_eq_some_iff.1 h).1
  have e : ss = ss.take j ++ s :: ss.drop (j + 1) := by rw [← drop_at h, List.take_append_drop]
  conv => lhs; rw [e]
  rw [mkSs_app, List.getElem?_append_right (by rw [mkSs_len]; simp; omega), mkSs_len]
  have : j - (ss.take j).length = 0 := by simp; omega
  rw [this, mkSs]
  rfl
/-- The first j marked, the rest as it was. -/
def mix (k : Int) (ss : List Sta) (j : Nat) : List Sta := mkSs k (ss.take j) ++ ss.drop j
theorem mix_len (k : Int) (ss : List Sta) (j : Nat) : (mix k ss j).length = ss.length := by rw [mix, List.length_append, mkSs_len, ← List.length_append, List.take_append_drop]
theorem mix_at {k : Int} {ss : List Sta} {j : Nat} {s : Sta} (h : ss[j]? = some s) : (mix k ss j)[j]? = some s := by
  have hj := (List.getElem?_eq_some_iff.1 h).1
  rw [mix, List.getElem?_append_right (by rw [mkSs_len]; simp; omega), mkSs_len, show j - (ss.take j).length = 0 by simp; omega, drop_at h]; rfl
theorem mix_next {k : Int} {ss : List Sta} {j : Nat} {s : Sta} (h : ss[j]? = some s) : mix k ss (j + 1) = (mix k ss j).set j (mkSt (ndS k (ss.take j)) s) := by
  have hj := (List.getElem?_eq_some_iff.1 h).1
  rw [mix, mix, take_at h, mkSs_app, drop_at h, List.set_append_right _ _ (by rw [mkSs_len]; simp; omega), mkSs_len, show j - (ss.take j).length = 0 by simp; omega]
  simp [mkSs]

theorem Pa.turn {lo hi : Nat} {w w' : World} {ps : List Two} {ss : List Sta} {j : Nat} {p : Two} {s t : Sta} (h : Pa lo hi w ps ss) (hp : ps[j]? = some p) (hs : ss[j]? = some s) (h1 : OwI lo w' p.1 t.1) (h2 : OwF lo w' p.2 t.2) (k : Trn (fun i => p.1.ownBlock = some i ∨ p.2.ownBlock = some i) w w') : Pa lo hi w' ps (ss.set j t) := by
  have hjl := (List.getElem?_eq_some_iff.1 hp).1
  refine ⟨by simp [h.len], fun i q u hq hu => ?_, h.top, h.apt⟩
  rw [List.getElem?_set] at hu
  by_cases e : j = i
  · subst e
    rw [if_pos rfl, if_pos (by rw [← h.len]; exact hjl)] at hu
    rw [hp] at hq
    cases hq; cases hu
    exact ⟨h1, h2⟩
  · rw [if_neg e] at hu
    obtain ⟨o1, o2⟩ := h.ins i q u hq hu
    obtain ⟨q1, q2⟩ := h.ins j p s hp hs
    have hil := (List.getElem?_eq_some_iff.1 hq).1
    have hap : (∀ g, p.1.ownBlock = some g → q.1.ownBlock ≠ some g) ∧ (∀ g, p.2.ownBlock = some g → q.2.ownBlock ≠ some g) := by
      have ep := (List.getElem?_eq_some_iff.1 hp).2
      have eq := (List.getElem?_eq_some_iff.1 hq).2
      by_cases hlt : j < i
      · have := List.pairwise_iff_getElem.1 h.apt j i hjl hil hlt
        rw [ep, eq] at this
        exact this
      · have := List.pairwise_iff_getElem.1 h.apt i j hil hjl (by omega)
        rw [ep, eq] at this
        exact ⟨fun g a b => this.1 g b a, fun g a b => this.2 g b a⟩
    have a1 := owns_apart o2 q1 (by decide)
    have a2 := owns_apart o1 q2 (by decide)
    refine ⟨k.own o1 (fun g hg kk => ?_), k.own o2 (fun g hg kk => ?_)⟩
    · rcases kk with kk | kk
      · exact hap.1 g kk hg
      · rcases a2 with a | a
        · rw [a] at hg; cases hg
        · exact a (hg.trans kk.symm)
    · rcases kk with kk | kk
      · rcases a1 with a | a
        · rw [a] at hg; cases hg
        · exact a (hg.trans kk.symm)
      · exact hap.2 g kk hg
/-- A state of a row of the call's own: where it lies, what is in it. -/
theorem at2 {base : Nat} {w : World} {a : Option Addr} {n cap : Nat} {ps : List Two} (h : OwV base w (.slice a n cap) ps) {i : Nat} (hi : i < n) : ∃ p g, ps[i]? = some p ∧ a = some ⟨g, 0, none⟩ ∧ n ≤ cap ∧ g < w.heap.size ∧ w.cell? ⟨g, i * 2, none⟩ = some p.1 ∧ w.cell? ⟨g, i * 2 + 1, none⟩ = some p.2 := by
  have r := Ow.rw encS_len h
  obtain ⟨p, b, off, hp, rfl, hb, hc, cc⟩ := r.at hi
  rcases h.2 with ⟨hv, _⟩ | ⟨g, cap', cur, hv, hlo, hh, hr⟩
  · simp at hv
  · simp only [Value.slice.injEq, Option.some.injEq, Addr.mk.injEq, and_true] at hv
    obtain ⟨⟨rfl, rfl⟩, -, -⟩ := hv
    exact ⟨p, b, hp, rfl, hc, hb, by simpa [encS] using cc 0 (by omega), by simpa [encS] using cc 1 (by omega)⟩
theorem OwV.trn {S : Nat → Prop} {base : Nat} {w w' : World} {v : Value} {ps : List Two} (h : OwV base w v ps) (k : Trn S w w') (hs : ∀ i, S i → ∀ cs fz, w.heap[i]? ≠ some (.cells cs 37 fz)) : OwV base w' v ps :=
  k.own h (fun i hi q => by obtain ⟨cs, fz, hb⟩ := OwV.blk h i hi; exact hs i q cs fz hb)
theorem ow_type {α : Type} {enc : α → List Value} {k : Nat} {E T : TypeId} {base : Nat} {w : World} {v : Value} {xs : List α} (h : Ow enc k E base w v xs) (hne : E ≠ T) : ∀ i, v.ownBlock = some i → ∀ cs fz, w.heap[i]? ≠ some (.cells cs T fz) := by
  intro i hi cs fz hb
  rcases h.2 with ⟨rfl, _⟩ | ⟨g', cap, cur, rfl, _, hh, _⟩
  · cases hi
  · simp only [Value.ownBlock, Option.some.injEq] at hi
    subst hi
    rw [hh] at hb
    simp at hb
    exact hne hb.2.1

set_option maxHeartbeats 4000000 in
set_option maxRecDepth 100000 in
theorem markstates_any (lo hi : Nat) (a : Option Addr) (n cap : Nat) (ss : List Sta) (k : Int) (h1 : 0 ≤ k) (h2 : k ≤ 1000000) (w : World) (hn : n ≤ 2000000) (ht : tot ss ≤ 2100000) (hlt2 : ∀ (i : Nat) (s : Sta), ss[i]? = some s → s.1.length ≤ 1048576 ∧ s.2.length ≤ 1048576) (hx : OwS lo hi w (.slice a n cap) ss) :
    Calls Try.prog 69 #[.slice a n cap, .int .i64 k] w fun e w' => e = .returned (.int .i64 (ndS k ss)) ∧ OwS lo hi w' (.slice a n cap) (mkSs k ss) ∧ Trn (fun i => lo ≤ i ∧ i < hi) w w' := by
  have hlen := hx.rw.len.1
  obtain ⟨ps, hrow, hpa⟩ := hx.own
  have HTOP := hide hx.top
  have HL := hide hlen
  have HR := hide hrow
  have HP := hide hpa
  have HT2 := hide hlt2
  clear hx hrow hpa hlen hlt2
  go_enter Try.func69, Try.ntmps69
  go_wp2
  go_loopw [1, 5] (fun q i wr => ∃ j : Nat, j ≤ n ∧ i = .int .i64 j ∧ q = .int .i64 (ndS k (ss.take j)) ∧ OwV lo wr (.slice a n cap) ps ∧ Pa lo hi wr ps (mix k ss j) ∧ Trn (fun i => lo ≤ i ∧ i < hi) w wr) (fun _ i _ => n - (intOf i).toNat)
  case atStart => exact ⟨0, Nat.zero_le _, rfl, rfl, unhide HR, unhide HP, ⟨rfl, rfl, rfl, Nat.le_refl _, fun _ _ _ => rfl⟩⟩
  case round =>
    obtain ⟨j, hj, rfl, rfl, hrow, hpa, htr⟩ := hrel
    by_cases hlt : j < n
    · obtain ⟨p, g, hp, rfl, hcap, hgl, c0, c1⟩ := at2 hrow hlt
      obtain ⟨s, hs⟩ : ∃ s, ss[j]? = some s := ⟨_, List.getElem?_eq_getElem (by have := unhide HL; omega)⟩
      obtain ⟨o1, o2⟩ := hpa.ins j p s hp (mix_at hs)
      obtain ⟨l1, l2⟩ := unhide HT2 j s hs
      have hb := ndS_le (ss.take j) k
      have hT := tot_at hs
      obtain ⟨v1, v2⟩ := p
      obtain ⟨ai, ci, e1⟩ := o1.form
      obtain ⟨af, cf, e2⟩ := o2.form
      simp only at e1 e2 o1 o2 c0 c1
      subst e1 e2
      generalize hni : s.1.length = ni at *
      generalize hnf : s.2.length = nf at *
      generalize hq : ndS k (ss.take j) = q at *
      have O1 := hide o1
      have O2 := hide o2
      have HROW := hide hrow
      have HPA := hide hpa
      have HTR := hide htr
      have HP0 := hide hp
      have HS0 := hide hs
      have hq0 : 0 ≤ q := by omega
      have hq1 : q ≤ 20000000 := by omega
      have HNI := hide hni
      have HNF := hide hnf
      have HQ := hide hq
      clear o1 o2 hrow hpa htr hp hs hni hnf hq hb hT
      go_wp2_with fail
      refine (markI_any lo ai ni ci s.1 q hq0 (by omega) wr (by omega) (unhide O1)).mono ?_
      rintro e w1 ⟨rfl, p1, g1⟩
      have hap := owns_apart (unhide O2) (unhide O1) (by decide)
      have t1 := Trn.of_grown g1
      have P2 := hide (t1.own (unhide O2) (fun i hi e => by rcases hap with h | h; rw [h] at hi; cases hi; exact h (hi.trans e.symm)))
      have R1 := hide (OwV.trn (unhide HROW) t1 (fun i hi => ow_type (unhide O1) (by decide) i hi.symm.symm))
      have P1 := hide p1
      have HT1 := hide (t1.mono (T := fun i => (Value.slice ai ni ci).ownBlock = some i ∨ (Value.slice af nf cf).ownBlock = some i) (fun i h => .inl h))
      have HAP := hide hap
      obtain ⟨p', g', hp', ha', -, hgl', d0, d1⟩ := at2 (unhide R1) hlt
      simp only [Option.some.injEq, Addr.mk.injEq, and_true] at ha'
      obtain rfl := ha'
      rw [unhide HP0] at hp'
      cases hp'
      clear p1 g1 t1 hap c0 c1 d0
      go_wp2_with fail
      refine (markF_any lo af nf cf s.2 (q + 6 * ni) (by omega) (by omega) w1 (by omega) (unhide P2)).mono ?_
      rintro e w2 ⟨rfl, p2, g2⟩
      have t2 := Trn.of_grown g2
      have HT2' := (unhide HT1).trans (t2.mono (T := fun i => (Value.slice ai ni ci).ownBlock = some i ∨ (Value.slice af nf cf).ownBlock = some i) (fun i h => .inr h))
      have R2 := hide (OwV.trn (unhide R1) t2 (fun i hi => ow_type (unhide P2) (by decide) i hi.symm.symm))
      have P1' := t2.own (unhide P1) (fun i hi e => by rcases unhide HAP with h | h; rw [h] at e; cases e; exact h (e.trans hi.symm))
      have HPA2 : Hid (Pa lo hi w2 ps (mix k ss (j + 1))) := by
        rw [mix_next (unhide HS0)]
        refine hide ((unhide HPA).turn (unhide HP0) (mix_at (unhide HS0)) ?_ ?_ HT2')
        · rw [mkSt, unhide HQ, unhide HNI]; exact P1'
        · rw [mkSt, unhide HQ, unhide HNI, unhide HNF]; exact p2
      have HTR2 : Hid (Trn (fun i => lo ≤ i ∧ i < hi) w w2) := hide ((unhide HTR).trans (HT2'.mono (fun i h => by
        have hm := List.mem_of_getElem? (unhide HP0)
        rcases h with h | h
        · exact ⟨(World.ownsRow.lt (unhide O1) _ h).1, (unhide HPA).top _ hm i (.inl h)⟩
        · exact ⟨(World.ownsRow.lt (unhide O2) _ h).1, (unhide HPA).top _ hm i (.inr h)⟩)))
      have HE : Hid (ndS k (ss.take (j + 1)) = q + 6 * (ni : Int) + 2 * (nf : Int)) := hide (by rw [take_at (unhide HS0), ndS_app, unhide HQ, ndS, ndS, nxt, unhide HNI, unhide HNF])
      clear p2 g2 t2 HT2' P1' O1 O2 P1 P2 HT1 HAP R1 HROW HPA HTR d1
      go_wp2
      go_roundw
      case rel => exact ⟨j + 1, by omega, by go_num, by rw [unhide HE], unhide R2, unhide HPA2, unhide HTR2⟩
      case measure => simp [intOf]; omega
    · have hjl : ss.take j = ss := List.take_of_length_le (by have := unhide HL; omega)
      have HO : Hid (OwS lo hi wr (.slice a n cap) (mkSs k ss)) := hide ⟨⟨ps, hrow, by
        have h := hpa
        rw [mix, hjl, List.drop_of_length_le (by have := unhide HL; omega), List.append_nil] at h
        exact h⟩, unhide HTOP⟩
      have HT := hide htr
      rw [hjl]
      clear hrow hpa htr hjl
      go_wp2
      go_ret
      exact ⟨rfl, unhide HO, unhide HT⟩

set_option maxHeartbeats 1000000 in
theorem marklog_any (lo hi : Nat) (c f : Int) (a : Option Addr) (n cap : Nat) (ss : List Sta) (k : Int) (h1 : 0 ≤ k) (h2 : k ≤ 1000000) (w : World) (hn : n ≤ 2000000) (ht : tot ss ≤ 2100000) (hlt2 : ∀ (i : Nat) (s : Sta), ss[i]? = some s → s.1.length ≤ 1048576 ∧ s.2.length ≤ 1048576) (hx : OwS lo hi w (.slice a n cap) ss) :
    Calls Try.prog 28 #[LgV c f (.slice a n cap), .int .i64 k] w fun e w' => e = .returned (.int .i64 (ndS k ss)) ∧ OwS lo hi w' (.slice a n cap) (mkSs k ss) ∧ Trn (fun i => lo ≤ i ∧ i < hi) w w' := by
  have HX := hide hx
  clear hx
  go_enter Try.func28, Try.ntmps28
  go_wp2_with fail
  refine (markstates_any lo hi a n cap ss k h1 h2 _ hn ht hlt2 ((unhide HX).later ((Below.refl _ _).alloc (Nat.le_refl _) _))).mono ?_
  rintro e w1 ⟨rfl, o1, t1⟩
  have HO := hide o1
  have HT := hide ((Trn.of_below (S := fun i => lo ≤ i ∧ i < hi) ((Below.refl w.heap.size w).alloc (Nat.le_refl _) (LgO c f (.slice a n cap)))).trans t1)
  clear o1 t1
  go_wp2
  go_ret
  exact ⟨rfl, unhide HO, unhide HT⟩
set_option maxHeartbeats 4000000 in
set_option maxRecDepth 100000 in
theorem heldstates_any (a : Option Addr) (n cap : Nat) (ss : List Sta) (k : Int) (h1 : 0 ≤ k) (h2 : k ≤ 1000000) (w : World) (hn : n ≤ 2000000) (ht : tot ss ≤ 2100000) (hlt2 : ∀ (i : Nat) (s : Sta), ss[i]? = some s → s.1.length ≤ 1048576 ∧ s.2.length ≤ 1048576) (hx : RwS w (.slice a n cap) (mkSs k ss)) :
    Calls Try.prog 70 #[.slice a n cap, .int .i64 k] w fun e w' => e = .returned (.int .i64 (ndS k ss)) ∧ Below w.heap.size w w' := by
  have HL : Hid (n = ss.length) := hide (by have := hx.len.1; rw [mkSs_len] at this; exact this)
  have HX := hide hx
  have HT2 := hide hlt2
  clear hx hlt2
  go_enter Try.func70, Try.ntmps70
  go_wp2
  go_loopw [1, 5] (fun q i wr => ∃ j : Nat, j ≤ n ∧ i = .int .i64 j ∧ q = .int .i64 (ndS k (ss.take j)) ∧ Below w.heap.size w wr) (fun _ i _ => n - (intOf i).toNat)
  case atStart => exact ⟨0, Nat.zero_le _, rfl, rfl, Below.refl _ _⟩
  case round =>
    obtain ⟨j, hj, rfl, rfl, hbel⟩ := hrel
    by_cases hlt : j < n
    · obtain ⟨xs, fs, ai, ni, ci, af, nf, cf, b, off, hx, rfl, hb, hcap, c0, c1, rx, rf⟩ := (unhide HX).at hlt
      obtain ⟨s, hs⟩ : ∃ s, ss[j]? = some s := ⟨_, List.getElem?_eq_getElem (by have := unhide HL; omega)⟩
      rw [mkSs_at hs k, mkSt] at hx
      simp only [Option.some.injEq, Prod.mk.injEq] at hx
      obtain ⟨rfl, rfl⟩ := hx
      obtain ⟨l1, l2⟩ := unhide HT2 j s hs
      have hbd := ndS_le (ss.take j) k
      have hT := tot_at hs
      obtain rfl : ni = s.1.length := by rw [rx.len.1, mkIs_len]
      obtain rfl : nf = s.2.length := by rw [rf.len.1, mkFs_len]
      generalize hni : s.1.length = ni at *
      generalize hnf : s.2.length = nf at *
      generalize hq : ndS k (ss.take j) = q at *
      have d0 := (hbel.cell (p := ⟨b, off + j * 2, none⟩) hb).trans c0
      have d1 := (hbel.cell (p := ⟨b, off + j * 2 + 1, none⟩) hb).trans c1
      have hsz := hbel.size
      have RX := hide rx
      have RF := hide rf
      have HB := hide hbel
      have hq0 : 0 ≤ q := by omega
      have hq1 : q ≤ 20000000 := by omega
      have HE : Hid (ndS k (ss.take (j + 1)) = q + 6 * (ni : Int) + 2 * (nf : Int)) := hide (by rw [take_at hs, ndS_app, hq, ndS, ndS, nxt, hni, hnf])
      clear c0 c1 hbel rx rf hs hni hnf hq hbd hT
      go_wp2_with fail
      refine (heldI_any ai ni ci q hq0 (by omega) _ (by omega) ((unhide RX).later (unhide HB))).mono ?_
      rintro e w1 ⟨rfl, b1⟩
      have HB1 := hide ((unhide HB).trans (b1.mono hsz))
      have d1' := (b1.cell (p := ⟨b, off + j * 2 + 1, none⟩) (show b < wr.heap.size by omega)).trans d1
      have hbw : b < w1.heap.size := by have := b1.size; omega
      have hdd : decide (q + 6 * (ni : Int) < 0) = false := by simp; omega
      clear b1 d0 d1
      go_wp2_with fail
      refine (heldF_any af nf cf (q + 6 * ni) (by omega) (by omega) _ (by omega) ((unhide RF).later (unhide HB1))).mono ?_
      rintro e w2 ⟨rfl, b2⟩
      have HB2 := hide ((unhide HB1).trans (b2.mono (unhide HB1).size))
      have hdd2 : decide (q + 6 * (ni : Int) + 2 * (nf : Int) < 0) = false := by simp; omega
      clear b2 d1'
      go_wp2
      go_roundw
      case rel => exact ⟨j + 1, by omega, by go_num, by rw [unhide HE], unhide HB2⟩
      case measure => simp [intOf]; omega
    · have hjl : ss.take j = ss := List.take_of_length_le (by have := unhide HL; omega)
      have HB := hide hbel
      rw [hjl]
      clear hbel hjl
      go_wp2
      go_ret
      exact ⟨rfl, unhide HB⟩

set_option maxHeartbeats 1000000 in
theorem heldlog_any (c f : Int) (a : Option Addr) (n cap : Nat) (ss : List Sta) (k : Int) (h1 : 0 ≤ k) (h2 : k ≤ 1000000) (w : World) (hn : n ≤ 2000000) (ht : tot ss ≤ 2100000) (hlt2 : ∀ (i : Nat) (s : Sta), ss[i]? = some s → s.1.length ≤ 1048576 ∧ s.2.length ≤ 1048576) (hx : RwS w (.slice a n cap) (mkSs k ss)) :
    Calls Try.prog 29 #[LgV c f (.slice a n cap), .int .i64 k] w fun e w' => e = .returned (.int .i64 (ndS k ss)) ∧ Below w.heap.size w w' := by
  have HX := hide hx
  clear hx
  have hb := ndS_le ss k
  generalize hq : ndS k ss = q at hb ⊢
  have HQ := hide hq
  clear hq
  go_enter Try.func29, Try.ntmps29
  go_wp2_with fail
  refine (heldstates_any a n cap ss k h1 h2 _ hn ht hlt2 ((unhide HX).alloc _)).mono ?_
  rintro e w1 ⟨rfl, b1⟩
  have HB := hide (((Below.refl w.heap.size w).alloc (Nat.le_refl _) (LgO c f (.slice a n cap))).trans (b1.mono (by simp)))
  rw [unhide HQ]
  have hd : decide (q < 0) = false := by simp; omega
  clear b1
  go_wp2
  go_ret
  exact ⟨rfl, unhide HB⟩
end Go.Proofs.Ytdpaocikmijioaf
