/-
  A log is marked, marks are held. No statement is proved here.
  A list of states, a log in memory of one's own: the program's. No statement is proved here.
  The changes above some number; the log above it; its copy: the program's. No statement is proved here.
  The log above some number, its copy, a log that was dropped of or added to: the program's. No statement is proved here.
  spec.LogAdd: a change is logged. No statement is proved here.
  A variable that a drawn statement lays at some time, and stores a log of the call's own into. No program here, no statement is proved here.
  The specification's l3Join: it answers the joined lists, in memory of its own. No statement is proved here.
  StateJoin of the specification. No statement is proved here.
  Single, the program's and the specification's. No statement is proved here.
-/
import Derived.Test.YtdpaocikmijioacLgB
import Derived.Test.YtdpaocikmijioacLgD
import Derived.Test.YtdpaocikmijioacLgK
import Derived.Test.YtdpaocikmijioacLgQ
import Derived.Test.YtdpaocikmijioacLgV
import Derived.Test.YtdpaocikmijioacStJP
import Derived.Test.YtdpaocikmijioacApp2
import Derived.Test.YtdpaocikmijioacSStOk
import Derived.Test.YtdpaocikmijioacStT
import Derived.Test.YtdpaocikmijioacStM
import Derived.Deep.CutRange
import Derived.Test.YtdpaocikmijioacIStOk
import Derived.Test.YtdpaocikmijioacStA
import Derived.Test.YtdpaocikmijioacRegs6
namespace Go.Proofs.Ytdpaocikmijioac
open Go.RowKit

def mkSt (k : Int) (s : Sta) : Sta := (mkIs k s.1.length, mkFs (k + 6 * (s.1.length : Int)) s.2.length)
def nxt (k : Int) (s : Sta) : Int := k + 6 * (s.1.length : Int) + 2 * (s.2.length : Int)
def mkSs : Int → List Sta → List Sta
  | _, [] => []
  | k, s :: r => mkSt k s :: mkSs (nxt k s) r
def ndS : Int → List Sta → Int
  | k, [] => k
  | k, s :: r => ndS (nxt k s) r
theorem mkSs_app : ∀ (a b : List Sta) (k : Int), mkSs k (a ++ b) = mkSs k a ++ mkSs (ndS k a) b
  | [], b, k => rfl
  | s :: r, b, k => by rw [List.cons_append, mkSs, mkSs, ndS, mkSs_app r b]; rfl
theorem ndS_app : ∀ (a b : List Sta) (k : Int), ndS k (a ++ b) = ndS (ndS k a) b
  | [], b, k => rfl
  | s :: r, b, k => by rw [List.cons_append, ndS, ndS, ndS_app r b]
theorem mkSs_len : ∀ (a : List Sta) (k : Int), (mkSs k a).length = a.length
  | [], k => rfl
  | s :: r, k => by rw [mkSs, List.length_cons, List.length_cons, mkSs_len r]
theorem ndS_le : ∀ (a : List Sta) (k : Int), k ≤ ndS k a ∧ ndS k a ≤ k + 6 * (tot a : Int)
  | [], k => by simp [ndS, tot]
  | s :: r, k => by
    have := ndS_le r (nxt k s)
    rw [ndS, tot]
    unfold nxt at *
    omega
theorem mkSs_at {ss : List Sta} {j : Nat} {s : Sta} (h : ss[j]? = some s) (k : Int) : (mkSs k ss)[j]? = some (mkSt (ndS k (ss.take j)) s) := by
  have hj := (List.getElem?_eq_some_iff.1 h).1
  have e : ss = ss.take j ++ s :: ss.drop (j + 1) := by rw [← drop_at h, List.take_append_drop]
  conv => lhs; rw [e]
  rw [mkSs_app, List.getElem?_append_right (by rw [mkSs_len]; simp; omega), mkSs_len]
  have : j - (ss.take j).length = 0 := by simp; omega
  rw [this, mkSs]
  rfl
/-- The first j marked, the rest as it was. -/
def mix (k : Int) (ss : List Sta) (j : Nat) : List Sta := mkSs k (ss.take j) ++ ss.drop j
theorem mix_len (k : Int) (ss : List Sta) (j : Nat) : (mix k ss j).length = ss.length := by rw [mix, List.length_append, mkSs_len, ← List.length_append, List.take_append_drop]
theorem mix_at {k : Int} {ss : List Sta} {j : Nat} {s : Sta} (h : ss[j]? = some s) : (mix k ss j)[j]? = some s := by
  have hj := (List.getElem?_eq_some_iff.1 h).1
  rw [mix, List.getElem?_append_right (by rw [mkSs_len]; simp; omega), mkSs_len, show j - (ss.take j).length = 0 by simp; omega, drop_at h]; rfl
theorem mix_next {k : Int} {ss : List Sta} {j : Nat} {s : Sta} (h : ss[j]? = some s) : mix k ss (j + 1) = (mix k ss j).set j (mkSt (ndS k (ss.take j)) s) := by
  have hj := (List.getElem?_eq_some_iff.1 h).1
  rw [mix, mix, take_at h, mkSs_app, drop_at h, List.set_append_right _ _ (by rw [mkSs_len]; simp; omega), mkSs_len, show j - (ss.take j).length = 0 by simp; omega]
  simp [mkSs]

theorem Pa.turn {lo hi : Nat} {w w' : World} {ps : List Two} {ss : List Sta} {j : Nat} {p : Two} {s t : Sta} (h : Pa lo hi w ps ss) (hp : ps[j]? = some p) (hs : ss[j]? = some s) (h1 : OwI lo w' p.1 t.1) (h2 : OwF lo w' p.2 t.2) (k : Trn (fun i => p.1.ownBlock = some i ∨ p.2.ownBlock = some i) w w') : Pa lo hi w' ps (ss.set j t) := by
  have hjl := (List.getElem?_eq_some_iff.1 hp).1
  refine ⟨by simp [h.len], fun i q u hq hu => ?_, h.top, h.apt⟩
  rw [List.getElem?_set] at hu
  by_cases e : j = i
  · subst e
    rw [if_pos rfl, if_pos (by rw [← h.len]; exact hjl)] at hu
    rw [hp] at hq
    cases hq; cases hu
    exact ⟨h1, h2⟩
  · rw [if_neg e] at hu
    obtain ⟨o1, o2⟩ := h.ins i q u hq hu
    obtain ⟨q1, q2⟩ := h.ins j p s hp hs
    have hil := (List.getElem?_eq_some_iff.1 hq).1
    have hap : (∀ g, p.1.ownBlock = some g → q.1.ownBlock ≠ some g) ∧ (∀ g, p.2.ownBlock = some g → q.2.ownBlock ≠ some g) := by
      have ep := (List.getElem?_eq_some_iff.1 hp).2
      have eq := (List.getElem?_eq_some_iff.1 hq).2
      by_cases hlt : j < i
      · have := List.pairwise_iff_getElem.1 h.apt j i hjl hil hlt
        rw [ep, eq] at this
        exact this
      · have := List.pairwise_iff_getElem.1 h.apt i j hil hjl (by omega)
        rw [ep, eq] at this
        exact ⟨fun g a b => this.1 g b a, fun g a b => this.2 g b a⟩
    have a1 := owns_apart o2 q1 (by decide)
    have a2 := owns_apart o1 q2 (by decide)
    refine ⟨k.own o1 (fun g hg kk => ?_), k.own o2 (fun g hg kk => ?_)⟩
    · rcases kk with kk | kk
      · exact hap.1 g kk hg
      · rcases a2 with a | a
        · rw [a] at hg; cases hg
        · exact a (hg.trans kk.symm)
    · rcases kk with kk | kk
      · rcases a1 with a | a
        · rw [a] at hg; cases hg
        · exact a (hg.trans kk.symm)
      · exact hap.2 g kk hg
/-- A state of a row of the call's own: where it lies, what is in it. -/
theorem at2 {base : Nat} {w : World} {a : Option Addr} {n cap : Nat} {ps : List Two} (h : OwV base w (.slice a n cap) ps) {i : Nat} (hi : i < n) : ∃ p g, ps[i]? = some p ∧ a = some ⟨g, 0, none⟩ ∧ n ≤ cap ∧ g < w.heap.size ∧ w.cell? ⟨g, i * 2, none⟩ = some p.1 ∧ w.cell? ⟨g, i * 2 + 1, none⟩ = some p.2 := by
  have r := Ow.rw encS_len h
  obtain ⟨p, b, off, hp, rfl, hb, hc, cc⟩ := r.at hi
  rcases h.2 with ⟨hv, _⟩ | ⟨g, cap', cur, hv, hlo, hh, hr⟩
  · simp at hv
  · simp only [Value.slice.injEq, Option.some.injEq, Addr.mk.injEq, and_true] at hv
    obtain ⟨⟨rfl, rfl⟩, -, -⟩ := hv
    exact ⟨p, b, hp, rfl, hc, hb, by simpa [encS] using cc 0 (by omega), by simpa [encS] using cc 1 (by omega)⟩
theorem OwV.trn {S : Nat → Prop} {base : Nat} {w w' : World} {v : Value} {ps : List Two} (h : OwV base w v ps) (k : Trn S w w') (hs : ∀ i, S i → ∀ cs fz, w.heap[i]? ≠ some (.cells cs 30 fz)) : OwV base w' v ps :=
  k.own h (fun i hi q => by obtain ⟨cs, fz, hb⟩ := OwV.blk h i hi; exact hs i q cs fz hb)
theorem ow_type {α : Type} {enc : α → List Value} {k : Nat} {E T : TypeId} {base : Nat} {w : World} {v : Value} {xs : List α} (h : Ow enc k E base w v xs) (hne : E ≠ T) : ∀ i, v.ownBlock = some i → ∀ cs fz, w.heap[i]? ≠ some (.cells cs T fz) := by
  intro i hi cs fz hb
  rcases h.2 with ⟨rfl, _⟩ | ⟨g', cap, cur, rfl, _, hh, _⟩
  · cases hi
  · simp only [Value.ownBlock, Option.some.injEq] at hi
    subst hi
    rw [hh] at hb
    simp at hb
    exact hne hb.2.1

end Go.Proofs.Ytdpaocikmijioac

namespace Go.Proofs.Ytdpaocikmijioac
open Go.RowKit

theorem oneSs {w : World} {ps : List Two} {ss : List Sta} (h : Ins w ps ss) : ∀ u ∈ ps.flatMap encS, u.oneCell' = true := by
  intro u hu
  obtain ⟨p, hp, hx⟩ := List.mem_flatMap.1 hu
  obtain ⟨i, hi, hpi⟩ := List.mem_iff_getElem.1 hp
  have hl : i < ss.length := h.len ▸ hi
  obtain ⟨r1, r2⟩ := h.ins i p ss[i] (by simp [hi, hpi]) (by simp)
  obtain ⟨a, n, c, e1, -⟩ := r1.form
  obtain ⟨b, m, d, e2, -⟩ := r2.form
  exact oneS p (by rw [e1]; rfl) (by rw [e2]; rfl) u hx
theorem mix_put {α : Type} (qs ps : List α) (k : Nat) (q : α) (hq : qs.length = k) (hk : k < ps.length) : (qs ++ ps.drop k).set k q = (qs ++ [q]) ++ ps.drop (k + 1) := by
  subst hq
  rw [List.set_append_right _ _ (Nat.le_refl _), Nat.sub_self, List.drop_eq_getElem_cons hk, List.set_cons_zero, List.append_assoc]; rfl

set_option maxHeartbeats 8000000 in
set_option maxRecDepth 100000 in
theorem ichangescopy_any (a : Option Addr) (n cap : Nat) (ss : List Sta) (hS : SmlS ss) (w : World) (hn : n ≤ 2000000) (ht : ∀ (i : Nat) (s : Sta), ss[i]? = some s → s.1.length ≤ 1048576 ∧ s.2.length ≤ 1048576) (hx : RwS w (.slice a n cap) ss) :
    Calls Try.prog 42 #[.slice a n cap] w fun e w' => ∃ a' c', e = .returned (.slice a' n c') ∧ OwS w.heap.size w'.heap.size w' (.slice a' n c') ss ∧ Below w.heap.size w w' := by
  obtain ⟨i0, hi, hz0, hz1, hz2⟩ := info_parts Try.infoState
  have hb2 : i0.bytes * n ≤ 281474976710656 := by rw [hz2]; omega
  have hml : n ≤ maxLen := by unfold maxLen; omega
  have HL := hide hx.len.1
  obtain ⟨ps, hr, hins⟩ := hx
  have HR := hide hr
  have HI := hide hins
  have LP := hide hr.len.1
  have HS := hide hS
  have HT := hide ht
  have HZ2 := hide hz2
  clear hz2 hr hins hS ht
  go_enter Try.func42, Try.ntmps42
  go_wp2_with (first | (at_make; refine wpList_make_full _ rfl _ _ 24 rfl w.heap.size 30 i0 (.agg #[.slice none 0 0, .slice none 0 0]) 2 Try.underlying24 hi hz0 hz1 .i64 .i64 _ _ n rfl rfl rfl rfl hb2 hml (Nat.le_refl _) ?_))
  intro w1 hown hgrow
  have hbel : Below w.heap.size w w1 := (Below.refl _ _).grown hgrow (Nat.le_refl _) (fun k hk => by cases hk)
  have hown0 : OwV w.heap.size w1 (.slice (some ⟨w.heap.size, 0, none⟩) n n) (List.replicate n zeroS) := by
    rw [made_flat (enc := encS) (by omega) encS_len #[.slice none 0 0, .slice none 0 0] zeroS rfl n] at hown
    unfold OwV Ow
    simpa using hown
  obtain ⟨w2, hrun, o2, g2⟩ := copy_own (P := Try.prog) encS_len (by omega) 30 24 i0 Try.underlying24 hi hz1 w1 w.heap.size (.slice (some ⟨w.heap.size, 0, none⟩) n n) (.slice a n cap) (List.replicate n zeroS) ps n (unhide LP) (oneSs (unhide HI)) hown0 ((unhide HR).later hbel) (by rw [List.length_replicate]; exact unhide LP) 3
  have hb2 : Below w.heap.size w w2 := (Trn.of_grown g2).below hbel hbel.size (fun i q => by have := (World.ownsRow.lt hown0 _ q).1; omega)
  have O2 := hide o2
  have B2 := hide hb2
  clear hown hgrow hown0 hbel g2 o2 hb2
  go_wp2
  go_loopw [13] (fun i wr => ∃ (k : Nat) (qs : List Two), k ≤ n ∧ i = .int .i64 k ∧ qs.length = k ∧ OwV w.heap.size wr (.slice (some ⟨w.heap.size, 0, none⟩) n n) (qs ++ ps.drop k) ∧ Pa w.heap.size wr.heap.size wr qs (ss.take k) ∧ Below w.heap.size w wr) (fun i _ => n - (intOf i).toNat)
  case atStart => exact ⟨0, [], Nat.zero_le _, rfl, rfl, unhide O2, Pa.nil _ _ _, unhide B2⟩
  case round =>
    obtain ⟨k, qs, hk, rfl, hql, hown, hpa, hb⟩ := hrel
    clear O2 B2 hrun
    by_cases hlt : k < n
    · have hkp : k < ps.length := by have := unhide LP; omega
      obtain ⟨p, hp⟩ : ∃ p, ps[k]? = some p := ⟨_, List.getElem?_eq_getElem hkp⟩
      obtain ⟨⟨xs, fs⟩, hs⟩ : ∃ s, ss[k]? = some s := ⟨_, List.getElem?_eq_getElem (by have := (unhide HI).len; omega)⟩
      obtain ⟨r1, r2⟩ := (unhide HI).ins k p _ hp hs
      obtain ⟨ai, ni, ci, e1, l1⟩ := r1.form
      obtain ⟨af, nf, cf, e2, l2⟩ := r2.form
      obtain ⟨v1, v2⟩ := p
      simp only at e1 e2 r1 r2 l1 l2
      subst e1 e2
      obtain ⟨m1, m2⟩ := unhide HT k _ hs
      simp only at m1 m2
      have hn1 : ni ≤ 2000000 := by omega
      have hn2 : nf ≤ 2000000 := by omega
      have hgk : (qs ++ ps.drop k)[k]? = some (.slice ai ni ci, .slice af nf cf) := by
        rw [List.getElem?_append_right (by omega), hql, Nat.sub_self, List.getElem?_drop, Nat.add_zero]; exact hp
      obtain ⟨p', g', hp', ha', -, hgl', d0, d1⟩ := at2 hown hlt
      simp only [Option.some.injEq, Addr.mk.injEq, and_true] at ha'
      obtain rfl := ha'
      rw [hgk] at hp'
      cases hp'
      simp only at d0 d1
      have HSx := hide (unhide HS k _ hs)
      have RX := hide (r1.later hb)
      have RF := hide (r2.later hb)
      have HO := hide hown
      have HP := hide hpa
      have HB := hide hb
      have hsz := hb.size
      have HX1 := hide hs
      have HQL := hide hql
      clear hown hpa hb hs hp r1 r2 hgk hql l1 l2 m1 m2
      go_wp2_with fail
      refine (istatecopy_any ai ni ci xs (unhide HSx) af nf cf fs _ hn1 hn2 (unhide RX) (unhide RF)).mono ?_
      rintro e w2 ⟨a1, c1, a2, c2, rfl, o1, o2, b2⟩
      have hown2 := (unhide HO).later b2
      have hpa2 := (unhide HP).later b2
      have hb3 := (unhide HB).trans (b2.mono hsz)
      have hz2 := b2.size
      have hfl : (qs ++ ps.drop k).length = n := by have := unhide HQL; have := unhide LP; simp; omega
      obtain ⟨y0, y1, z0, z1, zf⟩ := own_cells2 (show w2.ownsRow w.heap.size 30 2 (.slice (some ⟨w.heap.size, 0, none⟩) n n) n _ from by have h := hown2; unfold OwV Ow at h; rw [hfl] at h; exact h) hlt
      have R1 := hown2.put (by omega) encS_len hfl.symm k hlt (.slice a1 ni c1, .slice a2 nf c2)
      have hG := (setW_own (encS (.slice a1 ni c1, .slice a2 nf c2)) (show w2.ownsRow w.heap.size 30 2 (.slice (some ⟨w.heap.size, 0, none⟩) n n) n _ from by have h := hown2; unfold OwV Ow at h; rw [hfl] at h; exact h) (k * 2)).2
      have hP3 := (hpa2.snoc (p := (.slice a1 ni c1, .slice a2 nf c2)) (s := (xs, fs)) (hi' := w2.heap.size) o1 o2 (Nat.le_refl _) hsz (Nat.le_refl _) hz2).other (fun g hg => OwV.blk hown2 g (by simpa [Value.ownBlock] using hg)) hG
      rw [← take_at (unhide HX1)] at hP3
      rw [mix_put qs ps k _ (unhide HQL) hkp] at R1
      have HR1 := hide R1
      have HR2 := hide (setW_below (g := w.heap.size) (Nat.le_refl _) (encS (.slice a1 ni c1, .slice a2 nf c2)) hb3 (k * 2))
      have HP3 := hide hP3
      have HSZ := hide (setW_size (encS (.slice a1 ni c1, .slice a2 nf c2)) w2 w.heap.size (k * 2))
      clear hown2 hb3 b2 R1 HO HB HX1 hfl hpa2 hG hP3 o1 o2 HP d0 d1 RX RF HSx
      go_wp2
      go_roundw
      case rel =>
        refine ⟨k + 1, qs ++ [((Value.slice a1 ni c1, Value.slice a2 nf c2) : Two)], by omega, by go_num, by simp [unhide HQL], ?_, ?_, unhide HR2⟩
        · exact unhide HR1
        · have h := unhide HP3
          rw [← unhide HSZ] at h
          exact h
      case measure => simp [intOf]; omega
    · have hkn : k = n := by omega
      have HO : Hid (OwS w.heap.size wr.heap.size wr (.slice (some ⟨w.heap.size, 0, none⟩) n n) ss) := by
        refine hide ⟨⟨qs, ?_, ?_⟩, fun g hg => (World.ownsRow.lt hown g (by simpa [Value.ownBlock] using hg)).2⟩
        · have h := hown
          rw [List.drop_of_length_le (by have := unhide LP; omega), List.append_nil] at h
          exact h
        · have h := hpa
          rw [List.take_of_length_le (by have := unhide HL; omega)] at h
          exact h
      have HB := hide hb
      clear hown hb hpa
      go_wp2
      go_ret
      exact ⟨_, _, rfl, unhide HO, unhide HB⟩
end Go.Proofs.Ytdpaocikmijioac

namespace Go.Proofs.Ytdpaocikmijioac
open Go.RowKit

theorem RwS.drop {w : World} {a : Option Addr} {n cap k m : Nat} {ss : List Sta} (h : RwS w (.slice a n cap) ss) (hk : n = k + m) (h0 : ¬ m = 0) : RwS w (.slice (a.map fun x => x.add (k * 2)) m m) (ss.drop k) := by
  obtain ⟨ps, h1, h2⟩ := h
  have hl := h1.len.1
  obtain ⟨a', cap', e, hc, hr⟩ := h1
  simp only [Value.slice.injEq] at e
  obtain ⟨rfl, -, rfl⟩ := e
  rcases hr with rfl | ⟨b, off, rfl, hb, hcell⟩
  · simp at hl; omega
  · have hlm : (ps.drop k).length = m := by simp; omega
    refine ⟨ps.drop k, ⟨some ⟨b, off + k * 2, none⟩, m, ?_, by omega, .inr ⟨b, off + k * 2, rfl, hb, fun i x hx j hj => ?_⟩⟩, by simp [h2.len], fun i p s hp hs => ?_⟩
    · rw [hlm]; simp [add_off]
    · rw [List.getElem?_drop] at hx
      rw [show off + k * 2 + i * 2 + j = off + (k + i) * 2 + j by omega]
      exact hcell (k + i) x hx j hj
    · rw [List.getElem?_drop] at hp hs
      exact h2.ins (k + i) p s hp hs
theorem RwS.none {w : World} {a : Option Addr} {c : Nat} : RwS w (.slice a 0 c) [] := ⟨[], ⟨a, c, rfl, Nat.zero_le _, .inl rfl⟩, rfl, fun i p s hp => by simp at hp⟩

set_option maxHeartbeats 8000000 in
set_option maxRecDepth 100000 in
theorem iabove_any (c f : Int) (a : Option Addr) (n cap : Nat) (ss : List Sta) (seq : Int) (k m : Nat) (hk : n = k + m) (hs : seq - f = (k : Int)) (w0 w : World) (hn : n ≤ 140737488351232) (hx : RwS w0 (.slice a n cap) ss) :
    Calls Try.prog 43 #[LgV c f (.slice a n cap), .int .i64 seq] w fun e w' => ∃ a', e = .returned (.slice a' m m) ∧ RwS w0 (.slice a' m m) (ss.drop k) ∧ Below w.heap.size w w' := by
  have HX := hide hx
  have hcap := hx.len.2
  have HL := hide hx.len.1
  have HB := hide ((Below.refl w.heap.size w).alloc (Nat.le_refl _) (LgO c f (.slice a n cap)))
  clear hx
  go_enter Try.func43, Try.ntmps43
  go_wp2
  · go_ret
    obtain rfl : m = 0 := by omega
    refine ⟨_, rfl, ?_, by have h := unhide HB; rw [hk] at h; exact h⟩
    rw [List.drop_of_length_le (by have := unhide HL; omega)]
    exact RwS.none
  · go_ret
    exact ⟨_, rfl, (unhide HX).drop hk (by omega), by have h := unhide HB; rw [hk] at h; exact h⟩
def kps (c f : Int) (ss : List Sta) (seq : Int) : Bool := lok c f ss && inB seq f (f + (ss.length : Int))
set_option maxHeartbeats 8000000 in
set_option maxRecDepth 100000 in
theorem ikeeps_any (c f : Int) (a : Option Addr) (n cap : Nat) (ss : List Sta) (seq : Int) (r : Bool) (h0 : Hid (kps c f ss seq = r)) (w : World) (hn : n ≤ 140737488351232) (ht : tot ss ≤ 140737488351232) (hx : RwS w (.slice a n cap) ss) :
    Calls Try.prog 47 #[LgV c f (.slice a n cap), .int .i64 seq] w fun e w' => e = .returned (.bool r) ∧ Below w.heap.size w w' := by
  have HX := hide hx
  have HL := hide hx.len.1
  obtain ⟨ok, hok⟩ : ∃ ok, lok c f ss = ok := ⟨_, rfl⟩
  have hE := unhide h0
  rw [kps, hok] at hE
  have HOK := hide hok
  obtain ⟨sv, hsv⟩ : ∃ sv, lsq c f ss = sv := ⟨_, rfl⟩
  have HSV := hide hsv
  have HB := hide ((Below.refl w.heap.size w).alloc (Nat.le_refl _) (LgO c f (.slice a n cap)))
  clear hx h0 hok hsv
  go_enter Try.func47, Try.ntmps47
  go_upto_region 1 with fail
  obtain ⟨V, hV⟩ : ∃ V, V = w.alloc (LgO c f (.slice a n cap)) := ⟨_, rfl⟩
  have bV : Below w.heap.size w V := by rw [hV]; exact unhide HB
  have kV : V.heap[w.heap.size]? = some (LgO c f (.slice a n cap)) := by rw [hV]; exact heap_alloc_new w _
  rw [← hV]
  have zV : w.heap.size < V.heap.size := (Array.getElem?_eq_some_iff.1 kV).1
  obtain ⟨p0, p1, p2, -⟩ := blk_cells3 kV
  have l0 := later_some (w := V) zV p0
  have l1 := later_some (w := V) zV p1
  have l2 := later_some (w := V) zV p2
  have RX := hide ((unhide HX).later bV)
  have BV := hide bV
  clear hV bV kV p0 p1 p2 HX HB
  cases ok
  · obtain rfl : r = false := by rw [← hE]; rfl
    clear hE
    refine wp_region_later (by kernel_rfl) (by kernel_rfl) ?_
    repeat (go_big_quiet_step (first | (go_at_call 16; exact Calls.later_of (ilogok_any c f a n cap ss false HOK _ hn ht ((unhide RX).later (later_below _ _ _))))))
    refine wpQuiet_nil ?_
    intro w1 hb1
    have HB1 := hide ((unhide BV).trans (hb1.mono (by omega)))
    clear hb1 l0 l1 l2
    go_wp2
    go_ret
    exact ⟨rfl, unhide HB1⟩
  · have hq : sv = f + (n : Int) := by rw [← unhide HSV, lsq, if_pos (unhide HOK), unhide HL]
    have HQ : Hid (inB seq f sv = r) := hide (by rw [hq, unhide HL]; simpa using hE)
    clear hE hq
    refine wp_region_later (by kernel_rfl) (by kernel_rfl) ?_
    repeat (go_big_quiet_step (first
      | (go_at_call 16; exact Calls.later_of (ilogok_any c f a n cap ss true HOK _ hn ht ((unhide RX).later (later_below _ _ _))))
      | (go_at_call 14; exact Calls.later_of (ilogseq_any c f a n cap ss sv HSV _ hn ht ((unhide RX).later (later_below _ _ _))))
      | (go_at_call 50; exact Calls.later_same (within_is seq f sv r (unhide HQ) _))))
    refine wpQuiet_nil ?_
    intro w1 hb1
    have HB1 := hide ((unhide BV).trans (hb1.mono (by omega)))
    clear hb1 l0 l1 l2
    cases r
    all_goals go_wp2
    all_goals go_ret
    all_goals exact ⟨rfl, unhide HB1⟩
end Go.Proofs.Ytdpaocikmijioac

namespace Go.Proofs.Ytdpaocikmijioac
open Go.RowKit

/-- While a log is laid: the argument's variable, the result's. -/
structure Lv (w W : World) (c f : Int) (v : Value) : Prop where
  bel : Below w.heap.size w W
  k1 : W.heap[w.heap.size]? = some (LgO c f v)
  k2 : W.heap[w.heap.size + 1]? = some (LgO 0 0 (.slice none 0 0))
theorem Lv.lt {w W : World} {c f : Int} {v : Value} (h : Lv w W c f v) : w.heap.size + 1 < W.heap.size := (Array.getElem?_eq_some_iff.1 h.k2).1
theorem Lv.later {w W Y : World} {c f : Int} {v : Value} (h : Lv w W c f v) (b : Below W.heap.size W Y) : Lv w Y c f v := by
  have := h.lt
  exact ⟨h.bel.trans (b.mono h.bel.size), (b.block _ (by omega)).trans h.k1, (b.block _ h.lt).trans h.k2⟩
theorem Lv.drewH {w W : World} {c f : Int} {v : Value} (h : Hid (Lv w W c f v)) : Hid (Lv w W.drew c f v) := hide ((unhide h).later ((Below.refl _ _).drew))
theorem kLv {w W : World} {c f : Int} {v : Value} (h : Hid (Lv w W c f v)) : Below w.heap.size w W ∧ W.cell? ⟨w.heap.size, 0, none⟩ = some (.int .i64 c) ∧ W.cell? ⟨w.heap.size, 1, none⟩ = some (.int .i64 f) ∧ W.cell? ⟨w.heap.size, 2, none⟩ = some v := by
  obtain ⟨p0, p1, p2, -⟩ := blk_cells3 (unhide h).k1
  exact ⟨(unhide h).bel, p0, p1, p2⟩
theorem kLvs {w W : World} {c f : Int} {v : Value} (h : Hid (Lv w W c f v)) (u0 u1 u2 : Value) : Below w.heap.size w (((W.setCell ⟨w.heap.size + 1, 0, none⟩ u0).setCell ⟨w.heap.size + 1, 1, none⟩ u1).setCell ⟨w.heap.size + 1, 2, none⟩ u2) ∧ (((W.setCell ⟨w.heap.size + 1, 0, none⟩ u0).setCell ⟨w.heap.size + 1, 1, none⟩ u1).setCell ⟨w.heap.size + 1, 2, none⟩ u2).cell? ⟨w.heap.size, 0, none⟩ = some (.int .i64 c) ∧ (((W.setCell ⟨w.heap.size + 1, 0, none⟩ u0).setCell ⟨w.heap.size + 1, 1, none⟩ u1).setCell ⟨w.heap.size + 1, 2, none⟩ u2).cell? ⟨w.heap.size, 1, none⟩ = some (.int .i64 f) ∧ (((W.setCell ⟨w.heap.size + 1, 0, none⟩ u0).setCell ⟨w.heap.size + 1, 1, none⟩ u1).setCell ⟨w.heap.size + 1, 2, none⟩ u2).cell? ⟨w.heap.size, 2, none⟩ = some v := by
  obtain ⟨p0, p1, p2, -⟩ := blk_cells3 (blk_at (h := w.heap.size + 1) (o := 2) (u := u2) (blk_at (h := w.heap.size + 1) (o := 1) (u := u1) (blk_at (h := w.heap.size + 1) (o := 0) (u := u0) (unhide h).k1 (by omega)) (by omega)) (by omega))
  exact ⟨below_set3 (by omega) (unhide h).bel, p0, p1, p2⟩
theorem Lv.new (w : World) (c f : Int) (v : Value) : Lv w ((w.alloc (LgO c f v)).alloc (LgO 0 0 (.slice none 0 0))) c f v :=
  ⟨((Below.refl w.heap.size w).alloc (Nat.le_refl _) _).alloc (by simp) _, lowB2 w _ _, newB2 w _ _⟩
theorem SmlS.drop {ss : List Sta} (h : SmlS ss) (k : Nat) : SmlS (ss.drop k) := fun i s hs => by rw [List.getElem?_drop] at hs; exact h _ s hs
def SzS (ss : List Sta) : Prop := ∀ (i : Nat) (s : Sta), ss[i]? = some s → s.1.length ≤ 1048576 ∧ s.2.length ≤ 1048576
theorem SzS.drop {ss : List Sta} (h : SzS ss) (k : Nat) : SzS (ss.drop k) := fun i s hs => by rw [List.getElem?_drop] at hs; exact h _ s hs
theorem SzS.tot {ss : List Sta} (h : tot ss ≤ 1048576) : SzS ss := fun i s hs => by have := tot_at hs; omega

set_option maxHeartbeats 8000000 in
set_option maxRecDepth 100000 in
theorem ilogabove_any (c f : Int) (a : Option Addr) (n cap : Nat) (ss : List Sta) (seq : Int) (k m : Nat) (hk : n = k + m) (hs : seq - f = (k : Int)) (hS : SmlS ss) (hz : SzS ss) (w : World) (hn : n ≤ 2000000) (hx : RwS w (.slice a n cap) ss) :
    Calls Try.prog 82 #[LgV c f (.slice a n cap), .int .i64 seq] w fun e w' => ∃ a' c', e = .returned (LgV c seq (.slice a' m c')) ∧ OwS w.heap.size w'.heap.size w' (.slice a' m c') (ss.drop k) ∧ Below w.heap.size w w' := by
  have HX := hide hx
  have HS := hide (hS.drop k)
  have HZ := hide (hz.drop k)
  have hm : m ≤ 2000000 := by omega
  have HK := hide hk
  have HSQ := hide hs
  clear hx hS hz hk hs
  go_enter Try.func82, Try.ntmps82
  go_upto_region 1 with fail
  obtain ⟨V, hV⟩ : ∃ V, V = (w.alloc (LgO c f (.slice a n cap))).alloc (LgO 0 0 (.slice none 0 0)) := ⟨_, rfl⟩
  have CV := hide (show Lv w V c f (.slice a n cap) from by rw [hV]; exact Lv.new _ _ _ _)
  rw [← hV]
  clear hV
  have CD := Lv.drewH CV
  have z1 := (unhide CV).lt
  have z0 : w.heap.size < V.heap.size := by omega
  go_region_held3 (fun W => Below w.heap.size w W ∧ W.cell? ⟨w.heap.size, 0, none⟩ = some (.int .i64 c) ∧ W.cell? ⟨w.heap.size, 1, none⟩ = some (.int .i64 f) ∧ W.cell? ⟨w.heap.size, 2, none⟩ = some (.slice a n cap))
    (first | (with_reducible exact kLv CV) | (with_reducible exact kLv CD) | (with_reducible exact kLv CA) | (with_reducible exact kLv CB) | (with_reducible exact kLvs CB _ _ _))
    (first
      | (go_at_call 43; refine (iabove_any c f a n cap ss seq k m (unhide HK) (unhide HSQ) w _ (by omega) (unhide HX)).mono ?_; rintro e w3 ⟨a3, rfl, r3, b3⟩; (first | (with_reducible have CA := hide ((unhide CD).later b3)) | (with_reducible have CA := hide ((unhide CV).later b3))); have R3 := hide r3; clear b3 r3)
      | (go_at_call 42; refine (ichangescopy_any a3 m m (ss.drop k) (unhide HS) _ (by omega) (unhide HZ) ((unhide R3).later (kb1 (by assumption)))).mono ?_; rintro e w4 ⟨a4, c4, rfl, o4, b4⟩; have CB := hide ((unhide CA).later b4); have O4 := hide (o4.mono (unhide CA).bel.size (Nat.le_refl _)); obtain ⟨p0, p1, p2, pf⟩ := blk_cells3 (unhide CB).k2; have zB := (unhide CB).lt; clear o4 b4))
  all_goals go_wp2
  all_goals exact bodyPost_ret (v := LgV c seq (.slice a4 m c4)) (by simp [results, Try.results82, go_sem, p0, p1, p2]) rfl ⟨a4, c4, rfl, by have h := log_set (unhide CB).k2 (.int .i64 c) (.int .i64 seq) (.slice a4 m c4) (unhide O4); simpa using h, (kLvs CB _ _ _).1⟩
set_option maxHeartbeats 8000000 in
set_option maxRecDepth 100000 in
theorem ilogcopy_any (c f : Int) (a : Option Addr) (n cap : Nat) (ss : List Sta) (hS : SmlS ss) (hz : SzS ss) (w : World) (hn : n ≤ 2000000) (hx : RwS w (.slice a n cap) ss) :
    Calls Try.prog 41 #[LgV c f (.slice a n cap)] w fun e w' => ∃ a' c', e = .returned (LgV c f (.slice a' n c')) ∧ OwS w.heap.size w'.heap.size w' (.slice a' n c') ss ∧ Below w.heap.size w w' := by
  have HX := hide hx
  have HS := hide hS
  have HZ := hide hz
  clear hx hS hz
  have hf0 : f - f = ((0 : Nat) : Int) := by simp
  go_enter Try.func41, Try.ntmps41
  go_wp2_with fail
  refine (ilogabove_any c f a n cap ss f 0 n (by omega) hf0 (unhide HS) (unhide HZ) _ hn ((unhide HX).later (Lv.new w c f (.slice a n cap)).bel)).mono ?_
  rintro e w3 ⟨a3, c3, rfl, o3, b3⟩
  have CA := hide ((Lv.new w c f (.slice a n cap)).later b3)
  have O3 := hide (o3.mono (Lv.new w c f (.slice a n cap)).bel.size (Nat.le_refl _))
  obtain ⟨p0, p1, p2, pf⟩ := blk_cells3 (unhide CA).k2
  have zA := (unhide CA).lt
  clear o3 b3
  go_wp2
  exact bodyPost_ret (v := LgV c f (.slice a3 n c3)) (by simp [results, Try.results41, go_sem, p0, p1, p2]) rfl ⟨a3, c3, rfl, by have h := log_set (unhide CA).k2 (.int .i64 c) (.int .i64 f) (.slice a3 n c3) (unhide O3); simpa using h, (kLvs CA _ _ _).1⟩
end Go.Proofs.Ytdpaocikmijioac

namespace Go.Proofs.Ytdpaocikmijioac
open Go.RowKit

theorem app_keep {w4 w6 : World} {O : Obj} {v : Value} (hG : (w4.alloc O).grownBy w6 v.ownBlock) {g : Nat} {x : Obj} (hk : w4.heap[g]? = some x) (hne : v.ownBlock ≠ some g) : w6.heap[g]? = some x := by
  have hlt : g < w4.heap.size := (Array.getElem?_eq_some_iff.1 hk).1
  exact (hG.block g (by simp; omega) (fun e => hne e.symm)).trans ((Below.heap_alloc _ _ _ hlt).trans hk)

def lar (c f : Int) (ss : List Sta) (d : Sta) : Bool := lok c f ss && okS d.1 d.2 && !(f + (ss.length : Int) == 100000)
def lad (r : Bool) (c f : Int) (ss : List Sta) (d : Sta) : Int × List Sta := if r = true then (if (ss.length : Int) = c then (f + 1, (ss ++ [d]).drop 1) else (f, ss ++ [d])) else (f, ss)

/-- While a change is added: both arguments' variables, the result's, the new log's. -/
structure La7 (w W : World) (c f c2 f2 : Int) (va v1 v2 : Value) (g : Nat) (v : Value) : Prop where
  bel : Below w.heap.size w W
  k1 : W.heap[w.heap.size]? = some (LgO c f va)
  k2 : W.heap[w.heap.size + 1]? = some (.cells #[v1, v2] 30 (0, 0))
  k3 : W.heap[w.heap.size + 1 + 1]? = some (LgO 0 0 (.slice none 0 0))
  kg : W.heap[g]? = some (LgO c2 f2 v)
theorem La7.later {w W Y : World} {c f c2 f2 : Int} {va v1 v2 : Value} {g : Nat} {v : Value} (h : La7 w W c f c2 f2 va v1 v2 g v) (b : Below W.heap.size W Y) : La7 w Y c f c2 f2 va v1 v2 g v :=
  ⟨h.bel.trans (b.mono h.bel.size), (b.block _ (Array.getElem?_eq_some_iff.1 h.k1).1).trans h.k1, (b.block _ (Array.getElem?_eq_some_iff.1 h.k2).1).trans h.k2, (b.block _ (Array.getElem?_eq_some_iff.1 h.k3).1).trans h.k3, (b.block _ (Array.getElem?_eq_some_iff.1 h.kg).1).trans h.kg⟩
theorem La7.lt {w W : World} {c f c2 f2 : Int} {va v1 v2 : Value} {g : Nat} {v : Value} (h : La7 w W c f c2 f2 va v1 v2 g v) : w.heap.size + 1 + 1 < W.heap.size ∧ g < W.heap.size := ⟨(Array.getElem?_eq_some_iff.1 h.k3).1, (Array.getElem?_eq_some_iff.1 h.kg).1⟩

/-- Behind append(out.List, x). -/
structure Ad7 (w W : World) (c2 f2 : Int) (g : Nat) (v u : Value) (ss : List Sta) : Prop where
  bel : Below w.heap.size w W
  k3 : W.heap[w.heap.size + 1 + 1]? = some (LgO 0 0 (.slice none 0 0))
  kg : W.heap[g]? = some (LgO c2 f2 v)
  row : OwW (w.heap.size + 1 + 1 + 1) W u ss
theorem Ad7.lt {w W : World} {c2 f2 : Int} {g : Nat} {v u : Value} {ss : List Sta} (h : Ad7 w W c2 f2 g v u ss) : w.heap.size + 1 + 1 < W.heap.size ∧ g < W.heap.size := ⟨(Array.getElem?_eq_some_iff.1 h.k3).1, (Array.getElem?_eq_some_iff.1 h.kg).1⟩
theorem add7_facts {w w4 w6 : World} {c f c2 f2 : Int} {va v1 v2 v u : Value} {g : Nat} {ps : List Two} {p : Two} {ss : List Sta} {s : Sta} {O : Obj} (h : La7 w w4 c f c2 f2 va v1 v2 g v) (_ : w.heap.size + 1 + 1 + 1 ≤ g) (row : OwV (w.heap.size + 1 + 1 + 1) w4 v ps) (wn : Wn (w.heap.size + 1 + 1 + 1) w4 ps ss) (o5 : Wk7I (w.heap.size + 1 + 1 + 1) w4 p.1 s.1) (o6 : Wk7F (w.heap.size + 1 + 1 + 1) w4 p.2 s.2)
    (hO : OwV (w.heap.size + 1 + 1 + 1) w6 u (ps ++ [p])) (hG : (w4.alloc O).grownBy w6 v.ownBlock) : Ad7 w w6 c2 f2 g v u (ss ++ [s]) := by
  have al : Below w4.heap.size w4 (w4.alloc O) := (Below.refl _ _).alloc (Nat.le_refl _) O
  have row' := row.later al
  refine ⟨?_, app_keep hG h.k3 (own_ne row h.k3 (by decide)), app_keep hG h.kg (own_ne row h.kg (by decide)), ps ++ [p], hO, ((wn.snoc o5 o6).later al).otherS (OwV.blk row') hG⟩
  have := h.lt
  exact (Trn.of_grown hG).below (h.bel.trans (al.mono h.bel.size)) (by simp; omega) (fun i q => by have := (World.ownsRow.lt row' _ q).1; omega)

set_option maxHeartbeats 8000000 in
set_option maxRecDepth 100000 in
theorem slogadd_any (c f : Int) (a : Option Addr) (n cap : Nat) (ss : List Sta) (ai : Option Addr) (ni ci : Nat) (xs : List Itm) (af : Option Addr) (nf cf : Nat) (fs : List Flr) (r : Bool) (h0 : Hid (lar c f ss (xs, fs) = r)) (f1 : Int) (ss1 : List Sta) (h1 : Hid (lad r c f ss (xs, fs) = (f1, ss1))) (m : Nat) (hm : Hid (m = ss1.length)) (w : World) (hn : n ≤ 1048576) (ht : tot ss ≤ 1048576) (hni : ni ≤ 1048576) (hnf : nf ≤ 1048576) (hx : RwS w (.slice a n cap) ss) (hd : Rw encI 6 w (.slice ai ni ci) xs) (he : Rw encF 2 w (.slice af nf cf) fs) :
    Calls Try.prog 12 #[LgV c f (.slice a n cap), .agg #[.slice ai ni ci, .slice af nf cf]] w fun e w' => ∃ a' c', e = .returned (.tuple #[LgV c f1 (.slice a' m c'), .bool r]) ∧ OwW w.heap.size w' (.slice a' m c') ss1 ∧ Below w.heap.size w w' := by
  obtain ⟨i0, hi, hz0, hz1, hz2⟩ := info_parts Try.infoState
  have HX := hide hx
  have HL := hide hx.len.1
  have HD := hide hd
  have HE := hide he
  obtain ⟨ok, hok⟩ : ∃ ok, lok c f ss = ok := ⟨_, rfl⟩
  obtain ⟨q, hq⟩ : ∃ q, okS xs fs = q := ⟨_, rfl⟩
  obtain ⟨b3, d3⟩ : ∃ b, (f + (n : Int) == 100000) = b := ⟨_, rfl⟩
  have hE := unhide h0
  rw [lar, hok, hq, ← unhide HL, d3] at hE
  have HOK := hide hok
  have HQ := hide hq
  have HV := hide (show Below w.heap.size w (((w.alloc (LgO c f (.slice a n cap))).alloc (.cells #[.slice ai ni ci, .slice af nf cf] 30)).alloc (LgO 0 0 (.slice none 0 0))) from (((Below.refl w.heap.size w).alloc (Nat.le_refl _) _).alloc (by simp) _).alloc (by simp; omega) _)
  clear hx hd he hok hq h0
  go_enter Try.func12, Try.ntmps12
  go_wp2_with fail
  refine (l7copy_any c f a n cap ss (SzS.tot ht) _ (by omega) ((unhide HX).later (unhide HV))).mono ?_
  rintro e w1 ⟨a1, c1, rfl, o1, b1⟩
  obtain ⟨B1, k1, k2, k3, z1⟩ := kept3 b1
  have C1 : Hid (La7 w (w1.alloc (LgO c f (.slice a1 n c1))) c f c f (.slice a n cap) (.slice ai ni ci) (.slice af nf cf) w1.heap.size (.slice a1 n c1)) := hide ⟨B1.alloc B1.size _, (Below.heap_alloc _ _ _ (by omega)).trans k1, (Below.heap_alloc _ _ _ (by omega)).trans k2, (Below.heap_alloc _ _ _ z1).trans k3, heap_alloc_new _ _⟩
  have O1 := hide ((o1.mono (base' := w.heap.size + 1 + 1 + 1) (by simp)).later ((Below.refl w1.heap.size w1).alloc (Nat.le_refl _) (LgO c f (.slice a1 n c1))))
  have hgb : w.heap.size + 1 + 1 + 1 ≤ w1.heap.size := by omega
  obtain ⟨p0, p1, p2, pf⟩ := blk_cells3 k1
  have zl : w.heap.size < w1.heap.size := by omega
  clear o1 b1 B1 k1 k2 k3 HV
  go_wp2_with fail
  refine (slogok_any c f a n cap ss ok HOK _ (by omega) (by omega) ((unhide HX).later (unhide C1).bel)).mono ?_
  rintro e w2 ⟨rfl, b2⟩
  have C2 := hide ((unhide C1).later b2)
  have O2 := hide ((unhide O1).later b2)
  clear b2 C1 O1 p0 p1 p2 pf
  cases ok
  · obtain rfl : r = false := by rw [← hE]; rfl
    obtain ⟨rfl, rfl⟩ : f1 = f ∧ ss1 = ss := by have h := unhide h1; simp [lad] at h; exact ⟨h.1.symm, h.2.symm⟩
    obtain rfl : m = n := by rw [unhide hm, unhide HL]
    obtain ⟨q0, q1, q2, qf⟩ := blk_cells3 (unhide C2).k3
    obtain ⟨j0, j1, j2, jf⟩ := blk_cells3 (unhide C2).kg
    obtain ⟨zr, zg⟩ := (unhide C2).lt
    go_wp2
    exact bodyPost_ret (v := .tuple #[LgV c f1 (.slice a1 m c1), .bool false]) (by simp [results, Try.results12, go_sem, q0, q1, q2]) rfl ⟨a1, c1, rfl, OwW.mono (OwW.log3 (unhide C2).k3 _ _ _ (unhide O2)) (by omega), below_set3 (by omega) (unhide C2).bel⟩
  obtain ⟨⟨c1', c2'⟩, cn, ⟨f1', f2'⟩, fn, hokL⟩ := lok_iff.1 (unhide HOK)
  have cn' : (n : Int) ≤ c := by rw [unhide HL]; exact cn
  clear cn fn hokL
  obtain ⟨p0, p1, p2, pf⟩ := blk_cells3 (unhide C2).k1
  obtain ⟨s0, s1, sf⟩ := blk_cells2 (unhide C2).k2
  obtain ⟨zr2, zg2⟩ := (unhide C2).lt
  have zl2 : w.heap.size < w2.heap.size := by omega
  have zd2 : w.heap.size + 1 < w2.heap.size := by omega
  go_wp2_with fail
  refine (sstateok_any ai ni ci xs af nf cf fs q HQ _ (by omega) (by omega) ((unhide HD).later (unhide C2).bel) ((unhide HE).later (unhide C2).bel)).mono ?_
  rintro e w3 ⟨rfl, b3'⟩
  have C3 := hide ((unhide C2).later b3')
  have O3 := hide ((unhide O2).later b3')
  clear b3' C2 O2 p0 p1 p2 pf s0 s1 sf
  cases q
  · obtain rfl : r = false := by rw [← hE]; rfl
    obtain ⟨rfl, rfl⟩ : f1 = f ∧ ss1 = ss := by have h := unhide h1; simp [lad] at h; exact ⟨h.1.symm, h.2.symm⟩
    obtain rfl : m = n := by rw [unhide hm, unhide HL]
    obtain ⟨q0, q1, q2, qf⟩ := blk_cells3 (unhide C3).k3
    obtain ⟨j0, j1, j2, jf⟩ := blk_cells3 (unhide C3).kg
    obtain ⟨zr, zg⟩ := (unhide C3).lt
    go_wp2
    exact bodyPost_ret (v := .tuple #[LgV c f1 (.slice a1 m c1), .bool false]) (by simp [results, Try.results12, go_sem, q0, q1, q2]) rfl ⟨a1, c1, rfl, OwW.mono (OwW.log3 (unhide C3).k3 _ _ _ (unhide O3)) (by omega), below_set3 (by omega) (unhide C3).bel⟩
  obtain ⟨p0, p1, p2, pf⟩ := blk_cells3 (unhide C3).k1
  obtain ⟨zr3, zg3⟩ := (unhide C3).lt
  have zl3 : w.heap.size < w3.heap.size := by omega
  have zd3 : w.heap.size + 1 < w3.heap.size := by omega
  cases b3
  · obtain rfl : r = true := by rw [← hE]; rfl
    obtain ⟨s0, s1, sf⟩ := blk_cells2 (unhide C3).k2
    obtain ⟨j0, j1, j2, jf⟩ := blk_cells3 (unhide C3).kg
    generalize hg : w1.heap.size = g at *
    obtain ⟨ps, hrow, hwn⟩ := unhide O3
    have hpl : Hid (n = ps.length) := hide (by rw [hwn.len]; exact unhide HL)
    have HROW := hide hrow
    have HWN := hide hwn
    have RX := hide (((unhide HD).later (unhide C3).bel).later ((Below.refl _ _).drew))
    have RF := hide (((unhide HE).later (unhide C3).bel).later ((Below.refl _ _).drew))
    clear hrow hwn O3 hE
    go_upto_region 4 with fail
    go_region_law (first
      | (go_simp; go_at_call 46; refine (l3copy7_any ai ni ci xs af nf cf fs _ (by omega) (by omega) (unhide RX) (unhide RF)).mono ?_; rintro e w4 ⟨b1, e1, b2, e2, rfl, o5, o6, b4⟩; have b4' : Below w3.heap.size w3 w4 := up0 b4; have C4 := hide ((unhide C3).later b4'); obtain ⟨t0, t1, t2, tf⟩ := blk_cells3 (unhide C4).kg; obtain ⟨zr4, zg4⟩ := (unhide C4).lt; have O5 := hide (Wk7.base (base' := w.heap.size + 1 + 1 + 1) o5 (by show w.heap.size + 1 + 1 + 1 ≤ w3.heap.size; omega)); have O6 := hide (Wk7.base (base' := w.heap.size + 1 + 1 + 1) o6 (by show w.heap.size + 1 + 1 + 1 ≤ w3.heap.size; omega)); have HROW4 := hide ((unhide HROW).later b4'); have HWN4 := hide ((unhide HWN).later b4'); clear o5 o6 b4 b4')
      | (refine step_app7 encS_len (by omega) 30 24 i0 _ 48 Try.underlying24 hi hz0 hz1 hz2 rfl (by omega) (w4.alloc (.cells #[.slice b1 ni e1, .slice b2 nf e2] 30)) (.slice b1 ni e1, .slice b2 nf e2) (oneS _ rfl rfl) rfl _ _ rfl (w.heap.size + 1 + 1 + 1) (.slice a1 n c1) ps n hpl rfl ((unhide HROW4).later ((Below.refl _ _).alloc (Nat.le_refl _) _)) w4.heap.size rfl (heap_alloc_new w4 _) (by omega) (by simp; omega) ?_; intro a7 c7 w6 hO hG; have A7 := add7_facts (s := (xs, fs)) (unhide C4) hgb (unhide HROW4) (unhide HWN4) (unhide O5) (unhide O6) hO hG; obtain ⟨m0, m1, m2, mf⟩ := blk_cells3 A7.kg; have z6 := A7.lt; have HA7 := hide A7; clear hO hG A7))
    all_goals
      clear t0 t1 t2 tf s0 s1 sf j0 j1 j2 jf p0 p1 p2 pf RX RF HROW HWN HROW4 HWN4 O5 O6 C3 C4
      obtain ⟨zr6, zg6⟩ := z6
      obtain ⟨X, hX⟩ : ∃ X, X = w6.setCell ⟨g, 2, none⟩ (.slice a7 (n + 1) c7) := ⟨_, rfl⟩
      have bX : Below w.heap.size w X := by rw [hX]; exact (unhide HA7).bel.setCell (p := ⟨g, 2, none⟩) (by simp; omega) _
      have kX : X.heap[w.heap.size + 1 + 1]? = some (LgO 0 0 (.slice none 0 0)) := by rw [hX]; exact blk_at (unhide HA7).k3 (by omega)
      have kgX : X.heap[g]? = some (LgO c f (.slice a7 (n + 1) c7)) := by rw [hX]; exact heap_setCell_same _ _ _ _ _ _ (unhide HA7).kg
      have OX : OwW (w.heap.size + 1 + 1 + 1) X (.slice a7 (n + 1) c7) (ss ++ [(xs, fs)]) := by rw [hX]; exact (unhide HA7).row.log (unhide HA7).kg 2 _
      rw [← hX]
      obtain ⟨q0, q1, q2, qf⟩ := blk_cells3 kX
      obtain ⟨j0, j1, j2, jf⟩ := blk_cells3 kgX
      have zrX : w.heap.size + 1 + 1 < X.heap.size := (Array.getElem?_eq_some_iff.1 kX).1
      have zgX : g < X.heap.size := (Array.getElem?_eq_some_iff.1 kgX).1
      have BX := hide bX
      have KX := hide kX
      have KGX := hide kgX
      have HOX := hide OX
      clear hX bX kX kgX OX HA7 m0 m1 m2 mf
      by_cases hnc : (n : Int) = c
      · have hd5 : decide ((n : Int) + 1 > c) = true := by simp; omega
        simp only [gt_iff_lt] at hd5
        obtain ⟨rfl, rfl⟩ : f1 = f + 1 ∧ ss1 = (ss ++ [(xs, fs)]).drop 1 := by have h := unhide h1; rw [lad, if_pos rfl, if_pos (by rw [← unhide HL]; exact hnc)] at h; simp only [Prod.mk.injEq] at h; exact ⟨h.1.symm, h.2.symm⟩
        obtain rfl : m = n := by rw [unhide hm, unhide HL]; simp
        obtain ⟨ps', hrow', hwn'⟩ := unhide HOX
        have hcc := (Ow.rw encS_len hrow').len.2
        have hc7 : ¬ c7 = 1 := by omega
        have hpl' : Hid (m = (ps'.drop 1).length) := hide (by have := (Ow.rw encS_len hrow').len.1; simp; omega)
        have RD : Hid (Rw encS 2 (X.alloc (.cells #[] 30)) (.slice (a7.map fun x => x.add 2) m (c7 - 1)) (ps'.drop 1)) := hide (((Ow.rw encS_len hrow').drop (j := 1) (m := m) (c := c7 - 1) (by omega) (by omega) (by omega)).alloc _)
        have HW' := hide (hwn'.drop 1)
        have hm1 : 1 ≤ m := by omega
        have HNC := hide hnc
        clear hrow' hwn' hnc hcc HOX
        go_wp2_with (first | (at_builtin; refine wpList_cp7 encS_len (by omega) 30 24 i0 _ 48 Try.underlying24 hi hz0 hz1 hz2 rfl (by omega) (X.alloc (.cells #[] 30)) rfl _ _ rfl _ rfl _ (ps'.drop 1) m hpl' rfl (unhide RD) (by omega) ?_; intro a8 c8 w8 hO8 hB8; have O8 := hide hO8; have B8 := hide (later_al7 hB8); clear hO8 hB8; obtain ⟨q0', q1', q2', qf'⟩ := blk_cells3 (((unhide B8).block _ zrX).trans (unhide KX)); obtain ⟨j0', j1', j2', jf'⟩ := blk_cells3 (((unhide B8).block _ zgX).trans (unhide KGX)); have z8 := (unhide B8).size; have zr8 : w.heap.size + 1 + 1 < w8.heap.size := (by omega); have zg8 : g < w8.heap.size := (by omega)))
        have kg8 := ((unhide B8).block _ zgX).trans (unhide KGX)
        have k38 := ((unhide B8).block _ zrX).trans (unhide KX)
        have row8 : OwV (w.heap.size + 1 + 1 + 1) w8 (.slice a8 m c8) (ps'.drop 1) := by
          rcases unhide O8 with h | ⟨h, -⟩
          · exact h.base (by simp; omega)
          · have := unhide hpl'; rw [h] at this; simp at this; omega
        have ow8 : OwW (w.heap.size + 1 + 1 + 1) w8 (.slice a8 m c8) ((ss ++ [(xs, fs)]).drop 1) := ⟨_, row8, (unhide HW').later (unhide B8)⟩
        obtain ⟨Z, hZ⟩ : ∃ Z, Z = (w8.setCell ⟨g, 2, none⟩ (.slice a8 m c8)).setCell ⟨g, 1, none⟩ (.int .i64 (f + 1)) := ⟨_, rfl⟩
        have kZ : Z.heap[w.heap.size + 1 + 1]? = some (LgO 0 0 (.slice none 0 0)) := by rw [hZ]; exact blk_at (blk_at k38 (by omega)) (by omega)
        have oZ : OwW (w.heap.size + 1 + 1 + 1) Z (.slice a8 m c8) ((ss ++ [(xs, fs)]).drop 1) := by rw [hZ]; exact (ow8.log kg8 2 _).log (heap_setCell_same _ _ _ _ _ _ kg8) 1 _
        have bZ : Below w.heap.size w Z := by rw [hZ]; exact (((unhide BX).trans ((unhide B8).mono (unhide BX).size)).setCell (p := ⟨g, 2, none⟩) (by simp; omega) _).setCell (p := ⟨g, 1, none⟩) (by simp; omega) _
        rw [← hZ]
        obtain ⟨y0, y1, y2, yf⟩ := blk_cells3 kZ
        exact bodyPost_ret (v := .tuple #[LgV c (f + 1) (.slice a8 m c8), .bool true]) (by simp [results, Try.results12, go_sem, y0, y1, y2]) rfl ⟨a8, c8, rfl, OwW.mono (OwW.log3 kZ _ _ _ oZ) (by omega), below_set3 (by omega) bZ⟩
      · have hd5 : decide ((n : Int) + 1 > c) = false := by simp; omega
        simp only [gt_iff_lt] at hd5
        obtain ⟨rfl, rfl⟩ : f1 = f ∧ ss1 = ss ++ [(xs, fs)] := by have h := unhide h1; rw [lad, if_pos rfl, if_neg (by rw [← unhide HL]; exact hnc)] at h; simp at h; exact ⟨h.1.symm, h.2.symm⟩
        obtain rfl : m = n + 1 := by rw [unhide hm, unhide HL]; simp
        go_wp2
        exact bodyPost_ret (v := .tuple #[LgV c f1 (.slice a7 (n + 1) c7), .bool true]) (by simp [results, Try.results12, go_sem, q0, q1, q2]) rfl ⟨a7, c7, rfl, OwW.mono (OwW.log3 (unhide KX) _ _ _ (unhide HOX)) (by omega), below_set3 (by omega) (unhide BX)⟩
  · obtain rfl : r = false := by rw [← hE]; rfl
    obtain ⟨rfl, rfl⟩ : f1 = f ∧ ss1 = ss := by have h := unhide h1; simp [lad] at h; exact ⟨h.1.symm, h.2.symm⟩
    obtain rfl : m = n := by rw [unhide hm, unhide HL]
    obtain ⟨q0, q1, q2, qf⟩ := blk_cells3 (unhide C3).k3
    obtain ⟨j0, j1, j2, jf⟩ := blk_cells3 (unhide C3).kg
    obtain ⟨zr, zg⟩ := (unhide C3).lt
    go_wp2
    exact bodyPost_ret (v := .tuple #[LgV c f1 (.slice a1 m c1), .bool false]) (by simp [results, Try.results12, go_sem, q0, q1, q2]) rfl ⟨a1, c1, rfl, OwW.mono (OwW.log3 (unhide C3).k3 _ _ _ (unhide O3)) (by omega), below_set3 (by omega) (unhide C3).bel⟩
end Go.Proofs.Ytdpaocikmijioac

namespace Go.Proofs.Ytdpaocikmijioac
open Go.RowKit

theorem OwS.ow {lo hi : Nat} {w : World} {v : Value} {ss : List Sta} (h : OwS lo hi w v ss) : OwW lo w v ss := by
  obtain ⟨ps, h1, h2⟩ := h.own
  exact ⟨ps, h1, h2.len, fun i p s hp hs => ⟨.inl (h2.ins i p s hp hs).1, .inl (h2.ins i p s hp hs).2⟩⟩
abbrev LgZ0 : Obj := .cells #[.int .i64 0, .int .i64 0, .slice none 0 0] 26
/-- The variable lies in block g, behind P, and is as it was laid. -/
structure BxL (P W : World) (g : Nat) : Prop where
  blk : W.heap[g]? = some LgZ0
  lt : g < W.heap.size
  ge : P.heap.size ≤ g
theorem BxL.new {P W w1 : World} (b : Below (W.alloc LgZ0).heap.size (W.alloc LgZ0) w1) (h : P.heap.size ≤ W.heap.size) : BxL P w1 W.heap.size := ⟨(newblk b).1, (newblk b).2, h⟩
theorem BxL.newD {P W w1 : World} (b : Below (W.alloc LgZ0).drew.heap.size (W.alloc LgZ0).drew w1) (h : P.heap.size ≤ W.heap.size) : BxL P w1 W.heap.size := ⟨(newblkD b).1, (newblkD b).2, h⟩
theorem BxL.kept {P W w1 : World} {g : Nat} (M : Hid (BxL P W g)) (b : Below W.heap.size W w1) : BxL P w1 g := ⟨(b.block _ (unhide M).lt).trans (unhide M).blk, Nat.lt_of_lt_of_le (unhide M).lt b.size, (unhide M).ge⟩
theorem ksetL {P W : World} {g : Nat} {v0 v1 v2 : Value} (b : Below P.heap.size P W) (M : Hid (BxL P W g)) : Below P.heap.size P (((W.setCell ⟨g, 0, none⟩ v0).setCell ⟨g, 1, none⟩ v1).setCell ⟨g, 2, none⟩ v2) := below_set3 (unhide M).ge b
theorem kalL {P W : World} {o : Obj} (h : Below P.heap.size P W) : Below P.heap.size P (W.alloc o) := h.alloc h.size _
/-- The variable holds the log. -/
structure FinL (P W : World) (g : Nat) (c f : Int) (v : Value) (ss : List Sta) : Prop where
  bel : Below P.heap.size P W
  ge : P.heap.size ≤ g
  lt : g < W.heap.size
  blk : W.heap[g]? = some (LgO c f v)
  row : OwW P.heap.size W v ss
theorem FinL.set {P W : World} {g : Nat} {c f : Int} {v : Value} {ss : List Sta} (b : Below P.heap.size P W) (M : Hid (BxL P W g)) (o : Hid (OwW P.heap.size W v ss)) :
    FinL P (((W.setCell ⟨g, 0, none⟩ (.int .i64 c)).setCell ⟨g, 1, none⟩ (.int .i64 f)).setCell ⟨g, 2, none⟩ v) g c f v ss :=
  ⟨below_set3 (unhide M).ge b, (unhide M).ge, by simpa using (unhide M).lt, blk_set3 (unhide M).blk _ _ _, OwW.log3 (unhide M).blk _ _ _ (unhide o)⟩
theorem FinL.new {P W : World} {c f : Int} {v : Value} {ss : List Sta} (b : Below P.heap.size P W) (o : Hid (OwW P.heap.size W v ss)) : FinL P (W.alloc (LgO c f v)) W.heap.size c f v ss :=
  ⟨b.alloc b.size _, b.size, by simp, heap_alloc_new _ _, (unhide o).later ((Below.refl _ _).alloc (Nat.le_refl _) _)⟩
theorem RwS.later2 {w w' : World} {o : Obj} {v : Value} {ss : List Sta} (h : RwS w v ss) (b : Below (w.alloc o).heap.size (w.alloc o) w') : RwS w' v ss := (h.alloc o).later b
/-- A log and a state in variables, carried to a later world. -/
theorem keepLS {w5 W : World} {g h : Nat} {T U : TypeId} {a0 a1 a2 b0 b1 : Value} (hg : Hid (w5.heap[g]? = some (.cells #[a0, a1, a2] T (0, 0)) ∧ g < w5.heap.size)) (hh : Hid (w5.heap[h]? = some (.cells #[b0, b1] U (0, 0)) ∧ h < w5.heap.size)) (hb : Below w5.heap.size w5 W) :
    Below w5.heap.size w5 W ∧ W.cell? ⟨g, 0, none⟩ = some a0 ∧ W.cell? ⟨g, 1, none⟩ = some a1 ∧ W.cell? ⟨g, 2, none⟩ = some a2 ∧ W.cell? ⟨h, 0, none⟩ = some b0 ∧ W.cell? ⟨h, 1, none⟩ = some b1 := by
  obtain ⟨p0, p1, p2, -⟩ := blk_cells3 ((hb.block _ (unhide hg).2).trans (unhide hg).1)
  obtain ⟨q0, q1, -⟩ := blk_cells2 ((hb.block _ (unhide hh).2).trans (unhide hh).1)
  exact ⟨hb, p0, p1, p2, q0, q1⟩
end Go.Proofs.Ytdpaocikmijioac

namespace Go.Proofs.Ytdpaocikmijioac
open Go.RowKit

abbrev StB (v1 v2 : Value) : Obj := .cells #[v1, v2] 30 (0, 0)
/-- What lies in memory while the joined state is made: the two arguments, the result, and what is made, in blocks H to H + 3. -/
structure J3 (w X : World) (A B : Obj) (a1 : Option Addr) (n1 c1 : Nat) (a2 : Option Addr) (n2 c2 : Nat) (its : List Itm) (fls : List Flr) : Prop where
  bel : Below w.heap.size w X
  ka : X.heap[w.heap.size]? = some A
  kb : X.heap[w.heap.size + 1]? = some B
  kr : X.heap[w.heap.size + 1 + 1]? = some (StB (.slice none 0 0) (.slice none 0 0))
  ko : X.heap[w.heap.size + 1 + 1 + 1]? = some (StB (.slice a1 n1 c1) (.slice a2 n2 c2))
  oi : OwI (w.heap.size + 4) X (.slice a1 n1 c1) its
  of : OwF (w.heap.size + 4) X (.slice a2 n2 c2) fls
theorem J3.sz {w X : World} {A B : Obj} {a1 : Option Addr} {n1 c1 : Nat} {a2 : Option Addr} {n2 c2 : Nat} {its : List Itm} {fls : List Flr} (h : J3 w X A B a1 n1 c1 a2 n2 c2 its fls) : w.heap.size + 4 ≤ X.heap.size := by
  have := (Array.getElem?_eq_some_iff.mp h.ko).1
  omega
theorem J3.later {w X Y : World} {A B : Obj} {a1 : Option Addr} {n1 c1 : Nat} {a2 : Option Addr} {n2 c2 : Nat} {its : List Itm} {fls : List Flr} (h : J3 w X A B a1 n1 c1 a2 n2 c2 its fls) (b : Below X.heap.size X Y) : J3 w Y A B a1 n1 c1 a2 n2 c2 its fls := by
  have hs := h.sz
  exact ⟨h.bel.trans (b.mono (by omega)), (b.block _ (by omega)).trans h.ka, (b.block _ (by omega)).trans h.kb, (b.block _ (by omega)).trans h.kr, (b.block _ (by omega)).trans h.ko, h.oi.later b, h.of.later b⟩
theorem J3.appI {w X Y : World} {A B : Obj} {a1 : Option Addr} {n1 c1 : Nat} {a2 : Option Addr} {n2 c2 : Nat} {its its' : List Itm} {fls : List Flr} (h : J3 w X A B a1 n1 c1 a2 n2 c2 its fls) {a' : Option Addr} {n' c' : Nat}
    (ho : OwI (w.heap.size + 4) Y (.slice a' n' c') its') (hg : X.grownBy Y (Value.slice a1 n1 c1).ownBlock) : J3 w (Y.setCell ⟨w.heap.size + 1 + 1 + 1, 0, none⟩ (.slice a' n' c')) A B a' n' c' a2 n2 c2 its' fls := by
  have hs := h.sz
  have hlt := World.ownsRow.lt h.oi
  have t := Trn.of_grown hg
  have hne : ∀ g, g < w.heap.size + 4 → ¬ (Value.slice a1 n1 c1).ownBlock = some g := fun g hg q => by have := hlt g q; omega
  have hap := owns_apart h.of h.oi (by decide)
  have bl : ∀ g, g < w.heap.size + 1 + 1 + 1 → (Y.setCell ⟨w.heap.size + 1 + 1 + 1, 0, none⟩ (.slice a' n' c')).heap[g]? = X.heap[g]? := fun g hg' => by
    rw [heap_setCell_other _ _ _ _ (by show g ≠ w.heap.size + 1 + 1 + 1; omega)]
    exact t.block g (by omega) (hne g (by omega))
  refine ⟨(t.below h.bel h.bel.size (fun i q => by have := hlt i q; omega)).setCell (p := ⟨w.heap.size + 1 + 1 + 1, 0, none⟩) (by simp <;> omega) _, (bl _ (by omega)).trans h.ka, (bl _ (by omega)).trans h.kb, (bl _ (by omega)).trans h.kr, ?_, ho.set _ (by simp <;> omega) _, ?_⟩
  · exact heap_setCell_same _ _ _ _ _ _ ((t.block _ (by omega) (hne _ (by omega))).trans h.ko)
  · exact (t.own h.of (fun i hi q => by rcases hap with e | e; rw [e] at hi; cases hi; exact e (hi.trans q.symm))).set _ (by simp <;> omega) _
theorem J3.appF {w X Y : World} {A B : Obj} {a1 : Option Addr} {n1 c1 : Nat} {a2 : Option Addr} {n2 c2 : Nat} {its : List Itm} {fls fls' : List Flr} (h : J3 w X A B a1 n1 c1 a2 n2 c2 its fls) {a' : Option Addr} {n' c' : Nat}
    (ho : OwF (w.heap.size + 4) Y (.slice a' n' c') fls') (hg : X.grownBy Y (Value.slice a2 n2 c2).ownBlock) : J3 w (Y.setCell ⟨w.heap.size + 1 + 1 + 1, 1, none⟩ (.slice a' n' c')) A B a1 n1 c1 a' n' c' its fls' := by
  have hs := h.sz
  have hlt := World.ownsRow.lt h.of
  have t := Trn.of_grown hg
  have hne : ∀ g, g < w.heap.size + 4 → ¬ (Value.slice a2 n2 c2).ownBlock = some g := fun g hg q => by have := hlt g q; omega
  have hap := owns_apart h.oi h.of (by decide)
  have bl : ∀ g, g < w.heap.size + 1 + 1 + 1 → (Y.setCell ⟨w.heap.size + 1 + 1 + 1, 1, none⟩ (.slice a' n' c')).heap[g]? = X.heap[g]? := fun g hg' => by
    rw [heap_setCell_other _ _ _ _ (by show g ≠ w.heap.size + 1 + 1 + 1; omega)]
    exact t.block g (by omega) (hne g (by omega))
  refine ⟨(t.below h.bel h.bel.size (fun i q => by have := hlt i q; omega)).setCell (p := ⟨w.heap.size + 1 + 1 + 1, 1, none⟩) (by simp <;> omega) _, (bl _ (by omega)).trans h.ka, (bl _ (by omega)).trans h.kb, (bl _ (by omega)).trans h.kr, ?_, ?_, ho.set _ (by simp <;> omega) _⟩
  · exact heap_setCell_same _ _ _ _ _ _ ((t.block _ (by omega) (hne _ (by omega))).trans h.ko)
  · exact (t.own h.oi (fun i hi q => by rcases hap with e | e; rw [e] at hi; cases hi; exact e (hi.trans q.symm))).set _ (by simp <;> omega) _

theorem cmpK_key (a b : Key) : cmpE a.1 a.2.1 a.2.2.1 a.2.2.2.1 a.2.2.2.2 b.1 b.2.1 b.2.2.1 b.2.2.2.1 b.2.2.2.2 = keyC a b := cmpE_key _ _ _ _ _ _ _ _ _ _
theorem scmpK_any (a b : Key) (c : Int) (h : Hid (cmpE a.1 a.2.1 a.2.2.1 a.2.2.2.1 a.2.2.2.2 b.1 b.2.1 b.2.2.1 b.2.2.2.1 b.2.2.2.2 = c)) (w : World) : Calls Try.prog 91 #[.agg #[.int .i64 a.1, .int .i64 a.2.1, .int .i64 a.2.2.1, .int .i64 a.2.2.2.1, .string a.2.2.2.2], .agg #[.int .i64 b.1, .int .i64 b.2.1, .int .i64 b.2.2.1, .int .i64 b.2.2.2.1, .string b.2.2.2.2]] w fun e w' => e = .returned (.int .i64 c) ∧ Below w.heap.size w w' := by
  rw [← unhide h]; exact scmp_any _ _ _ _ _ _ _ _ _ _ w
theorem l1max_v (a b r : Int) (hr : Hid ((if a < b then b else a) = r)) (w : World) : Calls Try.prog 90 #[.int .i64 a, .int .i64 b] w fun e w' => e = .returned (.int .i64 r) ∧ w = w' := by
  have hrr := unhide hr
  clear hr
  rcases Bool.eq_false_or_eq_true (decide (b < a)) with h | h
  · have e : r = a := by have := of_decide_eq_true h; rw [← hrr, if_neg (by omega)]
    clear hrr
    subst e
    go_enter Try.func90, Try.ntmps90
    go_wp2
    go_ret
    exact ⟨rfl, rfl⟩
  · have e : r = b := by
      have := of_decide_eq_false h
      rw [← hrr]
      split <;> omega
    clear hrr
    subst e
    go_enter Try.func90, Try.ntmps90
    go_wp2
    go_ret
    exact ⟨rfl, rfl⟩

set_option maxHeartbeats 8000000 in
set_option maxRecDepth 100000 in
theorem l3join_any (ai : Option Addr) (ni ci : Nat) (xs : List Itm) (af : Option Addr) (nf cf : Nat) (fs : List Flr) (bi : Option Addr) (mi di : Nat) (ys : List Itm) (bf : Option Addr) (mf df : Nat) (gs : List Flr) (w : World)
    (hni : ni ≤ 140737488351232) (hnf : nf ≤ 140737488351232) (hmi : mi ≤ 140737488351232) (hmf : mf ≤ 140737488351232) (hx : Rw encI 6 w (.slice ai ni ci) xs) (hf : Rw encF 2 w (.slice af nf cf) fs) (hy : Rw encI 6 w (.slice bi mi di) ys) (hg : Rw encF 2 w (.slice bf mf df) gs) :
    Calls Try.prog 64 #[.agg #[.slice ai ni ci, .slice af nf cf], .agg #[.slice bi mi di, .slice bf mf df]] w fun e w' => ∃ a1 n1 c1 a2 n2 c2, e = .returned (.agg #[.slice a1 n1 c1, .slice a2 n2 c2]) ∧ OwI w.heap.size w' (.slice a1 n1 c1) (joinI xs fs ys gs) ∧ OwF w.heap.size w' (.slice a2 n2 c2) (joinF fs gs) ∧ Below w.heap.size w w' := by
  obtain ⟨i0, hi, hz0, hz1, hz2⟩ := info_parts Try.infoItem
  obtain ⟨i1, gi, gz0, gz1, gz2⟩ := info_parts Try.infoFloor
  have HX := hide hx
  have HY := hide hy
  have HF := hide hf
  have HG := hide hg
  clear hx hy hf hg
  go_enter Try.func64, Try.ntmps64
  go_wp2
  go_loopw [6] (fun i wr => ∃ (k : Nat) (a1 : Option Addr) (n1 c1 : Nat) (a2 : Option Addr) (n2 c2 : Nat), k ≤ 5 ∧ i = .int .i64 k ∧ J3 w wr (StB (.slice ai ni ci) (.slice af nf cf)) (StB (.slice bi mi di) (.slice bf mf df)) a1 n1 c1 a2 n2 c2 (jI xs fs ys gs k) (jF fs gs k)) (fun i _ => 5 - (intOf i).toNat)
  case atStart => 
    obtain ⟨m1, m2, m3⟩ := new4 w (StB (.slice ai ni ci) (.slice af nf cf)) (StB (.slice bi mi di) (.slice bf mf df)) (StB (.slice none 0 0) (.slice none 0 0)) (StB (.slice none 0 0) (.slice none 0 0))
    exact ⟨0, none, 0, 0, none, 0, 0, by omega, rfl, ⟨(((((Below.refl w.heap.size w).alloc (Nat.le_refl _) _).alloc (by simp) _).alloc (by simp; omega) _).alloc (by simp; omega) _), (Below.heap_alloc _ _ _ (by simp; omega)).trans (lowB3 w _ _ _), m1, m2, m3, World.ownsRow_nil _ _ _ _, World.ownsRow_nil _ _ _ _⟩⟩
  case round =>
    obtain ⟨k, a1, n1, c1, a2, n2, c2, hk, rfl, hJ⟩ := hrel
    have HJ := hide hJ
    have hsz := hJ.sz
    obtain ⟨pa0, pa1, -⟩ := blk_cells2 hJ.ka
    obtain ⟨pb0, pb1, -⟩ := blk_cells2 hJ.kb
    obtain ⟨po0, po1, pof⟩ := blk_cells2 hJ.ko
    clear hJ
    by_cases hlt : k < 5
    · obtain ⟨fa, hfa⟩ : ∃ fa, flo fs k = fa := ⟨_, rfl⟩
      obtain ⟨fb, hfb⟩ : ∃ fb, flo gs k = fb := ⟨_, rfl⟩
      obtain ⟨f, hf⟩ : ∃ f, (if fa < fb then fb else fa) = f := ⟨_, rfl⟩
      have HFA := hide hfa
      have HFB := hide hfb
      have HFL := hide hf
      have HF2 : Hid (fl2 fs gs k = f) := hide (by rw [← hf, fl2, hfa, hfb])
      clear hfa hfb hf
      go_wp2_with fail
      have la0 := later_some (w := wr) (b := w.heap.size) (o := 0) (by omega) pa0
      have la1 := later_some (w := wr) (b := w.heap.size) (o := 1) (by omega) pa1
      have lb0 := later_some (w := wr) (b := w.heap.size + 1) (o := 0) (by omega) pb0
      have lb1 := later_some (w := wr) (b := w.heap.size + 1) (o := 1) (by omega) pb1
      have RF := hide ((unhide HF).later (unhide HJ).bel)
      have RG := hide ((unhide HG).later (unhide HJ).bel)
      refine wp_region_later (by kernel_rfl) (by kernel_rfl) ?_
      repeat (go_big_quiet_step (first
        | (go_at_call_of 56 (Value.slice af nf cf); exact Calls.later_of (sfloor_v _ af nf cf fs _ fa HFA _ hnf ((unhide RF).in_later _ _)))
        | (go_at_call_of 56 (Value.slice bf mf df); exact Calls.later_of (sfloor_v _ bf mf df gs _ fb HFB _ hmf ((unhide RG).in_later _ _)))
        | (go_at_call 90; exact Calls.later_same (l1max_v fa fb f HFL _))))
      refine wpQuiet_nil ?_
      intro w1 hb1
      have HJ1 := hide ((unhide HJ).later hb1)
      clear hb1 la0 la1 lb0 lb1 RF RG pa0 pa1 pb0 pb1 po0 po1 pof hsz HJ HFA HFB HFL
      have hsz := (unhide HJ1).sz
      obtain ⟨po0, po1, pof⟩ := blk_cells2 (unhide HJ1).ko
      have hn2 : Hid (n2 = (jF fs gs k).length) := hide ((unhide HJ1).of.rw encF_len).len.1
      have hn2l : n2 ≤ 5 := by have := unhide hn2; have := jF_len fs gs k; omega
      obtain ⟨rA, okA, hA⟩ : ∃ rA okA, entR xs k = (rA, okA) := ⟨_, _, rfl⟩
      obtain ⟨rB, okB, hB⟩ : ∃ rB okB, entR ys k = (rB, okB) := ⟨_, _, rfl⟩
      have HA := hide hA
      have HB := hide hB
      clear hA hB
--@round
      rcases Bool.eq_false_or_eq_true (decide (0 < f)) with hpos | hpos
      · go_upto_region 8 with (first | (at_builtin; refine wpList_app1 encF_len (by omega) oneF 78 28 i1 _ 16 Try.underlying28 gi gz0 gz1 gz2 rfl (by omega) w1 ((k : Int), f) rfl _ _ rfl (w.heap.size + 4) _ (jF fs gs k) n2 hn2 rfl (unhide HJ1).of rfl (by omega) hsz ?_; intro a2' c2' w2 hO hG; have po0' := (hG.block _ (by omega) (fun q => by have := World.ownsRow.lt (unhide HJ1).of _ q.symm; omega)).trans (unhide HJ1).ko; obtain ⟨pq0, pq1, pqf⟩ := blk_cells2 po0'; have HJ2 := hide ((unhide HJ1).appF hO hG); clear hO hG po0' po0 po1 pof))
        obtain ⟨X, hX⟩ : ∃ X, X = w2.setCell ⟨w.heap.size + 1 + 1 + 1, 1, none⟩ (.slice a2' (n2 + 1) c2') := ⟨_, rfl⟩
        rw [← hX]
        obtain ⟨a3, n3, c3, HJX⟩ : ∃ a3 n3 c3, Hid (J3 w X (StB (.slice ai ni ci) (.slice af nf cf)) (StB (.slice bi mi di) (.slice bf mf df)) a1 n1 c1 a3 n3 c3 (jI xs fs ys gs k) (jF fs gs (k + 1))) := ⟨a2', n2 + 1, c2', by rw [hX, jF_pos (by rw [unhide HF2]; exact hpos), unhide HF2]; exact unhide HJ2⟩
        clear hX HJ2 HJ1 pq0 pq1 pqf hsz hn2 hn2l hpos
        have hsz := (unhide HJX).sz
        obtain ⟨pa0, pa1, -⟩ := blk_cells2 (unhide HJX).ka
        go_wp2_with fail
        refine (sentry_any _ ai ni ci xs _ rA okA HA _ hni ((unhide HX).later (unhide HJX).bel)).mono ?_
        rintro e w3 ⟨rfl, b3⟩
        have J3' := hide ((unhide HJX).later b3)
        have z3 := b3.size
        have B3 := hide b3
        obtain ⟨pb0, pb1, -⟩ := blk_cells2 (unhide J3').kb
        clear pa0 pa1 b3
        have zb : w.heap.size + 1 < w3.heap.size := by omega
        go_wp2_with fail
        refine (sentry_any _ bi mi di ys _ rB okB HB _ hmi (((unhide HY).later (unhide J3').bel).alloc _)).mono ?_
        rintro e w4 ⟨rfl, b4⟩
        have b4' := ((Below.refl w3.heap.size w3).alloc (Nat.le_refl _) _).trans (b4.mono (by simp))
        have kx := (b4.block w3.heap.size (by simp)).trans (newB1 w3 _)
        have zx : w3.heap.size < w4.heap.size := by have := b4.size; simp at this; omega
        have J4 := hide ((unhide J3').later b4')
        have B4 := hide ((unhide B3).trans (b4'.mono z3))
        have KX := hide kx
        obtain ⟨px0, px1, px2, px3, px4, -⟩ := ent_cells kx
        clear pb0 pb1 b4 b4' kx J3' B3
        cases okA
        · cases okB
          · have HE := hide (show jE (ent xs k) (ent ys k) = none by rw [entR_false (unhide HA), entR_false (unhide HB)]; rfl)
            have B5 := hide ((unhide B4).alloc (by omega) (.cells #[.int .i64 rB.1, .int .i64 rB.2.1, .int .i64 rB.2.2.1, .int .i64 rB.2.2.2.1, .string rB.2.2.2.2] 55))
            go_wp2
            go_roundw
            case rel => exact ⟨k + 1, a1, n1, c1, a3, n3, c3, by omega, by go_num, by rw [jI_none (unhide HE)]; exact (unhide HJX).later (unhide B5)⟩
            case measure => simp [intOf]; omega
          · have HE := hide (show jE (ent xs k) (ent ys k) = some rB by rw [entR_false (unhide HA), entR_true (unhide HB)]; rfl)
            go_upto_region 14 with fail
            obtain ⟨Y, hY⟩ : ∃ Y, Y = ((w4.alloc (.cells #[.int .i64 rB.1, .int .i64 rB.2.1, .int .i64 rB.2.2.1, .int .i64 rB.2.2.2.1, .string rB.2.2.2.2] 55)).alloc (.cells #[.int .i64 rB.1, .int .i64 rB.2.1, .int .i64 rB.2.2.1, .int .i64 rB.2.2.2.1, .string rB.2.2.2.2] 55)) := ⟨_, rfl⟩
            rw [← hY]
            have KE : Hid (Y.heap[w4.heap.size + 1]? = some (.cells #[.int .i64 rB.1, .int .i64 rB.2.1, .int .i64 rB.2.2.1, .int .i64 rB.2.2.2.1, .string rB.2.2.2.2] 55 (0, 0))) := hide (by rw [hY]; exact newB2 w4 _ _)
            have BY : Hid (Below X.heap.size X Y) := hide (by rw [hY]; exact ((unhide B4).alloc (by omega) _).alloc (by simp; omega) _)
            clear hY
            obtain ⟨pe0, pe1, pe2, pe3, pe4, -⟩ := ent_cells (unhide KE)
            have JY := hide ((unhide HJX).later (unhide BY))
            have hszY := (unhide JY).sz
            obtain ⟨po0, po1, pof⟩ := blk_cells2 (unhide JY).ko
            have hn1 : Hid (n1 = (jI xs fs ys gs k).length) := hide ((unhide JY).oi.rw encI_len).len.1
            have hn1l : n1 ≤ 5 := by have := unhide hn1; have := jI_len xs fs ys gs k; omega
            have hge : w4.heap.size + 1 < Y.heap.size := (Array.getElem?_eq_some_iff.mp (unhide KE)).1
            rcases Bool.eq_false_or_eq_true (decide (f < rB.1)) with hin | hin
            · go_wp2_with (first | (at_builtin; refine wpList_app1 encI_len (by omega) oneI 75 27 i0 _ 56 Try.underlying27 hi hz0 hz1 hz2 rfl (by omega) Y ((k : Int), rB) rfl _ _ rfl (w.heap.size + 4) _ (jI xs fs ys gs k) n1 hn1 rfl (unhide JY).oi rfl (by omega) hszY ?_; intro a1' c1' w6 hO hG; have po0' := (hG.block _ (by omega) (fun q => by have := World.ownsRow.lt (unhide JY).oi _ q.symm; omega)).trans (unhide JY).ko; obtain ⟨pq0, pq1, pqf⟩ := blk_cells2 po0'; have HJ6 := hide ((unhide JY).appI hO hG); clear hO hG po0' po0 po1 pof))
              go_roundw
              case rel => exact ⟨k + 1, a1', n1 + 1, c1', a3, n3, c3, by omega, by go_num, by rw [jI_pos (unhide HE) (by rw [unhide HF2]; exact hin)]; exact unhide HJ6⟩
              case measure => simp [intOf]; omega
            · go_wp2
              go_roundw
              case rel => exact ⟨k + 1, a1, n1, c1, a3, n3, c3, by omega, by go_num, by rw [jI_neg (unhide HE) (by rw [unhide HF2]; exact hin)]; exact unhide JY⟩
              case measure => simp [intOf]; omega
        · cases okB
          · have HE := hide (show jE (ent xs k) (ent ys k) = some rA by rw [entR_true (unhide HA), entR_false (unhide HB)]; rfl)
            go_upto_region 14 with fail
            obtain ⟨Y, hY⟩ : ∃ Y, Y = ((w4.alloc (.cells #[.int .i64 rB.1, .int .i64 rB.2.1, .int .i64 rB.2.2.1, .int .i64 rB.2.2.2.1, .string rB.2.2.2.2] 55)).alloc (.cells #[.int .i64 rA.1, .int .i64 rA.2.1, .int .i64 rA.2.2.1, .int .i64 rA.2.2.2.1, .string rA.2.2.2.2] 55)) := ⟨_, rfl⟩
            rw [← hY]
            have KE : Hid (Y.heap[w4.heap.size + 1]? = some (.cells #[.int .i64 rA.1, .int .i64 rA.2.1, .int .i64 rA.2.2.1, .int .i64 rA.2.2.2.1, .string rA.2.2.2.2] 55 (0, 0))) := hide (by rw [hY]; exact newB2 w4 _ _)
            have BY : Hid (Below X.heap.size X Y) := hide (by rw [hY]; exact ((unhide B4).alloc (by omega) _).alloc (by simp; omega) _)
            clear hY
            obtain ⟨pe0, pe1, pe2, pe3, pe4, -⟩ := ent_cells (unhide KE)
            have JY := hide ((unhide HJX).later (unhide BY))
            have hszY := (unhide JY).sz
            obtain ⟨po0, po1, pof⟩ := blk_cells2 (unhide JY).ko
            have hn1 : Hid (n1 = (jI xs fs ys gs k).length) := hide ((unhide JY).oi.rw encI_len).len.1
            have hn1l : n1 ≤ 5 := by have := unhide hn1; have := jI_len xs fs ys gs k; omega
            have hge : w4.heap.size + 1 < Y.heap.size := (Array.getElem?_eq_some_iff.mp (unhide KE)).1
            rcases Bool.eq_false_or_eq_true (decide (f < rA.1)) with hin | hin
            · go_wp2_with (first | (at_builtin; refine wpList_app1 encI_len (by omega) oneI 75 27 i0 _ 56 Try.underlying27 hi hz0 hz1 hz2 rfl (by omega) Y ((k : Int), rA) rfl _ _ rfl (w.heap.size + 4) _ (jI xs fs ys gs k) n1 hn1 rfl (unhide JY).oi rfl (by omega) hszY ?_; intro a1' c1' w6 hO hG; have po0' := (hG.block _ (by omega) (fun q => by have := World.ownsRow.lt (unhide JY).oi _ q.symm; omega)).trans (unhide JY).ko; obtain ⟨pq0, pq1, pqf⟩ := blk_cells2 po0'; have HJ6 := hide ((unhide JY).appI hO hG); clear hO hG po0' po0 po1 pof))
              go_roundw
              case rel => exact ⟨k + 1, a1', n1 + 1, c1', a3, n3, c3, by omega, by go_num, by rw [jI_pos (unhide HE) (by rw [unhide HF2]; exact hin)]; exact unhide HJ6⟩
              case measure => simp [intOf]; omega
            · go_wp2
              go_roundw
              case rel => exact ⟨k + 1, a1, n1, c1, a3, n3, c3, by omega, by go_num, by rw [jI_neg (unhide HE) (by rw [unhide HF2]; exact hin)]; exact unhide JY⟩
              case measure => simp [intOf]; omega
          · obtain ⟨cm, hcm⟩ : ∃ cm, cmpE rB.1 rB.2.1 rB.2.2.1 rB.2.2.2.1 rB.2.2.2.2 rA.1 rA.2.1 rA.2.2.1 rA.2.2.2.1 rA.2.2.2.2 = cm := ⟨_, rfl⟩
            have HC := hide hcm
            clear hcm
            go_wp2_with fail
            refine (scmpK_any rB rA cm HC _).mono ?_
            rintro e w5 ⟨rfl, b5⟩
            have b5' := (((Below.refl w4.heap.size w4).alloc (Nat.le_refl _) _).alloc (by simp) _).trans (b5.mono (by simp; omega))
            have B5 := hide ((unhide B4).trans (b5'.mono (by omega)))
            have KY := hide ((b5.block w4.heap.size (by simp; omega)).trans (lowB2 w4 _ _))
            have KE0 := hide ((b5.block (w4.heap.size + 1) (by simp)).trans (newB2 w4 _ _))
            obtain ⟨py0, py1, py2, py3, py4, pyf⟩ := ent_cells (unhide KY)
            obtain ⟨pz0, pz1, pz2, pz3, pz4, pzf⟩ := ent_cells (unhide KE0)
            clear b5 b5'
            rcases Bool.eq_false_or_eq_true (decide (0 < cm)) with hgt | hgt
            · have HE := hide (show jE (ent xs k) (ent ys k) = some rB by rw [entR_true (unhide HA), entR_true (unhide HB)]; exact congrArg some (mx_gt (by rw [← cmpK_key, unhide HC]; exact hgt)))
              go_upto_region 14 with fail
              obtain ⟨Y, hY⟩ : ∃ Y, Y = (((((w5.setCell ⟨w4.heap.size + 1, 0, none⟩ (.int .i64 rB.1)).setCell ⟨w4.heap.size + 1, 1, none⟩ (.int .i64 rB.2.1)).setCell ⟨w4.heap.size + 1, 2, none⟩ (.int .i64 rB.2.2.1)).setCell ⟨w4.heap.size + 1, 3, none⟩ (.int .i64 rB.2.2.2.1)).setCell ⟨w4.heap.size + 1, 4, none⟩ (.string rB.2.2.2.2)) := ⟨_, rfl⟩
              rw [← hY]
              have KE : Hid (Y.heap[w4.heap.size + 1]? = some (.cells #[.int .i64 rB.1, .int .i64 rB.2.1, .int .i64 rB.2.2.1, .int .i64 rB.2.2.2.1, .string rB.2.2.2.2] 55 (0, 0))) := hide (by rw [hY]; exact ent_set (unhide KE0) _ _ _ _ _)
              have BY : Hid (Below X.heap.size X Y) := hide (by rw [hY]; exact below_set5 (by omega) (unhide B5))
              clear hY
              obtain ⟨pe0, pe1, pe2, pe3, pe4, -⟩ := ent_cells (unhide KE)
              have JY := hide ((unhide HJX).later (unhide BY))
              have hszY := (unhide JY).sz
              obtain ⟨po0, po1, pof⟩ := blk_cells2 (unhide JY).ko
              have hn1 : Hid (n1 = (jI xs fs ys gs k).length) := hide ((unhide JY).oi.rw encI_len).len.1
              have hn1l : n1 ≤ 5 := by have := unhide hn1; have := jI_len xs fs ys gs k; omega
              have hge : w4.heap.size + 1 < Y.heap.size := (Array.getElem?_eq_some_iff.mp (unhide KE)).1
              rcases Bool.eq_false_or_eq_true (decide (f < rB.1)) with hin | hin
              · go_wp2_with (first | (at_builtin; refine wpList_app1 encI_len (by omega) oneI 75 27 i0 _ 56 Try.underlying27 hi hz0 hz1 hz2 rfl (by omega) Y ((k : Int), rB) rfl _ _ rfl (w.heap.size + 4) _ (jI xs fs ys gs k) n1 hn1 rfl (unhide JY).oi rfl (by omega) hszY ?_; intro a1' c1' w6 hO hG; have po0' := (hG.block _ (by omega) (fun q => by have := World.ownsRow.lt (unhide JY).oi _ q.symm; omega)).trans (unhide JY).ko; obtain ⟨pq0, pq1, pqf⟩ := blk_cells2 po0'; have HJ6 := hide ((unhide JY).appI hO hG); clear hO hG po0' po0 po1 pof))
                go_roundw
                case rel => exact ⟨k + 1, a1', n1 + 1, c1', a3, n3, c3, by omega, by go_num, by rw [jI_pos (unhide HE) (by rw [unhide HF2]; exact hin)]; exact unhide HJ6⟩
                case measure => simp [intOf]; omega
              · go_wp2
                go_roundw
                case rel => exact ⟨k + 1, a1, n1, c1, a3, n3, c3, by omega, by go_num, by rw [jI_neg (unhide HE) (by rw [unhide HF2]; exact hin)]; exact unhide JY⟩
                case measure => simp [intOf]; omega
            · have HE := hide (show jE (ent xs k) (ent ys k) = some rA by rw [entR_true (unhide HA), entR_true (unhide HB)]; exact congrArg some (mx_le1 (by rw [← cmpK_key, unhide HC]; exact hgt)))
              go_upto_region 14 with fail
              obtain ⟨Y, hY⟩ : ∃ Y, Y = w5 := ⟨_, rfl⟩
              rw [← hY]
              have KE : Hid (Y.heap[w4.heap.size + 1]? = some (.cells #[.int .i64 rA.1, .int .i64 rA.2.1, .int .i64 rA.2.2.1, .int .i64 rA.2.2.2.1, .string rA.2.2.2.2] 55 (0, 0))) := hide (by rw [hY]; exact unhide KE0)
              have BY : Hid (Below X.heap.size X Y) := hide (by rw [hY]; exact unhide B5)
              clear hY
              obtain ⟨pe0, pe1, pe2, pe3, pe4, -⟩ := ent_cells (unhide KE)
              have JY := hide ((unhide HJX).later (unhide BY))
              have hszY := (unhide JY).sz
              obtain ⟨po0, po1, pof⟩ := blk_cells2 (unhide JY).ko
              have hn1 : Hid (n1 = (jI xs fs ys gs k).length) := hide ((unhide JY).oi.rw encI_len).len.1
              have hn1l : n1 ≤ 5 := by have := unhide hn1; have := jI_len xs fs ys gs k; omega
              have hge : w4.heap.size + 1 < Y.heap.size := (Array.getElem?_eq_some_iff.mp (unhide KE)).1
              rcases Bool.eq_false_or_eq_true (decide (f < rA.1)) with hin | hin
              · go_wp2_with (first | (at_builtin; refine wpList_app1 encI_len (by omega) oneI 75 27 i0 _ 56 Try.underlying27 hi hz0 hz1 hz2 rfl (by omega) Y ((k : Int), rA) rfl _ _ rfl (w.heap.size + 4) _ (jI xs fs ys gs k) n1 hn1 rfl (unhide JY).oi rfl (by omega) hszY ?_; intro a1' c1' w6 hO hG; have po0' := (hG.block _ (by omega) (fun q => by have := World.ownsRow.lt (unhide JY).oi _ q.symm; omega)).trans (unhide JY).ko; obtain ⟨pq0, pq1, pqf⟩ := blk_cells2 po0'; have HJ6 := hide ((unhide JY).appI hO hG); clear hO hG po0' po0 po1 pof))
                go_roundw
                case rel => exact ⟨k + 1, a1', n1 + 1, c1', a3, n3, c3, by omega, by go_num, by rw [jI_pos (unhide HE) (by rw [unhide HF2]; exact hin)]; exact unhide HJ6⟩
                case measure => simp [intOf]; omega
              · go_wp2
                go_roundw
                case rel => exact ⟨k + 1, a1, n1, c1, a3, n3, c3, by omega, by go_num, by rw [jI_neg (unhide HE) (by rw [unhide HF2]; exact hin)]; exact unhide JY⟩
                case measure => simp [intOf]; omega
      · go_upto_region 8 with fail
        obtain ⟨X, hX⟩ : ∃ X, X = w1 := ⟨_, rfl⟩
        rw [← hX]
        obtain ⟨a3, n3, c3, HJX⟩ : ∃ a3 n3 c3, Hid (J3 w X (StB (.slice ai ni ci) (.slice af nf cf)) (StB (.slice bi mi di) (.slice bf mf df)) a1 n1 c1 a3 n3 c3 (jI xs fs ys gs k) (jF fs gs (k + 1))) := ⟨a2, n2, c2, by rw [hX, jF_neg (by rw [unhide HF2]; exact hpos)]; exact unhide HJ1⟩
        clear hX HJ1 po0 po1 pof hsz hn2 hn2l hpos
        have hsz := (unhide HJX).sz
        obtain ⟨pa0, pa1, -⟩ := blk_cells2 (unhide HJX).ka
        go_wp2_with fail
        refine (sentry_any _ ai ni ci xs _ rA okA HA _ hni ((unhide HX).later (unhide HJX).bel)).mono ?_
        rintro e w3 ⟨rfl, b3⟩
        have J3' := hide ((unhide HJX).later b3)
        have z3 := b3.size
        have B3 := hide b3
        obtain ⟨pb0, pb1, -⟩ := blk_cells2 (unhide J3').kb
        clear pa0 pa1 b3
        have zb : w.heap.size + 1 < w3.heap.size := by omega
        go_wp2_with fail
        refine (sentry_any _ bi mi di ys _ rB okB HB _ hmi (((unhide HY).later (unhide J3').bel).alloc _)).mono ?_
        rintro e w4 ⟨rfl, b4⟩
        have b4' := ((Below.refl w3.heap.size w3).alloc (Nat.le_refl _) _).trans (b4.mono (by simp))
        have kx := (b4.block w3.heap.size (by simp)).trans (newB1 w3 _)
        have zx : w3.heap.size < w4.heap.size := by have := b4.size; simp at this; omega
        have J4 := hide ((unhide J3').later b4')
        have B4 := hide ((unhide B3).trans (b4'.mono z3))
        have KX := hide kx
        obtain ⟨px0, px1, px2, px3, px4, -⟩ := ent_cells kx
        clear pb0 pb1 b4 b4' kx J3' B3
        cases okA
        · cases okB
          · have HE := hide (show jE (ent xs k) (ent ys k) = none by rw [entR_false (unhide HA), entR_false (unhide HB)]; rfl)
            have B5 := hide ((unhide B4).alloc (by omega) (.cells #[.int .i64 rB.1, .int .i64 rB.2.1, .int .i64 rB.2.2.1, .int .i64 rB.2.2.2.1, .string rB.2.2.2.2] 55))
            go_wp2
            go_roundw
            case rel => exact ⟨k + 1, a1, n1, c1, a3, n3, c3, by omega, by go_num, by rw [jI_none (unhide HE)]; exact (unhide HJX).later (unhide B5)⟩
            case measure => simp [intOf]; omega
          · have HE := hide (show jE (ent xs k) (ent ys k) = some rB by rw [entR_false (unhide HA), entR_true (unhide HB)]; rfl)
            go_upto_region 14 with fail
            obtain ⟨Y, hY⟩ : ∃ Y, Y = ((w4.alloc (.cells #[.int .i64 rB.1, .int .i64 rB.2.1, .int .i64 rB.2.2.1, .int .i64 rB.2.2.2.1, .string rB.2.2.2.2] 55)).alloc (.cells #[.int .i64 rB.1, .int .i64 rB.2.1, .int .i64 rB.2.2.1, .int .i64 rB.2.2.2.1, .string rB.2.2.2.2] 55)) := ⟨_, rfl⟩
            rw [← hY]
            have KE : Hid (Y.heap[w4.heap.size + 1]? = some (.cells #[.int .i64 rB.1, .int .i64 rB.2.1, .int .i64 rB.2.2.1, .int .i64 rB.2.2.2.1, .string rB.2.2.2.2] 55 (0, 0))) := hide (by rw [hY]; exact newB2 w4 _ _)
            have BY : Hid (Below X.heap.size X Y) := hide (by rw [hY]; exact ((unhide B4).alloc (by omega) _).alloc (by simp; omega) _)
            clear hY
            obtain ⟨pe0, pe1, pe2, pe3, pe4, -⟩ := ent_cells (unhide KE)
            have JY := hide ((unhide HJX).later (unhide BY))
            have hszY := (unhide JY).sz
            obtain ⟨po0, po1, pof⟩ := blk_cells2 (unhide JY).ko
            have hn1 : Hid (n1 = (jI xs fs ys gs k).length) := hide ((unhide JY).oi.rw encI_len).len.1
            have hn1l : n1 ≤ 5 := by have := unhide hn1; have := jI_len xs fs ys gs k; omega
            have hge : w4.heap.size + 1 < Y.heap.size := (Array.getElem?_eq_some_iff.mp (unhide KE)).1
            rcases Bool.eq_false_or_eq_true (decide (f < rB.1)) with hin | hin
            · go_wp2_with (first | (at_builtin; refine wpList_app1 encI_len (by omega) oneI 75 27 i0 _ 56 Try.underlying27 hi hz0 hz1 hz2 rfl (by omega) Y ((k : Int), rB) rfl _ _ rfl (w.heap.size + 4) _ (jI xs fs ys gs k) n1 hn1 rfl (unhide JY).oi rfl (by omega) hszY ?_; intro a1' c1' w6 hO hG; have po0' := (hG.block _ (by omega) (fun q => by have := World.ownsRow.lt (unhide JY).oi _ q.symm; omega)).trans (unhide JY).ko; obtain ⟨pq0, pq1, pqf⟩ := blk_cells2 po0'; have HJ6 := hide ((unhide JY).appI hO hG); clear hO hG po0' po0 po1 pof))
              go_roundw
              case rel => exact ⟨k + 1, a1', n1 + 1, c1', a3, n3, c3, by omega, by go_num, by rw [jI_pos (unhide HE) (by rw [unhide HF2]; exact hin)]; exact unhide HJ6⟩
              case measure => simp [intOf]; omega
            · go_wp2
              go_roundw
              case rel => exact ⟨k + 1, a1, n1, c1, a3, n3, c3, by omega, by go_num, by rw [jI_neg (unhide HE) (by rw [unhide HF2]; exact hin)]; exact unhide JY⟩
              case measure => simp [intOf]; omega
        · cases okB
          · have HE := hide (show jE (ent xs k) (ent ys k) = some rA by rw [entR_true (unhide HA), entR_false (unhide HB)]; rfl)
            go_upto_region 14 with fail
            obtain ⟨Y, hY⟩ : ∃ Y, Y = ((w4.alloc (.cells #[.int .i64 rB.1, .int .i64 rB.2.1, .int .i64 rB.2.2.1, .int .i64 rB.2.2.2.1, .string rB.2.2.2.2] 55)).alloc (.cells #[.int .i64 rA.1, .int .i64 rA.2.1, .int .i64 rA.2.2.1, .int .i64 rA.2.2.2.1, .string rA.2.2.2.2] 55)) := ⟨_, rfl⟩
            rw [← hY]
            have KE : Hid (Y.heap[w4.heap.size + 1]? = some (.cells #[.int .i64 rA.1, .int .i64 rA.2.1, .int .i64 rA.2.2.1, .int .i64 rA.2.2.2.1, .string rA.2.2.2.2] 55 (0, 0))) := hide (by rw [hY]; exact newB2 w4 _ _)
            have BY : Hid (Below X.heap.size X Y) := hide (by rw [hY]; exact ((unhide B4).alloc (by omega) _).alloc (by simp; omega) _)
            clear hY
            obtain ⟨pe0, pe1, pe2, pe3, pe4, -⟩ := ent_cells (unhide KE)
            have JY := hide ((unhide HJX).later (unhide BY))
            have hszY := (unhide JY).sz
            obtain ⟨po0, po1, pof⟩ := blk_cells2 (unhide JY).ko
            have hn1 : Hid (n1 = (jI xs fs ys gs k).length) := hide ((unhide JY).oi.rw encI_len).len.1
            have hn1l : n1 ≤ 5 := by have := unhide hn1; have := jI_len xs fs ys gs k; omega
            have hge : w4.heap.size + 1 < Y.heap.size := (Array.getElem?_eq_some_iff.mp (unhide KE)).1
            rcases Bool.eq_false_or_eq_true (decide (f < rA.1)) with hin | hin
            · go_wp2_with (first | (at_builtin; refine wpList_app1 encI_len (by omega) oneI 75 27 i0 _ 56 Try.underlying27 hi hz0 hz1 hz2 rfl (by omega) Y ((k : Int), rA) rfl _ _ rfl (w.heap.size + 4) _ (jI xs fs ys gs k) n1 hn1 rfl (unhide JY).oi rfl (by omega) hszY ?_; intro a1' c1' w6 hO hG; have po0' := (hG.block _ (by omega) (fun q => by have := World.ownsRow.lt (unhide JY).oi _ q.symm; omega)).trans (unhide JY).ko; obtain ⟨pq0, pq1, pqf⟩ := blk_cells2 po0'; have HJ6 := hide ((unhide JY).appI hO hG); clear hO hG po0' po0 po1 pof))
              go_roundw
              case rel => exact ⟨k + 1, a1', n1 + 1, c1', a3, n3, c3, by omega, by go_num, by rw [jI_pos (unhide HE) (by rw [unhide HF2]; exact hin)]; exact unhide HJ6⟩
              case measure => simp [intOf]; omega
            · go_wp2
              go_roundw
              case rel => exact ⟨k + 1, a1, n1, c1, a3, n3, c3, by omega, by go_num, by rw [jI_neg (unhide HE) (by rw [unhide HF2]; exact hin)]; exact unhide JY⟩
              case measure => simp [intOf]; omega
          · obtain ⟨cm, hcm⟩ : ∃ cm, cmpE rB.1 rB.2.1 rB.2.2.1 rB.2.2.2.1 rB.2.2.2.2 rA.1 rA.2.1 rA.2.2.1 rA.2.2.2.1 rA.2.2.2.2 = cm := ⟨_, rfl⟩
            have HC := hide hcm
            clear hcm
            go_wp2_with fail
            refine (scmpK_any rB rA cm HC _).mono ?_
            rintro e w5 ⟨rfl, b5⟩
            have b5' := (((Below.refl w4.heap.size w4).alloc (Nat.le_refl _) _).alloc (by simp) _).trans (b5.mono (by simp; omega))
            have B5 := hide ((unhide B4).trans (b5'.mono (by omega)))
            have KY := hide ((b5.block w4.heap.size (by simp; omega)).trans (lowB2 w4 _ _))
            have KE0 := hide ((b5.block (w4.heap.size + 1) (by simp)).trans (newB2 w4 _ _))
            obtain ⟨py0, py1, py2, py3, py4, pyf⟩ := ent_cells (unhide KY)
            obtain ⟨pz0, pz1, pz2, pz3, pz4, pzf⟩ := ent_cells (unhide KE0)
            clear b5 b5'
            rcases Bool.eq_false_or_eq_true (decide (0 < cm)) with hgt | hgt
            · have HE := hide (show jE (ent xs k) (ent ys k) = some rB by rw [entR_true (unhide HA), entR_true (unhide HB)]; exact congrArg some (mx_gt (by rw [← cmpK_key, unhide HC]; exact hgt)))
              go_upto_region 14 with fail
              obtain ⟨Y, hY⟩ : ∃ Y, Y = (((((w5.setCell ⟨w4.heap.size + 1, 0, none⟩ (.int .i64 rB.1)).setCell ⟨w4.heap.size + 1, 1, none⟩ (.int .i64 rB.2.1)).setCell ⟨w4.heap.size + 1, 2, none⟩ (.int .i64 rB.2.2.1)).setCell ⟨w4.heap.size + 1, 3, none⟩ (.int .i64 rB.2.2.2.1)).setCell ⟨w4.heap.size + 1, 4, none⟩ (.string rB.2.2.2.2)) := ⟨_, rfl⟩
              rw [← hY]
              have KE : Hid (Y.heap[w4.heap.size + 1]? = some (.cells #[.int .i64 rB.1, .int .i64 rB.2.1, .int .i64 rB.2.2.1, .int .i64 rB.2.2.2.1, .string rB.2.2.2.2] 55 (0, 0))) := hide (by rw [hY]; exact ent_set (unhide KE0) _ _ _ _ _)
              have BY : Hid (Below X.heap.size X Y) := hide (by rw [hY]; exact below_set5 (by omega) (unhide B5))
              clear hY
              obtain ⟨pe0, pe1, pe2, pe3, pe4, -⟩ := ent_cells (unhide KE)
              have JY := hide ((unhide HJX).later (unhide BY))
              have hszY := (unhide JY).sz
              obtain ⟨po0, po1, pof⟩ := blk_cells2 (unhide JY).ko
              have hn1 : Hid (n1 = (jI xs fs ys gs k).length) := hide ((unhide JY).oi.rw encI_len).len.1
              have hn1l : n1 ≤ 5 := by have := unhide hn1; have := jI_len xs fs ys gs k; omega
              have hge : w4.heap.size + 1 < Y.heap.size := (Array.getElem?_eq_some_iff.mp (unhide KE)).1
              rcases Bool.eq_false_or_eq_true (decide (f < rB.1)) with hin | hin
              · go_wp2_with (first | (at_builtin; refine wpList_app1 encI_len (by omega) oneI 75 27 i0 _ 56 Try.underlying27 hi hz0 hz1 hz2 rfl (by omega) Y ((k : Int), rB) rfl _ _ rfl (w.heap.size + 4) _ (jI xs fs ys gs k) n1 hn1 rfl (unhide JY).oi rfl (by omega) hszY ?_; intro a1' c1' w6 hO hG; have po0' := (hG.block _ (by omega) (fun q => by have := World.ownsRow.lt (unhide JY).oi _ q.symm; omega)).trans (unhide JY).ko; obtain ⟨pq0, pq1, pqf⟩ := blk_cells2 po0'; have HJ6 := hide ((unhide JY).appI hO hG); clear hO hG po0' po0 po1 pof))
                go_roundw
                case rel => exact ⟨k + 1, a1', n1 + 1, c1', a3, n3, c3, by omega, by go_num, by rw [jI_pos (unhide HE) (by rw [unhide HF2]; exact hin)]; exact unhide HJ6⟩
                case measure => simp [intOf]; omega
              · go_wp2
                go_roundw
                case rel => exact ⟨k + 1, a1, n1, c1, a3, n3, c3, by omega, by go_num, by rw [jI_neg (unhide HE) (by rw [unhide HF2]; exact hin)]; exact unhide JY⟩
                case measure => simp [intOf]; omega
            · have HE := hide (show jE (ent xs k) (ent ys k) = some rA by rw [entR_true (unhide HA), entR_true (unhide HB)]; exact congrArg some (mx_le1 (by rw [← cmpK_key, unhide HC]; exact hgt)))
              go_upto_region 14 with fail
              obtain ⟨Y, hY⟩ : ∃ Y, Y = w5 := ⟨_, rfl⟩
              rw [← hY]
              have KE : Hid (Y.heap[w4.heap.size + 1]? = some (.cells #[.int .i64 rA.1, .int .i64 rA.2.1, .int .i64 rA.2.2.1, .int .i64 rA.2.2.2.1, .string rA.2.2.2.2] 55 (0, 0))) := hide (by rw [hY]; exact unhide KE0)
              have BY : Hid (Below X.heap.size X Y) := hide (by rw [hY]; exact unhide B5)
              clear hY
              obtain ⟨pe0, pe1, pe2, pe3, pe4, -⟩ := ent_cells (unhide KE)
              have JY := hide ((unhide HJX).later (unhide BY))
              have hszY := (unhide JY).sz
              obtain ⟨po0, po1, pof⟩ := blk_cells2 (unhide JY).ko
              have hn1 : Hid (n1 = (jI xs fs ys gs k).length) := hide ((unhide JY).oi.rw encI_len).len.1
              have hn1l : n1 ≤ 5 := by have := unhide hn1; have := jI_len xs fs ys gs k; omega
              have hge : w4.heap.size + 1 < Y.heap.size := (Array.getElem?_eq_some_iff.mp (unhide KE)).1
              rcases Bool.eq_false_or_eq_true (decide (f < rA.1)) with hin | hin
              · go_wp2_with (first | (at_builtin; refine wpList_app1 encI_len (by omega) oneI 75 27 i0 _ 56 Try.underlying27 hi hz0 hz1 hz2 rfl (by omega) Y ((k : Int), rA) rfl _ _ rfl (w.heap.size + 4) _ (jI xs fs ys gs k) n1 hn1 rfl (unhide JY).oi rfl (by omega) hszY ?_; intro a1' c1' w6 hO hG; have po0' := (hG.block _ (by omega) (fun q => by have := World.ownsRow.lt (unhide JY).oi _ q.symm; omega)).trans (unhide JY).ko; obtain ⟨pq0, pq1, pqf⟩ := blk_cells2 po0'; have HJ6 := hide ((unhide JY).appI hO hG); clear hO hG po0' po0 po1 pof))
                go_roundw
                case rel => exact ⟨k + 1, a1', n1 + 1, c1', a3, n3, c3, by omega, by go_num, by rw [jI_pos (unhide HE) (by rw [unhide HF2]; exact hin)]; exact unhide HJ6⟩
                case measure => simp [intOf]; omega
              · go_wp2
                go_roundw
                case rel => exact ⟨k + 1, a1, n1, c1, a3, n3, c3, by omega, by go_num, by rw [jI_neg (unhide HE) (by rw [unhide HF2]; exact hin)]; exact unhide JY⟩
                case measure => simp [intOf]; omega
    · have ek : k = 5 := by omega
      have HJ5 : Hid (J3 w wr (StB (.slice ai ni ci) (.slice af nf cf)) (StB (.slice bi mi di) (.slice bf mf df)) a1 n1 c1 a2 n2 c2 (joinI xs fs ys gs) (joinF fs gs)) := by
        have h := unhide HJ
        rw [ek] at h
        exact hide h
      obtain ⟨pr0, pr1, prf⟩ := blk_cells2 (unhide HJ5).kr
      clear HJ ek
      go_wp2
      exact bodyPost_ret (v := .agg #[.slice a1 n1 c1, .slice a2 n2 c2]) (by simp [results, Try.results64, go_sem, pr0, pr1]) rfl ⟨a1, n1, c1, a2, n2, c2, rfl, Ow.base (((unhide HJ5).oi.set ⟨w.heap.size + 1 + 1, 0, none⟩ (by simp <;> omega) _).set ⟨w.heap.size + 1 + 1, 1, none⟩ (by simp <;> omega) _) (by omega), Ow.base (((unhide HJ5).of.set ⟨w.heap.size + 1 + 1, 0, none⟩ (by simp <;> omega) _).set ⟨w.heap.size + 1 + 1, 1, none⟩ (by simp <;> omega) _) (by omega), ((unhide HJ5).bel.setCell (p := ⟨w.heap.size + 1 + 1, 0, none⟩) (by simp <;> omega) _).setCell (p := ⟨w.heap.size + 1 + 1, 1, none⟩) (by simp <;> omega) _⟩
end Go.Proofs.Ytdpaocikmijioac

namespace Go.Proofs.Ytdpaocikmijioac
open Go.RowKit

def jnI (ok : Bool) (xs : List Itm) (fs : List Flr) (ys : List Itm) (gs : List Flr) : List Itm := match ok with
  | true => joinI xs fs ys gs
  | false => []
def jnF (ok : Bool) (fs gs : List Flr) : List Flr := match ok with
  | true => joinF fs gs
  | false => []
theorem jnI_len (ok : Bool) (xs : List Itm) (fs : List Flr) (ys : List Itm) (gs : List Flr) : (jnI ok xs fs ys gs).length ≤ 5 := by
  cases ok
  · simp [jnI]
  · exact jI_len xs fs ys gs 5
theorem jnF_len (ok : Bool) (fs gs : List Flr) : (jnF ok fs gs).length ≤ 5 := by
  cases ok
  · simp [jnF]
  · exact jF_len fs gs 5

set_option maxHeartbeats 4000000 in
theorem sjoin_any (ai : Option Addr) (ni ci : Nat) (xs : List Itm) (af : Option Addr) (nf cf : Nat) (fs : List Flr) (bi : Option Addr) (mi di : Nat) (ys : List Itm) (bf : Option Addr) (mf df : Nat) (gs : List Flr) (ok : Bool) (h0 : Hid ((okS xs fs && okS ys gs) = ok)) (n1 n2 : Nat) (hn1 : Hid ((jnI ok xs fs ys gs).length = n1)) (hn2 : Hid ((jnF ok fs gs).length = n2)) (w : World)
    (hni : ni ≤ 140737488351232) (hnf : nf ≤ 140737488351232) (hmi : mi ≤ 140737488351232) (hmf : mf ≤ 140737488351232) (hx : Rw encI 6 w (.slice ai ni ci) xs) (hf : Rw encF 2 w (.slice af nf cf) fs) (hy : Rw encI 6 w (.slice bi mi di) ys) (hg : Rw encF 2 w (.slice bf mf df) gs) :
    Calls Try.prog 22 #[.agg #[.slice ai ni ci, .slice af nf cf], .agg #[.slice bi mi di, .slice bf mf df]] w fun e w' => ∃ a1 c1 a2 c2, e = .returned (.tuple #[.agg #[.slice a1 n1 c1, .slice a2 n2 c2], .bool ok]) ∧ OwI w.heap.size w' (.slice a1 n1 c1) (jnI ok xs fs ys gs) ∧ OwF w.heap.size w' (.slice a2 n2 c2) (jnF ok fs gs) ∧ Below w.heap.size w w' := by
  have HX := hide hx
  have HY := hide hy
  have HF := hide hf
  have HG := hide hg
  obtain ⟨okA, hA⟩ : ∃ okA, okS xs fs = okA := ⟨_, rfl⟩
  obtain ⟨okB, hB⟩ : ∃ okB, okS ys gs = okB := ⟨_, rfl⟩
  have hk := unhide h0
  rw [hA, hB] at hk
  have HA := hide hA
  have HB := hide hB
  clear hx hy hf hg hA hB h0
  cases okA
  · obtain rfl : ok = false := hk.symm
    clear hk
    obtain rfl := unhide hn1
    obtain rfl := unhide hn2
    go_enter Try.func22, Try.ntmps22
    go_wp2_with fail
    refine (sstateok_any ai ni ci xs af nf cf fs _ HA _ hni hnf ((((unhide HX).alloc _).alloc _).alloc _) ((((unhide HF).alloc _).alloc _).alloc _)).mono ?_
    rintro e w1 ⟨rfl, b1⟩
    obtain ⟨p0, p1, -⟩ := blk_cells2 ((b1.block _ (by simp)).trans (newB3 w _ _ _))
    have HB1 := hide (((((Below.refl w.heap.size w).alloc (Nat.le_refl _) _).alloc (by simp) _).alloc (by simp; omega) _).trans (b1.mono (by simp; omega)))
    have MR := hide ((b1.block _ (by simp)).trans (newB3 w _ _ _))
    obtain ⟨p0, p1, pf⟩ := blk_cells2 (unhide MR)
    clear b1
    go_wp2
    exact bodyPost_ret (v := .tuple #[.agg #[.slice none 0 0, .slice none 0 0], .bool false]) (by simp [results, Try.results22, go_sem, p0, p1]) rfl ⟨none, 0, none, 0, rfl, World.ownsRow_nil _ _ _ _, World.ownsRow_nil _ _ _ _, ((unhide HB1).setCell (p := ⟨w.heap.size + 1 + 1, 0, none⟩) (by simp <;> omega) _).setCell (p := ⟨w.heap.size + 1 + 1, 1, none⟩) (by simp <;> omega) _⟩
  · cases okB
    · obtain rfl : ok = false := hk.symm
      clear hk
      obtain rfl := unhide hn1
      obtain rfl := unhide hn2
      go_enter Try.func22, Try.ntmps22
      go_wp2_with fail
      refine (sstateok_any ai ni ci xs af nf cf fs _ HA _ hni hnf ((((unhide HX).alloc _).alloc _).alloc _) ((((unhide HF).alloc _).alloc _).alloc _)).mono ?_
      rintro e w1 ⟨rfl, b1⟩
      obtain ⟨q0, q1, -⟩ := blk_cells2 ((b1.block _ (by simp)).trans (midB3 w _ _ _))
      have HB1 := hide (((((Below.refl w.heap.size w).alloc (Nat.le_refl _) _).alloc (by simp) _).alloc (by simp; omega) _).trans (b1.mono (by simp; omega)))
      have MR := hide ((b1.block _ (by simp)).trans (newB3 w _ _ _))
      have hz1 : w.heap.size + 1 + 1 < w1.heap.size := (Array.getElem?_eq_some_iff.mp (unhide MR)).1
      clear b1
      go_wp2_with fail
      refine (sstateok_any bi mi di ys bf mf df gs _ HB _ hmi hmf ((unhide HY).later (unhide HB1)) ((unhide HG).later (unhide HB1))).mono ?_
      rintro e w2 ⟨rfl, b2⟩
      have HB2 := hide ((unhide HB1).trans (b2.mono (unhide HB1).size))
      obtain ⟨p0, p1, pf⟩ := blk_cells2 ((b2.block _ hz1).trans (unhide MR))
      clear b2
      go_wp2
      exact bodyPost_ret (v := .tuple #[.agg #[.slice none 0 0, .slice none 0 0], .bool false]) (by simp [results, Try.results22, go_sem, p0, p1]) rfl ⟨none, 0, none, 0, rfl, World.ownsRow_nil _ _ _ _, World.ownsRow_nil _ _ _ _, ((unhide HB2).setCell (p := ⟨w.heap.size + 1 + 1, 0, none⟩) (by simp <;> omega) _).setCell (p := ⟨w.heap.size + 1 + 1, 1, none⟩) (by simp <;> omega) _⟩
    · obtain rfl : ok = true := hk.symm
      clear hk
      go_enter Try.func22, Try.ntmps22
      go_wp2_with fail
      refine (sstateok_any ai ni ci xs af nf cf fs _ HA _ hni hnf ((((unhide HX).alloc _).alloc _).alloc _) ((((unhide HF).alloc _).alloc _).alloc _)).mono ?_
      rintro e w1 ⟨rfl, b1⟩
      have MA := hide ((b1.block _ (by simp; omega)).trans (lowB3 w _ _ _))
      have MB := hide ((b1.block _ (by simp)).trans (midB3 w _ _ _))
      obtain ⟨q0, q1, -⟩ := blk_cells2 (unhide MB)
      have HB1 := hide (((((Below.refl w.heap.size w).alloc (Nat.le_refl _) _).alloc (by simp) _).alloc (by simp; omega) _).trans (b1.mono (by simp; omega)))
      have MR := hide ((b1.block _ (by simp)).trans (newB3 w _ _ _))
      have hz1 : w.heap.size + 1 + 1 < w1.heap.size := (Array.getElem?_eq_some_iff.mp (unhide MR)).1
      clear b1
      go_wp2_with fail
      refine (sstateok_any bi mi di ys bf mf df gs _ HB _ hmi hmf ((unhide HY).later (unhide HB1)) ((unhide HG).later (unhide HB1))).mono ?_
      rintro e w2 ⟨rfl, b2⟩
      have HB2 := hide ((unhide HB1).trans (b2.mono (unhide HB1).size))
      have MR2 := hide ((b2.block _ hz1).trans (unhide MR))
      have hz2 : w.heap.size + 1 + 1 < w2.heap.size := (Array.getElem?_eq_some_iff.mp (unhide MR2)).1
      obtain ⟨r0, r1, -⟩ := blk_cells2 ((b2.block _ (by omega)).trans (unhide MA))
      obtain ⟨s0, s1, -⟩ := blk_cells2 ((b2.block _ (by omega)).trans (unhide MB))
      clear b2 q0 q1 MA MB MR
      go_wp2_with fail
      refine (l3join_any ai ni ci xs af nf cf fs bi mi di ys bf mf df gs _ hni hnf hmi hmf ((unhide HX).later (unhide HB2)) ((unhide HF).later (unhide HB2)) ((unhide HY).later (unhide HB2)) ((unhide HG).later (unhide HB2))).mono ?_
      rintro e w3 ⟨a1, m1, c1, a2, m2, c2, rfl, o1, o2, b3⟩
      obtain rfl : m1 = n1 := ((o1.rw encI_len).len.1).trans (unhide hn1)
      obtain rfl : m2 = n2 := ((o2.rw encF_len).len.1).trans (unhide hn2)
      have HB3 := hide ((unhide HB2).trans (b3.mono (unhide HB2).size))
      obtain ⟨p0, p1, pf⟩ := blk_cells2 ((b3.block _ hz2).trans (unhide MR2))
      have O1 := hide (Ow.base (base' := w.heap.size + 1 + 1 + 1) o1 (by omega))
      have O2 := hide (Ow.base (base' := w.heap.size + 1 + 1 + 1) o2 (by omega))
      clear b3 o1 o2 hn1 hn2
      go_wp2
      exact bodyPost_ret (v := .tuple #[.agg #[.slice a1 m1 c1, .slice a2 m2 c2], .bool true]) (by simp [results, Try.results22, go_sem, p0, p1]) rfl ⟨a1, c1, a2, c2, rfl, Ow.base (((unhide O1).set ⟨w.heap.size + 1 + 1, 0, none⟩ (by simp <;> omega) _).set ⟨w.heap.size + 1 + 1, 1, none⟩ (by simp <;> omega) _) (by omega), Ow.base (((unhide O2).set ⟨w.heap.size + 1 + 1, 0, none⟩ (by simp <;> omega) _).set ⟨w.heap.size + 1 + 1, 1, none⟩ (by simp <;> omega) _) (by omega), ((unhide HB3).setCell (p := ⟨w.heap.size + 1 + 1, 0, none⟩) (by simp <;> omega) _).setCell (p := ⟨w.heap.size + 1 + 1, 1, none⟩) (by simp <;> omega) _⟩
end Go.Proofs.Ytdpaocikmijioac

namespace Go.Proofs.Ytdpaocikmijioac
open Go.RowKit

def sgl (ok : Bool) (id : Int) (e : Key) : List Itm := match ok with
  | true => [(id, e)]
  | false => []

/-- A slice literal of one item, in a block of its own. -/
theorem own_one {w : World} {g base : Nat} (id : Int) (e : Key) (hb : base ≤ g) (h : w.heap[g]? = some (.cells #[.int .i64 id, .int .i64 e.1, .int .i64 e.2.1, .int .i64 e.2.2.1, .int .i64 e.2.2.2.1, .string e.2.2.2.2] 75 (0, 0))) : OwI base w (.slice (some ⟨g, 0, none⟩) 1 1) [(id, e)] :=
  ⟨rfl, .inr ⟨g, 1, _, rfl, hb, h, Nat.le_refl _, by unfold maxLen; simp, rfl, rfl⟩⟩
theorem own_nil (w : World) (base : Nat) : OwI base w (.slice none 0 0) [] := World.ownsRow_nil w base _ _

set_option maxHeartbeats 2000000 in
theorem ssingle_any (id : Int) (e : Key) (ok : Bool) (h0 : Hid (okS [(id, e)] [] = ok)) (n : Nat) (hn : Hid ((sgl ok id e).length = n)) (w : World) :
    Calls Try.prog 27 #[.int .i64 id, .agg #[.int .i64 e.1, .int .i64 e.2.1, .int .i64 e.2.2.1, .int .i64 e.2.2.2.1, .string e.2.2.2.2]] w fun r w' => ∃ a c, r = .returned (.tuple #[.agg #[.slice a n c, .slice none 0 0], .bool ok]) ∧ OwI w.heap.size w' (.slice a n c) (sgl ok id e) ∧ Below w.heap.size w w' := by
  go_enter Try.func27, Try.ntmps27
  go_wp2_with fail
  obtain ⟨m1, m2, m3⟩ := new4 w (.cells #[.int .i64 e.1, .int .i64 e.2.1, .int .i64 e.2.2.1, .int .i64 e.2.2.2.1, .string e.2.2.2.2] 55) (.cells #[.slice none 0 0, .slice none 0 0] 30) (.cells #[.int .i64 id, .int .i64 e.1, .int .i64 e.2.1, .int .i64 e.2.2.1, .int .i64 e.2.2.2.1, .string e.2.2.2.2] 75) (.cells #[.slice (some ⟨w.heap.size + 1 + 1, 0, none⟩) 1 1, .slice none 0 0] 30)
  have hR := (own_one (base := 0) id e (Nat.zero_le _) m2).rw encI_len
  refine (sstateok_any (some ⟨w.heap.size + 1 + 1, 0, none⟩) 1 1 [(id, e)] none 0 0 [] ok h0 _ (by omega) (by omega) hR Rw.nil).mono ?_
  rintro r w1 ⟨rfl, b1⟩
  have hz1 : w.heap.size + 3 < w1.heap.size := by have := b1.size; simp at this; omega
  obtain ⟨p0, p1, p2⟩ := blk_cells2 ((b1.block _ (by simp)).trans m1)
  obtain ⟨q0, q1, q2⟩ := blk_cells2 ((b1.block _ (by simp)).trans m3)
  have M2 := hide ((b1.block _ (by simp)).trans m2)
  have HB := hide ((((((Below.refl w.heap.size w).alloc (Nat.le_refl _) _).alloc (by simp) _).alloc (by simp; omega) _).alloc (by simp; omega) _).trans (b1.mono (by simp; omega)))
  clear m1 m2 m3 b1 hR
  cases ok
  · obtain rfl := unhide hn
    go_wp2
    exact bodyPost_ret (v := .tuple #[.agg #[.slice none 0 0, .slice none 0 0], .bool false]) (by simp [results, Try.results27, go_sem, p0, p1]) rfl ⟨none, 0, rfl, own_nil _ _, ((unhide HB).setCell (p := ⟨w.heap.size + 1, 0, none⟩) (by simp) _).setCell (p := ⟨w.heap.size + 1, 1, none⟩) (by simp) _⟩
  · obtain rfl := unhide hn
    go_wp2
    exact bodyPost_ret (v := .tuple #[.agg #[.slice (some ⟨w.heap.size + 1 + 1, 0, none⟩) 1 1, .slice none 0 0], .bool true]) (by simp [results, Try.results27, go_sem, p0, p1]) rfl ⟨some ⟨w.heap.size + 1 + 1, 0, none⟩, 1, rfl, (own_one (base := w.heap.size) id e (by omega) (by rw [heap_setCell_other _ _ _ _ (by show w.heap.size + 1 + 1 ≠ w.heap.size + 1; omega), heap_setCell_other _ _ _ _ (by show w.heap.size + 1 + 1 ≠ w.heap.size + 1; omega)]; exact unhide M2)), ((unhide HB).setCell (p := ⟨w.heap.size + 1, 0, none⟩) (by simp) _).setCell (p := ⟨w.heap.size + 1, 1, none⟩) (by simp) _⟩

set_option maxHeartbeats 2000000 in
theorem isingle_any (id : Int) (e : Key) (hd : e.2.2.2.2.size ≤ 281474976710656) (ok : Bool) (h0 : Hid (okS [(id, e)] [] = ok)) (n : Nat) (hn : Hid ((sgl ok id e).length = n)) (w : World) :
    Calls Try.prog 29 #[.int .i64 id, .agg #[.int .i64 e.1, .int .i64 e.2.1, .int .i64 e.2.2.1, .int .i64 e.2.2.2.1, .string e.2.2.2.2]] w fun r w' => ∃ a c, r = .returned (.tuple #[.agg #[.slice a n c, .slice none 0 0], .bool ok]) ∧ OwI w.heap.size w' (.slice a n c) (sgl ok id e) ∧ Below w.heap.size w w' := by
  go_enter Try.func29, Try.ntmps29
  go_wp2_with fail
  refine (icopy_any e.1 e.2.1 e.2.2.1 e.2.2.2.1 e.2.2.2.2 hd _).mono ?_
  rintro r u ⟨rfl, b0⟩
  have M1 := hide ((b0.block _ (by simp)).trans (newB2 w _ _))
  have HB0 := hide ((((Below.refl w.heap.size w).alloc (Nat.le_refl _) _).alloc (by simp) _).trans (b0.mono (by simp; omega)))
  have hz0 : w.heap.size + 1 < u.heap.size := by have := b0.size; simp at this; omega
  clear b0
  go_wp2_with fail
  have m2 := lowB2 u (.cells #[.int .i64 id, .int .i64 e.1, .int .i64 e.2.1, .int .i64 e.2.2.1, .int .i64 e.2.2.2.1, .string e.2.2.2.2] 75) (.cells #[.slice (some ⟨u.heap.size, 0, none⟩) 1 1, .slice none 0 0] 30)
  have m3 := newB2 u (.cells #[.int .i64 id, .int .i64 e.1, .int .i64 e.2.1, .int .i64 e.2.2.1, .int .i64 e.2.2.2.1, .string e.2.2.2.2] 75) (.cells #[.slice (some ⟨u.heap.size, 0, none⟩) 1 1, .slice none 0 0] 30)
  have hR := (own_one (base := 0) id e (Nat.zero_le _) m2).rw encI_len
  refine (istateok_any (some ⟨u.heap.size, 0, none⟩) 1 1 [(id, e)] none 0 0 [] ok h0 _ (by omega) (by omega) hR Rw.nil).mono ?_
  rintro r w1 ⟨rfl, b1⟩
  have hz1 : u.heap.size + 1 < w1.heap.size := by have := b1.size; simp at this; omega
  have c1 := (((Below.refl u.heap.size u).alloc (Nat.le_refl _) _).alloc (by simp) _).trans (b1.mono (by simp; omega))
  obtain ⟨p0, p1, p2⟩ := blk_cells2 ((c1.block _ hz0).trans (unhide M1))
  obtain ⟨q0, q1, q2⟩ := blk_cells2 ((b1.block _ (by simp)).trans m3)
  have M2 := hide ((b1.block _ (by simp; omega)).trans m2)
  have HB := hide ((unhide HB0).trans (c1.mono (by omega)))
  clear m2 m3 b1 hR c1 M1 HB0
  cases ok
  · obtain rfl := unhide hn
    go_wp2
    exact bodyPost_ret (v := .tuple #[.agg #[.slice none 0 0, .slice none 0 0], .bool false]) (by simp [results, Try.results29, go_sem, p0, p1]) rfl ⟨none, 0, rfl, own_nil _ _, ((unhide HB).setCell (p := ⟨w.heap.size + 1, 0, none⟩) (by simp) _).setCell (p := ⟨w.heap.size + 1, 1, none⟩) (by simp) _⟩
  · obtain rfl := unhide hn
    go_wp2
    exact bodyPost_ret (v := .tuple #[.agg #[.slice (some ⟨u.heap.size, 0, none⟩) 1 1, .slice none 0 0], .bool true]) (by simp [results, Try.results29, go_sem, p0, p1]) rfl ⟨some ⟨u.heap.size, 0, none⟩, 1, rfl, (own_one (base := w.heap.size) id e (by omega) (by rw [heap_setCell_other _ _ _ _ (by show u.heap.size ≠ w.heap.size + 1; omega), heap_setCell_other _ _ _ _ (by show u.heap.size ≠ w.heap.size + 1; omega)]; exact unhide M2)), ((unhide HB).setCell (p := ⟨w.heap.size + 1, 0, none⟩) (by simp) _).setCell (p := ⟨w.heap.size + 1, 1, none⟩) (by simp) _⟩
end Go.Proofs.Ytdpaocikmijioac
