/-
  A list of states, a log in memory of one's own: the program's. No statement is proved here.
-/
import Derived.Test.YtdpaocikmijioafLgD
import Derived.Test.YtdpaocikmijioafLgM
namespace Go.Proofs.Ytdpaocikmijioaf
open Go.RowKit

theorem oneSs {w : World} {ps : List Two} {ss : List Sta} (h : Ins w ps ss) : ∀ u ∈ ps.flatMap encS, u.oneCell' = true := by
  intro u hu
  obtain ⟨p, hp, hx⟩ := List.mem_flatMap.1 hu
  obtain ⟨i, hi, hpi⟩ := List.mem_iff_getElem.1 hp
  have hl : i < ss.length := h.len ▸ hi
  obtain ⟨r1, r2⟩ := h.ins i p ss[i] (by simp [hi, hpi]) (by simp)
  obtain ⟨a, n, c, e1, -⟩ := r1.form
  obtain ⟨b, m, d, e2, -⟩ := r2.form
  exact oneS p (by rw [e1]; rfl) (by rw [e2]; rfl) u hx
theorem mix_put {α : Type} (qs ps : List α) (k : Nat) (q : α) (hq : qs.length = k) (hk : k < ps.length) : (qs ++ ps.drop k).set k q = (qs ++ [q]) ++ ps.drop (k + 1) := by
  subst hq
  rw [List.set_append_right _ _ (Nat.le_refl _), Nat.sub_self, List.drop_eq_getElem_cons hk, List.set_cons_zero, List.append_assoc]; rfl

set_option maxHeartbeats 8000000 in
set_option maxRecDepth 100000 in
theorem ichangescopy_any (a : Option Addr) (n cap : Nat) (ss : List Sta) (hS : SmlS ss) (w : World) (hn : n ≤ 2000000) (ht : ∀ (i : Nat) (s : Sta), ss[i]? = some s → s.1.length ≤ 1048576 ∧ s.2.length ≤ 1048576) (hx : RwS w (.slice a n cap) ss) :
    Calls Try.prog 67 #[.slice a n cap] w fun e w' => ∃ a' c', e = .returned (.slice a' n c') ∧ OwS w.heap.size w'.heap.size w' (.slice a' n c') ss ∧ Below w.heap.size w w' := by
  obtain ⟨i0, hi, hz0, hz1, hz2⟩ := info_parts Try.infoState
  have hb2 : i0.bytes * n ≤ 281474976710656 := by rw [hz2]; omega
  have hml : n ≤ maxLen := by unfold maxLen; omega
  have HL := hide hx.len.1
  obtain ⟨ps, hr, hins⟩ := hx
  have HR := hide hr
  have HI := hide hins
  have LP := hide hr.len.1
  have HS := hide hS
  have HT := hide ht
  have HZ2 := hide hz2
  clear hz2 hr hins hS ht
  go_enter Try.func67, Try.ntmps67
  go_wp2_with (first | (at_make; refine wpList_make_full _ rfl _ _ 49 rfl w.heap.size 37 i0 (.agg #[.slice none 0 0, .slice none 0 0]) 2 Try.underlying49 hi hz0 hz1 .i64 .i64 _ _ n rfl rfl rfl rfl hb2 hml (Nat.le_refl _) ?_))
  intro w1 hown hgrow
  have hbel : Below w.heap.size w w1 := (Below.refl _ _).grown hgrow (Nat.le_refl _) (fun k hk => by cases hk)
  have hown0 : OwV w.heap.size w1 (.slice (some ⟨w.heap.size, 0, none⟩) n n) (List.replicate n zeroS) := by
    rw [made_flat (enc := encS) (by omega) encS_len #[.slice none 0 0, .slice none 0 0] zeroS rfl n] at hown
    unfold OwV Ow
    simpa using hown
  obtain ⟨w2, hrun, o2, g2⟩ := copy_own (P := Try.prog) encS_len (by omega) 37 49 i0 Try.underlying49 hi hz1 w1 w.heap.size (.slice (some ⟨w.heap.size, 0, none⟩) n n) (.slice a n cap) (List.replicate n zeroS) ps n (unhide LP) (oneSs (unhide HI)) hown0 ((unhide HR).later hbel) (by rw [List.length_replicate]; exact unhide LP) 3
  have hb2 : Below w.heap.size w w2 := (Trn.of_grown g2).below hbel hbel.size (fun i q => by have := (World.ownsRow.lt hown0 _ q).1; omega)
  have O2 := hide o2
  have B2 := hide hb2
  clear hown hgrow hown0 hbel g2 o2 hb2
  go_wp2
  go_loopw [13] (fun i wr => ∃ (k : Nat) (qs : List Two), k ≤ n ∧ i = .int .i64 k ∧ qs.length = k ∧ OwV w.heap.size wr (.slice (some ⟨w.heap.size, 0, none⟩) n n) (qs ++ ps.drop k) ∧ Pa w.heap.size wr.heap.size wr qs (ss.take k) ∧ Below w.heap.size w wr) (fun i _ => n - (intOf i).toNat)
  case atStart => exact ⟨0, [], Nat.zero_le _, rfl, rfl, unhide O2, Pa.nil _ _ _, unhide B2⟩
  case round =>
    obtain ⟨k, qs, hk, rfl, hql, hown, hpa, hb⟩ := hrel
    clear O2 B2 hrun
    by_cases hlt : k < n
    · have hkp : k < ps.length := by have := unhide LP; omega
      obtain ⟨p, hp⟩ : ∃ p, ps[k]? = some p := ⟨_, List.getElem?_eq_getElem hkp⟩
      obtain ⟨⟨xs, fs⟩, hs⟩ : ∃ s, ss[k]? = some s := ⟨_, List.getElem?_eq_getElem (by have := (unhide HI).len; omega)⟩
      obtain ⟨r1, r2⟩ := (unhide HI).ins k p _ hp hs
      obtain ⟨ai, ni, ci, e1, l1⟩ := r1.form
      obtain ⟨af, nf, cf, e2, l2⟩ := r2.form
      obtain ⟨v1, v2⟩ := p
      simp only at e1 e2 r1 r2 l1 l2
      subst e1 e2
      obtain ⟨m1, m2⟩ := unhide HT k _ hs
      simp only at m1 m2
      have hn1 : ni ≤ 2000000 := by omega
      have hn2 : nf ≤ 2000000 := by omega
      have hgk : (qs ++ ps.drop k)[k]? = some (.slice ai ni ci, .slice af nf cf) := by
        rw [List.getElem?_append_right (by omega), hql, Nat.sub_self, List.getElem?_drop, Nat.add_zero]; exact hp
      obtain ⟨p', g', hp', ha', -, hgl', d0, d1⟩ := at2 hown hlt
      simp only [Option.some.injEq, Addr.mk.injEq, and_true] at ha'
      obtain rfl := ha'
      rw [hgk] at hp'
      cases hp'
      simp only at d0 d1
      have HSx := hide (unhide HS k _ hs)
      have RX := hide (r1.later hb)
      have RF := hide (r2.later hb)
      have HO := hide hown
      have HP := hide hpa
      have HB := hide hb
      have hsz := hb.size
      have HX1 := hide hs
      have HQL := hide hql
      clear hown hpa hb hs hp r1 r2 hgk hql l1 l2 m1 m2
      go_wp2_with fail
      refine (istatecopy_any ai ni ci xs (unhide HSx) af nf cf fs _ hn1 hn2 (unhide RX) (unhide RF)).mono ?_
      rintro e w2 ⟨a1, c1, a2, c2, rfl, o1, o2, b2⟩
      have hown2 := (unhide HO).later b2
      have hpa2 := (unhide HP).later b2
      have hb3 := (unhide HB).trans (b2.mono hsz)
      have hz2 := b2.size
      have hfl : (qs ++ ps.drop k).length = n := by have := unhide HQL; have := unhide LP; simp; omega
      obtain ⟨y0, y1, z0, z1, zf⟩ := own_cells2 (show w2.ownsRow w.heap.size 37 2 (.slice (some ⟨w.heap.size, 0, none⟩) n n) n _ from by have h := hown2; unfold OwV Ow at h; rw [hfl] at h; exact h) hlt
      have R1 := hown2.put (by omega) encS_len hfl.symm k hlt (.slice a1 ni c1, .slice a2 nf c2)
      have hG := (setW_own (encS (.slice a1 ni c1, .slice a2 nf c2)) (show w2.ownsRow w.heap.size 37 2 (.slice (some ⟨w.heap.size, 0, none⟩) n n) n _ from by have h := hown2; unfold OwV Ow at h; rw [hfl] at h; exact h) (k * 2)).2
      have hP3 := (hpa2.snoc (p := (.slice a1 ni c1, .slice a2 nf c2)) (s := (xs, fs)) (hi' := w2.heap.size) o1 o2 (Nat.le_refl _) hsz (Nat.le_refl _) hz2).other (fun g hg => OwV.blk hown2 g (by simpa [Value.ownBlock] using hg)) hG
      rw [← take_at (unhide HX1)] at hP3
      rw [mix_put qs ps k _ (unhide HQL) hkp] at R1
      have HR1 := hide R1
      have HR2 := hide (setW_below (g := w.heap.size) (Nat.le_refl _) (encS (.slice a1 ni c1, .slice a2 nf c2)) hb3 (k * 2))
      have HP3 := hide hP3
      have HSZ := hide (setW_size (encS (.slice a1 ni c1, .slice a2 nf c2)) w2 w.heap.size (k * 2))
      clear hown2 hb3 b2 R1 HO HB HX1 hfl hpa2 hG hP3 o1 o2 HP d0 d1 RX RF HSx
      go_wp2
      go_roundw
      case rel =>
        refine ⟨k + 1, qs ++ [((Value.slice a1 ni c1, Value.slice a2 nf c2) : Two)], by omega, by go_num, by simp [unhide HQL], ?_, ?_, unhide HR2⟩
        · exact unhide HR1
        · have h := unhide HP3
          rw [← unhide HSZ] at h
          exact h
      case measure => simp [intOf]; omega
    · have hkn : k = n := by omega
      have HO : Hid (OwS w.heap.size wr.heap.size wr (.slice (some ⟨w.heap.size, 0, none⟩) n n) ss) := by
        refine hide ⟨⟨qs, ?_, ?_⟩, fun g hg => (World.ownsRow.lt hown g (by simpa [Value.ownBlock] using hg)).2⟩
        · have h := hown
          rw [List.drop_of_length_le (by have := unhide LP; omega), List.append_nil] at h
          exact h
        · have h := hpa
          rw [List.take_of_length_le (by have := unhide HL; omega)] at h
          exact h
      have HB := hide hb
      clear hown hb hpa
      go_wp2
      go_ret
      exact ⟨_, _, rfl, unhide HO, unhide HB⟩
end Go.Proofs.Ytdpaocikmijioaf
