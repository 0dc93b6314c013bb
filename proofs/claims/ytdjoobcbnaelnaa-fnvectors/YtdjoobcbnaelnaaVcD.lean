/-
  A vector that is raised at one place: the specification's and the program's. No statement is proved here.
-/
import Derived.Test.YtdjoobcbnaelnaaVcA
import Derived.Test.YtdjoobcbnaelnaaNmA
namespace Go.Proofs.Ytdjoobcbnaelnaa
open Go.RowKit

theorem OwN.putN {base g n c : Nat} {W : World} {ns : List Int} (h : OwN base W (.slice (some ⟨g, 0, none⟩) n c) ns) (hn : n = ns.length) (k : Nat) (z : Int) : OwN base (W.setCell ⟨g, k, none⟩ (.int .i64 z)) (.slice (some ⟨g, 0, none⟩) n c) (ns.set k z) := by
  subst hn
  have hst := (World.ownsRow.stored (show W.ownsRow base 3 1 (.slice (some ⟨g, 0, none⟩) ns.length c) ns.length (ns.flatMap encN) from h) k (.int .i64 z)).1
  unfold OwN Ow
  rw [List.length_set, flatN, List.map_set, ← flatN]
  exact hst
theorem OwN.slot {base n c : Nat} {a : Option Addr} {W : World} {ns : List Int} (h : OwN base W (.slice a n c) ns) (hn : n = ns.length) {k : Nat} (hk : k < n) : ∃ g y, a = some ⟨g, 0, none⟩ ∧ base ≤ g ∧ n ≤ c ∧ W.cell? ⟨g, k, none⟩ = some y ∧ W.frozen? ⟨g, k, none⟩ = false := by
  subst hn
  have hc := (h.rw encN_len).len.2
  have h' : W.ownsRow base 3 1 (.slice a ns.length c) ns.length (ns.flatMap encN) := h
  rcases h'.2 with ⟨hh, h0⟩ | ⟨g, cap, cur, hh, hg, _⟩
  · omega
  · simp only [Value.slice.injEq] at hh
    obtain ⟨rfl, _, rfl⟩ := hh
    have hc2 := h'.cellAt k (by omega)
    rw [flatN] at hc2
    exact ⟨g, _, rfl, hg, hc, hc2.trans (List.getElem?_eq_getElem (by simpa using hk)), h'.frozenAt k⟩
theorem set_same {ns : List Int} {k : Nat} {z : Int} (h : ns[k]? = some z) : ns.set k z = ns := by
  apply List.ext_getElem?
  intro i
  rw [List.getElem?_set]
  by_cases e : k = i
  · subst e
    obtain ⟨hk, rfl⟩ := List.getElem?_eq_some_iff.1 h
    simp [hk]
  · rw [if_neg e]

set_option maxHeartbeats 4000000 in
set_option maxRecDepth 100000 in
theorem ivecraise_any (a : Option Addr) (n c : Nat) (ns : List Int) (at0 m : Int) (w : World) (hn : n ≤ 1048576) (hnil : a = none → c = 0) (h : RwN w (.slice a n c) ns) :
    Calls Try.prog 13 #[.slice a n c, .int .i64 at0, .int .i64 m] w fun e w' => ∃ a1 c1, e = .returned (.slice a1 n c1) ∧ OwN w.heap.size w' (.slice a1 n c1) (vr ns at0 m) ∧ Below w.heap.size w w' := by
  have HR := hide h
  have HN := hide h.len.1
  clear h
  obtain ⟨q, hq⟩ : ∃ q, Hid (inP at0 ns = q) := ⟨_, hide rfl⟩
  have HQ : Hid (inB at0 0 ((n : Int) - 1) = q) := hide (by rw [← unhide hq, inP, ← unhide HN])
  go_enter Try.func13, Try.ntmps13
  go_wp2_with fail
  refine (iclone_any a n c ns _ (by omega) hnil (unhide HR)).mono ?_
  rintro e w1 ⟨a1, c1, rfl, o1, b1⟩
  have HO := hide o1
  have HB := hide b1
  have hsz := b1.size
  clear o1 b1
  go_wp2_with fail
  refine (hasplace_any a n c at0 q (unhide HQ) _ (by omega)).mono ?_
  rintro e _ ⟨rfl, rfl⟩
  cases q
  · have HE : Hid (vr ns at0 m = ns) := hide (by rw [vr, if_neg (by rw [unhide hq]; simp)])
    go_wp2
    go_ret
    exact ⟨a1, c1, rfl, by rw [unhide HE]; exact unhide HO, unhide HB⟩
  · have hi := inP_iff.1 (unhide hq)
    have hil : at0 < (n : Int) := by have := unhide HN; omega
    obtain ⟨k, rfl⟩ := Int.eq_ofNat_of_zero_le hi.1
    have hk : k < n := by omega
    have HE : Hid (vr ns k m = ns.set k (max (nAt ns k) m)) := hide (by rw [vr, if_pos (unhide hq)]; rfl)
    obtain ⟨x, b, off, hx, rfl, hb, hc, cx⟩ := ((unhide HR).later (unhide HB)).atN hk
    obtain ⟨g, y, rfl, hg, hc1, hy, hfz⟩ := OwN.slot (unhide HO) (unhide HN) hk
    obtain ⟨z, hz⟩ : ∃ z, Hid (max x m = z) := ⟨_, hide rfl⟩
    have HO2 := hide (OwN.putN (unhide HO) (unhide HN) k z)
    have HB2 := hide ((unhide HB).setCell (p := ⟨g, k, none⟩) hg (.int .i64 z))
    have HE2 : Hid (vr ns k m = ns.set k z) := hide (by rw [unhide HE, nAt_in hx, unhide hz])
    clear hi hil hx HE
    go_wp2_with fail
    refine (greater_any x m z hz _).mono ?_
    rintro e _ ⟨rfl, rfl⟩
    go_wp2
    go_ret
    exact ⟨_, c1, rfl, by rw [unhide HE2]; exact unhide HO2, unhide HB2⟩
set_option maxHeartbeats 4000000 in
set_option maxRecDepth 100000 in
theorem svecraise_any (a : Option Addr) (n c : Nat) (ns : List Int) (at0 m : Int) (w : World) (hn : n ≤ 1048576) (hnil : a = none → c = 0) (h : RwN w (.slice a n c) ns) :
    Calls Try.prog 22 #[.slice a n c, .int .i64 at0, .int .i64 m] w fun e w' => ∃ a1 c1, e = .returned (.slice a1 n c1) ∧ OwN w.heap.size w' (.slice a1 n c1) (vr ns at0 m) ∧ Below w.heap.size w w' := by
  have HR := hide h
  have HN := hide h.len.1
  clear h
  obtain ⟨q, hq⟩ : ∃ q, Hid (inP at0 ns = q) := ⟨_, hide rfl⟩
  have HQ : Hid (inB at0 0 ((n : Int) - 1) = q) := hide (by rw [← unhide hq, inP, ← unhide HN])
  have HO0 : Hid (OwN w.heap.size (w.alloc (.cells #[] 3)) (.slice (some ⟨w.heap.size, 0, none⟩) 0 0) []) := hide (madeN (Nat.le_refl _) (heap_alloc_new w _))
  go_enter Try.func22, Try.ntmps22
  go_wp2_with (at_builtin; refine wpList_appN _ rfl _ _ rfl w.heap.size _ [] rfl (unhide HO0) a n c ns rfl ((unhide HR).alloc _) hnil (by have := unhide HN; simp; omega) (by simp) ?_; intro v' w1 hV hG; have HV := hide hV; have HB := hide (((Below.refl w.heap.size w).alloc (Nat.le_refl _) _).grown hG (by simp) (fun k hk => ((unhide HO0).lt k hk).1)); clear hV hG)
  obtain ⟨a1, c1, rfl, HO⟩ : ∃ a1 c1, v' = .slice a1 n c1 ∧ Hid (OwN w.heap.size w1 (.slice a1 n c1) ns) := by
    have hv := unhide HV
    rw [List.nil_append] at hv
    obtain ⟨a1, c1, rfl⟩ := hv.form
    rw [← unhide HN] at hv ⊢
    exact ⟨a1, c1, rfl, hide hv⟩
  have hsz := (unhide HB).size
  clear HV HO0
  refine (l1in_is at0 0 ((n : Int) - 1) q (unhide HQ) _).mono ?_
  rintro e _ ⟨rfl, rfl⟩
  cases q
  · have HE : Hid (vr ns at0 m = ns) := hide (by rw [vr, if_neg (by rw [unhide hq]; simp)])
    go_wp2
    go_ret
    exact ⟨a1, c1, rfl, by rw [unhide HE]; exact unhide HO, unhide HB⟩
  · have hi := inP_iff.1 (unhide hq)
    have hil : at0 < (n : Int) := by have := unhide HN; omega
    obtain ⟨k, rfl⟩ := Int.eq_ofNat_of_zero_le hi.1
    have hk : k < n := by omega
    have HE : Hid (vr ns k m = ns.set k (max (nAt ns k) m)) := hide (by rw [vr, if_pos (unhide hq)]; rfl)
    obtain ⟨x, b, off, hx, rfl, hb, hc, cx⟩ := ((unhide HR).later (unhide HB)).atN hk
    obtain ⟨g, y, rfl, hg, hc1, hy, hfz⟩ := OwN.slot (unhide HO) (unhide HN) hk
    have HX := hide hx
    obtain ⟨p, hp⟩ : ∃ p, decide (x < m) = p := ⟨_, rfl⟩
    clear hi hil hx
    cases p
    · have HE2 : Hid (vr ns k m = ns) := hide (by rw [unhide HE, nAt_in (unhide HX), show max x m = x by simp at hp; omega, set_same (unhide HX)])
      go_wp2
      go_ret
      exact ⟨_, c1, rfl, by rw [unhide HE2]; exact unhide HO, unhide HB⟩
    · have HE2 : Hid (vr ns k m = ns.set k m) := hide (by rw [unhide HE, nAt_in (unhide HX), show max x m = m by simp at hp; omega])
      have HO2 := hide (OwN.putN (unhide HO) (unhide HN) k m)
      have HB2 := hide ((unhide HB).setCell (p := ⟨g, k, none⟩) hg (.int .i64 m))
      go_wp2
      go_ret
      exact ⟨_, c1, rfl, by rw [unhide HE2]; exact unhide HO2, unhide HB2⟩
end Go.Proofs.Ytdjoobcbnaelnaa
