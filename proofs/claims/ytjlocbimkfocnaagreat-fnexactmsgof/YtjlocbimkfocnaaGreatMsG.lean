/-
  Whether marks are right: the specification's, and the program's. No statement is proved here.
  Whether a message is right: MsgOk, the specification's and the program's. No statement is proved here.
-/
import Derived.Test.YtjlocbimkfocnaaGreatApp2
import Derived.BigQuiet
import Derived.Deep.QuietTactic
import Derived.Test.YtjlocbimkfocnaaGreatOrd
import Derived.Test.YtjlocbimkfocnaaGreatMsK
import Derived.Test.YtjlocbimkfocnaaGreatSStOk
import Derived.Test.YtjlocbimkfocnaaGreatIStOk
import Derived.Test.YtjlocbimkfocnaaGreatMsL
namespace Go.Proofs.YtjlocbimkfocnaaGreat
open Go.RowKit

theorem imarksok_any (a : Option Addr) (n c : Nat) (fs : List Flr) (ok : Bool) (h0 : Hid (gF (-1) fs = ok)) (w : World) (hn : n ≤ 140737488351232) (hf : Rw encF 2 w (.slice a n c) fs) :
    Calls Tryz.prog 57 #[.slice a n c] w fun e w' => e = .returned (.bool ok) ∧ Below w.heap.size w w' := by
  have HF := hide hf
  clear hf
  go_enter Tryz.func57, Tryz.ntmps57
  go_wp2_with fail
  refine (iordM_any a n c fs ok h0 _ hn (unhide HF)).mono ?_
  rintro e w1 ⟨rfl, b1⟩
  have HB := hide b1
  clear b1
  go_wp2
  go_ret
  exact ⟨rfl, unhide HB⟩
theorem mnode_any9 (x : Int) (b : Bool) (hb : Hid (inB x 0 4 = b)) (w : World) : Calls Tryz.prog 36 #[.int .i64 x] w fun e w' => e = .returned (.bool b) ∧ w = w' := by
  go_enter Tryz.func36, Tryz.ntmps36
  go_wp2_with fail
  refine (l1in_is x 0 4 b (unhide hb) _).mono ?_
  rintro e _ ⟨rfl, rfl⟩
  go_wp2
  go_ret
  exact ⟨rfl, rfl⟩
set_option maxHeartbeats 8000000 in
set_option maxRecDepth 100000 in
theorem smarksok_any (a : Option Addr) (n c : Nat) (fs : List Flr) (ok : Bool) (h0 : Hid (gF (-1) fs = ok)) (w : World) (hn : n ≤ 140737488351232) (hf : Rw encF 2 w (.slice a n c) fs) :
    Calls Tryz.prog 40 #[.slice a n c] w fun e w' => e = .returned (.bool ok) ∧ Below w.heap.size w w' := by
  have HX := hide hf
  clear hf
  go_enter Tryz.func40, Tryz.ntmps40
  go_wp2
  go_loopw [3] (fun i wr => ∃ k : Nat, k ≤ n ∧ i = .int .i64 k ∧ gF (prv fs k) (fs.drop k) = ok ∧ Below w.heap.size w wr) (fun i _ => n - (intOf i).toNat)
  case atStart => exact ⟨0, Nat.zero_le _, rfl, unhide h0, Below.refl _ _⟩
  case round =>
    obtain ⟨k, hk, rfl, hrec, hbel⟩ := hrel
    have HB := hide hbel
    have hsz := hbel.size
    by_cases hlt : k < n
    · obtain ⟨x, b, off, hx, rfl, hb, hcap, hc⟩ := (unhide HX).at hlt
      have l0 := later_some (w := wr) (b := b) (o := off + k * 2) (v := .int .i64 x.1) (by omega) ((hbel.cell (p := ⟨b, off + k * 2, none⟩) hb).trans (hc 0 (by omega)))
      have l1 := later_some (w := wr) (b := b) (o := off + k * 2 + 1) (v := .int .i64 x.2) (by omega) ((hbel.cell (p := ⟨b, off + k * 2 + 1, none⟩) hb).trans (hc 1 (by omega)))
      have hEq := gF_at (last := prv fs k) hx
      rw [hrec, prv_succ hx] at hEq
      have HPV := hide (prv_succ hx)
      obtain ⟨q1, hq1⟩ : ∃ q, Hid (inB x.1 0 4 = q) := ⟨_, hide rfl⟩
      obtain ⟨q3, hq3⟩ : ∃ q, Hid (inB x.2 1 1000 = q) := ⟨_, hide rfl⟩
      by_cases hk0 : 0 < k
      · obtain ⟨y, b', off', hy, hab, hb', hcap', hc'⟩ := (unhide HX).at (i := k - 1) (by omega)
        simp only [Option.some.injEq, Addr.mk.injEq] at hab
        obtain ⟨rfl, rfl, -⟩ := hab
        have m0 := later_some (w := wr) (b := b) (o := off + (k - 1) * 2) (v := .int .i64 y.1) (by omega) ((hbel.cell (p := ⟨b, off + (k - 1) * 2, none⟩) hb).trans (hc' 0 (by omega)))
        have hpv : prv fs k = y.1 := by
          obtain ⟨m, rfl⟩ : ∃ m, k = m + 1 := ⟨k - 1, by omega⟩
          exact prv_succ hy
        obtain ⟨q2, hq2⟩ : ∃ q, decide (x.1 ≤ y.1) = q := ⟨_, rfl⟩
        have HE : Hid (ok = (q1 && !q2 && q3 && gF x.1 (fs.drop (k + 1)))) := hide (by rw [← unhide hq1, ← unhide hq3, ← le_lt hq2, ← hpv]; exact hEq)
        have hkd : decide ((0 : Int) < (k : Int)) = true := by simpa using hk0
        clear hc hc' hx hy hbel hEq hpv hrec
        cases q1 <;> cases q2 <;> cases q3
        all_goals
          go_wp2_with fail
          refine wp_region_later (by kernel_rfl) (by kernel_rfl) ?_
          repeat (go_big_quiet_step (first | (go_at_call 36; exact Calls.later_same (mnode_any9 _ _ hq1 _)) | (go_at_call 35; exact Calls.later_same (l1in_is _ _ _ _ (unhide hq3) _))))
          refine wpQuiet_nil ?_
          intro w1 hb1
          have HB1 := hide ((unhide HB).trans (hb1.mono hsz))
          clear hb1 HB
          go_wp2
          first
            | (go_roundw
               case rel => exact ⟨k + 1, by omega, by go_num, by rw [unhide HPV, unhide HE]; rfl, unhide HB1⟩
               case measure => simp [intOf]; omega)
            | (obtain rfl : ok = false := by rw [unhide HE]; rfl
               go_ret
               exact ⟨rfl, unhide HB1⟩)
      · have HK0 : Hid (k = 0) := hide (by omega)
        have HE : Hid (ok = (q1 && q3 && gF x.1 (fs.drop (k + 1)))) := hide (by
          rw [hEq, unhide HK0, unhide hq3]
          show (inB x.1 0 4 && decide ((-1 : Int) < x.1) && q3 && _) = _
          rw [unhide hq1]
          cases q1
          · rfl
          · rw [in_low (unhide hq1)]; rfl)
        have hkn : (0 < k) = False := by simpa using hk0
        have hkm : ((0 : Int) < (k : Int)) = False := by simp; omega
        clear hc hx hbel hEq hk0 hrec
        cases q1 <;> cases q3
        all_goals
          go_wp2_with fail
          refine wp_region_later (by kernel_rfl) (by kernel_rfl) ?_
          repeat (go_big_quiet_step (first | (go_at_call 36; exact Calls.later_same (mnode_any9 _ _ hq1 _)) | (go_at_call 35; exact Calls.later_same (l1in_is _ _ _ _ (unhide hq3) _))))
          refine wpQuiet_nil ?_
          intro w1 hb1
          have HB1 := hide ((unhide HB).trans (hb1.mono hsz))
          clear hb1 HB hkn hkm
          go_wp2
          first
            | (go_roundw
               case rel => exact ⟨k + 1, by omega, by go_num, by rw [unhide HPV, unhide HE]; rfl, unhide HB1⟩
               case measure => simp [intOf]; omega)
            | (obtain rfl : ok = false := by rw [unhide HE]; rfl
               go_ret
               exact ⟨rfl, unhide HB1⟩)
    · have hEq : ok = true := by
        have h := hrec
        rw [drop_end (unhide HX).len.1 hk hlt] at h
        rw [← h]; rfl
      subst hEq
      clear hbel hrec
      go_wp2
      go_ret
      exact ⟨rfl, unhide HB⟩
end Go.Proofs.YtjlocbimkfocnaaGreat

namespace Go.Proofs.YtjlocbimkfocnaaGreat
open Go.RowKit

/-- Leaves that go up, from some number on. -/
def lvF : Int → List Int → Bool
  | _, [] => true
  | next, x :: r => inB x next 3 && lvF (x + 1) r
theorem lvF_asc : ∀ (ns : List Int) (a : Int), lvF (a + 1) ns = ((ns.all fun x => inB x (a + 1) 3) && ascF a ns)
  | [], _ => rfl
  | x :: r, a => by
    rw [lvF, lvF_asc r x, List.all_cons, ascF]
    by_cases h1 : inB x (a + 1) 3 = true
    · have h2 := inB_iff.1 h1
      have h3 : decide (a < x) = true := by simp; omega
      rw [h1, h3]
      simp only [Bool.true_and]
      by_cases h4 : ascF x r = true
      · rw [h4, Bool.and_true, Bool.and_true]
        apply Bool.eq_iff_iff.2
        simp only [List.all_eq_true, inB_iff]
        constructor
        · intro h y hy
          have := h y hy
          omega
        · intro h y hy
          have := h y hy
          have := ascF_gt h4 y hy
          omega
      · have h5 : ascF x r = false := by simpa using h4
        rw [h5, Bool.and_false, Bool.and_false]
    · have h2 : inB x (a + 1) 3 = false := by simpa using h1
      rw [h2]
      simp
where
  ascF_gt : ∀ {ns : List Int} {a : Int}, ascF a ns = true → ∀ y ∈ ns, a < y
    | [], _, _, y, hy => by simp at hy
    | x :: r, a, h, y, hy => by
      simp only [ascF, Bool.and_eq_true, decide_eq_true_eq] at h
      rcases List.mem_cons.1 hy with rfl | hy
      · exact h.1
      · have := ascF_gt h.2 y hy
        omega
theorem lvF_len : ∀ {ns : List Int} {a : Int}, lvF a ns = true → 0 ≤ a → a + ns.length ≤ 4 ∨ ns = []
  | [], _, _, _ => .inr rfl
  | x :: r, a, h, h0 => by
    simp only [lvF, Bool.and_eq_true, inB_iff] at h
    rcases lvF_len h.2 (by omega) with q | q
    · left; simp; omega
    · left; subst q; simp; omega
theorem lvF_ok (ns : List Int) : lvF 0 ns = (nmOk ns 4 3 && asc ns) := by
  have e := lvF_asc ns (-1)
  rw [show ((-1 : Int) + 1) = 0 by rfl] at e
  have e2 : ((ns.all fun x => inB x 0 3) && asc ns) = ((ns.all fun x => inB x 0 3) && ascF (-1) ns) := by
    cases ns with
    | nil => rfl
    | cons x r =>
      rw [asc, ascF, List.all_cons]
      by_cases h : inB x 0 3 = true
      · have := inB_iff.1 h
        have h3 : decide ((-1 : Int) < x) = true := by simp; omega
        rw [h3, Bool.true_and]
      · have h2 : inB x 0 3 = false := by simpa using h
        rw [h2]; simp
  rw [nmOk, Bool.and_assoc, e2, ← e]
  cases h : lvF 0 ns
  · simp
  · rcases lvF_len h (by omega) with q | q
    · have : decide (ns.length ≤ 4) = true := by simp; omega
      rw [this]; rfl
    · subst q; rfl
theorem lvF_at {ns : List Int} {k : Nat} {x a : Int} (h : ns[k]? = some x) : lvF a (ns.drop k) = (inB x a 3 && lvF (x + 1) (ns.drop (k + 1))) := by
  rw [drop_at h]; rfl
/-- From the k-th on each is above the one ahead of it. -/
def ascK (ns : List Int) (k : Nat) : Bool := match (ns.drop (k - 1)) with
  | [] => true
  | x :: r => ascF x r
theorem ascK_one (ns : List Int) : ascK ns 1 = asc ns := by
  cases ns <;> rfl
theorem ascK_next {ns : List Int} {k : Nat} {x y : Int} (hk : 1 ≤ k) (hx : ns[k]? = some x) (hy : ns[k - 1]? = some y) : ascK ns k = (!decide (x ≤ y) && ascK ns (k + 1)) := by
  have e1 := drop_at hy
  rw [show k - 1 + 1 = k by omega] at e1
  have e2 := drop_at hx
  rw [ascK, e1, ascK, show k + 1 - 1 = k by omega, e2]
  simp only [ascF]
  congr 1
  by_cases h : x ≤ y
  · have : decide (y < x) = false := by simp; omega
    rw [this]; simp [h]
  · have : decide (y < x) = true := by simp; omega
    rw [this]; simp [h]
theorem ascK_end {ns : List Int} {k : Nat} (hk : 1 ≤ k) (h : ns.length ≤ k) : ascK ns k = true := by
  unfold ascK
  by_cases h1 : ns.length ≤ k - 1
  · rw [List.drop_eq_nil_of_le h1]
  · obtain ⟨y, hy⟩ : ∃ y, ns[k - 1]? = some y := ⟨_, List.getElem?_eq_getElem (by omega)⟩
    rw [drop_at hy, List.drop_eq_nil_of_le (by omega)]
    rfl
set_option maxHeartbeats 1000000 in
theorem ileavesok_any (a : Option Addr) (n c : Nat) (ns : List Int) (q : Bool) (hq : Hid (lvF 0 ns = q)) (w : World) (hn : n ≤ 140737488351232) (h : RwN w (.slice a n c) ns) :
    Calls Tryz.prog 55 #[.slice a n c] w fun e w' => e = .returned (.bool q) ∧ w = w' := by
  have HR := hide h
  have HN := hide h.len.1
  clear h
  have HA : Hid (lvF 0 (ns.drop 0) = q) := hq
  clear hq
  go_enter Tryz.func55, Tryz.ntmps55
  go_wp2
  go_loop [3, 8] (fun u i => ∃ (k : Nat) (x : Int), k ≤ n ∧ i = .int .i64 k ∧ u = .int .i64 x ∧ 0 ≤ x ∧ x ≤ 4 ∧ Hid (lvF x (ns.drop k) = q)) (fun _ i => n - (intOf i).toNat)
  case atStart => exact ⟨0, 0, Nat.zero_le _, rfl, rfl, by omega, by omega, HA⟩
  case round =>
    obtain ⟨k, x, hk, rfl, rfl, hx0, hx4, HK⟩ := hrel
    clear HA
    by_cases hlt : k < n
    · obtain ⟨z, b, off, hz, rfl, hb, hc, cz⟩ := (unhide HR).atN hlt
      have HZ := hide hz
      clear hz
      obtain ⟨p, hp⟩ : ∃ p, Hid (inB z x 3 = p) := ⟨_, hide rfl⟩
      have HS : Hid ((p && lvF (z + 1) (ns.drop (k + 1))) = q) := hide (by rw [← unhide hp, ← lvF_at (unhide HZ)]; exact unhide HK)
      clear HK
      go_wp2_with fail
      refine (within_is z x 3 p (unhide hp) _).mono ?_
      rintro e _ ⟨rfl, rfl⟩
      cases p
      · obtain rfl : q = false := by rw [← unhide HS]; rfl
        go_wp2
        go_ret
        exact ⟨rfl, rfl⟩
      · have hz := inB_iff.1 (unhide hp)
        have hz0 := hz.1
        have hz1 := hz.2
        have HT : Hid (lvF (z + 1) (ns.drop (k + 1)) = q) := hide (by rw [← unhide HS]; rfl)
        clear hz
        go_wp2
        go_round
        case rel => exact ⟨k + 1, z + 1, by omega, by go_num, by go_num, by omega, by omega, HT⟩
        case measure => simp [intOf]; omega
    · obtain rfl : q = true := by rw [← unhide HK, drop_end (unhide HN) hk hlt]; rfl
      go_wp2
      go_ret
      exact ⟨rfl, rfl⟩
set_option maxHeartbeats 2000000 in
set_option maxRecDepth 100000 in
theorem itreeok_any (a : Option Addr) (n c : Nat) (ns : List Int) (r : Int) (q : Bool) (hq : Hid (trOk ns r = q)) (w : World) (hn : n ≤ 140737488351232) (h : RwN w (.slice a n c) ns) :
    Calls Tryz.prog 54 #[.agg #[.slice a n c, .int .i64 r]] w fun e w' => e = .returned (.bool q) ∧ Below w.heap.size w w' := by
  have HR := hide h
  have HN := hide h.len.1
  clear h
  by_cases h0 : n = 0
  · have HQ : Hid ((r == 0) = q) := hide (by rw [← unhide hq, trOk, if_pos (by rw [← unhide HN]; exact h0)])
    subst h0
    clear hq
    cases q
    · have hr : (r == 0) = false := unhide HQ
      go_enter Tryz.func54, Tryz.ntmps54
      go_wp2
      go_ret
      exact ⟨rfl, (Below.refl _ _).alloc (Nat.le_refl _) _⟩
    · have hr : (r == 0) = true := unhide HQ
      go_enter Tryz.func54, Tryz.ntmps54
      go_wp2
      go_ret
      exact ⟨rfl, (Below.refl _ _).alloc (Nat.le_refl _) _⟩
  · have HQ : Hid (((ns.length == 4) && alB ns 1023 && inB r 0 1023) = q) := hide (by
      rw [← unhide hq, trOk, if_neg (by rw [← unhide HN]; exact h0), nmOk]
      cases h : (ns.length == 4)
      · rfl
      · have h4 : ns.length = 4 := by simpa using h
        have : decide (ns.length ≤ 4) = true := by simp; omega
        rw [this]; rfl)
    have hd : ((n : Int) == 0) = false := by simp; omega
    clear hq
    obtain ⟨y0, y1, y2, y3, k, hsm⟩ : ∃ y0 y1 y2 y3 k, Hid (sm ns = ((y0, y1, y2, y3), k)) := ⟨_, _, _, _, _, hide rfl⟩
    have hk4 : Hid ((ns.length == 4) = k) := hide (by rw [← sm_len, unhide hsm])
    go_enter Tryz.func54, Tryz.ntmps54
    go_wp2_with fail
    have B0 := hide (bm_new w #[.slice a n c, .int .i64 r] 26)
    refine (isumsof_any a n c ns r y0 y1 y2 y3 k hsm _ ((unhide HR).alloc _) hn).mono ?_
    rintro e w1 ⟨rfl, b1⟩
    have B1 := hide (((unhide B0).later b1).later ((Below.refl _ _).alloc (Nat.le_refl _) (.cells #[.int .i64 y0, .int .i64 y1, .int .i64 y2, .int .i64 y3] 118)))
    clear b1 B0
    obtain ⟨t0, t1, -⟩ := blk_cells2 (unhide B1).blk
    have z1 := (unhide B1).lt
    cases k
    · obtain rfl : q = false := by rw [← unhide HQ, unhide hk4]; rfl
      go_wp2
      go_ret
      exact ⟨rfl, (unhide B1).bel⟩
    · obtain ⟨s, hs⟩ : ∃ s, Hid (inB r 0 1023 = s) := ⟨_, hide rfl⟩
      obtain ⟨u, hu⟩ : ∃ u, Hid (alB ns 1023 = u) := ⟨_, hide rfl⟩
      have HU : Hid ((u && s) = q) := hide (by rw [← unhide HQ, unhide hk4, unhide hs, unhide hu]; rfl)
      clear HQ
      go_wp2_with fail
      refine (issum_any r s hs _).mono ?_
      rintro e _ ⟨rfl, rfl⟩
      cases s
      · obtain rfl : q = false := by rw [← unhide HU, Bool.and_false]
        go_wp2
        go_ret
        exact ⟨rfl, (unhide B1).bel⟩
      · obtain rfl : q = u := by rw [← unhide HU, Bool.and_true]
        go_wp2_with fail
        refine (containsnosum_any a n c ns q hu _ hn ((unhide HR).later (unhide B1).bel)).mono ?_
        rintro e _ ⟨rfl, rfl⟩
        go_wp2
        go_ret
        exact ⟨by simp, (unhide B1).bel⟩
theorem isnode_m (x : Int) (b : Bool) (hb : Hid (inB x 0 4 = b)) (w : World) : Calls Tryz.prog 52 #[.int .i64 x] w fun e w' => e = .returned (.bool b) ∧ w = w' := by
  go_enter Tryz.func52, Tryz.ntmps52
  go_wp2_with fail
  refine (within_is x 0 4 b (unhide hb) _).mono ?_
  rintro e _ ⟨rfl, rfl⟩
  go_wp2
  go_ret
  exact ⟨rfl, rfl⟩
theorem rwG_blk {w : World} {g : Nat} {ns : List Int} {T : TypeId} {fz : Nat × Nat} (h : w.heap[g]? = some (.cells (ns.map (Value.int .i64)).toArray T fz)) : RwN w (.slice (some ⟨g, 0, none⟩) ns.length ns.length) ns := by
  refine ⟨_, _, rfl, Nat.le_refl _, .inr ⟨g, 0, rfl, (Array.getElem?_eq_some_iff.1 h).1, fun i x hx j hj => ?_⟩⟩
  obtain rfl : j = 0 := by omega
  obtain ⟨hi, rfl⟩ := List.getElem?_eq_some_iff.1 hx
  simp only [World.cell?, h]
  simp [encN, hi]
theorem okM_split (m : Mg) (n : Nat) (hn : n = m.ve.length) : okM m = (inB m.k 0 5 && inB m.f 0 4 && inB m.t 0 4 && (m.f != m.t) && okN [m.n, m.h] && trOk m.tl m.tr && decide ((n : Int) ≤ 5) && okN m.ve && (nmOk m.le 4 3 && asc m.le) && okS m.its m.fls && gF (-1) m.ma) := by
  have e1 : okN [m.n, m.h] = (inB m.n 0 100000 && inB m.h 0 100000) := by simp [okN]
  have e2 : (decide ((n : Int) ≤ 5) && okN m.ve) = nmOk m.ve 5 100000 := by
    rw [nmOk, okN, hn]
    congr 1
    simp only [decide_eq_decide]
    omega
  rw [e1]
  simp only [Bool.and_assoc]
  rw [← Bool.and_assoc (decide _) (okN m.ve), e2, okM]
  simp only [Bool.and_assoc]
  generalize inB m.k 0 5 = b1; generalize inB m.f 0 4 = b2; generalize inB m.t 0 4 = b3; generalize (m.f != m.t) = b4; generalize inB m.n 0 100000 = b5; generalize inB m.h 0 100000 = b6; generalize trOk m.tl m.tr = b7; generalize nmOk m.ve 5 100000 = b8; generalize nmOk m.le 4 3 = b9; generalize okS m.its m.fls = c1; generalize gF (-1) m.ma = c2; generalize asc m.le = c3
  cases b1 <;> cases b2 <;> cases b3 <;> cases b4 <;> cases b5 <;> cases b6 <;> cases b7 <;> cases b8 <;> cases b9 <;> cases c1 <;> cases c2 <;> cases c3 <;> rfl
set_option maxHeartbeats 8000000 in
set_option maxRecDepth 100000 in
theorem imsgok_any (m : Mg) (p : Mp) (ok : Bool) (hok : Hid (okM m = ok)) (w : World) (hp : SzM p 140737488351232) (hm : RwM w m p) :
    Calls Tryz.prog 14 #[.agg #[.int .i64 m.k, .int .i64 m.f, .int .i64 m.t, .int .i64 m.n, .int .i64 m.h, .slice p.ta p.tn p.tc, .int .i64 m.tr, .slice p.va p.vn p.vc, .slice p.la p.ln p.lc, .slice p.xa p.xn p.xc, .slice p.ya p.yn p.yc, .slice p.ka p.kn p.kc]] w fun e w' => e = .returned (.bool ok) ∧ Below w.heap.size w w' := by
  have HM := hide hm
  have s1 := hp.t
  have s2 := hp.v
  have s3 := hp.l
  have s4 := hp.x
  have s5 := hp.y
  have s6 := hp.k
  have B := hide (bm_new w #[.int .i64 m.k, .int .i64 m.f, .int .i64 m.t, .int .i64 m.n, .int .i64 m.h, .slice p.ta p.tn p.tc, .int .i64 m.tr, .slice p.va p.vn p.vc, .slice p.la p.ln p.lc, .slice p.xa p.xn p.xc, .slice p.ya p.yn p.yc, .slice p.ka p.kn p.kc] 33)
  clear hm hp
  obtain ⟨q1, hq1⟩ : ∃ b, Hid ((inB m.k 0 5) = b) := ⟨_, hide rfl⟩
  obtain ⟨q2, hq2⟩ : ∃ b, Hid ((inB m.f 0 4) = b) := ⟨_, hide rfl⟩
  obtain ⟨q3, hq3⟩ : ∃ b, Hid ((inB m.t 0 4) = b) := ⟨_, hide rfl⟩
  obtain ⟨q4, hq4⟩ : ∃ b, Hid ((m.f != m.t) = b) := ⟨_, hide rfl⟩
  obtain ⟨q5, hq5⟩ : ∃ b, Hid ((okN [m.n, m.h]) = b) := ⟨_, hide rfl⟩
  obtain ⟨q7, hq7⟩ : ∃ b, Hid ((trOk m.tl m.tr) = b) := ⟨_, hide rfl⟩
  obtain ⟨q8, hq8⟩ : ∃ b, Hid ((decide ((p.vn : Int) ≤ 5)) = b) := ⟨_, hide rfl⟩
  obtain ⟨q9, hq9⟩ : ∃ b, Hid ((okN m.ve) = b) := ⟨_, hide rfl⟩
  obtain ⟨qa, hqa⟩ : ∃ b, Hid ((lvF 0 m.le) = b) := ⟨_, hide rfl⟩
  obtain ⟨qb, hqb⟩ : ∃ b, Hid ((okS m.its m.fls) = b) := ⟨_, hide rfl⟩
  obtain ⟨qc, hqc⟩ : ∃ b, Hid ((gF (-1) m.ma) = b) := ⟨_, hide rfl⟩
  have HE : Hid (okM m = (q1 && q2 && q3 && q4 && q5 && q7 && q8 && q9 && qa && qb && qc)) := hide (by
    rw [← unhide hq1, ← unhide hq2, ← unhide hq3, ← unhide hq4, ← unhide hq5, ← unhide hq7, ← unhide hq8, ← unhide hq9, ← unhide hqa, ← unhide hqb, ← unhide hqc, lvF_ok]
    exact okM_split m p.vn (unhide HM).v.len.1)
  have hok2 : Hid ((q1 && q2 && q3 && q4 && q5 && q7 && q8 && q9 && qa && qb && qc) = ok) := hide (by rw [← unhide HE]; exact unhide hok)
  clear hok HE
  have hok := hok2
  clear hok2
  go_enter Tryz.func14, Tryz.ntmps14
  obtain ⟨wA, hwA⟩ : ∃ W, W = w.alloc (.cells #[.int .i64 m.k, .int .i64 m.f, .int .i64 m.t, .int .i64 m.n, .int .i64 m.h, .slice p.ta p.tn p.tc, .int .i64 m.tr, .slice p.va p.vn p.vc, .slice p.la p.ln p.lc, .slice p.xa p.xn p.xc, .slice p.ya p.yn p.yc, .slice p.ka p.kn p.kc] 33) := ⟨_, rfl⟩
  rw [← hwA] at B
  go_wp2_with fail
  rw [← hwA]
  clear hwA
  refine (within_is m.k 0 5 q1 (unhide hq1) wA).mono ?_
  rintro e _ ⟨rfl, rfl⟩
  obtain ⟨c0, c1, c2, c3, c4, c5, c6, c7, c8, c9, ca, cb, -⟩ := msg_cells (unhide B).blk
  have z1 := (unhide B).lt
  cases q1
  · obtain rfl : ok = false := by rw [← unhide hok]; simp
    go_wp2
    go_ret
    exact ⟨rfl, (unhide B).bel⟩
  · skip
    go_wp2_with fail
    refine (isnode_m m.f q2 hq2 _).mono ?_
    rintro e _ ⟨rfl, rfl⟩
    cases q2
    · obtain rfl : ok = false := by rw [← unhide hok]; simp
      go_wp2
      go_ret
      exact ⟨rfl, (unhide B).bel⟩
    · skip
      go_wp2_with fail
      refine (isnode_m m.t q3 hq3 _).mono ?_
      rintro e _ ⟨rfl, rfl⟩
      cases q3
      · obtain rfl : ok = false := by rw [← unhide hok]; simp
        go_wp2
        go_ret
        exact ⟨rfl, (unhide B).bel⟩
      · skip
        cases q4
        · obtain rfl : ok = false := by rw [← unhide hok]; simp
          have Bq4 : (m.f != m.t) = false := unhide hq4
          go_wp2
          go_ret
          exact ⟨rfl, (unhide B).bel⟩
        · skip
          have Bq4 : (m.f != m.t) = true := unhide hq4
          go_wp2_with fail
          have R5 : RwN (wA.alloc (.cells #[.int .i64 m.n, .int .i64 m.h] 3)) (.slice (some ⟨wA.heap.size, 0, none⟩) 2 2) [m.n, m.h] := rwG_blk (ns := [m.n, m.h]) (newB1 wA _)
          refine (numbersok_any (some ⟨wA.heap.size, 0, none⟩) 2 2 [m.n, m.h] q5 hq5 (wA.alloc (.cells #[.int .i64 m.n, .int .i64 m.h] 3)) (by omega) R5).mono ?_
          rintro e _ ⟨rfl, rfl⟩
          clear R5
          have B2 := hide ((unhide B).later ((Below.refl wA.heap.size wA).alloc (Nat.le_refl _) (.cells #[.int .i64 m.n, .int .i64 m.h] 3)))
          clear B c0 c1 c2 c3 c4 c5 c6 c7 c8 c9 ca cb z1
          have B := B2
          clear B2
          obtain ⟨c0, c1, c2, c3, c4, c5, c6, c7, c8, c9, ca, cb, -⟩ := msg_cells (unhide B).blk
          have z1 := (unhide B).lt
          cases q5
          · obtain rfl : ok = false := by rw [← unhide hok]; simp
            go_wp2
            go_ret
            exact ⟨rfl, (unhide B).bel⟩
          · skip
            go_wp2_with fail
            refine (itreeok_any p.ta p.tn p.tc m.tl m.tr q7 hq7 _ s1 ((unhide HM).later (unhide B).bel).t).mono ?_
            rintro e w1 ⟨rfl, b1⟩
            have B2 := hide ((unhide B).later (b1))
            clear B c0 c1 c2 c3 c4 c5 c6 c7 c8 c9 ca cb z1
            have B := B2
            clear B2
            obtain ⟨c0, c1, c2, c3, c4, c5, c6, c7, c8, c9, ca, cb, -⟩ := msg_cells (unhide B).blk
            have z1 := (unhide B).lt
            clear b1
            cases q7
            · obtain rfl : ok = false := by rw [← unhide hok]; simp
              go_wp2
              go_ret
              exact ⟨rfl, (unhide B).bel⟩
            · skip
              cases q8
              · obtain rfl : ok = false := by rw [← unhide hok]; simp
                have Bq8 : decide ((p.vn : Int) ≤ 5) = false := unhide hq8
                go_wp2
                go_ret
                exact ⟨rfl, (unhide B).bel⟩
              · skip
                have Bq8 : decide ((p.vn : Int) ≤ 5) = true := unhide hq8
                go_wp2_with fail
                refine (numbersok_any p.va p.vn p.vc m.ve q9 hq9 _ s2 ((unhide HM).later (unhide B).bel).v).mono ?_
                rintro e _ ⟨rfl, rfl⟩
                cases q9
                · obtain rfl : ok = false := by rw [← unhide hok]; simp
                  go_wp2
                  go_ret
                  exact ⟨rfl, (unhide B).bel⟩
                · skip
                  go_wp2_with fail
                  refine (ileavesok_any p.la p.ln p.lc m.le qa hqa _ s3 ((unhide HM).later (unhide B).bel).l).mono ?_
                  rintro e _ ⟨rfl, rfl⟩
                  cases qa
                  · obtain rfl : ok = false := by rw [← unhide hok]; simp
                    go_wp2
                    go_ret
                    exact ⟨rfl, (unhide B).bel⟩
                  · skip
                    go_wp2_with fail
                    refine (istateok_any p.xa p.xn p.xc m.its p.ya p.yn p.yc m.fls qb hqb _ s4 s5 ((unhide HM).later (unhide B).bel).x ((unhide HM).later (unhide B).bel).y).mono ?_
                    rintro e w1 ⟨rfl, b1⟩
                    have B2 := hide ((unhide B).later (b1))
                    clear B c0 c1 c2 c3 c4 c5 c6 c7 c8 c9 ca cb z1
                    have B := B2
                    clear B2
                    obtain ⟨c0, c1, c2, c3, c4, c5, c6, c7, c8, c9, ca, cb, -⟩ := msg_cells (unhide B).blk
                    have z1 := (unhide B).lt
                    clear b1
                    cases qb
                    · obtain rfl : ok = false := by rw [← unhide hok]; simp
                      go_wp2
                      go_ret
                      exact ⟨rfl, (unhide B).bel⟩
                    · skip
                      obtain rfl : ok = qc := by rw [← unhide hok]; simp
                      go_wp2_with fail
                      refine (imarksok_any p.ka p.kn p.kc m.ma ok hqc _ s6 ((unhide HM).later (unhide B).bel).k).mono ?_
                      rintro e w1 ⟨rfl, b1⟩
                      have BB := hide ((unhide B).bel.trans (b1.mono (unhide B).bel.size))
                      clear b1 B c0 c1 c2 c3 c4 c5 c6 c7 c8 c9 ca cb z1
                      go_wp2
                      go_ret
                      exact ⟨rfl, unhide BB⟩
set_option maxHeartbeats 8000000 in
set_option maxRecDepth 100000 in
theorem smsgok_any (m : Mg) (p : Mp) (ok : Bool) (hok : Hid (okM m = ok)) (w : World) (hp : SzM p 140737488351232) (hm : RwM w m p) :
    Calls Tryz.prog 10 #[.agg #[.int .i64 m.k, .int .i64 m.f, .int .i64 m.t, .int .i64 m.n, .int .i64 m.h, .slice p.ta p.tn p.tc, .int .i64 m.tr, .slice p.va p.vn p.vc, .slice p.la p.ln p.lc, .slice p.xa p.xn p.xc, .slice p.ya p.yn p.yc, .slice p.ka p.kn p.kc]] w fun e w' => e = .returned (.bool ok) ∧ Below w.heap.size w w' := by
  have HM := hide hm
  have s1 := hp.t
  have s2 := hp.v
  have s3 := hp.l
  have s4 := hp.x
  have s5 := hp.y
  have s6 := hp.k
  have B := hide (bm_new w #[.int .i64 m.k, .int .i64 m.f, .int .i64 m.t, .int .i64 m.n, .int .i64 m.h, .slice p.ta p.tn p.tc, .int .i64 m.tr, .slice p.va p.vn p.vc, .slice p.la p.ln p.lc, .slice p.xa p.xn p.xc, .slice p.ya p.yn p.yc, .slice p.ka p.kn p.kc] 33)
  clear hm hp
  obtain ⟨q1, hq1⟩ : ∃ b, Hid ((inB m.k 0 5) = b) := ⟨_, hide rfl⟩
  obtain ⟨q2, hq2⟩ : ∃ b, Hid ((inB m.f 0 4) = b) := ⟨_, hide rfl⟩
  obtain ⟨q3, hq3⟩ : ∃ b, Hid ((inB m.t 0 4) = b) := ⟨_, hide rfl⟩
  obtain ⟨q4, hq4⟩ : ∃ b, Hid ((m.f == m.t) = b) := ⟨_, hide rfl⟩
  obtain ⟨q5, hq5⟩ : ∃ b, Hid ((inB m.n 0 100000) = b) := ⟨_, hide rfl⟩
  obtain ⟨q6, hq6⟩ : ∃ b, Hid ((inB m.h 0 100000) = b) := ⟨_, hide rfl⟩
  obtain ⟨q7, hq7⟩ : ∃ b, Hid ((trOk m.tl m.tr) = b) := ⟨_, hide rfl⟩
  obtain ⟨q8, hq8⟩ : ∃ b, Hid ((nmOk m.ve (Int.toNat 5) 100000) = b) := ⟨_, hide rfl⟩
  obtain ⟨q9, hq9⟩ : ∃ b, Hid ((nmOk m.le (Int.toNat 4) 3) = b) := ⟨_, hide rfl⟩
  obtain ⟨qb, hqb⟩ : ∃ b, Hid ((okS m.its m.fls) = b) := ⟨_, hide rfl⟩
  obtain ⟨qc, hqc⟩ : ∃ b, Hid ((gF (-1) m.ma) = b) := ⟨_, hide rfl⟩
  have hok2 : Hid (((q1 && q2 && q3 && !q4 && q5 && q6) && (q7 && q8 && q9 && qb && qc) && asc m.le) = ok) := hide (by
    rw [← unhide hq1, ← unhide hq2, ← unhide hq3, ← unhide hq4, ← unhide hq5, ← unhide hq6, ← unhide hq7, ← unhide hq8, ← unhide hq9, ← unhide hqb, ← unhide hqc]
    exact unhide hok)
  clear hok
  have hok := hok2
  clear hok2
  go_enter Tryz.func10, Tryz.ntmps10
  go_wp2_with fail
  refine (l1in_is m.k 0 5 q1 (unhide hq1) _).mono ?_
  rintro e _ ⟨rfl, rfl⟩
  obtain ⟨c0, c1, c2, c3, c4, c5, c6, c7, c8, c9, ca, cb, -⟩ := msg_cells (unhide B).blk
  have z1 := (unhide B).lt
  cases q1
  · obtain rfl : ok = false := by rw [← unhide hok]; simp
    go_wp2
    go_ret
    exact ⟨rfl, (unhide B).bel⟩
  · skip
    go_wp2_with fail
    refine (mnode_any9 m.f q2 hq2 _).mono ?_
    rintro e _ ⟨rfl, rfl⟩
    cases q2
    · obtain rfl : ok = false := by rw [← unhide hok]; simp
      go_wp2
      go_ret
      exact ⟨rfl, (unhide B).bel⟩
    · skip
      go_wp2_with fail
      refine (mnode_any9 m.t q3 hq3 _).mono ?_
      rintro e _ ⟨rfl, rfl⟩
      cases q3
      · obtain rfl : ok = false := by rw [← unhide hok]; simp
        go_wp2
        go_ret
        exact ⟨rfl, (unhide B).bel⟩
      · skip
        cases q4
        rotate_left
        · obtain rfl : ok = false := by rw [← unhide hok]; simp
          have Bq4 : (m.f == m.t) = true := unhide hq4
          go_wp2
          go_ret
          exact ⟨rfl, (unhide B).bel⟩
        · have Bq4 : (m.f == m.t) = false := unhide hq4
          go_wp2_with fail
          refine (l1in_is m.n 0 100000 q5 (unhide hq5) _).mono ?_
          rintro e _ ⟨rfl, rfl⟩
          cases q5
          · obtain rfl : ok = false := by rw [← unhide hok]; simp
            go_wp2
            go_ret
            exact ⟨rfl, (unhide B).bel⟩
          · skip
            go_wp2_with fail
            refine (l1in_is m.h 0 100000 q6 (unhide hq6) _).mono ?_
            rintro e _ ⟨rfl, rfl⟩
            cases q6
            · obtain rfl : ok = false := by rw [← unhide hok]; simp
              go_wp2
              go_ret
              exact ⟨rfl, (unhide B).bel⟩
            · skip
              go_wp2_with fail
              refine (sltree_any p.ta p.tn p.tc m.tl m.tr q7 hq7 _ s1 ((unhide HM).later (unhide B).bel).t).mono ?_
              rintro e w1 ⟨rfl, b1⟩
              have B2 := hide ((unhide B).later (b1))
              clear B c0 c1 c2 c3 c4 c5 c6 c7 c8 c9 ca cb z1
              have B := B2
              clear B2
              obtain ⟨c0, c1, c2, c3, c4, c5, c6, c7, c8, c9, ca, cb, -⟩ := msg_cells (unhide B).blk
              have z1 := (unhide B).lt
              clear b1
              cases q7
              · obtain rfl : ok = false := by rw [← unhide hok]; simp
                go_wp2
                go_ret
                exact ⟨rfl, (unhide B).bel⟩
              · skip
                go_wp2_with fail
                refine (slnums_any p.va p.vn p.vc m.ve 5 100000 q8 hq8 _ (by omega) s2 ((unhide HM).later (unhide B).bel).v).mono ?_
                rintro e _ ⟨rfl, rfl⟩
                cases q8
                · obtain rfl : ok = false := by rw [← unhide hok]; simp
                  go_wp2
                  go_ret
                  exact ⟨rfl, (unhide B).bel⟩
                · skip
                  go_wp2_with fail
                  refine (slnums_any p.la p.ln p.lc m.le 4 3 q9 hq9 _ (by omega) s3 ((unhide HM).later (unhide B).bel).l).mono ?_
                  rintro e _ ⟨rfl, rfl⟩
                  cases q9
                  · obtain rfl : ok = false := by rw [← unhide hok]; simp
                    go_wp2
                    go_ret
                    exact ⟨rfl, (unhide B).bel⟩
                  · skip
                    go_wp2_with fail
                    refine (sstateok_any p.xa p.xn p.xc m.its p.ya p.yn p.yc m.fls qb hqb _ s4 s5 ((unhide HM).later (unhide B).bel).x ((unhide HM).later (unhide B).bel).y).mono ?_
                    rintro e w1 ⟨rfl, b1⟩
                    have B2 := hide ((unhide B).later (b1))
                    clear B c0 c1 c2 c3 c4 c5 c6 c7 c8 c9 ca cb z1
                    have B := B2
                    clear B2
                    obtain ⟨c0, c1, c2, c3, c4, c5, c6, c7, c8, c9, ca, cb, -⟩ := msg_cells (unhide B).blk
                    have z1 := (unhide B).lt
                    clear b1
                    cases qb
                    · obtain rfl : ok = false := by rw [← unhide hok]; simp
                      go_wp2
                      go_ret
                      exact ⟨rfl, (unhide B).bel⟩
                    · skip
                      go_wp2_with fail
                      refine (smarksok_any p.ka p.kn p.kc m.ma qc hqc _ s6 ((unhide HM).later (unhide B).bel).k).mono ?_
                      rintro e w1 ⟨rfl, b1⟩
                      have B2 := hide ((unhide B).later (b1))
                      clear B c0 c1 c2 c3 c4 c5 c6 c7 c8 c9 ca cb z1
                      have B := B2
                      clear B2
                      obtain ⟨c0, c1, c2, c3, c4, c5, c6, c7, c8, c9, ca, cb, -⟩ := msg_cells (unhide B).blk
                      have z1 := (unhide B).lt
                      clear b1
                      cases qc
                      · obtain rfl : ok = false := by rw [← unhide hok]; simp
                        go_wp2
                        go_ret
                        exact ⟨rfl, (unhide B).bel⟩
                      · skip
                        have HA : Hid (asc m.le = ok) := hide (by rw [← unhide hok]; simp)
                        clear hok
                        have HLN := hide (unhide HM).l.len.1
                        go_wp2_with fail
                        obtain ⟨ln, hln⟩ : ∃ n, n = p.ln := ⟨_, rfl⟩
                        go_loopw [3] (fun i wr => ∃ k : Nat, 1 ≤ k ∧ (k ≤ p.ln ∨ k = 1) ∧ i = .int .i64 k ∧ Hid (ascK m.le k = ok) ∧ Hid (Bm w wr #[.int .i64 m.k, .int .i64 m.f, .int .i64 m.t, .int .i64 m.n, .int .i64 m.h, .slice p.ta p.tn p.tc, .int .i64 m.tr, .slice p.va p.vn p.vc, .slice p.la p.ln p.lc, .slice p.xa p.xn p.xc, .slice p.ya p.yn p.yc, .slice p.ka p.kn p.kc] 33)) (fun i _ => p.ln - (intOf i).toNat)
                        case atStart => exact ⟨1, by omega, .inr rfl, rfl, hide (by rw [← unhide HA]; exact ascK_one _), B⟩
                        case round =>
                          obtain ⟨k, hk1, hk2, rfl, HK, B⟩ := hrel
                          clear HA c0 c1 c2 c3 c4 c5 c6 c7 c8 c9 ca cb z1
                          obtain ⟨c0, c1, c2, c3, c4, c5, c6, c7, c8, c9, ca, cb, -⟩ := msg_cells (unhide B).blk
                          have z1 := (unhide B).lt
                          have hbw := (unhide B).bel
                          by_cases hlt : k < p.ln
                          · obtain ⟨x, b, off, hx, ha, hb, hc, cx⟩ := (unhide HM).l.atN hlt
                            obtain ⟨y, b2, off2, hy, ha2, hb2, hc2, cy⟩ := (unhide HM).l.atN (i := k - 1) (by omega)
                            have e2 : b2 = b ∧ off2 = off := by rw [ha] at ha2; simpa using ha2.symm
                            obtain ⟨rfl, rfl⟩ := e2
                            have cx2 := (hbw.cell (p := ⟨b2, off2 + k, none⟩) hb).trans cx
                            have cy2 := (hbw.cell (p := ⟨b2, off2 + (k - 1), none⟩) hb).trans cy
                            have hkn : ((k : Int) - 1).toNat = k - 1 := by omega
                            have HS : Hid ((!decide (x ≤ y) && ascK m.le (k + 1)) = ok) := hide (by rw [← unhide HK]; exact (ascK_next hk1 hx hy).symm)
                            have HX := hide ha
                            have hsz := hbw.size
                            have lx := later_some (w := wr) (b := b2) (o := off2 + k) (by omega) cx2
                            have ly := later_some (w := wr) (b := b2) (o := off2 + (k - 1)) (by omega) cy2
                            rw [ha] at c8
                            have l8 := later_some (w := wr) (b := w.heap.size) (o := 8) z1 c8
                            clear hx hy cx cy ha2 HK hbw cx2 cy2 c0 c1 c2 c3 c4 c5 c6 c7 c9 ca cb
                            obtain ⟨d, hd⟩ : ∃ d, decide (x ≤ y) = d := ⟨_, rfl⟩
                            rw [hd] at HS
                            cases d
                            · have HT : Hid (ascK m.le (k + 1) = ok) := hide (by rw [← unhide HS]; rfl)
                              go_wp2_with fail
                              refine wp_region_later (by kernel_rfl) (by kernel_rfl) ?_
                              repeat (go_big_quiet_step (fail))
                              refine wpQuiet_nil ?_
                              intro w1 b1
                              have B2 := hide ((unhide B).later b1)
                              clear b1 lx ly l8 c8
                              have B := B2
                              go_wp2
                              go_roundw
                              case rel => exact ⟨k + 1, by omega, by omega, by go_num, HT, B⟩
                              case measure => simp [intOf]; omega
                            · obtain rfl : ok = false := by rw [← unhide HS]; rfl
                              go_wp2_with fail
                              refine wp_region_later (by kernel_rfl) (by kernel_rfl) ?_
                              repeat (go_big_quiet_step (fail))
                              refine wpQuiet_nil ?_
                              intro w1 b1
                              have B2 := hide ((unhide B).later b1)
                              clear b1 lx ly l8 c8
                              go_wp2
                              go_ret
                              exact ⟨rfl, (unhide B2).bel⟩
                          · obtain rfl : ok = true := by rw [← unhide HK]; exact ascK_end hk1 (by have := unhide HLN; omega)
                            clear hbw
                            go_wp2
                            go_ret
                            exact ⟨rfl, (unhide B).bel⟩
end Go.Proofs.YtjlocbimkfocnaaGreat
