/-
  Marks are put into a table's row: the specification's and the program's. No statement is proved here.
-/
import Derived.Test.YtighiahppjekeaaTbN
import Derived.Test.YtighiahppjekeaaMkS
import Derived.Test.YtighiahppjekeaaVcD
import Derived.Deep.RegionHeld3
import Derived.Deep.DeepCutAuto
namespace Go.Proofs.Ytighiahppjekeaa
open Go.RowKit

/-- A number of an owned table, and the table with another one there. -/
theorem OwG.cell {lo hi n c : Nat} {a : Option Addr} {w : World} {t : Tb} (h : OwG lo hi w (.slice a n c) t) {k : Nat} {r : List Int} (hr : t[k]? = some r) {j : Nat} {z0 : Int} (hz : r[j]? = some z0) :
    ∃ ob g cr, a = some ⟨ob, 0, none⟩ ∧ n ≤ c ∧ ob < w.heap.size ∧ g < w.heap.size ∧ lo ≤ g ∧ g < hi ∧ ob ≠ g ∧ r.length ≤ cr ∧ w.cell? ⟨ob, k, none⟩ = some (.slice (some ⟨g, 0, none⟩) r.length cr) ∧ w.cell? ⟨g, j, none⟩ = some (.int .i64 z0) ∧ w.frozen? ⟨g, j, none⟩ = false ∧
      ∀ z, OwG lo hi (w.setCell ⟨g, j, none⟩ (.int .i64 z)) (.slice a n c) (t.set k (r.set j z)) := by
  obtain ⟨ob, ar, cr, ha, hn, hob, c0, o1, htop, hput⟩ := h.slot hr
  have hj := (List.getElem?_eq_some_iff.1 hz).1
  obtain ⟨z, b, off, hz', hb, hbw, hrc, cz⟩ := (o1.rw encN_len).atN hj
  rw [hz] at hz'
  cases hz'
  obtain ⟨g, y, hg, hlo, hc, hy, hf⟩ := OwN.slot o1 rfl hj
  subst hg
  simp only [Option.some.injEq, Addr.mk.injEq] at hb
  obtain ⟨rfl, rfl, -⟩ := hb
  rw [Nat.zero_add] at cz
  have hne : ob ≠ g := by
    rintro rfl
    obtain ⟨ps, h1, -⟩ := h.own
    obtain ⟨cs, fz, e1⟩ := h1.blkT ob (by rw [ha]; rfl)
    obtain ⟨cs', fz', e2⟩ := o1.blkT ob rfl
    rw [e1] at e2
    simp at e2
  refine ⟨ob, g, cr, ha, hn, hob, hbw, hlo, htop g rfl, hne, hrc, c0, cz, hf, fun z => ?_⟩
  have hst := (World.ownsRow.stored (show w.ownsRow lo 3 1 (.slice (some ⟨g, 0, none⟩) r.length cr) r.length (r.flatMap encN) from o1) j (.int .i64 z)).2
  have hp := OwN.putN o1 rfl j z
  have e := hput _ (r.set j z) hst hp
  exact e
theorem keepC {W : World} {g j b o : Nat} {z v : Value} (hne : b ≠ g) (h : W.cell? ⟨b, o, none⟩ = some v) : (W.setCell ⟨g, j, none⟩ z).cell? ⟨b, o, none⟩ = some v := by
  rw [World.cell?_of_block (w := W) (heap_setCell_other _ _ _ _ hne)]; exact h
theorem set_same9 {α : Type} {t : List α} {k : Nat} {r : α} (h : t[k]? = some r) : t.set k r = t := by
  apply List.ext_getElem?
  intro i
  rw [List.getElem?_set]
  split
  · rename_i e
    subst e
    rw [h]
    have := (List.getElem?_eq_some_iff.1 h).1
    simp [this]
  · rfl
theorem gF_mem : ∀ {last : Int} {fs : List Flr}, gF last fs = true → ∀ (i : Nat) (m : Flr), fs[i]? = some m → 0 ≤ m.1 ∧ m.1 ≤ 4 ∧ 1 ≤ m.2 ∧ m.2 ≤ 1000
  | _, [], _, i, m, hm => by simp at hm
  | last, x :: r, h, i, m, hm => by
    rw [gF, Bool.and_eq_true, Bool.and_eq_true, Bool.and_eq_true] at h
    cases i with
    | zero =>
      simp at hm
      subst hm
      have h1 := h.1.1.1
      have h2 := h.1.2
      simp [inB] at h1 h2
      omega
    | succ i => exact gF_mem h.2 i m (by simpa using hm)
set_option linter.unusedSimpArgs false in
set_option maxHeartbeats 4000000 in
set_option maxRecDepth 100000 in
theorem stableadd_any (a : Option Addr) (n c : Nat) (t : Tb) (k : Int) (ma : Option Addr) (mn mc : Nat) (ms : List Flr) (w : World) (hn : n ≤ 1048576) (ht : totG t ≤ 1048576) (hmn : mn ≤ 140737488351232) (h : RwG w (.slice a n c) t) (hm : Rw encF 2 w (.slice ma mn mc) ms) :
    Calls Try.prog 10 #[.slice a n c, .int .i64 k, .slice ma mn mc] w fun e w' => ∃ a' c', e = .returned (.slice a' n c') ∧ OwG w.heap.size w'.heap.size w' (.slice a' n c') (addT t k ms) ∧ Below w.heap.size w w' := by
  have HX := hide h
  have HM := hide hm
  have HN := hide h.len.1
  obtain ⟨q1, hq1⟩ : ∃ q, Hid (inB k 0 ((n : Int) - 1) = q) := ⟨_, hide rfl⟩
  obtain ⟨q2, hq2⟩ : ∃ q, Hid (gF (-1) ms = q) := ⟨_, hide rfl⟩
  have HA : Hid (addOk t k ms = (q1 && q2 && decide (5 ≤ (rowT t k).length))) := hide (by rw [addOk, ← h.len.1, unhide hq1, unhide hq2])
  clear h hm
  go_enter Try.func10, Try.ntmps10
  go_wp2_with fail
  refine (l9copy_any a n c t _ hn ht (unhide HX)).mono ?_
  rintro e w1 ⟨a1, c1, rfl, o1, b1⟩
  have HO := hide o1
  have HB := hide b1
  have hz1 := b1.size
  clear o1 b1
  have HFIN : ∀ w2, Hid (addOk t k ms = false) → Below w1.heap.size w1 w2 → ∃ a' c', Ending.returned (Value.slice a1 n c1) = .returned (.slice a' n c') ∧ OwG w.heap.size w2.heap.size w2 (.slice a' n c') (addT t k ms) ∧ Below w.heap.size w w2 := fun w2 hf b => ⟨a1, c1, rfl, by
    have e : addT t k ms = t := by unfold addT; rw [if_neg (by rw [unhide hf]; simp)]
    rw [e]
    exact ((unhide HO).later b).mono (Nat.le_refl _) b.size, (unhide HB).trans (b.mono hz1)⟩
  have HF := hide HFIN
  clear HFIN
  go_wp2_with fail
  refine (l1in_is k 0 ((n : Int) - 1) q1 (unhide hq1) _).mono ?_
  rintro e _ ⟨rfl, rfl⟩
  cases q1
  · have HA0 : Hid (addOk t k ms = false) := hide (by rw [unhide HA]; rfl)
    go_wp2
    go_ret
    exact unhide HF _ HA0 (Below.refl _ _)
  go_wp2_with fail
  refine (smarksok_any ma mn mc ms q2 hq2 _ hmn ((unhide HM).later (unhide HB))).mono ?_
  rintro e w2 ⟨rfl, b2⟩
  have HB2 := hide b2
  have hz2 := b2.size
  clear b2
  cases q2
  · have HA0 : Hid (addOk t k ms = false) := hide (by rw [unhide HA]; rfl)
    go_wp2
    go_ret
    exact unhide HF _ HA0 (unhide HB2)
  obtain ⟨kk, rfl⟩ : ∃ kk : Nat, k = (kk : Int) := by
    have h := unhide hq1
    simp [inB] at h
    exact ⟨k.toNat, by omega⟩
  have hkk : kk < n := by
    have h := unhide hq1
    simp [inB] at h
    omega
  have HBW := hide ((unhide HB).trans ((unhide HB2).mono hz1))
  obtain ⟨r, ai, ni, ci, bb, off, hr, rfl, hbw, hcap, c0, rx, -⟩ := (unhide HX).at hkk
  have d0 := ((unhide HBW).cell (p := ⟨bb, off + kk, none⟩) hbw).trans c0
  obtain ⟨q3, hq3⟩ : ∃ q, decide ((ni : Int) < 5) = q := ⟨_, rfl⟩
  have HR := hide hr
  have HNI := hide rx.len.1
  have HA1 : Hid (addOk t (kk : Int) ms = !q3) := hide (by
    rw [unhide HA, rowT_in hr, ← rx.len.1, ← hq3]
    by_cases h : (ni : Int) < 5
    · simp [h]; omega
    · simp [h]; omega)
  clear c0 rx hr
  cases q3
  rotate_left
  · have HA0 : Hid (addOk t (kk : Int) ms = false) := hide (by rw [unhide HA1]; rfl)
    clear hq1
    go_wp2
    go_ret
    exact unhide HF _ HA0 (unhide HB2)
  have hni5 : 5 ≤ ni := by simp at hq3; omega
  have HE : Hid (addT t (kk : Int) ms = t.set kk (putMs r ms)) := hide (by
    unfold addT
    rw [if_pos (by rw [unhide HA1]; rfl), rowT_in (unhide HR)]; simp)
  have HO2 := hide (((unhide HO).later (unhide HB2)).mono (Nat.le_refl _) hz2)
  clear HO HF hq1 HA HA1
  go_wp2
  clear d0
  go_loopw [8] (fun i wr => ∃ j : Nat, j ≤ mn ∧ i = .int .i64 j ∧ OwG w.heap.size w2.heap.size wr (.slice a1 n c1) (t.set kk (putMs r (ms.take j))) ∧ Below w.heap.size w wr ∧ w2.heap.size ≤ wr.heap.size) (fun i _ => mn - (intOf i).toNat)
  case atStart => exact ⟨0, Nat.zero_le _, rfl, by show OwG _ _ _ _ (t.set kk r); rw [set_same9 (unhide HR)]; exact unhide HO2, unhide HBW, Nat.le_refl _⟩
  case round =>
    obtain ⟨j, hj, rfl, hogr, hb, hsw⟩ := hrel
    have HG := hide hogr
    have HBR := hide hb
    have hsr := hb.size
    by_cases hlt : j < mn
    · obtain ⟨m, mb, moff, hm, rfl, hmb, hmc, hcm⟩ := (unhide HM).at hlt
      have hmbr : mb < wr.heap.size := by omega
      have e0 : wr.cell? ⟨mb, moff + j * 2, none⟩ = some (.int .i64 m.1) := (hb.cell (p := ⟨mb, moff + j * 2, none⟩) hmb).trans (hcm 0 (by omega))
      have e1 : wr.cell? ⟨mb, moff + j * 2 + 1, none⟩ = some (.int .i64 m.2) := (hb.cell (p := ⟨mb, moff + j * 2 + 1, none⟩) hmb).trans (hcm 1 (by omega))
      have HCM := hide hcm
      clear hcm
      obtain ⟨hm0, hm4, hi0, hi1⟩ := gF_mem (unhide hq2) j m hm
      obtain ⟨m1, m2⟩ := m
      simp only at hm0 hm4 hi0 hi1 e0 e1
      obtain ⟨id, rfl⟩ := Int.eq_ofNat_of_zero_le hm0
      obtain ⟨r2, hr2⟩ : ∃ r2, putMs r (ms.take j) = r2 := ⟨_, rfl⟩
      have hl2 : r2.length = ni := by rw [← hr2, putMs_len, ← unhide HNI]
      obtain ⟨z0, hz0⟩ : ∃ z, r2[id]? = some z := ⟨_, List.getElem?_eq_getElem (by omega)⟩
      have hrt : (t.set kk (putMs r (ms.take j)))[kk]? = some r2 := by
        rw [hr2, List.getElem?_set]
        have := (List.getElem?_eq_some_iff.1 (unhide HR)).1
        simp [this]
      obtain ⟨ob, g, cr, rfl, hc1, hob, hgb, hlo, hghi, hog, hcr, f0, f1, ff, hput⟩ := hogr.cell hrt hz0
      rw [hl2] at f0 hcr
      have HP := hide (hput (max z0 m2))
      obtain ⟨z, hz⟩ : ∃ z, Hid (max z0 m2 = z) := ⟨_, hide rfl⟩
      rw [unhide hz] at HP
      have HID := hide hz0
      have HR2 := hide hr2
      have HMJ := hide hm
      have hid5 : id < ni := by omega
      have hidc : id < cr := by omega
      have hmg : mb ≠ g := by omega
      clear hogr hb hrt hput hz0 hr2 hm hm0 hl2
      go_wp2
      refine wp_region_noPanic ?_
      refine wp_region_held_drew (S := (fun W => W.cell? ⟨ob, kk, none⟩ = some (.slice (some ⟨g, 0, none⟩) ni cr) ∧ W.cell? ⟨mb, moff + j * 2, none⟩ = some (.int .i64 id) ∧ W.cell? ⟨mb, moff + j * 2 + 1, none⟩ = some (.int .i64 m2))) (by kernel_rfl) ?_ (fun hHeld => ?_)
      · (try dsimp only); exact ⟨f0, e0, e1⟩
      refine wpAnyH_take (i := 0) (v := ?v0) (by (simp only [List.getElem?_toArray, List.getElem?_cons_succ, List.getElem?_cons_zero]; rfl)) (by kernel_rfl) (by kernel_rfl) (by kernel_rfl) (fun _ _ _ h => h) (Or.inl ⟨by rfl, ?hy0⟩) (by assumption) ?rest0
      case hy0 => (intro w hSw; (try dsimp only at hSw); go_simp <;> with_reducible rfl)
      (try simp only [Act.put, List.setIfInBounds_toArray, List.set_cons_zero, List.set_cons_succ])
      refine wpAnyH_take (i := 1) (v := ?v1) (by (simp only [List.getElem?_toArray, List.getElem?_cons_succ, List.getElem?_cons_zero]; rfl)) (by kernel_rfl) (by kernel_rfl) (by kernel_rfl) (fun _ _ _ h => h) (Or.inl ⟨by rfl, ?hy1⟩) (by assumption) ?rest1
      case hy1 => (intro w hSw; (try dsimp only at hSw); go_simp <;> with_reducible rfl)
      (try simp only [Act.put, List.setIfInBounds_toArray, List.set_cons_zero, List.set_cons_succ])
      refine wpAnyH_take (i := 2) (v := ?v2) (by (simp only [List.getElem?_toArray, List.getElem?_cons_succ, List.getElem?_cons_zero]; rfl)) (by kernel_rfl) (by kernel_rfl) (by kernel_rfl) (fun _ _ _ h => h) (Or.inl ⟨by rfl, ?hy2⟩) (by assumption) ?rest2
      case hy2 => (intro w hSw; (try dsimp only at hSw); go_simp <;> with_reducible rfl)
      (try simp only [Act.put, List.setIfInBounds_toArray, List.set_cons_zero, List.set_cons_succ])
      refine wpAnyH_take (i := 3) (v := ?v3) (by (simp only [List.getElem?_toArray, List.getElem?_cons_succ, List.getElem?_cons_zero]; rfl)) (by kernel_rfl) (by kernel_rfl) (by kernel_rfl) (fun _ _ _ h => h) (Or.inl ⟨by rfl, ?hy3⟩) (by assumption) ?rest3
      case hy3 => (intro w hSw; (try dsimp only at hSw); go_simp <;> with_reducible rfl)
      (try simp only [Act.put, List.setIfInBounds_toArray, List.set_cons_zero, List.set_cons_succ])
      refine wpAnyH_take (i := 4) (v := ?v4) (by (simp only [List.getElem?_toArray, List.getElem?_cons_succ, List.getElem?_cons_zero]; rfl)) (by kernel_rfl) (by kernel_rfl) (by kernel_rfl) (fun _ _ _ h => h) (Or.inl ⟨by rfl, ?hy4⟩) (by assumption) ?rest4
      case hy4 => (intro w hSw; (try dsimp only at hSw); go_simp <;> with_reducible rfl)
      (try simp only [Act.put, List.setIfInBounds_toArray, List.set_cons_zero, List.set_cons_succ])
      refine wpAnyH_take (i := 5) (v := ?v5) (by (simp only [List.getElem?_toArray, List.getElem?_cons_succ, List.getElem?_cons_zero]; rfl)) (by kernel_rfl) (by kernel_rfl) (by kernel_rfl) (fun _ _ _ h => h) (Or.inl ⟨by rfl, ?hy5⟩) (by assumption) ?rest5
      case hy5 => (intro w hSw; (try dsimp only at hSw); go_simp <;> with_reducible rfl)
      (try simp only [Act.put, List.setIfInBounds_toArray, List.set_cons_zero, List.set_cons_succ])
      refine wpAnyH_take (i := 6) (v := ?v6) (by (simp only [List.getElem?_toArray, List.getElem?_cons_succ, List.getElem?_cons_zero]; rfl)) (by kernel_rfl) (by kernel_rfl) (by kernel_rfl) (fun _ _ _ h => h) (Or.inl ⟨by rfl, ?hy6⟩) (by assumption) ?rest6
      case hy6 => (intro w hSw; (try dsimp only at hSw); go_simp <;> with_reducible rfl)
      (try simp only [Act.put, List.setIfInBounds_toArray, List.set_cons_zero, List.set_cons_succ])
      refine wpAnyH_take (i := 7) (v := ?v7) (by (simp only [List.getElem?_toArray, List.getElem?_cons_succ, List.getElem?_cons_zero]; rfl)) (by kernel_rfl) (by kernel_rfl) (by kernel_rfl) (fun _ _ _ h => h) (Or.inl ⟨by rfl, ?hy7⟩) (by assumption) ?rest7
      case hy7 => (intro w hSw; (try dsimp only at hSw); go_simp <;> with_reducible rfl)
      (try simp only [Act.put, List.setIfInBounds_toArray, List.set_cons_zero, List.set_cons_succ])
      refine wpAnyH_take (i := 8) (v := ?v8) (by (simp only [List.getElem?_toArray, List.getElem?_cons_succ, List.getElem?_cons_zero]; rfl)) (by kernel_rfl) (by kernel_rfl) (by kernel_rfl) (fun _ _ _ h => h) (Or.inl ⟨by rfl, ?hy8⟩) (by assumption) ?rest8
      case hy8 => (intro w hSw; (try dsimp only at hSw); go_simp <;> with_reducible rfl)
      (try simp only [Act.put, List.setIfInBounds_toArray, List.set_cons_zero, List.set_cons_succ])
      refine wpAnyH_take (i := 9) (v := ?v9) (by (simp only [List.getElem?_toArray, List.getElem?_cons_succ, List.getElem?_cons_zero]; rfl)) (by kernel_rfl) (by kernel_rfl) (by kernel_rfl) (fun _ _ _ h => h) (Or.inl ⟨by rfl, ?hy9⟩) (by assumption) ?rest9
      case hy9 => (intro w hSw; (try dsimp only at hSw); go_simp <;> with_reducible rfl)
      (try simp only [Act.put, List.setIfInBounds_toArray, List.set_cons_zero, List.set_cons_succ])
      refine wpAnyH_take (i := 10) (v := ?v10) (by (simp only [List.getElem?_toArray, List.getElem?_cons_succ, List.getElem?_cons_zero]; rfl)) (by kernel_rfl) (by kernel_rfl) (by kernel_rfl) (fun _ _ _ h => h) (Or.inl ⟨by rfl, ?hy10⟩) (by assumption) ?rest10
      case hy10 => (intro w hSw; (try dsimp only at hSw); go_simp <;> with_reducible rfl)
      (try simp only [Act.put, List.setIfInBounds_toArray, List.set_cons_zero, List.set_cons_succ])
      refine wpAnyH_take (i := 11) (v := ?v11) (by (simp only [List.getElem?_toArray, List.getElem?_cons_succ, List.getElem?_cons_zero]; rfl)) (by kernel_rfl) (by kernel_rfl) (by kernel_rfl) (fun _ _ _ h => h) (Or.inl ⟨by rfl, ?hy11⟩) (by assumption) ?rest11
      case hy11 => (intro w hSw; (try dsimp only at hSw); go_simp <;> with_reducible rfl)
      (try simp only [Act.put, List.setIfInBounds_toArray, List.set_cons_zero, List.set_cons_succ])
      refine wpAnyH_take (i := 12) (v := ?v12) (by (simp only [List.getElem?_toArray, List.getElem?_cons_succ, List.getElem?_cons_zero]; rfl)) (by kernel_rfl) (by kernel_rfl) (by kernel_rfl) (fun _ _ _ h => h) (Or.inl ⟨by rfl, ?hy12⟩) (by assumption) ?rest12
      case hy12 => (intro w hSw; (try dsimp only at hSw); go_simp <;> with_reducible rfl)
      (try simp only [Act.put, List.setIfInBounds_toArray, List.set_cons_zero, List.set_cons_succ])
      refine wpAnyH_take (i := 13) (v := ?v13) (by (simp only [List.getElem?_toArray, List.getElem?_cons_succ, List.getElem?_cons_zero]; rfl)) (by kernel_rfl) (by kernel_rfl) (by kernel_rfl) (fun _ _ _ h => h) (Or.inl ⟨by rfl, ?hy13⟩) (by assumption) ?rest13
      case hy13 => (intro w hSw; (try dsimp only at hSw); go_simp <;> with_reducible rfl)
      (try simp only [Act.put, List.setIfInBounds_toArray, List.set_cons_zero, List.set_cons_succ])
      refine wpAnyH_take (i := 14) (v := ?v14) (by (simp only [List.getElem?_toArray, List.getElem?_cons_succ, List.getElem?_cons_zero]; rfl)) (by kernel_rfl) (by kernel_rfl) (by kernel_rfl) (fun _ _ _ h => h) (Or.inl ⟨by rfl, ?hy14⟩) (by assumption) ?rest14
      case hy14 => (intro w hSw; (try dsimp only at hSw); go_simp <;> with_reducible rfl)
      (try simp only [Act.put, List.setIfInBounds_toArray, List.set_cons_zero, List.set_cons_succ])
      refine wpAnyH_take (i := 15) (v := ?v15) (by (simp only [List.getElem?_toArray, List.getElem?_cons_succ, List.getElem?_cons_zero]; rfl)) (by kernel_rfl) (by kernel_rfl) (by kernel_rfl) (fun _ _ _ h => h) (Or.inl ⟨by rfl, ?hy15⟩) (by assumption) ?rest15
      case hy15 => (intro w hSw; (try dsimp only at hSw); go_simp <;> with_reducible rfl)
      (try simp only [Act.put, List.setIfInBounds_toArray, List.set_cons_zero, List.set_cons_succ])
      refine wpAnyH_take (i := 16) (v := ?v16) (by (simp only [List.getElem?_toArray, List.getElem?_cons_succ, List.getElem?_cons_zero]; rfl)) (by kernel_rfl) (by kernel_rfl) (by kernel_rfl) (fun _ _ _ h => h) (Or.inl ⟨by rfl, ?hy16⟩) (by assumption) ?rest16
      case hy16 => (intro w hSw; (try dsimp only at hSw); go_simp <;> with_reducible rfl)
      (try simp only [Act.put, List.setIfInBounds_toArray, List.set_cons_zero, List.set_cons_succ])
      refine wpAnyH_take (i := 17) (v := ?v17) (by (simp only [List.getElem?_toArray, List.getElem?_cons_succ, List.getElem?_cons_zero]; rfl)) (by kernel_rfl) (by kernel_rfl) (by kernel_rfl) (fun _ _ _ h => h) (Or.inl ⟨by rfl, ?hy17⟩) (by assumption) ?rest17
      case hy17 => (intro w hSw; (try dsimp only at hSw); go_simp <;> with_reducible rfl)
      (try simp only [Act.put, List.setIfInBounds_toArray, List.set_cons_zero, List.set_cons_succ])
      refine wpAnyH_take (i := 18) (v := ?v18) (by (simp only [List.getElem?_toArray, List.getElem?_cons_succ, List.getElem?_cons_zero]; rfl)) (by kernel_rfl) (by kernel_rfl) (by kernel_rfl) (fun _ _ _ h => h) (Or.inl ⟨by rfl, ?hy18⟩) (by assumption) ?rest18
      case hy18 => (intro w hSw; (try dsimp only at hSw); go_simp <;> with_reducible rfl)
      (try simp only [Act.put, List.setIfInBounds_toArray, List.set_cons_zero, List.set_cons_succ])
      refine wpAnyH_take (i := 20) (v := ?v20) (by (simp only [List.getElem?_toArray, List.getElem?_cons_succ, List.getElem?_cons_zero]; rfl)) (by kernel_rfl) (by kernel_rfl) (by kernel_rfl) (fun _ _ _ h => h) (Or.inl ⟨by rfl, ?hy20⟩) (by assumption) ?rest20
      case hy20 => (intro w hSw; (try dsimp only at hSw); go_simp <;> with_reducible rfl)
      (try simp only [Act.put, List.setIfInBounds_toArray, List.set_cons_zero, List.set_cons_succ])
      refine wpAnyH_take (i := 21) (v := ?v21) (by (simp only [List.getElem?_toArray, List.getElem?_cons_succ, List.getElem?_cons_zero]; rfl)) (by kernel_rfl) (by kernel_rfl) (by kernel_rfl) (fun _ _ _ h => h) (Or.inl ⟨by rfl, ?hy21⟩) (by assumption) ?rest21
      case hy21 => (intro w hSw; (try dsimp only at hSw); go_simp <;> with_reducible rfl)
      (try simp only [Act.put, List.setIfInBounds_toArray, List.set_cons_zero, List.set_cons_succ])
      refine wpAnyH_take (i := 22) (v := ?v22) (by (simp only [List.getElem?_toArray, List.getElem?_cons_succ, List.getElem?_cons_zero]; rfl)) (by kernel_rfl) (by kernel_rfl) (by kernel_rfl) (fun _ _ _ h => h) (Or.inl ⟨by rfl, ?hy22⟩) (by assumption) ?rest22
      case hy22 => (intro w hSw; (try dsimp only at hSw); go_simp <;> with_reducible rfl)
      (try simp only [Act.put, List.setIfInBounds_toArray, List.set_cons_zero, List.set_cons_succ])
      refine wpAnyH_take (i := 23) (v := ?v23) (by (simp only [List.getElem?_toArray, List.getElem?_cons_succ, List.getElem?_cons_zero]; rfl)) (by kernel_rfl) (by kernel_rfl) (by kernel_rfl) (fun _ _ _ h => h) (Or.inl ⟨by rfl, ?hy23⟩) (by assumption) ?rest23
      case hy23 => (intro w hSw; (try dsimp only at hSw); go_simp <;> with_reducible rfl)
      (try simp only [Act.put, List.setIfInBounds_toArray, List.set_cons_zero, List.set_cons_succ])
      refine wpAnyH_take (i := 24) (v := ?v24) (by (simp only [List.getElem?_toArray, List.getElem?_cons_succ, List.getElem?_cons_zero]; rfl)) (by kernel_rfl) (by kernel_rfl) (by kernel_rfl) (fun _ _ _ h => h) (Or.inl ⟨by rfl, ?hy24⟩) (by assumption) ?rest24
      case hy24 => (intro w hSw; (try dsimp only at hSw); go_simp <;> with_reducible rfl)
      (try simp only [Act.put, List.setIfInBounds_toArray, List.set_cons_zero, List.set_cons_succ])
      refine wpAnyH_ready (rs := [19]) (by kernel_rfl) (by simp) ?_
      refine AllReadyH.cons (by (simp only [List.getElem?_toArray, List.getElem?_cons_succ, List.getElem?_cons_zero]; rfl)) (fun K hK => ?_) AllReadyH.nil
      go_simp
      refine hK.out _ _ ?_ (fun hHeldN => ?_)
      · (try dsimp only); exact hHeld
      clear hK K hHeld
      have hHeld := hHeldN; clear hHeldN
      (try simp only [Act.put, List.setIfInBounds_toArray, List.set_cons_zero, List.set_cons_succ])
      refine wpAnyH_ready (rs := [25]) (by kernel_rfl) (by simp) ?_
      refine AllReadyH.cons (by (simp only [List.getElem?_toArray, List.getElem?_cons_succ, List.getElem?_cons_zero]; rfl)) (fun K hK => ?_) AllReadyH.nil
      go_simp
      refine (l1max_any z0 m2 z hz _).mono ?_
      rintro e _ ⟨rfl, rfl⟩
      (try go_wp2_with fail)
      refine hK.out _ _ ?_ (fun hHeldN => ?_)
      · (try dsimp only); exact hHeld
      clear hK K hHeld
      have hHeld := hHeldN; clear hHeldN
      (try simp only [Act.put, List.setIfInBounds_toArray, List.set_cons_zero, List.set_cons_succ])
      refine wpAnyH_take (i := 26) (v := ?v26) (by (simp only [List.getElem?_toArray, List.getElem?_cons_succ, List.getElem?_cons_zero]; rfl)) (by kernel_rfl) (by kernel_rfl) (by kernel_rfl) (fun _ _ _ h => h) (Or.inl ⟨by rfl, ?hy26⟩) (by assumption) ?rest26
      case hy26 => (intro w hSw; (try dsimp only at hSw); go_simp <;> with_reducible rfl)
      (try simp only [Act.put, List.setIfInBounds_toArray, List.set_cons_zero, List.set_cons_succ])
      refine wpAnyH_ready (rs := [27]) (by kernel_rfl) (by simp) ?_
      refine AllReadyH.cons (by (simp only [List.getElem?_toArray, List.getElem?_cons_succ, List.getElem?_cons_zero]; rfl)) (fun K hK => ?_) AllReadyH.nil
      go_simp
      refine hK.out _ _ ?_ (fun hHeldN => ?_)
      · (try dsimp only); exact ⟨keepC hog hHeld.1, keepC hmg hHeld.2.1, keepC hmg hHeld.2.2⟩
      clear hK K hHeld
      have hHeld := hHeldN; clear hHeldN
      (try simp only [Act.put, List.setIfInBounds_toArray, List.set_cons_zero, List.set_cons_succ])
      refine wpAnyH_done (by kernel_rfl) ?_ _
      refine NoPanic.normal ?_
      clear hHeld
      have HSTEP : Hid (t.set kk (putMs r (ms.take (j + 1))) = (t.set kk (putMs r (ms.take j))).set kk (r2.set id z)) := hide (by
        rw [putMs_take (unhide HMJ), unhide HR2, List.set_set, ← unhide hz]
        congr 1
        unfold putM
        dsimp only
        rw [show (id : Int).toNat = id from by omega, nAt_in (unhide HID)])
      have HG2 : Hid (OwG w.heap.size w2.heap.size (wr.setCell ⟨g, id, none⟩ (.int .i64 z)).drew (.slice (some ⟨ob, 0, none⟩) n c1) (t.set kk (putMs r (ms.take (j + 1))))) := by
        rw [unhide HSTEP]
        exact hide ((unhide HP).later ((Below.refl _ _).drew))
      have HB3 := hide (((unhide HBR).setCell (p := ⟨g, id, none⟩) hlo (.int .i64 z)).drew)
      have hs3 : w2.heap.size ≤ ((wr.setCell ⟨g, id, none⟩ (.int .i64 z)).drew).heap.size := by
        show w2.heap.size ≤ (wr.setCell ⟨g, id, none⟩ (.int .i64 z)).heap.size
        simp; omega
      clear HP HBR HG HSTEP
      go_wp2
      go_roundw
      case rel => exact ⟨j + 1, by omega, by go_num, unhide HG2, unhide HB3, hs3⟩
      case measure => simp [intOf]; omega
    · have HFG : Hid (OwG w.heap.size wr.heap.size wr (.slice a1 n c1) (addT t (kk : Int) ms)) := hide (by
        rw [unhide HE]
        have h := hogr
        rw [List.take_of_length_le (by have := (unhide HM).len.1; omega)] at h
        exact h.mono (Nat.le_refl _) hsw)
      clear hogr hb
      go_wp2
      go_ret
      exact ⟨_, _, rfl, unhide HFG, unhide HBR⟩
set_option linter.unusedSimpArgs false in
set_option maxHeartbeats 4000000 in
set_option maxRecDepth 100000 in
theorem itableadd_any (a : Option Addr) (n c : Nat) (t : Tb) (k : Int) (ma : Option Addr) (mn mc : Nat) (ms : List Flr) (w : World) (hn : n ≤ 1048576) (ht : totG t ≤ 1048576) (hmn : mn ≤ 140737488351232) (h : RwG w (.slice a n c) t) (hm : Rw encF 2 w (.slice ma mn mc) ms) :
    Calls Try.prog 9 #[.slice a n c, .int .i64 k, .slice ma mn mc] w fun e w' => ∃ a' c', e = .returned (.slice a' n c') ∧ OwG w.heap.size w'.heap.size w' (.slice a' n c') (addT t k ms) ∧ Below w.heap.size w w' := by
  have HX := hide h
  have HM := hide hm
  have HN := hide h.len.1
  obtain ⟨q1, hq1⟩ : ∃ q, Hid (inB k 0 ((n : Int) - 1) = q) := ⟨_, hide rfl⟩
  obtain ⟨q2, hq2⟩ : ∃ q, Hid (gF (-1) ms = q) := ⟨_, hide rfl⟩
  have HA : Hid (addOk t k ms = (q1 && q2 && decide (5 ≤ (rowT t k).length))) := hide (by rw [addOk, ← h.len.1, unhide hq1, unhide hq2])
  clear h hm
  go_enter Try.func9, Try.ntmps9
  go_wp2_with fail
  refine (itablecopy_any a n c t _ hn ht (unhide HX)).mono ?_
  rintro e w1 ⟨a1, c1, rfl, o1, b1⟩
  have HO := hide o1
  have HB := hide b1
  have hz1 := b1.size
  clear o1 b1
  have HFIN : ∀ w2, Hid (addOk t k ms = false) → Below w1.heap.size w1 w2 → ∃ a' c', Ending.returned (Value.slice a1 n c1) = .returned (.slice a' n c') ∧ OwG w.heap.size w2.heap.size w2 (.slice a' n c') (addT t k ms) ∧ Below w.heap.size w w2 := fun w2 hf b => ⟨a1, c1, rfl, by
    have e : addT t k ms = t := by unfold addT; rw [if_neg (by rw [unhide hf]; simp)]
    rw [e]
    exact ((unhide HO).later b).mono (Nat.le_refl _) b.size, (unhide HB).trans (b.mono hz1)⟩
  have HF := hide HFIN
  clear HFIN
  go_wp2_with fail
  refine (within_is k 0 ((n : Int) - 1) q1 (unhide hq1) _).mono ?_
  rintro e _ ⟨rfl, rfl⟩
  cases q1
  · have HA0 : Hid (addOk t k ms = false) := hide (by rw [unhide HA]; rfl)
    go_wp2
    go_ret
    exact unhide HF _ HA0 (Below.refl _ _)
  go_wp2_with fail
  refine (imarksok_any ma mn mc ms q2 hq2 _ hmn ((unhide HM).later (unhide HB))).mono ?_
  rintro e w2 ⟨rfl, b2⟩
  have HB2 := hide b2
  have hz2 := b2.size
  clear b2
  cases q2
  · have HA0 : Hid (addOk t k ms = false) := hide (by rw [unhide HA]; rfl)
    go_wp2
    go_ret
    exact unhide HF _ HA0 (unhide HB2)
  obtain ⟨kk, rfl⟩ : ∃ kk : Nat, k = (kk : Int) := by
    have h := unhide hq1
    simp [inB] at h
    exact ⟨k.toNat, by omega⟩
  have hkk : kk < n := by
    have h := unhide hq1
    simp [inB] at h
    omega
  have HBW := hide ((unhide HB).trans ((unhide HB2).mono hz1))
  obtain ⟨r, ai, ni, ci, bb, off, hr, rfl, hbw, hcap, c0, rx, -⟩ := (unhide HX).at hkk
  have d0 := ((unhide HBW).cell (p := ⟨bb, off + kk, none⟩) hbw).trans c0
  obtain ⟨q3, hq3⟩ : ∃ q, decide ((ni : Int) < 5) = q := ⟨_, rfl⟩
  have HR := hide hr
  have HNI := hide rx.len.1
  have HA1 : Hid (addOk t (kk : Int) ms = !q3) := hide (by
    rw [unhide HA, rowT_in hr, ← rx.len.1, ← hq3]
    by_cases h : (ni : Int) < 5
    · simp [h]; omega
    · simp [h]; omega)
  clear c0 rx hr
  cases q3
  rotate_left
  · have HA0 : Hid (addOk t (kk : Int) ms = false) := hide (by rw [unhide HA1]; rfl)
    clear hq1
    go_wp2
    go_ret
    exact unhide HF _ HA0 (unhide HB2)
  have hni5 : 5 ≤ ni := by simp at hq3; omega
  have HE : Hid (addT t (kk : Int) ms = t.set kk (putMs r ms)) := hide (by
    unfold addT
    rw [if_pos (by rw [unhide HA1]; rfl), rowT_in (unhide HR)]; simp)
  have HO2 := hide (((unhide HO).later (unhide HB2)).mono (Nat.le_refl _) hz2)
  clear HO HF hq1 HA HA1
  go_wp2
  clear d0
  go_loopw [34] (fun i wr => ∃ j : Nat, j ≤ mn ∧ i = .int .i64 j ∧ OwG w.heap.size w2.heap.size wr (.slice a1 n c1) (t.set kk (putMs r (ms.take j))) ∧ Below w.heap.size w wr ∧ w2.heap.size ≤ wr.heap.size) (fun i _ => mn - (intOf i).toNat)
  case atStart => exact ⟨0, Nat.zero_le _, rfl, by show OwG _ _ _ _ (t.set kk r); rw [set_same9 (unhide HR)]; exact unhide HO2, unhide HBW, Nat.le_refl _⟩
  case round =>
    obtain ⟨j, hj, rfl, hogr, hb, hsw⟩ := hrel
    have HG := hide hogr
    have HBR := hide hb
    have hsr := hb.size
    by_cases hlt : j < mn
    · obtain ⟨m, mb, moff, hm, rfl, hmb, hmc, hcm⟩ := (unhide HM).at hlt
      have hmbr : mb < wr.heap.size := by omega
      have e0 : wr.cell? ⟨mb, moff + j * 2, none⟩ = some (.int .i64 m.1) := (hb.cell (p := ⟨mb, moff + j * 2, none⟩) hmb).trans (hcm 0 (by omega))
      have e1 : wr.cell? ⟨mb, moff + j * 2 + 1, none⟩ = some (.int .i64 m.2) := (hb.cell (p := ⟨mb, moff + j * 2 + 1, none⟩) hmb).trans (hcm 1 (by omega))
      have HCM := hide hcm
      clear hcm
      obtain ⟨hm0, hm4, hi0, hi1⟩ := gF_mem (unhide hq2) j m hm
      obtain ⟨m1, m2⟩ := m
      simp only at hm0 hm4 hi0 hi1 e0 e1
      obtain ⟨id, rfl⟩ := Int.eq_ofNat_of_zero_le hm0
      have HMJ := hide hm
      clear hm hb hogr hm0
      go_upto_region 7 with fail
      obtain ⟨W, hW⟩ : ∃ q, q = wr.alloc (.cells #[.int .i64 id, .int .i64 m2] 68) := ⟨_, rfl⟩
      rw [← hW]
      have bW : Below wr.heap.size wr W := by rw [hW]; exact (Below.refl _ _).alloc (Nat.le_refl _) _
      have hWs : W.heap.size = wr.heap.size + 1 := by rw [hW]; simp
      have e2 : W.cell? ⟨wr.heap.size, 0, none⟩ = some (.int .i64 id) := by rw [hW]; simp
      have e3 : W.cell? ⟨wr.heap.size, 1, none⟩ = some (.int .i64 m2) := by rw [hW]; simp
      have hogW := (unhide HG).later bW
      have HBW2 := hide ((unhide HBR).trans (bW.mono hsr))
      clear hW e0 e1
      obtain ⟨r2, hr2⟩ : ∃ r2, putMs r (ms.take j) = r2 := ⟨_, rfl⟩
      have hl2 : r2.length = ni := by rw [← hr2, putMs_len, ← unhide HNI]
      obtain ⟨z0, hz0⟩ : ∃ z, r2[id]? = some z := ⟨_, List.getElem?_eq_getElem (by omega)⟩
      have hrt : (t.set kk (putMs r (ms.take j)))[kk]? = some r2 := by
        rw [hr2, List.getElem?_set]
        have := (List.getElem?_eq_some_iff.1 (unhide HR)).1
        simp [this]
      obtain ⟨ob, g, cr, rfl, hc1, hob, hgb, hlo, hghi, hog, hcr, f0, f1, ff, hput⟩ := hogW.cell hrt hz0
      rw [hl2] at f0 hcr
      have HP := hide (hput (max z0 m2))
      obtain ⟨z, hz⟩ : ∃ z, Hid (max z0 m2 = z) := ⟨_, hide rfl⟩
      rw [unhide hz] at HP
      have HID := hide hz0
      have HR2 := hide hr2
      have hid5 : id < ni := by omega
      have hidc : id < cr := by omega
      have hmg : wr.heap.size ≠ g := by omega
      clear hogW hrt hput hz0 hr2 hl2 bW
      refine wp_region_noPanic ?_
      refine wp_region_held_drew (S := (fun W => W.cell? ⟨ob, kk, none⟩ = some (.slice (some ⟨g, 0, none⟩) ni cr) ∧ W.cell? ⟨wr.heap.size, 0, none⟩ = some (.int .i64 id) ∧ W.cell? ⟨wr.heap.size, 1, none⟩ = some (.int .i64 m2))) (by kernel_rfl) ?_ (fun hHeld => ?_)
      · (try dsimp only); exact ⟨f0, e2, e3⟩
      refine wpAnyH_take (i := 0) (v := ?v0) (by (simp only [List.getElem?_toArray, List.getElem?_cons_succ, List.getElem?_cons_zero]; rfl)) (by kernel_rfl) (by kernel_rfl) (by kernel_rfl) (fun _ _ _ h => h) (Or.inl ⟨by rfl, ?hy0⟩) (by assumption) ?rest0
      case hy0 => (intro w hSw; (try dsimp only at hSw); go_simp <;> with_reducible rfl)
      (try simp only [Act.put, List.setIfInBounds_toArray, List.set_cons_zero, List.set_cons_succ])
      refine wpAnyH_take (i := 1) (v := ?v1) (by (simp only [List.getElem?_toArray, List.getElem?_cons_succ, List.getElem?_cons_zero]; rfl)) (by kernel_rfl) (by kernel_rfl) (by kernel_rfl) (fun _ _ _ h => h) (Or.inl ⟨by rfl, ?hy1⟩) (by assumption) ?rest1
      case hy1 => (intro w hSw; (try dsimp only at hSw); go_simp <;> with_reducible rfl)
      (try simp only [Act.put, List.setIfInBounds_toArray, List.set_cons_zero, List.set_cons_succ])
      refine wpAnyH_take (i := 2) (v := ?v2) (by (simp only [List.getElem?_toArray, List.getElem?_cons_succ, List.getElem?_cons_zero]; rfl)) (by kernel_rfl) (by kernel_rfl) (by kernel_rfl) (fun _ _ _ h => h) (Or.inl ⟨by rfl, ?hy2⟩) (by assumption) ?rest2
      case hy2 => (intro w hSw; (try dsimp only at hSw); go_simp <;> with_reducible rfl)
      (try simp only [Act.put, List.setIfInBounds_toArray, List.set_cons_zero, List.set_cons_succ])
      refine wpAnyH_take (i := 3) (v := ?v3) (by (simp only [List.getElem?_toArray, List.getElem?_cons_succ, List.getElem?_cons_zero]; rfl)) (by kernel_rfl) (by kernel_rfl) (by kernel_rfl) (fun _ _ _ h => h) (Or.inl ⟨by rfl, ?hy3⟩) (by assumption) ?rest3
      case hy3 => (intro w hSw; (try dsimp only at hSw); go_simp <;> with_reducible rfl)
      (try simp only [Act.put, List.setIfInBounds_toArray, List.set_cons_zero, List.set_cons_succ])
      refine wpAnyH_take (i := 4) (v := ?v4) (by (simp only [List.getElem?_toArray, List.getElem?_cons_succ, List.getElem?_cons_zero]; rfl)) (by kernel_rfl) (by kernel_rfl) (by kernel_rfl) (fun _ _ _ h => h) (Or.inl ⟨by rfl, ?hy4⟩) (by assumption) ?rest4
      case hy4 => (intro w hSw; (try dsimp only at hSw); go_simp <;> with_reducible rfl)
      (try simp only [Act.put, List.setIfInBounds_toArray, List.set_cons_zero, List.set_cons_succ])
      refine wpAnyH_take (i := 5) (v := ?v5) (by (simp only [List.getElem?_toArray, List.getElem?_cons_succ, List.getElem?_cons_zero]; rfl)) (by kernel_rfl) (by kernel_rfl) (by kernel_rfl) (fun _ _ _ h => h) (Or.inl ⟨by rfl, ?hy5⟩) (by assumption) ?rest5
      case hy5 => (intro w hSw; (try dsimp only at hSw); go_simp <;> with_reducible rfl)
      (try simp only [Act.put, List.setIfInBounds_toArray, List.set_cons_zero, List.set_cons_succ])
      refine wpAnyH_take (i := 6) (v := ?v6) (by (simp only [List.getElem?_toArray, List.getElem?_cons_succ, List.getElem?_cons_zero]; rfl)) (by kernel_rfl) (by kernel_rfl) (by kernel_rfl) (fun _ _ _ h => h) (Or.inl ⟨by rfl, ?hy6⟩) (by assumption) ?rest6
      case hy6 => (intro w hSw; (try dsimp only at hSw); go_simp <;> with_reducible rfl)
      (try simp only [Act.put, List.setIfInBounds_toArray, List.set_cons_zero, List.set_cons_succ])
      refine wpAnyH_take (i := 7) (v := ?v7) (by (simp only [List.getElem?_toArray, List.getElem?_cons_succ, List.getElem?_cons_zero]; rfl)) (by kernel_rfl) (by kernel_rfl) (by kernel_rfl) (fun _ _ _ h => h) (Or.inl ⟨by rfl, ?hy7⟩) (by assumption) ?rest7
      case hy7 => (intro w hSw; (try dsimp only at hSw); go_simp <;> with_reducible rfl)
      (try simp only [Act.put, List.setIfInBounds_toArray, List.set_cons_zero, List.set_cons_succ])
      refine wpAnyH_take (i := 8) (v := ?v8) (by (simp only [List.getElem?_toArray, List.getElem?_cons_succ, List.getElem?_cons_zero]; rfl)) (by kernel_rfl) (by kernel_rfl) (by kernel_rfl) (fun _ _ _ h => h) (Or.inl ⟨by rfl, ?hy8⟩) (by assumption) ?rest8
      case hy8 => (intro w hSw; (try dsimp only at hSw); go_simp <;> with_reducible rfl)
      (try simp only [Act.put, List.setIfInBounds_toArray, List.set_cons_zero, List.set_cons_succ])
      refine wpAnyH_take (i := 9) (v := ?v9) (by (simp only [List.getElem?_toArray, List.getElem?_cons_succ, List.getElem?_cons_zero]; rfl)) (by kernel_rfl) (by kernel_rfl) (by kernel_rfl) (fun _ _ _ h => h) (Or.inl ⟨by rfl, ?hy9⟩) (by assumption) ?rest9
      case hy9 => (intro w hSw; (try dsimp only at hSw); go_simp <;> with_reducible rfl)
      (try simp only [Act.put, List.setIfInBounds_toArray, List.set_cons_zero, List.set_cons_succ])
      refine wpAnyH_take (i := 10) (v := ?v10) (by (simp only [List.getElem?_toArray, List.getElem?_cons_succ, List.getElem?_cons_zero]; rfl)) (by kernel_rfl) (by kernel_rfl) (by kernel_rfl) (fun _ _ _ h => h) (Or.inl ⟨by rfl, ?hy10⟩) (by assumption) ?rest10
      case hy10 => (intro w hSw; (try dsimp only at hSw); go_simp <;> with_reducible rfl)
      (try simp only [Act.put, List.setIfInBounds_toArray, List.set_cons_zero, List.set_cons_succ])
      refine wpAnyH_take (i := 11) (v := ?v11) (by (simp only [List.getElem?_toArray, List.getElem?_cons_succ, List.getElem?_cons_zero]; rfl)) (by kernel_rfl) (by kernel_rfl) (by kernel_rfl) (fun _ _ _ h => h) (Or.inl ⟨by rfl, ?hy11⟩) (by assumption) ?rest11
      case hy11 => (intro w hSw; (try dsimp only at hSw); go_simp <;> with_reducible rfl)
      (try simp only [Act.put, List.setIfInBounds_toArray, List.set_cons_zero, List.set_cons_succ])
      refine wpAnyH_take (i := 12) (v := ?v12) (by (simp only [List.getElem?_toArray, List.getElem?_cons_succ, List.getElem?_cons_zero]; rfl)) (by kernel_rfl) (by kernel_rfl) (by kernel_rfl) (fun _ _ _ h => h) (Or.inl ⟨by rfl, ?hy12⟩) (by assumption) ?rest12
      case hy12 => (intro w hSw; (try dsimp only at hSw); go_simp <;> with_reducible rfl)
      (try simp only [Act.put, List.setIfInBounds_toArray, List.set_cons_zero, List.set_cons_succ])
      refine wpAnyH_take (i := 14) (v := ?v14) (by (simp only [List.getElem?_toArray, List.getElem?_cons_succ, List.getElem?_cons_zero]; rfl)) (by kernel_rfl) (by kernel_rfl) (by kernel_rfl) (fun _ _ _ h => h) (Or.inl ⟨by rfl, ?hy14⟩) (by assumption) ?rest14
      case hy14 => (intro w hSw; (try dsimp only at hSw); go_simp <;> with_reducible rfl)
      (try simp only [Act.put, List.setIfInBounds_toArray, List.set_cons_zero, List.set_cons_succ])
      refine wpAnyH_take (i := 15) (v := ?v15) (by (simp only [List.getElem?_toArray, List.getElem?_cons_succ, List.getElem?_cons_zero]; rfl)) (by kernel_rfl) (by kernel_rfl) (by kernel_rfl) (fun _ _ _ h => h) (Or.inl ⟨by rfl, ?hy15⟩) (by assumption) ?rest15
      case hy15 => (intro w hSw; (try dsimp only at hSw); go_simp <;> with_reducible rfl)
      (try simp only [Act.put, List.setIfInBounds_toArray, List.set_cons_zero, List.set_cons_succ])
      refine wpAnyH_ready (rs := [13]) (by kernel_rfl) (by simp) ?_
      refine AllReadyH.cons (by (simp only [List.getElem?_toArray, List.getElem?_cons_succ, List.getElem?_cons_zero]; rfl)) (fun K hK => ?_) AllReadyH.nil
      go_simp
      refine hK.out _ _ ?_ (fun hHeldN => ?_)
      · (try dsimp only); exact hHeld
      clear hK K hHeld
      have hHeld := hHeldN; clear hHeldN
      (try simp only [Act.put, List.setIfInBounds_toArray, List.set_cons_zero, List.set_cons_succ])
      refine wpAnyH_ready (rs := [16]) (by kernel_rfl) (by simp) ?_
      refine AllReadyH.cons (by (simp only [List.getElem?_toArray, List.getElem?_cons_succ, List.getElem?_cons_zero]; rfl)) (fun K hK => ?_) AllReadyH.nil
      go_simp
      refine (greater_any z0 m2 z hz _).mono ?_
      rintro e _ ⟨rfl, rfl⟩
      (try go_wp2_with fail)
      refine hK.out _ _ ?_ (fun hHeldN => ?_)
      · (try dsimp only); exact hHeld
      clear hK K hHeld
      have hHeld := hHeldN; clear hHeldN
      (try simp only [Act.put, List.setIfInBounds_toArray, List.set_cons_zero, List.set_cons_succ])
      refine wpAnyH_take (i := 17) (v := ?v17) (by (simp only [List.getElem?_toArray, List.getElem?_cons_succ, List.getElem?_cons_zero]; rfl)) (by kernel_rfl) (by kernel_rfl) (by kernel_rfl) (fun _ _ _ h => h) (Or.inl ⟨by rfl, ?hy17⟩) (by assumption) ?rest17
      case hy17 => (intro w hSw; (try dsimp only at hSw); go_simp <;> with_reducible rfl)
      (try simp only [Act.put, List.setIfInBounds_toArray, List.set_cons_zero, List.set_cons_succ])
      refine wpAnyH_ready (rs := [18]) (by kernel_rfl) (by simp) ?_
      refine AllReadyH.cons (by (simp only [List.getElem?_toArray, List.getElem?_cons_succ, List.getElem?_cons_zero]; rfl)) (fun K hK => ?_) AllReadyH.nil
      go_simp
      refine hK.out _ _ ?_ (fun hHeldN => ?_)
      · (try dsimp only); exact ⟨keepC hog hHeld.1, keepC hmg hHeld.2.1, keepC hmg hHeld.2.2⟩
      clear hK K hHeld
      have hHeld := hHeldN; clear hHeldN
      (try simp only [Act.put, List.setIfInBounds_toArray, List.set_cons_zero, List.set_cons_succ])
      refine wpAnyH_done (by kernel_rfl) ?_ _
      refine NoPanic.normal ?_
      clear hHeld
      have HSTEP : Hid (t.set kk (putMs r (ms.take (j + 1))) = (t.set kk (putMs r (ms.take j))).set kk (r2.set id z)) := hide (by
        rw [putMs_take (unhide HMJ), unhide HR2, List.set_set, ← unhide hz]
        congr 1
        unfold putM
        dsimp only
        rw [show (id : Int).toNat = id from by omega, nAt_in (unhide HID)])
      have HG2 : Hid (OwG w.heap.size w2.heap.size (W.setCell ⟨g, id, none⟩ (.int .i64 z)).drew (.slice (some ⟨ob, 0, none⟩) n c1) (t.set kk (putMs r (ms.take (j + 1))))) := by
        rw [unhide HSTEP]
        exact hide ((unhide HP).later ((Below.refl _ _).drew))
      have HB3 := hide (((unhide HBW2).setCell (p := ⟨g, id, none⟩) hlo (.int .i64 z)).drew)
      have hs3 : w2.heap.size ≤ ((W.setCell ⟨g, id, none⟩ (.int .i64 z)).drew).heap.size := by
        show w2.heap.size ≤ (W.setCell ⟨g, id, none⟩ (.int .i64 z)).heap.size
        simp; omega
      clear HP HBR HBW2 HG HSTEP
      go_wp2
      go_roundw
      case rel => exact ⟨j + 1, by omega, by go_num, unhide HG2, unhide HB3, hs3⟩
      case measure => simp [intOf]; omega
    · have HFG : Hid (OwG w.heap.size wr.heap.size wr (.slice a1 n c1) (addT t (kk : Int) ms)) := hide (by
        rw [unhide HE]
        have h := hogr
        rw [List.take_of_length_le (by have := (unhide HM).len.1; omega)] at h
        exact h.mono (Nat.le_refl _) hsw)
      clear hogr hb
      go_wp2
      go_ret
      exact ⟨_, _, rfl, unhide HFG, unhide HBR⟩
end Go.Proofs.Ytighiahppjekeaa
