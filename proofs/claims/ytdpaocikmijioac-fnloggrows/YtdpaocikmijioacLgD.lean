/-
  A state in memory of one's own: the program's. No statement is proved here.
-/
import Derived.Test.YtdpaocikmijioacLgC
namespace Go.Proofs.Ytdpaocikmijioac
open Go.RowKit

theorem oneFs (fs : List Flr) : ∀ u ∈ fs.flatMap encF, u.oneCell' = true := by
  intro u hu
  obtain ⟨x, -, hx⟩ := List.mem_flatMap.1 hu
  exact oneF x u hx
set_option maxHeartbeats 8000000 in
set_option maxRecDepth 100000 in
theorem istatecopy_any (ai : Option Addr) (ni ci : Nat) (xs : List Itm) (hS : Sml xs) (af : Option Addr) (nf cf : Nat) (fs : List Flr) (w : World) (hni : ni ≤ 2000000) (hnf : nf ≤ 2000000) (hx : Rw encI 6 w (.slice ai ni ci) xs) (hf : Rw encF 2 w (.slice af nf cf) fs) :
    Calls Try.prog 83 #[.agg #[.slice ai ni ci, .slice af nf cf]] w fun e w' => ∃ a1 c1 a2 c2, e = .returned (.agg #[.slice a1 ni c1, .slice a2 nf c2]) ∧ OwI w.heap.size w' (.slice a1 ni c1) xs ∧ OwF w.heap.size w' (.slice a2 nf c2) fs ∧ Below w.heap.size w w' := by
  obtain ⟨i0, hi, hz0, hz1, hz2⟩ := info_parts Try.infoItem
  obtain ⟨i1, gi, gz0, gz1, gz2⟩ := info_parts Try.infoFloor
  have hb1 : i0.bytes * ni ≤ 281474976710656 := by rw [hz2]; omega
  have hb2 : i1.bytes * nf ≤ 281474976710656 := by rw [gz2]; omega
  have hm1 : ni ≤ maxLen := by unfold maxLen; omega
  have hm2 : nf ≤ maxLen := by unfold maxLen; omega
  obtain ⟨OI, mk1, po1⟩ := made_obj encI_len (by omega) 27 75 i0 (.agg #[.int .i64 0, .int .i64 0, .int .i64 0, .int .i64 0, .int .i64 0, .string ⟨#[]⟩]) zeroI rfl Try.underlying27 hi hz0 hz1 ni hb1 hm1
  obtain ⟨OF, mk2, po2⟩ := made_obj encF_len (by omega) 28 78 i1 (.agg #[.int .i64 0, .int .i64 0]) zeroF rfl Try.underlying28 gi gz0 gz1 nf hb2 hm2
  have PO1 := hide po1
  have PO2 := hide po2
  clear po1 po2
  have HX := hide hx
  have HF := hide hf
  have HS := hide hS
  have LX := hide hx.len.1
  have LF := hide hf.len.1
  have HZ := hide hz2
  have GZ := hide gz2
  clear hx hf hS hz2 gz2
  go_enter Try.func83, Try.ntmps83
  go_upto_region 1 with fail
  obtain ⟨V, hV⟩ : ∃ V, V = (w.alloc (.cells #[.slice ai ni ci, .slice af nf cf] 30)).alloc StZ := ⟨_, rfl⟩
  have bV : Below w.heap.size w V := by rw [hV]; exact ((Below.refl w.heap.size w).alloc (Nat.le_refl _) _).alloc (by simp) _
  have kS : V.heap[w.heap.size]? = some (.cells #[.slice ai ni ci, .slice af nf cf] 30 (0, 0)) := by rw [hV]; exact lowB2 w _ _
  have kR : V.heap[w.heap.size + 1]? = some StZ := by rw [hV]; exact newB2 w _ _
  rw [← hV]
  have zV : w.heap.size + 1 < V.heap.size := (Array.getElem?_eq_some_iff.1 kR).1
  have KS := hide (And.intro kS (show w.heap.size < V.heap.size by omega))
  have KR := hide kR
  have BV := hide bV
  clear hV kS kR bV
  obtain ⟨s0, s1, -⟩ := blk_cells2 (unhide KS).1
  have zs := (unhide KS).2
  go_cut [3] from 6 to 14 (fun p wx => ∃ (g : Nat) (a1 a2 : Option Addr), p = .pointer (some ⟨g, 0, none⟩) ∧ Fin V wx g (.slice a1 ni ni) (.slice a2 nf nf) (List.replicate ni zeroI) (List.replicate nf zeroF))
  case first =>
    go_region
    all_goals
      go_wp2_with fail
      go_meet
      first
        | with_reducible exact ⟨_, _, _, rfl, Fin.of (b3d V _ _ _) (lowB3d V _ _ _) (by omega) (midB3d V _ _ _) (by omega) (newB3d V _ _ _) (by omega) PO1 PO2⟩
        | with_reducible exact ⟨_, _, _, rfl, Fin.of (b3d V _ _ _) (lowB3d V _ _ _) (by omega) (newB3d V _ _ _) (by omega) (midB3d V _ _ _) (by omega) PO1 PO2⟩
        | with_reducible exact ⟨_, _, _, rfl, Fin.of (b3d V _ _ _) (midB3d V _ _ _) (by omega) (lowB3d V _ _ _) (by omega) (newB3d V _ _ _) (by omega) PO1 PO2⟩
        | with_reducible exact ⟨_, _, _, rfl, Fin.of (b3d V _ _ _) (midB3d V _ _ _) (by omega) (newB3d V _ _ _) (by omega) (lowB3d V _ _ _) (by omega) PO1 PO2⟩
        | with_reducible exact ⟨_, _, _, rfl, Fin.of (b3d V _ _ _) (newB3d V _ _ _) (by omega) (lowB3d V _ _ _) (by omega) (midB3d V _ _ _) (by omega) PO1 PO2⟩
        | with_reducible exact ⟨_, _, _, rfl, Fin.of (b3d V _ _ _) (newB3d V _ _ _) (by omega) (midB3d V _ _ _) (by omega) (lowB3d V _ _ _) (by omega) PO1 PO2⟩
  case rest =>
    obtain ⟨g, a1, a2, rfl, hfin⟩ := hcut
    have bc := (unhide BV).trans (hfin.bel.mono (unhide BV).size)
    have kS := (hfin.bel.block _ (unhide KS).2).trans (unhide KS).1
    have kR := (hfin.bel.block _ zV).trans (unhide KR)
    have gg := hfin.ge
    have gl := hfin.lt
    have KG := hide hfin.blk
    have O1 := hide (hfin.o1.base (base' := w.heap.size + 1 + 1) (by omega))
    have O2 := hide (hfin.o2.base (base' := w.heap.size + 1 + 1) (by omega))
    obtain ⟨t0, t1, -⟩ := blk_cells2 kS
    have KS2 := hide kS
    have KR2 := hide kR
    have BC := hide bc
    have zsc : w.heap.size < wc.heap.size := by omega
    clear hfin kS kR bc s0 s1 KS KR BV zs
    go_wp2
    clear t0 t1
    go_loopw [18] (fun i wr => ∃ k : Nat, k ≤ ni ∧ i = .int .i64 k ∧ Below w.heap.size w wr ∧ wr.heap[w.heap.size]? = some (.cells #[.slice ai ni ci, .slice af nf cf] 30 (0, 0)) ∧ wr.heap[w.heap.size + 1]? = some StZ ∧ wr.heap[g]? = some (.cells #[.slice a1 ni ni, .slice a2 nf nf] 30 (0, 0)) ∧ OwI (w.heap.size + 1 + 1) wr (.slice a1 ni ni) (xs.take k ++ List.replicate (xs.length - k) zeroI) ∧ OwF (w.heap.size + 1 + 1) wr (.slice a2 nf nf) (List.replicate nf zeroF)) (fun i _ => ni - (intOf i).toNat)
    case atStart => exact ⟨0, Nat.zero_le _, rfl, unhide BC, unhide KS2, unhide KR2, unhide KG, by rw [show xs.take 0 ++ List.replicate (xs.length - 0) zeroI = List.replicate ni zeroI by rw [← unhide LX]; simp]; exact unhide O1, unhide O2⟩
    case round =>
      obtain ⟨k, hk, rfl, hb, hks, hkr, hkg, ho1, ho2⟩ := hrel
      clear BC KS2 KR2 KG O1 O2
      have hzs : w.heap.size < wr.heap.size := (Array.getElem?_eq_some_iff.1 hks).1
      have hzr : w.heap.size + 1 < wr.heap.size := (Array.getElem?_eq_some_iff.1 hkr).1
      have hzg : g < wr.heap.size := (Array.getElem?_eq_some_iff.1 hkg).1
      by_cases hlt : k < ni
      · obtain ⟨x, b, off, hx, rfl, hbw, hcap, hc⟩ := (unhide HX).at hlt
        obtain ⟨c0, c1, c2, c3, c4, c5⟩ := item_cells (w := wr) (b := b) (off := off) (k := k) (x := x) (fun j hj => (hb.cell (p := ⟨b, off + k * 6 + j, none⟩) hbw).trans (hc j hj))
        have hsx := unhide HS k x hx
        have hbw2 : b < wr.heap.size := Nat.lt_of_lt_of_le hbw hb.size
        have HB := hide hb
        have HKS := hide hks
        have HKR := hide hkr
        have HKG := hide hkg
        have HO1 := hide ho1
        have HO2 := hide ho2
        have HX1 := hide hx
        clear hb hks hkr hkg ho1 ho2 hx hc
        go_upto_region 5 with fail
        clear c0 c1 c2 c3 c4 c5
        obtain ⟨Y, hY⟩ : ∃ Y, Y = wr.alloc (.cells #[.int .i64 x.1, .int .i64 x.2.1, .int .i64 x.2.2.1, .int .i64 x.2.2.2.1, .int .i64 x.2.2.2.2.1, .string x.2.2.2.2.2] 75) := ⟨_, rfl⟩
        have bY : Below wr.heap.size wr Y := by rw [hY]; exact (Below.refl wr.heap.size wr).alloc (Nat.le_refl _) _
        have kY : Y.heap[wr.heap.size]? = some (.cells #[.int .i64 x.1, .int .i64 x.2.1, .int .i64 x.2.2.1, .int .i64 x.2.2.2.1, .int .i64 x.2.2.2.2.1, .string x.2.2.2.2.2] 75 (0, 0)) := by rw [hY]; exact heap_alloc_new _ _
        rw [← hY]
        have zY : wr.heap.size < Y.heap.size := (Array.getElem?_eq_some_iff.1 kY).1
        have CV : Hid (Cs5 w Y g wr.heap.size (.slice (some ⟨b, off, none⟩) ni ci) (.slice af nf cf) (.slice a1 ni ni) (.slice a2 nf nf) x) := hide ⟨(unhide HB).trans (bY.mono (unhide HB).size), (bY.block _ hzs).trans (unhide HKS), (bY.block _ hzg).trans (unhide HKG), kY⟩
        have CD := Cs5.drewH CV
        have hHlt := (fun h (e : (Value.slice a1 ni ni).ownBlock = some h) => (World.ownsRow.lt (unhide HO1) h e).2)
        have HO1Y := hide ((unhide HO1).later bY)
        have HO2Y := hide ((unhide HO2).later bY)
        have HKRY := hide ((bY.block _ hzr).trans (unhide HKR))
        clear hY bY kY HB HKS HKG HO1 HO2 HKR
        obtain ⟨h, ha1, hhl⟩ : ∃ h, a1 = some ⟨h, 0, none⟩ ∧ w.heap.size + 1 + 1 ≤ h := by
          rcases (unhide HO1Y).2 with ⟨hv, h00⟩ | ⟨h, cap', cur, hv, hlo, -⟩
          · have := unhide LX; rw [fill_len _ _ _ (by omega)] at h00; omega
          · simp only [Value.slice.injEq] at hv
            exact ⟨h, hv.1, hlo⟩
        subst ha1
        have hfl : (xs.take k ++ List.replicate (xs.length - k) zeroI).length = ni := by rw [fill_len _ _ _ (by have := unhide LX; omega)]; exact (unhide LX).symm
        have HFL := hide hfl
        have ngh := own_ne (show Y.ownsRow (w.heap.size + 1 + 1) 75 6 (.slice (some ⟨h, 0, none⟩) ni ni) _ _ from unhide HO1Y) (unhide CV).kg (by decide)
        have nxh : wr.heap.size ≠ h := by
          have := hHlt h rfl
          omega
        have n1 : g ≠ h := fun e => ngh (by rw [e]; rfl)
        have HO1D := hide ((unhide HO1Y).later ((Below.refl _ _).drew))
        clear hfl ngh
        go_region_held3 (fun W => Below w.heap.size w W ∧ W.cell? ⟨g, 0, none⟩ = some (.slice (some ⟨h, 0, none⟩) ni ni) ∧ W.cell? ⟨g, 1, none⟩ = some (.slice a2 nf nf) ∧ W.cell? ⟨wr.heap.size, 0, none⟩ = some (.int .i64 x.1) ∧ W.cell? ⟨wr.heap.size, 1, none⟩ = some (.int .i64 x.2.1) ∧ W.cell? ⟨wr.heap.size, 2, none⟩ = some (.int .i64 x.2.2.1) ∧ W.cell? ⟨wr.heap.size, 3, none⟩ = some (.int .i64 x.2.2.2.1) ∧ W.cell? ⟨wr.heap.size, 4, none⟩ = some (.int .i64 x.2.2.2.2.1) ∧ W.cell? ⟨wr.heap.size, 5, none⟩ = some (.string x.2.2.2.2.2))
          (first | (with_reducible exact kCs5 CV) | (with_reducible exact kCs5 CD) | (with_reducible exact kCs5 CA) | (with_reducible exact kCs5 (hide ((unhide CA).set (by omega) (by omega) n1 nxh))))
          (first | (go_at_call 99; refine (icopyI_any x (by omega) _).mono ?_; rintro e w6 ⟨rfl, b6⟩; (first | (with_reducible have CA := hide ((unhide CD).later b6); have OA := hide ((unhide HO1D).later b6)) | (with_reducible have CA := hide ((unhide CV).later b6); have OA := hide ((unhide HO1Y).later b6))); have zA : Y.heap.size ≤ w6.heap.size := b6.size; have b6Y : Below Y.heap.size Y w6 := (by first | exact up0 b6 | exact b6); have B6 := hide b6Y; obtain ⟨y0, y1, y2, y3, y4, y5, q0, q1, q2, q3, q4, q5, qf⟩ := own_cells6 (show w6.ownsRow (w.heap.size + 1 + 1) 75 6 (.slice (some ⟨h, 0, none⟩) ni ni) ni _ from by have hh := unhide OA; unfold OwI Ow at hh; rw [unhide HFL] at hh; exact hh) hlt; clear b6 b6Y))
        have R1 := (unhide OA).put (by omega) encI_len (unhide HFL).symm k hlt x
        rw [fill_set xs zeroI k x (unhide HX1)] at R1
        have HR1 := hide R1
        have CE := hide ((unhide CA).set (o := k * 6) (h := h) (c0 := .int .i64 x.1) (c1 := .int .i64 x.2.1) (c2 := .int .i64 x.2.2.1) (c3 := .int .i64 x.2.2.2.1) (c4 := .int .i64 x.2.2.2.2.1) (c5 := .string x.2.2.2.2.2) (by omega) (by omega) n1 nxh)
        have HKR6 := hide (set6_far (h := h) (o := k * 6) (v0 := .int .i64 x.1) (v1 := .int .i64 x.2.1) (v2 := .int .i64 x.2.2.1) (v3 := .int .i64 x.2.2.2.1) (v4 := .int .i64 x.2.2.2.2.1) (v5 := .string x.2.2.2.2.2) (((unhide B6).block _ (by omega)).trans (unhide HKRY)) (show w.heap.size + 1 ≠ h by omega))
        have HO26 := hide (((unhide HO2Y).later (unhide B6)).otherT (T := 75) (b := some h) (fun q e => by cases e; exact ow_blkI (unhide OA)) (by decide) (setW_own (encI x) (show w6.ownsRow (w.heap.size + 1 + 1) 75 6 (.slice (some ⟨h, 0, none⟩) ni ni) ni _ from by have hh := unhide OA; unfold OwI Ow at hh; rw [unhide HFL] at hh; exact hh) (k * 6)).2)
        clear R1 HO1D HO1Y HO2Y CV CD CA OA HKRY B6 HFL q0 q1 q2 q3 q4 q5 qf
        go_wp2
        go_roundw
        case rel => exact ⟨k + 1, by omega, by go_num, (unhide CE).bel, (unhide CE).ks, unhide HKR6, (unhide CE).kg, unhide HR1, unhide HO26⟩
        case measure => simp [intOf]; omega
      · have hkn : k = ni := by omega
        obtain ⟨t0, t1, tf⟩ := blk_cells2 hks
        obtain ⟨g0, g1, gf⟩ := blk_cells2 hkg
        have HB := hide hb
        have HKR := hide hkr
        have HKG := hide hkg
        have HO1 : Hid (OwI (w.heap.size + 1 + 1) wr (.slice a1 ni ni) xs) := by
          have h := ho1
          rw [List.take_of_length_le (by have := unhide LX; omega), show xs.length - k = 0 by have := unhide LX; omega] at h
          simpa using hide h
        have HO2 := hide ho2
        have RF := hide ((unhide HF).later hb)
        have hlz : (List.replicate nf zeroF).length = fs.length := by rw [List.length_replicate]; exact unhide LF
        clear hb hks hkr hkg ho1 ho2 tf gf
        obtain ⟨w9, hrun, o9, gr9⟩ := copy_own (P := Try.prog) encF_len (by omega) 78 28 i1 Try.underlying28 gi gz1 wr (w.heap.size + 1 + 1) (.slice a2 nf nf) (.slice af nf cf) (List.replicate nf zeroF) fs nf (unhide LF) (oneFs fs) (unhide HO2) (unhide RF) hlz 3
        have O9 := hide o9
        have G9 := hide gr9
        clear o9 gr9
        have nR := own_ne (show wr.ownsRow (w.heap.size + 1 + 1) 78 2 (.slice a2 nf nf) _ _ from unhide HO2) (unhide HKR) (by decide)
        have nG := own_ne (show wr.ownsRow (w.heap.size + 1 + 1) 78 2 (.slice a2 nf nf) _ _ from unhide HO2) (unhide HKG) (by decide)
        have kr9 := ((unhide G9).block _ hzr (fun e => nR e.symm)).trans (unhide HKR)
        have kg9 := ((unhide G9).block _ hzg (fun e => nG e.symm)).trans (unhide HKG)
        obtain ⟨p0, p1, pf⟩ := blk_cells2 kr9
        obtain ⟨j0, j1, jf⟩ := blk_cells2 kg9
        have zr9 : w.heap.size + 1 < w9.heap.size := (Array.getElem?_eq_some_iff.1 kr9).1
        have zg9 : g < w9.heap.size := (Array.getElem?_eq_some_iff.1 kg9).1
        have HB9 := hide ((Trn.of_grown (unhide G9)).below (unhide HB) (unhide HB).size (fun i q => by have := (World.ownsRow.lt (unhide HO2) _ q).1; omega))
        have hap := owns_apart (unhide HO2) (unhide HO1) (by decide)
        have HO19 := hide ((Trn.of_grown (unhide G9)).own (unhide HO1) (fun i hi e => by rcases hap with h | h; rw [h] at e; cases e; exact h (e.trans hi.symm)))
        clear kr9 kg9 nR nG hap G9 HO1 HO2 HB HKR HKG RF
        go_wp2
        exact bodyPost_ret (v := .agg #[.slice a1 ni ni, .slice a2 nf nf]) (by simp [results, Try.results83, go_sem, p0, p1]) rfl ⟨a1, ni, a2, nf, rfl, Ow.base (((unhide HO19).set ⟨w.heap.size + 1, 0, none⟩ (by simp) _).set ⟨w.heap.size + 1, 1, none⟩ (by simp) _) (by omega), Ow.base (((unhide O9).set ⟨w.heap.size + 1, 0, none⟩ (by simp) _).set ⟨w.heap.size + 1, 1, none⟩ (by simp) _) (by omega), ((unhide HB9).setCell (p := ⟨w.heap.size + 1, 0, none⟩) (by simp) _).setCell (p := ⟨w.heap.size + 1, 1, none⟩) (by simp) _⟩
end Go.Proofs.Ytdpaocikmijioac
