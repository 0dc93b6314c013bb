/-
  The program's reader: lists. No statement is proved here.
-/
import Derived.Test.YtbajnnpihjmjmabRdJ
import Derived.Test.YtbajnnpihjmjmabStA
import Derived.Test.YtbajnnpihjmjmabApp2
import Derived.Test.YtbajnnpihjmjmabStT
import Derived.Test.YtbajnnpihjmjmabIntS
import Derived.ScopeJumps
import Derived.WalkMore
import Derived.Laws.EntriesVeiled
namespace Go.Proofs.Ytbajnnpihjmjmab
open Go.RowKit

theorem riN_bd {xs : List Int} {c : Cu} (hbd : ∀ z ∈ xs, 0 ≤ z ∧ z ≤ 255) : 0 ≤ (riN xs c).1 ∧ (riN xs c).1 ≤ 2147483647 := by
  unfold riN
  split
  · rename_i n q h
    have := getN_bd _ _ _ _ hbd h
    exact ⟨this.1, this.2.1⟩
  · exact ⟨by simp, by simp⟩
theorem owF_far {base g : Nat} {w W : World} {E : TypeId} {k : Nat} {α : Type} {enc : α → List Value} {v : Value} {ms : List α} (h : Ow enc k E base w v ms) (hg : w.grownBy W (some g)) (hb : g < base) : Ow enc k E base W v ms :=
  (Trn.of_grown hg).own h (fun i q e => by cases e; have := (World.ownsRow.lt h _ q).1; omega)
theorem Ri.row {w X Y : World} {g : Nat} {v u : Value} {xs : List Int} {c0 c : Cu} {E : TypeId} {k : Nat} {α : Type} {enc : α → List Value} {ms : List α} (h0 : Ri w g v xs c0) (hg : w.grownBy X (some g)) (h : Ri X g v xs c) (ho : Ow enc k E w.heap.size X u ms) (hG : X.grownBy Y u.ownBlock) : Ri Y g v xs c ∧ w.grownBy Y (some g) := by
  have hY : w.grownBy Y (some g) := ⟨hG.os.trans hg.os, hG.tape.trans hg.tape, hG.output.trans hg.output, Nat.le_trans hg.size hG.size, fun i hi hne => (hG.block i (Nat.lt_of_lt_of_le hi hg.size) (fun q => by have := (World.ownsRow.lt ho i q.symm).1; omega)).trans (hg.block i hi hne)⟩
  have hl := h0.lt
  exact ⟨h0.of hY ((hG.block g h.lt (fun q => by have := (World.ownsRow.lt ho g q.symm).1; omega)).trans h.blk) h.win, hY⟩
def sliceLen : Value → Nat
  | .slice _ n _ => n
  | _ => 0
set_option maxHeartbeats 4000000 in
set_option maxRecDepth 100000 in
theorem rlistI_any (g : Nat) (v : Value) (xs : List Int) (c : Cu) (w : World) (hlen : xs.length ≤ 140737488351232) (hbd : ∀ z ∈ xs, 0 ≤ z ∧ z ≤ 255) (h : Ri w g v xs c) :
    Calls Try.prog 58 #[.pointer (some ⟨g, 0, none⟩), .int .i64 5, .func (.func 59) #[] #[]] w fun e w' => ∃ a n cap, e = .returned (.slice a n cap) ∧ Ow encI 6 60 w.heap.size w' (.slice a n cap) (lsR xs 5 (riI xs) c).1 ∧ Ri w' g v xs (lsR xs 5 (riI xs) c).2 ∧ w.grownBy w' (some g) := by
  obtain ⟨i0, hi, hz0, hz1, hz2⟩ := info_parts Try.infoItem
  have HZ2 := hide hz2
  have H0 := hide h
  have HD := hide hbd
  have hgl := h.lt
  obtain ⟨m, d, hmd⟩ : ∃ m d, riN xs c = (m, d) := ⟨_, _, rfl⟩
  have HL : Hid (lsR xs 5 (riI xs) c = if (5 : Int) < m then ([], (d.1, true)) else if (rpt (riI xs) m.toNat d).2.2 = true then ([], ((rpt (riI xs) m.toNat d).2.1, true)) else rpt (riI xs) m.toNat d) := hide (by unfold lsR; rw [hmd]; rfl)
  have HMD := hide hmd
  clear h hbd hmd hz2
  go_enter Try.func58, Try.ntmps58
  go_wp2_with fail
  refine wp_scope_jumps 0 (fun a' w' => ∃ (e : Cu) (u1 u2 u3 u4 u5 u6 u7 u8 u9 u10 u11 u12 u13 u14 u15 u16 u17 u18 u19 u20 u21 u22 u23 u24 u25 u26 u27 u28 u29 u30 u31 u32 : Value), a' = { tmps := #[.pointer (some ⟨g, 0, none⟩), u1, u2, u3, u4, u5, u6, u7, u8, u9, u10, u11, u12, u13, u14, u15, u16, u17, u18, u19, u20, u21, u22, u23, u24, u25, u26, u27, u28, u29, u30, u31, u32], defers := [] } ∧ Hid (Ri w' g v xs e ∧ w.grownBy w' (some g) ∧ lsR xs 5 (riI xs) c = ([], (e.1, true)))) (fun _ _ => 0) rfl ?_ ?_
  rotate_left
  · rintro a' w' ⟨e, u1, u2, u3, u4, u5, u6, u7, u8, u9, u10, u11, u12, u13, u14, u15, u16, u17, u18, u19, u20, u21, u22, u23, u24, u25, u26, u27, u28, u29, u30, u31, u32, rfl, HJ⟩
    go_wp2_with fail
    refine (rfit_any g v xs e false w' (unhide HJ).1).mono ?_
    rintro e2 w2 ⟨rfl, r2, g2⟩
    have HR2 := hide r2
    have G2 := hide (grown_all (unhide HJ).2.1 g2)
    clear r2 g2
    go_wp2
    simp only [Exit.jump]
    go_ret
    refine ⟨none, 0, 0, rfl, ?_, ?_, unhide G2⟩
    · rw [(unhide HJ).2.2]; exact World.ownsRow_nil _ _ _ _
    · rw [(unhide HJ).2.2]
      have h := unhide HR2
      simpa using h
  · go_wp2_with fail
    refine (rnum_any g v xs c w hlen (unhide HD) (unhide H0)).mono ?_
    rintro e w1 ⟨rfl, r1, g1⟩
    rw [unhide HMD] at r1
    rw [unhide HMD]
    simp only at r1
    have HR1 := hide r1
    have G1 := hide g1
    have hs1 := g1.size
    clear r1 g1
    by_cases hm : 5 < m
    · have hd1 : decide (5 < m) = true := by simpa using hm
      have HE : Hid (lsR xs 5 (riI xs) c = ([], (d.1, true))) := hide (by rw [unhide HL, if_pos hm])
      go_wp2_with fail
      go_step3
      exact ⟨rfl, ⟨d, _, _, _, _, _, _, _, _, _, _, _, _, _, _, _, _, _, _, _, _, _, _, _, _, _, _, _, _, _, _, _, _, rfl, hide ⟨unhide HR1, unhide G1, unhide HE⟩⟩⟩
    · have hd1 : decide (5 < m) = false := by simpa using hm
      have hm0 : 0 ≤ m := by
        have h := (riN_bd (c := c) (unhide HD)).1
        rw [unhide HMD] at h
        exact h
      obtain ⟨m, rfl⟩ := Int.eq_ofNat_of_zero_le hm0
      have HL2 : Hid (lsR xs 5 (riI xs) c = if (rpt (riI xs) m d).2.2 = true then ([], ((rpt (riI xs) m d).2.1, true)) else rpt (riI xs) m d) := hide (by rw [unhide HL, if_neg hm, Int.toNat_natCast])
      clear HL HMD
      go_wp2_with fail
      go_step3
      go_wp2_with fail
      go_loopw [7] (fun u wr => ∃ (k : Nat) (a : Option Addr) (n cap : Nat), u = .slice a n cap ∧ n = (rpt (riI xs) k d).1.length ∧ ((rpt (riI xs) k d).2.2 = false → n = k) ∧ k ≤ m ∧ Ow encI 6 60 w.heap.size wr (.slice a n cap) (rpt (riI xs) k d).1 ∧ Ri wr g v xs (rpt (riI xs) k d).2 ∧ w.grownBy wr (some g)) (fun u _ => m - sliceLen u)
      case atStart => exact ⟨0, _, _, _, rfl, rfl, fun _ => rfl, Nat.zero_le _, World.ownsRow_nil _ _ _ _, unhide HR1, unhide G1⟩
      case round =>
        obtain ⟨k, a, n, cap, rfl, hn, hnk, hkm, hown, hrd, hgr⟩ := hrel
        have HO := hide hown
        have HR := hide hrd
        have HG := hide hgr
        have hsz := hgr.size
        have hgw := hrd.lt
        have HNL := hide hn
        obtain ⟨c0, c1, c2, cf⟩ := hrd.cells
        obtain ⟨bd, hbd2⟩ : ∃ b, (rpt (riI xs) k d).2.2 = b := ⟨_, rfl⟩
        rw [hbd2] at c2 hnk
        have HBD := hide hbd2
        clear hown hrd hgr hbd2 c0 c1 hn HR1 G1
        cases bd
        · obtain rfl : n = k := hnk rfl
          by_cases hlt : n < m
          · have hd2 : ((n : Int) == (m : Int)) = false := by simp; omega
            have e1 : Hid (rpt (riI xs) (n + 1) d = ((rpt (riI xs) n d).1 ++ [(riI xs (rpt (riI xs) n d).2).1], (riI xs (rpt (riI xs) n d).2).2)) := hide (rpt_next (unhide HBD))
            go_wp2_with fail
            refine (ritem_any g v xs _ wr hlen (unhide HD) (unhide HR)).mono ?_
            rintro e w2 ⟨rfl, r2, g2⟩
            have O2 := hide (owF_far (unhide HO) g2 hgl)
            have HR2 := hide r2
            have G2 := hide (grown_all (unhide HG) g2)
            have hs2 : w.heap.size ≤ w2.heap.size := (unhide G2).size
            clear r2 g2 HO HR HG c2 cf
            go_wp2_with (first | (at_builtin; refine wpList_app1 encI_len (by omega) oneI 60 23 i0 _ 56 Try.underlying23 hi hz0 hz1 (unhide HZ2) rfl (by omega) w2 (riI xs (rpt (riI xs) n d).2).1 rfl _ _ rfl w.heap.size _ _ n HNL rfl (unhide O2) rfl (by omega) hs2 ?_; intro a8 c8 w4 hO hG; have HO4 := hide hO; have R4 := hide ((unhide H0).row (unhide G2) (unhide HR2) (unhide O2) hG); clear hO hG))
            go_roundw
            case rel => exact ⟨n + 1, a8, n + 1, c8, rfl, by rw [unhide e1, List.length_append, ← unhide HNL]; rfl, fun _ => rfl, by omega, by rw [unhide e1]; exact unhide HO4, by rw [unhide e1]; exact (unhide R4).1, (unhide R4).2⟩
            case measure => simp [sliceLen]; omega
          · obtain rfl : n = m := by omega
            have hd2 : ((n : Int) == (n : Int)) = true := by simp
            have HE : Hid (lsR xs 5 (riI xs) c = rpt (riI xs) n d) := hide (by rw [unhide HL2, if_neg (by rw [unhide HBD]; simp)])
            go_wp2
            simp only [Exit.jump]
            go_ret
            exact ⟨a, n, cap, rfl, by rw [unhide HE]; exact unhide HO, by rw [unhide HE]; exact unhide HR, unhide HG⟩
        · have HE : Hid (lsR xs 5 (riI xs) c = ([], ((rpt (riI xs) k d).2.1, true))) := hide (by rw [unhide HL2, rpt_stop (unhide HBD) m hkm, if_pos (unhide HBD)])
          go_wp2_with fail
          go_step3
          exact ⟨rfl, ⟨(rpt (riI xs) k d).2, _, _, _, _, _, _, _, _, _, _, _, _, _, _, _, _, _, _, _, _, _, _, _, _, _, _, _, _, _, _, _, _, rfl, hide ⟨unhide HR, unhide HG, unhide HE⟩⟩⟩
set_option maxHeartbeats 4000000 in
set_option maxRecDepth 100000 in
theorem rlistF_any (g : Nat) (v : Value) (xs : List Int) (c : Cu) (w : World) (hlen : xs.length ≤ 140737488351232) (hbd : ∀ z ∈ xs, 0 ≤ z ∧ z ≤ 255) (h : Ri w g v xs c) :
    Calls Try.prog 60 #[.pointer (some ⟨g, 0, none⟩), .int .i64 5, .func (.func 61) #[] #[]] w fun e w' => ∃ a n cap, e = .returned (.slice a n cap) ∧ Ow encF 2 65 w.heap.size w' (.slice a n cap) (lsR xs 5 (riF xs) c).1 ∧ Ri w' g v xs (lsR xs 5 (riF xs) c).2 ∧ w.grownBy w' (some g) := by
  obtain ⟨i0, hi, hz0, hz1, hz2⟩ := info_parts Try.infoFloor
  have HZ2 := hide hz2
  have H0 := hide h
  have HD := hide hbd
  have hgl := h.lt
  obtain ⟨m, d, hmd⟩ : ∃ m d, riN xs c = (m, d) := ⟨_, _, rfl⟩
  have HL : Hid (lsR xs 5 (riF xs) c = if (5 : Int) < m then ([], (d.1, true)) else if (rpt (riF xs) m.toNat d).2.2 = true then ([], ((rpt (riF xs) m.toNat d).2.1, true)) else rpt (riF xs) m.toNat d) := hide (by unfold lsR; rw [hmd]; rfl)
  have HMD := hide hmd
  clear h hbd hmd hz2
  go_enter Try.func60, Try.ntmps60
  go_wp2_with fail
  refine wp_scope_jumps 0 (fun a' w' => ∃ (e : Cu) (u1 u2 u3 u4 u5 u6 u7 u8 u9 u10 u11 u12 u13 u14 u15 u16 u17 u18 u19 u20 u21 u22 u23 u24 u25 u26 u27 u28 u29 u30 u31 u32 : Value), a' = { tmps := #[.pointer (some ⟨g, 0, none⟩), u1, u2, u3, u4, u5, u6, u7, u8, u9, u10, u11, u12, u13, u14, u15, u16, u17, u18, u19, u20, u21, u22, u23, u24, u25, u26, u27, u28, u29, u30, u31, u32], defers := [] } ∧ Hid (Ri w' g v xs e ∧ w.grownBy w' (some g) ∧ lsR xs 5 (riF xs) c = ([], (e.1, true)))) (fun _ _ => 0) rfl ?_ ?_
  rotate_left
  · rintro a' w' ⟨e, u1, u2, u3, u4, u5, u6, u7, u8, u9, u10, u11, u12, u13, u14, u15, u16, u17, u18, u19, u20, u21, u22, u23, u24, u25, u26, u27, u28, u29, u30, u31, u32, rfl, HJ⟩
    go_wp2_with fail
    refine (rfit_any g v xs e false w' (unhide HJ).1).mono ?_
    rintro e2 w2 ⟨rfl, r2, g2⟩
    have HR2 := hide r2
    have G2 := hide (grown_all (unhide HJ).2.1 g2)
    clear r2 g2
    go_wp2
    simp only [Exit.jump]
    go_ret
    refine ⟨none, 0, 0, rfl, ?_, ?_, unhide G2⟩
    · rw [(unhide HJ).2.2]; exact World.ownsRow_nil _ _ _ _
    · rw [(unhide HJ).2.2]
      have h := unhide HR2
      simpa using h
  · go_wp2_with fail
    refine (rnum_any g v xs c w hlen (unhide HD) (unhide H0)).mono ?_
    rintro e w1 ⟨rfl, r1, g1⟩
    rw [unhide HMD] at r1
    rw [unhide HMD]
    simp only at r1
    have HR1 := hide r1
    have G1 := hide g1
    have hs1 := g1.size
    clear r1 g1
    by_cases hm : 5 < m
    · have hd1 : decide (5 < m) = true := by simpa using hm
      have HE : Hid (lsR xs 5 (riF xs) c = ([], (d.1, true))) := hide (by rw [unhide HL, if_pos hm])
      go_wp2_with fail
      go_step3
      exact ⟨rfl, ⟨d, _, _, _, _, _, _, _, _, _, _, _, _, _, _, _, _, _, _, _, _, _, _, _, _, _, _, _, _, _, _, _, _, rfl, hide ⟨unhide HR1, unhide G1, unhide HE⟩⟩⟩
    · have hd1 : decide (5 < m) = false := by simpa using hm
      have hm0 : 0 ≤ m := by
        have h := (riN_bd (c := c) (unhide HD)).1
        rw [unhide HMD] at h
        exact h
      obtain ⟨m, rfl⟩ := Int.eq_ofNat_of_zero_le hm0
      have HL2 : Hid (lsR xs 5 (riF xs) c = if (rpt (riF xs) m d).2.2 = true then ([], ((rpt (riF xs) m d).2.1, true)) else rpt (riF xs) m d) := hide (by rw [unhide HL, if_neg hm, Int.toNat_natCast])
      clear HL HMD
      go_wp2_with fail
      go_step3
      go_wp2_with fail
      go_loopw [7] (fun u wr => ∃ (k : Nat) (a : Option Addr) (n cap : Nat), u = .slice a n cap ∧ n = (rpt (riF xs) k d).1.length ∧ ((rpt (riF xs) k d).2.2 = false → n = k) ∧ k ≤ m ∧ Ow encF 2 65 w.heap.size wr (.slice a n cap) (rpt (riF xs) k d).1 ∧ Ri wr g v xs (rpt (riF xs) k d).2 ∧ w.grownBy wr (some g)) (fun u _ => m - sliceLen u)
      case atStart => exact ⟨0, _, _, _, rfl, rfl, fun _ => rfl, Nat.zero_le _, World.ownsRow_nil _ _ _ _, unhide HR1, unhide G1⟩
      case round =>
        obtain ⟨k, a, n, cap, rfl, hn, hnk, hkm, hown, hrd, hgr⟩ := hrel
        have HO := hide hown
        have HR := hide hrd
        have HG := hide hgr
        have hsz := hgr.size
        have hgw := hrd.lt
        have HNL := hide hn
        obtain ⟨c0, c1, c2, cf⟩ := hrd.cells
        obtain ⟨bd, hbd2⟩ : ∃ b, (rpt (riF xs) k d).2.2 = b := ⟨_, rfl⟩
        rw [hbd2] at c2 hnk
        have HBD := hide hbd2
        clear hown hrd hgr hbd2 c0 c1 hn HR1 G1
        cases bd
        · obtain rfl : n = k := hnk rfl
          by_cases hlt : n < m
          · have hd2 : ((n : Int) == (m : Int)) = false := by simp; omega
            have e1 : Hid (rpt (riF xs) (n + 1) d = ((rpt (riF xs) n d).1 ++ [(riF xs (rpt (riF xs) n d).2).1], (riF xs (rpt (riF xs) n d).2).2)) := hide (rpt_next (unhide HBD))
            go_wp2_with fail
            refine (rfloor_any g v xs _ wr hlen (unhide HD) (unhide HR)).mono ?_
            rintro e w2 ⟨rfl, r2, g2⟩
            have O2 := hide (owF_far (unhide HO) g2 hgl)
            have HR2 := hide r2
            have G2 := hide (grown_all (unhide HG) g2)
            have hs2 : w.heap.size ≤ w2.heap.size := (unhide G2).size
            clear r2 g2 HO HR HG c2 cf
            go_wp2_with (first | (at_builtin; refine wpList_app1 encF_len (by omega) oneF 65 24 i0 _ 16 Try.underlying24 hi hz0 hz1 (unhide HZ2) rfl (by omega) w2 (riF xs (rpt (riF xs) n d).2).1 rfl _ _ rfl w.heap.size _ _ n HNL rfl (unhide O2) rfl (by omega) hs2 ?_; intro a8 c8 w4 hO hG; have HO4 := hide hO; have R4 := hide ((unhide H0).row (unhide G2) (unhide HR2) (unhide O2) hG); clear hO hG))
            go_roundw
            case rel => exact ⟨n + 1, a8, n + 1, c8, rfl, by rw [unhide e1, List.length_append, ← unhide HNL]; rfl, fun _ => rfl, by omega, by rw [unhide e1]; exact unhide HO4, by rw [unhide e1]; exact (unhide R4).1, (unhide R4).2⟩
            case measure => simp [sliceLen]; omega
          · obtain rfl : n = m := by omega
            have hd2 : ((n : Int) == (n : Int)) = true := by simp
            have HE : Hid (lsR xs 5 (riF xs) c = rpt (riF xs) n d) := hide (by rw [unhide HL2, if_neg (by rw [unhide HBD]; simp)])
            go_wp2
            simp only [Exit.jump]
            go_ret
            exact ⟨a, n, cap, rfl, by rw [unhide HE]; exact unhide HO, by rw [unhide HE]; exact unhide HR, unhide HG⟩
        · have HE : Hid (lsR xs 5 (riF xs) c = ([], ((rpt (riF xs) k d).2.1, true))) := hide (by rw [unhide HL2, rpt_stop (unhide HBD) m hkm, if_pos (unhide HBD)])
          go_wp2_with fail
          go_step3
          exact ⟨rfl, ⟨(rpt (riF xs) k d).2, _, _, _, _, _, _, _, _, _, _, _, _, _, _, _, _, _, _, _, _, _, _, _, _, _, _, _, _, _, _, _, _, rfl, hide ⟨unhide HR, unhide HG, unhide HE⟩⟩⟩
end Go.Proofs.Ytbajnnpihjmjmab
