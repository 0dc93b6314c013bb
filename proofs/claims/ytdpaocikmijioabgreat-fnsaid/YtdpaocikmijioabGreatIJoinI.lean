/-
  The program's joinItems and dropOver: what they do to the map. No statement is proved here.
-/
import Derived.Test.YtdpaocikmijioabGreatMapP
import Derived.Test.YtdpaocikmijioabGreatStM
import Derived.Test.YtdpaocikmijioabGreatSt3
import Derived.Deep.RegionHeld3
namespace Go.Proofs.YtdpaocikmijioabGreat
open Go.RowKit Go.Maps

theorem imaxK_any (a b r : Key) (hr : Hid (mx a b = r)) (ha : a.2.2.2.2.size ≤ 1048576) (hb : b.2.2.2.2.size ≤ 1048576) (w : World) : Calls Tryz.prog 87 #[.agg #[.int .i64 a.1, .int .i64 a.2.1, .int .i64 a.2.2.1, .int .i64 a.2.2.2.1, .string a.2.2.2.2], .agg #[.int .i64 b.1, .int .i64 b.2.1, .int .i64 b.2.2.1, .int .i64 b.2.2.2.1, .string b.2.2.2.2]] w fun e w' => e = .returned (.agg #[.int .i64 r.1, .int .i64 r.2.1, .int .i64 r.2.2.1, .int .i64 r.2.2.2.1, .string r.2.2.2.2]) ∧ Below w.heap.size w w' := by
  refine imax_is _ _ _ _ _ _ _ _ _ _ _ _ _ _ _ ?_ (by omega) (by omega) w
  rw [isMax_mx]
  exact (unhide hr).symm

/-- The items laid into the map, one behind the other. -/
def fm (m : Int → Option Key) : List Itm → Int → Option Key
  | [] => m
  | x :: r => fm (upd m x.1 (mx (mget m x.1) x.2)) r
theorem fm_at {m : Int → Option Key} {xs : List Itm} {k : Nat} {x : Itm} (h : xs[k]? = some x) : fm m (xs.drop k) = fm (upd m x.1 (mx (mget m x.1) x.2)) (xs.drop (k + 1)) := by
  rw [drop_at h, fm]
def SmlM (m : Int → Option Key) : Prop := ∀ id e, m id = some e → e.2.2.2.2.size ≤ 1048576
theorem mget_sml {m : Int → Option Key} (h : SmlM m) (id : Int) : (mget m id).2.2.2.2.size ≤ 1048576 := by
  unfold mget
  cases hm : m id with
  | none => show (zeroK.2.2.2.2.size) ≤ _; exact Nat.zero_le _
  | some e => exact h id e hm
theorem mx_sml {a b : Key} (ha : a.2.2.2.2.size ≤ 1048576) (hb : b.2.2.2.2.size ≤ 1048576) : (mx a b).2.2.2.2.size ≤ 1048576 := by
  unfold mx
  split
  · exact hb
  · exact ha
theorem upd_sml {m : Int → Option Key} (h : SmlM m) (id : Int) {e : Key} (he : e.2.2.2.2.size ≤ 1048576) : SmlM (upd m id e) := by
  intro j x hx
  unfold upd at hx
  split at hx
  · cases hx; exact he
  · exact h j x hx
theorem cut_sml {m : Int → Option Key} (h : SmlM m) (id : Int) : SmlM (cut m id) := by
  intro j x hx
  unfold cut at hx
  split at hx
  · cases hx
  · exact h j x hx

theorem owm_later {w w' : World} {b n : Nat} {D : DataW Key} (h : OwM w b n D) (hb : Below w.heap.size w w') : OwM w' b n D := h.kept (grown_below none hb) (by simp)
/-- A row of cells is no map. -/
theorem Rw.beside {α : Type} {enc : α → List Value} {k : Nat} (hk : ∀ x, (enc x).length = k) (h0 : 0 < k) {w w' : World} {v : Value} {xs : List α} (h : Rw enc k w v xs) {b n : Nat} {D : DataW Key} (hm : OwM w b n D) (hg : w.grownBy w' (some b)) : Rw enc k w' v xs := by
  obtain ⟨a, cap, rfl, hcap, h⟩ := h
  refine ⟨a, cap, rfl, hcap, ?_⟩
  rcases h with h | ⟨g, off, rfl, hlt, hc⟩
  · exact .inl h
  · by_cases hz : xs = []
    · exact .inl hz
    · refine .inr ⟨g, off, rfl, Nat.lt_of_lt_of_le hlt hg.size, fun i x hx j hj => ?_⟩
      have hne : g ≠ b := by
        intro e
        subst e
        have hpos : 0 < xs.length := List.length_pos_iff.2 hz
        have := hc 0 xs[0] (by simp [hpos]) 0 h0
        obtain ⟨es, clock, hh, _⟩ := hm
        have e0 : (enc xs[0])[0]? = some ((enc xs[0])[0]'(by rw [hk]; exact h0)) := List.getElem?_eq_getElem _
        rw [e0] at this
        simp [World.cell?, hh] at this
      exact (World.cell?_of_block (w := w) (hg.block g hlt (by simp [hne]))).trans (hc i x hx j hj)

theorem keepX {W : World} {g : Nat} {T : TypeId} {c0 c1 c2 c3 c4 c5 : Value} (h : W.heap[g]? = some (.cells #[c0, c1, c2, c3, c4, c5] T (0, 0))) : W.cell? ⟨g, 0, none⟩ = some c0 ∧ W.cell? ⟨g, 1, none⟩ = some c1 ∧ W.cell? ⟨g, 2, none⟩ = some c2 ∧ W.cell? ⟨g, 3, none⟩ = some c3 ∧ W.cell? ⟨g, 4, none⟩ = some c4 ∧ W.cell? ⟨g, 5, none⟩ = some c5 := by
  obtain ⟨h0, h1, h2, h3, h4, h5, -⟩ := blk_cells6 h
  exact ⟨h0, h1, h2, h3, h4, h5⟩
set_option maxHeartbeats 8000000 in
set_option maxRecDepth 100000 in
theorem ijoini_any (bm n : Nat) (D : DataW Key) (m : Int → Option Key) (ai : Option Addr) (ni ci : Nat) (xs : List Itm) (hfit : ∀ (k : Nat) (x : Itm), xs[k]? = some x → FitN x.1 ∧ x.2.2.2.2.2.size ≤ 1048576) (hsm : SmlM m) (w : World) (hni : ni ≤ 1000000) (hn : n ≤ 1000000)
    (hm : OwM w bm n D) (hv : MapV D m) (hx : Rw encI 6 w (.slice ai ni ci) xs) :
    Calls Tryz.prog 49 #[.map (some bm), .slice ai ni ci] w fun e w' => e = .returned (.tuple #[]) ∧ (∃ n' D', OwM w' bm n' D' ∧ n' ≤ n + ni ∧ MapV D' (fm m xs) ∧ SmlM (fm m xs)) ∧ w.grownBy w' (some bm) := by
  have HX := hide hx
  have HM := hide hm
  have HV := hide hv
  have HS := hide hsm
  have HFT := hide hfit
  clear hx hm hv hsm hfit
  go_enter Tryz.func49, Tryz.ntmps49
  go_wp2
  go_loopw [8] (fun i wr => ∃ (k n' : Nat) (D' : DataW Key) (m' : Int → Option Key), k ≤ ni ∧ i = .int .i64 k ∧ n' ≤ n + k ∧ OwM wr bm n' D' ∧ MapV D' m' ∧ SmlM m' ∧ fm m' (xs.drop k) = fm m xs ∧ w.grownBy wr (some bm)) (fun i _ => ni - (intOf i).toNat)
  case atStart => exact ⟨0, n, D, m, Nat.zero_le _, rfl, by omega, unhide HM, unhide HV, unhide HS, rfl, grown_refl _ _⟩
  case round =>
    obtain ⟨k, n', D', m', hk, rfl, hn', hM, hV, hS, hrec, hgr⟩ := hrel
    have HM1 := hide hM
    have HV1 := hide hV
    have HS1 := hide hS
    have HR := hide hrec
    have HG := hide hgr
    have RX := hide ((unhide HX).beside encI_len (by omega) (unhide HM) hgr)
    clear hM hV hS hrec hgr
    by_cases hlt : k < ni
    · obtain ⟨x, b, off, hx, rfl, hb, hcap, hc⟩ := (unhide RX).at hlt
      obtain ⟨c0, c1, c2, c3, c4, c5⟩ := item_cells hc
      obtain ⟨hid, hxs⟩ := unhide HFT k x hx
      obtain ⟨g, hg⟩ : ∃ g, mget m' x.1 = g := ⟨_, rfl⟩
      obtain ⟨r, hr⟩ : ∃ r, mx g x.2 = r := ⟨_, rfl⟩
      have hgs : g.2.2.2.2.size ≤ 1048576 := by rw [← hg]; exact mget_sml (unhide HS1) _
      have hrs : r.2.2.2.2.size ≤ 1048576 := by rw [← hr]; exact mx_sml hgs hxs
      have HE := hide (fm_at (m := m') hx)
      rw [unhide HR, hg, hr] at HE
      have HRR := hide hr
      have HID := hide hid
      have hlk := look (unhide HM1) (unhide HV1) hid
      rw [hg] at hlk
      have HLK := hide hlk
      clear hc hx hg hr hlk hid
      go_wp2_with fail
      obtain ⟨W, hW⟩ : ∃ W, W = wr.alloc (.cells #[.int .i64 x.1, .int .i64 x.2.1, .int .i64 x.2.2.1, .int .i64 x.2.2.2.1, .int .i64 x.2.2.2.2.1, .string x.2.2.2.2.2] 40) := ⟨_, rfl⟩
      rw [← hW]
      have hWB : Below wr.heap.size wr W := by rw [hW]; exact (Below.refl _ _).alloc (Nat.le_refl _) _
      have KX : Hid (W.heap[wr.heap.size]? = some (.cells #[.int .i64 x.1, .int .i64 x.2.1, .int .i64 x.2.2.1, .int .i64 x.2.2.2.1, .int .i64 x.2.2.2.2.1, .string x.2.2.2.2.2] 40 (0, 0)) ∧ wr.heap.size < W.heap.size) := by rw [hW]; exact hide ⟨newB1 wr _, by simp⟩
      have KXD : Hid (W.drew.heap[wr.heap.size]? = some (.cells #[.int .i64 x.1, .int .i64 x.2.1, .int .i64 x.2.2.1, .int .i64 x.2.2.2.1, .int .i64 x.2.2.2.2.1, .string x.2.2.2.2.2] 40 (0, 0)) ∧ wr.heap.size < W.drew.heap.size) := KX
      have HMW := hide (owm_later (unhide HM1) hWB)
      have hlk : (Instr.lookup 69 (.map (some bm)) (.int .i64 x.1) false).run Tryz.prog W.drew = .ok (.agg #[.int .i64 g.1, .int .i64 g.2.1, .int .i64 g.2.2.1, .int .i64 g.2.2.2.1, .string g.2.2.2.2]) W.drew := by
        have h := look (show OwM W.drew bm n' D' from unhide HMW) (unhide HV1) (unhide HID)
        have h2 := unhide HLK
        rw [look (unhide HM1) (unhide HV1) (unhide HID)] at h2
        simp only [Result.ok.injEq, and_true] at h2
        rw [h2] at h
        exact h
      have HWB := hide hWB
      clear hW hWB HLK c0 c1 c2 c3 c4 c5
      have hbmne : bm ≠ wr.heap.size := fun e => by have := (unhide HM1).lt; omega
      go_region_held3 (fun V => V.cell? ⟨wr.heap.size, 0, none⟩ = some (.int .i64 x.1) ∧ V.cell? ⟨wr.heap.size, 1, none⟩ = some (.int .i64 x.2.1) ∧ V.cell? ⟨wr.heap.size, 2, none⟩ = some (.int .i64 x.2.2.1) ∧ V.cell? ⟨wr.heap.size, 3, none⟩ = some (.int .i64 x.2.2.2.1) ∧ V.cell? ⟨wr.heap.size, 4, none⟩ = some (.int .i64 x.2.2.2.2.1) ∧ V.cell? ⟨wr.heap.size, 5, none⟩ = some (.string x.2.2.2.2.2))
        (first | (with_reducible exact keepX (unhide KX).1) | (with_reducible exact keepX (unhide KXD).1) | (with_reducible exact keepX (unhide KX1).1) | (with_reducible exact keepX (unhide KX2).1))
        (first | (go_at_call 87; refine (imaxK_any g x.2 r HRR hgs hxs _).mono ?_; rintro e w1 ⟨rfl, b1⟩; have b1' : Below W.heap.size W w1 := ⟨b1.os, b1.tape, b1.output, b1.size, b1.block⟩; have KX1 := hide (keptblk b1' KX); obtain ⟨w2, hrun, hM2, hG2⟩ := (owm_later (unhide HMW) b1').update klaw Tryz.underlying69 (by unfold maxLen; omega) (kof (unhide HID)) (RK_mk r); have KX2 := hide (And.intro ((hG2.block _ (unhide KX1).2 (by simp; exact fun e => hbmne e.symm)).trans (unhide KX1).1) (Nat.lt_of_lt_of_le (unhide KX1).2 hG2.size)); have HM2 := hide hM2; have HG2 := hide hG2; have HB1 := hide b1'; clear b1 b1' hM2 hG2))
      have HG3 := hide (grown_trans2 (unhide HG) (grown_trans2 (grown_below _ ((unhide HWB).trans ((unhide HB1).mono (unhide HWB).size))) (unhide HG2)))
      clear HG HWB HB1 HG2 hrun hlk KX KXD KX1 KX2
      go_wp2
      go_roundw
      case rel => exact ⟨k + 1, n' + 1, _, upd m' x.1 r, by omega, by go_num, by omega, unhide HM2, (unhide HV1).put (unhide HM1).isMap (key_lit _) r, upd_sml (unhide HS1) _ hrs, (unhide HE).symm, unhide HG3⟩
      case measure => simp [intOf]; omega
    · have HE : Hid (m' = fm m xs) := by
        have h := unhide HR
        rw [drop_end (unhide HX).len.1 hk hlt] at h
        exact hide h
      go_wp2
      go_end0
      exact ⟨rfl, ⟨n', D', unhide HM1, by omega, unhide HE ▸ unhide HV1, unhide HE ▸ unhide HS1⟩, unhide HG⟩

/-- What is over is dropped, floor by floor. -/
def fd (m : Int → Option Key) : List Flr → Int → Option Key
  | [] => m
  | f :: r => fd (if (mget m f.1).1 ≤ f.2 then cut m f.1 else m) r
theorem fd_hit {m : Int → Option Key} {fs : List Flr} {k : Nat} {f : Flr} {g : Key} (h : fs[k]? = some f) (hg : mget m f.1 = g) (hd : decide (g.1 ≤ f.2) = true) : fd m (fs.drop k) = fd (cut m f.1) (fs.drop (k + 1)) := by
  rw [drop_at h, fd, hg, if_pos (of_decide_eq_true hd)]
theorem fd_miss {m : Int → Option Key} {fs : List Flr} {k : Nat} {f : Flr} {g : Key} (h : fs[k]? = some f) (hg : mget m f.1 = g) (hd : decide (g.1 ≤ f.2) = false) : fd m (fs.drop k) = fd m (fs.drop (k + 1)) := by
  rw [drop_at h, fd, hg, if_neg (of_decide_eq_false hd)]

set_option maxHeartbeats 8000000 in
set_option maxRecDepth 100000 in
theorem idrop_any (bm n : Nat) (D : DataW Key) (m : Int → Option Key) (af : Option Addr) (nf cf : Nat) (fs : List Flr) (hfit : ∀ (k : Nat) (x : Flr), fs[k]? = some x → FitN x.1) (hsm : SmlM m) (w : World) (hnf : nf ≤ 1000000)
    (hm : OwM w bm n D) (hv : MapV D m) (hx : Rw encF 2 w (.slice af nf cf) fs) :
    Calls Tryz.prog 50 #[.map (some bm), .slice af nf cf] w fun e w' => e = .returned (.tuple #[]) ∧ (∃ D', OwM w' bm n D' ∧ MapV D' (fd m fs) ∧ SmlM (fd m fs)) ∧ w.grownBy w' (some bm) := by
  have HX := hide hx
  have HM := hide hm
  have HV := hide hv
  have HS := hide hsm
  have HFT := hide hfit
  clear hx hm hv hsm hfit
  go_enter Tryz.func50, Tryz.ntmps50
  go_wp2
  go_loopw [8] (fun i wr => ∃ (k : Nat) (D' : DataW Key) (m' : Int → Option Key), k ≤ nf ∧ i = .int .i64 k ∧ OwM wr bm n D' ∧ MapV D' m' ∧ SmlM m' ∧ fd m' (fs.drop k) = fd m fs ∧ w.grownBy wr (some bm)) (fun i _ => nf - (intOf i).toNat)
  case atStart => exact ⟨0, D, m, Nat.zero_le _, rfl, unhide HM, unhide HV, unhide HS, rfl, grown_refl _ _⟩
  case round =>
    obtain ⟨k, D', m', hk, rfl, hM, hV, hS, hrec, hgr⟩ := hrel
    have HM1 := hide hM
    have HV1 := hide hV
    have HS1 := hide hS
    have HR := hide hrec
    have HG := hide hgr
    have RX := hide ((unhide HX).beside encF_len (by omega) (unhide HM) hgr)
    clear hM hV hS hrec hgr
    by_cases hlt : k < nf
    · obtain ⟨x, b, off, hx, rfl, hb, hcap, hc⟩ := (unhide RX).at hlt
      have c0 : wr.cell? ⟨b, off + k * 2, none⟩ = some (.int .i64 x.1) := hc 0 (by omega)
      have c1 : wr.cell? ⟨b, off + k * 2 + 1, none⟩ = some (.int .i64 x.2) := hc 1 (by omega)
      have hid := unhide HFT k x hx
      obtain ⟨g, hg⟩ : ∃ g, mget m' x.1 = g := ⟨_, rfl⟩
      have HMW := hide (owm_later (unhide HM1) ((Below.refl wr.heap.size wr).alloc (Nat.le_refl _) (.cells #[.int .i64 x.1, .int .i64 x.2] 84)))
      have hlk := look (unhide HMW) (unhide HV1) hid
      rw [hg] at hlk
      have HK := hide (kof hid)
      have hf0 := field0 g
      rcases Bool.eq_false_or_eq_true (decide (g.1 ≤ x.2)) with hle | hle
      · have HE := hide (fd_hit hx hg hle)
        rw [unhide HR] at HE
        clear hc hx hg hid
        go_wp2_with (first | (at_delete; refine wpList_delete_own _ rfl _ _ 69 3 rfl 38 klaw Tryz.underlying69 RK bm n D' rfl (unhide HMW) _ _ rfl (unhide HK) ?_; intro w1 hM2 ht2; have HM2 := hide hM2; have HT2 := hide ht2.grown; clear hM2 ht2))
        go_roundw
        case rel => exact ⟨k + 1, _, cut m' x.1, by omega, by go_num, unhide HM2, (unhide HV1).del _, cut_sml (unhide HS1) _, (unhide HE).symm, grown_trans2 (unhide HG) (grown_trans2 (World.grownBy_alloc _ _ _) (unhide HT2))⟩
        case measure => simp [intOf]; omega
      · have HE := hide (fd_miss hx hg hle)
        rw [unhide HR] at HE
        clear hc hx hg hid
        go_wp2
        go_roundw
        case rel => exact ⟨k + 1, D', m', by omega, by go_num, unhide HMW, unhide HV1, unhide HS1, (unhide HE).symm, grown_trans2 (unhide HG) (World.grownBy_alloc _ _ _)⟩
        case measure => simp [intOf]; omega
    · have HE : Hid (m' = fd m fs) := by
        have h := unhide HR
        rw [drop_end (unhide HX).len.1 hk hlt] at h
        exact hide h
      go_wp2
      go_end0
      exact ⟨rfl, ⟨D', unhide HM1, unhide HE ▸ unhide HV1, unhide HE ▸ unhide HS1⟩, unhide HG⟩
end Go.Proofs.YtdpaocikmijioabGreat
