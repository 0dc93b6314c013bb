/-
  A state that is sliced to some leaves: the program's, and the specification's Slice. No statement is proved here.
-/
import Derived.Test.YtdpaocikmijioafTrC
import Derived.Test.YtdpaocikmijioafVwK
namespace Go.Proofs.Ytdpaocikmijioaf
open Go.RowKit

set_option maxHeartbeats 4000000 in
set_option maxRecDepth 100000 in
theorem iitemsat_any (ai : Option Addr) (ni ci : Nat) (xs : List Itm) (hsm : Sml xs) (la : Option Addr) (ln lc : Nat) (ls : List Int) (w : World)
    (m5 : ni ≤ 5) (hln : ln ≤ 140737488351232) (hx : Rw encI 6 w (.slice ai ni ci) xs) (hl : RwN w (.slice la ln lc) ls) :
    Calls Try.prog 103 #[.slice ai ni ci, .slice la ln lc] w fun e w' => ∃ a2 n2 c2, e = .returned (.slice a2 n2 c2) ∧ OwI w.heap.size w' (.slice a2 n2 c2) (slI ls xs) ∧ Below w.heap.size w w' := by
  obtain ⟨i0, hi, hz0, hz1, hz2⟩ := info_parts Try.infoItem
  have HX := hide hx
  have HL := hide hl
  clear hx hl
  have SM := hide hsm
  clear hsm
  go_enter Try.func103, Try.ntmps103
  go_wp2
  go_loopw [5, 10] (fun v i wr => ∃ (k : Nat) (a2 : Option Addr) (n2 c2 : Nat), k ≤ ni ∧ i = .int .i64 k ∧ v = .slice a2 n2 c2 ∧ OwI w.heap.size wr (.slice a2 n2 c2) (slI ls (xs.take k)) ∧ Below w.heap.size w wr) (fun _ i _ => ni - (intOf i).toNat)
  case atStart => exact ⟨0, none, 0, 0, by omega, rfl, rfl, World.ownsRow_nil _ _ _ _, Below.refl _ _⟩
  case round =>
    obtain ⟨k, a2, n2, c2, hk, rfl, rfl, hown, hbel⟩ := hrel
    have HO := hide hown
    have HB := hide hbel
    have hsz := hbel.size
    clear hown
    by_cases hlt : k < ni
    · obtain ⟨x, b, off, hx, rfl, hb, hcap, hc⟩ := ((unhide HX).later hbel).at hlt
      obtain ⟨c0, c1, c2', c3, c4, c5⟩ := item_cells hc
      obtain ⟨q, hq⟩ : ∃ q, Hid (lf x.1 = q) := ⟨_, hide rfl⟩
      obtain ⟨r, hr⟩ : ∃ r, Hid (hasN ls q = r) := ⟨_, hide rfl⟩
      have hxs := unhide SM k x hx
      have HX1 := hide hx
      clear hx hc hbel
      go_wp2_with fail
      have bX : Below wr.heap.size wr (wr.alloc (.cells #[.int .i64 x.1, .int .i64 x.2.1, .int .i64 x.2.2.1, .int .i64 x.2.2.2.1, .int .i64 x.2.2.2.2.1, .string x.2.2.2.2.2] 101)) := (Below.refl _ _).alloc (Nat.le_refl _) _
      refine (ileaf_any x.1 q hq _).mono ?_
      rintro e w2 ⟨rfl, b2⟩
      have b2' := bX.trans (b2.mono (by simp))
      have kx := (b2.block wr.heap.size (by simp)).trans (newB1 wr _)
      have HB2 := hide ((unhide HB).trans (b2'.mono hsz))
      have HO2 := hide ((unhide HO).later b2')
      have hzx2 : wr.heap.size < w2.heap.size := (Array.getElem?_eq_some_iff.mp kx).1
      have KX2 := hide kx
      clear c0 c1 c2' c3 c4 c5 bX b2 b2' kx HB HO
      go_wp2_with fail
      refine (icontains_any la ln lc ls q r hr _ hln ((unhide HL).later (unhide HB2))).mono ?_
      rintro e _ ⟨rfl, rfl⟩
      cases r
      · have HP := hide (slI_neg (ls := ls) (unhide HX1) (by rw [unhide hq]; exact unhide hr))
        go_wp2
        go_roundw
        case rel => exact ⟨k + 1, a2, n2, c2, by omega, by go_num, rfl, by rw [unhide HP]; exact unhide HO2, unhide HB2⟩
        case measure => simp [intOf]; omega
      · have HP := hide (slI_pos (ls := ls) (unhide HX1) (by rw [unhide hq]; exact unhide hr))
        obtain ⟨px0, px1, px2, px3, px4, px5, -⟩ := blk_cells6 (unhide KX2)
        go_wp2_with fail
        refine (icopyI_any x (by omega) _).mono ?_
        rintro e w3 ⟨rfl, b3⟩
        have HO3 := hide ((unhide HO2).later b3)
        have HB3 := hide ((unhide HB2).trans (b3.mono (unhide HB2).size))
        have hw3 : w.heap.size ≤ w3.heap.size := (unhide HB3).size
        have hn2 : Hid (n2 = (slI ls (xs.take k)).length) := hide ((unhide HO3).rw encI_len).len.1
        have hn2l : n2 ≤ k := by have := unhide hn2; have := slI_k (ls := ls) (xs := xs) (k := k); omega
        clear b3 px0 px1 px2 px3 px4 px5 HO2 HB2
        go_wp2_with (first | (at_builtin; refine wpList_app1 encI_len (by omega) oneI 101 34 i0 _ 56 Try.underlying34 hi hz0 hz1 hz2 rfl (by omega) w3 x rfl _ _ rfl w.heap.size _ (slI ls (xs.take k)) n2 hn2 rfl (unhide HO3) rfl (by omega) hw3 ?_; intro a8 c8 w4 hO hG; have HO4 := hide hO; have HB4 := hide ((Trn.of_grown hG).below (unhide HB3) hw3 (fun i q => (World.ownsRow.lt (unhide HO3) i q).1)); clear hO hG))
        go_roundw
        case rel => exact ⟨k + 1, a8, n2 + 1, c8, by omega, by go_num, rfl, by rw [unhide HP]; exact unhide HO4, unhide HB4⟩
        case measure => simp [intOf]; omega
    · have HT : Hid (slI ls (xs.take k) = slI ls xs) := hide (by rw [List.take_of_length_le (by have := (unhide HX).len.1; omega)])
      clear hbel
      go_wp2
      go_ret
      exact ⟨a2, n2, c2, rfl, by rw [← unhide HT]; exact unhide HO, unhide HB⟩

set_option maxHeartbeats 4000000 in
set_option maxRecDepth 100000 in
theorem ifloorsat_any (ai : Option Addr) (ni ci : Nat) (xs : List Flr) (la : Option Addr) (ln lc : Nat) (ls : List Int) (w : World)
    (m5 : ni ≤ 5) (hln : ln ≤ 140737488351232) (hx : Rw encF 2 w (.slice ai ni ci) xs) (hl : RwN w (.slice la ln lc) ls) :
    Calls Try.prog 104 #[.slice ai ni ci, .slice la ln lc] w fun e w' => ∃ a2 n2 c2, e = .returned (.slice a2 n2 c2) ∧ OwF w.heap.size w' (.slice a2 n2 c2) (slF ls xs) ∧ Below w.heap.size w w' := by
  obtain ⟨i0, hi, hz0, hz1, hz2⟩ := info_parts Try.infoFloor
  have HX := hide hx
  have HL := hide hl
  clear hx hl
  go_enter Try.func104, Try.ntmps104
  go_wp2
  go_loopw [5, 10] (fun v i wr => ∃ (k : Nat) (a2 : Option Addr) (n2 c2 : Nat), k ≤ ni ∧ i = .int .i64 k ∧ v = .slice a2 n2 c2 ∧ OwF w.heap.size wr (.slice a2 n2 c2) (slF ls (xs.take k)) ∧ Below w.heap.size w wr) (fun _ i _ => ni - (intOf i).toNat)
  case atStart => exact ⟨0, none, 0, 0, by omega, rfl, rfl, World.ownsRow_nil _ _ _ _, Below.refl _ _⟩
  case round =>
    obtain ⟨k, a2, n2, c2, hk, rfl, rfl, hown, hbel⟩ := hrel
    have HO := hide hown
    have HB := hide hbel
    have hsz := hbel.size
    clear hown
    by_cases hlt : k < ni
    · obtain ⟨x, b, off, hx, rfl, hb, hcap, hc⟩ := ((unhide HX).later hbel).at hlt
      have c0 : wr.cell? ⟨b, off + k * 2, none⟩ = some (.int .i64 x.1) := hc 0 (by omega)
      have c1 : wr.cell? ⟨b, off + k * 2 + 1, none⟩ = some (.int .i64 x.2) := hc 1 (by omega)
      obtain ⟨q, hq⟩ : ∃ q, Hid (lf x.1 = q) := ⟨_, hide rfl⟩
      obtain ⟨r, hr⟩ : ∃ r, Hid (hasN ls q = r) := ⟨_, hide rfl⟩
      have HX1 := hide hx
      clear hx hc hbel
      go_wp2_with fail
      have bX : Below wr.heap.size wr (wr.alloc (.cells #[.int .i64 x.1, .int .i64 x.2] 104)) := (Below.refl _ _).alloc (Nat.le_refl _) _
      refine (ileaf_any x.1 q hq _).mono ?_
      rintro e w2 ⟨rfl, b2⟩
      have b2' := bX.trans (b2.mono (by simp))
      have kx := (b2.block wr.heap.size (by simp)).trans (newB1 wr _)
      have HB2 := hide ((unhide HB).trans (b2'.mono hsz))
      have HO2 := hide ((unhide HO).later b2')
      have hzx2 : wr.heap.size < w2.heap.size := (Array.getElem?_eq_some_iff.mp kx).1
      have KX2 := hide kx
      clear c0 c1 bX b2 b2' kx HB HO
      go_wp2_with fail
      refine (icontains_any la ln lc ls q r hr _ hln ((unhide HL).later (unhide HB2))).mono ?_
      rintro e _ ⟨rfl, rfl⟩
      cases r
      · have HP := hide (slF_neg (ls := ls) (unhide HX1) (by rw [unhide hq]; exact unhide hr))
        go_wp2
        go_roundw
        case rel => exact ⟨k + 1, a2, n2, c2, by omega, by go_num, rfl, by rw [unhide HP]; exact unhide HO2, unhide HB2⟩
        case measure => simp [intOf]; omega
      · have HP := hide (slF_pos (ls := ls) (unhide HX1) (by rw [unhide hq]; exact unhide hr))
        obtain ⟨px0, px1, -⟩ := blk_cells2 (unhide KX2)
        have HO3 := HO2
        have HB3 := HB2
        have hw3 : w.heap.size ≤ w2.heap.size := (unhide HB3).size
        have hn2 : Hid (n2 = (slF ls (xs.take k)).length) := hide ((unhide HO3).rw encF_len).len.1
        have hn2l : n2 ≤ k := by have := unhide hn2; have := slF_k (ls := ls) (xs := xs) (k := k); omega
        clear HO2 HB2
        go_wp2_with (first | (at_builtin; refine wpList_app1 encF_len (by omega) oneF 104 35 i0 _ 16 Try.underlying35 hi hz0 hz1 hz2 rfl (by omega) w2 x rfl _ _ rfl w.heap.size _ (slF ls (xs.take k)) n2 hn2 rfl (unhide HO3) rfl (by omega) hw3 ?_; intro a8 c8 w4 hO hG; have HO4 := hide hO; have HB4 := hide ((Trn.of_grown hG).below (unhide HB3) hw3 (fun i q => (World.ownsRow.lt (unhide HO3) i q).1)); clear hO hG))
        go_roundw
        case rel => exact ⟨k + 1, a8, n2 + 1, c8, by omega, by go_num, rfl, by rw [unhide HP]; exact unhide HO4, unhide HB4⟩
        case measure => simp [intOf]; omega
    · have HT : Hid (slF ls (xs.take k) = slF ls xs) := hide (by rw [List.take_of_length_le (by have := (unhide HX).len.1; omega)])
      clear hbel
      go_wp2
      go_ret
      exact ⟨a2, n2, c2, rfl, by rw [← unhide HT]; exact unhide HO, unhide HB⟩

/-- While a state is sliced: the argument, the result's variable. -/
structure C2 (w W : World) (v1 v2 : Value) : Prop where
  bel : Below w.heap.size w W
  ka : W.heap[w.heap.size]? = some (.cells #[v1, v2] 37 (0, 0))
  kr : W.heap[w.heap.size + 1]? = some (.cells #[.slice none 0 0, .slice none 0 0] 37 (0, 0))
theorem C2.lt {w W : World} {v1 v2 : Value} (h : C2 w W v1 v2) : w.heap.size + 1 < W.heap.size := (Array.getElem?_eq_some_iff.1 h.kr).1
theorem C2.later {w W Y : World} {v1 v2 : Value} (h : C2 w W v1 v2) (b : Below W.heap.size W Y) : C2 w Y v1 v2 := by
  have := h.lt
  exact ⟨h.bel.trans (b.mono h.bel.size), (b.block _ (by omega)).trans h.ka, (b.block _ h.lt).trans h.kr⟩
theorem C2.drewH {w W : World} {v1 v2 : Value} (h : Hid (C2 w W v1 v2)) : Hid (C2 w W.drew v1 v2) := hide ⟨(unhide h).bel.drew, (unhide h).ka, (unhide h).kr⟩
theorem kC2 {w W : World} {v1 v2 : Value} (h : Hid (C2 w W v1 v2)) : Below w.heap.size w W ∧ W.cell? ⟨w.heap.size, 0, none⟩ = some v1 ∧ W.cell? ⟨w.heap.size, 1, none⟩ = some v2 := by
  obtain ⟨h0, h1, -⟩ := blk_cells2 (unhide h).ka
  exact ⟨(unhide h).bel, h0, h1⟩
theorem farT {W : World} {g k o : Nat} {v v0 v1 : Value} (hg : k ≠ g) (c : W.cell? ⟨k, o, none⟩ = some v) : ((W.setCell ⟨g, 0, none⟩ v0).setCell ⟨g, 1, none⟩ v1).cell? ⟨k, o, none⟩ = some v := by
  have hn : ∀ j, (⟨g, j, none⟩ : Addr) ≠ ⟨k, o, none⟩ := fun j e => hg (congrArg Addr.block e).symm
  rw [World.cell?_setCell_other _ _ _ _ (hn 1), World.cell?_setCell_other _ _ _ _ (hn 0)]
  exact c
theorem kC2s {w W : World} {v1 v2 : Value} (h : Hid (C2 w W v1 v2)) (x y : Value) : Below w.heap.size w ((W.setCell ⟨w.heap.size + 1, 0, none⟩ x).setCell ⟨w.heap.size + 1, 1, none⟩ y) ∧ ((W.setCell ⟨w.heap.size + 1, 0, none⟩ x).setCell ⟨w.heap.size + 1, 1, none⟩ y).cell? ⟨w.heap.size, 0, none⟩ = some v1 ∧ ((W.setCell ⟨w.heap.size + 1, 0, none⟩ x).setCell ⟨w.heap.size + 1, 1, none⟩ y).cell? ⟨w.heap.size, 1, none⟩ = some v2 := by
  obtain ⟨hb, h0, h1⟩ := kC2 h
  exact ⟨(hb.setCell (p := ⟨w.heap.size + 1, 0, none⟩) (by simp) _).setCell (p := ⟨w.heap.size + 1, 1, none⟩) (by simp) _, farT (by omega) h0, farT (by omega) h1⟩
theorem C2.new (w : World) (v1 v2 : Value) : C2 w ((w.alloc (.cells #[v1, v2] 37)).alloc (.cells #[.slice none 0 0, .slice none 0 0] 37)) v1 v2 :=
  ⟨((Below.refl w.heap.size w).alloc (Nat.le_refl _) _).alloc (by simp) _, lowB2 w _ _, newB2 w _ _⟩

--@end

set_option maxHeartbeats 8000000 in
set_option maxRecDepth 100000 in
theorem islice_any (ai : Option Addr) (ni ci : Nat) (xs : List Itm) (af : Option Addr) (nf cf : Nat) (fs : List Flr) (la : Option Addr) (ln lc : Nat) (ls : List Int) (ok : Bool) (h0 : Hid (okS xs fs = ok)) (n1 n2 : Nat) (hn1 : Hid ((scI ok ls xs).length = n1)) (hn2 : Hid ((scF ok ls fs).length = n2)) (w : World)
    (hni : ni ≤ 140737488351232) (hnf : nf ≤ 140737488351232) (hln : ln ≤ 140737488351232) (hx : Rw encI 6 w (.slice ai ni ci) xs) (hf : Rw encF 2 w (.slice af nf cf) fs) (hl : RwN w (.slice la ln lc) ls) :
    Calls Try.prog 89 #[.agg #[.slice ai ni ci, .slice af nf cf], .slice la ln lc] w fun e w' => ∃ a1 c1 a2 c2, e = .returned (.agg #[.slice a1 n1 c1, .slice a2 n2 c2]) ∧ OwI w.heap.size w' (.slice a1 n1 c1) (scI ok ls xs) ∧ OwF w.heap.size w' (.slice a2 n2 c2) (scF ok ls fs) ∧ Below w.heap.size w w' := by
  have HX := hide hx
  have HF := hide hf
  have HL := hide hl
  clear hx hf hl
  go_enter Try.func89, Try.ntmps89
  go_wp2_with fail
  refine (istateok_any ai ni ci xs af nf cf fs _ h0 _ hni hnf ((unhide HX).later (C2.new w _ _).bel) ((unhide HF).later (C2.new w _ _).bel)).mono ?_
  rintro e w1 ⟨rfl, b1⟩
  have CV := hide ((C2.new w (.slice ai ni ci) (.slice af nf cf)).later b1)
  have z1 := (unhide CV).lt
  have za : w.heap.size < w1.heap.size := by omega
  obtain ⟨p0, p1, pf⟩ := blk_cells2 (unhide CV).kr
  clear b1
  cases ok
  · obtain rfl := unhide hn1
    obtain rfl := unhide hn2
    go_wp2
    exact bodyPost_ret (v := .agg #[.slice none 0 0, .slice none 0 0]) (by simp [results, Try.results89, go_sem, p0, p1]) rfl ⟨none, 0, none, 0, rfl, World.ownsRow_nil _ _ _ _, World.ownsRow_nil _ _ _ _, (kC2s CV _ _).1⟩
  · have OA := (okS_iff _ _).1 (unhide h0)
    have SMX := hide OA.sml
    have m5 : ni ≤ 5 := by have := (unhide HX).len.1; have := OA.len5.1; omega
    have f5 : nf ≤ 5 := by have := (unhide HF).len.1; have := OA.len5.2; omega
    clear OA h0
    clear p0 p1 pf
    have CD := C2.drewH CV
    go_upto_region 3 with fail
    go_region_held3 (fun W => Below w.heap.size w W ∧ W.cell? ⟨w.heap.size, 0, none⟩ = some (.slice ai ni ci) ∧ W.cell? ⟨w.heap.size, 1, none⟩ = some (.slice af nf cf))
      (first | (with_reducible exact kC2 CV) | (with_reducible exact kC2 CD) | (with_reducible exact kC2 CA) | (with_reducible exact kC2 CB) | (with_reducible exact kC2s CB _ _))
      (first
        | (go_at_call 103; refine (iitemsat_any ai ni ci xs (unhide SMX) la ln lc ls _ m5 hln ((unhide HX).later (unhide CD).bel) ((unhide HL).later (unhide CD).bel)).mono ?_; rintro e w3 ⟨a1, m1, c1, rfl, o1, b3⟩; have CA := hide ((unhide CD).later b3); have OI := hide (o1.base (base' := w.heap.size + 1 + 1) (unhide CD).lt); clear o1 b3)
        | (go_at_call 104; refine (ifloorsat_any af nf cf fs la ln lc ls _ f5 hln ((unhide HF).later (unhide CA).bel) ((unhide HL).later (unhide CA).bel)).mono ?_; rintro e w4 ⟨a2, m2, c2, rfl, o2, b4⟩; have CB := hide ((unhide CA).later b4); have OJ := hide ((unhide OI).later b4); have OF := hide (o2.base (base' := w.heap.size + 1 + 1) (unhide CA).lt); obtain ⟨p0, p1, pf⟩ := blk_cells2 (unhide CB).kr; have zB := (unhide CB).lt; clear o2 b4))
    all_goals go_wp2
    all_goals
      obtain rfl : m1 = n1 := (((unhide OJ).rw encI_len).len.1).trans (unhide hn1)
      obtain rfl : m2 = n2 := (((unhide OF).rw encF_len).len.1).trans (unhide hn2)
      exact bodyPost_ret (v := .agg #[.slice a1 m1 c1, .slice a2 m2 c2]) (by simp [results, Try.results89, go_sem, p0, p1]) rfl ⟨a1, c1, a2, c2, rfl, Ow.base (((unhide OJ).set ⟨w.heap.size + 1, 0, none⟩ (by simp) _).set ⟨w.heap.size + 1, 1, none⟩ (by simp) _) (by omega), Ow.base (((unhide OF).set ⟨w.heap.size + 1, 0, none⟩ (by simp) _).set ⟨w.heap.size + 1, 1, none⟩ (by simp) _) (by omega), (kC2s CB _ _).1⟩
end Go.Proofs.Ytdpaocikmijioaf
