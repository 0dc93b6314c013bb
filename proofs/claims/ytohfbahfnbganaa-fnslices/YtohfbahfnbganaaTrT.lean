/-
  Trees: the program's. No statement is proved here.
-/
import Derived.Test.YtohfbahfnbganaaTrS
namespace Go.Proofs.Ytohfbahfnbganaa
open Go.RowKit

abbrev SumB (a b c d : Int) : Obj := .cells #[.int .i64 a, .int .i64 b, .int .i64 c, .int .i64 d] 79 (0, 0)
abbrev TreB (v : Value) (r : Int) : Obj := .cells #[v, .int .i64 r] 36 (0, 0)
def Fit64 (a : Int) : Prop := -9223372036854775808 ≤ a ∧ a ≤ 9223372036854775807
theorem fit4 {a b c d : Int} (h1 : Fit64 a) (h2 : Fit64 b) (h3 : Fit64 c) (h4 : Fit64 d) : ∀ (k : Nat) (x : Int), [a, b, c, d][k]? = some x → -9223372036854775808 ≤ x ∧ x ≤ 9223372036854775807 := by
  intro k x hx
  have := List.mem_of_getElem? hx
  simp at this; rcases this with rfl | rfl | rfl | rfl <;> assumption
theorem icrc_v (v : Value) (xs : List Int) (c : Int) (hc : Hid (crcOf xs = c)) (w : World) (hlen : xs.length ≤ 281474976710656) (hv : Seg w v xs) :
    Calls Try.prog 59 #[v] w fun e w' => e = .returned (.int .i64 c) ∧ w = w' := by rw [← unhide hc]; exact icrc_any v xs w hlen hv
/-- A block of numbers, of whatever kind, that the call itself laid. -/
theorem owN_blk {w : World} {g base : Nat} {E : TypeId} {ns : List Int} (hb : base ≤ g) (hl : ns.length ≤ 1000000) (h : w.heap[g]? = some (.cells (ns.map (Value.int .i64)).toArray E (0, 0))) : Ow encN 1 E base w (.slice (some ⟨g, 0, none⟩) ns.length ns.length) ns :=
  ⟨by rw [flatN]; simp, .inr ⟨g, ns.length, _, rfl, hb, h, Nat.le_refl _, by unfold maxLen; omega, by simp, by rw [flatN]; simp [List.take_of_length_le]⟩⟩
theorem rwS_blk {w : World} {g : Nat} {E : TypeId} {ns : List Int} {fz : Nat × Nat} (h : w.heap[g]? = some (.cells (ns.map (Value.int .i64)).toArray E fz)) : RwN w (.slice (some ⟨g, 0, none⟩) ns.length ns.length) ns := by
  refine ⟨_, _, rfl, Nat.le_refl _, .inr ⟨g, 0, rfl, (Array.getElem?_eq_some_iff.1 h).1, fun i x hx j hj => ?_⟩⟩
  obtain rfl : j = 0 := by omega
  obtain ⟨hi, rfl⟩ := List.getElem?_eq_some_iff.1 hx
  simp only [World.cell?, h]
  simp [encN, hi]
/-- While a tree is made of its sums: the sums, the result's variable. -/
structure C9 (w W : World) (a b c d : Int) : Prop where
  bel : Below w.heap.size w W
  ka : W.heap[w.heap.size]? = some (SumB a b c d)
  kr : W.heap[w.heap.size + 1]? = some (TreB (.slice none 0 0) 0)
section
variable {w W Y : World} {a b c d : Int}
theorem C9.lt (h : C9 w W a b c d) : w.heap.size + 1 < W.heap.size := (Array.getElem?_eq_some_iff.1 h.kr).1
theorem C9.later (h : C9 w W a b c d) (k : Below W.heap.size W Y) : C9 w Y a b c d := by
  have := h.lt
  exact ⟨h.bel.trans (k.mono h.bel.size), (k.block _ (by omega)).trans h.ka, (k.block _ h.lt).trans h.kr⟩
theorem C9.drewH (h : Hid (C9 w W a b c d)) : Hid (C9 w W.drew a b c d) := hide ((unhide h).later ((Below.refl _ _).drew))
theorem C9.rw (h : C9 w W a b c d) : RwN W (.slice (some ⟨w.heap.size, 0, none⟩) 4 4) [a, b, c, d] := rwS_blk (ns := [a, b, c, d]) h.ka
theorem C9.bs (h : Hid (C9 w W a b c d)) (x y : Value) : Below w.heap.size w ((W.setCell ⟨w.heap.size + 1, 0, none⟩ x).setCell ⟨w.heap.size + 1, 1, none⟩ y) := ((unhide h).bel.setCell (p := ⟨w.heap.size + 1, 0, none⟩) (by simp) _).setCell (p := ⟨w.heap.size + 1, 1, none⟩) (by simp) _
end
theorem C9.new (w : World) (a b c d : Int) : C9 w ((w.alloc (SumB a b c d)).alloc (TreB (.slice none 0 0) 0)) a b c d :=
  ⟨((Below.refl w.heap.size w).alloc (Nat.le_refl _) _).alloc (by simp) _, lowB2 w _ _, newB2 w _ _⟩

set_option maxHeartbeats 4000000 in
set_option maxRecDepth 100000 in
theorem itreewith_any (a b c d r : Int) (hr : Hid (rt [a, b, c, d] = r)) (w : World) (h1 : Fit64 a) (h2 : Fit64 b) (h3 : Fit64 c) (h4 : Fit64 d) :
    Calls Try.prog 49 #[.agg #[.int .i64 a, .int .i64 b, .int .i64 c, .int .i64 d]] w fun e w' => ∃ a1 c1, e = .returned (.agg #[.slice a1 4 c1, .int .i64 r]) ∧ Ow encN 1 79 w.heap.size w' (.slice a1 4 c1) [a, b, c, d] ∧ Below w.heap.size w w' := by
  have HF := hide (fit4 h1 h2 h3 h4)
  have hlb : (nums [a, b, c, d]).length ≤ 20 := nums_len [a, b, c, d]
  have q0 := crcOf_nonneg _ (nums_bytes [a, b, c, d])
  have q1 := crcOf_range _ (nums_bytes [a, b, c, d])
  obtain ⟨cc, HC⟩ : ∃ cc, Hid (crcOf (nums [a, b, c, d]) = cc) := ⟨_, hide rfl⟩
  rw [unhide HC] at q0 q1
  obtain rfl : cc % 1024 = r := by rw [← unhide hr, ← unhide HC]; rfl
  have htm : cc.tmod 1024 = cc % 1024 := Int.tmod_eq_emod_of_nonneg q0
  have HT := hide htm
  clear h1 h2 h3 h4 hr htm
  go_enter Try.func49, Try.ntmps49
  go_wp2_with fail
  have CV0 := C9.new w a b c d
  obtain ⟨V, hV⟩ : ∃ V, V = (w.alloc (SumB a b c d)).alloc (TreB (.slice none 0 0) 0) := ⟨_, rfl⟩
  have CV : Hid (C9 w V a b c d) := hide (by rw [hV]; exact CV0)
  rw [← hV]
  clear hV CV0
  have CD := C9.drewH CV
  go_region_held3 (fun W => Below w.heap.size w W)
    (first | (with_reducible exact (unhide CV).bel) | (with_reducible exact (unhide CD).bel) | (with_reducible exact (unhide CA).bel) | (with_reducible exact C9.bs CA _ _))
    (first
      | (go_at_call 47; refine (iputnums_any _ 4 4 [a, b, c, d] _ (by omega) (unhide HF) (unhide CD).rw).mono ?_; rintro e w3 ⟨v3, rfl, o3, b3⟩; have CA := hide ((unhide CD).later b3); have S3 := hide (seg_of_owns o3); obtain ⟨p0, p1, pf⟩ := blk_cells2 (unhide CA).kr; have zA := (unhide CA).lt; clear o3 b3)
      | (go_at_call 59; refine (icrc_v v3 (nums [a, b, c, d]) cc HC _ (by omega) (unhide S3)).mono ?_; rintro e _ ⟨rfl, rfl⟩))
  all_goals go_wp2
  all_goals exact bodyPost_ret (v := .agg #[.slice (some ⟨w.heap.size, 0, none⟩) 4 4, .int .i64 (cc % 1024)]) (by simp [results, Try.results49, go_sem, p0, p1, unhide HT]) rfl ⟨_, _, rfl, owN_blk (ns := [a, b, c, d]) (Nat.le_refl _) (by simp) (by
    rw [heap_setCell_other _ _ _ _ (by show w.heap.size ≠ w.heap.size + 1; omega), heap_setCell_other _ _ _ _ (by show w.heap.size ≠ w.heap.size + 1; omega)]
    exact (unhide CA).ka), C9.bs CA _ _⟩

theorem fill4 (ls : List Int) (h : ls.length = 4) (k : Nat) (hk : k ≤ 4) : (ls.take k ++ List.replicate (4 - k) 0).length = 4 := by simp; omega
/-- A tree as it is told: its leaves are a row of the call's own. -/
def OwT (base : Nat) (w : World) (v : Value) (ns : List Int) : Prop := ∃ E : TypeId, Ow encN 1 E base w v ns

set_option maxHeartbeats 4000000 in
set_option maxRecDepth 100000 in
theorem itreeof_any (ai : Option Addr) (ni ci : Nat) (xs : List Itm) (af : Option Addr) (nf cf : Nat) (fs : List Flr) (n : Nat) (hn : Hid ((trL xs fs).length = n)) (r : Int) (hr : Hid (trR xs fs = r)) (w : World)
    (hni : ni ≤ 140737488351232) (hnf : nf ≤ 140737488351232) (hx : Rw encI 6 w (.slice ai ni ci) xs) (hf : Rw encF 2 w (.slice af nf cf) fs) :
    Calls Try.prog 15 #[.agg #[.slice ai ni ci, .slice af nf cf]] w fun e w' => ∃ a1 c1, e = .returned (.agg #[.slice a1 n c1, .int .i64 r]) ∧ OwT w.heap.size w' (.slice a1 n c1) (trL xs fs) ∧ Below w.heap.size w w' := by
  obtain ⟨k1, HK1⟩ : ∃ k, Hid (okS xs fs = k) := ⟨_, hide rfl⟩
  have HX := hide hx
  have HF := hide hf
  clear hx hf
  obtain ⟨l0, H0⟩ : ∃ l, Hid (lsm xs fs 0 = l) := ⟨_, hide rfl⟩
  obtain ⟨l1, H1⟩ : ∃ l, Hid (lsm xs fs 1 = l) := ⟨_, hide rfl⟩
  obtain ⟨l2, H2⟩ : ∃ l, Hid (lsm xs fs 2 = l) := ⟨_, hide rfl⟩
  obtain ⟨l3, H3⟩ : ∃ l, Hid (lsm xs fs 3 = l) := ⟨_, hide rfl⟩
  have HG : Hid (Fit64 l0 ∧ Fit64 l1 ∧ Fit64 l2 ∧ Fit64 l3) := hide (by
    have r0 := lsm_range xs fs 0; have r1 := lsm_range xs fs 1; have r2 := lsm_range xs fs 2; have r3 := lsm_range xs fs 3
    rw [unhide H0] at r0; rw [unhide H1] at r1; rw [unhide H2] at r2; rw [unhide H3] at r3
    unfold Fit64; omega)
  have HZ : Hid (∀ (k : Nat) (z : Int), [l0, l1, l2, l3][k]? = some z → lsm xs fs (k : Int) = z) := hide (by
    intro k z hz
    match k, hz with
    | 0, hz => simp at hz; rw [← hz]; exact unhide H0
    | 1, hz => simp at hz; rw [← hz]; exact unhide H1
    | 2, hz => simp at hz; rw [← hz]; exact unhide H2
    | 3, hz => simp at hz; rw [← hz]; exact unhide H3
    | k + 4, hz => simp at hz)
  go_enter Try.func15, Try.ntmps15
  go_wp2_with fail
  have bW : Below w.heap.size w ((w.alloc (.cells #[.slice ai ni ci, .slice af nf cf] 27)).alloc (TreB (.slice none 0 0) 0)) := ((Below.refl w.heap.size w).alloc (Nat.le_refl _) _).alloc (by simp) _
  refine (istateok_any ai ni ci xs af nf cf fs _ HK1 _ hni hnf ((unhide HX).later bW) ((unhide HF).later bW)).mono ?_
  rintro e w1 ⟨rfl, b1⟩
  have BL := hide (bW.trans (b1.mono (by simp; omega)))
  have KA := hide ((b1.block w.heap.size (by simp; omega)).trans (lowB2 w _ _))
  have KR := hide ((b1.block (w.heap.size + 1) (by simp)).trans (newB2 w _ _))
  have z1 : w.heap.size + 1 < w1.heap.size := (Array.getElem?_eq_some_iff.1 (unhide KR)).1
  clear b1 bW
  cases k1
  · have e1 : trL xs fs = [] := by rw [trL, unhide HK1]; rfl
    have e2 : trR xs fs = 0 := by rw [trR, unhide HK1]; rfl
    obtain rfl : n = 0 := by rw [← unhide hn, e1]; rfl
    obtain rfl : r = 0 := by rw [← unhide hr, e2]
    obtain ⟨p0, p1, pf⟩ := blk_cells2 (unhide KR)
    go_wp2
    exact bodyPost_ret (v := .agg #[.slice none 0 0, .int .i64 0]) (by simp [results, Try.results15, go_sem, p0, p1]) rfl ⟨none, 0, rfl, ⟨3, by rw [e1]; exact World.ownsRow_nil _ _ _ _⟩, ((unhide BL).setCell (p := ⟨w.heap.size + 1, 0, none⟩) (by simp) _).setCell (p := ⟨w.heap.size + 1, 1, none⟩) (by simp) _⟩
  · have HTL : Hid (trL xs fs = [l0, l1, l2, l3]) := hide (by rw [trL, unhide HK1, unhide H0, unhide H1, unhide H2, unhide H3]; rfl)
    have HTR : Hid (rt [l0, l1, l2, l3] = r) := hide (by rw [← unhide hr, trR, unhide HK1, unhide H0, unhide H1, unhide H2, unhide H3]; rfl)
    obtain rfl : n = 4 := by rw [← unhide hn, unhide HTL]; rfl
    clear H0 H1 H2 H3 hn hr
    go_wp2
    go_loopw [9] (fun i wr => ∃ k : Nat, k ≤ 4 ∧ i = .int .i64 k ∧ Below w.heap.size w wr ∧ wr.heap[w.heap.size]? = some (.cells #[.slice ai ni ci, .slice af nf cf] 27 (0, 0)) ∧ wr.heap[w.heap.size + 1]? = some (TreB (.slice none 0 0) 0) ∧ Ow encN 1 79 w1.heap.size wr (.slice (some ⟨w1.heap.size, 0, none⟩) 4 4) (([l0, l1, l2, l3] : List Int).take k ++ List.replicate (4 - k) 0)) (fun i _ => 4 - (intOf i).toNat)
    case atStart =>
      refine ⟨0, by omega, rfl, (unhide BL).alloc (unhide BL).size _, ?_, ?_, ?_⟩
      · exact (Below.heap_alloc _ _ _ (by omega)).trans (unhide KA)
      · exact (Below.heap_alloc _ _ _ z1).trans (unhide KR)
      · exact owN_blk (ns := [0, 0, 0, 0]) (Nat.le_refl _) (by simp) (newB1 w1 _)
    case round =>
      clear BL KA KR
      obtain ⟨k, hk, rfl, hbel, ha, hr0, hown⟩ := hrel
      have BL := hide hbel
      have KA := hide ha
      have KR := hide hr0
      have HO := hide hown
      have hsz := hbel.size
      have zr : w.heap.size + 1 < wr.heap.size := (Array.getElem?_eq_some_iff.1 hr0).1
      clear hr0
      by_cases hlt : k < 4
      · obtain ⟨z, hz⟩ : ∃ z, [l0, l1, l2, l3][k]? = some z := ⟨_, List.getElem?_eq_getElem (by simpa using hlt)⟩
        have HQ := hide (unhide HZ k z hz)
        have HS : Hid ((([l0, l1, l2, l3] : List Int).take k ++ List.replicate (4 - k) 0).set k z = ([l0, l1, l2, l3] : List Int).take (k + 1) ++ List.replicate (4 - (k + 1)) 0) := hide (fill_set [l0, l1, l2, l3] 0 k z hz)
        obtain ⟨p0, p1, -⟩ := blk_cells2 ha
        have hgl := (World.ownsRow.lt hown w1.heap.size rfl).2
        clear hbel ha hown hz
        go_wp2_with fail
        refine (ileafsum_any ai ni ci xs af nf cf fs (k : Int) z HQ _ hni hnf ((unhide HX).later (unhide BL)) ((unhide HF).later (unhide BL))).mono ?_
        rintro e w2 ⟨rfl, b2⟩
        have BL2 := hide ((unhide BL).trans (b2.mono hsz))
        have KA2 := hide ((b2.block _ (by omega)).trans (unhide KA))
        have KR2 := hide ((b2.block _ zr).trans (unhide KR))
        have HO2 := hide ((unhide HO).later b2)
        have hO2 : w2.ownsRow w1.heap.size 79 1 (.slice (some ⟨w1.heap.size, 0, none⟩) 4 4) 4 ((([l0, l1, l2, l3] : List Int).take k ++ List.replicate (4 - k) 0).flatMap encN) := by
          have h := unhide HO2
          unfold Ow at h
          rwa [fill4 [l0, l1, l2, l3] rfl k hk] at h
        have hfz := hO2.frozenAt k
        have hcy := hO2.cellAt k (by omega)
        obtain ⟨y, hy⟩ : ∃ y, w2.cell? ⟨w1.heap.size, k, none⟩ = some y := by
          rw [hcy, flatN]
          exact ⟨_, List.getElem?_eq_getElem (by simp; omega)⟩
        have R1 := hide (hO2.stored k (.int .i64 z)).1
        clear hcy hO2 b2 p0 p1 BL KA KR HO
        go_wp2
        go_roundw
        case rel =>
          refine ⟨k + 1, by omega, by go_num, (unhide BL2).setCell (p := ⟨w1.heap.size, k, none⟩) (by simp; omega) _, ?_, ?_, ?_⟩
          · rw [heap_setCell_other _ _ _ _ (by show w.heap.size ≠ w1.heap.size; omega)]; exact unhide KA2
          · rw [heap_setCell_other _ _ _ _ (by show w.heap.size + 1 ≠ w1.heap.size; omega)]; exact unhide KR2
          · have h := unhide R1
            rw [flatN, ← List.map_set, unhide HS, ← flatN] at h
            unfold Ow
            rw [fill4 [l0, l1, l2, l3] rfl (k + 1) (by omega)]
            exact h
        case measure => simp [intOf]; omega
      · obtain rfl : k = 4 := by omega
        obtain ⟨g1, g2, g3, g4⟩ := unhide HG
        have c0 := World.ownsRow.cellAt hown 0 (by simp)
        have c1 := World.ownsRow.cellAt hown 1 (by simp)
        have c2 := World.ownsRow.cellAt hown 2 (by simp)
        have c3 := World.ownsRow.cellAt hown 3 (by simp)
        simp [encN] at c0 c1 c2 c3
        have hgl := (World.ownsRow.lt hown w1.heap.size rfl).2
        clear hbel ha hown HO
        go_wp2_with fail
        refine (itreewith_any l0 l1 l2 l3 r HTR _ g1 g2 g3 g4).mono ?_
        rintro e w2 ⟨a1, q1, rfl, o2, b2⟩
        have BL2 := hide ((unhide BL).trans (b2.mono hsz))
        have KR2 := hide ((b2.block _ zr).trans (unhide KR))
        have O2 := hide (o2.base (base' := w.heap.size + 1 + 1) zr)
        obtain ⟨p0, p1, pf⟩ := blk_cells2 (unhide KR2)
        have z2 : w.heap.size + 1 < w2.heap.size := (Array.getElem?_eq_some_iff.1 (unhide KR2)).1
        clear o2 b2 c0 c1 c2 c3 BL KA KR g1 g2 g3 g4
        go_wp2
        exact bodyPost_ret (v := .agg #[.slice a1 4 q1, .int .i64 r]) (by simp [results, Try.results15, go_sem, p0, p1]) rfl ⟨a1, q1, rfl, ⟨_, by rw [unhide HTL]; exact Ow.base (((unhide O2).set ⟨w.heap.size + 1, 0, none⟩ (by simp) _).set ⟨w.heap.size + 1, 1, none⟩ (by simp) _) (by omega)⟩, ((unhide BL2).setCell (p := ⟨w.heap.size + 1, 0, none⟩) (by simp) _).setCell (p := ⟨w.heap.size + 1, 1, none⟩) (by simp) _⟩
end Go.Proofs.Ytohfbahfnbganaa
