/-
  Trees: the specification's TreeOf. No statement is proved here.
-/
import Derived.Test.YtohfbahfnbganaaGreatTrT
namespace Go.Proofs.YtohfbahfnbganaaGreat
open Go.RowKit

/-- While a tree is made: the state, the result's variable, the tree, its leaves. -/
structure TQ4 (w X : World) (g : Nat) (v1 v2 : Value) (a1 : Option Addr) (n1 c1 : Nat) (ns : List Int) : Prop where
  bel : Below w.heap.size w X
  hg : w.heap.size + 1 < g
  ka : X.heap[w.heap.size]? = some (.cells #[v1, v2] 27 (0, 0))
  kr : X.heap[w.heap.size + 1]? = some (TreB (.slice none 0 0) 0)
  kt : X.heap[g]? = some (TreB (.slice a1 n1 c1) 0)
  ob : OwN (g + 1) X (.slice a1 n1 c1) ns
section
variable {w X Y : World} {g : Nat} {v1 v2 : Value} {a1 : Option Addr} {n1 c1 : Nat} {ns ms : List Int}
theorem TQ4.lt (h : TQ4 w X g v1 v2 a1 n1 c1 ns) : g < X.heap.size := (Array.getElem?_eq_some_iff.1 h.kt).1
theorem TQ4.later (h : TQ4 w X g v1 v2 a1 n1 c1 ns) (b : Below X.heap.size X Y) : TQ4 w Y g v1 v2 a1 n1 c1 ns := by
  have := h.lt; have := h.hg
  exact ⟨h.bel.trans (b.mono h.bel.size), h.hg, (b.block _ (by omega)).trans h.ka, (b.block _ (by omega)).trans h.kr, (b.block _ h.lt).trans h.kt, h.ob.later b⟩
theorem TQ4.drew (h : TQ4 w X g v1 v2 a1 n1 c1 ns) : TQ4 w X.drew g v1 v2 a1 n1 c1 ns := h.later ((Below.refl _ _).drew)
theorem TQ4.turn (h : TQ4 w X g v1 v2 a1 n1 c1 ns) (hG : X.grownBy Y (Value.slice a1 n1 c1).ownBlock) {k : Nat} (hk : k ≤ g) : Y.heap[k]? = X.heap[k]? :=
  hG.block k (by have := h.lt; omega) (fun q => by have := (World.ownsRow.lt h.ob k q.symm).1; omega)
theorem TQ4.app (h : TQ4 w X g v1 v2 a1 n1 c1 ns) {a' : Option Addr} {n' c' : Nat} (ho : OwN (g + 1) Y (.slice a' n' c') ms) (hG : X.grownBy Y (Value.slice a1 n1 c1).ownBlock) : TQ4 w (Y.setCell ⟨g, 0, none⟩ (.slice a' n' c')) g v1 v2 a' n' c' ms := by
  have hs := h.bel.size
  have hg := h.hg
  have t := fun k hk => h.turn hG (k := k) hk
  have bl : ∀ k, k < g → (Y.setCell ⟨g, 0, none⟩ (.slice a' n' c')).heap[k]? = X.heap[k]? := fun k hk => by
    rw [heap_setCell_other _ _ _ _ (by show k ≠ g; omega)]; exact t k (by omega)
  refine ⟨(h.bel.grown hG hs (fun k hk => by have := (World.ownsRow.lt h.ob k hk).1; omega)).setCell (p := ⟨g, 0, none⟩) (by simp; omega) _, hg, (bl _ (by omega)).trans h.ka, (bl _ (by omega)).trans h.kr, ?_, ho.set _ (by simp) _⟩
  exact heap_setCell_same _ _ _ _ _ _ ((t g (Nat.le_refl _)).trans h.kt)
end

set_option maxHeartbeats 8000000 in
set_option maxRecDepth 100000 in
theorem streeof_any (ai : Option Addr) (ni ci : Nat) (xs : List Itm) (af : Option Addr) (nf cf : Nat) (fs : List Flr) (n : Nat) (hn : Hid ((trL xs fs).length = n)) (r : Int) (hr : Hid (trR xs fs = r)) (w : World)
    (hni : ni ≤ 140737488351232) (hnf : nf ≤ 140737488351232) (hx : Rw encI 6 w (.slice ai ni ci) xs) (hf : Rw encF 2 w (.slice af nf cf) fs) :
    Calls Tryz.prog 8 #[.agg #[.slice ai ni ci, .slice af nf cf]] w fun e w' => ∃ a1 c1, e = .returned (.agg #[.slice a1 n c1, .int .i64 r]) ∧ OwN w.heap.size w' (.slice a1 n c1) (trL xs fs) ∧ Below w.heap.size w w' := by
  obtain ⟨i0, hi, hz0, hz1, hz2⟩ := info_parts Tryz.infoInt
  obtain ⟨k1, HK1⟩ : ∃ k, Hid (okS xs fs = k) := ⟨_, hide rfl⟩
  have HX := hide hx
  have HF := hide hf
  clear hx hf
  obtain ⟨l0, H0⟩ : ∃ l, Hid (lsm xs fs 0 = l) := ⟨_, hide rfl⟩
  obtain ⟨l1, H1⟩ : ∃ l, Hid (lsm xs fs 1 = l) := ⟨_, hide rfl⟩
  obtain ⟨l2, H2⟩ : ∃ l, Hid (lsm xs fs 2 = l) := ⟨_, hide rfl⟩
  obtain ⟨l3, H3⟩ : ∃ l, Hid (lsm xs fs 3 = l) := ⟨_, hide rfl⟩
  have HG : Hid (Fit64 l0 ∧ Fit64 l1 ∧ Fit64 l2 ∧ Fit64 l3) := hide (by
    have r0 := lsm_range xs fs 0; have r1 := lsm_range xs fs 1; have r2 := lsm_range xs fs 2; have r3 := lsm_range xs fs 3
    rw [unhide H0] at r0; rw [unhide H1] at r1; rw [unhide H2] at r2; rw [unhide H3] at r3
    unfold Fit64; omega)
  have HZ : Hid (∀ (k : Nat) (z : Int), [l0, l1, l2, l3][k]? = some z → lsm xs fs (k : Int) = z) := hide (by
    intro k z hz
    match k, hz with
    | 0, hz => simp at hz; rw [← hz]; exact unhide H0
    | 1, hz => simp at hz; rw [← hz]; exact unhide H1
    | 2, hz => simp at hz; rw [← hz]; exact unhide H2
    | 3, hz => simp at hz; rw [← hz]; exact unhide H3
    | k + 4, hz => simp at hz)
  go_enter Tryz.func8, Tryz.ntmps8
  go_wp2_with fail
  have bW : Below w.heap.size w ((w.alloc (.cells #[.slice ai ni ci, .slice af nf cf] 27)).alloc (TreB (.slice none 0 0) 0)) := ((Below.refl w.heap.size w).alloc (Nat.le_refl _) _).alloc (by simp) _
  refine (sstateok_any ai ni ci xs af nf cf fs _ HK1 _ hni hnf ((unhide HX).later bW) ((unhide HF).later bW)).mono ?_
  rintro e w1 ⟨rfl, b1⟩
  have BL := hide (bW.trans (b1.mono (by simp; omega)))
  have KA := hide ((b1.block w.heap.size (by simp; omega)).trans (lowB2 w _ _))
  have KR := hide ((b1.block (w.heap.size + 1) (by simp)).trans (newB2 w _ _))
  have z1 : w.heap.size + 1 < w1.heap.size := (Array.getElem?_eq_some_iff.1 (unhide KR)).1
  clear b1 bW
  cases k1
  · have e1 : trL xs fs = [] := by rw [trL, unhide HK1]; rfl
    have e2 : trR xs fs = 0 := by rw [trR, unhide HK1]; rfl
    obtain rfl : n = 0 := by rw [← unhide hn, e1]; rfl
    obtain rfl : r = 0 := by rw [← unhide hr, e2]
    obtain ⟨p0, p1, pf⟩ := blk_cells2 (unhide KR)
    go_wp2
    exact bodyPost_ret (v := .agg #[.slice none 0 0, .int .i64 0]) (by simp [results, Tryz.results8, go_sem, p0, p1]) rfl ⟨none, 0, rfl, by rw [e1]; exact World.ownsRow_nil _ _ _ _, ((unhide BL).setCell (p := ⟨w.heap.size + 1, 0, none⟩) (by simp) _).setCell (p := ⟨w.heap.size + 1, 1, none⟩) (by simp) _⟩
  · have HTL : Hid (trL xs fs = [l0, l1, l2, l3]) := hide (by rw [trL, unhide HK1, unhide H0, unhide H1, unhide H2, unhide H3]; rfl)
    have HTR : Hid (rt [l0, l1, l2, l3] = r) := hide (by rw [← unhide hr, trR, unhide HK1, unhide H0, unhide H1, unhide H2, unhide H3]; rfl)
    obtain rfl : n = 4 := by rw [← unhide hn, unhide HTL]; rfl
    clear H0 H1 H2 H3 hn hr
    go_wp2
    go_loopw [4] (fun i wr => ∃ (k : Nat) (a1 : Option Addr) (c1 : Nat), k ≤ 4 ∧ i = .int .i64 k ∧ TQ4 w wr w1.heap.size (.slice ai ni ci) (.slice af nf cf) a1 k c1 (([l0, l1, l2, l3] : List Int).take k)) (fun i _ => 4 - (intOf i).toNat)
    case atStart =>
      refine ⟨0, none, 0, by omega, rfl, (unhide BL).alloc (unhide BL).size _, z1, ?_, ?_, newB1 w1 _, World.ownsRow_nil _ _ _ _⟩
      · exact (Below.heap_alloc _ _ _ (by omega)).trans (unhide KA)
      · exact (Below.heap_alloc _ _ _ z1).trans (unhide KR)
    case round =>
      clear BL KA KR
      obtain ⟨k, a1, c1, hk, rfl, hT⟩ := hrel
      have TV := hide hT
      have hlt0 := hT.lt
      obtain ⟨p0, p1, -⟩ := blk_cells2 hT.ka
      obtain ⟨t0, t1, tf⟩ := blk_cells2 hT.kt
      clear hT
      by_cases hlt : k < 4
      · obtain ⟨z, hz⟩ : ∃ z, [l0, l1, l2, l3][k]? = some z := ⟨_, List.getElem?_eq_getElem (by simpa using hlt)⟩
        have HQ := hide (unhide HZ k z hz)
        have HS : Hid (([l0, l1, l2, l3] : List Int).take (k + 1) = ([l0, l1, l2, l3] : List Int).take k ++ [z]) := hide (by rw [List.take_add_one, hz]; rfl)
        have hn1 : Hid (k = (([l0, l1, l2, l3] : List Int).take k).length) := hide (by simp; omega)
        have TD := hide (unhide TV).drew
        clear hz
        go_wp2_with fail
        go_region_law (first
          | (go_simp; go_at_call 22; refine (sleafsum_any ai ni ci xs af nf cf fs (k : Int) z HQ _ hni hnf ((unhide HX).later (unhide TD).bel) ((unhide HF).later (unhide TD).bel)).mono ?_; rintro e w2 ⟨rfl, b2⟩; have T2 := hide ((unhide TD).later b2); have zT2 := (unhide T2).lt; obtain ⟨t0, t1, tf⟩ := blk_cells2 (unhide T2).kt; clear b2)
          | (refine step_app1 encN_len (by omega) oneN 3 34 i0 _ 8 Tryz.underlying34 hi hz0 hz1 hz2 rfl (by omega) w2 z rfl _ _ rfl (w1.heap.size + 1) _ (([l0, l1, l2, l3] : List Int).take k) k hn1 rfl (unhide T2).ob rfl (by omega) (by have := (unhide T2).lt; omega) ?_; intro a8 c8 w6 hO hG; obtain ⟨pq0, pq1, pqf⟩ := blk_cells2 (((unhide T2).turn hG (Nat.le_refl _)).trans (unhide T2).kt); have T6 := hide ((unhide T2).app hO hG); clear hO hG))
        all_goals clear p0 p1 t0 t1 tf
        all_goals
          go_wp2
          go_roundw
          case rel => exact ⟨k + 1, a8, c8, by omega, by go_num, by rw [unhide HS]; exact unhide T6⟩
          case measure => simp [intOf]; omega
      · obtain rfl : k = 4 := by omega
        replace TV := hide (show TQ4 w wr w1.heap.size (.slice ai ni ci) (.slice af nf cf) a1 4 c1 [l0, l1, l2, l3] from unhide TV)
        obtain ⟨g1, g2, g3, g4⟩ := unhide HG
        clear p0 p1
        go_wp2_with fail
        refine (l6root_any a1 4 c1 [l0, l1, l2, l3] r HTR _ (by omega) (fit4 g1 g2 g3 g4) ((unhide TV).ob.rw encN_len)).mono ?_
        rintro e w2 ⟨rfl, b2⟩
        have T2 := hide ((unhide TV).later b2)
        have z2 := (unhide T2).lt
        clear t0 t1 tf b2
        obtain ⟨t0, t1, tf⟩ := blk_cells2 (unhide T2).kt
        obtain ⟨r0, r1, rf⟩ := blk_cells2 (unhide T2).kr
        have O2 := hide (Ow.base (base' := w1.heap.size + 1) (unhide T2).ob (by omega))
        clear g1 g2 g3 g4
        go_wp2
        exact bodyPost_ret (v := .agg #[.slice a1 4 c1, .int .i64 r]) (by simp [results, Tryz.results8, go_sem, r0, r1]) rfl ⟨a1, c1, rfl, by rw [unhide HTL]; exact Ow.base ((((unhide O2).set ⟨w1.heap.size, 1, none⟩ (by simp) _).set ⟨w.heap.size + 1, 0, none⟩ (by simp; omega) _).set ⟨w.heap.size + 1, 1, none⟩ (by simp; omega) _) (by omega), (((unhide T2).bel.setCell (p := ⟨w1.heap.size, 1, none⟩) (by simp; omega) _).setCell (p := ⟨w.heap.size + 1, 0, none⟩) (by simp) _).setCell (p := ⟨w.heap.size + 1, 1, none⟩) (by simp) _⟩
end Go.Proofs.YtohfbahfnbganaaGreat
