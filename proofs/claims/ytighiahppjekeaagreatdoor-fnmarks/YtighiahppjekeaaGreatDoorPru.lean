/-
  What all know to be over is pruned: the specification's and the program's. No statement is proved here.
-/
import Derived.Test.YtighiahppjekeaaGreatDoorMkQ
import Derived.Test.YtighiahppjekeaaGreatDoorTbC
import Derived.Test.YtighiahppjekeaaGreatDoorMkO
import Derived.Test.YtighiahppjekeaaGreatDoorIJoin
import Derived.Test.YtighiahppjekeaaGreatDoorSJoin2
import Derived.Test.YtighiahppjekeaaGreatDoorLgD
import Derived.Test.YtighiahppjekeaaGreatDoorLgU
import Derived.Deep.RegionHeld3
import Derived.Deep.DeepCutAuto
namespace Go.Proofs.YtighiahppjekeaaGreatDoor
open Go.RowKit

theorem own_res {α : Type} {enc : α → List Value} {k : Nat} {E : TypeId} {base r : Nat} {W : World} {v u0 u1 : Value} {xs : List α} (h : Ow enc k E base W v xs) (hb : W.heap[r]? = some (.cells #[u0, u1] 27 (0, 0))) (hne : E ≠ 27) (v0 v1 : Value) :
    Ow enc k E base ((W.setCell ⟨r, 0, none⟩ v0).setCell ⟨r, 1, none⟩ v1) v xs :=
  h.apartT (b := some r) (fun g e => by cases e; exact ⟨_, _, hb⟩) hne (grown_trans9 (grown_set9 W r 0 v0) (grown_set9 _ r 1 v1))
theorem min9_any (a b m : Int) (h : Hid (min a b = m)) (w : World) : Calls Tryz.prog 33 #[.int .i64 a, .int .i64 b] w fun e w' => e = .returned (.int .i64 m) ∧ w = w' := by
  by_cases hl : a < b
  · have hd : decide (a < b) = true := by simpa using hl
    obtain rfl : m = a := by rw [← unhide h]; omega
    clear h hl
    go_enter Tryz.func33, Tryz.ntmps33
    go_wp2
    go_ret
    exact ⟨rfl, rfl⟩
  · have hd : decide (a < b) = false := by simpa using hl
    obtain rfl : m = b := by rw [← unhide h]; omega
    clear h hl
    go_enter Tryz.func33, Tryz.ntmps33
    go_wp2
    go_ret
    exact ⟨rfl, rfl⟩
/-- While floors are gathered: the state in block r, the floors so far in block b. -/
structure P9 (w W : World) (b : Nat) (v0 v1 u : Value) (gs : List Flr) : Prop where
  bel : Below w.heap.size w W
  ks : W.heap[w.heap.size]? = some (.cells #[v0, v1] 27 (0, 0))
  kr : W.heap[w.heap.size + 1]? = some (.cells #[.slice none 0 0, .slice none 0 0] 27 (0, 0))
  hb : w.heap.size + 1 < b
  kb : W.heap[b]? = some (.cells #[.slice none 0 0, u] 27 (0, 0))
  of : OwF (w.heap.size + 2) W u gs
section
variable {w W X : World} {b : Nat} {v0 v1 u : Value} {gs : List Flr}
theorem P9.bl (h : P9 w W b v0 v1 u gs) : b < W.heap.size := (Array.getElem?_eq_some_iff.1 h.kb).1
theorem P9.later (h : P9 w W b v0 v1 u gs) (bl : Below W.heap.size W X) : P9 w X b v0 v1 u gs := by
  have h1 := h.bl
  have h2 := h.hb
  exact ⟨h.bel.trans (bl.mono h.bel.size), (bl.block _ (by omega)).trans h.ks, (bl.block _ (by omega)).trans h.kr, h2, (bl.block _ h1).trans h.kb, h.of.later bl⟩
theorem P9.put (h : P9 w W b v0 v1 u gs) {u2 : Value} {gs2 : List Flr} (hO : OwF (w.heap.size + 2) X u2 gs2) (hG : W.grownBy X u.ownBlock) : P9 w (X.setCell ⟨b, 1, none⟩ u2) b v0 v1 u2 gs2 := by
  have h1 := h.bl
  have h2 := h.hb
  have hlt : ∀ i, u.ownBlock = some i → w.heap.size + 2 ≤ i := fun i e => (World.ownsRow.lt h.of i e).1
  have hne : u.ownBlock ≠ some b := own_ne h.of h.kb (by decide)
  have kb := (hG.block b h1 (fun e => hne e.symm)).trans h.kb
  have G := grown_set9 X b 1 u2
  exact ⟨(h.bel.grown hG h.bel.size (fun i e => by have := hlt i e; omega)).setCell (p := ⟨b, 1, none⟩) (by show w.heap.size ≤ b; omega) u2,
    (heap_setCell_other _ _ _ _ (by show w.heap.size ≠ b; omega)).trans ((hG.block _ (by omega) (fun e => by have := hlt _ e.symm; omega)).trans h.ks),
    (heap_setCell_other _ _ _ _ (by show w.heap.size + 1 ≠ b; omega)).trans ((hG.block _ (by omega) (fun e => by have := hlt _ e.symm; omega)).trans h.kr), h2,
    heap_setCell_same _ _ _ _ _ _ kb, hO.apartT (b := some b) (fun g e => by cases e; exact ⟨_, _, kb⟩) (by decide) G⟩
end
set_option maxHeartbeats 8000000 in
set_option maxRecDepth 100000 in
theorem sprune_any (ai : Option Addr) (ni ci : Nat) (xs : List Itm) (af : Option Addr) (nf cf : Nat) (fs : List Flr) (ta : Option Addr) (tn tc : Nat) (t : Tb) (n1 n2 : Nat) (hn1 : Hid ((prI xs fs t).length = n1)) (hn2 : Hid ((prF xs fs t).length = n2)) (w : World)
    (hni : ni ≤ 2000000) (hnf : nf ≤ 2000000) (htn : tn ≤ 1048576) (hm : ∀ (i : Nat) (q : List Int), t[i]? = some q → q.length ≤ 140737488351232) (hx : Rw encI 6 w (.slice ai ni ci) xs) (hf : Rw encF 2 w (.slice af nf cf) fs) (ht : RwG w (.slice ta tn tc) t) :
    Calls Tryz.prog 9 #[.agg #[.slice ai ni ci, .slice af nf cf], .slice ta tn tc] w fun e w' => ∃ a1 c1 a2 c2, e = .returned (.agg #[.slice a1 n1 c1, .slice a2 n2 c2]) ∧ Rw encI 6 w' (.slice a1 n1 c1) (prI xs fs t) ∧ Rw encF 2 w' (.slice a2 n2 c2) (prF xs fs t) ∧ Below w.heap.size w w' := by
  obtain ⟨i1, gi, gz0, gz1, gz2⟩ := info_parts Tryz.infoFloor
  have HZ2 := hide gz2
  have HX := hide hx
  have HF := hide hf
  have HT := hide ht
  have HM := hide hm
  obtain ⟨ok, hok⟩ : ∃ ok, Hid (okS xs fs = ok) := ⟨_, hide rfl⟩
  clear hx hf ht hm gz2
  go_enter Tryz.func9, Tryz.ntmps9
  go_wp2_with fail
  refine (sstateok_any ai ni ci xs af nf cf fs ok hok _ (by omega) (by omega) (((unhide HX).alloc _).alloc _) (((unhide HF).alloc _).alloc _)).mono ?_
  rintro e w1 ⟨rfl, b1⟩
  have bA : Below w.heap.size w ((w.alloc (.cells #[.slice ai ni ci, .slice af nf cf] 27)).alloc (.cells #[.slice none 0 0, .slice none 0 0] 27)) := ((Below.refl _ _).alloc (Nat.le_refl _) _).alloc (by simp) _
  have HB1 := hide (bA.trans (b1.mono (by simp; omega)))
  have k1 := (b1.block w.heap.size (by simp; omega)).trans (lowB2 w _ _)
  have k2 := (b1.block (w.heap.size + 1) (by simp)).trans (newB2 w _ _)
  have z1 : w.heap.size + 1 < w1.heap.size := (Array.getElem?_eq_some_iff.1 k2).1
  have K1 := hide k1
  have K2 := hide k2
  obtain ⟨p0, p1, -⟩ := blk_cells2 k1
  clear b1 bA k1 k2
  cases ok
  · go_wp2_with fail
    refine (l3copy7_any ai ni ci xs af nf cf fs _ hni hnf ((unhide HX).later (unhide HB1)) ((unhide HF).later (unhide HB1))).mono ?_
    rintro e w2 ⟨e1, d1, e2, d2, rfl, o1, o2, b2⟩
    have k2 := (b2.block _ z1).trans (unhide K2)
    obtain ⟨q0, q1, qf⟩ := blk_cells2 k2
    have EI : Hid (prI xs fs t = xs) := hide (by unfold prI; rw [if_neg (by rw [unhide hok]; simp)])
    have EF : Hid (prF xs fs t = fs) := hide (by unfold prF; rw [if_neg (by rw [unhide hok]; simp)])
    obtain rfl : ni = n1 := by rw [← unhide hn1, unhide EI]; exact (unhide HX).len.1
    obtain rfl : nf = n2 := by rw [← unhide hn2, unhide EF]; exact (unhide HF).len.1
    have HB2 := hide ((unhide HB1).trans (b2.mono (unhide HB1).size))
    have R1 := hide (o1.other k2 (by decide) (grown_trans9 (grown_set9 w2 (w.heap.size + 1) 0 (.slice e1 ni d1)) (grown_set9 _ (w.heap.size + 1) 1 (.slice e2 nf d2))))
    have R2 := hide (o2.other k2 (by decide) (grown_trans9 (grown_set9 w2 (w.heap.size + 1) 0 (.slice e1 ni d1)) (grown_set9 _ (w.heap.size + 1) 1 (.slice e2 nf d2))))
    clear o1 o2 b2 p0 p1 k2
    go_wp2
    exact bodyPost_ret (v := .agg #[.slice e1 ni d1, .slice e2 nf d2]) (by simp [results, Tryz.results9, go_sem, q0, q1]) rfl ⟨e1, d1, e2, d2, rfl, by rw [unhide EI]; exact (unhide R1).rw encI_len, by rw [unhide EF]; exact (unhide R2).rw encF_len, ((unhide HB2).setCell (by simp) _).setCell (by simp) _⟩
  have EI : Hid (prI xs fs t = joinI xs fs [] (pf xs fs t)) := hide (by unfold prI; rw [if_pos (unhide hok)])
  have EF : Hid (prF xs fs t = joinF fs (pf xs fs t)) := hide (by unfold prF; rw [if_pos (unhide hok)])
  have H0 : Hid (P9 w (w1.alloc (.cells #[.slice none 0 0, .slice none 0 0] 27)) w1.heap.size (.slice ai ni ci) (.slice af nf cf) (.slice none 0 0) []) := hide (by
    have b : Below w1.heap.size w1 (w1.alloc (.cells #[.slice none 0 0, .slice none 0 0] 27)) := (Below.refl _ _).alloc (Nat.le_refl _) _
    exact ⟨(unhide HB1).trans (b.mono (unhide HB1).size), (b.block _ (by omega)).trans (unhide K1), (b.block _ z1).trans (unhide K2), z1, heap_alloc_new _ _, World.ownsRow_nil _ _ _ _⟩)
  clear hok p0 p1
  go_wp2
  go_loopw [6] (fun i wr => ∃ (k : Nat) (a : Option Addr) (n d : Nat), k ≤ 5 ∧ i = .int .i64 k ∧ P9 w wr w1.heap.size (.slice ai ni ci) (.slice af nf cf) (.slice a n d) (mkK (fun id => min (com t id) (gone xs fs id)) k)) (fun i _ => 5 - (intOf i).toNat)
  case atStart => exact ⟨0, none, 0, 0, Nat.zero_le _, rfl, unhide H0⟩
  case round =>
    obtain ⟨k, a, n, d, hk, rfl, hp⟩ := hrel
    have HP := hide hp
    have hbl := hp.bl
    have hbb := hp.hb
    have hbs := hp.bel.size
    have hlen := (hp.of.rw encF_len).len.1
    have hl5 := mkK_len (fun id => min (com t id) (gone xs fs id)) k
    have hn5 : n ≤ 5 := by omega
    have HL := hide hlen
    by_cases hlt : k < 5
    · obtain ⟨c, hc⟩ : ∃ c, Hid (com t (k : Int) = c) := ⟨_, hide rfl⟩
      obtain ⟨g, hg⟩ : ∃ g, Hid (gone xs fs (k : Int) = g) := ⟨_, hide rfl⟩
      obtain ⟨m, hm⟩ : ∃ m, Hid (min c g = m) := ⟨_, hide rfl⟩
      have HKK : Hid (mkK (fun id => min (com t id) (gone xs fs id)) (k + 1) = mkK (fun id => min (com t id) (gone xs fs id)) k ++ if 0 < m then [((k : Int), m)] else []) := hide (by
        rw [mkK, mk1]
        simp only [unhide hc, unhide hg, unhide hm])
      obtain ⟨p0, p1, -⟩ := blk_cells2 hp.ks
      have m0 := later_some (w := wr) (b := w.heap.size) (o := 0) (by omega) p0
      have m1 := later_some (w := wr) (b := w.heap.size) (o := 1) (by omega) p1
      have HXr := hide ((unhide HX).later hp.bel)
      have HFr := hide ((unhide HF).later hp.bel)
      have HTr := hide ((unhide HT).later hp.bel)
      clear p0 p1 hp hlen hl5
      go_wp2_with fail
      refine wp_region_later (by kernel_rfl) (by kernel_rfl) ?_
      repeat (go_big_quiet_step (first
        | (go_at_call 34; exact Calls.later_same (scommon_any ta tn tc t k c hc _ (by omega) (unhide HM) ((unhide HTr).later (later_below _ _ _))))
        | (go_at_call 35; exact Calls.later_of (sgone_any ai ni ci xs af nf cf fs k g hg _ (by omega) (by omega) ((unhide HXr).in_later _ _) ((unhide HFr).in_later _ _)))
        | (go_at_call 33; exact Calls.later_same (min9_any c g m hm _))))
      refine wpQuiet_nil ?_
      intro w4 b4
      have HP4 := hide ((unhide HP).later b4)
      have hs4 := (unhide HP4).bel.size
      have hbl4 := (unhide HP4).bl
      clear b4 m0 m1 HXr HFr HTr
      by_cases hm0 : 0 < m
      · have hd : decide (0 < m) = true := by simpa using hm0
        have HN : Hid (mkK (fun id => min (com t id) (gone xs fs id)) (k + 1) = mkK (fun id => min (com t id) (gone xs fs id)) k ++ [((k : Int), m)]) := hide (by rw [unhide HKK, if_pos hm0])
        obtain ⟨s0, s1, sf⟩ := blk_cells2 (unhide HP4).kb
        go_wp2_with (first | (at_builtin; refine wpList_app1 encF_len (by omega) oneF 59 25 i1 _ 16 Tryz.underlying25 gi gz0 gz1 (unhide HZ2) rfl (by omega) w4 ((k : Int), m) rfl _ _ rfl (w.heap.size + 2) _ _ n HL rfl (unhide HP4).of rfl (by omega) (by omega) ?_))
        intro a' c' w5 hO hG
        have HP5 := hide ((unhide HP4).put hO hG)
        have k5 := (hG.block w1.heap.size hbl4 (fun e => own_ne (unhide HP4).of (unhide HP4).kb (by decide) e.symm)).trans (unhide HP4).kb
        obtain ⟨u0, u1, uf⟩ := blk_cells2 k5
        clear hO hG s0 s1 sf k5 HP4 HP
        go_wp2
        go_roundw
        case rel => exact ⟨k + 1, _, _, _, by omega, by go_num, by rw [unhide HN]; exact unhide HP5⟩
        case measure => simp [intOf]; omega
      · have hd : decide (0 < m) = false := by simpa using hm0
        have HN : Hid (mkK (fun id => min (com t id) (gone xs fs id)) (k + 1) = mkK (fun id => min (com t id) (gone xs fs id)) k) := hide (by rw [unhide HKK, if_neg hm0, List.append_nil])
        go_wp2
        go_roundw
        case rel => exact ⟨k + 1, _, _, _, by omega, by go_num, by rw [unhide HN]; exact unhide HP4⟩
        case measure => simp [intOf]; omega
    · obtain rfl : k = 5 := by omega
      obtain ⟨p0, p1, -⟩ := blk_cells2 hp.ks
      obtain ⟨s0, s1, sf⟩ := blk_cells2 hp.kb
      have RP : Hid (Rw encF 2 wr (.slice a n d) (pf xs fs t)) := hide (hp.of.rw encF_len)
      have HXr := hide ((unhide HX).later hp.bel)
      have HFr := hide ((unhide HF).later hp.bel)
      clear hp hlen hl5
      go_wp2_with fail
      refine (l3join_any ai ni ci xs af nf cf fs none 0 0 [] a n d (pf xs fs t) _ (by omega) (by omega) (by omega) (by omega) (unhide HXr) (unhide HFr) Rw.nil (unhide RP)).mono ?_
      rintro e w6 ⟨e1, m1, d1, e2, m2, d2, rfl, o1, o2, b6⟩
      have k6 := (b6.block _ (show w.heap.size + 1 < wr.heap.size by omega)).trans (unhide HP).kr
      obtain ⟨q0, q1, qf⟩ := blk_cells2 k6
      obtain rfl : m1 = n1 := by rw [← unhide hn1, unhide EI]; exact (o1.rw encI_len).len.1
      obtain rfl : m2 = n2 := by rw [← unhide hn2, unhide EF]; exact (o2.rw encF_len).len.1
      have HB6 := hide ((unhide HP).bel.trans (b6.mono hbs))
      have R1 := hide (own_res o1 k6 (by decide) (.slice e1 m1 d1) (.slice e2 m2 d2))
      have R2 := hide (own_res o2 k6 (by decide) (.slice e1 m1 d1) (.slice e2 m2 d2))
      clear o1 o2 b6 p0 p1 s0 s1 sf k6
      go_wp2
      exact bodyPost_ret (v := .agg #[.slice e1 m1 d1, .slice e2 m2 d2]) (by simp [results, Tryz.results9, go_sem, q0, q1]) rfl ⟨e1, d1, e2, d2, rfl, by rw [unhide EI]; exact (unhide R1).rw encI_len, by rw [unhide EF]; exact (unhide R2).rw encF_len, ((unhide HB6).setCell (by simp) _).setCell (by simp) _⟩
/-- While the program gathers floors: the state in a block of its own, the result in the next one. -/
structure R9 (w W : World) (v0 v1 u : Value) (gs : List Flr) : Prop where
  bel : Below w.heap.size w W
  ks : W.heap[w.heap.size]? = some (.cells #[v0, v1] 27 (0, 0))
  kr : W.heap[w.heap.size + 1]? = some (.cells #[.slice none 0 0, .slice none 0 0] 27 (0, 0))
  of : OwF (w.heap.size + 2) W u gs
section
variable {w W X : World} {v0 v1 u : Value} {gs : List Flr}
theorem R9.lt (h : R9 w W v0 v1 u gs) : w.heap.size + 2 ≤ W.heap.size := (Array.getElem?_eq_some_iff.1 h.kr).1
theorem R9.later (h : R9 w W v0 v1 u gs) (bl : Below W.heap.size W X) : R9 w X v0 v1 u gs := by
  have h2 := h.lt
  exact ⟨h.bel.trans (bl.mono h.bel.size), (bl.block _ (by omega)).trans h.ks, (bl.block _ (by omega)).trans h.kr, h.of.later bl⟩
theorem R9.grown (h : R9 w W v0 v1 u gs) {u2 : Value} {gs2 : List Flr} (hO : OwF (w.heap.size + 2) X u2 gs2) (hG : W.grownBy X u.ownBlock) : R9 w X v0 v1 u2 gs2 := by
  have h2 := h.lt
  have hlt : ∀ i, u.ownBlock = some i → w.heap.size + 2 ≤ i := fun i e => (World.ownsRow.lt h.of i e).1
  exact ⟨h.bel.grown hG h.bel.size (fun i e => by have := hlt i e; omega), (hG.block _ (by omega) (fun e => by have := hlt _ e.symm; omega)).trans h.ks, (hG.block _ (by omega) (fun e => by have := hlt _ e.symm; omega)).trans h.kr, hO⟩
theorem R9.s (h : R9 w W v0 v1 u gs) : Below w.heap.size w W ∧ W.cell? ⟨w.heap.size, 0, none⟩ = some v0 ∧ W.cell? ⟨w.heap.size, 1, none⟩ = some v1 := by
  obtain ⟨p0, p1, -⟩ := blk_cells2 h.ks
  exact ⟨h.bel, p0, p1⟩
end
set_option maxHeartbeats 8000000 in
set_option maxRecDepth 100000 in
theorem iprune_any (ai : Option Addr) (ni ci : Nat) (xs : List Itm) (af : Option Addr) (nf cf : Nat) (fs : List Flr) (hs : Sml xs) (ta : Option Addr) (tn tc : Nat) (t : Tb) (n1 n2 : Nat) (hn1 : Hid ((prI xs fs t).length = n1)) (hn2 : Hid ((prF xs fs t).length = n2)) (w : World)
    (hni : ni ≤ 2000000) (hnf : nf ≤ 2000000) (htn : tn ≤ 1048576) (hm : ∀ (i : Nat) (q : List Int), t[i]? = some q → q.length ≤ 140737488351232) (hx : Rw encI 6 w (.slice ai ni ci) xs) (hf : Rw encF 2 w (.slice af nf cf) fs) (ht : RwG w (.slice ta tn tc) t) :
    Calls Tryz.prog 7 #[.agg #[.slice ai ni ci, .slice af nf cf], .slice ta tn tc] w fun e w' => ∃ a1 c1 a2 c2, e = .returned (.agg #[.slice a1 n1 c1, .slice a2 n2 c2]) ∧ OwI w.heap.size w' (.slice a1 n1 c1) (prI xs fs t) ∧ OwF w.heap.size w' (.slice a2 n2 c2) (prF xs fs t) ∧ Below w.heap.size w w' := by
  have HS := hide hs
  have HX := hide hx
  have HF := hide hf
  have HT := hide ht
  have HM := hide hm
  obtain ⟨ok, hok⟩ : ∃ ok, Hid (okS xs fs = ok) := ⟨_, hide rfl⟩
  have H0 : Hid (R9 w ((w.alloc (.cells #[.slice ai ni ci, .slice af nf cf] 27)).alloc (.cells #[.slice none 0 0, .slice none 0 0] 27)) (.slice ai ni ci) (.slice af nf cf) (.slice none 0 0) []) := hide ⟨((Below.refl _ _).alloc (Nat.le_refl _) _).alloc (by simp) _, lowB2 w _ _, newB2 w _ _, World.ownsRow_nil _ _ _ _⟩
  clear hx hf ht hm hs
  go_enter Tryz.func7, Tryz.ntmps7
  go_wp2
  go_loopw [5, 9] (fun u i wr => ∃ (k : Nat) (a : Option Addr) (n d : Nat), k ≤ 5 ∧ i = .int .i64 k ∧ u = .slice a n d ∧ R9 w wr (.slice ai ni ci) (.slice af nf cf) (.slice a n d) (mkK (fun id => min (com t id) (gone xs fs id)) k)) (fun _ i _ => 5 - (intOf i).toNat)
  case atStart => exact ⟨0, none, 0, 0, Nat.zero_le _, rfl, rfl, unhide H0⟩
  case round =>
    obtain ⟨k, a, n, d, hk, rfl, rfl, hp⟩ := hrel
    have hbs := hp.bel.size
    have hlen := (hp.of.rw encF_len).len.1
    have hl5 := mkK_len (fun id => min (com t id) (gone xs fs id)) k
    have hn5 : n ≤ 5 := by omega
    by_cases hlt : k < 5
    · obtain ⟨c, hc⟩ : ∃ c, Hid (com t (k : Int) = c) := ⟨_, hide rfl⟩
      obtain ⟨g, hg⟩ : ∃ g, Hid (gone xs fs (k : Int) = g) := ⟨_, hide rfl⟩
      have hg3 := gone_le xs fs (k : Int)
      rw [unhide hg] at hg3
      obtain ⟨m, hm⟩ : ∃ m, min c g = m := ⟨_, rfl⟩
      obtain ⟨q, hq⟩ : ∃ q, Hid (inB m 1 1000 = q) := ⟨_, hide rfl⟩
      have HKK : Hid (mkK (fun id => min (com t id) (gone xs fs id)) (k + 1) = mkK (fun id => min (com t id) (gone xs fs id)) k ++ if q then [((k : Int), m)] else []) := hide (by
        rw [mkK, mk1]
        simp only [unhide hc, unhide hg, hm]
        rw [← unhide hq]
        by_cases h : 0 < m
        · rw [if_pos h, if_pos (by simp [inB]; omega)]
        · rw [if_neg h, if_neg (by simp [inB]; omega)])
      have HRd := hide (hp.later (Below.refl _ _).drew)
      have HTd := hide ((unhide HT).later (unhide HRd).bel)
      have hS0 := (unhide HRd).s
      obtain ⟨p0, p1, -⟩ := blk_cells2 hp.ks
      clear hp hlen hl5 hg3 HTd
      have HTd := hide ((unhide HT).later (unhide HRd).bel)
      generalize mkK (fun id => min (com t id) (gone xs fs id)) k = gs at HRd HKK ⊢
      by_cases hcg : g < c
      all_goals
        go_wp2_with fail
        go_region_held3 (fun W => Below w.heap.size w W ∧ W.cell? ⟨w.heap.size, 0, none⟩ = some (.slice ai ni ci) ∧ W.cell? ⟨w.heap.size, 1, none⟩ = some (.slice af nf cf))
          (first | (with_reducible exact hS0) | (with_reducible assumption))
          (first
            | (go_at_call 14; refine (icommon_any ta tn tc t k c hc _ (by omega) (unhide HM) (unhide HTd)).mono ?_; rintro e u1 ⟨rfl, b6⟩; have HR1 := hide ((unhide HRd).later b6); have hS1 := (unhide HR1).s; clear b6)
            | (go_at_call 12; refine (igone_any ai ni ci xs af nf cf fs k g hg _ (by omega) (by omega) ((unhide HX).later (unhide HR1).bel) ((unhide HF).later (unhide HR1).bel)).mono ?_; rintro e u2 ⟨rfl, b6⟩; have HR2 := hide ((unhide HR1).later b6); have hS2 := (unhide HR2).s; clear b6)
            | (go_at_call 30; refine (iwithF_any (w.heap.size + 2) a n d gs ((k : Int), m) q hq _ (by omega) (unhide HR2).lt (unhide HR2).of).mono ?_; rintro e u3 ⟨a', n', d', rfl, hO, hG⟩; have HR3 := hide ((unhide HR2).grown hO hG); have hS3 := (unhide HR3).s; clear hO hG))
      all_goals
        go_wp2
        go_roundw
      all_goals first
        | exact ⟨k + 1, _, _, _, by omega, by go_num, rfl, by rw [unhide HKK]; exact unhide HR3⟩
        | (simp [intOf]; omega)
    · obtain rfl : k = 5 := by omega
      have HR := hide hp
      obtain ⟨p0, p1, -⟩ := blk_cells2 hp.ks
      have hlt2 := hp.lt
      have RP : Hid (Rw encF 2 wr (.slice a n d) (pf xs fs t)) := hide (hp.of.rw encF_len)
      have HXr := hide ((unhide HX).later hp.bel)
      have HFr := hide ((unhide HF).later hp.bel)
      have HJ : Hid ((okS xs fs && okS [] (pf xs fs t)) = ok) := hide (by rw [unhide hok, (okS_iff _ _).2 (pf_ok xs fs t), Bool.and_true])
      obtain ⟨m1, hm1⟩ : ∃ m, Hid ((jnI ok xs fs [] (pf xs fs t)).length = m) := ⟨_, hide rfl⟩
      obtain ⟨m2, hm2⟩ : ∃ m, Hid ((jnF ok fs (pf xs fs t)).length = m) := ⟨_, hide rfl⟩
      clear hp hlen hl5
      go_wp2_with fail
      refine (ijoin_any ai ni ci xs af nf cf fs none 0 0 [] a n d (pf xs fs t) ok HJ m1 m2 hm1 hm2 _ (by omega) (by omega) (by omega) (by omega) (unhide HXr) (unhide HFr) Rw.nil (unhide RP)).mono ?_
      rintro e w6 ⟨e1, d1, e2, d2, rfl, o1, o2, b6⟩
      have HR6 := hide ((unhide HR).later b6)
      have O1 := hide o1
      have O2 := hide o2
      have hs6 := b6.size
      clear o1 o2 b6 p0 p1 HXr HFr
      cases ok
      · obtain ⟨p0, p1, -⟩ := blk_cells2 (unhide HR6).ks
        go_upto_region 8 with fail
        obtain ⟨W, hW⟩ : ∃ q, q = w6.alloc (.cells #[.slice e1 m1 d1, .slice e2 m2 d2] 27) := ⟨_, rfl⟩
        rw [← hW]
        have bW : Below w6.heap.size w6 W := by rw [hW]; exact (Below.refl _ _).alloc (Nat.le_refl _) _
        have HR7 := hide ((unhide HR6).later bW)
        clear hW bW p0 p1
        obtain ⟨p0, p1, -⟩ := blk_cells2 (unhide HR7).ks
        have hs7 := (unhide HR7).bel.size
        go_wp2_with fail
        refine (istatecopy_any ai ni ci xs (unhide HS) af nf cf fs _ hni hnf ((unhide HX).later (unhide HR7).bel) ((unhide HF).later (unhide HR7).bel)).mono ?_
        rintro e w8 ⟨f1, g1, f2, g2, rfl, o1, o2, b8⟩
        have HR8 := hide ((unhide HR7).later b8)
        obtain ⟨q0, q1, qf⟩ := blk_cells2 (unhide HR8).kr
        have EI : Hid (prI xs fs t = xs) := hide (by unfold prI; rw [if_neg (by rw [unhide hok]; simp)])
        have EF : Hid (prF xs fs t = fs) := hide (by unfold prF; rw [if_neg (by rw [unhide hok]; simp)])
        obtain rfl : ni = n1 := by rw [← unhide hn1, unhide EI]; exact (unhide HX).len.1
        obtain rfl : nf = n2 := by rw [← unhide hn2, unhide EF]; exact (unhide HF).len.1
        have R1 := hide ((own_res o1 (unhide HR8).kr (by decide) (.slice f1 ni g1) (.slice f2 nf g2)).base hs7)
        have R2 := hide ((own_res o2 (unhide HR8).kr (by decide) (.slice f1 ni g1) (.slice f2 nf g2)).base hs7)
        have HB8 := hide (unhide HR8).bel
        clear o1 o2 b8 p0 p1
        go_wp2
        exact bodyPost_ret (v := .agg #[.slice f1 ni g1, .slice f2 nf g2]) (by simp [results, Tryz.results7, go_sem, q0, q1]) rfl ⟨f1, g1, f2, g2, rfl, by rw [unhide EI]; exact unhide R1, by rw [unhide EF]; exact unhide R2, ((unhide HB8).setCell (by simp) _).setCell (by simp) _⟩
      · go_upto_region 8 with fail
        obtain ⟨W, hW⟩ : ∃ q, q = w6.alloc (.cells #[.slice e1 m1 d1, .slice e2 m2 d2] 27) := ⟨_, rfl⟩
        rw [← hW]
        have bW : Below w6.heap.size w6 W := by rw [hW]; exact (Below.refl _ _).alloc (Nat.le_refl _) _
        have s0 : W.cell? ⟨w6.heap.size, 0, none⟩ = some (.slice e1 m1 d1) := by rw [hW]; simp
        have s1 : W.cell? ⟨w6.heap.size, 1, none⟩ = some (.slice e2 m2 d2) := by rw [hW]; simp
        have HR7 := hide ((unhide HR6).later bW)
        have O3 := hide ((unhide O1).later bW)
        have O4 := hide ((unhide O2).later bW)
        clear hW bW O1 O2
        obtain ⟨q0, q1, qf⟩ := blk_cells2 (unhide HR7).kr
        have EI : Hid (prI xs fs t = joinI xs fs [] (pf xs fs t)) := hide (by unfold prI; rw [if_pos (unhide hok)])
        have EF : Hid (prF xs fs t = joinF fs (pf xs fs t)) := hide (by unfold prF; rw [if_pos (unhide hok)])
        obtain rfl : m1 = n1 := by rw [← unhide hn1, unhide EI, ← unhide hm1]; rfl
        obtain rfl : m2 = n2 := by rw [← unhide hn2, unhide EF, ← unhide hm2]; rfl
        have R1 := hide ((own_res (unhide O3) (unhide HR7).kr (by decide) (.slice e1 m1 d1) (.slice e2 m2 d2)).base hbs)
        have R2 := hide ((own_res (unhide O4) (unhide HR7).kr (by decide) (.slice e1 m1 d1) (.slice e2 m2 d2)).base hbs)
        have HB8 := hide (unhide HR7).bel
        have hw6 : w.heap.size + 1 ≠ w6.heap.size := by omega
        go_wp2
        exact bodyPost_ret (v := .agg #[.slice e1 m1 d1, .slice e2 m2 d2]) (by simp [results, Tryz.results7, go_sem, q0, q1]) rfl ⟨e1, d1, e2, d2, rfl, by rw [unhide EI]; exact unhide R1, by rw [unhide EF]; exact unhide R2, ((unhide HB8).setCell (by simp) _).setCell (by simp) _⟩
end Go.Proofs.YtighiahppjekeaaGreatDoor
