/-
  What a state lacks of another one: the program's. No statement is proved here.
-/
import Derived.Test.YtdpaocikmijioadVwP
import Derived.Test.YtdpaocikmijioadSt3
import Derived.Test.YtdpaocikmijioadStBx
import Derived.Test.YtdpaocikmijioadRegs6
import Derived.Test.YtdpaocikmijioadApp2
import Derived.Test.YtdpaocikmijioadIStOk
import Derived.Test.YtdpaocikmijioadStT
import Derived.Test.YtdpaocikmijioadStM
namespace Go.Proofs.Ytdpaocikmijioad
open Go.RowKit

/-- While an item is copied: the argument, the result's variable. -/
structure C6 (w W : World) (x : Itm) : Prop where
  bel : Below w.heap.size w W
  k1 : W.heap[w.heap.size]? = some (.cells #[.int .i64 x.1, .int .i64 x.2.1, .int .i64 x.2.2.1, .int .i64 x.2.2.2.1, .int .i64 x.2.2.2.2.1, .string x.2.2.2.2.2] 53 (0, 0))
  k2 : W.heap[w.heap.size + 1]? = some (.cells #[.int .i64 0, .int .i64 0, .int .i64 0, .int .i64 0, .int .i64 0, .string ⟨#[]⟩] 53 (0, 0))
theorem C6.lt {w W : World} {x : Itm} (h : C6 w W x) : w.heap.size + 1 < W.heap.size := (Array.getElem?_eq_some_iff.1 h.k2).1
theorem C6.later {w W Y : World} {x : Itm} (h : C6 w W x) (b : Below W.heap.size W Y) : C6 w Y x := by
  have := h.lt
  exact ⟨h.bel.trans (b.mono h.bel.size), (b.block _ (by omega)).trans h.k1, (b.block _ h.lt).trans h.k2⟩
theorem C6.drewH {w W : World} {x : Itm} (h : Hid (C6 w W x)) : Hid (C6 w W.drew x) := hide ⟨(unhide h).bel.drew, (unhide h).k1, (unhide h).k2⟩
theorem kC6 {w W : World} {x : Itm} (h : Hid (C6 w W x)) : Below w.heap.size w W ∧ W.cell? ⟨w.heap.size, 0, none⟩ = some (.int .i64 x.1) ∧ W.cell? ⟨w.heap.size, 1, none⟩ = some (.int .i64 x.2.1) ∧ W.cell? ⟨w.heap.size, 2, none⟩ = some (.int .i64 x.2.2.1) ∧ W.cell? ⟨w.heap.size, 3, none⟩ = some (.int .i64 x.2.2.2.1) ∧ W.cell? ⟨w.heap.size, 4, none⟩ = some (.int .i64 x.2.2.2.2.1) ∧ W.cell? ⟨w.heap.size, 5, none⟩ = some (.string x.2.2.2.2.2) := by
  obtain ⟨h0, h1, h2, h3, h4, h5, -⟩ := blk_cells6 (unhide h).k1
  exact ⟨(unhide h).bel, h0, h1, h2, h3, h4, h5⟩
theorem kC6s {w W : World} {x : Itm} (h : Hid (C6 w W x)) (v0 v1 v2 v3 v4 v5 : Value) : Below w.heap.size w ((((((W.setCell ⟨w.heap.size + 1, 0, none⟩ v0).setCell ⟨w.heap.size + 1, 1, none⟩ v1).setCell ⟨w.heap.size + 1, 2, none⟩ v2).setCell ⟨w.heap.size + 1, 3, none⟩ v3).setCell ⟨w.heap.size + 1, 4, none⟩ v4).setCell ⟨w.heap.size + 1, 5, none⟩ v5) ∧ ((((((W.setCell ⟨w.heap.size + 1, 0, none⟩ v0).setCell ⟨w.heap.size + 1, 1, none⟩ v1).setCell ⟨w.heap.size + 1, 2, none⟩ v2).setCell ⟨w.heap.size + 1, 3, none⟩ v3).setCell ⟨w.heap.size + 1, 4, none⟩ v4).setCell ⟨w.heap.size + 1, 5, none⟩ v5).cell? ⟨w.heap.size, 0, none⟩ = some (.int .i64 x.1) ∧ ((((((W.setCell ⟨w.heap.size + 1, 0, none⟩ v0).setCell ⟨w.heap.size + 1, 1, none⟩ v1).setCell ⟨w.heap.size + 1, 2, none⟩ v2).setCell ⟨w.heap.size + 1, 3, none⟩ v3).setCell ⟨w.heap.size + 1, 4, none⟩ v4).setCell ⟨w.heap.size + 1, 5, none⟩ v5).cell? ⟨w.heap.size, 1, none⟩ = some (.int .i64 x.2.1) ∧ ((((((W.setCell ⟨w.heap.size + 1, 0, none⟩ v0).setCell ⟨w.heap.size + 1, 1, none⟩ v1).setCell ⟨w.heap.size + 1, 2, none⟩ v2).setCell ⟨w.heap.size + 1, 3, none⟩ v3).setCell ⟨w.heap.size + 1, 4, none⟩ v4).setCell ⟨w.heap.size + 1, 5, none⟩ v5).cell? ⟨w.heap.size, 2, none⟩ = some (.int .i64 x.2.2.1) ∧ ((((((W.setCell ⟨w.heap.size + 1, 0, none⟩ v0).setCell ⟨w.heap.size + 1, 1, none⟩ v1).setCell ⟨w.heap.size + 1, 2, none⟩ v2).setCell ⟨w.heap.size + 1, 3, none⟩ v3).setCell ⟨w.heap.size + 1, 4, none⟩ v4).setCell ⟨w.heap.size + 1, 5, none⟩ v5).cell? ⟨w.heap.size, 3, none⟩ = some (.int .i64 x.2.2.2.1) ∧ ((((((W.setCell ⟨w.heap.size + 1, 0, none⟩ v0).setCell ⟨w.heap.size + 1, 1, none⟩ v1).setCell ⟨w.heap.size + 1, 2, none⟩ v2).setCell ⟨w.heap.size + 1, 3, none⟩ v3).setCell ⟨w.heap.size + 1, 4, none⟩ v4).setCell ⟨w.heap.size + 1, 5, none⟩ v5).cell? ⟨w.heap.size, 4, none⟩ = some (.int .i64 x.2.2.2.2.1) ∧ ((((((W.setCell ⟨w.heap.size + 1, 0, none⟩ v0).setCell ⟨w.heap.size + 1, 1, none⟩ v1).setCell ⟨w.heap.size + 1, 2, none⟩ v2).setCell ⟨w.heap.size + 1, 3, none⟩ v3).setCell ⟨w.heap.size + 1, 4, none⟩ v4).setCell ⟨w.heap.size + 1, 5, none⟩ v5).cell? ⟨w.heap.size, 5, none⟩ = some (.string x.2.2.2.2.2) := by
  obtain ⟨hb, h0, h1, h2, h3, h4, h5⟩ := kC6 h
  have ne : w.heap.size ≠ w.heap.size + 1 := by omega
  exact ⟨below_set6 (by omega) hb, blk_far6 ne h0, blk_far6 ne h1, blk_far6 ne h2, blk_far6 ne h3, blk_far6 ne h4, blk_far6 ne h5⟩

set_option maxHeartbeats 4000000 in
set_option maxRecDepth 100000 in
theorem icopyI_any (x : Itm) (hd : x.2.2.2.2.2.size ≤ 281474976710656) (w : World) :
    Calls Try.prog 72 #[.agg #[.int .i64 x.1, .int .i64 x.2.1, .int .i64 x.2.2.1, .int .i64 x.2.2.2.1, .int .i64 x.2.2.2.2.1, .string x.2.2.2.2.2]] w fun e w' => e = .returned (.agg #[.int .i64 x.1, .int .i64 x.2.1, .int .i64 x.2.2.1, .int .i64 x.2.2.2.1, .int .i64 x.2.2.2.2.1, .string x.2.2.2.2.2]) ∧ Below w.heap.size w w' := by
  go_enter Try.func72, Try.ntmps72
  go_upto_region 1 with fail
  obtain ⟨V, hV⟩ : ∃ V, V = (w.alloc (.cells #[.int .i64 x.1, .int .i64 x.2.1, .int .i64 x.2.2.1, .int .i64 x.2.2.2.1, .int .i64 x.2.2.2.2.1, .string x.2.2.2.2.2] 53)).alloc (.cells #[.int .i64 0, .int .i64 0, .int .i64 0, .int .i64 0, .int .i64 0, .string ⟨#[]⟩] 53) := ⟨_, rfl⟩
  have CV := hide (show C6 w V x from by rw [hV]; exact ⟨((Below.refl w.heap.size w).alloc (Nat.le_refl _) _).alloc (by simp) _, lowB2 w _ _, newB2 w _ _⟩)
  rw [← hV]
  clear hV
  have CD := C6.drewH CV
  have z1 := (unhide CV).lt
  have z0 : w.heap.size < V.heap.size := by omega
  go_region_held3 (fun W => Below w.heap.size w W ∧ W.cell? ⟨w.heap.size, 0, none⟩ = some (.int .i64 x.1) ∧ W.cell? ⟨w.heap.size, 1, none⟩ = some (.int .i64 x.2.1) ∧ W.cell? ⟨w.heap.size, 2, none⟩ = some (.int .i64 x.2.2.1) ∧ W.cell? ⟨w.heap.size, 3, none⟩ = some (.int .i64 x.2.2.2.1) ∧ W.cell? ⟨w.heap.size, 4, none⟩ = some (.int .i64 x.2.2.2.2.1) ∧ W.cell? ⟨w.heap.size, 5, none⟩ = some (.string x.2.2.2.2.2))
    (first | (with_reducible exact kC6 CV) | (with_reducible exact kC6 CD) | (with_reducible exact kC6 CA) | (with_reducible exact kC6s CA _ _ _ _ _ _))
    (first | (go_at_call 60; refine (icopy_any x.2.1 x.2.2.1 x.2.2.2.1 x.2.2.2.2.1 x.2.2.2.2.2 hd _).mono ?_; rintro e w6 ⟨rfl, b6⟩; (first | (with_reducible have CA := hide ((unhide CD).later b6)) | (with_reducible have CA := hide ((unhide CV).later b6))); obtain ⟨q0, q1, q2, q3, q4, q5, qf⟩ := blk_cells6 (unhide CA).k2; have zA := (unhide CA).lt; clear b6))
  all_goals go_wp2
  all_goals exact bodyPost_ret (v := .agg #[.int .i64 x.1, .int .i64 x.2.1, .int .i64 x.2.2.1, .int .i64 x.2.2.2.1, .int .i64 x.2.2.2.2.1, .string x.2.2.2.2.2]) (by simp [results, Try.results72, go_sem, q0, q1, q2, q3, q4, q5]) rfl ⟨rfl, (kC6s CA _ _ _ _ _ _).1⟩
theorem lkF_pos {fs gs : List Flr} {k : Nat} {x : Flr} (hx : gs[k]? = some x) (h : lkF1 fs x = true) : lkF fs (gs.take (k + 1)) = lkF fs (gs.take k) ++ [x] := by
  rw [lkF, take_filter hx, if_pos h]; rfl
theorem lkF_neg {fs gs : List Flr} {k : Nat} {x : Flr} (hx : gs[k]? = some x) (h : lkF1 fs x = false) : lkF fs (gs.take (k + 1)) = lkF fs (gs.take k) := by
  rw [lkF, take_filter hx, if_neg (by simp [h]), List.append_nil]; rfl
theorem lkI_pos {xs ys : List Itm} {fs : List Flr} {k : Nat} {x : Itm} (hx : ys[k]? = some x) (h : lkI1 xs fs x = true) : lkI xs fs (ys.take (k + 1)) = lkI xs fs (ys.take k) ++ [x] := by
  rw [lkI, take_filter hx, if_pos h]; rfl
theorem lkI_neg {xs ys : List Itm} {fs : List Flr} {k : Nat} {x : Itm} (hx : ys[k]? = some x) (h : lkI1 xs fs x = false) : lkI xs fs (ys.take (k + 1)) = lkI xs fs (ys.take k) := by
  rw [lkI, take_filter hx, if_neg (by simp [h]), List.append_nil]; rfl
theorem lkF_k {fs gs : List Flr} {k : Nat} : (lkF fs (gs.take k)).length ≤ k := Nat.le_trans (lkF_len _ _) (by simp; omega)
theorem lkI_k {xs ys : List Itm} {fs : List Flr} {k : Nat} : (lkI xs fs (ys.take k)).length ≤ k := Nat.le_trans (lkI_len _ _ _) (by simp; omega)
theorem inewerK_v (a b : Key) (r : Bool) (h : Hid (decide (0 < cmpE a.1 a.2.1 a.2.2.1 a.2.2.2.1 a.2.2.2.2 b.1 b.2.1 b.2.2.1 b.2.2.2.1 b.2.2.2.2) = r)) (w : World) : Calls Try.prog 71 #[.agg #[.int .i64 a.1, .int .i64 a.2.1, .int .i64 a.2.2.1, .int .i64 a.2.2.2.1, .string a.2.2.2.2], .agg #[.int .i64 b.1, .int .i64 b.2.1, .int .i64 b.2.2.1, .int .i64 b.2.2.2.1, .string b.2.2.2.2]] w fun e w' => e = .returned (.bool r) ∧ Below w.heap.size w w' := by
  rw [← unhide h]; exact inewer_any _ _ _ _ _ _ _ _ _ _ w

set_option maxHeartbeats 8000000 in
set_option maxRecDepth 100000 in
theorem ilackf_any (vi : Value) (af : Option Addr) (nf cf : Nat) (fs : List Flr) (vj : Value) (bf : Option Addr) (mf df : Nat) (gs : List Flr) (w : World)
    (hnf : nf ≤ 140737488351232) (hmf : mf ≤ 1000) (hf : Rw encF 2 w (.slice af nf cf) fs) (hg : Rw encF 2 w (.slice bf mf df) gs) :
    Calls Try.prog 41 #[.agg #[vi, .slice af nf cf], .agg #[vj, .slice bf mf df]] w fun e w' => ∃ a2 n2 c2, e = .returned (.slice a2 n2 c2) ∧ OwF w.heap.size w' (.slice a2 n2 c2) (lkF fs gs) ∧ Below w.heap.size w w' := by
  obtain ⟨i1, gi, gz0, gz1, gz2⟩ := info_parts Try.infoFloor
  have HF := hide hf
  have HG := hide hg
  clear hf hg
  go_enter Try.func41, Try.ntmps41
  go_wp2
  go_loopw [5, 11] (fun v i wr => ∃ (k : Nat) (a2 : Option Addr) (n2 c2 : Nat), k ≤ mf ∧ i = .int .i64 k ∧ v = .slice a2 n2 c2 ∧ OwF w.heap.size wr (.slice a2 n2 c2) (lkF fs (gs.take k)) ∧ Below w.heap.size w wr ∧ wr.heap[w.heap.size]? = some (.cells #[vi, .slice af nf cf] 31 (0, 0))) (fun _ i _ => mf - (intOf i).toNat)
  case atStart => exact ⟨0, none, 0, 0, by omega, rfl, rfl, World.ownsRow_nil _ _ _ _, ((Below.refl _ _).alloc (Nat.le_refl _) _).alloc (by simp) _, lowB2 w _ _⟩
  case round =>
    obtain ⟨k, a2, n2, c2, hk, rfl, rfl, hown, hbel, ka⟩ := hrel
    have HO := hide hown
    have HB := hide hbel
    have KA := hide ka
    have hsz := hbel.size
    have hz : w.heap.size < wr.heap.size := (Array.getElem?_eq_some_iff.mp ka).1
    obtain ⟨pa0, pa1, -⟩ := blk_cells2 ka
    clear hown ka
    by_cases hlt : k < mf
    · obtain ⟨x, b, off, hx, rfl, hb, hcap, hc⟩ := ((unhide HG).later hbel).at hlt
      have c0 : wr.cell? ⟨b, off + k * 2, none⟩ = some (.int .i64 x.1) := hc 0 (by omega)
      have c1 : wr.cell? ⟨b, off + k * 2 + 1, none⟩ = some (.int .i64 x.2) := hc 1 (by omega)
      obtain ⟨fa, hfa⟩ : ∃ fa, flo fs x.1 = fa := ⟨_, rfl⟩
      have HX := hide hx
      have HFA := hide hfa
      clear hx hfa hc hbel
      go_upto_region 5 with fail
      obtain ⟨V, hV⟩ : ∃ V, V = wr.alloc (.cells #[.int .i64 x.1, .int .i64 x.2] 56) := ⟨_, rfl⟩
      rw [← hV]
      have bV : Below wr.heap.size wr V := by rw [hV]; exact (Below.refl _ _).alloc (Nat.le_refl _) _
      have kx : V.heap[wr.heap.size]? = some (.cells #[.int .i64 x.1, .int .i64 x.2] 56 (0, 0)) := by rw [hV]; exact newB1 wr _
      have hzx : wr.heap.size < V.heap.size := (Array.getElem?_eq_some_iff.mp kx).1
      have hzV : w.heap.size < V.heap.size := by omega
      obtain ⟨px0, px1, -⟩ := blk_cells2 kx
      have KX := hide kx
      have HBV := hide ((unhide HB).trans (bV.mono hsz))
      have KAV := hide ((bV.block _ hz).trans (unhide KA))
      have HOV := hide ((unhide HO).later bV)
      clear pa0 pa1 hV bV c0 c1 HB KA HO kx
      obtain ⟨pa0, pa1, -⟩ := blk_cells2 (unhide KAV)
      have la0 := later_some (w := V) (b := w.heap.size) (o := 0) hzV pa0
      have la1 := later_some (w := V) (b := w.heap.size) (o := 1) hzV pa1
      have lx0 := later_some (w := V) (b := wr.heap.size) (o := 0) hzx px0
      have lx1 := later_some (w := V) (b := wr.heap.size) (o := 1) hzx px1
      have RF := hide ((unhide HF).later (unhide HBV))
      clear pa0 pa1 px0 px1
      refine wp_region_later (by kernel_rfl) (by kernel_rfl) ?_
      repeat (go_big_quiet_step (first
        | (go_at_call 32; exact Calls.later_of (ifloor_v _ af nf cf fs _ fa HFA _ hnf ((unhide RF).in_later _ _)))))
      refine wpQuiet_nil ?_
      intro w1 hb1
      have HO1 := hide ((unhide HOV).later hb1)
      have HB1 := hide ((unhide HBV).trans (hb1.mono (unhide HBV).size))
      have KA1 := hide ((hb1.block _ hzV).trans (unhide KAV))
      obtain ⟨px0, px1, -⟩ := blk_cells2 ((hb1.block _ hzx).trans (unhide KX))
      have hy1 : w.heap.size < w1.heap.size := Nat.lt_of_lt_of_le hzV hb1.size
      have hzx1 : wr.heap.size < w1.heap.size := Nat.lt_of_lt_of_le hzx hb1.size
      have hn2 : Hid (n2 = (lkF fs (gs.take k)).length) := hide ((unhide HO1).rw encF_len).len.1
      have hn2l : n2 ≤ k := by have := unhide hn2; have := lkF_k (fs := fs) (gs := gs) (k := k); omega
      clear hb1 la0 la1 lx0 lx1 RF HOV HBV KAV KX
      have hw1 : w.heap.size ≤ w1.heap.size := by omega
      generalize hpos : decide (fa < x.2) = q
      cases q
      rotate_left
      · have HP := hide (lkF_pos (fs := fs) (unhide HX) (by rw [lkF1, unhide HFA]; exact hpos))
        clear HFA
        go_wp2_with (first | (at_builtin; refine wpList_app1 encF_len (by omega) oneF 56 29 i1 _ 16 Try.underlying29 gi gz0 gz1 gz2 rfl (by omega) w1 x rfl _ _ rfl w.heap.size _ (lkF fs (gs.take k)) n2 hn2 rfl (unhide HO1) rfl (by omega) hw1 ?_; intro a2' c2' w2 hO hG; have HO2 := hide hO; have HB2 := hide ((Trn.of_grown hG).below (unhide HB1) hw1 (fun i q => (World.ownsRow.lt (unhide HO1) i q).1)); have HG2 := hide hG; clear hO hG))
        go_roundw
        case rel =>
          have hnA := own_ne (unhide HO1) (unhide KA1) (by decide)
          exact ⟨k + 1, a2', n2 + 1, c2', by omega, by go_num, rfl, by rw [unhide HP]; exact unhide HO2, unhide HB2, ((unhide HG2).block _ hy1 (fun q => hnA q.symm)).trans (unhide KA1)⟩
        case measure => simp [intOf]; omega
      · have HP := hide (lkF_neg (fs := fs) (unhide HX) (by rw [lkF1, unhide HFA]; exact hpos))
        clear HFA
        go_wp2
        go_roundw
        case rel => exact ⟨k + 1, a2, n2, c2, by omega, by go_num, rfl, by rw [unhide HP]; exact unhide HO1, unhide HB1, unhide KA1⟩
        case measure => simp [intOf]; omega
    · have HT : Hid (lkF fs (gs.take k) = lkF fs gs) := hide (by rw [List.take_of_length_le (by have := (unhide HG).len.1; omega)])
      clear hbel pa0 pa1
      go_wp2
      go_ret
      exact ⟨a2, n2, c2, rfl, by rw [← unhide HT]; exact unhide HO, unhide HB⟩

set_option maxHeartbeats 8000000 in
set_option maxRecDepth 100000 in
theorem ilacki_any (ai : Option Addr) (ni ci : Nat) (xs : List Itm) (hsm : Sml xs) (af : Option Addr) (nf cf : Nat) (fs : List Flr) (bi : Option Addr) (mi di : Nat) (ys : List Itm) (hys : Sml ys) (hpo : ∀ (k : Nat) (y : Itm), ys[k]? = some y → 1 ≤ y.2.1) (vj : Value) (w : World)
    (hni : ni ≤ 140737488351232) (hnf : nf ≤ 140737488351232) (hmi : mi ≤ 1000) (hx : Rw encI 6 w (.slice ai ni ci) xs) (hf : Rw encF 2 w (.slice af nf cf) fs) (hy : Rw encI 6 w (.slice bi mi di) ys) :
    Calls Try.prog 40 #[.agg #[.slice ai ni ci, .slice af nf cf], .agg #[.slice bi mi di, vj]] w fun e w' => ∃ a2 n2 c2, e = .returned (.slice a2 n2 c2) ∧ OwI w.heap.size w' (.slice a2 n2 c2) (lkI xs fs ys) ∧ Below w.heap.size w w' := by
  obtain ⟨i0, hi, hz0, hz1, hz2⟩ := info_parts Try.infoItem
  have HX := hide hx
  have HF := hide hf
  have HY := hide hy
  have HYS := hide hys
  have HPO := hide hpo
  have SM := hide hsm
  clear hx hf hy hys hpo hsm
  go_enter Try.func40, Try.ntmps40
  go_wp2
  go_loopw [5, 13] (fun v i wr => ∃ (k : Nat) (a2 : Option Addr) (n2 c2 : Nat), k ≤ mi ∧ i = .int .i64 k ∧ v = .slice a2 n2 c2 ∧ OwI w.heap.size wr (.slice a2 n2 c2) (lkI xs fs (ys.take k)) ∧ Below w.heap.size w wr ∧ wr.heap[w.heap.size]? = some (.cells #[.slice ai ni ci, .slice af nf cf] 31 (0, 0))) (fun _ i _ => mi - (intOf i).toNat)
  case atStart => exact ⟨0, none, 0, 0, by omega, rfl, rfl, World.ownsRow_nil _ _ _ _, ((Below.refl _ _).alloc (Nat.le_refl _) _).alloc (by simp) _, lowB2 w _ _⟩
  case round =>
    obtain ⟨k, a2, n2, c2, hk, rfl, rfl, hown, hbel, ka⟩ := hrel
    have HO := hide hown
    have HB := hide hbel
    have KA := hide ka
    have hsz := hbel.size
    have hz : w.heap.size < wr.heap.size := (Array.getElem?_eq_some_iff.mp ka).1
    obtain ⟨pa0, pa1, -⟩ := blk_cells2 ka
    clear hown ka
    by_cases hlt : k < mi
    · obtain ⟨x, b, off, hx, rfl, hb, hcap, hc⟩ := ((unhide HY).later hbel).at hlt
      obtain ⟨c0, c1, c2', c3, c4, c5⟩ := item_cells hc
      obtain ⟨fa, hfa⟩ : ∃ fa, flo fs x.1 = fa := ⟨_, rfl⟩
      obtain ⟨rA, okA, hrA⟩ : ∃ rA okA, entR xs x.1 = (rA, okA) := ⟨_, _, rfl⟩
      obtain ⟨cb, hcb⟩ : ∃ cb, decide (0 < cmpE x.2.1 x.2.2.1 x.2.2.2.1 x.2.2.2.2.1 x.2.2.2.2.2 rA.1 rA.2.1 rA.2.2.1 rA.2.2.2.1 rA.2.2.2.2) = cb := ⟨_, rfl⟩
      have HLK : Hid (lkI1 xs fs x = (cb && decide (fa < x.2.1))) := hide (by rw [lkI1, newr_R hrA (unhide HPO k x hx), show keyC x.2 rA = cmpE x.2.1 x.2.2.1 x.2.2.2.1 x.2.2.2.2.1 x.2.2.2.2.2 rA.1 rA.2.1 rA.2.2.1 rA.2.2.2.1 rA.2.2.2.2 from (cmpE_key _ _ _ _ _ _ _ _ _ _).symm, hcb, hfa])
      have hxs := unhide HYS k x hx
      have HX1 := hide hx
      have HFA := hide hfa
      have HRA := hide hrA
      have HCB := hide hcb
      clear hx hfa hrA hcb hc hbel
      go_wp2_with fail
      have bX : Below wr.heap.size wr (wr.alloc (.cells #[.int .i64 x.1, .int .i64 x.2.1, .int .i64 x.2.2.1, .int .i64 x.2.2.2.1, .int .i64 x.2.2.2.2.1, .string x.2.2.2.2.2] 53)) := (Below.refl _ _).alloc (Nat.le_refl _) _
      refine (ientry_any _ ai ni ci xs (unhide SM) x.1 rA okA HRA _ hni ((unhide HX).later ((unhide HB).trans (bX.mono hsz)))).mono ?_
      rintro e w2 ⟨rfl, b2⟩
      have b2' := bX.trans (b2.mono (by simp))
      have kx := (b2.block wr.heap.size (by simp)).trans (newB1 wr _)
      have HB2 := hide ((unhide HB).trans (b2'.mono hsz))
      have KA2 := hide ((b2'.block _ hz).trans (unhide KA))
      have HO2 := hide ((unhide HO).later b2')
      have hzx2 : wr.heap.size < w2.heap.size := (Array.getElem?_eq_some_iff.mp kx).1
      have KX2 := hide kx
      clear c0 c1 c2' c3 c4 c5 pa0 pa1 bX b2 b2' kx HB KA HO
      go_upto_region 6 with fail
      obtain ⟨V, hV⟩ : ∃ V, V = w2.alloc (.cells #[.int .i64 rA.1, .int .i64 rA.2.1, .int .i64 rA.2.2.1, .int .i64 rA.2.2.2.1, .string rA.2.2.2.2] 43) := ⟨_, rfl⟩
      rw [← hV]
      have bV : Below w2.heap.size w2 V := by rw [hV]; exact (Below.refl _ _).alloc (Nat.le_refl _) _
      have ke : V.heap[w2.heap.size]? = some (.cells #[.int .i64 rA.1, .int .i64 rA.2.1, .int .i64 rA.2.2.1, .int .i64 rA.2.2.2.1, .string rA.2.2.2.2] 43 (0, 0)) := by rw [hV]; exact newB1 w2 _
      have hze : w2.heap.size < V.heap.size := (Array.getElem?_eq_some_iff.mp ke).1
      have hzx : wr.heap.size < V.heap.size := by omega
      have hzV : w.heap.size < V.heap.size := by omega
      have KX := hide ((bV.block _ hzx2).trans (unhide KX2))
      have HBV := hide ((unhide HB2).trans (bV.mono (unhide HB2).size))
      have KAV := hide ((bV.block _ (by omega)).trans (unhide KA2))
      have HOV := hide ((unhide HO2).later bV)
      obtain ⟨pa0, pa1, -⟩ := blk_cells2 (unhide KAV)
      obtain ⟨pe0, pe1, pe2, pe3, pe4, -⟩ := ent_cells ke
      obtain ⟨px0, px1, px2, px3, px4, px5, -⟩ := blk_cells6 (unhide KX)
      have la0 := later_some (w := V) hzV pa0
      have la1 := later_some (w := V) hzV pa1
      have le0 := later_some (w := V) hze pe0
      have le1 := later_some (w := V) hze pe1
      have le2 := later_some (w := V) hze pe2
      have le3 := later_some (w := V) hze pe3
      have le4 := later_some (w := V) hze pe4
      have lx0 := later_some (w := V) hzx px0
      have lx1 := later_some (w := V) hzx px1
      have lx2 := later_some (w := V) hzx px2
      have lx3 := later_some (w := V) hzx px3
      have lx4 := later_some (w := V) hzx px4
      have lx5 := later_some (w := V) hzx px5
      have RF := hide ((unhide HF).later (unhide HBV))
      clear pa0 pa1 pe0 pe1 pe2 pe3 pe4 px0 px1 px2 px3 px4 px5 ke bV hV KX2 HB2 KA2 HO2
      cases cb
      · have HP := hide (lkI_neg (unhide HX1) (by rw [unhide HLK]; rfl))
        refine wp_region_later (by kernel_rfl) (by kernel_rfl) ?_
        repeat (go_big_quiet_step (first
          | (go_at_call 71; exact Calls.later_of (inewerK_v _ _ _ HCB _))))
        refine wpQuiet_nil ?_
        intro w1 hb1
        have HO1 := hide ((unhide HOV).later hb1)
        have HB1 := hide ((unhide HBV).trans (hb1.mono (unhide HBV).size))
        have KA1 := hide ((hb1.block _ hzV).trans (unhide KAV))
        clear hb1 la0 la1 le0 le1 le2 le3 le4 lx0 lx1 lx2 lx3 lx4 lx5 RF HOV HBV KAV KX
        go_wp2
        go_roundw
        case rel => exact ⟨k + 1, a2, n2, c2, by omega, by go_num, rfl, by rw [unhide HP]; exact unhide HO1, unhide HB1, unhide KA1⟩
        case measure => simp [intOf]; omega
      · refine wp_region_later (by kernel_rfl) (by kernel_rfl) ?_
        repeat (go_big_quiet_step (first
          | (go_at_call 71; exact Calls.later_of (inewerK_v _ _ _ HCB _))
          | (go_at_call 32; exact Calls.later_of (ifloor_v _ af nf cf fs _ fa HFA _ hnf ((unhide RF).in_later _ _)))))
        refine wpQuiet_nil ?_
        intro w1 hb1
        have HO1 := hide ((unhide HOV).later hb1)
        have HB1 := hide ((unhide HBV).trans (hb1.mono (unhide HBV).size))
        have KA1 := hide ((hb1.block _ hzV).trans (unhide KAV))
        obtain ⟨px0, px1, px2, px3, px4, px5, -⟩ := blk_cells6 ((hb1.block _ hzx).trans (unhide KX))
        have hy1 : w.heap.size < w1.heap.size := Nat.lt_of_lt_of_le hzV hb1.size
        have hzx1 : wr.heap.size < w1.heap.size := Nat.lt_of_lt_of_le hzx hb1.size
        clear hb1 la0 la1 le0 le1 le2 le3 le4 lx0 lx1 lx2 lx3 lx4 lx5 RF HOV HBV KAV KX
        have hw1 : w.heap.size ≤ w1.heap.size := by omega
        generalize hpos : decide (fa < x.2.1) = q at HLK ⊢
        cases q
        rotate_left
        · have HP := hide (lkI_pos (unhide HX1) (by rw [unhide HLK]; rfl))
          go_wp2_with fail
          refine (icopyI_any x (by omega) _).mono ?_
          rintro e w3 ⟨rfl, b3⟩
          have HO3 := hide ((unhide HO1).later b3)
          have HB3 := hide ((unhide HB1).trans (b3.mono (unhide HB1).size))
          have KA3 := hide ((b3.block _ hy1).trans (unhide KA1))
          have hz3 : w.heap.size < w3.heap.size := Nat.lt_of_lt_of_le hy1 b3.size
          have hw3 : w.heap.size ≤ w3.heap.size := by omega
          have hn2 : Hid (n2 = (lkI xs fs (ys.take k)).length) := hide ((unhide HO3).rw encI_len).len.1
          have hn2l : n2 ≤ k := by have := unhide hn2; have := lkI_k (xs := xs) (fs := fs) (ys := ys) (k := k); omega
          clear b3 px0 px1 px2 px3 px4 px5 HO1 HB1 KA1
          go_wp2_with (first | (at_builtin; refine wpList_app1 encI_len (by omega) oneI 53 28 i0 _ 56 Try.underlying28 hi hz0 hz1 hz2 rfl (by omega) w3 x rfl _ _ rfl w.heap.size _ (lkI xs fs (ys.take k)) n2 hn2 rfl (unhide HO3) rfl (by omega) hw3 ?_; intro a2' c2' w4 hO hG; have HO4 := hide hO; have HB4 := hide ((Trn.of_grown hG).below (unhide HB3) hw3 (fun i q => (World.ownsRow.lt (unhide HO3) i q).1)); have HG4 := hide hG; clear hO hG))
          go_roundw
          case rel =>
            have hnA := own_ne (unhide HO3) (unhide KA3) (by decide)
            exact ⟨k + 1, a2', n2 + 1, c2', by omega, by go_num, rfl, by rw [unhide HP]; exact unhide HO4, unhide HB4, ((unhide HG4).block _ hz3 (fun q => hnA q.symm)).trans (unhide KA3)⟩
          case measure => simp [intOf]; omega
        · have HP := hide (lkI_neg (unhide HX1) (by rw [unhide HLK]; rfl))
          clear px0 px1 px2 px3 px4 px5
          go_wp2
          go_roundw
          case rel => exact ⟨k + 1, a2, n2, c2, by omega, by go_num, rfl, by rw [unhide HP]; exact unhide HO1, unhide HB1, unhide KA1⟩
          case measure => simp [intOf]; omega
    · have HT : Hid (lkI xs fs (ys.take k) = lkI xs fs ys) := hide (by rw [List.take_of_length_le (by have := (unhide HY).len.1; omega)])
      clear hbel pa0 pa1
      go_wp2
      go_ret
      exact ⟨a2, n2, c2, rfl, by rw [← unhide HT]; exact unhide HO, unhide HB⟩

def lcI (ok : Bool) (xs : List Itm) (fs : List Flr) (ys : List Itm) : List Itm := match ok with
  | true => lkI xs fs ys
  | false => []
def lcF (ok : Bool) (fs gs : List Flr) : List Flr := match ok with
  | true => lkF fs gs
  | false => []
/-- While two states are held against each other: both arguments, the result's variable. -/
structure C4 (w W : World) (v1 v2 u1 u2 : Value) : Prop where
  bel : Below w.heap.size w W
  ka : W.heap[w.heap.size]? = some (.cells #[v1, v2] 31 (0, 0))
  kb : W.heap[w.heap.size + 1]? = some (.cells #[u1, u2] 31 (0, 0))
  kr : W.heap[w.heap.size + 1 + 1]? = some (.cells #[.slice none 0 0, .slice none 0 0] 31 (0, 0))
theorem C4.lt {w W : World} {v1 v2 u1 u2 : Value} (h : C4 w W v1 v2 u1 u2) : w.heap.size + 1 + 1 < W.heap.size := (Array.getElem?_eq_some_iff.1 h.kr).1
theorem C4.later {w W Y : World} {v1 v2 u1 u2 : Value} (h : C4 w W v1 v2 u1 u2) (b : Below W.heap.size W Y) : C4 w Y v1 v2 u1 u2 := by
  have := h.lt
  exact ⟨h.bel.trans (b.mono h.bel.size), (b.block _ (by omega)).trans h.ka, (b.block _ (by omega)).trans h.kb, (b.block _ h.lt).trans h.kr⟩
theorem C4.drewH {w W : World} {v1 v2 u1 u2 : Value} (h : Hid (C4 w W v1 v2 u1 u2)) : Hid (C4 w W.drew v1 v2 u1 u2) := hide ⟨(unhide h).bel.drew, (unhide h).ka, (unhide h).kb, (unhide h).kr⟩
theorem kC4 {w W : World} {v1 v2 u1 u2 : Value} (h : Hid (C4 w W v1 v2 u1 u2)) : Below w.heap.size w W ∧ W.cell? ⟨w.heap.size, 0, none⟩ = some v1 ∧ W.cell? ⟨w.heap.size, 1, none⟩ = some v2 ∧ W.cell? ⟨w.heap.size + 1, 0, none⟩ = some u1 ∧ W.cell? ⟨w.heap.size + 1, 1, none⟩ = some u2 := by
  obtain ⟨h0, h1, -⟩ := blk_cells2 (unhide h).ka
  obtain ⟨h2, h3, -⟩ := blk_cells2 (unhide h).kb
  exact ⟨(unhide h).bel, h0, h1, h2, h3⟩
theorem far2 {W : World} {g k o : Nat} {v v0 v1 : Value} (hg : k ≠ g) (c : W.cell? ⟨k, o, none⟩ = some v) : ((W.setCell ⟨g, 0, none⟩ v0).setCell ⟨g, 1, none⟩ v1).cell? ⟨k, o, none⟩ = some v := by
  have hn : ∀ j, (⟨g, j, none⟩ : Addr) ≠ ⟨k, o, none⟩ := fun j e => hg (congrArg Addr.block e).symm
  rw [World.cell?_setCell_other _ _ _ _ (hn 1), World.cell?_setCell_other _ _ _ _ (hn 0)]
  exact c
theorem kC4s {w W : World} {v1 v2 u1 u2 : Value} (h : Hid (C4 w W v1 v2 u1 u2)) (x y : Value) : Below w.heap.size w ((W.setCell ⟨w.heap.size + 1 + 1, 0, none⟩ x).setCell ⟨w.heap.size + 1 + 1, 1, none⟩ y) ∧ ((W.setCell ⟨w.heap.size + 1 + 1, 0, none⟩ x).setCell ⟨w.heap.size + 1 + 1, 1, none⟩ y).cell? ⟨w.heap.size, 0, none⟩ = some v1 ∧ ((W.setCell ⟨w.heap.size + 1 + 1, 0, none⟩ x).setCell ⟨w.heap.size + 1 + 1, 1, none⟩ y).cell? ⟨w.heap.size, 1, none⟩ = some v2 ∧ ((W.setCell ⟨w.heap.size + 1 + 1, 0, none⟩ x).setCell ⟨w.heap.size + 1 + 1, 1, none⟩ y).cell? ⟨w.heap.size + 1, 0, none⟩ = some u1 ∧ ((W.setCell ⟨w.heap.size + 1 + 1, 0, none⟩ x).setCell ⟨w.heap.size + 1 + 1, 1, none⟩ y).cell? ⟨w.heap.size + 1, 1, none⟩ = some u2 := by
  obtain ⟨hb, h0, h1, h2, h3⟩ := kC4 h
  exact ⟨(hb.setCell (p := ⟨w.heap.size + 1 + 1, 0, none⟩) (by simp; omega) _).setCell (p := ⟨w.heap.size + 1 + 1, 1, none⟩) (by simp; omega) _, far2 (by omega) h0, far2 (by omega) h1, far2 (by omega) h2, far2 (by omega) h3⟩
theorem C4.new (w : World) (v1 v2 u1 u2 : Value) : C4 w (((w.alloc (.cells #[v1, v2] 31)).alloc (.cells #[u1, u2] 31)).alloc (.cells #[.slice none 0 0, .slice none 0 0] 31)) v1 v2 u1 u2 :=
  ⟨(((Below.refl w.heap.size w).alloc (Nat.le_refl _) _).alloc (by simp) _).alloc (by simp; omega) _, lowB3 w _ _ _, midB3 w _ _ _, newB3 w _ _ _⟩

set_option maxHeartbeats 8000000 in
set_option maxRecDepth 100000 in
theorem ilacks_any (ai : Option Addr) (ni ci : Nat) (xs : List Itm) (af : Option Addr) (nf cf : Nat) (fs : List Flr) (bi : Option Addr) (mi di : Nat) (ys : List Itm) (bf : Option Addr) (mf df : Nat) (gs : List Flr) (ok : Bool) (h0 : Hid ((okS xs fs && okS ys gs) = ok)) (n1 n2 : Nat) (hn1 : Hid ((lcI ok xs fs ys).length = n1)) (hn2 : Hid ((lcF ok fs gs).length = n2)) (w : World)
    (hni : ni ≤ 140737488351232) (hnf : nf ≤ 140737488351232) (hmi : mi ≤ 140737488351232) (hmf : mf ≤ 140737488351232) (hx : Rw encI 6 w (.slice ai ni ci) xs) (hf : Rw encF 2 w (.slice af nf cf) fs) (hy : Rw encI 6 w (.slice bi mi di) ys) (hg : Rw encF 2 w (.slice bf mf df) gs) :
    Calls Try.prog 16 #[.agg #[.slice ai ni ci, .slice af nf cf], .agg #[.slice bi mi di, .slice bf mf df]] w fun e w' => ∃ a1 c1 a2 c2, e = .returned (.agg #[.slice a1 n1 c1, .slice a2 n2 c2]) ∧ OwI w.heap.size w' (.slice a1 n1 c1) (lcI ok xs fs ys) ∧ OwF w.heap.size w' (.slice a2 n2 c2) (lcF ok fs gs) ∧ Below w.heap.size w w' := by
  have HX := hide hx
  have HY := hide hy
  have HF := hide hf
  have HG := hide hg
  obtain ⟨okA, hA⟩ : ∃ okA, okS xs fs = okA := ⟨_, rfl⟩
  obtain ⟨okB, hB⟩ : ∃ okB, okS ys gs = okB := ⟨_, rfl⟩
  have hk := unhide h0
  rw [hA, hB] at hk
  have HA := hide hA
  have HB := hide hB
  clear hx hy hf hg hA hB h0
  go_enter Try.func16, Try.ntmps16
  go_wp2_with fail
  refine (istateok_any ai ni ci xs af nf cf fs _ HA _ hni hnf ((unhide HX).later (C4.new w _ _ _ _).bel) ((unhide HF).later (C4.new w _ _ _ _).bel)).mono ?_
  rintro e w1 ⟨rfl, b1⟩
  have CV := hide ((C4.new w (.slice ai ni ci) (.slice af nf cf) (.slice bi mi di) (.slice bf mf df)).later b1)
  have z1 := (unhide CV).lt
  clear b1
  cases okA
  · obtain rfl : ok = false := hk.symm
    clear hk
    obtain rfl := unhide hn1
    obtain rfl := unhide hn2
    obtain ⟨p0, p1, pf⟩ := blk_cells2 (unhide CV).kr
    go_wp2
    exact bodyPost_ret (v := .agg #[.slice none 0 0, .slice none 0 0]) (by simp [results, Try.results16, go_sem, p0, p1]) rfl ⟨none, 0, none, 0, rfl, World.ownsRow_nil _ _ _ _, World.ownsRow_nil _ _ _ _, (kC4s CV _ _).1⟩
  · obtain ⟨r0, r1, -⟩ := blk_cells2 (unhide CV).kb
    have zb : w.heap.size + 1 < w1.heap.size := by omega
    go_wp2_with fail
    refine (istateok_any bi mi di ys bf mf df gs _ HB _ hmi hmf ((unhide HY).later (unhide CV).bel) ((unhide HG).later (unhide CV).bel)).mono ?_
    rintro e w2 ⟨rfl, b2⟩
    have CW := hide ((unhide CV).later b2)
    clear b2 CV r0 r1 z1 zb
    have z2 := (unhide CW).lt
    obtain ⟨p0, p1, pf⟩ := blk_cells2 (unhide CW).kr
    cases okB
    · obtain rfl : ok = false := hk.symm
      clear hk
      obtain rfl := unhide hn1
      obtain rfl := unhide hn2
      go_wp2
      exact bodyPost_ret (v := .agg #[.slice none 0 0, .slice none 0 0]) (by simp [results, Try.results16, go_sem, p0, p1]) rfl ⟨none, 0, none, 0, rfl, World.ownsRow_nil _ _ _ _, World.ownsRow_nil _ _ _ _, (kC4s CW _ _).1⟩
    · obtain rfl : ok = true := hk.symm
      have OA := (okS_iff _ _).1 (unhide HA)
      have OB := (okS_iff _ _).1 (unhide HB)
      have SMX := hide OA.sml
      have SMY := hide OB.sml
      have POS : Hid (∀ (k : Nat) (y : Itm), ys[k]? = some y → 1 ≤ y.2.1) := hide (fun k y hq => (okE_inc (OB.ix y (List.mem_of_getElem? hq)).2.2.1).1)
      have m5 : mi ≤ 5 := by have := (unhide HY).len.1; have := OB.len5.1; omega
      have f5 : mf ≤ 5 := by have := (unhide HG).len.1; have := OB.len5.2; omega
      clear hk OA OB p0 p1 pf HA HB
      have CD := C4.drewH CW
      have za : w.heap.size < w2.heap.size := by omega
      have zb : w.heap.size + 1 < w2.heap.size := by omega
      go_upto_region 3 with fail
      go_region_held3 (fun W => Below w.heap.size w W ∧ W.cell? ⟨w.heap.size, 0, none⟩ = some (.slice ai ni ci) ∧ W.cell? ⟨w.heap.size, 1, none⟩ = some (.slice af nf cf) ∧ W.cell? ⟨w.heap.size + 1, 0, none⟩ = some (.slice bi mi di) ∧ W.cell? ⟨w.heap.size + 1, 1, none⟩ = some (.slice bf mf df))
        (first | (with_reducible exact kC4 CW) | (with_reducible exact kC4 CD) | (with_reducible exact kC4 CA) | (with_reducible exact kC4 CB) | (with_reducible exact kC4s CB _ _))
        (first
          | (go_at_call 40; refine (ilacki_any ai ni ci xs (unhide SMX) af nf cf fs bi mi di ys (unhide SMY) (unhide POS) _ _ hni hnf (by omega) ((unhide HX).later (unhide CD).bel) ((unhide HF).later (unhide CD).bel) ((unhide HY).later (unhide CD).bel)).mono ?_; rintro e w3 ⟨a1, m1, c1, rfl, o1, b3⟩; have CA := hide ((unhide CD).later b3); have OI := hide (o1.base (base' := w.heap.size + 1 + 1 + 1) (unhide CD).lt); clear o1 b3)
          | (go_at_call 41; refine (ilackf_any _ af nf cf fs _ bf mf df gs _ hnf (by omega) ((unhide HF).later (unhide CA).bel) ((unhide HG).later (unhide CA).bel)).mono ?_; rintro e w4 ⟨a2, m2, c2, rfl, o2, b4⟩; have CB := hide ((unhide CA).later b4); have OJ := hide ((unhide OI).later b4); have OF := hide (o2.base (base' := w.heap.size + 1 + 1 + 1) (unhide CA).lt); obtain ⟨p0, p1, pf⟩ := blk_cells2 (unhide CB).kr; have zB := (unhide CB).lt; clear o2 b4))
      all_goals go_wp2
      all_goals
        obtain rfl : m1 = n1 := (((unhide OJ).rw encI_len).len.1).trans (unhide hn1)
        obtain rfl : m2 = n2 := (((unhide OF).rw encF_len).len.1).trans (unhide hn2)
        exact bodyPost_ret (v := .agg #[.slice a1 m1 c1, .slice a2 m2 c2]) (by simp [results, Try.results16, go_sem, p0, p1]) rfl ⟨a1, c1, a2, c2, rfl, Ow.base (((unhide OJ).set ⟨w.heap.size + 1 + 1, 0, none⟩ (by simp) _).set ⟨w.heap.size + 1 + 1, 1, none⟩ (by simp) _) (by omega), Ow.base (((unhide OF).set ⟨w.heap.size + 1 + 1, 0, none⟩ (by simp) _).set ⟨w.heap.size + 1 + 1, 1, none⟩ (by simp) _) (by omega), (kC4s CB _ _).1⟩
end Go.Proofs.Ytdpaocikmijioad
