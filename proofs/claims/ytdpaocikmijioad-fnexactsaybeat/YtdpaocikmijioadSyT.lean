/-
  What may be said, the program's: tell, SayJoin, SayBeat, SaySet, SayGone. No statement is proved here.
-/
import Derived.Test.YtdpaocikmijioadSyI
namespace Go.Proofs.Ytdpaocikmijioad
open Go.RowKit

/- what is kept of a world while tell's drawn statement is gone through -/
theorem keepST {ai : Option Addr} {ni ci : Nat} {af : Option Addr} {nf cf : Nat} {id : Int} {dv : ByteArray} {gw : Nat} {w W w1 : World} (hb : Below W.heap.size W w1) (h : Below w.heap.size w W ∧ gw < W.heap.size ∧ W.cell? ⟨gw, 0, none⟩ = some (.slice ai ni ci) ∧ W.cell? ⟨gw, 1, none⟩ = some (.slice af nf cf) ∧ W.cell? ⟨gw, 2, none⟩ = some (.int .i64 id) ∧ W.cell? ⟨gw, 3, none⟩ = some (.string dv)) : Below w.heap.size w w1 ∧ gw < w1.heap.size ∧ w1.cell? ⟨gw, 0, none⟩ = some (.slice ai ni ci) ∧ w1.cell? ⟨gw, 1, none⟩ = some (.slice af nf cf) ∧ w1.cell? ⟨gw, 2, none⟩ = some (.int .i64 id) ∧ w1.cell? ⟨gw, 3, none⟩ = some (.string dv) := by
  obtain ⟨b, z0, c0, c1, c2, c3⟩ := h
  have hz := hb.size
  have hB := b.size
  exact ⟨b.trans (hb.mono hB), by omega, kc hb (by omega) c0, kc hb (by omega) c1, kc hb (by omega) c2, kc hb (by omega) c3⟩
theorem keepDT {ai : Option Addr} {ni ci : Nat} {af : Option Addr} {nf cf : Nat} {id : Int} {dv : ByteArray} {gw : Nat} {w W : World} (h : Below w.heap.size w W ∧ gw < W.heap.size ∧ W.cell? ⟨gw, 0, none⟩ = some (.slice ai ni ci) ∧ W.cell? ⟨gw, 1, none⟩ = some (.slice af nf cf) ∧ W.cell? ⟨gw, 2, none⟩ = some (.int .i64 id) ∧ W.cell? ⟨gw, 3, none⟩ = some (.string dv)) : Below w.heap.size w W.drew ∧ gw < W.drew.heap.size ∧ W.drew.cell? ⟨gw, 0, none⟩ = some (.slice ai ni ci) ∧ W.drew.cell? ⟨gw, 1, none⟩ = some (.slice af nf cf) ∧ W.drew.cell? ⟨gw, 2, none⟩ = some (.int .i64 id) ∧ W.drew.cell? ⟨gw, 3, none⟩ = some (.string dv) := ⟨h.1.drew, h.2⟩
theorem keepAT {ai : Option Addr} {ni ci : Nat} {af : Option Addr} {nf cf : Nat} {id : Int} {dv : ByteArray} {gw : Nat} {w W : World} (o : Obj) (h : Below w.heap.size w W ∧ gw < W.heap.size ∧ W.cell? ⟨gw, 0, none⟩ = some (.slice ai ni ci) ∧ W.cell? ⟨gw, 1, none⟩ = some (.slice af nf cf) ∧ W.cell? ⟨gw, 2, none⟩ = some (.int .i64 id) ∧ W.cell? ⟨gw, 3, none⟩ = some (.string dv)) : Below w.heap.size w (W.alloc o) ∧ gw < (W.alloc o).heap.size ∧ (W.alloc o).cell? ⟨gw, 0, none⟩ = some (.slice ai ni ci) ∧ (W.alloc o).cell? ⟨gw, 1, none⟩ = some (.slice af nf cf) ∧ (W.alloc o).cell? ⟨gw, 2, none⟩ = some (.int .i64 id) ∧ (W.alloc o).cell? ⟨gw, 3, none⟩ = some (.string dv) := by
  obtain ⟨b, z0, c0, c1, c2, c3⟩ := h
  exact ⟨b.alloc b.size o, by simp; omega, ka (by omega) c0, ka (by omega) c1, ka (by omega) c2, ka (by omega) c3⟩
theorem keepADT {ai : Option Addr} {ni ci : Nat} {af : Option Addr} {nf cf : Nat} {id : Int} {dv : ByteArray} {gw : Nat} {w W : World} (o : Obj) (h : Below w.heap.size w W.drew ∧ gw < W.drew.heap.size ∧ W.drew.cell? ⟨gw, 0, none⟩ = some (.slice ai ni ci) ∧ W.drew.cell? ⟨gw, 1, none⟩ = some (.slice af nf cf) ∧ W.drew.cell? ⟨gw, 2, none⟩ = some (.int .i64 id) ∧ W.drew.cell? ⟨gw, 3, none⟩ = some (.string dv)) : Below w.heap.size w (W.alloc o).drew ∧ gw < (W.alloc o).drew.heap.size ∧ (W.alloc o).drew.cell? ⟨gw, 0, none⟩ = some (.slice ai ni ci) ∧ (W.alloc o).drew.cell? ⟨gw, 1, none⟩ = some (.slice af nf cf) ∧ (W.alloc o).drew.cell? ⟨gw, 2, none⟩ = some (.int .i64 id) ∧ (W.alloc o).drew.cell? ⟨gw, 3, none⟩ = some (.string dv) := keepDT (keepAT o ⟨⟨h.1.os, h.1.tape, h.1.output, h.1.size, h.1.block⟩, h.2⟩)
theorem keepBT {ai : Option Addr} {ni ci : Nat} {af : Option Addr} {nf cf : Nat} {id : Int} {dv : ByteArray} {gw : Nat} {w W : World} (o1 o : Obj) (y0 : gw < W.heap.size) (_y : w.heap.size ≤ W.heap.size) (h : Below w.heap.size w (W.alloc o1) ∧ gw < (W.alloc o1).heap.size ∧ (W.alloc o1).cell? ⟨gw, 0, none⟩ = some (.slice ai ni ci) ∧ (W.alloc o1).cell? ⟨gw, 1, none⟩ = some (.slice af nf cf) ∧ (W.alloc o1).cell? ⟨gw, 2, none⟩ = some (.int .i64 id) ∧ (W.alloc o1).cell? ⟨gw, 3, none⟩ = some (.string dv)) : Below w.heap.size w (W.alloc o) ∧ gw < (W.alloc o).heap.size ∧ (W.alloc o).cell? ⟨gw, 0, none⟩ = some (.slice ai ni ci) ∧ (W.alloc o).cell? ⟨gw, 1, none⟩ = some (.slice af nf cf) ∧ (W.alloc o).cell? ⟨gw, 2, none⟩ = some (.int .i64 id) ∧ (W.alloc o).cell? ⟨gw, 3, none⟩ = some (.string dv) := by
  obtain ⟨b, z0, c0, c1, c2, c3⟩ := h
  exact ⟨⟨b.os, b.tape, b.output, by simp; omega, fun k hk => (Below.heap_alloc W o k (by omega)).trans ((Below.heap_alloc W o1 k (by omega)).symm.trans (b.block k hk))⟩, by simp; omega, ka (by omega) (kb (by omega) c0), ka (by omega) (kb (by omega) c1), ka (by omega) (kb (by omega) c2), ka (by omega) (kb (by omega) c3)⟩
theorem keepBDT {ai : Option Addr} {ni ci : Nat} {af : Option Addr} {nf cf : Nat} {id : Int} {dv : ByteArray} {gw : Nat} {w W : World} (o1 o : Obj) (y0 : gw < W.heap.size) (_y : w.heap.size ≤ W.heap.size) (h : Below w.heap.size w (W.alloc o1).drew ∧ gw < (W.alloc o1).drew.heap.size ∧ (W.alloc o1).drew.cell? ⟨gw, 0, none⟩ = some (.slice ai ni ci) ∧ (W.alloc o1).drew.cell? ⟨gw, 1, none⟩ = some (.slice af nf cf) ∧ (W.alloc o1).drew.cell? ⟨gw, 2, none⟩ = some (.int .i64 id) ∧ (W.alloc o1).drew.cell? ⟨gw, 3, none⟩ = some (.string dv)) : Below w.heap.size w (W.alloc o).drew ∧ gw < (W.alloc o).drew.heap.size ∧ (W.alloc o).drew.cell? ⟨gw, 0, none⟩ = some (.slice ai ni ci) ∧ (W.alloc o).drew.cell? ⟨gw, 1, none⟩ = some (.slice af nf cf) ∧ (W.alloc o).drew.cell? ⟨gw, 2, none⟩ = some (.int .i64 id) ∧ (W.alloc o).drew.cell? ⟨gw, 3, none⟩ = some (.string dv) := keepDT (keepBT (W := W) o1 o y0 _y ⟨⟨h.1.os, h.1.tape, h.1.output, h.1.size, h.1.block⟩, h.2⟩)
theorem keepWT5 {ai : Option Addr} {ni ci : Nat} {af : Option Addr} {nf cf : Nat} {id : Int} {dv : ByteArray} {gw : Nat} {w W : World} {gg : Nat} {v0 v1 v2 v3 v4 : Value} (y0 : gw ≠ gg) (y : w.heap.size ≤ gg) (h : Below w.heap.size w W ∧ gw < W.heap.size ∧ W.cell? ⟨gw, 0, none⟩ = some (.slice ai ni ci) ∧ W.cell? ⟨gw, 1, none⟩ = some (.slice af nf cf) ∧ W.cell? ⟨gw, 2, none⟩ = some (.int .i64 id) ∧ W.cell? ⟨gw, 3, none⟩ = some (.string dv)) : Below w.heap.size w (((((W.setCell ⟨gg, 0, none⟩ v0).setCell ⟨gg, 1, none⟩ v1).setCell ⟨gg, 2, none⟩ v2).setCell ⟨gg, 3, none⟩ v3).setCell ⟨gg, 4, none⟩ v4) ∧ gw < (((((W.setCell ⟨gg, 0, none⟩ v0).setCell ⟨gg, 1, none⟩ v1).setCell ⟨gg, 2, none⟩ v2).setCell ⟨gg, 3, none⟩ v3).setCell ⟨gg, 4, none⟩ v4).heap.size ∧ (((((W.setCell ⟨gg, 0, none⟩ v0).setCell ⟨gg, 1, none⟩ v1).setCell ⟨gg, 2, none⟩ v2).setCell ⟨gg, 3, none⟩ v3).setCell ⟨gg, 4, none⟩ v4).cell? ⟨gw, 0, none⟩ = some (.slice ai ni ci) ∧ (((((W.setCell ⟨gg, 0, none⟩ v0).setCell ⟨gg, 1, none⟩ v1).setCell ⟨gg, 2, none⟩ v2).setCell ⟨gg, 3, none⟩ v3).setCell ⟨gg, 4, none⟩ v4).cell? ⟨gw, 1, none⟩ = some (.slice af nf cf) ∧ (((((W.setCell ⟨gg, 0, none⟩ v0).setCell ⟨gg, 1, none⟩ v1).setCell ⟨gg, 2, none⟩ v2).setCell ⟨gg, 3, none⟩ v3).setCell ⟨gg, 4, none⟩ v4).cell? ⟨gw, 2, none⟩ = some (.int .i64 id) ∧ (((((W.setCell ⟨gg, 0, none⟩ v0).setCell ⟨gg, 1, none⟩ v1).setCell ⟨gg, 2, none⟩ v2).setCell ⟨gg, 3, none⟩ v3).setCell ⟨gg, 4, none⟩ v4).cell? ⟨gw, 3, none⟩ = some (.string dv) := by
  obtain ⟨b, z0, c0, c1, c2, c3⟩ := h
  exact ⟨below_set5 y b, by simpa using z0, blk_far5 y0 c0, blk_far5 y0 c1, blk_far5 y0 c2, blk_far5 y0 c3⟩
theorem keepWDT5 {ai : Option Addr} {ni ci : Nat} {af : Option Addr} {nf cf : Nat} {id : Int} {dv : ByteArray} {gw : Nat} {w W : World} {gg : Nat} {v0 v1 v2 v3 v4 : Value} (y0 : gw ≠ gg) (y : w.heap.size ≤ gg) (h : Below w.heap.size w W.drew ∧ gw < W.drew.heap.size ∧ W.drew.cell? ⟨gw, 0, none⟩ = some (.slice ai ni ci) ∧ W.drew.cell? ⟨gw, 1, none⟩ = some (.slice af nf cf) ∧ W.drew.cell? ⟨gw, 2, none⟩ = some (.int .i64 id) ∧ W.drew.cell? ⟨gw, 3, none⟩ = some (.string dv)) : Below w.heap.size w (((((W.setCell ⟨gg, 0, none⟩ v0).setCell ⟨gg, 1, none⟩ v1).setCell ⟨gg, 2, none⟩ v2).setCell ⟨gg, 3, none⟩ v3).setCell ⟨gg, 4, none⟩ v4).drew ∧ gw < (((((W.setCell ⟨gg, 0, none⟩ v0).setCell ⟨gg, 1, none⟩ v1).setCell ⟨gg, 2, none⟩ v2).setCell ⟨gg, 3, none⟩ v3).setCell ⟨gg, 4, none⟩ v4).drew.heap.size ∧ (((((W.setCell ⟨gg, 0, none⟩ v0).setCell ⟨gg, 1, none⟩ v1).setCell ⟨gg, 2, none⟩ v2).setCell ⟨gg, 3, none⟩ v3).setCell ⟨gg, 4, none⟩ v4).drew.cell? ⟨gw, 0, none⟩ = some (.slice ai ni ci) ∧ (((((W.setCell ⟨gg, 0, none⟩ v0).setCell ⟨gg, 1, none⟩ v1).setCell ⟨gg, 2, none⟩ v2).setCell ⟨gg, 3, none⟩ v3).setCell ⟨gg, 4, none⟩ v4).drew.cell? ⟨gw, 1, none⟩ = some (.slice af nf cf) ∧ (((((W.setCell ⟨gg, 0, none⟩ v0).setCell ⟨gg, 1, none⟩ v1).setCell ⟨gg, 2, none⟩ v2).setCell ⟨gg, 3, none⟩ v3).setCell ⟨gg, 4, none⟩ v4).drew.cell? ⟨gw, 2, none⟩ = some (.int .i64 id) ∧ (((((W.setCell ⟨gg, 0, none⟩ v0).setCell ⟨gg, 1, none⟩ v1).setCell ⟨gg, 2, none⟩ v2).setCell ⟨gg, 3, none⟩ v3).setCell ⟨gg, 4, none⟩ v4).drew.cell? ⟨gw, 3, none⟩ = some (.string dv) := keepDT (keepWT5 (W := W) y0 y ⟨⟨h.1.os, h.1.tape, h.1.output, h.1.size, h.1.block⟩, h.2⟩)

set_option maxHeartbeats 4000000 in
set_option maxRecDepth 100000 in
theorem tell0_any (ai : Option Addr) (ni ci : Nat) (xs : List Itm) (af : Option Addr) (nf cf : Nat) (fs : List Flr) (id : Int) (dv : ByteArray) (n : Nat) (HN : Hid ((sayL 0 ⟨#[]⟩ xs fs id).length = n)) (c : Int) (HC : Hid (sayC 0 ⟨#[]⟩ xs fs id = c)) (w : World) (hni : ni ≤ 140737488351232) (hnf : nf ≤ 140737488351232) (hx : Rw encI 6 w (.slice ai ni ci) xs) (hf : Rw encF 2 w (.slice af nf cf) fs) :
    Calls Try.prog 50 #[.int .i64 0, .agg #[.slice ai ni ci, .slice af nf cf, .int .i64 id, .string dv]] w fun e w' => ∃ a q, e = .returned (.tuple #[.agg #[.slice a n q, .slice none 0 0], .int .i64 c]) ∧ OwI w.heap.size w' (.slice a n q) (sayL 0 ⟨#[]⟩ xs fs id) ∧ Below w.heap.size w w' := by
  have R_x := hide hx
  have R_f := hide hf
  clear hx hf
  obtain ⟨ok, h0⟩ : ∃ k, Hid ((okS xs fs && inB id 0 4) = k) := ⟨_, hide rfl⟩
  obtain ⟨k1, HK1⟩ : ∃ k, Hid (okS xs fs = k) := ⟨_, hide rfl⟩
  obtain ⟨k2, HK2⟩ : ∃ k, Hid (inB id 0 4 = k) := ⟨_, hide rfl⟩
  have HK : Hid ((k1 && k2) = ok) := hide (by rw [← unhide HK1, ← unhide HK2]; exact unhide h0)
  obtain ⟨e, h, hch⟩ : ∃ e h, Hid (chg 0 ⟨#[]⟩ xs fs id = (e, h)) := ⟨_, _, hide rfl⟩
  go_enter Try.func50, Try.ntmps50
  go_wp2_with fail
  refine (istateok_any ai ni ci xs af nf cf fs k1 HK1 _ hni hnf (((unhide R_x).alloc _).alloc _) (((unhide R_f).alloc _).alloc _)).mono ?_
  rintro e w1 ⟨rfl, b1⟩
  have cw1 := (((Below.refl w.heap.size w).alloc (Nat.le_refl _) _).alloc (by simp <;> omega) _).trans (b1.mono (by simp <;> omega))
  have zw1 := cw1.size
  have K_w : Hid (w1.heap[w.heap.size]? = some (.cells #[.slice ai ni ci, .slice af nf cf, .int .i64 id, .string dv] 66 (0, 0)) ∧ w.heap.size < w1.heap.size) := hide ⟨(b1.block _ (by simp <;> omega)).trans (lowB2 w _ _), by have := b1.size; simp at this; omega⟩
  have y_w := (unhide K_w).2
  have K_r : Hid (w1.heap[w.heap.size + 1]? = some (.cells #[.slice none 0 0, .slice none 0 0] 31 (0, 0)) ∧ w.heap.size + 1 < w1.heap.size) := hide ⟨(b1.block _ (by simp <;> omega)).trans (newB2 w _ _), by have := b1.size; simp at this; omega⟩
  have y_r := (unhide K_r).2
  have R_x := hide ((unhide R_x).later cw1)
  have R_f := hide ((unhide R_f).later cw1)
  have BL := hide cw1
  clear b1 cw1
  obtain ⟨w_0, w_1, w_2, w_3, -⟩ := blk_cells4 (unhide K_w).1
  have n_w := (unhide K_w).2
  obtain ⟨r_0, r_1, r_z⟩ := blk_cells2 (unhide K_r).1
  have n_r := (unhide K_r).2
  cases k1
  · obtain rfl : ok = false := (unhide HK).symm
    obtain ⟨hL, hC⟩ := say_bad (k := 0) (d := ⟨#[]⟩) (unhide h0)
    obtain rfl : n = 0 := by rw [← unhide HN, hL]; rfl
    obtain rfl : c = 1 := by rw [← unhide HC]; exact hC
    go_wp2
    obtain ⟨p0, p1, -⟩ := blk_cells2 (blk_set2 (unhide K_r).1 (.slice none 0 0) (.slice none 0 0))
    exact bodyPost_ret (v := .tuple #[.agg #[.slice none 0 0, .slice none 0 0], .int .i64 1]) (by simp [results, Try.results50, go_sem, p0, p1]) rfl ⟨_, _, rfl, by rw [hL]; exact own_nil _ _, below_res (unhide BL) (by omega) _ _⟩
  go_wp2_with fail
  refine (inode_any id k2 HK2 _).mono ?_
  rintro e _ ⟨rfl, rfl⟩
  cases k2
  · obtain rfl : ok = false := (unhide HK).symm
    obtain ⟨hL, hC⟩ := say_bad (k := 0) (d := ⟨#[]⟩) (unhide h0)
    obtain rfl : n = 0 := by rw [← unhide HN, hL]; rfl
    obtain rfl : c = 1 := by rw [← unhide HC]; exact hC
    go_wp2
    obtain ⟨p0, p1, -⟩ := blk_cells2 (blk_set2 (unhide K_r).1 (.slice none 0 0) (.slice none 0 0))
    exact bodyPost_ret (v := .tuple #[.agg #[.slice none 0 0, .slice none 0 0], .int .i64 1]) (by simp [results, Try.results50, go_sem, p0, p1]) rfl ⟨_, _, rfl, by rw [hL]; exact own_nil _ _, below_res (unhide BL) (by omega) _ _⟩
  obtain rfl : ok = true := (unhide HK).symm
  clear r_0 r_1 r_z n_r w_0 w_1 w_2 w_3 n_w
  obtain ⟨x0, x1, x2, x3, -⟩ := blk_cells4 (unhide K_w).1
  have nw := (unhide K_w).2
  have HT : Hid (Below w1.heap.size w1 w1 ∧ w.heap.size < w1.heap.size ∧ w1.cell? ⟨w.heap.size, 0, none⟩ = some (.slice ai ni ci) ∧ w1.cell? ⟨w.heap.size, 1, none⟩ = some (.slice af nf cf) ∧ w1.cell? ⟨w.heap.size, 2, none⟩ = some (.int .i64 id) ∧ w1.cell? ⟨w.heap.size, 3, none⟩ = some (.string dv)) := hide ⟨Below.refl _ _, nw, x0, x1, x2, x3⟩
  go_wp2_with fail
  clear x0 x1 x2 x3
  go_cut [6, 7] from 21 to 27 (fun p q wx => ∃ g : Nat, p = .pointer (some ⟨g, 0, none⟩) ∧ q = .int .i64 h ∧ Below w1.heap.size w1 wx ∧ wx.heap[g]? = some (.cells #[.int .i64 e.1, .int .i64 e.2.1, .int .i64 e.2.2.1, .int .i64 e.2.2.2.1, .string e.2.2.2.2] 43 (0, 0)))
  case first =>
    have st := unhide HT
    go_region_held3 (fun W => Below w1.heap.size w1 W ∧ w.heap.size < W.heap.size ∧ W.cell? ⟨w.heap.size, 0, none⟩ = some (.slice ai ni ci) ∧ W.cell? ⟨w.heap.size, 1, none⟩ = some (.slice af nf cf) ∧ W.cell? ⟨w.heap.size, 2, none⟩ = some (.int .i64 id) ∧ W.cell? ⟨w.heap.size, 3, none⟩ = some (.string dv))
      (first | with_reducible exact unhide (by assumption) | with_reducible exact keepDT (unhide HT) | with_reducible exact keepDT (by assumption) | with_reducible exact keepADT _ (by assumption) | (with_reducible refine keepBDT _ _ ?_ ?_ (by assumption) <;> omega) | with_reducible exact keepAT _ (by assumption) | (with_reducible refine keepBT _ _ ?_ ?_ (by assumption) <;> omega) | (with_reducible refine keepWDT5 ?_ ?_ (by assumption) <;> omega) | (with_reducible refine keepWT5 ?_ ?_ (by assumption) <;> omega))
      (first
        | (go_at_call 77; with_reducible refine (change0_any _).mono ?_; rintro e u1 ⟨rfl, bx⟩; have hS1 := hide (keepST bx (by assumption)); obtain ⟨hw1, hz0, -⟩ := unhide hS1; have hwz := hw1.size; clear hw1; (first | (with_reducible have M := hide (newblkD bx); clear bx; obtain ⟨q0, q1, q2, q3, q4, q5⟩ := blk_cells5 (unhide M).1) | (with_reducible have M := hide (newblk bx); clear bx; obtain ⟨q0, q1, q2, q3, q4, q5⟩ := blk_cells5 (unhide M).1) | (with_reducible have M := hide (keptblk bx (by assumption)); clear bx; obtain ⟨q0, q1, q2, q3, q4, q5⟩ := blk_cells5 (unhide M).1) | clear bx))
        | (go_at_call 89; with_reducible refine (wjoin_any ai ni ci xs af nf cf fs id dv ⟨#[]⟩ h0 e h hch _ hni hnf ?_ ?_).mono ?_; exact (unhide R_x).later (kb1 (by assumption)); exact (unhide R_f).later (kb1 (by assumption)); rintro e u2 ⟨rfl, bx⟩; have hS1 := hide (keepST bx (by assumption)); obtain ⟨hw1, hz0, -⟩ := unhide hS1; have hwz := hw1.size; clear hw1; (first | (with_reducible have M := hide (newblkD bx); clear bx; obtain ⟨q0, q1, q2, q3, q4, q5⟩ := blk_cells5 (unhide M).1) | (with_reducible have M := hide (newblk bx); clear bx; obtain ⟨q0, q1, q2, q3, q4, q5⟩ := blk_cells5 (unhide M).1) | (with_reducible have M := hide (keptblk bx (by assumption)); clear bx; obtain ⟨q0, q1, q2, q3, q4, q5⟩ := blk_cells5 (unhide M).1) | clear bx)))
    all_goals
      rename_i hS
      go_wp2_with fail
      go_meet
      first
        | with_reducible exact ⟨_, rfl, rfl, hS.1, blk_set5 (unhide M).1 _ _ _ _ _⟩
        | with_reducible exact ⟨_, rfl, rfl, hS.1, heap_alloc_new _ _⟩
  case rest =>
    obtain ⟨ge, rfl, rfl, cwc, hblk⟩ := hcut
    have zwc := cwc.size
    have K_e9 := hide (And.intro hblk (Array.getElem?_eq_some_iff.1 hblk).1)
    clear hblk HT nw
    have K_w := hide (keptblk cwc K_w)
    have K_r := hide (keptblk cwc K_r)
    have R_x := hide ((unhide R_x).later cwc)
    have R_f := hide ((unhide R_f).later cwc)
    have BL := hide ((unhide BL).trans (cwc.mono (unhide BL).size))
    clear cwc
    obtain ⟨w_0, w_1, w_2, w_3, -⟩ := blk_cells4 (unhide K_w).1
    have n_w := (unhide K_w).2
    obtain ⟨r_0, r_1, r_z⟩ := blk_cells2 (unhide K_r).1
    have n_r := (unhide K_r).2
    have K_e := K_e9
    clear K_e9
    obtain ⟨e_0, e_1, e_2, e_3, e_4, e_z⟩ := blk_cells5 (unhide K_e).1
    have n_e := (unhide K_e).2
    rcases Bool.eq_false_or_eq_true (h != 0) with hh | hh
    · have hne : h ≠ 0 := by simpa using hh
      obtain ⟨hL, hC⟩ := say_no (unhide h0) (unhide hch) hne
      obtain rfl : n = 0 := by rw [← unhide HN, hL]; rfl
      obtain rfl : c = h := by rw [← unhide HC]; exact hC
      clear hne
      go_wp2
      obtain ⟨p0, p1, -⟩ := blk_cells2 (blk_set2 (unhide K_r).1 (.slice none 0 0) (.slice none 0 0))
      exact bodyPost_ret (v := .tuple #[.agg #[.slice none 0 0, .slice none 0 0], .int .i64 c]) (by simp [results, Try.results50, go_sem, p0, p1]) rfl ⟨_, _, rfl, by rw [hL]; exact own_nil _ _, below_res (unhide BL) (by omega) _ _⟩
    obtain rfl : h = 0 := by simpa using hh
    obtain ⟨ho1, ho2⟩ := chg_one (by omega) (unhide h0) (unhide hch)
    have HO := hide ho1
    clear ho1
    go_wp2_with fail
    refine (isingle_any id e (by omega) true HO 1 (hide rfl) _).mono ?_
    rintro e w2 ⟨a1, c1, rfl, o1, b2⟩
    clear e_0 e_1 e_2 e_3 e_4 e_z n_e r_0 r_1 r_z n_r w_0 w_1 w_2 w_3 n_w
    have cw2 := b2
    have zw2 := cw2.size
    have K_w := hide (keptblk cw2 K_w)
    have K_r := hide (keptblk cw2 K_r)
    have K_e := hide (keptblk cw2 K_e)
    have R_x := hide ((unhide R_x).later cw2)
    have R_f := hide ((unhide R_f).later cw2)
    have BL := hide ((unhide BL).trans (cw2.mono (unhide BL).size))
    have R_oS1 := hide (o1)
    have L_oS1 := hide (World.ownsRow.lt (unhide R_oS1))
    clear b2 cw2
    obtain ⟨w_0, w_1, w_2, w_3, -⟩ := blk_cells4 (unhide K_w).1
    have n_w := (unhide K_w).2
    obtain ⟨r_0, r_1, r_z⟩ := blk_cells2 (unhide K_r).1
    have n_r := (unhide K_r).2
    obtain ⟨e_0, e_1, e_2, e_3, e_4, e_z⟩ := blk_cells5 (unhide K_e).1
    have n_e := (unhide K_e).2
    clear o1
    obtain ⟨hL, hC⟩ := say_ok (unhide h0) (unhide hch)
    obtain rfl : n = 1 := by rw [← unhide HN, hL]; rfl
    obtain rfl : c = 0 := by rw [← unhide HC]; exact hC
    go_wp2
    obtain ⟨p0, p1, -⟩ := blk_cells2 (blk_al (blk_set2 (unhide K_r).1 (.slice a1 1 c1) (.slice none 0 0)) (.cells #[.slice a1 1 c1, .slice none 0 0] 31))
    exact bodyPost_ret (v := .tuple #[.agg #[.slice a1 1 c1, .slice none 0 0], .int .i64 0]) (by simp [results, Try.results50, go_sem, p0, p1]) rfl ⟨_, _, rfl, by rw [hL]; exact ow_al (ow_res (Ow.base (unhide R_oS1) (by first | omega | (simp; omega))) (unhide K_r).1 _ _) _, below_al (below_res (unhide BL) (by omega) _ _) (by simp; omega) _⟩

set_option maxHeartbeats 4000000 in
set_option maxRecDepth 100000 in
theorem tell1_any (ai : Option Addr) (ni ci : Nat) (xs : List Itm) (af : Option Addr) (nf cf : Nat) (fs : List Flr) (id : Int) (dv : ByteArray) (n : Nat) (HN : Hid ((sayL 1 ⟨#[]⟩ xs fs id).length = n)) (c : Int) (HC : Hid (sayC 1 ⟨#[]⟩ xs fs id = c)) (w : World) (hni : ni ≤ 140737488351232) (hnf : nf ≤ 140737488351232) (hx : Rw encI 6 w (.slice ai ni ci) xs) (hf : Rw encF 2 w (.slice af nf cf) fs) :
    Calls Try.prog 50 #[.int .i64 1, .agg #[.slice ai ni ci, .slice af nf cf, .int .i64 id, .string dv]] w fun e w' => ∃ a q, e = .returned (.tuple #[.agg #[.slice a n q, .slice none 0 0], .int .i64 c]) ∧ OwI w.heap.size w' (.slice a n q) (sayL 1 ⟨#[]⟩ xs fs id) ∧ Below w.heap.size w w' := by
  have R_x := hide hx
  have R_f := hide hf
  clear hx hf
  obtain ⟨ok, h0⟩ : ∃ k, Hid ((okS xs fs && inB id 0 4) = k) := ⟨_, hide rfl⟩
  obtain ⟨k1, HK1⟩ : ∃ k, Hid (okS xs fs = k) := ⟨_, hide rfl⟩
  obtain ⟨k2, HK2⟩ : ∃ k, Hid (inB id 0 4 = k) := ⟨_, hide rfl⟩
  have HK : Hid ((k1 && k2) = ok) := hide (by rw [← unhide HK1, ← unhide HK2]; exact unhide h0)
  obtain ⟨e, h, hch⟩ : ∃ e h, Hid (chg 1 ⟨#[]⟩ xs fs id = (e, h)) := ⟨_, _, hide rfl⟩
  go_enter Try.func50, Try.ntmps50
  go_wp2_with fail
  refine (istateok_any ai ni ci xs af nf cf fs k1 HK1 _ hni hnf (((unhide R_x).alloc _).alloc _) (((unhide R_f).alloc _).alloc _)).mono ?_
  rintro e w1 ⟨rfl, b1⟩
  have cw1 := (((Below.refl w.heap.size w).alloc (Nat.le_refl _) _).alloc (by simp <;> omega) _).trans (b1.mono (by simp <;> omega))
  have zw1 := cw1.size
  have K_w : Hid (w1.heap[w.heap.size]? = some (.cells #[.slice ai ni ci, .slice af nf cf, .int .i64 id, .string dv] 66 (0, 0)) ∧ w.heap.size < w1.heap.size) := hide ⟨(b1.block _ (by simp <;> omega)).trans (lowB2 w _ _), by have := b1.size; simp at this; omega⟩
  have y_w := (unhide K_w).2
  have K_r : Hid (w1.heap[w.heap.size + 1]? = some (.cells #[.slice none 0 0, .slice none 0 0] 31 (0, 0)) ∧ w.heap.size + 1 < w1.heap.size) := hide ⟨(b1.block _ (by simp <;> omega)).trans (newB2 w _ _), by have := b1.size; simp at this; omega⟩
  have y_r := (unhide K_r).2
  have R_x := hide ((unhide R_x).later cw1)
  have R_f := hide ((unhide R_f).later cw1)
  have BL := hide cw1
  clear b1 cw1
  obtain ⟨w_0, w_1, w_2, w_3, -⟩ := blk_cells4 (unhide K_w).1
  have n_w := (unhide K_w).2
  obtain ⟨r_0, r_1, r_z⟩ := blk_cells2 (unhide K_r).1
  have n_r := (unhide K_r).2
  cases k1
  · obtain rfl : ok = false := (unhide HK).symm
    obtain ⟨hL, hC⟩ := say_bad (k := 1) (d := ⟨#[]⟩) (unhide h0)
    obtain rfl : n = 0 := by rw [← unhide HN, hL]; rfl
    obtain rfl : c = 1 := by rw [← unhide HC]; exact hC
    go_wp2
    obtain ⟨p0, p1, -⟩ := blk_cells2 (blk_set2 (unhide K_r).1 (.slice none 0 0) (.slice none 0 0))
    exact bodyPost_ret (v := .tuple #[.agg #[.slice none 0 0, .slice none 0 0], .int .i64 1]) (by simp [results, Try.results50, go_sem, p0, p1]) rfl ⟨_, _, rfl, by rw [hL]; exact own_nil _ _, below_res (unhide BL) (by omega) _ _⟩
  go_wp2_with fail
  refine (inode_any id k2 HK2 _).mono ?_
  rintro e _ ⟨rfl, rfl⟩
  cases k2
  · obtain rfl : ok = false := (unhide HK).symm
    obtain ⟨hL, hC⟩ := say_bad (k := 1) (d := ⟨#[]⟩) (unhide h0)
    obtain rfl : n = 0 := by rw [← unhide HN, hL]; rfl
    obtain rfl : c = 1 := by rw [← unhide HC]; exact hC
    go_wp2
    obtain ⟨p0, p1, -⟩ := blk_cells2 (blk_set2 (unhide K_r).1 (.slice none 0 0) (.slice none 0 0))
    exact bodyPost_ret (v := .tuple #[.agg #[.slice none 0 0, .slice none 0 0], .int .i64 1]) (by simp [results, Try.results50, go_sem, p0, p1]) rfl ⟨_, _, rfl, by rw [hL]; exact own_nil _ _, below_res (unhide BL) (by omega) _ _⟩
  obtain rfl : ok = true := (unhide HK).symm
  clear r_0 r_1 r_z n_r w_0 w_1 w_2 w_3 n_w
  obtain ⟨x0, x1, x2, x3, -⟩ := blk_cells4 (unhide K_w).1
  have nw := (unhide K_w).2
  have HT : Hid (Below w1.heap.size w1 w1 ∧ w.heap.size < w1.heap.size ∧ w1.cell? ⟨w.heap.size, 0, none⟩ = some (.slice ai ni ci) ∧ w1.cell? ⟨w.heap.size, 1, none⟩ = some (.slice af nf cf) ∧ w1.cell? ⟨w.heap.size, 2, none⟩ = some (.int .i64 id) ∧ w1.cell? ⟨w.heap.size, 3, none⟩ = some (.string dv)) := hide ⟨Below.refl _ _, nw, x0, x1, x2, x3⟩
  go_wp2_with fail
  clear x0 x1 x2 x3
  go_cut [6, 7] from 21 to 27 (fun p q wx => ∃ g : Nat, p = .pointer (some ⟨g, 0, none⟩) ∧ q = .int .i64 h ∧ Below w1.heap.size w1 wx ∧ wx.heap[g]? = some (.cells #[.int .i64 e.1, .int .i64 e.2.1, .int .i64 e.2.2.1, .int .i64 e.2.2.2.1, .string e.2.2.2.2] 43 (0, 0)))
  case first =>
    have st := unhide HT
    go_region_held3 (fun W => Below w1.heap.size w1 W ∧ w.heap.size < W.heap.size ∧ W.cell? ⟨w.heap.size, 0, none⟩ = some (.slice ai ni ci) ∧ W.cell? ⟨w.heap.size, 1, none⟩ = some (.slice af nf cf) ∧ W.cell? ⟨w.heap.size, 2, none⟩ = some (.int .i64 id) ∧ W.cell? ⟨w.heap.size, 3, none⟩ = some (.string dv))
      (first | with_reducible exact unhide (by assumption) | with_reducible exact keepDT (unhide HT) | with_reducible exact keepDT (by assumption) | with_reducible exact keepADT _ (by assumption) | (with_reducible refine keepBDT _ _ ?_ ?_ (by assumption) <;> omega) | with_reducible exact keepAT _ (by assumption) | (with_reducible refine keepBT _ _ ?_ ?_ (by assumption) <;> omega) | (with_reducible refine keepWDT5 ?_ ?_ (by assumption) <;> omega) | (with_reducible refine keepWT5 ?_ ?_ (by assumption) <;> omega))
      (first
        | (go_at_call 77; with_reducible refine (change1_any _).mono ?_; rintro e u1 ⟨rfl, bx⟩; have hS1 := hide (keepST bx (by assumption)); obtain ⟨hw1, hz0, -⟩ := unhide hS1; have hwz := hw1.size; clear hw1; (first | (with_reducible have M := hide (newblkD bx); clear bx; obtain ⟨q0, q1, q2, q3, q4, q5⟩ := blk_cells5 (unhide M).1) | (with_reducible have M := hide (newblk bx); clear bx; obtain ⟨q0, q1, q2, q3, q4, q5⟩ := blk_cells5 (unhide M).1) | (with_reducible have M := hide (keptblk bx (by assumption)); clear bx; obtain ⟨q0, q1, q2, q3, q4, q5⟩ := blk_cells5 (unhide M).1) | clear bx))
        | (go_at_call 90; with_reducible refine (wbeat_any ai ni ci xs af nf cf fs id dv ⟨#[]⟩ h0 e h hch _ hni hnf ?_ ?_).mono ?_; exact (unhide R_x).later (kb1 (by assumption)); exact (unhide R_f).later (kb1 (by assumption)); rintro e u2 ⟨rfl, bx⟩; have hS1 := hide (keepST bx (by assumption)); obtain ⟨hw1, hz0, -⟩ := unhide hS1; have hwz := hw1.size; clear hw1; (first | (with_reducible have M := hide (newblkD bx); clear bx; obtain ⟨q0, q1, q2, q3, q4, q5⟩ := blk_cells5 (unhide M).1) | (with_reducible have M := hide (newblk bx); clear bx; obtain ⟨q0, q1, q2, q3, q4, q5⟩ := blk_cells5 (unhide M).1) | (with_reducible have M := hide (keptblk bx (by assumption)); clear bx; obtain ⟨q0, q1, q2, q3, q4, q5⟩ := blk_cells5 (unhide M).1) | clear bx)))
    all_goals
      rename_i hS
      go_wp2_with fail
      go_meet
      first
        | with_reducible exact ⟨_, rfl, rfl, hS.1, blk_set5 (unhide M).1 _ _ _ _ _⟩
        | with_reducible exact ⟨_, rfl, rfl, hS.1, heap_alloc_new _ _⟩
  case rest =>
    obtain ⟨ge, rfl, rfl, cwc, hblk⟩ := hcut
    have zwc := cwc.size
    have K_e9 := hide (And.intro hblk (Array.getElem?_eq_some_iff.1 hblk).1)
    clear hblk HT nw
    have K_w := hide (keptblk cwc K_w)
    have K_r := hide (keptblk cwc K_r)
    have R_x := hide ((unhide R_x).later cwc)
    have R_f := hide ((unhide R_f).later cwc)
    have BL := hide ((unhide BL).trans (cwc.mono (unhide BL).size))
    clear cwc
    obtain ⟨w_0, w_1, w_2, w_3, -⟩ := blk_cells4 (unhide K_w).1
    have n_w := (unhide K_w).2
    obtain ⟨r_0, r_1, r_z⟩ := blk_cells2 (unhide K_r).1
    have n_r := (unhide K_r).2
    have K_e := K_e9
    clear K_e9
    obtain ⟨e_0, e_1, e_2, e_3, e_4, e_z⟩ := blk_cells5 (unhide K_e).1
    have n_e := (unhide K_e).2
    rcases Bool.eq_false_or_eq_true (h != 0) with hh | hh
    · have hne : h ≠ 0 := by simpa using hh
      obtain ⟨hL, hC⟩ := say_no (unhide h0) (unhide hch) hne
      obtain rfl : n = 0 := by rw [← unhide HN, hL]; rfl
      obtain rfl : c = h := by rw [← unhide HC]; exact hC
      clear hne
      go_wp2
      obtain ⟨p0, p1, -⟩ := blk_cells2 (blk_set2 (unhide K_r).1 (.slice none 0 0) (.slice none 0 0))
      exact bodyPost_ret (v := .tuple #[.agg #[.slice none 0 0, .slice none 0 0], .int .i64 c]) (by simp [results, Try.results50, go_sem, p0, p1]) rfl ⟨_, _, rfl, by rw [hL]; exact own_nil _ _, below_res (unhide BL) (by omega) _ _⟩
    obtain rfl : h = 0 := by simpa using hh
    obtain ⟨ho1, ho2⟩ := chg_one (by omega) (unhide h0) (unhide hch)
    have HO := hide ho1
    clear ho1
    go_wp2_with fail
    refine (isingle_any id e (by omega) true HO 1 (hide rfl) _).mono ?_
    rintro e w2 ⟨a1, c1, rfl, o1, b2⟩
    clear e_0 e_1 e_2 e_3 e_4 e_z n_e r_0 r_1 r_z n_r w_0 w_1 w_2 w_3 n_w
    have cw2 := b2
    have zw2 := cw2.size
    have K_w := hide (keptblk cw2 K_w)
    have K_r := hide (keptblk cw2 K_r)
    have K_e := hide (keptblk cw2 K_e)
    have R_x := hide ((unhide R_x).later cw2)
    have R_f := hide ((unhide R_f).later cw2)
    have BL := hide ((unhide BL).trans (cw2.mono (unhide BL).size))
    have R_oS1 := hide (o1)
    have L_oS1 := hide (World.ownsRow.lt (unhide R_oS1))
    clear b2 cw2
    obtain ⟨w_0, w_1, w_2, w_3, -⟩ := blk_cells4 (unhide K_w).1
    have n_w := (unhide K_w).2
    obtain ⟨r_0, r_1, r_z⟩ := blk_cells2 (unhide K_r).1
    have n_r := (unhide K_r).2
    obtain ⟨e_0, e_1, e_2, e_3, e_4, e_z⟩ := blk_cells5 (unhide K_e).1
    have n_e := (unhide K_e).2
    clear o1
    obtain ⟨hL, hC⟩ := say_ok (unhide h0) (unhide hch)
    obtain rfl : n = 1 := by rw [← unhide HN, hL]; rfl
    obtain rfl : c = 0 := by rw [← unhide HC]; exact hC
    go_wp2
    obtain ⟨p0, p1, -⟩ := blk_cells2 (blk_al (blk_set2 (unhide K_r).1 (.slice a1 1 c1) (.slice none 0 0)) (.cells #[.slice a1 1 c1, .slice none 0 0] 31))
    exact bodyPost_ret (v := .tuple #[.agg #[.slice a1 1 c1, .slice none 0 0], .int .i64 0]) (by simp [results, Try.results50, go_sem, p0, p1]) rfl ⟨_, _, rfl, by rw [hL]; exact ow_al (ow_res (Ow.base (unhide R_oS1) (by first | omega | (simp; omega))) (unhide K_r).1 _ _) _, below_al (below_res (unhide BL) (by omega) _ _) (by simp; omega) _⟩

set_option maxHeartbeats 4000000 in
set_option maxRecDepth 100000 in
theorem tell2_any (ai : Option Addr) (ni ci : Nat) (xs : List Itm) (af : Option Addr) (nf cf : Nat) (fs : List Flr) (id : Int) (dv : ByteArray) (n : Nat) (HN : Hid ((sayL 2 dv xs fs id).length = n)) (c : Int) (HC : Hid (sayC 2 dv xs fs id = c)) (w : World) (hni : ni ≤ 140737488351232) (hnf : nf ≤ 140737488351232) (hx : Rw encI 6 w (.slice ai ni ci) xs) (hf : Rw encF 2 w (.slice af nf cf) fs) :
    Calls Try.prog 50 #[.int .i64 2, .agg #[.slice ai ni ci, .slice af nf cf, .int .i64 id, .string dv]] w fun e w' => ∃ a q, e = .returned (.tuple #[.agg #[.slice a n q, .slice none 0 0], .int .i64 c]) ∧ OwI w.heap.size w' (.slice a n q) (sayL 2 dv xs fs id) ∧ Below w.heap.size w w' := by
  have R_x := hide hx
  have R_f := hide hf
  clear hx hf
  obtain ⟨ok, h0⟩ : ∃ k, Hid ((okS xs fs && inB id 0 4) = k) := ⟨_, hide rfl⟩
  obtain ⟨k1, HK1⟩ : ∃ k, Hid (okS xs fs = k) := ⟨_, hide rfl⟩
  obtain ⟨k2, HK2⟩ : ∃ k, Hid (inB id 0 4 = k) := ⟨_, hide rfl⟩
  have HK : Hid ((k1 && k2) = ok) := hide (by rw [← unhide HK1, ← unhide HK2]; exact unhide h0)
  obtain ⟨e, h, hch⟩ : ∃ e h, Hid (chg 2 dv xs fs id = (e, h)) := ⟨_, _, hide rfl⟩
  go_enter Try.func50, Try.ntmps50
  go_wp2_with fail
  refine (istateok_any ai ni ci xs af nf cf fs k1 HK1 _ hni hnf (((unhide R_x).alloc _).alloc _) (((unhide R_f).alloc _).alloc _)).mono ?_
  rintro e w1 ⟨rfl, b1⟩
  have cw1 := (((Below.refl w.heap.size w).alloc (Nat.le_refl _) _).alloc (by simp <;> omega) _).trans (b1.mono (by simp <;> omega))
  have zw1 := cw1.size
  have K_w : Hid (w1.heap[w.heap.size]? = some (.cells #[.slice ai ni ci, .slice af nf cf, .int .i64 id, .string dv] 66 (0, 0)) ∧ w.heap.size < w1.heap.size) := hide ⟨(b1.block _ (by simp <;> omega)).trans (lowB2 w _ _), by have := b1.size; simp at this; omega⟩
  have y_w := (unhide K_w).2
  have K_r : Hid (w1.heap[w.heap.size + 1]? = some (.cells #[.slice none 0 0, .slice none 0 0] 31 (0, 0)) ∧ w.heap.size + 1 < w1.heap.size) := hide ⟨(b1.block _ (by simp <;> omega)).trans (newB2 w _ _), by have := b1.size; simp at this; omega⟩
  have y_r := (unhide K_r).2
  have R_x := hide ((unhide R_x).later cw1)
  have R_f := hide ((unhide R_f).later cw1)
  have BL := hide cw1
  clear b1 cw1
  obtain ⟨w_0, w_1, w_2, w_3, -⟩ := blk_cells4 (unhide K_w).1
  have n_w := (unhide K_w).2
  obtain ⟨r_0, r_1, r_z⟩ := blk_cells2 (unhide K_r).1
  have n_r := (unhide K_r).2
  cases k1
  · obtain rfl : ok = false := (unhide HK).symm
    obtain ⟨hL, hC⟩ := say_bad (k := 2) (d := dv) (unhide h0)
    obtain rfl : n = 0 := by rw [← unhide HN, hL]; rfl
    obtain rfl : c = 1 := by rw [← unhide HC]; exact hC
    go_wp2
    obtain ⟨p0, p1, -⟩ := blk_cells2 (blk_set2 (unhide K_r).1 (.slice none 0 0) (.slice none 0 0))
    exact bodyPost_ret (v := .tuple #[.agg #[.slice none 0 0, .slice none 0 0], .int .i64 1]) (by simp [results, Try.results50, go_sem, p0, p1]) rfl ⟨_, _, rfl, by rw [hL]; exact own_nil _ _, below_res (unhide BL) (by omega) _ _⟩
  go_wp2_with fail
  refine (inode_any id k2 HK2 _).mono ?_
  rintro e _ ⟨rfl, rfl⟩
  cases k2
  · obtain rfl : ok = false := (unhide HK).symm
    obtain ⟨hL, hC⟩ := say_bad (k := 2) (d := dv) (unhide h0)
    obtain rfl : n = 0 := by rw [← unhide HN, hL]; rfl
    obtain rfl : c = 1 := by rw [← unhide HC]; exact hC
    go_wp2
    obtain ⟨p0, p1, -⟩ := blk_cells2 (blk_set2 (unhide K_r).1 (.slice none 0 0) (.slice none 0 0))
    exact bodyPost_ret (v := .tuple #[.agg #[.slice none 0 0, .slice none 0 0], .int .i64 1]) (by simp [results, Try.results50, go_sem, p0, p1]) rfl ⟨_, _, rfl, by rw [hL]; exact own_nil _ _, below_res (unhide BL) (by omega) _ _⟩
  obtain rfl : ok = true := (unhide HK).symm
  clear r_0 r_1 r_z n_r w_0 w_1 w_2 w_3 n_w
  obtain ⟨x0, x1, x2, x3, -⟩ := blk_cells4 (unhide K_w).1
  have nw := (unhide K_w).2
  have HT : Hid (Below w1.heap.size w1 w1 ∧ w.heap.size < w1.heap.size ∧ w1.cell? ⟨w.heap.size, 0, none⟩ = some (.slice ai ni ci) ∧ w1.cell? ⟨w.heap.size, 1, none⟩ = some (.slice af nf cf) ∧ w1.cell? ⟨w.heap.size, 2, none⟩ = some (.int .i64 id) ∧ w1.cell? ⟨w.heap.size, 3, none⟩ = some (.string dv)) := hide ⟨Below.refl _ _, nw, x0, x1, x2, x3⟩
  go_wp2_with fail
  clear x0 x1 x2 x3
  go_cut [6, 7] from 21 to 27 (fun p q wx => ∃ g : Nat, p = .pointer (some ⟨g, 0, none⟩) ∧ q = .int .i64 h ∧ Below w1.heap.size w1 wx ∧ wx.heap[g]? = some (.cells #[.int .i64 e.1, .int .i64 e.2.1, .int .i64 e.2.2.1, .int .i64 e.2.2.2.1, .string e.2.2.2.2] 43 (0, 0)))
  case first =>
    have st := unhide HT
    go_region_held3 (fun W => Below w1.heap.size w1 W ∧ w.heap.size < W.heap.size ∧ W.cell? ⟨w.heap.size, 0, none⟩ = some (.slice ai ni ci) ∧ W.cell? ⟨w.heap.size, 1, none⟩ = some (.slice af nf cf) ∧ W.cell? ⟨w.heap.size, 2, none⟩ = some (.int .i64 id) ∧ W.cell? ⟨w.heap.size, 3, none⟩ = some (.string dv))
      (first | with_reducible exact unhide (by assumption) | with_reducible exact keepDT (unhide HT) | with_reducible exact keepDT (by assumption) | with_reducible exact keepADT _ (by assumption) | (with_reducible refine keepBDT _ _ ?_ ?_ (by assumption) <;> omega) | with_reducible exact keepAT _ (by assumption) | (with_reducible refine keepBT _ _ ?_ ?_ (by assumption) <;> omega) | (with_reducible refine keepWDT5 ?_ ?_ (by assumption) <;> omega) | (with_reducible refine keepWT5 ?_ ?_ (by assumption) <;> omega))
      (first
        | (go_at_call 77; with_reducible refine (change2_any _).mono ?_; rintro e u1 ⟨rfl, bx⟩; have hS1 := hide (keepST bx (by assumption)); obtain ⟨hw1, hz0, -⟩ := unhide hS1; have hwz := hw1.size; clear hw1; (first | (with_reducible have M := hide (newblkD bx); clear bx; obtain ⟨q0, q1, q2, q3, q4, q5⟩ := blk_cells5 (unhide M).1) | (with_reducible have M := hide (newblk bx); clear bx; obtain ⟨q0, q1, q2, q3, q4, q5⟩ := blk_cells5 (unhide M).1) | (with_reducible have M := hide (keptblk bx (by assumption)); clear bx; obtain ⟨q0, q1, q2, q3, q4, q5⟩ := blk_cells5 (unhide M).1) | clear bx))
        | (go_at_call 91; with_reducible refine (wset_any ai ni ci xs af nf cf fs id dv h0 e h hch _ hni hnf ?_ ?_).mono ?_; exact (unhide R_x).later (kb1 (by assumption)); exact (unhide R_f).later (kb1 (by assumption)); rintro e u2 ⟨rfl, bx⟩; have hS1 := hide (keepST bx (by assumption)); obtain ⟨hw1, hz0, -⟩ := unhide hS1; have hwz := hw1.size; clear hw1; (first | (with_reducible have M := hide (newblkD bx); clear bx; obtain ⟨q0, q1, q2, q3, q4, q5⟩ := blk_cells5 (unhide M).1) | (with_reducible have M := hide (newblk bx); clear bx; obtain ⟨q0, q1, q2, q3, q4, q5⟩ := blk_cells5 (unhide M).1) | (with_reducible have M := hide (keptblk bx (by assumption)); clear bx; obtain ⟨q0, q1, q2, q3, q4, q5⟩ := blk_cells5 (unhide M).1) | clear bx)))
    all_goals
      rename_i hS
      go_wp2_with fail
      go_meet
      first
        | with_reducible exact ⟨_, rfl, rfl, hS.1, blk_set5 (unhide M).1 _ _ _ _ _⟩
        | with_reducible exact ⟨_, rfl, rfl, hS.1, heap_alloc_new _ _⟩
  case rest =>
    obtain ⟨ge, rfl, rfl, cwc, hblk⟩ := hcut
    have zwc := cwc.size
    have K_e9 := hide (And.intro hblk (Array.getElem?_eq_some_iff.1 hblk).1)
    clear hblk HT nw
    have K_w := hide (keptblk cwc K_w)
    have K_r := hide (keptblk cwc K_r)
    have R_x := hide ((unhide R_x).later cwc)
    have R_f := hide ((unhide R_f).later cwc)
    have BL := hide ((unhide BL).trans (cwc.mono (unhide BL).size))
    clear cwc
    obtain ⟨w_0, w_1, w_2, w_3, -⟩ := blk_cells4 (unhide K_w).1
    have n_w := (unhide K_w).2
    obtain ⟨r_0, r_1, r_z⟩ := blk_cells2 (unhide K_r).1
    have n_r := (unhide K_r).2
    have K_e := K_e9
    clear K_e9
    obtain ⟨e_0, e_1, e_2, e_3, e_4, e_z⟩ := blk_cells5 (unhide K_e).1
    have n_e := (unhide K_e).2
    rcases Bool.eq_false_or_eq_true (h != 0) with hh | hh
    · have hne : h ≠ 0 := by simpa using hh
      obtain ⟨hL, hC⟩ := say_no (unhide h0) (unhide hch) hne
      obtain rfl : n = 0 := by rw [← unhide HN, hL]; rfl
      obtain rfl : c = h := by rw [← unhide HC]; exact hC
      clear hne
      go_wp2
      obtain ⟨p0, p1, -⟩ := blk_cells2 (blk_set2 (unhide K_r).1 (.slice none 0 0) (.slice none 0 0))
      exact bodyPost_ret (v := .tuple #[.agg #[.slice none 0 0, .slice none 0 0], .int .i64 c]) (by simp [results, Try.results50, go_sem, p0, p1]) rfl ⟨_, _, rfl, by rw [hL]; exact own_nil _ _, below_res (unhide BL) (by omega) _ _⟩
    obtain rfl : h = 0 := by simpa using hh
    obtain ⟨ho1, ho2⟩ := chg_one (by omega) (unhide h0) (unhide hch)
    have HO := hide ho1
    clear ho1
    go_wp2_with fail
    refine (isingle_any id e (by omega) true HO 1 (hide rfl) _).mono ?_
    rintro e w2 ⟨a1, c1, rfl, o1, b2⟩
    clear e_0 e_1 e_2 e_3 e_4 e_z n_e r_0 r_1 r_z n_r w_0 w_1 w_2 w_3 n_w
    have cw2 := b2
    have zw2 := cw2.size
    have K_w := hide (keptblk cw2 K_w)
    have K_r := hide (keptblk cw2 K_r)
    have K_e := hide (keptblk cw2 K_e)
    have R_x := hide ((unhide R_x).later cw2)
    have R_f := hide ((unhide R_f).later cw2)
    have BL := hide ((unhide BL).trans (cw2.mono (unhide BL).size))
    have R_oS1 := hide (o1)
    have L_oS1 := hide (World.ownsRow.lt (unhide R_oS1))
    clear b2 cw2
    obtain ⟨w_0, w_1, w_2, w_3, -⟩ := blk_cells4 (unhide K_w).1
    have n_w := (unhide K_w).2
    obtain ⟨r_0, r_1, r_z⟩ := blk_cells2 (unhide K_r).1
    have n_r := (unhide K_r).2
    obtain ⟨e_0, e_1, e_2, e_3, e_4, e_z⟩ := blk_cells5 (unhide K_e).1
    have n_e := (unhide K_e).2
    clear o1
    obtain ⟨hL, hC⟩ := say_ok (unhide h0) (unhide hch)
    obtain rfl : n = 1 := by rw [← unhide HN, hL]; rfl
    obtain rfl : c = 0 := by rw [← unhide HC]; exact hC
    go_wp2
    obtain ⟨p0, p1, -⟩ := blk_cells2 (blk_al (blk_set2 (unhide K_r).1 (.slice a1 1 c1) (.slice none 0 0)) (.cells #[.slice a1 1 c1, .slice none 0 0] 31))
    exact bodyPost_ret (v := .tuple #[.agg #[.slice a1 1 c1, .slice none 0 0], .int .i64 0]) (by simp [results, Try.results50, go_sem, p0, p1]) rfl ⟨_, _, rfl, by rw [hL]; exact ow_al (ow_res (Ow.base (unhide R_oS1) (by first | omega | (simp; omega))) (unhide K_r).1 _ _) _, below_al (below_res (unhide BL) (by omega) _ _) (by simp; omega) _⟩

set_option maxHeartbeats 4000000 in
set_option maxRecDepth 100000 in
theorem tell3_any (ai : Option Addr) (ni ci : Nat) (xs : List Itm) (af : Option Addr) (nf cf : Nat) (fs : List Flr) (id : Int) (dv : ByteArray) (n : Nat) (HN : Hid ((sayL 3 ⟨#[]⟩ xs fs id).length = n)) (c : Int) (HC : Hid (sayC 3 ⟨#[]⟩ xs fs id = c)) (w : World) (hni : ni ≤ 140737488351232) (hnf : nf ≤ 140737488351232) (hx : Rw encI 6 w (.slice ai ni ci) xs) (hf : Rw encF 2 w (.slice af nf cf) fs) :
    Calls Try.prog 50 #[.int .i64 3, .agg #[.slice ai ni ci, .slice af nf cf, .int .i64 id, .string dv]] w fun e w' => ∃ a q, e = .returned (.tuple #[.agg #[.slice a n q, .slice none 0 0], .int .i64 c]) ∧ OwI w.heap.size w' (.slice a n q) (sayL 3 ⟨#[]⟩ xs fs id) ∧ Below w.heap.size w w' := by
  have R_x := hide hx
  have R_f := hide hf
  clear hx hf
  obtain ⟨ok, h0⟩ : ∃ k, Hid ((okS xs fs && inB id 0 4) = k) := ⟨_, hide rfl⟩
  obtain ⟨k1, HK1⟩ : ∃ k, Hid (okS xs fs = k) := ⟨_, hide rfl⟩
  obtain ⟨k2, HK2⟩ : ∃ k, Hid (inB id 0 4 = k) := ⟨_, hide rfl⟩
  have HK : Hid ((k1 && k2) = ok) := hide (by rw [← unhide HK1, ← unhide HK2]; exact unhide h0)
  obtain ⟨e, h, hch⟩ : ∃ e h, Hid (chg 3 ⟨#[]⟩ xs fs id = (e, h)) := ⟨_, _, hide rfl⟩
  go_enter Try.func50, Try.ntmps50
  go_wp2_with fail
  refine (istateok_any ai ni ci xs af nf cf fs k1 HK1 _ hni hnf (((unhide R_x).alloc _).alloc _) (((unhide R_f).alloc _).alloc _)).mono ?_
  rintro e w1 ⟨rfl, b1⟩
  have cw1 := (((Below.refl w.heap.size w).alloc (Nat.le_refl _) _).alloc (by simp <;> omega) _).trans (b1.mono (by simp <;> omega))
  have zw1 := cw1.size
  have K_w : Hid (w1.heap[w.heap.size]? = some (.cells #[.slice ai ni ci, .slice af nf cf, .int .i64 id, .string dv] 66 (0, 0)) ∧ w.heap.size < w1.heap.size) := hide ⟨(b1.block _ (by simp <;> omega)).trans (lowB2 w _ _), by have := b1.size; simp at this; omega⟩
  have y_w := (unhide K_w).2
  have K_r : Hid (w1.heap[w.heap.size + 1]? = some (.cells #[.slice none 0 0, .slice none 0 0] 31 (0, 0)) ∧ w.heap.size + 1 < w1.heap.size) := hide ⟨(b1.block _ (by simp <;> omega)).trans (newB2 w _ _), by have := b1.size; simp at this; omega⟩
  have y_r := (unhide K_r).2
  have R_x := hide ((unhide R_x).later cw1)
  have R_f := hide ((unhide R_f).later cw1)
  have BL := hide cw1
  clear b1 cw1
  obtain ⟨w_0, w_1, w_2, w_3, -⟩ := blk_cells4 (unhide K_w).1
  have n_w := (unhide K_w).2
  obtain ⟨r_0, r_1, r_z⟩ := blk_cells2 (unhide K_r).1
  have n_r := (unhide K_r).2
  cases k1
  · obtain rfl : ok = false := (unhide HK).symm
    obtain ⟨hL, hC⟩ := say_bad (k := 3) (d := ⟨#[]⟩) (unhide h0)
    obtain rfl : n = 0 := by rw [← unhide HN, hL]; rfl
    obtain rfl : c = 1 := by rw [← unhide HC]; exact hC
    go_wp2
    obtain ⟨p0, p1, -⟩ := blk_cells2 (blk_set2 (unhide K_r).1 (.slice none 0 0) (.slice none 0 0))
    exact bodyPost_ret (v := .tuple #[.agg #[.slice none 0 0, .slice none 0 0], .int .i64 1]) (by simp [results, Try.results50, go_sem, p0, p1]) rfl ⟨_, _, rfl, by rw [hL]; exact own_nil _ _, below_res (unhide BL) (by omega) _ _⟩
  go_wp2_with fail
  refine (inode_any id k2 HK2 _).mono ?_
  rintro e _ ⟨rfl, rfl⟩
  cases k2
  · obtain rfl : ok = false := (unhide HK).symm
    obtain ⟨hL, hC⟩ := say_bad (k := 3) (d := ⟨#[]⟩) (unhide h0)
    obtain rfl : n = 0 := by rw [← unhide HN, hL]; rfl
    obtain rfl : c = 1 := by rw [← unhide HC]; exact hC
    go_wp2
    obtain ⟨p0, p1, -⟩ := blk_cells2 (blk_set2 (unhide K_r).1 (.slice none 0 0) (.slice none 0 0))
    exact bodyPost_ret (v := .tuple #[.agg #[.slice none 0 0, .slice none 0 0], .int .i64 1]) (by simp [results, Try.results50, go_sem, p0, p1]) rfl ⟨_, _, rfl, by rw [hL]; exact own_nil _ _, below_res (unhide BL) (by omega) _ _⟩
  obtain rfl : ok = true := (unhide HK).symm
  clear r_0 r_1 r_z n_r w_0 w_1 w_2 w_3 n_w
  obtain ⟨x0, x1, x2, x3, -⟩ := blk_cells4 (unhide K_w).1
  have nw := (unhide K_w).2
  have HT : Hid (Below w1.heap.size w1 w1 ∧ w.heap.size < w1.heap.size ∧ w1.cell? ⟨w.heap.size, 0, none⟩ = some (.slice ai ni ci) ∧ w1.cell? ⟨w.heap.size, 1, none⟩ = some (.slice af nf cf) ∧ w1.cell? ⟨w.heap.size, 2, none⟩ = some (.int .i64 id) ∧ w1.cell? ⟨w.heap.size, 3, none⟩ = some (.string dv)) := hide ⟨Below.refl _ _, nw, x0, x1, x2, x3⟩
  go_wp2_with fail
  clear x0 x1 x2 x3
  go_cut [6, 7] from 21 to 27 (fun p q wx => ∃ g : Nat, p = .pointer (some ⟨g, 0, none⟩) ∧ q = .int .i64 h ∧ Below w1.heap.size w1 wx ∧ wx.heap[g]? = some (.cells #[.int .i64 e.1, .int .i64 e.2.1, .int .i64 e.2.2.1, .int .i64 e.2.2.2.1, .string e.2.2.2.2] 43 (0, 0)))
  case first =>
    have st := unhide HT
    go_region_held3 (fun W => Below w1.heap.size w1 W ∧ w.heap.size < W.heap.size ∧ W.cell? ⟨w.heap.size, 0, none⟩ = some (.slice ai ni ci) ∧ W.cell? ⟨w.heap.size, 1, none⟩ = some (.slice af nf cf) ∧ W.cell? ⟨w.heap.size, 2, none⟩ = some (.int .i64 id) ∧ W.cell? ⟨w.heap.size, 3, none⟩ = some (.string dv))
      (first | with_reducible exact unhide (by assumption) | with_reducible exact keepDT (unhide HT) | with_reducible exact keepDT (by assumption) | with_reducible exact keepADT _ (by assumption) | (with_reducible refine keepBDT _ _ ?_ ?_ (by assumption) <;> omega) | with_reducible exact keepAT _ (by assumption) | (with_reducible refine keepBT _ _ ?_ ?_ (by assumption) <;> omega) | (with_reducible refine keepWDT5 ?_ ?_ (by assumption) <;> omega) | (with_reducible refine keepWT5 ?_ ?_ (by assumption) <;> omega))
      (first
        | (go_at_call 77; with_reducible refine (change3_any _).mono ?_; rintro e u1 ⟨rfl, bx⟩; have hS1 := hide (keepST bx (by assumption)); obtain ⟨hw1, hz0, -⟩ := unhide hS1; have hwz := hw1.size; clear hw1; (first | (with_reducible have M := hide (newblkD bx); clear bx; obtain ⟨q0, q1, q2, q3, q4, q5⟩ := blk_cells5 (unhide M).1) | (with_reducible have M := hide (newblk bx); clear bx; obtain ⟨q0, q1, q2, q3, q4, q5⟩ := blk_cells5 (unhide M).1) | (with_reducible have M := hide (keptblk bx (by assumption)); clear bx; obtain ⟨q0, q1, q2, q3, q4, q5⟩ := blk_cells5 (unhide M).1) | clear bx))
        | (go_at_call 92; with_reducible refine (wgone_any ai ni ci xs af nf cf fs id dv ⟨#[]⟩ h0 e h hch _ hni hnf ?_ ?_).mono ?_; exact (unhide R_x).later (kb1 (by assumption)); exact (unhide R_f).later (kb1 (by assumption)); rintro e u2 ⟨rfl, bx⟩; have hS1 := hide (keepST bx (by assumption)); obtain ⟨hw1, hz0, -⟩ := unhide hS1; have hwz := hw1.size; clear hw1; (first | (with_reducible have M := hide (newblkD bx); clear bx; obtain ⟨q0, q1, q2, q3, q4, q5⟩ := blk_cells5 (unhide M).1) | (with_reducible have M := hide (newblk bx); clear bx; obtain ⟨q0, q1, q2, q3, q4, q5⟩ := blk_cells5 (unhide M).1) | (with_reducible have M := hide (keptblk bx (by assumption)); clear bx; obtain ⟨q0, q1, q2, q3, q4, q5⟩ := blk_cells5 (unhide M).1) | clear bx)))
    all_goals
      rename_i hS
      go_wp2_with fail
      go_meet
      first
        | with_reducible exact ⟨_, rfl, rfl, hS.1, blk_set5 (unhide M).1 _ _ _ _ _⟩
        | with_reducible exact ⟨_, rfl, rfl, hS.1, heap_alloc_new _ _⟩
  case rest =>
    obtain ⟨ge, rfl, rfl, cwc, hblk⟩ := hcut
    have zwc := cwc.size
    have K_e9 := hide (And.intro hblk (Array.getElem?_eq_some_iff.1 hblk).1)
    clear hblk HT nw
    have K_w := hide (keptblk cwc K_w)
    have K_r := hide (keptblk cwc K_r)
    have R_x := hide ((unhide R_x).later cwc)
    have R_f := hide ((unhide R_f).later cwc)
    have BL := hide ((unhide BL).trans (cwc.mono (unhide BL).size))
    clear cwc
    obtain ⟨w_0, w_1, w_2, w_3, -⟩ := blk_cells4 (unhide K_w).1
    have n_w := (unhide K_w).2
    obtain ⟨r_0, r_1, r_z⟩ := blk_cells2 (unhide K_r).1
    have n_r := (unhide K_r).2
    have K_e := K_e9
    clear K_e9
    obtain ⟨e_0, e_1, e_2, e_3, e_4, e_z⟩ := blk_cells5 (unhide K_e).1
    have n_e := (unhide K_e).2
    rcases Bool.eq_false_or_eq_true (h != 0) with hh | hh
    · have hne : h ≠ 0 := by simpa using hh
      obtain ⟨hL, hC⟩ := say_no (unhide h0) (unhide hch) hne
      obtain rfl : n = 0 := by rw [← unhide HN, hL]; rfl
      obtain rfl : c = h := by rw [← unhide HC]; exact hC
      clear hne
      go_wp2
      obtain ⟨p0, p1, -⟩ := blk_cells2 (blk_set2 (unhide K_r).1 (.slice none 0 0) (.slice none 0 0))
      exact bodyPost_ret (v := .tuple #[.agg #[.slice none 0 0, .slice none 0 0], .int .i64 c]) (by simp [results, Try.results50, go_sem, p0, p1]) rfl ⟨_, _, rfl, by rw [hL]; exact own_nil _ _, below_res (unhide BL) (by omega) _ _⟩
    obtain rfl : h = 0 := by simpa using hh
    obtain ⟨ho1, ho2⟩ := chg_one (by omega) (unhide h0) (unhide hch)
    have HO := hide ho1
    clear ho1
    go_wp2_with fail
    refine (isingle_any id e (by omega) true HO 1 (hide rfl) _).mono ?_
    rintro e w2 ⟨a1, c1, rfl, o1, b2⟩
    clear e_0 e_1 e_2 e_3 e_4 e_z n_e r_0 r_1 r_z n_r w_0 w_1 w_2 w_3 n_w
    have cw2 := b2
    have zw2 := cw2.size
    have K_w := hide (keptblk cw2 K_w)
    have K_r := hide (keptblk cw2 K_r)
    have K_e := hide (keptblk cw2 K_e)
    have R_x := hide ((unhide R_x).later cw2)
    have R_f := hide ((unhide R_f).later cw2)
    have BL := hide ((unhide BL).trans (cw2.mono (unhide BL).size))
    have R_oS1 := hide (o1)
    have L_oS1 := hide (World.ownsRow.lt (unhide R_oS1))
    clear b2 cw2
    obtain ⟨w_0, w_1, w_2, w_3, -⟩ := blk_cells4 (unhide K_w).1
    have n_w := (unhide K_w).2
    obtain ⟨r_0, r_1, r_z⟩ := blk_cells2 (unhide K_r).1
    have n_r := (unhide K_r).2
    obtain ⟨e_0, e_1, e_2, e_3, e_4, e_z⟩ := blk_cells5 (unhide K_e).1
    have n_e := (unhide K_e).2
    clear o1
    obtain ⟨hL, hC⟩ := say_ok (unhide h0) (unhide hch)
    obtain rfl : n = 1 := by rw [← unhide HN, hL]; rfl
    obtain rfl : c = 0 := by rw [← unhide HC]; exact hC
    go_wp2
    obtain ⟨p0, p1, -⟩ := blk_cells2 (blk_al (blk_set2 (unhide K_r).1 (.slice a1 1 c1) (.slice none 0 0)) (.cells #[.slice a1 1 c1, .slice none 0 0] 31))
    exact bodyPost_ret (v := .tuple #[.agg #[.slice a1 1 c1, .slice none 0 0], .int .i64 0]) (by simp [results, Try.results50, go_sem, p0, p1]) rfl ⟨_, _, rfl, by rw [hL]; exact ow_al (ow_res (Ow.base (unhide R_oS1) (by first | omega | (simp; omega))) (unhide K_r).1 _ _) _, below_al (below_res (unhide BL) (by omega) _ _) (by simp; omega) _⟩

set_option maxHeartbeats 4000000 in
set_option maxRecDepth 100000 in
theorem isay0_any (ai : Option Addr) (ni ci : Nat) (xs : List Itm) (af : Option Addr) (nf cf : Nat) (fs : List Flr) (id : Int) (n : Nat) (HN : Hid ((sayL 0 ⟨#[]⟩ xs fs id).length = n)) (c : Int) (HC : Hid (sayC 0 ⟨#[]⟩ xs fs id = c)) (w : World) (hni : ni ≤ 140737488351232) (hnf : nf ≤ 140737488351232) (hx : Rw encI 6 w (.slice ai ni ci) xs) (hf : Rw encF 2 w (.slice af nf cf) fs) :
    Calls Try.prog 20 #[.agg #[.slice ai ni ci, .slice af nf cf], .int .i64 id] w fun e w' => ∃ a q, e = .returned (.tuple #[.agg #[.slice a n q, .slice none 0 0], .int .i64 c]) ∧ OwI w.heap.size w' (.slice a n q) (sayL 0 ⟨#[]⟩ xs fs id) ∧ Below w.heap.size w w' := by
  have R_x := hide hx
  have R_f := hide hf
  clear hx hf
  go_enter Try.func20, Try.ntmps20
  go_wp2_with fail
  refine (tell0_any ai ni ci xs af nf cf fs id ⟨#[]⟩ n HN c HC _ hni hnf (((unhide R_x).alloc _).alloc _) (((unhide R_f).alloc _).alloc _)).mono ?_
  rintro e w1 ⟨a1, c1, rfl, o1, b1⟩
  have cw1 := (((Below.refl w.heap.size w).alloc (Nat.le_refl _) _).alloc (by simp <;> omega) _).trans (b1.mono (by simp <;> omega))
  have zw1 := cw1.size
  have K_s : Hid (w1.heap[w.heap.size]? = some (.cells #[.slice ai ni ci, .slice af nf cf] 31 (0, 0)) ∧ w.heap.size < w1.heap.size) := hide ⟨(b1.block _ (by simp <;> omega)).trans (lowB2 w _ _), by have := b1.size; simp at this; omega⟩
  have y_s := (unhide K_s).2
  have K_r : Hid (w1.heap[w.heap.size + 1]? = some (.cells #[.slice none 0 0, .slice none 0 0] 31 (0, 0)) ∧ w.heap.size + 1 < w1.heap.size) := hide ⟨(b1.block _ (by simp <;> omega)).trans (newB2 w _ _), by have := b1.size; simp at this; omega⟩
  have y_r := (unhide K_r).2
  have R_x := hide ((unhide R_x).later cw1)
  have R_f := hide ((unhide R_f).later cw1)
  have BL := hide cw1
  have R_oS1 := hide (o1)
  have L_oS1 := hide (World.ownsRow.lt (unhide R_oS1))
  clear b1 cw1
  obtain ⟨s_0, s_1, -⟩ := blk_cells2 (unhide K_s).1
  have n_s := (unhide K_s).2
  obtain ⟨r_0, r_1, r_z⟩ := blk_cells2 (unhide K_r).1
  have n_r := (unhide K_r).2
  clear o1
  go_wp2
  obtain ⟨p0, p1, -⟩ := blk_cells2 (blk_set2 (unhide K_r).1 (.slice a1 n c1) (.slice none 0 0))
  exact bodyPost_ret (v := .tuple #[.agg #[.slice a1 n c1, .slice none 0 0], .int .i64 c]) (by simp [results, Try.results20, go_sem, p0, p1]) rfl ⟨_, _, rfl, ow_res (Ow.base (unhide R_oS1) (by first | omega | (simp; omega))) (unhide K_r).1 _ _, below_res (unhide BL) (by omega) _ _⟩
set_option maxHeartbeats 4000000 in
set_option maxRecDepth 100000 in
theorem isay1_any (ai : Option Addr) (ni ci : Nat) (xs : List Itm) (af : Option Addr) (nf cf : Nat) (fs : List Flr) (id : Int) (n : Nat) (HN : Hid ((sayL 1 ⟨#[]⟩ xs fs id).length = n)) (c : Int) (HC : Hid (sayC 1 ⟨#[]⟩ xs fs id = c)) (w : World) (hni : ni ≤ 140737488351232) (hnf : nf ≤ 140737488351232) (hx : Rw encI 6 w (.slice ai ni ci) xs) (hf : Rw encF 2 w (.slice af nf cf) fs) :
    Calls Try.prog 22 #[.agg #[.slice ai ni ci, .slice af nf cf], .int .i64 id] w fun e w' => ∃ a q, e = .returned (.tuple #[.agg #[.slice a n q, .slice none 0 0], .int .i64 c]) ∧ OwI w.heap.size w' (.slice a n q) (sayL 1 ⟨#[]⟩ xs fs id) ∧ Below w.heap.size w w' := by
  have R_x := hide hx
  have R_f := hide hf
  clear hx hf
  go_enter Try.func22, Try.ntmps22
  go_wp2_with fail
  refine (tell1_any ai ni ci xs af nf cf fs id ⟨#[]⟩ n HN c HC _ hni hnf (((unhide R_x).alloc _).alloc _) (((unhide R_f).alloc _).alloc _)).mono ?_
  rintro e w1 ⟨a1, c1, rfl, o1, b1⟩
  have cw1 := (((Below.refl w.heap.size w).alloc (Nat.le_refl _) _).alloc (by simp <;> omega) _).trans (b1.mono (by simp <;> omega))
  have zw1 := cw1.size
  have K_s : Hid (w1.heap[w.heap.size]? = some (.cells #[.slice ai ni ci, .slice af nf cf] 31 (0, 0)) ∧ w.heap.size < w1.heap.size) := hide ⟨(b1.block _ (by simp <;> omega)).trans (lowB2 w _ _), by have := b1.size; simp at this; omega⟩
  have y_s := (unhide K_s).2
  have K_r : Hid (w1.heap[w.heap.size + 1]? = some (.cells #[.slice none 0 0, .slice none 0 0] 31 (0, 0)) ∧ w.heap.size + 1 < w1.heap.size) := hide ⟨(b1.block _ (by simp <;> omega)).trans (newB2 w _ _), by have := b1.size; simp at this; omega⟩
  have y_r := (unhide K_r).2
  have R_x := hide ((unhide R_x).later cw1)
  have R_f := hide ((unhide R_f).later cw1)
  have BL := hide cw1
  have R_oS1 := hide (o1)
  have L_oS1 := hide (World.ownsRow.lt (unhide R_oS1))
  clear b1 cw1
  obtain ⟨s_0, s_1, -⟩ := blk_cells2 (unhide K_s).1
  have n_s := (unhide K_s).2
  obtain ⟨r_0, r_1, r_z⟩ := blk_cells2 (unhide K_r).1
  have n_r := (unhide K_r).2
  clear o1
  go_wp2
  obtain ⟨p0, p1, -⟩ := blk_cells2 (blk_set2 (unhide K_r).1 (.slice a1 n c1) (.slice none 0 0))
  exact bodyPost_ret (v := .tuple #[.agg #[.slice a1 n c1, .slice none 0 0], .int .i64 c]) (by simp [results, Try.results22, go_sem, p0, p1]) rfl ⟨_, _, rfl, ow_res (Ow.base (unhide R_oS1) (by first | omega | (simp; omega))) (unhide K_r).1 _ _, below_res (unhide BL) (by omega) _ _⟩
end Go.Proofs.Ytdpaocikmijioad
