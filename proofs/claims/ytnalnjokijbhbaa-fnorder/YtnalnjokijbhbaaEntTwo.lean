/-
  Two entries are drawn: some two entries, each with a text of at most nine bytes; nothing that was there turns. No statement is proved here.
-/
import Derived.Test.YtnalnjokijbhbaaEntDraw
namespace Go.Proofs.Ytnalnjokijbhbaa
open Go.RowKit

theorem once_any (g : Nat) (v : Value) (xs : List Int) (n : Int) (w : World) (hlen : xs.length ≤ 1048576) (hbd : ∀ z ∈ xs, 0 ≤ z ∧ z ≤ 255) (hn0 : 0 < n) (hn1 : n ≤ 4294967296) (hc : Cur w g v xs) :
    Calls Try.prog 67 #[.pointer (some ⟨g, 0, none⟩), .int .i64 n] w fun e w' => (∃ b : Bool, e = .returned (.bool b)) ∧ Cur w' g v xs ∧ w.grownBy w' (some g) := by
  have HD := hide hbd
  have HC := hide hc
  clear hbd hc
  go_enter Try.func67, Try.ntmps67
  go_wp2_with fail
  refine (below_any g v xs n _ hlen (unhide HD) hn0 hn1 (unhide HC)).mono ?_
  rintro e w1 ⟨⟨x, rfl, xa, xb⟩, c1, g1⟩
  have C1 := hide c1
  have G1 := hide g1
  clear c1 g1
  go_wp2
  go_ret
  exact ⟨⟨_, rfl⟩, unhide C1, unhide G1⟩

theorem below_set {B : Nat} {w W : World} {a : Addr} {u : Value} (h : Below B w W) (ha : B ≤ a.block) : Below B w (W.setCell a u) := h.setCell ha u
theorem cur_set {W : World} {g s k : Nat} {v u : Value} {xs : List Int} (h : Cur W g v xs) (hs : g ≠ s) (hv : xs = [] ∨ ∀ b off n c, v = .slice (some ⟨b, off, none⟩) n c → b ≠ s) : Cur (W.setCell ⟨s, k, none⟩ u) g v xs := by
  obtain ⟨⟨i, q, e, hi⟩, hseg, hne⟩ := h
  refine ⟨⟨i, q, (heap_setCell_other _ _ _ _ hs).trans e, hi⟩, ?_, hne⟩
  obtain ⟨a, cap, rfl, hcap, hr⟩ := hseg
  refine ⟨a, cap, rfl, hcap, ?_⟩
  rcases hr with hr | ⟨b, off, rfl, hlt, hc⟩
  · exact .inl hr
  · rcases hv with hv | hv
    · exact .inl hv
    refine .inr ⟨b, off, rfl, by simpa using hlt, fun i hi => ?_⟩
    rw [World.cell?_setCell_other _ _ _ _ (fun e => hv b off _ _ rfl (congrArg Addr.block e).symm)]
    exact hc i hi
theorem keepS1 {ai ar ab av : Int} {ad : ByteArray} {s5 : Nat} {w W w1 : World} (hb : Below W.heap.size W w1) (h : Below w.heap.size w W ∧ s5 < W.heap.size ∧ W.cell? ⟨s5, 0, none⟩ = some (.int .i64 ai) ∧ W.cell? ⟨s5, 1, none⟩ = some (.int .i64 ar) ∧ W.cell? ⟨s5, 2, none⟩ = some (.int .i64 ab) ∧ W.cell? ⟨s5, 3, none⟩ = some (.int .i64 av) ∧ W.cell? ⟨s5, 4, none⟩ = some (.string ad)) : Below w.heap.size w w1 ∧ s5 < w1.heap.size ∧ w1.cell? ⟨s5, 0, none⟩ = some (.int .i64 ai) ∧ w1.cell? ⟨s5, 1, none⟩ = some (.int .i64 ar) ∧ w1.cell? ⟨s5, 2, none⟩ = some (.int .i64 ab) ∧ w1.cell? ⟨s5, 3, none⟩ = some (.int .i64 av) ∧ w1.cell? ⟨s5, 4, none⟩ = some (.string ad) := by
  obtain ⟨b, z0, c0, c1, c2, c3, c4⟩ := h
  have hz := hb.size
  have hB := b.size
  exact ⟨b.trans (hb.mono hB), by omega, kc hb (by omega) c0, kc hb (by omega) c1, kc hb (by omega) c2, kc hb (by omega) c3, kc hb (by omega) c4⟩
theorem keepD1 {ai ar ab av : Int} {ad : ByteArray} {s5 : Nat} {w W : World} (h : Below w.heap.size w W ∧ s5 < W.heap.size ∧ W.cell? ⟨s5, 0, none⟩ = some (.int .i64 ai) ∧ W.cell? ⟨s5, 1, none⟩ = some (.int .i64 ar) ∧ W.cell? ⟨s5, 2, none⟩ = some (.int .i64 ab) ∧ W.cell? ⟨s5, 3, none⟩ = some (.int .i64 av) ∧ W.cell? ⟨s5, 4, none⟩ = some (.string ad)) : Below w.heap.size w W.drew ∧ s5 < W.drew.heap.size ∧ W.drew.cell? ⟨s5, 0, none⟩ = some (.int .i64 ai) ∧ W.drew.cell? ⟨s5, 1, none⟩ = some (.int .i64 ar) ∧ W.drew.cell? ⟨s5, 2, none⟩ = some (.int .i64 ab) ∧ W.drew.cell? ⟨s5, 3, none⟩ = some (.int .i64 av) ∧ W.drew.cell? ⟨s5, 4, none⟩ = some (.string ad) := ⟨h.1.drew, h.2⟩
theorem keepA1 {ai ar ab av : Int} {ad : ByteArray} {s5 : Nat} {w W : World} (o : Obj) (h : Below w.heap.size w W ∧ s5 < W.heap.size ∧ W.cell? ⟨s5, 0, none⟩ = some (.int .i64 ai) ∧ W.cell? ⟨s5, 1, none⟩ = some (.int .i64 ar) ∧ W.cell? ⟨s5, 2, none⟩ = some (.int .i64 ab) ∧ W.cell? ⟨s5, 3, none⟩ = some (.int .i64 av) ∧ W.cell? ⟨s5, 4, none⟩ = some (.string ad)) : Below w.heap.size w (W.alloc o) ∧ s5 < (W.alloc o).heap.size ∧ (W.alloc o).cell? ⟨s5, 0, none⟩ = some (.int .i64 ai) ∧ (W.alloc o).cell? ⟨s5, 1, none⟩ = some (.int .i64 ar) ∧ (W.alloc o).cell? ⟨s5, 2, none⟩ = some (.int .i64 ab) ∧ (W.alloc o).cell? ⟨s5, 3, none⟩ = some (.int .i64 av) ∧ (W.alloc o).cell? ⟨s5, 4, none⟩ = some (.string ad) := by
  obtain ⟨b, z0, c0, c1, c2, c3, c4⟩ := h
  exact ⟨b.alloc b.size o, by simp; omega, ka (by omega) c0, ka (by omega) c1, ka (by omega) c2, ka (by omega) c3, ka (by omega) c4⟩
theorem keepAD1 {ai ar ab av : Int} {ad : ByteArray} {s5 : Nat} {w W : World} (o : Obj) (h : Below w.heap.size w W.drew ∧ s5 < W.drew.heap.size ∧ W.drew.cell? ⟨s5, 0, none⟩ = some (.int .i64 ai) ∧ W.drew.cell? ⟨s5, 1, none⟩ = some (.int .i64 ar) ∧ W.drew.cell? ⟨s5, 2, none⟩ = some (.int .i64 ab) ∧ W.drew.cell? ⟨s5, 3, none⟩ = some (.int .i64 av) ∧ W.drew.cell? ⟨s5, 4, none⟩ = some (.string ad)) : Below w.heap.size w (W.alloc o).drew ∧ s5 < (W.alloc o).drew.heap.size ∧ (W.alloc o).drew.cell? ⟨s5, 0, none⟩ = some (.int .i64 ai) ∧ (W.alloc o).drew.cell? ⟨s5, 1, none⟩ = some (.int .i64 ar) ∧ (W.alloc o).drew.cell? ⟨s5, 2, none⟩ = some (.int .i64 ab) ∧ (W.alloc o).drew.cell? ⟨s5, 3, none⟩ = some (.int .i64 av) ∧ (W.alloc o).drew.cell? ⟨s5, 4, none⟩ = some (.string ad) := keepD1 (keepA1 o ⟨⟨h.1.os, h.1.tape, h.1.output, h.1.size, h.1.block⟩, h.2⟩)
theorem keepB1 {ai ar ab av : Int} {ad : ByteArray} {s5 : Nat} {w W : World} (o1 o : Obj) (y0 : s5 < W.heap.size) (_y : w.heap.size ≤ W.heap.size) (h : Below w.heap.size w (W.alloc o1) ∧ s5 < (W.alloc o1).heap.size ∧ (W.alloc o1).cell? ⟨s5, 0, none⟩ = some (.int .i64 ai) ∧ (W.alloc o1).cell? ⟨s5, 1, none⟩ = some (.int .i64 ar) ∧ (W.alloc o1).cell? ⟨s5, 2, none⟩ = some (.int .i64 ab) ∧ (W.alloc o1).cell? ⟨s5, 3, none⟩ = some (.int .i64 av) ∧ (W.alloc o1).cell? ⟨s5, 4, none⟩ = some (.string ad)) : Below w.heap.size w (W.alloc o) ∧ s5 < (W.alloc o).heap.size ∧ (W.alloc o).cell? ⟨s5, 0, none⟩ = some (.int .i64 ai) ∧ (W.alloc o).cell? ⟨s5, 1, none⟩ = some (.int .i64 ar) ∧ (W.alloc o).cell? ⟨s5, 2, none⟩ = some (.int .i64 ab) ∧ (W.alloc o).cell? ⟨s5, 3, none⟩ = some (.int .i64 av) ∧ (W.alloc o).cell? ⟨s5, 4, none⟩ = some (.string ad) := by
  obtain ⟨b, z0, c0, c1, c2, c3, c4⟩ := h
  exact ⟨⟨b.os, b.tape, b.output, by simp; omega, fun k hk => (Below.heap_alloc W o k (by omega)).trans ((Below.heap_alloc W o1 k (by omega)).symm.trans (b.block k hk))⟩, by simp; omega, ka (by omega) (kb (by omega) c0), ka (by omega) (kb (by omega) c1), ka (by omega) (kb (by omega) c2), ka (by omega) (kb (by omega) c3), ka (by omega) (kb (by omega) c4)⟩
theorem keepBD1 {ai ar ab av : Int} {ad : ByteArray} {s5 : Nat} {w W : World} (o1 o : Obj) (y0 : s5 < W.heap.size) (_y : w.heap.size ≤ W.heap.size) (h : Below w.heap.size w (W.alloc o1).drew ∧ s5 < (W.alloc o1).drew.heap.size ∧ (W.alloc o1).drew.cell? ⟨s5, 0, none⟩ = some (.int .i64 ai) ∧ (W.alloc o1).drew.cell? ⟨s5, 1, none⟩ = some (.int .i64 ar) ∧ (W.alloc o1).drew.cell? ⟨s5, 2, none⟩ = some (.int .i64 ab) ∧ (W.alloc o1).drew.cell? ⟨s5, 3, none⟩ = some (.int .i64 av) ∧ (W.alloc o1).drew.cell? ⟨s5, 4, none⟩ = some (.string ad)) : Below w.heap.size w (W.alloc o).drew ∧ s5 < (W.alloc o).drew.heap.size ∧ (W.alloc o).drew.cell? ⟨s5, 0, none⟩ = some (.int .i64 ai) ∧ (W.alloc o).drew.cell? ⟨s5, 1, none⟩ = some (.int .i64 ar) ∧ (W.alloc o).drew.cell? ⟨s5, 2, none⟩ = some (.int .i64 ab) ∧ (W.alloc o).drew.cell? ⟨s5, 3, none⟩ = some (.int .i64 av) ∧ (W.alloc o).drew.cell? ⟨s5, 4, none⟩ = some (.string ad) := keepD1 (keepB1 (W := W) o1 o y0 _y ⟨⟨h.1.os, h.1.tape, h.1.output, h.1.size, h.1.block⟩, h.2⟩)
theorem keepW15 {ai ar ab av : Int} {ad : ByteArray} {s5 : Nat} {w W : World} {gg : Nat} {v0 v1 v2 v3 v4 : Value} (y0 : s5 ≠ gg) (y : w.heap.size ≤ gg) (h : Below w.heap.size w W ∧ s5 < W.heap.size ∧ W.cell? ⟨s5, 0, none⟩ = some (.int .i64 ai) ∧ W.cell? ⟨s5, 1, none⟩ = some (.int .i64 ar) ∧ W.cell? ⟨s5, 2, none⟩ = some (.int .i64 ab) ∧ W.cell? ⟨s5, 3, none⟩ = some (.int .i64 av) ∧ W.cell? ⟨s5, 4, none⟩ = some (.string ad)) : Below w.heap.size w (((((W.setCell ⟨gg, 0, none⟩ v0).setCell ⟨gg, 1, none⟩ v1).setCell ⟨gg, 2, none⟩ v2).setCell ⟨gg, 3, none⟩ v3).setCell ⟨gg, 4, none⟩ v4) ∧ s5 < (((((W.setCell ⟨gg, 0, none⟩ v0).setCell ⟨gg, 1, none⟩ v1).setCell ⟨gg, 2, none⟩ v2).setCell ⟨gg, 3, none⟩ v3).setCell ⟨gg, 4, none⟩ v4).heap.size ∧ (((((W.setCell ⟨gg, 0, none⟩ v0).setCell ⟨gg, 1, none⟩ v1).setCell ⟨gg, 2, none⟩ v2).setCell ⟨gg, 3, none⟩ v3).setCell ⟨gg, 4, none⟩ v4).cell? ⟨s5, 0, none⟩ = some (.int .i64 ai) ∧ (((((W.setCell ⟨gg, 0, none⟩ v0).setCell ⟨gg, 1, none⟩ v1).setCell ⟨gg, 2, none⟩ v2).setCell ⟨gg, 3, none⟩ v3).setCell ⟨gg, 4, none⟩ v4).cell? ⟨s5, 1, none⟩ = some (.int .i64 ar) ∧ (((((W.setCell ⟨gg, 0, none⟩ v0).setCell ⟨gg, 1, none⟩ v1).setCell ⟨gg, 2, none⟩ v2).setCell ⟨gg, 3, none⟩ v3).setCell ⟨gg, 4, none⟩ v4).cell? ⟨s5, 2, none⟩ = some (.int .i64 ab) ∧ (((((W.setCell ⟨gg, 0, none⟩ v0).setCell ⟨gg, 1, none⟩ v1).setCell ⟨gg, 2, none⟩ v2).setCell ⟨gg, 3, none⟩ v3).setCell ⟨gg, 4, none⟩ v4).cell? ⟨s5, 3, none⟩ = some (.int .i64 av) ∧ (((((W.setCell ⟨gg, 0, none⟩ v0).setCell ⟨gg, 1, none⟩ v1).setCell ⟨gg, 2, none⟩ v2).setCell ⟨gg, 3, none⟩ v3).setCell ⟨gg, 4, none⟩ v4).cell? ⟨s5, 4, none⟩ = some (.string ad) := by
  obtain ⟨b, z0, c0, c1, c2, c3, c4⟩ := h
  exact ⟨below_set5 y b, by simpa using z0, blk_far5 y0 c0, blk_far5 y0 c1, blk_far5 y0 c2, blk_far5 y0 c3, blk_far5 y0 c4⟩
theorem keepWD15 {ai ar ab av : Int} {ad : ByteArray} {s5 : Nat} {w W : World} {gg : Nat} {v0 v1 v2 v3 v4 : Value} (y0 : s5 ≠ gg) (y : w.heap.size ≤ gg) (h : Below w.heap.size w W.drew ∧ s5 < W.drew.heap.size ∧ W.drew.cell? ⟨s5, 0, none⟩ = some (.int .i64 ai) ∧ W.drew.cell? ⟨s5, 1, none⟩ = some (.int .i64 ar) ∧ W.drew.cell? ⟨s5, 2, none⟩ = some (.int .i64 ab) ∧ W.drew.cell? ⟨s5, 3, none⟩ = some (.int .i64 av) ∧ W.drew.cell? ⟨s5, 4, none⟩ = some (.string ad)) : Below w.heap.size w (((((W.setCell ⟨gg, 0, none⟩ v0).setCell ⟨gg, 1, none⟩ v1).setCell ⟨gg, 2, none⟩ v2).setCell ⟨gg, 3, none⟩ v3).setCell ⟨gg, 4, none⟩ v4).drew ∧ s5 < (((((W.setCell ⟨gg, 0, none⟩ v0).setCell ⟨gg, 1, none⟩ v1).setCell ⟨gg, 2, none⟩ v2).setCell ⟨gg, 3, none⟩ v3).setCell ⟨gg, 4, none⟩ v4).drew.heap.size ∧ (((((W.setCell ⟨gg, 0, none⟩ v0).setCell ⟨gg, 1, none⟩ v1).setCell ⟨gg, 2, none⟩ v2).setCell ⟨gg, 3, none⟩ v3).setCell ⟨gg, 4, none⟩ v4).drew.cell? ⟨s5, 0, none⟩ = some (.int .i64 ai) ∧ (((((W.setCell ⟨gg, 0, none⟩ v0).setCell ⟨gg, 1, none⟩ v1).setCell ⟨gg, 2, none⟩ v2).setCell ⟨gg, 3, none⟩ v3).setCell ⟨gg, 4, none⟩ v4).drew.cell? ⟨s5, 1, none⟩ = some (.int .i64 ar) ∧ (((((W.setCell ⟨gg, 0, none⟩ v0).setCell ⟨gg, 1, none⟩ v1).setCell ⟨gg, 2, none⟩ v2).setCell ⟨gg, 3, none⟩ v3).setCell ⟨gg, 4, none⟩ v4).drew.cell? ⟨s5, 2, none⟩ = some (.int .i64 ab) ∧ (((((W.setCell ⟨gg, 0, none⟩ v0).setCell ⟨gg, 1, none⟩ v1).setCell ⟨gg, 2, none⟩ v2).setCell ⟨gg, 3, none⟩ v3).setCell ⟨gg, 4, none⟩ v4).drew.cell? ⟨s5, 3, none⟩ = some (.int .i64 av) ∧ (((((W.setCell ⟨gg, 0, none⟩ v0).setCell ⟨gg, 1, none⟩ v1).setCell ⟨gg, 2, none⟩ v2).setCell ⟨gg, 3, none⟩ v3).setCell ⟨gg, 4, none⟩ v4).drew.cell? ⟨s5, 4, none⟩ = some (.string ad) := keepD1 (keepW15 (W := W) y0 y ⟨⟨h.1.os, h.1.tape, h.1.output, h.1.size, h.1.block⟩, h.2⟩)
theorem keepS2 {ai ar ab av : Int} {ad : ByteArray} {bi br bb bv : Int} {bd : ByteArray} {s5 : Nat} {s6 : Nat} {w W w1 : World} (hb : Below W.heap.size W w1) (h : Below w.heap.size w W ∧ s5 < W.heap.size ∧ s6 < W.heap.size ∧ W.cell? ⟨s5, 0, none⟩ = some (.int .i64 ai) ∧ W.cell? ⟨s5, 1, none⟩ = some (.int .i64 ar) ∧ W.cell? ⟨s5, 2, none⟩ = some (.int .i64 ab) ∧ W.cell? ⟨s5, 3, none⟩ = some (.int .i64 av) ∧ W.cell? ⟨s5, 4, none⟩ = some (.string ad) ∧ W.cell? ⟨s6, 0, none⟩ = some (.int .i64 bi) ∧ W.cell? ⟨s6, 1, none⟩ = some (.int .i64 br) ∧ W.cell? ⟨s6, 2, none⟩ = some (.int .i64 bb) ∧ W.cell? ⟨s6, 3, none⟩ = some (.int .i64 bv) ∧ W.cell? ⟨s6, 4, none⟩ = some (.string bd)) : Below w.heap.size w w1 ∧ s5 < w1.heap.size ∧ s6 < w1.heap.size ∧ w1.cell? ⟨s5, 0, none⟩ = some (.int .i64 ai) ∧ w1.cell? ⟨s5, 1, none⟩ = some (.int .i64 ar) ∧ w1.cell? ⟨s5, 2, none⟩ = some (.int .i64 ab) ∧ w1.cell? ⟨s5, 3, none⟩ = some (.int .i64 av) ∧ w1.cell? ⟨s5, 4, none⟩ = some (.string ad) ∧ w1.cell? ⟨s6, 0, none⟩ = some (.int .i64 bi) ∧ w1.cell? ⟨s6, 1, none⟩ = some (.int .i64 br) ∧ w1.cell? ⟨s6, 2, none⟩ = some (.int .i64 bb) ∧ w1.cell? ⟨s6, 3, none⟩ = some (.int .i64 bv) ∧ w1.cell? ⟨s6, 4, none⟩ = some (.string bd) := by
  obtain ⟨b, z0, z1, c0, c1, c2, c3, c4, c5, c6, c7, c8, c9⟩ := h
  have hz := hb.size
  have hB := b.size
  exact ⟨b.trans (hb.mono hB), by omega, by omega, kc hb (by omega) c0, kc hb (by omega) c1, kc hb (by omega) c2, kc hb (by omega) c3, kc hb (by omega) c4, kc hb (by omega) c5, kc hb (by omega) c6, kc hb (by omega) c7, kc hb (by omega) c8, kc hb (by omega) c9⟩
theorem keepD2 {ai ar ab av : Int} {ad : ByteArray} {bi br bb bv : Int} {bd : ByteArray} {s5 : Nat} {s6 : Nat} {w W : World} (h : Below w.heap.size w W ∧ s5 < W.heap.size ∧ s6 < W.heap.size ∧ W.cell? ⟨s5, 0, none⟩ = some (.int .i64 ai) ∧ W.cell? ⟨s5, 1, none⟩ = some (.int .i64 ar) ∧ W.cell? ⟨s5, 2, none⟩ = some (.int .i64 ab) ∧ W.cell? ⟨s5, 3, none⟩ = some (.int .i64 av) ∧ W.cell? ⟨s5, 4, none⟩ = some (.string ad) ∧ W.cell? ⟨s6, 0, none⟩ = some (.int .i64 bi) ∧ W.cell? ⟨s6, 1, none⟩ = some (.int .i64 br) ∧ W.cell? ⟨s6, 2, none⟩ = some (.int .i64 bb) ∧ W.cell? ⟨s6, 3, none⟩ = some (.int .i64 bv) ∧ W.cell? ⟨s6, 4, none⟩ = some (.string bd)) : Below w.heap.size w W.drew ∧ s5 < W.drew.heap.size ∧ s6 < W.drew.heap.size ∧ W.drew.cell? ⟨s5, 0, none⟩ = some (.int .i64 ai) ∧ W.drew.cell? ⟨s5, 1, none⟩ = some (.int .i64 ar) ∧ W.drew.cell? ⟨s5, 2, none⟩ = some (.int .i64 ab) ∧ W.drew.cell? ⟨s5, 3, none⟩ = some (.int .i64 av) ∧ W.drew.cell? ⟨s5, 4, none⟩ = some (.string ad) ∧ W.drew.cell? ⟨s6, 0, none⟩ = some (.int .i64 bi) ∧ W.drew.cell? ⟨s6, 1, none⟩ = some (.int .i64 br) ∧ W.drew.cell? ⟨s6, 2, none⟩ = some (.int .i64 bb) ∧ W.drew.cell? ⟨s6, 3, none⟩ = some (.int .i64 bv) ∧ W.drew.cell? ⟨s6, 4, none⟩ = some (.string bd) := ⟨h.1.drew, h.2⟩
theorem keepA2 {ai ar ab av : Int} {ad : ByteArray} {bi br bb bv : Int} {bd : ByteArray} {s5 : Nat} {s6 : Nat} {w W : World} (o : Obj) (h : Below w.heap.size w W ∧ s5 < W.heap.size ∧ s6 < W.heap.size ∧ W.cell? ⟨s5, 0, none⟩ = some (.int .i64 ai) ∧ W.cell? ⟨s5, 1, none⟩ = some (.int .i64 ar) ∧ W.cell? ⟨s5, 2, none⟩ = some (.int .i64 ab) ∧ W.cell? ⟨s5, 3, none⟩ = some (.int .i64 av) ∧ W.cell? ⟨s5, 4, none⟩ = some (.string ad) ∧ W.cell? ⟨s6, 0, none⟩ = some (.int .i64 bi) ∧ W.cell? ⟨s6, 1, none⟩ = some (.int .i64 br) ∧ W.cell? ⟨s6, 2, none⟩ = some (.int .i64 bb) ∧ W.cell? ⟨s6, 3, none⟩ = some (.int .i64 bv) ∧ W.cell? ⟨s6, 4, none⟩ = some (.string bd)) : Below w.heap.size w (W.alloc o) ∧ s5 < (W.alloc o).heap.size ∧ s6 < (W.alloc o).heap.size ∧ (W.alloc o).cell? ⟨s5, 0, none⟩ = some (.int .i64 ai) ∧ (W.alloc o).cell? ⟨s5, 1, none⟩ = some (.int .i64 ar) ∧ (W.alloc o).cell? ⟨s5, 2, none⟩ = some (.int .i64 ab) ∧ (W.alloc o).cell? ⟨s5, 3, none⟩ = some (.int .i64 av) ∧ (W.alloc o).cell? ⟨s5, 4, none⟩ = some (.string ad) ∧ (W.alloc o).cell? ⟨s6, 0, none⟩ = some (.int .i64 bi) ∧ (W.alloc o).cell? ⟨s6, 1, none⟩ = some (.int .i64 br) ∧ (W.alloc o).cell? ⟨s6, 2, none⟩ = some (.int .i64 bb) ∧ (W.alloc o).cell? ⟨s6, 3, none⟩ = some (.int .i64 bv) ∧ (W.alloc o).cell? ⟨s6, 4, none⟩ = some (.string bd) := by
  obtain ⟨b, z0, z1, c0, c1, c2, c3, c4, c5, c6, c7, c8, c9⟩ := h
  exact ⟨b.alloc b.size o, by simp; omega, by simp; omega, ka (by omega) c0, ka (by omega) c1, ka (by omega) c2, ka (by omega) c3, ka (by omega) c4, ka (by omega) c5, ka (by omega) c6, ka (by omega) c7, ka (by omega) c8, ka (by omega) c9⟩
theorem keepAD2 {ai ar ab av : Int} {ad : ByteArray} {bi br bb bv : Int} {bd : ByteArray} {s5 : Nat} {s6 : Nat} {w W : World} (o : Obj) (h : Below w.heap.size w W.drew ∧ s5 < W.drew.heap.size ∧ s6 < W.drew.heap.size ∧ W.drew.cell? ⟨s5, 0, none⟩ = some (.int .i64 ai) ∧ W.drew.cell? ⟨s5, 1, none⟩ = some (.int .i64 ar) ∧ W.drew.cell? ⟨s5, 2, none⟩ = some (.int .i64 ab) ∧ W.drew.cell? ⟨s5, 3, none⟩ = some (.int .i64 av) ∧ W.drew.cell? ⟨s5, 4, none⟩ = some (.string ad) ∧ W.drew.cell? ⟨s6, 0, none⟩ = some (.int .i64 bi) ∧ W.drew.cell? ⟨s6, 1, none⟩ = some (.int .i64 br) ∧ W.drew.cell? ⟨s6, 2, none⟩ = some (.int .i64 bb) ∧ W.drew.cell? ⟨s6, 3, none⟩ = some (.int .i64 bv) ∧ W.drew.cell? ⟨s6, 4, none⟩ = some (.string bd)) : Below w.heap.size w (W.alloc o).drew ∧ s5 < (W.alloc o).drew.heap.size ∧ s6 < (W.alloc o).drew.heap.size ∧ (W.alloc o).drew.cell? ⟨s5, 0, none⟩ = some (.int .i64 ai) ∧ (W.alloc o).drew.cell? ⟨s5, 1, none⟩ = some (.int .i64 ar) ∧ (W.alloc o).drew.cell? ⟨s5, 2, none⟩ = some (.int .i64 ab) ∧ (W.alloc o).drew.cell? ⟨s5, 3, none⟩ = some (.int .i64 av) ∧ (W.alloc o).drew.cell? ⟨s5, 4, none⟩ = some (.string ad) ∧ (W.alloc o).drew.cell? ⟨s6, 0, none⟩ = some (.int .i64 bi) ∧ (W.alloc o).drew.cell? ⟨s6, 1, none⟩ = some (.int .i64 br) ∧ (W.alloc o).drew.cell? ⟨s6, 2, none⟩ = some (.int .i64 bb) ∧ (W.alloc o).drew.cell? ⟨s6, 3, none⟩ = some (.int .i64 bv) ∧ (W.alloc o).drew.cell? ⟨s6, 4, none⟩ = some (.string bd) := keepD2 (keepA2 o ⟨⟨h.1.os, h.1.tape, h.1.output, h.1.size, h.1.block⟩, h.2⟩)
theorem keepB2 {ai ar ab av : Int} {ad : ByteArray} {bi br bb bv : Int} {bd : ByteArray} {s5 : Nat} {s6 : Nat} {w W : World} (o1 o : Obj) (y0 : s5 < W.heap.size) (y1 : s6 < W.heap.size) (_y : w.heap.size ≤ W.heap.size) (h : Below w.heap.size w (W.alloc o1) ∧ s5 < (W.alloc o1).heap.size ∧ s6 < (W.alloc o1).heap.size ∧ (W.alloc o1).cell? ⟨s5, 0, none⟩ = some (.int .i64 ai) ∧ (W.alloc o1).cell? ⟨s5, 1, none⟩ = some (.int .i64 ar) ∧ (W.alloc o1).cell? ⟨s5, 2, none⟩ = some (.int .i64 ab) ∧ (W.alloc o1).cell? ⟨s5, 3, none⟩ = some (.int .i64 av) ∧ (W.alloc o1).cell? ⟨s5, 4, none⟩ = some (.string ad) ∧ (W.alloc o1).cell? ⟨s6, 0, none⟩ = some (.int .i64 bi) ∧ (W.alloc o1).cell? ⟨s6, 1, none⟩ = some (.int .i64 br) ∧ (W.alloc o1).cell? ⟨s6, 2, none⟩ = some (.int .i64 bb) ∧ (W.alloc o1).cell? ⟨s6, 3, none⟩ = some (.int .i64 bv) ∧ (W.alloc o1).cell? ⟨s6, 4, none⟩ = some (.string bd)) : Below w.heap.size w (W.alloc o) ∧ s5 < (W.alloc o).heap.size ∧ s6 < (W.alloc o).heap.size ∧ (W.alloc o).cell? ⟨s5, 0, none⟩ = some (.int .i64 ai) ∧ (W.alloc o).cell? ⟨s5, 1, none⟩ = some (.int .i64 ar) ∧ (W.alloc o).cell? ⟨s5, 2, none⟩ = some (.int .i64 ab) ∧ (W.alloc o).cell? ⟨s5, 3, none⟩ = some (.int .i64 av) ∧ (W.alloc o).cell? ⟨s5, 4, none⟩ = some (.string ad) ∧ (W.alloc o).cell? ⟨s6, 0, none⟩ = some (.int .i64 bi) ∧ (W.alloc o).cell? ⟨s6, 1, none⟩ = some (.int .i64 br) ∧ (W.alloc o).cell? ⟨s6, 2, none⟩ = some (.int .i64 bb) ∧ (W.alloc o).cell? ⟨s6, 3, none⟩ = some (.int .i64 bv) ∧ (W.alloc o).cell? ⟨s6, 4, none⟩ = some (.string bd) := by
  obtain ⟨b, z0, z1, c0, c1, c2, c3, c4, c5, c6, c7, c8, c9⟩ := h
  exact ⟨⟨b.os, b.tape, b.output, by simp; omega, fun k hk => (Below.heap_alloc W o k (by omega)).trans ((Below.heap_alloc W o1 k (by omega)).symm.trans (b.block k hk))⟩, by simp; omega, by simp; omega, ka (by omega) (kb (by omega) c0), ka (by omega) (kb (by omega) c1), ka (by omega) (kb (by omega) c2), ka (by omega) (kb (by omega) c3), ka (by omega) (kb (by omega) c4), ka (by omega) (kb (by omega) c5), ka (by omega) (kb (by omega) c6), ka (by omega) (kb (by omega) c7), ka (by omega) (kb (by omega) c8), ka (by omega) (kb (by omega) c9)⟩
theorem keepBD2 {ai ar ab av : Int} {ad : ByteArray} {bi br bb bv : Int} {bd : ByteArray} {s5 : Nat} {s6 : Nat} {w W : World} (o1 o : Obj) (y0 : s5 < W.heap.size) (y1 : s6 < W.heap.size) (_y : w.heap.size ≤ W.heap.size) (h : Below w.heap.size w (W.alloc o1).drew ∧ s5 < (W.alloc o1).drew.heap.size ∧ s6 < (W.alloc o1).drew.heap.size ∧ (W.alloc o1).drew.cell? ⟨s5, 0, none⟩ = some (.int .i64 ai) ∧ (W.alloc o1).drew.cell? ⟨s5, 1, none⟩ = some (.int .i64 ar) ∧ (W.alloc o1).drew.cell? ⟨s5, 2, none⟩ = some (.int .i64 ab) ∧ (W.alloc o1).drew.cell? ⟨s5, 3, none⟩ = some (.int .i64 av) ∧ (W.alloc o1).drew.cell? ⟨s5, 4, none⟩ = some (.string ad) ∧ (W.alloc o1).drew.cell? ⟨s6, 0, none⟩ = some (.int .i64 bi) ∧ (W.alloc o1).drew.cell? ⟨s6, 1, none⟩ = some (.int .i64 br) ∧ (W.alloc o1).drew.cell? ⟨s6, 2, none⟩ = some (.int .i64 bb) ∧ (W.alloc o1).drew.cell? ⟨s6, 3, none⟩ = some (.int .i64 bv) ∧ (W.alloc o1).drew.cell? ⟨s6, 4, none⟩ = some (.string bd)) : Below w.heap.size w (W.alloc o).drew ∧ s5 < (W.alloc o).drew.heap.size ∧ s6 < (W.alloc o).drew.heap.size ∧ (W.alloc o).drew.cell? ⟨s5, 0, none⟩ = some (.int .i64 ai) ∧ (W.alloc o).drew.cell? ⟨s5, 1, none⟩ = some (.int .i64 ar) ∧ (W.alloc o).drew.cell? ⟨s5, 2, none⟩ = some (.int .i64 ab) ∧ (W.alloc o).drew.cell? ⟨s5, 3, none⟩ = some (.int .i64 av) ∧ (W.alloc o).drew.cell? ⟨s5, 4, none⟩ = some (.string ad) ∧ (W.alloc o).drew.cell? ⟨s6, 0, none⟩ = some (.int .i64 bi) ∧ (W.alloc o).drew.cell? ⟨s6, 1, none⟩ = some (.int .i64 br) ∧ (W.alloc o).drew.cell? ⟨s6, 2, none⟩ = some (.int .i64 bb) ∧ (W.alloc o).drew.cell? ⟨s6, 3, none⟩ = some (.int .i64 bv) ∧ (W.alloc o).drew.cell? ⟨s6, 4, none⟩ = some (.string bd) := keepD2 (keepB2 (W := W) o1 o y0 y1 _y ⟨⟨h.1.os, h.1.tape, h.1.output, h.1.size, h.1.block⟩, h.2⟩)
theorem keepW25 {ai ar ab av : Int} {ad : ByteArray} {bi br bb bv : Int} {bd : ByteArray} {s5 : Nat} {s6 : Nat} {w W : World} {gg : Nat} {v0 v1 v2 v3 v4 : Value} (y0 : s5 ≠ gg) (y1 : s6 ≠ gg) (y : w.heap.size ≤ gg) (h : Below w.heap.size w W ∧ s5 < W.heap.size ∧ s6 < W.heap.size ∧ W.cell? ⟨s5, 0, none⟩ = some (.int .i64 ai) ∧ W.cell? ⟨s5, 1, none⟩ = some (.int .i64 ar) ∧ W.cell? ⟨s5, 2, none⟩ = some (.int .i64 ab) ∧ W.cell? ⟨s5, 3, none⟩ = some (.int .i64 av) ∧ W.cell? ⟨s5, 4, none⟩ = some (.string ad) ∧ W.cell? ⟨s6, 0, none⟩ = some (.int .i64 bi) ∧ W.cell? ⟨s6, 1, none⟩ = some (.int .i64 br) ∧ W.cell? ⟨s6, 2, none⟩ = some (.int .i64 bb) ∧ W.cell? ⟨s6, 3, none⟩ = some (.int .i64 bv) ∧ W.cell? ⟨s6, 4, none⟩ = some (.string bd)) : Below w.heap.size w (((((W.setCell ⟨gg, 0, none⟩ v0).setCell ⟨gg, 1, none⟩ v1).setCell ⟨gg, 2, none⟩ v2).setCell ⟨gg, 3, none⟩ v3).setCell ⟨gg, 4, none⟩ v4) ∧ s5 < (((((W.setCell ⟨gg, 0, none⟩ v0).setCell ⟨gg, 1, none⟩ v1).setCell ⟨gg, 2, none⟩ v2).setCell ⟨gg, 3, none⟩ v3).setCell ⟨gg, 4, none⟩ v4).heap.size ∧ s6 < (((((W.setCell ⟨gg, 0, none⟩ v0).setCell ⟨gg, 1, none⟩ v1).setCell ⟨gg, 2, none⟩ v2).setCell ⟨gg, 3, none⟩ v3).setCell ⟨gg, 4, none⟩ v4).heap.size ∧ (((((W.setCell ⟨gg, 0, none⟩ v0).setCell ⟨gg, 1, none⟩ v1).setCell ⟨gg, 2, none⟩ v2).setCell ⟨gg, 3, none⟩ v3).setCell ⟨gg, 4, none⟩ v4).cell? ⟨s5, 0, none⟩ = some (.int .i64 ai) ∧ (((((W.setCell ⟨gg, 0, none⟩ v0).setCell ⟨gg, 1, none⟩ v1).setCell ⟨gg, 2, none⟩ v2).setCell ⟨gg, 3, none⟩ v3).setCell ⟨gg, 4, none⟩ v4).cell? ⟨s5, 1, none⟩ = some (.int .i64 ar) ∧ (((((W.setCell ⟨gg, 0, none⟩ v0).setCell ⟨gg, 1, none⟩ v1).setCell ⟨gg, 2, none⟩ v2).setCell ⟨gg, 3, none⟩ v3).setCell ⟨gg, 4, none⟩ v4).cell? ⟨s5, 2, none⟩ = some (.int .i64 ab) ∧ (((((W.setCell ⟨gg, 0, none⟩ v0).setCell ⟨gg, 1, none⟩ v1).setCell ⟨gg, 2, none⟩ v2).setCell ⟨gg, 3, none⟩ v3).setCell ⟨gg, 4, none⟩ v4).cell? ⟨s5, 3, none⟩ = some (.int .i64 av) ∧ (((((W.setCell ⟨gg, 0, none⟩ v0).setCell ⟨gg, 1, none⟩ v1).setCell ⟨gg, 2, none⟩ v2).setCell ⟨gg, 3, none⟩ v3).setCell ⟨gg, 4, none⟩ v4).cell? ⟨s5, 4, none⟩ = some (.string ad) ∧ (((((W.setCell ⟨gg, 0, none⟩ v0).setCell ⟨gg, 1, none⟩ v1).setCell ⟨gg, 2, none⟩ v2).setCell ⟨gg, 3, none⟩ v3).setCell ⟨gg, 4, none⟩ v4).cell? ⟨s6, 0, none⟩ = some (.int .i64 bi) ∧ (((((W.setCell ⟨gg, 0, none⟩ v0).setCell ⟨gg, 1, none⟩ v1).setCell ⟨gg, 2, none⟩ v2).setCell ⟨gg, 3, none⟩ v3).setCell ⟨gg, 4, none⟩ v4).cell? ⟨s6, 1, none⟩ = some (.int .i64 br) ∧ (((((W.setCell ⟨gg, 0, none⟩ v0).setCell ⟨gg, 1, none⟩ v1).setCell ⟨gg, 2, none⟩ v2).setCell ⟨gg, 3, none⟩ v3).setCell ⟨gg, 4, none⟩ v4).cell? ⟨s6, 2, none⟩ = some (.int .i64 bb) ∧ (((((W.setCell ⟨gg, 0, none⟩ v0).setCell ⟨gg, 1, none⟩ v1).setCell ⟨gg, 2, none⟩ v2).setCell ⟨gg, 3, none⟩ v3).setCell ⟨gg, 4, none⟩ v4).cell? ⟨s6, 3, none⟩ = some (.int .i64 bv) ∧ (((((W.setCell ⟨gg, 0, none⟩ v0).setCell ⟨gg, 1, none⟩ v1).setCell ⟨gg, 2, none⟩ v2).setCell ⟨gg, 3, none⟩ v3).setCell ⟨gg, 4, none⟩ v4).cell? ⟨s6, 4, none⟩ = some (.string bd) := by
  obtain ⟨b, z0, z1, c0, c1, c2, c3, c4, c5, c6, c7, c8, c9⟩ := h
  exact ⟨below_set5 y b, by simpa using z0, by simpa using z1, blk_far5 y0 c0, blk_far5 y0 c1, blk_far5 y0 c2, blk_far5 y0 c3, blk_far5 y0 c4, blk_far5 y1 c5, blk_far5 y1 c6, blk_far5 y1 c7, blk_far5 y1 c8, blk_far5 y1 c9⟩
theorem keepWD25 {ai ar ab av : Int} {ad : ByteArray} {bi br bb bv : Int} {bd : ByteArray} {s5 : Nat} {s6 : Nat} {w W : World} {gg : Nat} {v0 v1 v2 v3 v4 : Value} (y0 : s5 ≠ gg) (y1 : s6 ≠ gg) (y : w.heap.size ≤ gg) (h : Below w.heap.size w W.drew ∧ s5 < W.drew.heap.size ∧ s6 < W.drew.heap.size ∧ W.drew.cell? ⟨s5, 0, none⟩ = some (.int .i64 ai) ∧ W.drew.cell? ⟨s5, 1, none⟩ = some (.int .i64 ar) ∧ W.drew.cell? ⟨s5, 2, none⟩ = some (.int .i64 ab) ∧ W.drew.cell? ⟨s5, 3, none⟩ = some (.int .i64 av) ∧ W.drew.cell? ⟨s5, 4, none⟩ = some (.string ad) ∧ W.drew.cell? ⟨s6, 0, none⟩ = some (.int .i64 bi) ∧ W.drew.cell? ⟨s6, 1, none⟩ = some (.int .i64 br) ∧ W.drew.cell? ⟨s6, 2, none⟩ = some (.int .i64 bb) ∧ W.drew.cell? ⟨s6, 3, none⟩ = some (.int .i64 bv) ∧ W.drew.cell? ⟨s6, 4, none⟩ = some (.string bd)) : Below w.heap.size w (((((W.setCell ⟨gg, 0, none⟩ v0).setCell ⟨gg, 1, none⟩ v1).setCell ⟨gg, 2, none⟩ v2).setCell ⟨gg, 3, none⟩ v3).setCell ⟨gg, 4, none⟩ v4).drew ∧ s5 < (((((W.setCell ⟨gg, 0, none⟩ v0).setCell ⟨gg, 1, none⟩ v1).setCell ⟨gg, 2, none⟩ v2).setCell ⟨gg, 3, none⟩ v3).setCell ⟨gg, 4, none⟩ v4).drew.heap.size ∧ s6 < (((((W.setCell ⟨gg, 0, none⟩ v0).setCell ⟨gg, 1, none⟩ v1).setCell ⟨gg, 2, none⟩ v2).setCell ⟨gg, 3, none⟩ v3).setCell ⟨gg, 4, none⟩ v4).drew.heap.size ∧ (((((W.setCell ⟨gg, 0, none⟩ v0).setCell ⟨gg, 1, none⟩ v1).setCell ⟨gg, 2, none⟩ v2).setCell ⟨gg, 3, none⟩ v3).setCell ⟨gg, 4, none⟩ v4).drew.cell? ⟨s5, 0, none⟩ = some (.int .i64 ai) ∧ (((((W.setCell ⟨gg, 0, none⟩ v0).setCell ⟨gg, 1, none⟩ v1).setCell ⟨gg, 2, none⟩ v2).setCell ⟨gg, 3, none⟩ v3).setCell ⟨gg, 4, none⟩ v4).drew.cell? ⟨s5, 1, none⟩ = some (.int .i64 ar) ∧ (((((W.setCell ⟨gg, 0, none⟩ v0).setCell ⟨gg, 1, none⟩ v1).setCell ⟨gg, 2, none⟩ v2).setCell ⟨gg, 3, none⟩ v3).setCell ⟨gg, 4, none⟩ v4).drew.cell? ⟨s5, 2, none⟩ = some (.int .i64 ab) ∧ (((((W.setCell ⟨gg, 0, none⟩ v0).setCell ⟨gg, 1, none⟩ v1).setCell ⟨gg, 2, none⟩ v2).setCell ⟨gg, 3, none⟩ v3).setCell ⟨gg, 4, none⟩ v4).drew.cell? ⟨s5, 3, none⟩ = some (.int .i64 av) ∧ (((((W.setCell ⟨gg, 0, none⟩ v0).setCell ⟨gg, 1, none⟩ v1).setCell ⟨gg, 2, none⟩ v2).setCell ⟨gg, 3, none⟩ v3).setCell ⟨gg, 4, none⟩ v4).drew.cell? ⟨s5, 4, none⟩ = some (.string ad) ∧ (((((W.setCell ⟨gg, 0, none⟩ v0).setCell ⟨gg, 1, none⟩ v1).setCell ⟨gg, 2, none⟩ v2).setCell ⟨gg, 3, none⟩ v3).setCell ⟨gg, 4, none⟩ v4).drew.cell? ⟨s6, 0, none⟩ = some (.int .i64 bi) ∧ (((((W.setCell ⟨gg, 0, none⟩ v0).setCell ⟨gg, 1, none⟩ v1).setCell ⟨gg, 2, none⟩ v2).setCell ⟨gg, 3, none⟩ v3).setCell ⟨gg, 4, none⟩ v4).drew.cell? ⟨s6, 1, none⟩ = some (.int .i64 br) ∧ (((((W.setCell ⟨gg, 0, none⟩ v0).setCell ⟨gg, 1, none⟩ v1).setCell ⟨gg, 2, none⟩ v2).setCell ⟨gg, 3, none⟩ v3).setCell ⟨gg, 4, none⟩ v4).drew.cell? ⟨s6, 2, none⟩ = some (.int .i64 bb) ∧ (((((W.setCell ⟨gg, 0, none⟩ v0).setCell ⟨gg, 1, none⟩ v1).setCell ⟨gg, 2, none⟩ v2).setCell ⟨gg, 3, none⟩ v3).setCell ⟨gg, 4, none⟩ v4).drew.cell? ⟨s6, 3, none⟩ = some (.int .i64 bv) ∧ (((((W.setCell ⟨gg, 0, none⟩ v0).setCell ⟨gg, 1, none⟩ v1).setCell ⟨gg, 2, none⟩ v2).setCell ⟨gg, 3, none⟩ v3).setCell ⟨gg, 4, none⟩ v4).drew.cell? ⟨s6, 4, none⟩ = some (.string bd) := keepD2 (keepW25 (W := W) y0 y1 y ⟨⟨h.1.os, h.1.tape, h.1.output, h.1.size, h.1.block⟩, h.2⟩)

set_option maxHeartbeats 8000000 in
set_option maxRecDepth 100000 in
theorem two_any (v : Value) (xs : List Int) (w : World) (hlen : xs.length ≤ 1048576) (hbd : ∀ z ∈ xs, 0 ≤ z ∧ z ≤ 255) (hv : Seg w v xs) :
    Calls Try.prog 35 #[v] w fun e w' => (∃ ai ar ab av ad bi br bb bv bd, e = .returned (.tuple #[.agg #[.int .i64 ai, .int .i64 ar, .int .i64 ab, .int .i64 av, .string ad], .agg #[.int .i64 bi, .int .i64 br, .int .i64 bb, .int .i64 bv, .string bd]]) ∧ ad.size ≤ 9 ∧ bd.size ≤ 9) ∧ Below w.heap.size w w' := by
  have HD := hide hbd
  have hv0 := hide (show xs = [] ∨ ∀ b off n c, v = .slice (some ⟨b, off, none⟩) n c → b < w.heap.size from by
    obtain ⟨a, cap, rfl, hcap, hr⟩ := hv
    rcases hr with hr | ⟨b', off', rfl, hlt, _⟩
    · exact .inl hr
    · refine .inr ?_
      rintro b off n c e
      simp only [Value.slice.injEq, Option.some.injEq, Addr.mk.injEq] at e
      omega)
  have HS := hide (hv.below (((Below.refl w.heap.size w).alloc (Nat.le_refl _) (.cells #[.int .i64 0, .int .i64 0, .int .i64 0, .int .i64 0, .string ⟨#[]⟩] 25)).alloc (by simp) (.cells #[.int .i64 0, .int .i64 0, .int .i64 0, .int .i64 0, .string ⟨#[]⟩] 25)) (Nat.le_refl _))
  have n1 := hide ((Below.heap_alloc (w.alloc (.cells #[.int .i64 0, .int .i64 0, .int .i64 0, .int .i64 0, .string ⟨#[]⟩] 25)) (.cells #[.int .i64 0, .int .i64 0, .int .i64 0, .int .i64 0, .string ⟨#[]⟩] 25) w.heap.size (by simp)).trans (heap_alloc_new w (.cells #[.int .i64 0, .int .i64 0, .int .i64 0, .int .i64 0, .string ⟨#[]⟩] 25)))
  have n2 := heap_alloc_new (w.alloc (.cells #[.int .i64 0, .int .i64 0, .int .i64 0, .int .i64 0, .string ⟨#[]⟩] 25)) (.cells #[.int .i64 0, .int .i64 0, .int .i64 0, .int .i64 0, .string ⟨#[]⟩] 25)
  rw [show (w.alloc (.cells #[.int .i64 0, .int .i64 0, .int .i64 0, .int .i64 0, .string ⟨#[]⟩] 25)).heap.size = w.heap.size + 1 by simp] at n2
  have N2 := hide n2
  clear hbd hv n2
  go_enter Try.func35, Try.ntmps35
  go_wp2_with fail
  refine (new_any v xs _ hlen (unhide HD) (unhide HS)).mono ?_
  rintro e w1 ⟨rfl, c1, b1, s1⟩
  have hw0 : ((w.alloc (.cells #[.int .i64 0, .int .i64 0, .int .i64 0, .int .i64 0, .string ⟨#[]⟩] 25)).alloc (.cells #[.int .i64 0, .int .i64 0, .int .i64 0, .int .i64 0, .string ⟨#[]⟩] 25)).heap.size = w.heap.size + 1 + 1 := by simp
  have R1 := hide ((b1.block _ (by rw [hw0]; omega)).trans (unhide n1))
  have Q1 := hide ((b1.block _ (by rw [hw0]; omega)).trans (unhide N2))
  have B1 := hide ((((Below.refl w.heap.size w).alloc (Nat.le_refl _) (.cells #[.int .i64 0, .int .i64 0, .int .i64 0, .int .i64 0, .string ⟨#[]⟩] 25)).alloc (by simp) (.cells #[.int .i64 0, .int .i64 0, .int .i64 0, .int .i64 0, .string ⟨#[]⟩] 25)).trans (b1.mono (by rw [hw0]; omega)))
  rw [hw0] at c1 s1
  have C1 := hide c1
  obtain ⟨g, hg⟩ : ∃ g, g = w.heap.size + 1 + 1 := ⟨_, rfl⟩
  rw [hw0, ← hg]
  rw [← hg] at C1
  have hgA : w.heap.size + 1 < g := by omega
  have hgB : g < w1.heap.size := by omega
  clear hg s1
  clear c1 b1 n1 N2 HS hw0
  go_wp2_with fail
  refine (draw_any g v xs _ hlen (unhide HD) (unhide C1)).mono ?_
  rintro e w2 ⟨⟨ai, ar, ab, av, ad, rfl, had⟩, c2, g2⟩
  have hs2 := g2.size
  have HNa := hide had
  have hgl2 := cur_lt c2
  have C2 := hide (cur_alloc c2 (.cells #[.int .i64 ai, .int .i64 ar, .int .i64 ab, .int .i64 av, .string ad] 25))
  have R2 := hide ((Below.heap_alloc w2 (.cells #[.int .i64 ai, .int .i64 ar, .int .i64 ab, .int .i64 av, .string ad] 25) _ (Array.getElem?_eq_some_iff.1 (blk_grown g2 (unhide R1) (by omega))).1).trans (blk_grown g2 (unhide R1) (by omega)))
  have Q2 := hide ((Below.heap_alloc w2 (.cells #[.int .i64 ai, .int .i64 ar, .int .i64 ab, .int .i64 av, .string ad] 25) _ (Array.getElem?_eq_some_iff.1 (blk_grown g2 (unhide Q1) (by omega))).1).trans (blk_grown g2 (unhide Q1) (by omega)))
  have E2 := hide (heap_alloc_new w2 (.cells #[.int .i64 ai, .int .i64 ar, .int .i64 ab, .int .i64 av, .string ad] 25))
  have hB2 := (unhide B1).size
  have B2 := hide (((unhide B1).grown g2 hB2 (fun q hq => by simp at hq; omega)).alloc (Nat.le_trans hB2 (by omega)) (.cells #[.int .i64 ai, .int .i64 ar, .int .i64 ab, .int .i64 av, .string ad] 25))
  clear c2 g2 C1 R1 Q1 B1 had
  go_wp2_with fail
  refine (once_any g v xs 4 _ hlen (unhide HD) (by omega) (by omega) (unhide C2)).mono ?_
  rintro e w3 ⟨⟨o3, rfl⟩, c3, g3⟩
  have hs3 := g3.size
  try simp only [World.size_alloc] at hs3
  have C3 := hide c3
  have R3 := hide (blk_grown g3 (unhide R2) (by omega))
  have Q3 := hide (blk_grown g3 (unhide Q2) (by omega))
  have E3 := hide (blk_grown g3 (unhide E2) (by omega))
  have hB3 := (unhide B2).size
  have B3 := hide ((unhide B2).grown g3 hB3 (fun q hq => by simp at hq; omega))
  clear c3 g3 C2 R2 Q2 E2 B2
  cases o3
  rotate_left
  · have hz5 : w2.heap.size < w3.heap.size := (Array.getElem?_eq_some_iff.1 (unhide E3)).1
    obtain ⟨p0, p1, p2, p3, p4, p5⟩ := blk_cells5 (unhide R3)
    obtain ⟨q0, q1, q2, q3, q4, q5⟩ := blk_cells5 (unhide Q3)
    obtain ⟨e0, e1, e2, e3, e4, e5⟩ := blk_cells5 (unhide E3)
    have HS := hide (show Below w.heap.size w w3 ∧ w2.heap.size < w3.heap.size ∧ w3.cell? ⟨w2.heap.size, 0, none⟩ = some (.int .i64 ai) ∧ w3.cell? ⟨w2.heap.size, 1, none⟩ = some (.int .i64 ar) ∧ w3.cell? ⟨w2.heap.size, 2, none⟩ = some (.int .i64 ab) ∧ w3.cell? ⟨w2.heap.size, 3, none⟩ = some (.int .i64 av) ∧ w3.cell? ⟨w2.heap.size, 4, none⟩ = some (.string ad) from ⟨unhide B3, hz5, e0, e1, e2, e3, e4⟩)
    go_wp2_with fail
    go_region_held3 (fun w' => Below w.heap.size w w' ∧ w2.heap.size < w'.heap.size ∧ w'.cell? ⟨w2.heap.size, 0, none⟩ = some (.int .i64 ai) ∧ w'.cell? ⟨w2.heap.size, 1, none⟩ = some (.int .i64 ar) ∧ w'.cell? ⟨w2.heap.size, 2, none⟩ = some (.int .i64 ab) ∧ w'.cell? ⟨w2.heap.size, 3, none⟩ = some (.int .i64 av) ∧ w'.cell? ⟨w2.heap.size, 4, none⟩ = some (.string ad)) (first | with_reducible exact unhide (by assumption) | with_reducible exact keepD1 (unhide HS) | with_reducible exact keepD1 (by assumption) | with_reducible exact keepAD1 _ (by assumption) | (with_reducible refine keepBD1 _ _ ?_ ?_ (by assumption) <;> omega) | with_reducible exact keepA1 _ (by assumption) | (with_reducible refine keepB1 _ _ ?_ ?_ (by assumption) <;> omega) | (with_reducible refine keepWD15 ?_ ?_ (by assumption) <;> omega) | (with_reducible refine keepW15 ?_ ?_ (by assumption) <;> omega)) (fail)
    all_goals go_wp2
    all_goals
      rename_i hS
      have hb := hS.1
      clear hS
      exact bodyPost_ret (v := .tuple #[.agg #[.int .i64 ai, .int .i64 ar, .int .i64 ab, .int .i64 av, .string ad], .agg #[.int .i64 ai, .int .i64 ar, .int .i64 ab, .int .i64 av, .string ad]]) (by simp [results, Try.results35, go_sem, p0, p1, p2, p3, p4, q0, q1, q2, q3, q4]) rfl ⟨⟨_, _, _, _, _, _, _, _, _, _, rfl, unhide HNa, unhide HNa⟩, hb⟩
  go_wp2_with fail
  refine (draw_any g v xs _ hlen (unhide HD) (unhide C3)).mono ?_
  rintro e w4 ⟨⟨bi, br, bb, bv, bd, rfl, hbd⟩, c4, g4⟩
  have hs4 := g4.size
  have HNb := hide hbd
  have hgl4 := cur_lt c4
  have C4 := hide (cur_alloc c4 (.cells #[.int .i64 bi, .int .i64 br, .int .i64 bb, .int .i64 bv, .string bd] 25))
  have R4 := hide ((Below.heap_alloc w4 (.cells #[.int .i64 bi, .int .i64 br, .int .i64 bb, .int .i64 bv, .string bd] 25) _ (Array.getElem?_eq_some_iff.1 (blk_grown g4 (unhide R3) (by omega))).1).trans (blk_grown g4 (unhide R3) (by omega)))
  have Q4 := hide ((Below.heap_alloc w4 (.cells #[.int .i64 bi, .int .i64 br, .int .i64 bb, .int .i64 bv, .string bd] 25) _ (Array.getElem?_eq_some_iff.1 (blk_grown g4 (unhide Q3) (by omega))).1).trans (blk_grown g4 (unhide Q3) (by omega)))
  have E4 := hide ((Below.heap_alloc w4 (.cells #[.int .i64 bi, .int .i64 br, .int .i64 bb, .int .i64 bv, .string bd] 25) _ (Array.getElem?_eq_some_iff.1 (blk_grown g4 (unhide E3) (by omega))).1).trans (blk_grown g4 (unhide E3) (by omega)))
  have F4 := hide (heap_alloc_new w4 (.cells #[.int .i64 bi, .int .i64 br, .int .i64 bb, .int .i64 bv, .string bd] 25))
  have hB4 := (unhide B3).size
  have B4 := hide (((unhide B3).grown g4 hB4 (fun q hq => by simp at hq; omega)).alloc (Nat.le_trans hB4 (by omega)) (.cells #[.int .i64 bi, .int .i64 br, .int .i64 bb, .int .i64 bv, .string bd] 25))
  clear c4 g4 C3 R3 Q3 E3 B3 hbd
  go_wp2_with fail
  refine (once_any g v xs 2 _ hlen (unhide HD) (by omega) (by omega) (unhide C4)).mono ?_
  rintro e w5 ⟨⟨o5, rfl⟩, c5, g5⟩
  have hs5 := g5.size
  try simp only [World.size_alloc] at hs5
  have C5 := hide c5
  have R5 := hide (blk_grown g5 (unhide R4) (by omega))
  have Q5 := hide (blk_grown g5 (unhide Q4) (by omega))
  have E5 := hide (blk_grown g5 (unhide E4) (by omega))
  have F5 := hide (blk_grown g5 (unhide F4) (by omega))
  have hB5 := (unhide B4).size
  have B5 := hide ((unhide B4).grown g5 hB5 (fun q hq => by simp at hq; omega))
  clear c5 g5 C4 R4 Q4 E4 F4 B4
  cases o5
  rotate_left
  · obtain ⟨e0, e1, e2, e3, e4, e5⟩ := blk_cells5 (unhide E5)
    obtain ⟨f0, f1, f2, f3, f4, f5⟩ := blk_cells5 (unhide F5)
    have X := hide (cur_set (k := 0) (u := .int .i64 ai) (unhide C5) (show g ≠ w4.heap.size by omega) ((unhide hv0).imp id (fun h b off n c e => by have := h b off n c e; omega)))
    clear C5
    have C5 := X
    clear X
    have X := hide ((heap_setCell_other w5 ⟨w4.heap.size, 0, none⟩ _ (.int .i64 ai) (by show _ ≠ w4.heap.size; omega)).trans (unhide R5))
    clear R5
    have R5 := X
    clear X
    have X := hide ((heap_setCell_other w5 ⟨w4.heap.size, 0, none⟩ _ (.int .i64 ai) (by show _ ≠ w4.heap.size; omega)).trans (unhide Q5))
    clear Q5
    have Q5 := X
    clear X
    have X := hide ((heap_setCell_other w5 ⟨w4.heap.size, 0, none⟩ _ (.int .i64 ai) (by show _ ≠ w4.heap.size; omega)).trans (unhide E5))
    clear E5
    have E5 := X
    clear X
    have X := hide (show (w5.setCell ⟨w4.heap.size, 0, none⟩ (.int .i64 ai)).heap[w4.heap.size]? = some (.cells #[.int .i64 ai, .int .i64 br, .int .i64 bb, .int .i64 bv, .string bd] 25 (0, 0)) from heap_setCell_same _ _ _ _ _ _ (unhide F5))
    clear F5
    have F5 := X
    clear X
    have X := hide (below_set (a := ⟨w4.heap.size, 0, none⟩) (u := .int .i64 ai) (unhide B5) (by show w.heap.size ≤ w4.heap.size; omega))
    clear B5
    have B5 := X
    clear X
    go_wp2_with fail
    obtain ⟨w6, hq⟩ : ∃ q, q = (w5.setCell ⟨w4.heap.size, 0, none⟩ (.int .i64 ai)) := ⟨_, rfl⟩
    rw [← hq]
    rw [← hq] at C5
    have C6 := C5
    clear C5
    rw [← hq] at R5
    have R6 := R5
    clear R5
    rw [← hq] at Q5
    have Q6 := Q5
    clear Q5
    rw [← hq] at E5
    have E6 := E5
    clear E5
    rw [← hq] at F5
    have F6 := F5
    clear F5
    rw [← hq] at B5
    have B6 := B5
    clear B5
    clear hq e0 e1 e2 e3 e4 e5 f0 f1 f2 f3 f4 f5
    go_wp2_with fail
    refine (once_any g v xs 2 _ hlen (unhide HD) (by omega) (by omega) (unhide C6)).mono ?_
    rintro e w7 ⟨⟨o7, rfl⟩, c7, g7⟩
    have hs7 := g7.size
    try simp only [World.size_alloc] at hs7
    have C7 := hide c7
    have R7 := hide (blk_grown g7 (unhide R6) (by omega))
    have Q7 := hide (blk_grown g7 (unhide Q6) (by omega))
    have E7 := hide (blk_grown g7 (unhide E6) (by omega))
    have F7 := hide (blk_grown g7 (unhide F6) (by omega))
    have hB7 := (unhide B6).size
    have B7 := hide ((unhide B6).grown g7 hB7 (fun q hq => by simp at hq; omega))
    clear c7 g7 C6 R6 Q6 E6 F6 B6
    cases o7
    rotate_left
    · obtain ⟨e0, e1, e2, e3, e4, e5⟩ := blk_cells5 (unhide E7)
      obtain ⟨f0, f1, f2, f3, f4, f5⟩ := blk_cells5 (unhide F7)
      have X := hide (cur_set (k := 1) (u := .int .i64 ar) (unhide C7) (show g ≠ w4.heap.size by omega) ((unhide hv0).imp id (fun h b off n c e => by have := h b off n c e; omega)))
      clear C7
      have C7 := X
      clear X
      have X := hide ((heap_setCell_other w7 ⟨w4.heap.size, 1, none⟩ _ (.int .i64 ar) (by show _ ≠ w4.heap.size; omega)).trans (unhide R7))
      clear R7
      have R7 := X
      clear X
      have X := hide ((heap_setCell_other w7 ⟨w4.heap.size, 1, none⟩ _ (.int .i64 ar) (by show _ ≠ w4.heap.size; omega)).trans (unhide Q7))
      clear Q7
      have Q7 := X
      clear X
      have X := hide ((heap_setCell_other w7 ⟨w4.heap.size, 1, none⟩ _ (.int .i64 ar) (by show _ ≠ w4.heap.size; omega)).trans (unhide E7))
      clear E7
      have E7 := X
      clear X
      have X := hide (show (w7.setCell ⟨w4.heap.size, 1, none⟩ (.int .i64 ar)).heap[w4.heap.size]? = some (.cells #[.int .i64 ai, .int .i64 ar, .int .i64 bb, .int .i64 bv, .string bd] 25 (0, 0)) from heap_setCell_same _ _ _ _ _ _ (unhide F7))
      clear F7
      have F7 := X
      clear X
      have X := hide (below_set (a := ⟨w4.heap.size, 1, none⟩) (u := .int .i64 ar) (unhide B7) (by show w.heap.size ≤ w4.heap.size; omega))
      clear B7
      have B7 := X
      clear X
      go_wp2_with fail
      obtain ⟨w8, hq⟩ : ∃ q, q = (w7.setCell ⟨w4.heap.size, 1, none⟩ (.int .i64 ar)) := ⟨_, rfl⟩
      rw [← hq]
      rw [← hq] at C7
      have C8 := C7
      clear C7
      rw [← hq] at R7
      have R8 := R7
      clear R7
      rw [← hq] at Q7
      have Q8 := Q7
      clear Q7
      rw [← hq] at E7
      have E8 := E7
      clear E7
      rw [← hq] at F7
      have F8 := F7
      clear F7
      rw [← hq] at B7
      have B8 := B7
      clear B7
      clear hq e0 e1 e2 e3 e4 e5 f0 f1 f2 f3 f4 f5
      have hz5 : w2.heap.size < w8.heap.size := (Array.getElem?_eq_some_iff.1 (unhide E8)).1
      have hz6 : w4.heap.size < w8.heap.size := (Array.getElem?_eq_some_iff.1 (unhide F8)).1
      obtain ⟨p0, p1, p2, p3, p4, p5⟩ := blk_cells5 (unhide R8)
      obtain ⟨q0, q1, q2, q3, q4, q5⟩ := blk_cells5 (unhide Q8)
      obtain ⟨e0, e1, e2, e3, e4, e5⟩ := blk_cells5 (unhide E8)
      obtain ⟨f0, f1, f2, f3, f4, f5⟩ := blk_cells5 (unhide F8)
      have HS := hide (show Below w.heap.size w w8 ∧ w2.heap.size < w8.heap.size ∧ w4.heap.size < w8.heap.size ∧ w8.cell? ⟨w2.heap.size, 0, none⟩ = some (.int .i64 ai) ∧ w8.cell? ⟨w2.heap.size, 1, none⟩ = some (.int .i64 ar) ∧ w8.cell? ⟨w2.heap.size, 2, none⟩ = some (.int .i64 ab) ∧ w8.cell? ⟨w2.heap.size, 3, none⟩ = some (.int .i64 av) ∧ w8.cell? ⟨w2.heap.size, 4, none⟩ = some (.string ad) ∧ w8.cell? ⟨w4.heap.size, 0, none⟩ = some (.int .i64 ai) ∧ w8.cell? ⟨w4.heap.size, 1, none⟩ = some (.int .i64 ar) ∧ w8.cell? ⟨w4.heap.size, 2, none⟩ = some (.int .i64 bb) ∧ w8.cell? ⟨w4.heap.size, 3, none⟩ = some (.int .i64 bv) ∧ w8.cell? ⟨w4.heap.size, 4, none⟩ = some (.string bd) from ⟨unhide B8, hz5, hz6, e0, e1, e2, e3, e4, f0, f1, f2, f3, f4⟩)
      go_wp2_with fail
      go_region_held3 (fun w' => Below w.heap.size w w' ∧ w2.heap.size < w'.heap.size ∧ w4.heap.size < w'.heap.size ∧ w'.cell? ⟨w2.heap.size, 0, none⟩ = some (.int .i64 ai) ∧ w'.cell? ⟨w2.heap.size, 1, none⟩ = some (.int .i64 ar) ∧ w'.cell? ⟨w2.heap.size, 2, none⟩ = some (.int .i64 ab) ∧ w'.cell? ⟨w2.heap.size, 3, none⟩ = some (.int .i64 av) ∧ w'.cell? ⟨w2.heap.size, 4, none⟩ = some (.string ad) ∧ w'.cell? ⟨w4.heap.size, 0, none⟩ = some (.int .i64 ai) ∧ w'.cell? ⟨w4.heap.size, 1, none⟩ = some (.int .i64 ar) ∧ w'.cell? ⟨w4.heap.size, 2, none⟩ = some (.int .i64 bb) ∧ w'.cell? ⟨w4.heap.size, 3, none⟩ = some (.int .i64 bv) ∧ w'.cell? ⟨w4.heap.size, 4, none⟩ = some (.string bd)) (first | with_reducible exact unhide (by assumption) | with_reducible exact keepD2 (unhide HS) | with_reducible exact keepD2 (by assumption) | with_reducible exact keepAD2 _ (by assumption) | (with_reducible refine keepBD2 _ _ ?_ ?_ ?_ (by assumption) <;> omega) | with_reducible exact keepA2 _ (by assumption) | (with_reducible refine keepB2 _ _ ?_ ?_ ?_ (by assumption) <;> omega) | (with_reducible refine keepWD25 ?_ ?_ ?_ (by assumption) <;> omega) | (with_reducible refine keepW25 ?_ ?_ ?_ (by assumption) <;> omega)) (fail)
      all_goals go_wp2
      all_goals
        rename_i hS
        have hb := hS.1
        clear hS
        exact bodyPost_ret (v := .tuple #[.agg #[.int .i64 ai, .int .i64 ar, .int .i64 ab, .int .i64 av, .string ad], .agg #[.int .i64 ai, .int .i64 ar, .int .i64 bb, .int .i64 bv, .string bd]]) (by simp [results, Try.results35, go_sem, p0, p1, p2, p3, p4, q0, q1, q2, q3, q4]) rfl ⟨⟨_, _, _, _, _, _, _, _, _, _, rfl, unhide HNa, unhide HNb⟩, hb⟩
    have hz5 : w2.heap.size < w7.heap.size := (Array.getElem?_eq_some_iff.1 (unhide E7)).1
    have hz6 : w4.heap.size < w7.heap.size := (Array.getElem?_eq_some_iff.1 (unhide F7)).1
    obtain ⟨p0, p1, p2, p3, p4, p5⟩ := blk_cells5 (unhide R7)
    obtain ⟨q0, q1, q2, q3, q4, q5⟩ := blk_cells5 (unhide Q7)
    obtain ⟨e0, e1, e2, e3, e4, e5⟩ := blk_cells5 (unhide E7)
    obtain ⟨f0, f1, f2, f3, f4, f5⟩ := blk_cells5 (unhide F7)
    have HS := hide (show Below w.heap.size w w7 ∧ w2.heap.size < w7.heap.size ∧ w4.heap.size < w7.heap.size ∧ w7.cell? ⟨w2.heap.size, 0, none⟩ = some (.int .i64 ai) ∧ w7.cell? ⟨w2.heap.size, 1, none⟩ = some (.int .i64 ar) ∧ w7.cell? ⟨w2.heap.size, 2, none⟩ = some (.int .i64 ab) ∧ w7.cell? ⟨w2.heap.size, 3, none⟩ = some (.int .i64 av) ∧ w7.cell? ⟨w2.heap.size, 4, none⟩ = some (.string ad) ∧ w7.cell? ⟨w4.heap.size, 0, none⟩ = some (.int .i64 ai) ∧ w7.cell? ⟨w4.heap.size, 1, none⟩ = some (.int .i64 br) ∧ w7.cell? ⟨w4.heap.size, 2, none⟩ = some (.int .i64 bb) ∧ w7.cell? ⟨w4.heap.size, 3, none⟩ = some (.int .i64 bv) ∧ w7.cell? ⟨w4.heap.size, 4, none⟩ = some (.string bd) from ⟨unhide B7, hz5, hz6, e0, e1, e2, e3, e4, f0, f1, f2, f3, f4⟩)
    go_wp2_with fail
    go_region_held3 (fun w' => Below w.heap.size w w' ∧ w2.heap.size < w'.heap.size ∧ w4.heap.size < w'.heap.size ∧ w'.cell? ⟨w2.heap.size, 0, none⟩ = some (.int .i64 ai) ∧ w'.cell? ⟨w2.heap.size, 1, none⟩ = some (.int .i64 ar) ∧ w'.cell? ⟨w2.heap.size, 2, none⟩ = some (.int .i64 ab) ∧ w'.cell? ⟨w2.heap.size, 3, none⟩ = some (.int .i64 av) ∧ w'.cell? ⟨w2.heap.size, 4, none⟩ = some (.string ad) ∧ w'.cell? ⟨w4.heap.size, 0, none⟩ = some (.int .i64 ai) ∧ w'.cell? ⟨w4.heap.size, 1, none⟩ = some (.int .i64 br) ∧ w'.cell? ⟨w4.heap.size, 2, none⟩ = some (.int .i64 bb) ∧ w'.cell? ⟨w4.heap.size, 3, none⟩ = some (.int .i64 bv) ∧ w'.cell? ⟨w4.heap.size, 4, none⟩ = some (.string bd)) (first | with_reducible exact unhide (by assumption) | with_reducible exact keepD2 (unhide HS) | with_reducible exact keepD2 (by assumption) | with_reducible exact keepAD2 _ (by assumption) | (with_reducible refine keepBD2 _ _ ?_ ?_ ?_ (by assumption) <;> omega) | with_reducible exact keepA2 _ (by assumption) | (with_reducible refine keepB2 _ _ ?_ ?_ ?_ (by assumption) <;> omega) | (with_reducible refine keepWD25 ?_ ?_ ?_ (by assumption) <;> omega) | (with_reducible refine keepW25 ?_ ?_ ?_ (by assumption) <;> omega)) (fail)
    all_goals go_wp2
    all_goals
      rename_i hS
      have hb := hS.1
      clear hS
      exact bodyPost_ret (v := .tuple #[.agg #[.int .i64 ai, .int .i64 ar, .int .i64 ab, .int .i64 av, .string ad], .agg #[.int .i64 ai, .int .i64 br, .int .i64 bb, .int .i64 bv, .string bd]]) (by simp [results, Try.results35, go_sem, p0, p1, p2, p3, p4, q0, q1, q2, q3, q4]) rfl ⟨⟨_, _, _, _, _, _, _, _, _, _, rfl, unhide HNa, unhide HNb⟩, hb⟩
  go_wp2_with fail
  refine (once_any g v xs 2 _ hlen (unhide HD) (by omega) (by omega) (unhide C5)).mono ?_
  rintro e w6 ⟨⟨o6, rfl⟩, c6, g6⟩
  have hs6 := g6.size
  try simp only [World.size_alloc] at hs6
  have C6 := hide c6
  have R6 := hide (blk_grown g6 (unhide R5) (by omega))
  have Q6 := hide (blk_grown g6 (unhide Q5) (by omega))
  have E6 := hide (blk_grown g6 (unhide E5) (by omega))
  have F6 := hide (blk_grown g6 (unhide F5) (by omega))
  have hB6 := (unhide B5).size
  have B6 := hide ((unhide B5).grown g6 hB6 (fun q hq => by simp at hq; omega))
  clear c6 g6 C5 R5 Q5 E5 F5 B5
  cases o6
  rotate_left
  · obtain ⟨e0, e1, e2, e3, e4, e5⟩ := blk_cells5 (unhide E6)
    obtain ⟨f0, f1, f2, f3, f4, f5⟩ := blk_cells5 (unhide F6)
    have X := hide (cur_set (k := 1) (u := .int .i64 ar) (unhide C6) (show g ≠ w4.heap.size by omega) ((unhide hv0).imp id (fun h b off n c e => by have := h b off n c e; omega)))
    clear C6
    have C6 := X
    clear X
    have X := hide ((heap_setCell_other w6 ⟨w4.heap.size, 1, none⟩ _ (.int .i64 ar) (by show _ ≠ w4.heap.size; omega)).trans (unhide R6))
    clear R6
    have R6 := X
    clear X
    have X := hide ((heap_setCell_other w6 ⟨w4.heap.size, 1, none⟩ _ (.int .i64 ar) (by show _ ≠ w4.heap.size; omega)).trans (unhide Q6))
    clear Q6
    have Q6 := X
    clear X
    have X := hide ((heap_setCell_other w6 ⟨w4.heap.size, 1, none⟩ _ (.int .i64 ar) (by show _ ≠ w4.heap.size; omega)).trans (unhide E6))
    clear E6
    have E6 := X
    clear X
    have X := hide (show (w6.setCell ⟨w4.heap.size, 1, none⟩ (.int .i64 ar)).heap[w4.heap.size]? = some (.cells #[.int .i64 bi, .int .i64 ar, .int .i64 bb, .int .i64 bv, .string bd] 25 (0, 0)) from heap_setCell_same _ _ _ _ _ _ (unhide F6))
    clear F6
    have F6 := X
    clear X
    have X := hide (below_set (a := ⟨w4.heap.size, 1, none⟩) (u := .int .i64 ar) (unhide B6) (by show w.heap.size ≤ w4.heap.size; omega))
    clear B6
    have B6 := X
    clear X
    go_wp2_with fail
    obtain ⟨w7, hq⟩ : ∃ q, q = (w6.setCell ⟨w4.heap.size, 1, none⟩ (.int .i64 ar)) := ⟨_, rfl⟩
    rw [← hq]
    rw [← hq] at C6
    have C7 := C6
    clear C6
    rw [← hq] at R6
    have R7 := R6
    clear R6
    rw [← hq] at Q6
    have Q7 := Q6
    clear Q6
    rw [← hq] at E6
    have E7 := E6
    clear E6
    rw [← hq] at F6
    have F7 := F6
    clear F6
    rw [← hq] at B6
    have B7 := B6
    clear B6
    clear hq e0 e1 e2 e3 e4 e5 f0 f1 f2 f3 f4 f5
    have hz5 : w2.heap.size < w7.heap.size := (Array.getElem?_eq_some_iff.1 (unhide E7)).1
    have hz6 : w4.heap.size < w7.heap.size := (Array.getElem?_eq_some_iff.1 (unhide F7)).1
    obtain ⟨p0, p1, p2, p3, p4, p5⟩ := blk_cells5 (unhide R7)
    obtain ⟨q0, q1, q2, q3, q4, q5⟩ := blk_cells5 (unhide Q7)
    obtain ⟨e0, e1, e2, e3, e4, e5⟩ := blk_cells5 (unhide E7)
    obtain ⟨f0, f1, f2, f3, f4, f5⟩ := blk_cells5 (unhide F7)
    have HS := hide (show Below w.heap.size w w7 ∧ w2.heap.size < w7.heap.size ∧ w4.heap.size < w7.heap.size ∧ w7.cell? ⟨w2.heap.size, 0, none⟩ = some (.int .i64 ai) ∧ w7.cell? ⟨w2.heap.size, 1, none⟩ = some (.int .i64 ar) ∧ w7.cell? ⟨w2.heap.size, 2, none⟩ = some (.int .i64 ab) ∧ w7.cell? ⟨w2.heap.size, 3, none⟩ = some (.int .i64 av) ∧ w7.cell? ⟨w2.heap.size, 4, none⟩ = some (.string ad) ∧ w7.cell? ⟨w4.heap.size, 0, none⟩ = some (.int .i64 bi) ∧ w7.cell? ⟨w4.heap.size, 1, none⟩ = some (.int .i64 ar) ∧ w7.cell? ⟨w4.heap.size, 2, none⟩ = some (.int .i64 bb) ∧ w7.cell? ⟨w4.heap.size, 3, none⟩ = some (.int .i64 bv) ∧ w7.cell? ⟨w4.heap.size, 4, none⟩ = some (.string bd) from ⟨unhide B7, hz5, hz6, e0, e1, e2, e3, e4, f0, f1, f2, f3, f4⟩)
    go_wp2_with fail
    go_region_held3 (fun w' => Below w.heap.size w w' ∧ w2.heap.size < w'.heap.size ∧ w4.heap.size < w'.heap.size ∧ w'.cell? ⟨w2.heap.size, 0, none⟩ = some (.int .i64 ai) ∧ w'.cell? ⟨w2.heap.size, 1, none⟩ = some (.int .i64 ar) ∧ w'.cell? ⟨w2.heap.size, 2, none⟩ = some (.int .i64 ab) ∧ w'.cell? ⟨w2.heap.size, 3, none⟩ = some (.int .i64 av) ∧ w'.cell? ⟨w2.heap.size, 4, none⟩ = some (.string ad) ∧ w'.cell? ⟨w4.heap.size, 0, none⟩ = some (.int .i64 bi) ∧ w'.cell? ⟨w4.heap.size, 1, none⟩ = some (.int .i64 ar) ∧ w'.cell? ⟨w4.heap.size, 2, none⟩ = some (.int .i64 bb) ∧ w'.cell? ⟨w4.heap.size, 3, none⟩ = some (.int .i64 bv) ∧ w'.cell? ⟨w4.heap.size, 4, none⟩ = some (.string bd)) (first | with_reducible exact unhide (by assumption) | with_reducible exact keepD2 (unhide HS) | with_reducible exact keepD2 (by assumption) | with_reducible exact keepAD2 _ (by assumption) | (with_reducible refine keepBD2 _ _ ?_ ?_ ?_ (by assumption) <;> omega) | with_reducible exact keepA2 _ (by assumption) | (with_reducible refine keepB2 _ _ ?_ ?_ ?_ (by assumption) <;> omega) | (with_reducible refine keepWD25 ?_ ?_ ?_ (by assumption) <;> omega) | (with_reducible refine keepW25 ?_ ?_ ?_ (by assumption) <;> omega)) (fail)
    all_goals go_wp2
    all_goals
      rename_i hS
      have hb := hS.1
      clear hS
      exact bodyPost_ret (v := .tuple #[.agg #[.int .i64 ai, .int .i64 ar, .int .i64 ab, .int .i64 av, .string ad], .agg #[.int .i64 bi, .int .i64 ar, .int .i64 bb, .int .i64 bv, .string bd]]) (by simp [results, Try.results35, go_sem, p0, p1, p2, p3, p4, q0, q1, q2, q3, q4]) rfl ⟨⟨_, _, _, _, _, _, _, _, _, _, rfl, unhide HNa, unhide HNb⟩, hb⟩
  have hz5 : w2.heap.size < w6.heap.size := (Array.getElem?_eq_some_iff.1 (unhide E6)).1
  have hz6 : w4.heap.size < w6.heap.size := (Array.getElem?_eq_some_iff.1 (unhide F6)).1
  obtain ⟨p0, p1, p2, p3, p4, p5⟩ := blk_cells5 (unhide R6)
  obtain ⟨q0, q1, q2, q3, q4, q5⟩ := blk_cells5 (unhide Q6)
  obtain ⟨e0, e1, e2, e3, e4, e5⟩ := blk_cells5 (unhide E6)
  obtain ⟨f0, f1, f2, f3, f4, f5⟩ := blk_cells5 (unhide F6)
  have HS := hide (show Below w.heap.size w w6 ∧ w2.heap.size < w6.heap.size ∧ w4.heap.size < w6.heap.size ∧ w6.cell? ⟨w2.heap.size, 0, none⟩ = some (.int .i64 ai) ∧ w6.cell? ⟨w2.heap.size, 1, none⟩ = some (.int .i64 ar) ∧ w6.cell? ⟨w2.heap.size, 2, none⟩ = some (.int .i64 ab) ∧ w6.cell? ⟨w2.heap.size, 3, none⟩ = some (.int .i64 av) ∧ w6.cell? ⟨w2.heap.size, 4, none⟩ = some (.string ad) ∧ w6.cell? ⟨w4.heap.size, 0, none⟩ = some (.int .i64 bi) ∧ w6.cell? ⟨w4.heap.size, 1, none⟩ = some (.int .i64 br) ∧ w6.cell? ⟨w4.heap.size, 2, none⟩ = some (.int .i64 bb) ∧ w6.cell? ⟨w4.heap.size, 3, none⟩ = some (.int .i64 bv) ∧ w6.cell? ⟨w4.heap.size, 4, none⟩ = some (.string bd) from ⟨unhide B6, hz5, hz6, e0, e1, e2, e3, e4, f0, f1, f2, f3, f4⟩)
  go_wp2_with fail
  go_region_held3 (fun w' => Below w.heap.size w w' ∧ w2.heap.size < w'.heap.size ∧ w4.heap.size < w'.heap.size ∧ w'.cell? ⟨w2.heap.size, 0, none⟩ = some (.int .i64 ai) ∧ w'.cell? ⟨w2.heap.size, 1, none⟩ = some (.int .i64 ar) ∧ w'.cell? ⟨w2.heap.size, 2, none⟩ = some (.int .i64 ab) ∧ w'.cell? ⟨w2.heap.size, 3, none⟩ = some (.int .i64 av) ∧ w'.cell? ⟨w2.heap.size, 4, none⟩ = some (.string ad) ∧ w'.cell? ⟨w4.heap.size, 0, none⟩ = some (.int .i64 bi) ∧ w'.cell? ⟨w4.heap.size, 1, none⟩ = some (.int .i64 br) ∧ w'.cell? ⟨w4.heap.size, 2, none⟩ = some (.int .i64 bb) ∧ w'.cell? ⟨w4.heap.size, 3, none⟩ = some (.int .i64 bv) ∧ w'.cell? ⟨w4.heap.size, 4, none⟩ = some (.string bd)) (first | with_reducible exact unhide (by assumption) | with_reducible exact keepD2 (unhide HS) | with_reducible exact keepD2 (by assumption) | with_reducible exact keepAD2 _ (by assumption) | (with_reducible refine keepBD2 _ _ ?_ ?_ ?_ (by assumption) <;> omega) | with_reducible exact keepA2 _ (by assumption) | (with_reducible refine keepB2 _ _ ?_ ?_ ?_ (by assumption) <;> omega) | (with_reducible refine keepWD25 ?_ ?_ ?_ (by assumption) <;> omega) | (with_reducible refine keepW25 ?_ ?_ ?_ (by assumption) <;> omega)) (fail)
  all_goals go_wp2
  all_goals
    rename_i hS
    have hb := hS.1
    clear hS
    exact bodyPost_ret (v := .tuple #[.agg #[.int .i64 ai, .int .i64 ar, .int .i64 ab, .int .i64 av, .string ad], .agg #[.int .i64 bi, .int .i64 br, .int .i64 bb, .int .i64 bv, .string bd]]) (by simp [results, Try.results35, go_sem, p0, p1, p2, p3, p4, q0, q1, q2, q3, q4]) rfl ⟨⟨_, _, _, _, _, _, _, _, _, _, rfl, unhide HNa, unhide HNb⟩, hb⟩

end Go.Proofs.Ytnalnjokijbhbaa
