/-
  What is kept of a world while a statement that draws its order is gone through. No program here, no statement is proved here.
  Newer, EntryMax, on both sides, and the laws' own comparing of entries. No statement is proved here.
  The greater of two, of three: in any order, however bracketed, it is the same. No program here, no statement is proved here.
-/
import Derived.Test.YtjlocbimkfocnaaBase
import Derived.Deep.RegionHeld3
import Derived.Deep.CutRange
import Derived.Test.YtjlocbimkfocnaaEntP
namespace Go.Proofs.Ytjlocbimkfocnaa
open Go.RowKit

theorem kc {W w1 : World} {g o : Nat} {v : Value} (hb : Below W.heap.size W w1) (hg : g < W.heap.size) (c : W.cell? ⟨g, o, none⟩ = some v) : w1.cell? ⟨g, o, none⟩ = some v := (hb.cell (p := ⟨g, o, none⟩) hg).trans c
theorem ka {W : World} {o1 : Obj} {g o : Nat} {v : Value} (hg : g < W.heap.size) (c : W.cell? ⟨g, o, none⟩ = some v) : (W.alloc o1).cell? ⟨g, o, none⟩ = some v := (World.cell?_of_block (w := W) (Below.heap_alloc W o1 g hg)).trans c
theorem kb {W : World} {o1 : Obj} {g o : Nat} {v : Value} (hg : g < W.heap.size) (c : (W.alloc o1).cell? ⟨g, o, none⟩ = some v) : W.cell? ⟨g, o, none⟩ = some v := (World.cell?_of_block (w := W) (Below.heap_alloc W o1 g hg)).symm.trans c
theorem newblk {X w1 : World} {o : Obj} (bx : Below (X.alloc o).heap.size (X.alloc o) w1) : w1.heap[X.heap.size]? = some o ∧ X.heap.size < w1.heap.size := ⟨(bx.block _ (by simp)).trans (heap_alloc_new _ _), by have := bx.size; simp at this; omega⟩
theorem newblkD {X w1 : World} {o : Obj} (bx : Below (X.alloc o).drew.heap.size (X.alloc o).drew w1) : w1.heap[X.heap.size]? = some o ∧ X.heap.size < w1.heap.size := newblk (X := X) (o := o) ⟨bx.os, bx.tape, bx.output, bx.size, bx.block⟩
theorem keptblk {W w1 : World} {g : Nat} {o : Obj} (bx : Below W.heap.size W w1) (h : Hid (W.heap[g]? = some o ∧ g < W.heap.size)) : w1.heap[g]? = some o ∧ g < w1.heap.size := ⟨(bx.block _ (unhide h).2).trans (unhide h).1, Nat.lt_of_lt_of_le (unhide h).2 bx.size⟩
theorem lt_drew {W : World} {g : Nat} (h : g < W.heap.size) : g < W.drew.heap.size := h
theorem blk_cells5 {w : World} {g : Nat} {T : TypeId} {c0 c1 c2 c3 c4 : Value} (h : w.heap[g]? = some (.cells #[c0, c1, c2, c3, c4] T (0, 0))) :
    w.cell? ⟨g, 0, none⟩ = some c0 ∧ w.cell? ⟨g, 1, none⟩ = some c1 ∧ w.cell? ⟨g, 2, none⟩ = some c2 ∧ w.cell? ⟨g, 3, none⟩ = some c3 ∧ w.cell? ⟨g, 4, none⟩ = some c4 ∧ ∀ o, w.frozen? ⟨g, o, none⟩ = false := by
  simp [World.cell?, World.frozen?, h]
theorem blk_set5 {w : World} {g : Nat} {T : TypeId} {c0 c1 c2 c3 c4 : Value} (h : w.heap[g]? = some (.cells #[c0, c1, c2, c3, c4] T (0, 0))) (v0 v1 v2 v3 v4 : Value) :
    (((((w.setCell ⟨g, 0, none⟩ v0).setCell ⟨g, 1, none⟩ v1).setCell ⟨g, 2, none⟩ v2).setCell ⟨g, 3, none⟩ v3).setCell ⟨g, 4, none⟩ v4).heap[g]? = some (.cells #[v0, v1, v2, v3, v4] T (0, 0)) :=
  (heap_setCell_same _ _ _ _ _ _ (heap_setCell_same _ _ _ _ _ _ (heap_setCell_same _ _ _ _ _ _ (heap_setCell_same _ _ _ _ _ _ (heap_setCell_same _ _ _ _ _ _ h)))))
theorem blk_far5 {W : World} {g k o : Nat} {v v0 v1 v2 v3 v4 : Value} (hg : k ≠ g) (c : W.cell? ⟨k, o, none⟩ = some v) : (((((W.setCell ⟨g, 0, none⟩ v0).setCell ⟨g, 1, none⟩ v1).setCell ⟨g, 2, none⟩ v2).setCell ⟨g, 3, none⟩ v3).setCell ⟨g, 4, none⟩ v4).cell? ⟨k, o, none⟩ = some v := by
  have hn : ∀ j, (⟨g, j, none⟩ : Addr) ≠ ⟨k, o, none⟩ := fun j e => hg (congrArg Addr.block e).symm
  rw [World.cell?_setCell_other _ _ _ _ (hn 4), World.cell?_setCell_other _ _ _ _ (hn 3), World.cell?_setCell_other _ _ _ _ (hn 2), World.cell?_setCell_other _ _ _ _ (hn 1), World.cell?_setCell_other _ _ _ _ (hn 0)]
  exact c
theorem below_set5 {B : Nat} {w W : World} {g : Nat} {v0 v1 v2 v3 v4 : Value} (hg : B ≤ g) (h : Below B w W) : Below B w (((((W.setCell ⟨g, 0, none⟩ v0).setCell ⟨g, 1, none⟩ v1).setCell ⟨g, 2, none⟩ v2).setCell ⟨g, 3, none⟩ v3).setCell ⟨g, 4, none⟩ v4) := by
  have h1 := h.setCell (p := ⟨g, 0, none⟩) hg v0; have h2 := h1.setCell (p := ⟨g, 1, none⟩) hg v1; have h3 := h2.setCell (p := ⟨g, 2, none⟩) hg v2; have h4 := h3.setCell (p := ⟨g, 3, none⟩) hg v3; have h5 := h4.setCell (p := ⟨g, 4, none⟩) hg v4
  exact h5
theorem blk_cells2 {w : World} {g : Nat} {T : TypeId} {c0 c1 : Value} (h : w.heap[g]? = some (.cells #[c0, c1] T (0, 0))) :
    w.cell? ⟨g, 0, none⟩ = some c0 ∧ w.cell? ⟨g, 1, none⟩ = some c1 ∧ ∀ o, w.frozen? ⟨g, o, none⟩ = false := by
  simp [World.cell?, World.frozen?, h]
theorem blk_set2 {w : World} {g : Nat} {T : TypeId} {c0 c1 : Value} (h : w.heap[g]? = some (.cells #[c0, c1] T (0, 0))) (v0 v1 : Value) :
    ((w.setCell ⟨g, 0, none⟩ v0).setCell ⟨g, 1, none⟩ v1).heap[g]? = some (.cells #[v0, v1] T (0, 0)) :=
  (heap_setCell_same _ _ _ _ _ _ (heap_setCell_same _ _ _ _ _ _ h))
theorem blk_far2 {W : World} {g k o : Nat} {v v0 v1 : Value} (hg : k ≠ g) (c : W.cell? ⟨k, o, none⟩ = some v) : ((W.setCell ⟨g, 0, none⟩ v0).setCell ⟨g, 1, none⟩ v1).cell? ⟨k, o, none⟩ = some v := by
  have hn : ∀ j, (⟨g, j, none⟩ : Addr) ≠ ⟨k, o, none⟩ := fun j e => hg (congrArg Addr.block e).symm
  rw [World.cell?_setCell_other _ _ _ _ (hn 1), World.cell?_setCell_other _ _ _ _ (hn 0)]
  exact c
theorem below_set2 {B : Nat} {w W : World} {g : Nat} {v0 v1 : Value} (hg : B ≤ g) (h : Below B w W) : Below B w ((W.setCell ⟨g, 0, none⟩ v0).setCell ⟨g, 1, none⟩ v1) := by
  have h1 := h.setCell (p := ⟨g, 0, none⟩) hg v0; have h2 := h1.setCell (p := ⟨g, 1, none⟩) hg v1
  exact h2
end Go.Proofs.Ytjlocbimkfocnaa

namespace Go.Proofs.Ytjlocbimkfocnaa
open Go.RowKit

theorem newB2 (w : World) (A B : Obj) : ((w.alloc A).alloc B).heap[w.heap.size + 1]? = some B := by
  have e1 := heap_alloc_new (w.alloc A) B
  have z1 : (w.alloc A).heap.size = w.heap.size + 1 := by simp
  rw [z1] at e1
  exact e1
theorem newB3 (w : World) (A B C : Obj) : (((w.alloc A).alloc B).alloc C).heap[w.heap.size + 1 + 1]? = some C := by
  have e1 := heap_alloc_new ((w.alloc A).alloc B) C
  have z1 : ((w.alloc A).alloc B).heap.size = w.heap.size + 1 + 1 := by simp
  rw [z1] at e1
  exact e1
theorem ent_cells {w : World} {g : Nat} {T : TypeId} {c0 c1 c2 c3 c4 : Value} (h : w.heap[g]? = some (.cells #[c0, c1, c2, c3, c4] T (0, 0))) :
    w.cell? ⟨g, 0, none⟩ = some c0 ∧ w.cell? ⟨g, 1, none⟩ = some c1 ∧ w.cell? ⟨g, 2, none⟩ = some c2 ∧ w.cell? ⟨g, 3, none⟩ = some c3 ∧ w.cell? ⟨g, 4, none⟩ = some c4 ∧ ∀ o, w.frozen? ⟨g, o, none⟩ = false := by
  simp [World.cell?, World.frozen?, h]
theorem ent_set {w : World} {g : Nat} {T : TypeId} {c0 c1 c2 c3 c4 : Value} (h : w.heap[g]? = some (.cells #[c0, c1, c2, c3, c4] T (0, 0))) (v0 v1 v2 v3 v4 : Value) :
    (((((w.setCell ⟨g, 0, none⟩ v0).setCell ⟨g, 1, none⟩ v1).setCell ⟨g, 2, none⟩ v2).setCell ⟨g, 3, none⟩ v3).setCell ⟨g, 4, none⟩ v4).heap[g]? = some (.cells #[v0, v1, v2, v3, v4] T (0, 0)) :=
  heap_setCell_same _ _ _ _ _ _ (heap_setCell_same _ _ _ _ _ _ (heap_setCell_same _ _ _ _ _ _ (heap_setCell_same _ _ _ _ _ _ (heap_setCell_same _ _ _ _ _ _ h))))
theorem ent_far {w : World} {g k : Nat} (hne : k ≠ g) (v0 v1 v2 v3 v4 : Value) :
    (((((w.setCell ⟨g, 0, none⟩ v0).setCell ⟨g, 1, none⟩ v1).setCell ⟨g, 2, none⟩ v2).setCell ⟨g, 3, none⟩ v3).setCell ⟨g, 4, none⟩ v4).heap[k]? = w.heap[k]? := by
  rw [heap_setCell_other _ _ _ _ hne, heap_setCell_other _ _ _ _ hne, heap_setCell_other _ _ _ _ hne, heap_setCell_other _ _ _ _ hne, heap_setCell_other _ _ _ _ hne]
theorem new4 (w : World) (A B C D : Obj) : ((((w.alloc A).alloc B).alloc C).alloc D).heap[w.heap.size + 1]? = some B ∧ ((((w.alloc A).alloc B).alloc C).alloc D).heap[w.heap.size + 1 + 1]? = some C ∧ ((((w.alloc A).alloc B).alloc C).alloc D).heap[w.heap.size + 1 + 1 + 1]? = some D := by
  have e1 := heap_alloc_new (w.alloc A) B
  have e2 := heap_alloc_new ((w.alloc A).alloc B) C
  have e3 := heap_alloc_new (((w.alloc A).alloc B).alloc C) D
  have z1 : (w.alloc A).heap.size = w.heap.size + 1 := by simp
  have z2 : ((w.alloc A).alloc B).heap.size = w.heap.size + 1 + 1 := by simp
  have z3 : (((w.alloc A).alloc B).alloc C).heap.size = w.heap.size + 1 + 1 + 1 := by simp
  rw [z1] at e1
  rw [z2] at e2
  rw [z3] at e3
  refine ⟨?_, ?_, e3⟩
  · rw [Below.heap_alloc _ _ _ (by simp), Below.heap_alloc _ _ _ (by simp)]
    exact e1
  · rw [Below.heap_alloc _ _ _ (by simp)]
    exact e2

set_option maxHeartbeats 2000000 in
theorem eqentry_same (ai ar ab av : Int) (ad : ByteArray) (w : World) :
    Calls Try.prog 130 #[.agg #[.int .i64 ai, .int .i64 ar, .int .i64 ab, .int .i64 av, .string ad], .agg #[.int .i64 ai, .int .i64 ar, .int .i64 ab, .int .i64 av, .string ad]] w fun e w' => e = .returned (.bool true) ∧ Below w.heap.size w w' := by
  have d0 : (ai != ai) = false := by simp
  have d1 : (ar != ar) = false := by simp
  have d2 : (ab != ab) = false := by simp
  have d3 : (av != av) = false := by simp
  have d4 : (ad.toList == ad.toList) = true := by simp
  go_enter Try.func130, Try.ntmps130
  go_wp2
  go_ret
  exact ⟨rfl, ((Below.refl w.heap.size w).alloc (Nat.le_refl _) _).alloc (by simp) _⟩

/-- x is the one of a and b that is behind. -/
def IsMax (ai ar ab av : Int) (ad : ByteArray) (bi br bb bv : Int) (bd : ByteArray) (xi xr xb xv : Int) (xd : ByteArray) : Prop :=
  (cmpE ai ar ab av ad bi br bb bv bd < 0 ∧ xi = bi ∧ xr = br ∧ xb = bb ∧ xv = bv ∧ xd = bd) ∨ (0 ≤ cmpE ai ar ab av ad bi br bb bv bd ∧ xi = ai ∧ xr = ar ∧ xb = ab ∧ xv = av ∧ xd = ad)
theorem isMax_ex (ai ar ab av : Int) (ad : ByteArray) (bi br bb bv : Int) (bd : ByteArray) : ∃ (xi xr xb xv : Int) (xd : ByteArray), IsMax ai ar ab av ad bi br bb bv bd xi xr xb xv xd := by
  by_cases h : cmpE ai ar ab av ad bi br bb bv bd < 0
  · exact ⟨_, _, _, _, _, .inl ⟨h, rfl, rfl, rfl, rfl, rfl⟩⟩
  · exact ⟨_, _, _, _, _, .inr ⟨by omega, rfl, rfl, rfl, rfl, rfl⟩⟩
end Go.Proofs.Ytjlocbimkfocnaa

namespace Go.Proofs.Ytjlocbimkfocnaa
open Go.RowKit

abbrev Key := Int × Int × Int × Int × ByteArray
def mx (x y : Key) : Key := if keyC x y < 0 then y else x

theorem mx_comm (x y : Key) : mx x y = mx y x := by
  have a := keyC_is.anti x y
  have z := keyC_is.zero x y
  unfold mx
  by_cases h : keyC x y < 0
  · rw [if_pos h, if_neg (by omega)]
  · rw [if_neg h]
    by_cases h0 : keyC x y = 0
    · rw [if_neg (by omega)]; exact z.mp h0
    · rw [if_pos (by omega)]
theorem mx_assoc (x y z : Key) : mx (mx x y) z = mx x (mx y z) := by
  have t1 := keyC_is.trans x z y
  have t2 := keyC_is.trans x y z
  have a := keyC_is.anti y z
  unfold mx
  by_cases h1 : keyC x y < 0 <;> by_cases h2 : keyC y z < 0
  · have h3 : keyC x z < 0 := by
      by_cases h : keyC x z < 0
      · exact h
      · have := t1 (by omega) (by omega); omega
    simp only [h1, h2, h3, if_true]
  · simp only [h1, h2, if_true, if_false]
  · simp only [h1, h2, if_true, if_false]
  · have h3 : ¬ keyC x z < 0 := by have := t2 (by omega) (by omega); omega
    simp only [h1, h2, h3, if_false]
theorem mx_self (x : Key) : mx x x = x := by unfold mx; split <;> rfl
theorem mx_le (x y : Key) : 0 ≤ keyC (mx x y) x ∧ 0 ≤ keyC (mx x y) y ∧ (keyC (mx x y) x = 0 ∨ keyC (mx x y) y = 0) := by
  have a := keyC_is.anti x y
  have z1 := (keyC_is.zero x x).mpr rfl
  have z2 := (keyC_is.zero y y).mpr rfl
  unfold mx
  by_cases h : keyC x y < 0
  · rw [if_pos h]; exact ⟨by omega, by omega, .inr z2⟩
  · rw [if_neg h]; exact ⟨by omega, by omega, .inl z1⟩

theorem isMax_mx (ai ar ab av : Int) (ad : ByteArray) (bi br bb bv : Int) (bd : ByteArray) (xi xr xb xv : Int) (xd : ByteArray) : IsMax ai ar ab av ad bi br bb bv bd xi xr xb xv xd ↔ (xi, xr, xb, xv, xd) = mx (ai, ar, ab, av, ad) (bi, br, bb, bv, bd) := by
  unfold IsMax mx
  rw [cmpE_key]
  by_cases h : keyC (ai, ar, ab, av, ad) (bi, br, bb, bv, bd) < 0
  · rw [if_pos h]
    simp only [h, Prod.mk.injEq, true_and, show ¬ (0 ≤ keyC (ai, ar, ab, av, ad) (bi, br, bb, bv, bd)) by omega, false_and, or_false]
  · rw [if_neg h]
    simp only [h, Prod.mk.injEq, true_and, show 0 ≤ keyC (ai, ar, ab, av, ad) (bi, br, bb, bv, bd) by omega, false_and, false_or]

theorem isMax_size (ai ar ab av : Int) (ad : ByteArray) (bi br bb bv : Int) (bd : ByteArray) (xi xr xb xv : Int) (xd : ByteArray) (h : IsMax ai ar ab av ad bi br bb bv bd xi xr xb xv xd) (ha : ad.size ≤ 9) (hb : bd.size ≤ 9) : xd.size ≤ 9 := by
  rcases h with ⟨_, _, _, _, _, rfl⟩ | ⟨_, _, _, _, _, rfl⟩
  · exact hb
  · exact ha
theorem isMax_comm (ai ar ab av : Int) (ad : ByteArray) (bi br bb bv : Int) (bd : ByteArray) (xi xr xb xv : Int) (xd : ByteArray) (h : IsMax ai ar ab av ad bi br bb bv bd xi xr xb xv xd) : IsMax bi br bb bv bd ai ar ab av ad xi xr xb xv xd := by
  rw [isMax_mx] at h ⊢
  rw [h, mx_comm]
theorem isMax_self (ai ar ab av : Int) (ad : ByteArray) : IsMax ai ar ab av ad ai ar ab av ad ai ar ab av ad := by rw [isMax_mx, mx_self]
theorem isMax_assoc (ai ar ab av : Int) (ad : ByteArray) (bi br bb bv : Int) (bd : ByteArray) (di dr db dv : Int) (dd : ByteArray) (mi mr mb mv : Int) (md : ByteArray) (qi qr qb qv : Int) (qd : ByteArray) (ri rr rb rv : Int) (rd : ByteArray) (h1 : IsMax ai ar ab av ad bi br bb bv bd mi mr mb mv md) (h2 : IsMax mi mr mb mv md di dr db dv dd qi qr qb qv qd) (h3 : IsMax bi br bb bv bd di dr db dv dd ri rr rb rv rd) : IsMax ai ar ab av ad ri rr rb rv rd qi qr qb qv qd := by
  rw [isMax_mx] at h1 h2 h3 ⊢
  rw [h2, h1, h3, mx_assoc]
theorem isMax_le (ai ar ab av : Int) (ad : ByteArray) (bi br bb bv : Int) (bd : ByteArray) (mi mr mb mv : Int) (md : ByteArray) (h : IsMax ai ar ab av ad bi br bb bv bd mi mr mb mv md) : 0 ≤ cmpE mi mr mb mv md ai ar ab av ad ∧ 0 ≤ cmpE mi mr mb mv md bi br bb bv bd ∧ (cmpE mi mr mb mv md ai ar ab av ad = 0 ∨ cmpE mi mr mb mv md bi br bb bv bd = 0) := by
  rw [isMax_mx] at h
  rw [cmpE_key, cmpE_key, h]
  exact mx_le _ _
theorem cmpE_trans (ai ar ab av : Int) (ad : ByteArray) (bi br bb bv : Int) (bd : ByteArray) (di dr db dv : Int) (dd : ByteArray) (h1 : 0 ≤ cmpE ai ar ab av ad bi br bb bv bd) (h2 : 0 ≤ cmpE bi br bb bv bd di dr db dv dd) : 0 ≤ cmpE ai ar ab av ad di dr db dv dd := by
  rw [cmpE_key] at h1 h2 ⊢
  exact keyC_is.trans _ _ _ h1 h2
theorem cmpE_self (ai ar ab av : Int) (ad : ByteArray) : cmpE ai ar ab av ad ai ar ab av ad = 0 := by rw [cmpE_key]; exact (keyC_is.zero _ _).mpr rfl
end Go.Proofs.Ytjlocbimkfocnaa
