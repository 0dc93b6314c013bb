/-
  A state, a list of states, a log in memory of one's own: the program's. No statement is proved here.
-/
import Derived.Test.YtdpaocikmijioacLgP
import Derived.Test.YtdpaocikmijioacLgN
import Derived.Test.YtdpaocikmijioacStT
import Derived.Test.YtdpaocikmijioacCpK
import Derived.Test.YtdpaocikmijioacStBx
import Derived.Test.YtdpaocikmijioacVwK
import Derived.Deep.RegionHeld3
namespace Go.Proofs.Ytdpaocikmijioac
open Go.RowKit

theorem step_make {P : Program} {α : Type} {enc : α → List Value} {k : Nat} (hk : ∀ x, (enc x).length = k) (h0 : 0 < k) {ops : Array Oper} {o : Oper} {a : Act} {K : Act → World → Prop} {Q : Exit → Act → World → Prop} {R : Prop}
    (w : World) (hgd : o.guard = none) (l c : Operand) (t : TypeId) (hop : o.op = Op.makeSlice t l c) (E : TypeId) (i : TypeInfo) (z : Value) (z0 : α) (hzz : z.cells.toList = enc z0) (h1 : P.underlying t = some (.slice E)) (h2 : P.info? E = some i) (h3 : i.zero = some z) (h4 : i.size = k)
    (n : Nat) (hl : a.eval l = .int .i64 (n : Int)) (hc : a.eval c = .int .i64 (n : Int)) (b2 : i.bytes * n ≤ 281474976710656) (b3 : n ≤ maxLen)
    (h : ∀ w', Ow enc k E w.heap.size w' (.slice (some ⟨w.heap.size, 0, none⟩) n n) (List.replicate n z0) → Below w.heap.size w w' → K (a.put o.dst (.slice (some ⟨w.heap.size, 0, none⟩) n n)) w') :
    if Region.wanted o (yielded ops a.tmps) = true then Oper.wp P o a w K Q else R := by
  rw [if_pos (by simp [Region.wanted, hgd])]
  obtain ⟨w', hrun, r1, r2⟩ := run_make_full (P := P) w w.heap.size t E i z k h1 h2 h3 h4 .i64 .i64 n b2 b3 (Nat.le_refl _)
  unfold Oper.wp
  simp [execOp, hop, hl, hc, hrun, Result.andThen]
  refine h w' ?_ ⟨r2.os, r2.tape, r2.output, r2.size, fun q hq => r2.block q hq (by simp)⟩
  unfold Ow
  rw [← made_flat h0 hk z.cells z0 hzz n]
  simpa using r1

/-- What 'make' lays, as one letter. -/
theorem made_obj {P : Program} {α : Type} {enc : α → List Value} {k : Nat} (hk : ∀ x, (enc x).length = k) (h0 : 0 < k) (t E : TypeId) (i : TypeInfo) (z : Value) (z0 : α) (hzz : z.cells.toList = enc z0) (h1 : P.underlying t = some (.slice E)) (h2 : P.info? E = some i) (h3 : i.zero = some z) (h4 : i.size = k)
    (n : Nat) (b2 : i.bytes * n ≤ 281474976710656) (b3 : n ≤ maxLen) :
    ∃ O : Obj, (∀ w : World, (Instr.makeSlice t (.int .i64 (n : Int)) (.int .i64 (n : Int))).run P w = .ok (.slice (some ⟨w.heap.size, 0, none⟩) n n) (w.alloc O)) ∧ ∀ (W : World) (g B : Nat), W.heap[g]? = some O → B ≤ g → Ow enc k E B W (.slice (some ⟨g, 0, none⟩) n n) (List.replicate n z0) := by
  have h63 : (n : Int) ≤ 9223372036854775807 := by have h := b3; simp [maxLen] at h; omega
  have hb' : (i.bytes : Int) * (n : Int) ≤ 281474976710656 := by
    have h : ((i.bytes * n : Nat) : Int) ≤ 281474976710656 := by omega
    rwa [Int.natCast_mul] at h
  refine ⟨.cells (madeCells z.cells (n * k)) E, fun w => ?_, fun W g B hg hB => ?_⟩
  · have hr := run_make (P := P) w t E i z h1 h2 h3 .i64 .i64 n n (by omega) (Int.le_refl _) hb' h63
    simpa [h4] using hr
  · unfold Ow
    rw [← made_flat h0 hk z.cells z0 hzz n]
    simp only [List.length_replicate]
    refine ⟨by simp [size_madeCells], .inr ⟨g, n, madeCells z.cells (n * k), rfl, hB, hg, Nat.le_refl _, b3, size_madeCells _ _, ?_⟩⟩
    exact List.take_of_length_le (by rw [Array.length_toList, size_madeCells]; exact Nat.le_refl _)

theorem kb3 {α : Type} {enc : α → List Value} {k : Nat} {e : TypeId} {w5 W W' : World} {A : Prop} {v : Value} {xs : List α} (h : Below w5.heap.size w5 W ∧ A) (o : Ow enc k e W.heap.size W' v xs) : Ow enc k e w5.heap.size W' v xs := o.base h.1.size
theorem Ow.later2 {α : Type} {enc : α → List Value} {k : Nat} {e : TypeId} {base : Nat} {w w' : World} {o : Obj} {v : Value} {xs : List α} (h : Ow enc k e base w v xs) (b : Below (w.alloc o).heap.size (w.alloc o) w') : Ow enc k e base w' v xs := (h.later ((Below.refl _ _).alloc (Nat.le_refl _) o)).later b
theorem up0 {V W : World} (b : Below V.drew.heap.size V.drew W) : Below V.heap.size V W := ((Below.refl V.heap.size V).drew).trans b
theorem up1 {V W : World} {o : Obj} (b : Below (V.alloc o).drew.heap.size (V.alloc o).drew W) : Below V.heap.size V W := (((Below.refl V.heap.size V).alloc (Nat.le_refl _) o).drew).trans (b.mono (by show V.heap.size ≤ (V.alloc o).heap.size; simp))
theorem up4 {V W : World} {o : Obj} (b : Below (V.drew.alloc o).heap.size (V.drew.alloc o) W) : Below V.heap.size V W := (((Below.refl V.heap.size V).drew).alloc (Nat.le_refl _) o).trans (b.mono (by show V.heap.size ≤ (V.drew.alloc o).heap.size; simp))
theorem up2 {V X W : World} (h : Below V.heap.size V X) (b : Below X.heap.size X W) : Below V.heap.size V W := h.trans (b.mono h.size)
theorem up3 {V X W : World} {o : Obj} (h : Below V.heap.size V X) (b : Below (X.alloc o).heap.size (X.alloc o) W) : Below V.heap.size V W := (h.alloc h.size o).trans (b.mono (by have := h.size; simp; omega))
theorem Ow.up {α : Type} {enc : α → List Value} {k : Nat} {e : TypeId} {B : Nat} {X W : World} {v : Value} {xs : List α} (o : Ow enc k e X.heap.size W v xs) (h : B ≤ X.heap.size) : Ow enc k e B W v xs := o.base h
theorem keepS7 {V W : World} {g : Nat} {T : TypeId} {a0 a1 : Value} (hg : Hid (V.heap[g]? = some (.cells #[a0, a1] T (0, 0)) ∧ g < V.heap.size)) (hb : Below V.heap.size V W) : Below V.heap.size V W ∧ W.cell? ⟨g, 0, none⟩ = some a0 ∧ W.cell? ⟨g, 1, none⟩ = some a1 := by
  obtain ⟨p0, p1, -⟩ := blk_cells2 ((hb.block _ (unhide hg).2).trans (unhide hg).1)
  exact ⟨hb, p0, p1⟩
theorem grownS (W : World) (g : Nat) (v0 v1 : Value) : W.grownBy ((W.setCell ⟨g, 0, none⟩ v0).setCell ⟨g, 1, none⟩ v1) (some g) := grown_trans2 (grown_set1 W g 0 v0) (grown_set1 _ g 1 v1)
theorem Fin.setT {P W : World} {g : Nat} {v1 v2 : Value} {xs : List Itm} {fs : List Flr} (b : Below P.heap.size P W) (M : Hid (Bx P W g)) (o1 : Hid (OwI P.heap.size W v1 xs)) (o2 : Hid (OwF P.heap.size W v2 fs)) :
    Fin P ((W.setCell ⟨g, 0, none⟩ v1).setCell ⟨g, 1, none⟩ v2) g v1 v2 xs fs := by
  obtain ⟨hb, hl, hg⟩ := unhide M
  have hq : ∀ q, some g = some q → ∃ cs fz, W.heap[q]? = some (.cells cs 30 fz) := fun q e => by cases e; exact ⟨_, _, hb⟩
  exact ⟨(b.setCell (p := ⟨g, 0, none⟩) hg _).setCell (p := ⟨g, 1, none⟩) hg _, hg, by simpa using hl, blk_set2 hb _ _, (unhide o1).otherT hq (by decide) (grownS W g v1 v2), (unhide o2).otherT hq (by decide) (grownS W g v1 v2)⟩
theorem Fin.newT {P W : World} {v1 v2 : Value} {xs : List Itm} {fs : List Flr} (b : Below P.heap.size P W) (o1 : Hid (OwI P.heap.size W v1 xs)) (o2 : Hid (OwF P.heap.size W v2 fs)) :
    Fin P (W.alloc (.cells #[v1, v2] 30)) W.heap.size v1 v2 xs fs :=
  ⟨b.alloc b.size _, b.size, by simp, heap_alloc_new _ _, (unhide o1).later ((Below.refl _ _).alloc (Nat.le_refl _) _), (unhide o2).later ((Below.refl _ _).alloc (Nat.le_refl _) _)⟩

theorem Fin.of {P W : World} {g gi gf n m : Nat} {xs : List Itm} {fs : List Flr} {A B : Obj} (b : Below P.heap.size P W) (kg : W.heap[g]? = some (.cells #[.slice (some ⟨gi, 0, none⟩) n n, .slice (some ⟨gf, 0, none⟩) m m] 30 (0, 0))) (hg : P.heap.size ≤ g)
    (k1 : W.heap[gi]? = some A) (h1 : P.heap.size ≤ gi) (k2 : W.heap[gf]? = some B) (h2 : P.heap.size ≤ gf) (o1 : Hid (∀ (W : World) (g B : Nat), W.heap[g]? = some A → B ≤ g → OwI B W (.slice (some ⟨g, 0, none⟩) n n) xs)) (o2 : Hid (∀ (W : World) (g C : Nat), W.heap[g]? = some B → C ≤ g → OwF C W (.slice (some ⟨g, 0, none⟩) m m) fs)) :
    Fin P W g (.slice (some ⟨gi, 0, none⟩) n n) (.slice (some ⟨gf, 0, none⟩) m m) xs fs := ⟨b, hg, (Array.getElem?_eq_some_iff.1 kg).1, kg, unhide o1 W gi _ k1 h1, unhide o2 W gf _ k2 h2⟩

theorem lowB3d (w : World) (A B C : Obj) : (((w.alloc A).alloc B).alloc C).drew.heap[w.heap.size]? = some A := lowB3 w A B C
theorem midB3d (w : World) (A B C : Obj) : (((w.alloc A).alloc B).alloc C).drew.heap[w.heap.size + 1]? = some B := midB3 w A B C
theorem newB3d (w : World) (A B C : Obj) : (((w.alloc A).alloc B).alloc C).drew.heap[w.heap.size + 1 + 1]? = some C := newB3 w A B C
theorem b3d (V : World) (A B C : Obj) : Below V.heap.size V (((V.alloc A).alloc B).alloc C).drew := ((((Below.refl V.heap.size V).alloc (Nat.le_refl _) A).alloc (by simp) B).alloc (by simp; omega) C).drew
/-- While an item is copied: the argument's variable, the new state's, the item's. -/
structure Cs5 (w W : World) (g gx : Nat) (v1 v2 u1 u2 : Value) (x : Itm) : Prop where
  bel : Below w.heap.size w W
  ks : W.heap[w.heap.size]? = some (.cells #[v1, v2] 30 (0, 0))
  kg : W.heap[g]? = some (.cells #[u1, u2] 30 (0, 0))
  kx : W.heap[gx]? = some (.cells #[.int .i64 x.1, .int .i64 x.2.1, .int .i64 x.2.2.1, .int .i64 x.2.2.2.1, .int .i64 x.2.2.2.2.1, .string x.2.2.2.2.2] 75 (0, 0))
theorem Cs5.later {w W Y : World} {g gx : Nat} {v1 v2 u1 u2 : Value} {x : Itm} (h : Cs5 w W g gx v1 v2 u1 u2 x) (b : Below W.heap.size W Y) : Cs5 w Y g gx v1 v2 u1 u2 x :=
  ⟨h.bel.trans (b.mono h.bel.size), (b.block _ (Array.getElem?_eq_some_iff.1 h.ks).1).trans h.ks, (b.block _ (Array.getElem?_eq_some_iff.1 h.kg).1).trans h.kg, (b.block _ (Array.getElem?_eq_some_iff.1 h.kx).1).trans h.kx⟩
theorem Cs5.drewH {w W : World} {g gx : Nat} {v1 v2 u1 u2 : Value} {x : Itm} (h : Hid (Cs5 w W g gx v1 v2 u1 u2 x)) : Hid (Cs5 w W.drew g gx v1 v2 u1 u2 x) := hide ((unhide h).later ((Below.refl _ _).drew))
theorem kCs5 {w W : World} {g gx : Nat} {v1 v2 u1 u2 : Value} {x : Itm} (h : Hid (Cs5 w W g gx v1 v2 u1 u2 x)) : Below w.heap.size w W ∧ W.cell? ⟨g, 0, none⟩ = some u1 ∧ W.cell? ⟨g, 1, none⟩ = some u2 ∧ W.cell? ⟨gx, 0, none⟩ = some (.int .i64 x.1) ∧ W.cell? ⟨gx, 1, none⟩ = some (.int .i64 x.2.1) ∧ W.cell? ⟨gx, 2, none⟩ = some (.int .i64 x.2.2.1) ∧ W.cell? ⟨gx, 3, none⟩ = some (.int .i64 x.2.2.2.1) ∧ W.cell? ⟨gx, 4, none⟩ = some (.int .i64 x.2.2.2.2.1) ∧ W.cell? ⟨gx, 5, none⟩ = some (.string x.2.2.2.2.2) := by
  obtain ⟨p0, p1, -⟩ := blk_cells2 (unhide h).kg
  obtain ⟨h0, h1, h2, h3, h4, h5, -⟩ := blk_cells6 (unhide h).kx
  exact ⟨(unhide h).bel, p0, p1, h0, h1, h2, h3, h4, h5⟩
theorem ow_blkI {base : Nat} {w : World} {g n cap : Nat} {xs : List Itm} (h : OwI base w (.slice (some ⟨g, 0, none⟩) n cap) xs) : ∃ cs fz, w.heap[g]? = some (.cells cs 75 fz) := by
  rcases h.2 with ⟨hv, _⟩ | ⟨g', cap', cur, hv, _, hh, _⟩
  · simp at hv
  · simp only [Value.slice.injEq, Option.some.injEq, Addr.mk.injEq, and_true] at hv
    obtain ⟨rfl, -, -⟩ := hv
    exact ⟨_, _, hh⟩
theorem set6_far {W : World} {g h o : Nat} {v0 v1 v2 v3 v4 v5 : Value} {x : Obj} (k : W.heap[g]? = some x) (ne : g ≠ h) : ((((((W.setCell ⟨h, o, none⟩ v0).setCell ⟨h, o + 1, none⟩ v1).setCell ⟨h, o + 2, none⟩ v2).setCell ⟨h, o + 3, none⟩ v3).setCell ⟨h, o + 4, none⟩ v4).setCell ⟨h, o + 5, none⟩ v5).heap[g]? = some x :=
  blk_at (blk_at (blk_at (blk_at (blk_at (blk_at k ne) ne) ne) ne) ne) ne
theorem Cs5.set {w W : World} {g gx h o : Nat} {v1 v2 u1 u2 : Value} {x : Itm} {c0 c1 c2 c3 c4 c5 : Value} (q : Cs5 w W g gx v1 v2 u1 u2 x) (h0 : w.heap.size ≤ h) (n0 : w.heap.size ≠ h) (n1 : g ≠ h) (n2 : gx ≠ h) :
    Cs5 w ((((((W.setCell ⟨h, o, none⟩ c0).setCell ⟨h, o + 1, none⟩ c1).setCell ⟨h, o + 2, none⟩ c2).setCell ⟨h, o + 3, none⟩ c3).setCell ⟨h, o + 4, none⟩ c4).setCell ⟨h, o + 5, none⟩ c5) g gx v1 v2 u1 u2 x :=
  ⟨(((((q.bel.setCell (p := ⟨h, o, none⟩) h0 _).setCell (p := ⟨h, o + 1, none⟩) h0 _).setCell (p := ⟨h, o + 2, none⟩) h0 _).setCell (p := ⟨h, o + 3, none⟩) h0 _).setCell (p := ⟨h, o + 4, none⟩) h0 _).setCell (p := ⟨h, o + 5, none⟩) h0 _, set6_far q.ks n0, set6_far q.kg n1, set6_far q.kx n2⟩
end Go.Proofs.Ytdpaocikmijioac
