/-
  A state, a list of states, a log in memory of one's own: the program's. No statement is proved here.
  A state in memory of one's own: the program's. No statement is proved here.
  A list of states, a log in memory of one's own: the program's. No statement is proved here.
  The changes above some number; the log above it; its copy: the program's. No statement is proved here.
  The log above some number, its copy, a log that was dropped of or added to: the program's. No statement is proved here.
-/
import Derived.Test.YtijdmfakaompgaaLgK
import Derived.Test.YtijdmfakaompgaaCpK
import Derived.Test.YtijdmfakaompgaaStBx
import Derived.Test.YtijdmfakaompgaaVwK
import Derived.Deep.RegionHeld3
import Derived.Test.YtijdmfakaompgaaLgM
namespace Go.Proofs.Ytijdmfakaompgaa
open Go.RowKit

theorem step_make {P : Program} {α : Type} {enc : α → List Value} {k : Nat} (hk : ∀ x, (enc x).length = k) (h0 : 0 < k) {ops : Array Oper} {o : Oper} {a : Act} {K : Act → World → Prop} {Q : Exit → Act → World → Prop} {R : Prop}
    (w : World) (hgd : o.guard = none) (l c : Operand) (t : TypeId) (hop : o.op = Op.makeSlice t l c) (E : TypeId) (i : TypeInfo) (z : Value) (z0 : α) (hzz : z.cells.toList = enc z0) (h1 : P.underlying t = some (.slice E)) (h2 : P.info? E = some i) (h3 : i.zero = some z) (h4 : i.size = k)
    (n : Nat) (hl : a.eval l = .int .i64 (n : Int)) (hc : a.eval c = .int .i64 (n : Int)) (b2 : i.bytes * n ≤ 281474976710656) (b3 : n ≤ maxLen)
    (h : ∀ w', Ow enc k E w.heap.size w' (.slice (some ⟨w.heap.size, 0, none⟩) n n) (List.replicate n z0) → Below w.heap.size w w' → K (a.put o.dst (.slice (some ⟨w.heap.size, 0, none⟩) n n)) w') :
    if Region.wanted o (yielded ops a.tmps) = true then Oper.wp P o a w K Q else R := by
  rw [if_pos (by simp [Region.wanted, hgd])]
  obtain ⟨w', hrun, r1, r2⟩ := run_make_full (P := P) w w.heap.size t E i z k h1 h2 h3 h4 .i64 .i64 n b2 b3 (Nat.le_refl _)
  unfold Oper.wp
  simp [execOp, hop, hl, hc, hrun, Result.andThen]
  refine h w' ?_ ⟨r2.os, r2.tape, r2.output, r2.size, fun q hq => r2.block q hq (by simp)⟩
  unfold Ow
  rw [← made_flat h0 hk z.cells z0 hzz n]
  simpa using r1

/-- What 'make' lays, as one letter. -/
theorem made_obj {P : Program} {α : Type} {enc : α → List Value} {k : Nat} (hk : ∀ x, (enc x).length = k) (h0 : 0 < k) (t E : TypeId) (i : TypeInfo) (z : Value) (z0 : α) (hzz : z.cells.toList = enc z0) (h1 : P.underlying t = some (.slice E)) (h2 : P.info? E = some i) (h3 : i.zero = some z) (h4 : i.size = k)
    (n : Nat) (b2 : i.bytes * n ≤ 281474976710656) (b3 : n ≤ maxLen) :
    ∃ O : Obj, (∀ w : World, (Instr.makeSlice t (.int .i64 (n : Int)) (.int .i64 (n : Int))).run P w = .ok (.slice (some ⟨w.heap.size, 0, none⟩) n n) (w.alloc O)) ∧ ∀ (W : World) (g B : Nat), W.heap[g]? = some O → B ≤ g → Ow enc k E B W (.slice (some ⟨g, 0, none⟩) n n) (List.replicate n z0) := by
  have h63 : (n : Int) ≤ 9223372036854775807 := by have h := b3; simp [maxLen] at h; omega
  have hb' : (i.bytes : Int) * (n : Int) ≤ 281474976710656 := by
    have h : ((i.bytes * n : Nat) : Int) ≤ 281474976710656 := by omega
    rwa [Int.natCast_mul] at h
  refine ⟨.cells (madeCells z.cells (n * k)) E, fun w => ?_, fun W g B hg hB => ?_⟩
  · have hr := run_make (P := P) w t E i z h1 h2 h3 .i64 .i64 n n (by omega) (Int.le_refl _) hb' h63
    simpa [h4] using hr
  · unfold Ow
    rw [← made_flat h0 hk z.cells z0 hzz n]
    simp only [List.length_replicate]
    refine ⟨by simp [size_madeCells], .inr ⟨g, n, madeCells z.cells (n * k), rfl, hB, hg, Nat.le_refl _, b3, size_madeCells _ _, ?_⟩⟩
    exact List.take_of_length_le (by rw [Array.length_toList, size_madeCells]; exact Nat.le_refl _)

theorem kb3 {α : Type} {enc : α → List Value} {k : Nat} {e : TypeId} {w5 W W' : World} {A : Prop} {v : Value} {xs : List α} (h : Below w5.heap.size w5 W ∧ A) (o : Ow enc k e W.heap.size W' v xs) : Ow enc k e w5.heap.size W' v xs := o.base h.1.size
theorem Ow.later2 {α : Type} {enc : α → List Value} {k : Nat} {e : TypeId} {base : Nat} {w w' : World} {o : Obj} {v : Value} {xs : List α} (h : Ow enc k e base w v xs) (b : Below (w.alloc o).heap.size (w.alloc o) w') : Ow enc k e base w' v xs := (h.later ((Below.refl _ _).alloc (Nat.le_refl _) o)).later b
theorem up0 {V W : World} (b : Below V.drew.heap.size V.drew W) : Below V.heap.size V W := ((Below.refl V.heap.size V).drew).trans b
theorem up1 {V W : World} {o : Obj} (b : Below (V.alloc o).drew.heap.size (V.alloc o).drew W) : Below V.heap.size V W := (((Below.refl V.heap.size V).alloc (Nat.le_refl _) o).drew).trans (b.mono (by show V.heap.size ≤ (V.alloc o).heap.size; simp))
theorem up4 {V W : World} {o : Obj} (b : Below (V.drew.alloc o).heap.size (V.drew.alloc o) W) : Below V.heap.size V W := (((Below.refl V.heap.size V).drew).alloc (Nat.le_refl _) o).trans (b.mono (by show V.heap.size ≤ (V.drew.alloc o).heap.size; simp))
theorem up2 {V X W : World} (h : Below V.heap.size V X) (b : Below X.heap.size X W) : Below V.heap.size V W := h.trans (b.mono h.size)
theorem up3 {V X W : World} {o : Obj} (h : Below V.heap.size V X) (b : Below (X.alloc o).heap.size (X.alloc o) W) : Below V.heap.size V W := (h.alloc h.size o).trans (b.mono (by have := h.size; simp; omega))
theorem Ow.up {α : Type} {enc : α → List Value} {k : Nat} {e : TypeId} {B : Nat} {X W : World} {v : Value} {xs : List α} (o : Ow enc k e X.heap.size W v xs) (h : B ≤ X.heap.size) : Ow enc k e B W v xs := o.base h
theorem keepS7 {V W : World} {g : Nat} {T : TypeId} {a0 a1 : Value} (hg : Hid (V.heap[g]? = some (.cells #[a0, a1] T (0, 0)) ∧ g < V.heap.size)) (hb : Below V.heap.size V W) : Below V.heap.size V W ∧ W.cell? ⟨g, 0, none⟩ = some a0 ∧ W.cell? ⟨g, 1, none⟩ = some a1 := by
  obtain ⟨p0, p1, -⟩ := blk_cells2 ((hb.block _ (unhide hg).2).trans (unhide hg).1)
  exact ⟨hb, p0, p1⟩
theorem grownS (W : World) (g : Nat) (v0 v1 : Value) : W.grownBy ((W.setCell ⟨g, 0, none⟩ v0).setCell ⟨g, 1, none⟩ v1) (some g) := grown_trans2 (grown_set1 W g 0 v0) (grown_set1 _ g 1 v1)
theorem Fin.setT {P W : World} {g : Nat} {v1 v2 : Value} {xs : List Itm} {fs : List Flr} (b : Below P.heap.size P W) (M : Hid (Bx P W g)) (o1 : Hid (OwI P.heap.size W v1 xs)) (o2 : Hid (OwF P.heap.size W v2 fs)) :
    Fin P ((W.setCell ⟨g, 0, none⟩ v1).setCell ⟨g, 1, none⟩ v2) g v1 v2 xs fs := by
  obtain ⟨hb, hl, hg⟩ := unhide M
  have hq : ∀ q, some g = some q → ∃ cs fz, W.heap[q]? = some (.cells cs 32 fz) := fun q e => by cases e; exact ⟨_, _, hb⟩
  exact ⟨(b.setCell (p := ⟨g, 0, none⟩) hg _).setCell (p := ⟨g, 1, none⟩) hg _, hg, by simpa using hl, blk_set2 hb _ _, (unhide o1).otherT hq (by decide) (grownS W g v1 v2), (unhide o2).otherT hq (by decide) (grownS W g v1 v2)⟩
theorem Fin.newT {P W : World} {v1 v2 : Value} {xs : List Itm} {fs : List Flr} (b : Below P.heap.size P W) (o1 : Hid (OwI P.heap.size W v1 xs)) (o2 : Hid (OwF P.heap.size W v2 fs)) :
    Fin P (W.alloc (.cells #[v1, v2] 32)) W.heap.size v1 v2 xs fs :=
  ⟨b.alloc b.size _, b.size, by simp, heap_alloc_new _ _, (unhide o1).later ((Below.refl _ _).alloc (Nat.le_refl _) _), (unhide o2).later ((Below.refl _ _).alloc (Nat.le_refl _) _)⟩

theorem Fin.of {P W : World} {g gi gf n m : Nat} {xs : List Itm} {fs : List Flr} {A B : Obj} (b : Below P.heap.size P W) (kg : W.heap[g]? = some (.cells #[.slice (some ⟨gi, 0, none⟩) n n, .slice (some ⟨gf, 0, none⟩) m m] 32 (0, 0))) (hg : P.heap.size ≤ g)
    (k1 : W.heap[gi]? = some A) (h1 : P.heap.size ≤ gi) (k2 : W.heap[gf]? = some B) (h2 : P.heap.size ≤ gf) (o1 : Hid (∀ (W : World) (g B : Nat), W.heap[g]? = some A → B ≤ g → OwI B W (.slice (some ⟨g, 0, none⟩) n n) xs)) (o2 : Hid (∀ (W : World) (g C : Nat), W.heap[g]? = some B → C ≤ g → OwF C W (.slice (some ⟨g, 0, none⟩) m m) fs)) :
    Fin P W g (.slice (some ⟨gi, 0, none⟩) n n) (.slice (some ⟨gf, 0, none⟩) m m) xs fs := ⟨b, hg, (Array.getElem?_eq_some_iff.1 kg).1, kg, unhide o1 W gi _ k1 h1, unhide o2 W gf _ k2 h2⟩

theorem lowB3d (w : World) (A B C : Obj) : (((w.alloc A).alloc B).alloc C).drew.heap[w.heap.size]? = some A := lowB3 w A B C
theorem midB3d (w : World) (A B C : Obj) : (((w.alloc A).alloc B).alloc C).drew.heap[w.heap.size + 1]? = some B := midB3 w A B C
theorem newB3d (w : World) (A B C : Obj) : (((w.alloc A).alloc B).alloc C).drew.heap[w.heap.size + 1 + 1]? = some C := newB3 w A B C
theorem b3d (V : World) (A B C : Obj) : Below V.heap.size V (((V.alloc A).alloc B).alloc C).drew := ((((Below.refl V.heap.size V).alloc (Nat.le_refl _) A).alloc (by simp) B).alloc (by simp; omega) C).drew
/-- While an item is copied: the argument's variable, the new state's, the item's. -/
structure Cs5 (w W : World) (g gx : Nat) (v1 v2 u1 u2 : Value) (x : Itm) : Prop where
  bel : Below w.heap.size w W
  ks : W.heap[w.heap.size]? = some (.cells #[v1, v2] 32 (0, 0))
  kg : W.heap[g]? = some (.cells #[u1, u2] 32 (0, 0))
  kx : W.heap[gx]? = some (.cells #[.int .i64 x.1, .int .i64 x.2.1, .int .i64 x.2.2.1, .int .i64 x.2.2.2.1, .int .i64 x.2.2.2.2.1, .string x.2.2.2.2.2] 76 (0, 0))
theorem Cs5.later {w W Y : World} {g gx : Nat} {v1 v2 u1 u2 : Value} {x : Itm} (h : Cs5 w W g gx v1 v2 u1 u2 x) (b : Below W.heap.size W Y) : Cs5 w Y g gx v1 v2 u1 u2 x :=
  ⟨h.bel.trans (b.mono h.bel.size), (b.block _ (Array.getElem?_eq_some_iff.1 h.ks).1).trans h.ks, (b.block _ (Array.getElem?_eq_some_iff.1 h.kg).1).trans h.kg, (b.block _ (Array.getElem?_eq_some_iff.1 h.kx).1).trans h.kx⟩
theorem Cs5.drewH {w W : World} {g gx : Nat} {v1 v2 u1 u2 : Value} {x : Itm} (h : Hid (Cs5 w W g gx v1 v2 u1 u2 x)) : Hid (Cs5 w W.drew g gx v1 v2 u1 u2 x) := hide ((unhide h).later ((Below.refl _ _).drew))
theorem kCs5 {w W : World} {g gx : Nat} {v1 v2 u1 u2 : Value} {x : Itm} (h : Hid (Cs5 w W g gx v1 v2 u1 u2 x)) : Below w.heap.size w W ∧ W.cell? ⟨g, 0, none⟩ = some u1 ∧ W.cell? ⟨g, 1, none⟩ = some u2 ∧ W.cell? ⟨gx, 0, none⟩ = some (.int .i64 x.1) ∧ W.cell? ⟨gx, 1, none⟩ = some (.int .i64 x.2.1) ∧ W.cell? ⟨gx, 2, none⟩ = some (.int .i64 x.2.2.1) ∧ W.cell? ⟨gx, 3, none⟩ = some (.int .i64 x.2.2.2.1) ∧ W.cell? ⟨gx, 4, none⟩ = some (.int .i64 x.2.2.2.2.1) ∧ W.cell? ⟨gx, 5, none⟩ = some (.string x.2.2.2.2.2) := by
  obtain ⟨p0, p1, -⟩ := blk_cells2 (unhide h).kg
  obtain ⟨h0, h1, h2, h3, h4, h5, -⟩ := blk_cells6 (unhide h).kx
  exact ⟨(unhide h).bel, p0, p1, h0, h1, h2, h3, h4, h5⟩
theorem ow_blkI {base : Nat} {w : World} {g n cap : Nat} {xs : List Itm} (h : OwI base w (.slice (some ⟨g, 0, none⟩) n cap) xs) : ∃ cs fz, w.heap[g]? = some (.cells cs 76 fz) := by
  rcases h.2 with ⟨hv, _⟩ | ⟨g', cap', cur, hv, _, hh, _⟩
  · simp at hv
  · simp only [Value.slice.injEq, Option.some.injEq, Addr.mk.injEq, and_true] at hv
    obtain ⟨rfl, -, -⟩ := hv
    exact ⟨_, _, hh⟩
theorem set6_far {W : World} {g h o : Nat} {v0 v1 v2 v3 v4 v5 : Value} {x : Obj} (k : W.heap[g]? = some x) (ne : g ≠ h) : ((((((W.setCell ⟨h, o, none⟩ v0).setCell ⟨h, o + 1, none⟩ v1).setCell ⟨h, o + 2, none⟩ v2).setCell ⟨h, o + 3, none⟩ v3).setCell ⟨h, o + 4, none⟩ v4).setCell ⟨h, o + 5, none⟩ v5).heap[g]? = some x :=
  blk_at (blk_at (blk_at (blk_at (blk_at (blk_at k ne) ne) ne) ne) ne) ne
theorem Cs5.set {w W : World} {g gx h o : Nat} {v1 v2 u1 u2 : Value} {x : Itm} {c0 c1 c2 c3 c4 c5 : Value} (q : Cs5 w W g gx v1 v2 u1 u2 x) (h0 : w.heap.size ≤ h) (n0 : w.heap.size ≠ h) (n1 : g ≠ h) (n2 : gx ≠ h) :
    Cs5 w ((((((W.setCell ⟨h, o, none⟩ c0).setCell ⟨h, o + 1, none⟩ c1).setCell ⟨h, o + 2, none⟩ c2).setCell ⟨h, o + 3, none⟩ c3).setCell ⟨h, o + 4, none⟩ c4).setCell ⟨h, o + 5, none⟩ c5) g gx v1 v2 u1 u2 x :=
  ⟨(((((q.bel.setCell (p := ⟨h, o, none⟩) h0 _).setCell (p := ⟨h, o + 1, none⟩) h0 _).setCell (p := ⟨h, o + 2, none⟩) h0 _).setCell (p := ⟨h, o + 3, none⟩) h0 _).setCell (p := ⟨h, o + 4, none⟩) h0 _).setCell (p := ⟨h, o + 5, none⟩) h0 _, set6_far q.ks n0, set6_far q.kg n1, set6_far q.kx n2⟩
end Go.Proofs.Ytijdmfakaompgaa

namespace Go.Proofs.Ytijdmfakaompgaa
open Go.RowKit

theorem oneFs (fs : List Flr) : ∀ u ∈ fs.flatMap encF, u.oneCell' = true := by
  intro u hu
  obtain ⟨x, -, hx⟩ := List.mem_flatMap.1 hu
  exact oneF x u hx
set_option maxHeartbeats 8000000 in
set_option maxRecDepth 100000 in
theorem istatecopy_any (ai : Option Addr) (ni ci : Nat) (xs : List Itm) (hS : Sml xs) (af : Option Addr) (nf cf : Nat) (fs : List Flr) (w : World) (hni : ni ≤ 2000000) (hnf : nf ≤ 2000000) (hx : Rw encI 6 w (.slice ai ni ci) xs) (hf : Rw encF 2 w (.slice af nf cf) fs) :
    Calls Try.prog 90 #[.agg #[.slice ai ni ci, .slice af nf cf]] w fun e w' => ∃ a1 c1 a2 c2, e = .returned (.agg #[.slice a1 ni c1, .slice a2 nf c2]) ∧ OwI w.heap.size w' (.slice a1 ni c1) xs ∧ OwF w.heap.size w' (.slice a2 nf c2) fs ∧ Below w.heap.size w w' := by
  obtain ⟨i0, hi, hz0, hz1, hz2⟩ := info_parts Try.infoItem
  obtain ⟨i1, gi, gz0, gz1, gz2⟩ := info_parts Try.infoFloor
  have hb1 : i0.bytes * ni ≤ 281474976710656 := by rw [hz2]; omega
  have hb2 : i1.bytes * nf ≤ 281474976710656 := by rw [gz2]; omega
  have hm1 : ni ≤ maxLen := by unfold maxLen; omega
  have hm2 : nf ≤ maxLen := by unfold maxLen; omega
  obtain ⟨OI, mk1, po1⟩ := made_obj encI_len (by omega) 29 76 i0 (.agg #[.int .i64 0, .int .i64 0, .int .i64 0, .int .i64 0, .int .i64 0, .string ⟨#[]⟩]) zeroI rfl Try.underlying29 hi hz0 hz1 ni hb1 hm1
  obtain ⟨OF, mk2, po2⟩ := made_obj encF_len (by omega) 30 79 i1 (.agg #[.int .i64 0, .int .i64 0]) zeroF rfl Try.underlying30 gi gz0 gz1 nf hb2 hm2
  have PO1 := hide po1
  have PO2 := hide po2
  clear po1 po2
  have HX := hide hx
  have HF := hide hf
  have HS := hide hS
  have LX := hide hx.len.1
  have LF := hide hf.len.1
  have HZ := hide hz2
  have GZ := hide gz2
  clear hx hf hS hz2 gz2
  go_enter Try.func90, Try.ntmps90
  go_upto_region 1 with fail
  obtain ⟨V, hV⟩ : ∃ V, V = (w.alloc (.cells #[.slice ai ni ci, .slice af nf cf] 32)).alloc StZ := ⟨_, rfl⟩
  have bV : Below w.heap.size w V := by rw [hV]; exact ((Below.refl w.heap.size w).alloc (Nat.le_refl _) _).alloc (by simp) _
  have kS : V.heap[w.heap.size]? = some (.cells #[.slice ai ni ci, .slice af nf cf] 32 (0, 0)) := by rw [hV]; exact lowB2 w _ _
  have kR : V.heap[w.heap.size + 1]? = some StZ := by rw [hV]; exact newB2 w _ _
  rw [← hV]
  have zV : w.heap.size + 1 < V.heap.size := (Array.getElem?_eq_some_iff.1 kR).1
  have KS := hide (And.intro kS (show w.heap.size < V.heap.size by omega))
  have KR := hide kR
  have BV := hide bV
  clear hV kS kR bV
  obtain ⟨s0, s1, -⟩ := blk_cells2 (unhide KS).1
  have zs := (unhide KS).2
  go_cut [3] from 6 to 14 (fun p wx => ∃ (g : Nat) (a1 a2 : Option Addr), p = .pointer (some ⟨g, 0, none⟩) ∧ Fin V wx g (.slice a1 ni ni) (.slice a2 nf nf) (List.replicate ni zeroI) (List.replicate nf zeroF))
  case first =>
    go_region
    all_goals
      go_wp2_with fail
      go_meet
      first
        | with_reducible exact ⟨_, _, _, rfl, Fin.of (b3d V _ _ _) (lowB3d V _ _ _) (by omega) (midB3d V _ _ _) (by omega) (newB3d V _ _ _) (by omega) PO1 PO2⟩
        | with_reducible exact ⟨_, _, _, rfl, Fin.of (b3d V _ _ _) (lowB3d V _ _ _) (by omega) (newB3d V _ _ _) (by omega) (midB3d V _ _ _) (by omega) PO1 PO2⟩
        | with_reducible exact ⟨_, _, _, rfl, Fin.of (b3d V _ _ _) (midB3d V _ _ _) (by omega) (lowB3d V _ _ _) (by omega) (newB3d V _ _ _) (by omega) PO1 PO2⟩
        | with_reducible exact ⟨_, _, _, rfl, Fin.of (b3d V _ _ _) (midB3d V _ _ _) (by omega) (newB3d V _ _ _) (by omega) (lowB3d V _ _ _) (by omega) PO1 PO2⟩
        | with_reducible exact ⟨_, _, _, rfl, Fin.of (b3d V _ _ _) (newB3d V _ _ _) (by omega) (lowB3d V _ _ _) (by omega) (midB3d V _ _ _) (by omega) PO1 PO2⟩
        | with_reducible exact ⟨_, _, _, rfl, Fin.of (b3d V _ _ _) (newB3d V _ _ _) (by omega) (midB3d V _ _ _) (by omega) (lowB3d V _ _ _) (by omega) PO1 PO2⟩
  case rest =>
    obtain ⟨g, a1, a2, rfl, hfin⟩ := hcut
    have bc := (unhide BV).trans (hfin.bel.mono (unhide BV).size)
    have kS := (hfin.bel.block _ (unhide KS).2).trans (unhide KS).1
    have kR := (hfin.bel.block _ zV).trans (unhide KR)
    have gg := hfin.ge
    have gl := hfin.lt
    have KG := hide hfin.blk
    have O1 := hide (hfin.o1.base (base' := w.heap.size + 1 + 1) (by omega))
    have O2 := hide (hfin.o2.base (base' := w.heap.size + 1 + 1) (by omega))
    obtain ⟨t0, t1, -⟩ := blk_cells2 kS
    have KS2 := hide kS
    have KR2 := hide kR
    have BC := hide bc
    have zsc : w.heap.size < wc.heap.size := by omega
    clear hfin kS kR bc s0 s1 KS KR BV zs
    go_wp2
    clear t0 t1
    go_loopw [18] (fun i wr => ∃ k : Nat, k ≤ ni ∧ i = .int .i64 k ∧ Below w.heap.size w wr ∧ wr.heap[w.heap.size]? = some (.cells #[.slice ai ni ci, .slice af nf cf] 32 (0, 0)) ∧ wr.heap[w.heap.size + 1]? = some StZ ∧ wr.heap[g]? = some (.cells #[.slice a1 ni ni, .slice a2 nf nf] 32 (0, 0)) ∧ OwI (w.heap.size + 1 + 1) wr (.slice a1 ni ni) (xs.take k ++ List.replicate (xs.length - k) zeroI) ∧ OwF (w.heap.size + 1 + 1) wr (.slice a2 nf nf) (List.replicate nf zeroF)) (fun i _ => ni - (intOf i).toNat)
    case atStart => exact ⟨0, Nat.zero_le _, rfl, unhide BC, unhide KS2, unhide KR2, unhide KG, by rw [show xs.take 0 ++ List.replicate (xs.length - 0) zeroI = List.replicate ni zeroI by rw [← unhide LX]; simp]; exact unhide O1, unhide O2⟩
    case round =>
      obtain ⟨k, hk, rfl, hb, hks, hkr, hkg, ho1, ho2⟩ := hrel
      clear BC KS2 KR2 KG O1 O2
      have hzs : w.heap.size < wr.heap.size := (Array.getElem?_eq_some_iff.1 hks).1
      have hzr : w.heap.size + 1 < wr.heap.size := (Array.getElem?_eq_some_iff.1 hkr).1
      have hzg : g < wr.heap.size := (Array.getElem?_eq_some_iff.1 hkg).1
      by_cases hlt : k < ni
      · obtain ⟨x, b, off, hx, rfl, hbw, hcap, hc⟩ := (unhide HX).at hlt
        obtain ⟨c0, c1, c2, c3, c4, c5⟩ := item_cells (w := wr) (b := b) (off := off) (k := k) (x := x) (fun j hj => (hb.cell (p := ⟨b, off + k * 6 + j, none⟩) hbw).trans (hc j hj))
        have hsx := unhide HS k x hx
        have hbw2 : b < wr.heap.size := Nat.lt_of_lt_of_le hbw hb.size
        have HB := hide hb
        have HKS := hide hks
        have HKR := hide hkr
        have HKG := hide hkg
        have HO1 := hide ho1
        have HO2 := hide ho2
        have HX1 := hide hx
        clear hb hks hkr hkg ho1 ho2 hx hc
        go_upto_region 5 with fail
        clear c0 c1 c2 c3 c4 c5
        obtain ⟨Y, hY⟩ : ∃ Y, Y = wr.alloc (.cells #[.int .i64 x.1, .int .i64 x.2.1, .int .i64 x.2.2.1, .int .i64 x.2.2.2.1, .int .i64 x.2.2.2.2.1, .string x.2.2.2.2.2] 76) := ⟨_, rfl⟩
        have bY : Below wr.heap.size wr Y := by rw [hY]; exact (Below.refl wr.heap.size wr).alloc (Nat.le_refl _) _
        have kY : Y.heap[wr.heap.size]? = some (.cells #[.int .i64 x.1, .int .i64 x.2.1, .int .i64 x.2.2.1, .int .i64 x.2.2.2.1, .int .i64 x.2.2.2.2.1, .string x.2.2.2.2.2] 76 (0, 0)) := by rw [hY]; exact heap_alloc_new _ _
        rw [← hY]
        have zY : wr.heap.size < Y.heap.size := (Array.getElem?_eq_some_iff.1 kY).1
        have CV : Hid (Cs5 w Y g wr.heap.size (.slice (some ⟨b, off, none⟩) ni ci) (.slice af nf cf) (.slice a1 ni ni) (.slice a2 nf nf) x) := hide ⟨(unhide HB).trans (bY.mono (unhide HB).size), (bY.block _ hzs).trans (unhide HKS), (bY.block _ hzg).trans (unhide HKG), kY⟩
        have CD := Cs5.drewH CV
        have hHlt := (fun h (e : (Value.slice a1 ni ni).ownBlock = some h) => (World.ownsRow.lt (unhide HO1) h e).2)
        have HO1Y := hide ((unhide HO1).later bY)
        have HO2Y := hide ((unhide HO2).later bY)
        have HKRY := hide ((bY.block _ hzr).trans (unhide HKR))
        clear hY bY kY HB HKS HKG HO1 HO2 HKR
        obtain ⟨h, ha1, hhl⟩ : ∃ h, a1 = some ⟨h, 0, none⟩ ∧ w.heap.size + 1 + 1 ≤ h := by
          rcases (unhide HO1Y).2 with ⟨hv, h00⟩ | ⟨h, cap', cur, hv, hlo, -⟩
          · have := unhide LX; rw [fill_len _ _ _ (by omega)] at h00; omega
          · simp only [Value.slice.injEq] at hv
            exact ⟨h, hv.1, hlo⟩
        subst ha1
        have hfl : (xs.take k ++ List.replicate (xs.length - k) zeroI).length = ni := by rw [fill_len _ _ _ (by have := unhide LX; omega)]; exact (unhide LX).symm
        have HFL := hide hfl
        have ngh := own_ne (show Y.ownsRow (w.heap.size + 1 + 1) 76 6 (.slice (some ⟨h, 0, none⟩) ni ni) _ _ from unhide HO1Y) (unhide CV).kg (by decide)
        have nxh : wr.heap.size ≠ h := by
          have := hHlt h rfl
          omega
        have n1 : g ≠ h := fun e => ngh (by rw [e]; rfl)
        have HO1D := hide ((unhide HO1Y).later ((Below.refl _ _).drew))
        clear hfl ngh
        go_region_held3 (fun W => Below w.heap.size w W ∧ W.cell? ⟨g, 0, none⟩ = some (.slice (some ⟨h, 0, none⟩) ni ni) ∧ W.cell? ⟨g, 1, none⟩ = some (.slice a2 nf nf) ∧ W.cell? ⟨wr.heap.size, 0, none⟩ = some (.int .i64 x.1) ∧ W.cell? ⟨wr.heap.size, 1, none⟩ = some (.int .i64 x.2.1) ∧ W.cell? ⟨wr.heap.size, 2, none⟩ = some (.int .i64 x.2.2.1) ∧ W.cell? ⟨wr.heap.size, 3, none⟩ = some (.int .i64 x.2.2.2.1) ∧ W.cell? ⟨wr.heap.size, 4, none⟩ = some (.int .i64 x.2.2.2.2.1) ∧ W.cell? ⟨wr.heap.size, 5, none⟩ = some (.string x.2.2.2.2.2))
          (first | (with_reducible exact kCs5 CV) | (with_reducible exact kCs5 CD) | (with_reducible exact kCs5 CA) | (with_reducible exact kCs5 (hide ((unhide CA).set (by omega) (by omega) n1 nxh))))
          (first | (go_at_call 112; refine (icopyI_any x (by omega) _).mono ?_; rintro e w6 ⟨rfl, b6⟩; (first | (with_reducible have CA := hide ((unhide CD).later b6); have OA := hide ((unhide HO1D).later b6)) | (with_reducible have CA := hide ((unhide CV).later b6); have OA := hide ((unhide HO1Y).later b6))); have zA : Y.heap.size ≤ w6.heap.size := b6.size; have b6Y : Below Y.heap.size Y w6 := (by first | exact up0 b6 | exact b6); have B6 := hide b6Y; obtain ⟨y0, y1, y2, y3, y4, y5, q0, q1, q2, q3, q4, q5, qf⟩ := own_cells6 (show w6.ownsRow (w.heap.size + 1 + 1) 76 6 (.slice (some ⟨h, 0, none⟩) ni ni) ni _ from by have hh := unhide OA; unfold OwI Ow at hh; rw [unhide HFL] at hh; exact hh) hlt; clear b6 b6Y))
        have R1 := (unhide OA).put (by omega) encI_len (unhide HFL).symm k hlt x
        rw [fill_set xs zeroI k x (unhide HX1)] at R1
        have HR1 := hide R1
        have CE := hide ((unhide CA).set (o := k * 6) (h := h) (c0 := .int .i64 x.1) (c1 := .int .i64 x.2.1) (c2 := .int .i64 x.2.2.1) (c3 := .int .i64 x.2.2.2.1) (c4 := .int .i64 x.2.2.2.2.1) (c5 := .string x.2.2.2.2.2) (by omega) (by omega) n1 nxh)
        have HKR6 := hide (set6_far (h := h) (o := k * 6) (v0 := .int .i64 x.1) (v1 := .int .i64 x.2.1) (v2 := .int .i64 x.2.2.1) (v3 := .int .i64 x.2.2.2.1) (v4 := .int .i64 x.2.2.2.2.1) (v5 := .string x.2.2.2.2.2) (((unhide B6).block _ (by omega)).trans (unhide HKRY)) (show w.heap.size + 1 ≠ h by omega))
        have HO26 := hide (((unhide HO2Y).later (unhide B6)).otherT (T := 76) (b := some h) (fun q e => by cases e; exact ow_blkI (unhide OA)) (by decide) (setW_own (encI x) (show w6.ownsRow (w.heap.size + 1 + 1) 76 6 (.slice (some ⟨h, 0, none⟩) ni ni) ni _ from by have hh := unhide OA; unfold OwI Ow at hh; rw [unhide HFL] at hh; exact hh) (k * 6)).2)
        clear R1 HO1D HO1Y HO2Y CV CD CA OA HKRY B6 HFL q0 q1 q2 q3 q4 q5 qf
        go_wp2
        go_roundw
        case rel => exact ⟨k + 1, by omega, by go_num, (unhide CE).bel, (unhide CE).ks, unhide HKR6, (unhide CE).kg, unhide HR1, unhide HO26⟩
        case measure => simp [intOf]; omega
      · have hkn : k = ni := by omega
        obtain ⟨t0, t1, tf⟩ := blk_cells2 hks
        obtain ⟨g0, g1, gf⟩ := blk_cells2 hkg
        have HB := hide hb
        have HKR := hide hkr
        have HKG := hide hkg
        have HO1 : Hid (OwI (w.heap.size + 1 + 1) wr (.slice a1 ni ni) xs) := by
          have h := ho1
          rw [List.take_of_length_le (by have := unhide LX; omega), show xs.length - k = 0 by have := unhide LX; omega] at h
          simpa using hide h
        have HO2 := hide ho2
        have RF := hide ((unhide HF).later hb)
        have hlz : (List.replicate nf zeroF).length = fs.length := by rw [List.length_replicate]; exact unhide LF
        clear hb hks hkr hkg ho1 ho2 tf gf
        obtain ⟨w9, hrun, o9, gr9⟩ := copy_own (P := Try.prog) encF_len (by omega) 79 30 i1 Try.underlying30 gi gz1 wr (w.heap.size + 1 + 1) (.slice a2 nf nf) (.slice af nf cf) (List.replicate nf zeroF) fs nf (unhide LF) (oneFs fs) (unhide HO2) (unhide RF) hlz 3
        have O9 := hide o9
        have G9 := hide gr9
        clear o9 gr9
        have nR := own_ne (show wr.ownsRow (w.heap.size + 1 + 1) 79 2 (.slice a2 nf nf) _ _ from unhide HO2) (unhide HKR) (by decide)
        have nG := own_ne (show wr.ownsRow (w.heap.size + 1 + 1) 79 2 (.slice a2 nf nf) _ _ from unhide HO2) (unhide HKG) (by decide)
        have kr9 := ((unhide G9).block _ hzr (fun e => nR e.symm)).trans (unhide HKR)
        have kg9 := ((unhide G9).block _ hzg (fun e => nG e.symm)).trans (unhide HKG)
        obtain ⟨p0, p1, pf⟩ := blk_cells2 kr9
        obtain ⟨j0, j1, jf⟩ := blk_cells2 kg9
        have zr9 : w.heap.size + 1 < w9.heap.size := (Array.getElem?_eq_some_iff.1 kr9).1
        have zg9 : g < w9.heap.size := (Array.getElem?_eq_some_iff.1 kg9).1
        have HB9 := hide ((Trn.of_grown (unhide G9)).below (unhide HB) (unhide HB).size (fun i q => by have := (World.ownsRow.lt (unhide HO2) _ q).1; omega))
        have hap := owns_apart (unhide HO2) (unhide HO1) (by decide)
        have HO19 := hide ((Trn.of_grown (unhide G9)).own (unhide HO1) (fun i hi e => by rcases hap with h | h; rw [h] at e; cases e; exact h (e.trans hi.symm)))
        clear kr9 kg9 nR nG hap G9 HO1 HO2 HB HKR HKG RF
        go_wp2
        exact bodyPost_ret (v := .agg #[.slice a1 ni ni, .slice a2 nf nf]) (by simp [results, Try.results90, go_sem, p0, p1]) rfl ⟨a1, ni, a2, nf, rfl, Ow.base (((unhide HO19).set ⟨w.heap.size + 1, 0, none⟩ (by simp) _).set ⟨w.heap.size + 1, 1, none⟩ (by simp) _) (by omega), Ow.base (((unhide O9).set ⟨w.heap.size + 1, 0, none⟩ (by simp) _).set ⟨w.heap.size + 1, 1, none⟩ (by simp) _) (by omega), ((unhide HB9).setCell (p := ⟨w.heap.size + 1, 0, none⟩) (by simp) _).setCell (p := ⟨w.heap.size + 1, 1, none⟩) (by simp) _⟩
end Go.Proofs.Ytijdmfakaompgaa

namespace Go.Proofs.Ytijdmfakaompgaa
open Go.RowKit

theorem oneSs {w : World} {ps : List Two} {ss : List Sta} (h : Ins w ps ss) : ∀ u ∈ ps.flatMap encS, u.oneCell' = true := by
  intro u hu
  obtain ⟨p, hp, hx⟩ := List.mem_flatMap.1 hu
  obtain ⟨i, hi, hpi⟩ := List.mem_iff_getElem.1 hp
  have hl : i < ss.length := h.len ▸ hi
  obtain ⟨r1, r2⟩ := h.ins i p ss[i] (by simp [hi, hpi]) (by simp)
  obtain ⟨a, n, c, e1, -⟩ := r1.form
  obtain ⟨b, m, d, e2, -⟩ := r2.form
  exact oneS p (by rw [e1]; rfl) (by rw [e2]; rfl) u hx
theorem mix_put {α : Type} (qs ps : List α) (k : Nat) (q : α) (hq : qs.length = k) (hk : k < ps.length) : (qs ++ ps.drop k).set k q = (qs ++ [q]) ++ ps.drop (k + 1) := by
  subst hq
  rw [List.set_append_right _ _ (Nat.le_refl _), Nat.sub_self, List.drop_eq_getElem_cons hk, List.set_cons_zero, List.append_assoc]; rfl

set_option maxHeartbeats 8000000 in
set_option maxRecDepth 100000 in
theorem ichangescopy_any (a : Option Addr) (n cap : Nat) (ss : List Sta) (hS : SmlS ss) (w : World) (hn : n ≤ 2000000) (ht : ∀ (i : Nat) (s : Sta), ss[i]? = some s → s.1.length ≤ 1048576 ∧ s.2.length ≤ 1048576) (hx : RwS w (.slice a n cap) ss) :
    Calls Try.prog 52 #[.slice a n cap] w fun e w' => ∃ a' c', e = .returned (.slice a' n c') ∧ OwS w.heap.size w'.heap.size w' (.slice a' n c') ss ∧ Below w.heap.size w w' := by
  obtain ⟨i0, hi, hz0, hz1, hz2⟩ := info_parts Try.infoState
  have hb2 : i0.bytes * n ≤ 281474976710656 := by rw [hz2]; omega
  have hml : n ≤ maxLen := by unfold maxLen; omega
  have HL := hide hx.len.1
  obtain ⟨ps, hr, hins⟩ := hx
  have HR := hide hr
  have HI := hide hins
  have LP := hide hr.len.1
  have HS := hide hS
  have HT := hide ht
  have HZ2 := hide hz2
  clear hz2 hr hins hS ht
  go_enter Try.func52, Try.ntmps52
  go_wp2_with (first | (at_make; refine wpList_make_full _ rfl _ _ 24 rfl w.heap.size 32 i0 (.agg #[.slice none 0 0, .slice none 0 0]) 2 Try.underlying24 hi hz0 hz1 .i64 .i64 _ _ n rfl rfl rfl rfl hb2 hml (Nat.le_refl _) ?_))
  intro w1 hown hgrow
  have hbel : Below w.heap.size w w1 := (Below.refl _ _).grown hgrow (Nat.le_refl _) (fun k hk => by cases hk)
  have hown0 : OwV w.heap.size w1 (.slice (some ⟨w.heap.size, 0, none⟩) n n) (List.replicate n zeroS) := by
    rw [made_flat (enc := encS) (by omega) encS_len #[.slice none 0 0, .slice none 0 0] zeroS rfl n] at hown
    unfold OwV Ow
    simpa using hown
  obtain ⟨w2, hrun, o2, g2⟩ := copy_own (P := Try.prog) encS_len (by omega) 32 24 i0 Try.underlying24 hi hz1 w1 w.heap.size (.slice (some ⟨w.heap.size, 0, none⟩) n n) (.slice a n cap) (List.replicate n zeroS) ps n (unhide LP) (oneSs (unhide HI)) hown0 ((unhide HR).later hbel) (by rw [List.length_replicate]; exact unhide LP) 3
  have hb2 : Below w.heap.size w w2 := (Trn.of_grown g2).below hbel hbel.size (fun i q => by have := (World.ownsRow.lt hown0 _ q).1; omega)
  have O2 := hide o2
  have B2 := hide hb2
  clear hown hgrow hown0 hbel g2 o2 hb2
  go_wp2
  go_loopw [13] (fun i wr => ∃ (k : Nat) (qs : List Two), k ≤ n ∧ i = .int .i64 k ∧ qs.length = k ∧ OwV w.heap.size wr (.slice (some ⟨w.heap.size, 0, none⟩) n n) (qs ++ ps.drop k) ∧ Pa w.heap.size wr.heap.size wr qs (ss.take k) ∧ Below w.heap.size w wr) (fun i _ => n - (intOf i).toNat)
  case atStart => exact ⟨0, [], Nat.zero_le _, rfl, rfl, unhide O2, Pa.nil _ _ _, unhide B2⟩
  case round =>
    obtain ⟨k, qs, hk, rfl, hql, hown, hpa, hb⟩ := hrel
    clear O2 B2 hrun
    by_cases hlt : k < n
    · have hkp : k < ps.length := by have := unhide LP; omega
      obtain ⟨p, hp⟩ : ∃ p, ps[k]? = some p := ⟨_, List.getElem?_eq_getElem hkp⟩
      obtain ⟨⟨xs, fs⟩, hs⟩ : ∃ s, ss[k]? = some s := ⟨_, List.getElem?_eq_getElem (by have := (unhide HI).len; omega)⟩
      obtain ⟨r1, r2⟩ := (unhide HI).ins k p _ hp hs
      obtain ⟨ai, ni, ci, e1, l1⟩ := r1.form
      obtain ⟨af, nf, cf, e2, l2⟩ := r2.form
      obtain ⟨v1, v2⟩ := p
      simp only at e1 e2 r1 r2 l1 l2
      subst e1 e2
      obtain ⟨m1, m2⟩ := unhide HT k _ hs
      simp only at m1 m2
      have hn1 : ni ≤ 2000000 := by omega
      have hn2 : nf ≤ 2000000 := by omega
      have hgk : (qs ++ ps.drop k)[k]? = some (.slice ai ni ci, .slice af nf cf) := by
        rw [List.getElem?_append_right (by omega), hql, Nat.sub_self, List.getElem?_drop, Nat.add_zero]; exact hp
      obtain ⟨p', g', hp', ha', -, hgl', d0, d1⟩ := at2 hown hlt
      simp only [Option.some.injEq, Addr.mk.injEq, and_true] at ha'
      obtain rfl := ha'
      rw [hgk] at hp'
      cases hp'
      simp only at d0 d1
      have HSx := hide (unhide HS k _ hs)
      have RX := hide (r1.later hb)
      have RF := hide (r2.later hb)
      have HO := hide hown
      have HP := hide hpa
      have HB := hide hb
      have hsz := hb.size
      have HX1 := hide hs
      have HQL := hide hql
      clear hown hpa hb hs hp r1 r2 hgk hql l1 l2 m1 m2
      go_wp2_with fail
      refine (istatecopy_any ai ni ci xs (unhide HSx) af nf cf fs _ hn1 hn2 (unhide RX) (unhide RF)).mono ?_
      rintro e w2 ⟨a1, c1, a2, c2, rfl, o1, o2, b2⟩
      have hown2 := (unhide HO).later b2
      have hpa2 := (unhide HP).later b2
      have hb3 := (unhide HB).trans (b2.mono hsz)
      have hz2 := b2.size
      have hfl : (qs ++ ps.drop k).length = n := by have := unhide HQL; have := unhide LP; simp; omega
      obtain ⟨y0, y1, z0, z1, zf⟩ := own_cells2 (show w2.ownsRow w.heap.size 32 2 (.slice (some ⟨w.heap.size, 0, none⟩) n n) n _ from by have h := hown2; unfold OwV Ow at h; rw [hfl] at h; exact h) hlt
      have R1 := hown2.put (by omega) encS_len hfl.symm k hlt (.slice a1 ni c1, .slice a2 nf c2)
      have hG := (setW_own (encS (.slice a1 ni c1, .slice a2 nf c2)) (show w2.ownsRow w.heap.size 32 2 (.slice (some ⟨w.heap.size, 0, none⟩) n n) n _ from by have h := hown2; unfold OwV Ow at h; rw [hfl] at h; exact h) (k * 2)).2
      have hP3 := (hpa2.snoc (p := (.slice a1 ni c1, .slice a2 nf c2)) (s := (xs, fs)) (hi' := w2.heap.size) o1 o2 (Nat.le_refl _) hsz (Nat.le_refl _) hz2).other (fun g hg => OwV.blk hown2 g (by simpa [Value.ownBlock] using hg)) hG
      rw [← take_at (unhide HX1)] at hP3
      rw [mix_put qs ps k _ (unhide HQL) hkp] at R1
      have HR1 := hide R1
      have HR2 := hide (setW_below (g := w.heap.size) (Nat.le_refl _) (encS (.slice a1 ni c1, .slice a2 nf c2)) hb3 (k * 2))
      have HP3 := hide hP3
      have HSZ := hide (setW_size (encS (.slice a1 ni c1, .slice a2 nf c2)) w2 w.heap.size (k * 2))
      clear hown2 hb3 b2 R1 HO HB HX1 hfl hpa2 hG hP3 o1 o2 HP d0 d1 RX RF HSx
      go_wp2
      go_roundw
      case rel =>
        refine ⟨k + 1, qs ++ [((Value.slice a1 ni c1, Value.slice a2 nf c2) : Two)], by omega, by go_num, by simp [unhide HQL], ?_, ?_, unhide HR2⟩
        · exact unhide HR1
        · have h := unhide HP3
          rw [← unhide HSZ] at h
          exact h
      case measure => simp [intOf]; omega
    · have hkn : k = n := by omega
      have HO : Hid (OwS w.heap.size wr.heap.size wr (.slice (some ⟨w.heap.size, 0, none⟩) n n) ss) := by
        refine hide ⟨⟨qs, ?_, ?_⟩, fun g hg => (World.ownsRow.lt hown g (by simpa [Value.ownBlock] using hg)).2⟩
        · have h := hown
          rw [List.drop_of_length_le (by have := unhide LP; omega), List.append_nil] at h
          exact h
        · have h := hpa
          rw [List.take_of_length_le (by have := unhide HL; omega)] at h
          exact h
      have HB := hide hb
      clear hown hb hpa
      go_wp2
      go_ret
      exact ⟨_, _, rfl, unhide HO, unhide HB⟩
end Go.Proofs.Ytijdmfakaompgaa

namespace Go.Proofs.Ytijdmfakaompgaa
open Go.RowKit

theorem RwS.drop {w : World} {a : Option Addr} {n cap k m : Nat} {ss : List Sta} (h : RwS w (.slice a n cap) ss) (hk : n = k + m) (h0 : ¬ m = 0) : RwS w (.slice (a.map fun x => x.add (k * 2)) m m) (ss.drop k) := by
  obtain ⟨ps, h1, h2⟩ := h
  have hl := h1.len.1
  obtain ⟨a', cap', e, hc, hr⟩ := h1
  simp only [Value.slice.injEq] at e
  obtain ⟨rfl, -, rfl⟩ := e
  rcases hr with rfl | ⟨b, off, rfl, hb, hcell⟩
  · simp at hl; omega
  · have hlm : (ps.drop k).length = m := by simp; omega
    refine ⟨ps.drop k, ⟨some ⟨b, off + k * 2, none⟩, m, ?_, by omega, .inr ⟨b, off + k * 2, rfl, hb, fun i x hx j hj => ?_⟩⟩, by simp [h2.len], fun i p s hp hs => ?_⟩
    · rw [hlm]; simp [add_off]
    · rw [List.getElem?_drop] at hx
      rw [show off + k * 2 + i * 2 + j = off + (k + i) * 2 + j by omega]
      exact hcell (k + i) x hx j hj
    · rw [List.getElem?_drop] at hp hs
      exact h2.ins (k + i) p s hp hs
theorem RwS.none {w : World} {a : Option Addr} {c : Nat} : RwS w (.slice a 0 c) [] := ⟨[], ⟨a, c, rfl, Nat.zero_le _, .inl rfl⟩, rfl, fun i p s hp => by simp at hp⟩

set_option maxHeartbeats 8000000 in
set_option maxRecDepth 100000 in
theorem iabove_any (c f : Int) (a : Option Addr) (n cap : Nat) (ss : List Sta) (seq : Int) (k m : Nat) (hk : n = k + m) (hs : seq - f = (k : Int)) (w0 w : World) (hn : n ≤ 140737488351232) (hx : RwS w0 (.slice a n cap) ss) :
    Calls Try.prog 35 #[LgV c f (.slice a n cap), .int .i64 seq] w fun e w' => ∃ a', e = .returned (.slice a' m m) ∧ RwS w0 (.slice a' m m) (ss.drop k) ∧ Below w.heap.size w w' := by
  have HX := hide hx
  have hcap := hx.len.2
  have HL := hide hx.len.1
  have HB := hide ((Below.refl w.heap.size w).alloc (Nat.le_refl _) (LgO c f (.slice a n cap)))
  clear hx
  go_enter Try.func35, Try.ntmps35
  go_wp2
  · go_ret
    obtain rfl : m = 0 := by omega
    refine ⟨_, rfl, ?_, by have h := unhide HB; rw [hk] at h; exact h⟩
    rw [List.drop_of_length_le (by have := unhide HL; omega)]
    exact RwS.none
  · go_ret
    exact ⟨_, rfl, (unhide HX).drop hk (by omega), by have h := unhide HB; rw [hk] at h; exact h⟩

def kps (c f : Int) (ss : List Sta) (seq : Int) : Bool := lok c f ss && inB seq f (f + (ss.length : Int))
set_option maxHeartbeats 8000000 in
set_option maxRecDepth 100000 in
theorem ikeeps_any (c f : Int) (a : Option Addr) (n cap : Nat) (ss : List Sta) (seq : Int) (r : Bool) (h0 : Hid (kps c f ss seq = r)) (w : World) (hn : n ≤ 140737488351232) (ht : tot ss ≤ 140737488351232) (hx : RwS w (.slice a n cap) ss) :
    Calls Try.prog 34 #[LgV c f (.slice a n cap), .int .i64 seq] w fun e w' => e = .returned (.bool r) ∧ Below w.heap.size w w' := by
  have HX := hide hx
  have HL := hide hx.len.1
  obtain ⟨ok, hok⟩ : ∃ ok, lok c f ss = ok := ⟨_, rfl⟩
  have hE := unhide h0
  rw [kps, hok] at hE
  have HOK := hide hok
  obtain ⟨sv, hsv⟩ : ∃ sv, lsq c f ss = sv := ⟨_, rfl⟩
  have HSV := hide hsv
  have HB := hide ((Below.refl w.heap.size w).alloc (Nat.le_refl _) (LgO c f (.slice a n cap)))
  clear hx h0 hok hsv
  go_enter Try.func34, Try.ntmps34
  go_upto_region 1 with fail
  obtain ⟨V, hV⟩ : ∃ V, V = w.alloc (LgO c f (.slice a n cap)) := ⟨_, rfl⟩
  have bV : Below w.heap.size w V := by rw [hV]; exact unhide HB
  have kV : V.heap[w.heap.size]? = some (LgO c f (.slice a n cap)) := by rw [hV]; exact heap_alloc_new w _
  rw [← hV]
  have zV : w.heap.size < V.heap.size := (Array.getElem?_eq_some_iff.1 kV).1
  obtain ⟨p0, p1, p2, -⟩ := blk_cells3 kV
  have l0 := later_some (w := V) zV p0
  have l1 := later_some (w := V) zV p1
  have l2 := later_some (w := V) zV p2
  have RX := hide ((unhide HX).later bV)
  have BV := hide bV
  clear hV bV kV p0 p1 p2 HX HB
  cases ok
  · obtain rfl : r = false := by rw [← hE]; rfl
    clear hE
    refine wp_region_later (by kernel_rfl) (by kernel_rfl) ?_
    repeat (go_big_quiet_step (first | (go_at_call 17; exact Calls.later_of (ilogok_any c f a n cap ss false HOK _ hn ht ((unhide RX).later (later_below _ _ _))))))
    refine wpQuiet_nil ?_
    intro w1 hb1
    have HB1 := hide ((unhide BV).trans (hb1.mono (by omega)))
    clear hb1 l0 l1 l2
    go_wp2
    go_ret
    exact ⟨rfl, unhide HB1⟩
  · have hq : sv = f + (n : Int) := by rw [← unhide HSV, lsq, if_pos (unhide HOK), unhide HL]
    have HQ : Hid (inB seq f sv = r) := hide (by rw [hq, unhide HL]; simpa using hE)
    clear hE hq
    refine wp_region_later (by kernel_rfl) (by kernel_rfl) ?_
    repeat (go_big_quiet_step (first
      | (go_at_call 17; exact Calls.later_of (ilogok_any c f a n cap ss true HOK _ hn ht ((unhide RX).later (later_below _ _ _))))
      | (go_at_call 16; exact Calls.later_of (ilogseq_any c f a n cap ss sv HSV _ hn ht ((unhide RX).later (later_below _ _ _))))
      | (go_at_call 47; exact Calls.later_same (within_is seq f sv r (unhide HQ) _))))
    refine wpQuiet_nil ?_
    intro w1 hb1
    have HB1 := hide ((unhide BV).trans (hb1.mono (by omega)))
    clear hb1 l0 l1 l2
    cases r
    all_goals go_wp2
    all_goals go_ret
    all_goals exact ⟨rfl, unhide HB1⟩
end Go.Proofs.Ytijdmfakaompgaa

namespace Go.Proofs.Ytijdmfakaompgaa
open Go.RowKit

/-- While a log is laid: the argument's variable, the result's. -/
structure Lv (w W : World) (c f : Int) (v : Value) : Prop where
  bel : Below w.heap.size w W
  k1 : W.heap[w.heap.size]? = some (LgO c f v)
  k2 : W.heap[w.heap.size + 1]? = some (LgO 0 0 (.slice none 0 0))
theorem Lv.lt {w W : World} {c f : Int} {v : Value} (h : Lv w W c f v) : w.heap.size + 1 < W.heap.size := (Array.getElem?_eq_some_iff.1 h.k2).1
theorem Lv.later {w W Y : World} {c f : Int} {v : Value} (h : Lv w W c f v) (b : Below W.heap.size W Y) : Lv w Y c f v := by
  have := h.lt
  exact ⟨h.bel.trans (b.mono h.bel.size), (b.block _ (by omega)).trans h.k1, (b.block _ h.lt).trans h.k2⟩
theorem Lv.drewH {w W : World} {c f : Int} {v : Value} (h : Hid (Lv w W c f v)) : Hid (Lv w W.drew c f v) := hide ((unhide h).later ((Below.refl _ _).drew))
theorem kLv {w W : World} {c f : Int} {v : Value} (h : Hid (Lv w W c f v)) : Below w.heap.size w W ∧ W.cell? ⟨w.heap.size, 0, none⟩ = some (.int .i64 c) ∧ W.cell? ⟨w.heap.size, 1, none⟩ = some (.int .i64 f) ∧ W.cell? ⟨w.heap.size, 2, none⟩ = some v := by
  obtain ⟨p0, p1, p2, -⟩ := blk_cells3 (unhide h).k1
  exact ⟨(unhide h).bel, p0, p1, p2⟩
theorem kLvs {w W : World} {c f : Int} {v : Value} (h : Hid (Lv w W c f v)) (u0 u1 u2 : Value) : Below w.heap.size w (((W.setCell ⟨w.heap.size + 1, 0, none⟩ u0).setCell ⟨w.heap.size + 1, 1, none⟩ u1).setCell ⟨w.heap.size + 1, 2, none⟩ u2) ∧ (((W.setCell ⟨w.heap.size + 1, 0, none⟩ u0).setCell ⟨w.heap.size + 1, 1, none⟩ u1).setCell ⟨w.heap.size + 1, 2, none⟩ u2).cell? ⟨w.heap.size, 0, none⟩ = some (.int .i64 c) ∧ (((W.setCell ⟨w.heap.size + 1, 0, none⟩ u0).setCell ⟨w.heap.size + 1, 1, none⟩ u1).setCell ⟨w.heap.size + 1, 2, none⟩ u2).cell? ⟨w.heap.size, 1, none⟩ = some (.int .i64 f) ∧ (((W.setCell ⟨w.heap.size + 1, 0, none⟩ u0).setCell ⟨w.heap.size + 1, 1, none⟩ u1).setCell ⟨w.heap.size + 1, 2, none⟩ u2).cell? ⟨w.heap.size, 2, none⟩ = some v := by
  obtain ⟨p0, p1, p2, -⟩ := blk_cells3 (blk_at (h := w.heap.size + 1) (o := 2) (u := u2) (blk_at (h := w.heap.size + 1) (o := 1) (u := u1) (blk_at (h := w.heap.size + 1) (o := 0) (u := u0) (unhide h).k1 (by omega)) (by omega)) (by omega))
  exact ⟨below_set3 (by omega) (unhide h).bel, p0, p1, p2⟩
theorem Lv.new (w : World) (c f : Int) (v : Value) : Lv w ((w.alloc (LgO c f v)).alloc (LgO 0 0 (.slice none 0 0))) c f v :=
  ⟨((Below.refl w.heap.size w).alloc (Nat.le_refl _) _).alloc (by simp) _, lowB2 w _ _, newB2 w _ _⟩
theorem SmlS.drop {ss : List Sta} (h : SmlS ss) (k : Nat) : SmlS (ss.drop k) := fun i s hs => by rw [List.getElem?_drop] at hs; exact h _ s hs
def SzS (ss : List Sta) : Prop := ∀ (i : Nat) (s : Sta), ss[i]? = some s → s.1.length ≤ 1048576 ∧ s.2.length ≤ 1048576
theorem SzS.drop {ss : List Sta} (h : SzS ss) (k : Nat) : SzS (ss.drop k) := fun i s hs => by rw [List.getElem?_drop] at hs; exact h _ s hs
theorem SzS.tot {ss : List Sta} (h : tot ss ≤ 1048576) : SzS ss := fun i s hs => by have := tot_at hs; omega

set_option maxHeartbeats 8000000 in
set_option maxRecDepth 100000 in
theorem ilogabove_any (c f : Int) (a : Option Addr) (n cap : Nat) (ss : List Sta) (seq : Int) (k m : Nat) (hk : n = k + m) (hs : seq - f = (k : Int)) (hS : SmlS ss) (hz : SzS ss) (w : World) (hn : n ≤ 2000000) (hx : RwS w (.slice a n cap) ss) :
    Calls Try.prog 44 #[LgV c f (.slice a n cap), .int .i64 seq] w fun e w' => ∃ a' c', e = .returned (LgV c seq (.slice a' m c')) ∧ OwS w.heap.size w'.heap.size w' (.slice a' m c') (ss.drop k) ∧ Below w.heap.size w w' := by
  have HX := hide hx
  have HS := hide (hS.drop k)
  have HZ := hide (hz.drop k)
  have hm : m ≤ 2000000 := by omega
  have HK := hide hk
  have HSQ := hide hs
  clear hx hS hz hk hs
  go_enter Try.func44, Try.ntmps44
  go_upto_region 1 with fail
  obtain ⟨V, hV⟩ : ∃ V, V = (w.alloc (LgO c f (.slice a n cap))).alloc (LgO 0 0 (.slice none 0 0)) := ⟨_, rfl⟩
  have CV := hide (show Lv w V c f (.slice a n cap) from by rw [hV]; exact Lv.new _ _ _ _)
  rw [← hV]
  clear hV
  have CD := Lv.drewH CV
  have z1 := (unhide CV).lt
  have z0 : w.heap.size < V.heap.size := by omega
  go_region_held3 (fun W => Below w.heap.size w W ∧ W.cell? ⟨w.heap.size, 0, none⟩ = some (.int .i64 c) ∧ W.cell? ⟨w.heap.size, 1, none⟩ = some (.int .i64 f) ∧ W.cell? ⟨w.heap.size, 2, none⟩ = some (.slice a n cap))
    (first | (with_reducible exact kLv CV) | (with_reducible exact kLv CD) | (with_reducible exact kLv CA) | (with_reducible exact kLv CB) | (with_reducible exact kLvs CB _ _ _))
    (first
      | (go_at_call 35; refine (iabove_any c f a n cap ss seq k m (unhide HK) (unhide HSQ) w _ (by omega) (unhide HX)).mono ?_; rintro e w3 ⟨a3, rfl, r3, b3⟩; (first | (with_reducible have CA := hide ((unhide CD).later b3)) | (with_reducible have CA := hide ((unhide CV).later b3))); have R3 := hide r3; clear b3 r3)
      | (go_at_call 52; refine (ichangescopy_any a3 m m (ss.drop k) (unhide HS) _ (by omega) (unhide HZ) ((unhide R3).later (kb1 (by assumption)))).mono ?_; rintro e w4 ⟨a4, c4, rfl, o4, b4⟩; have CB := hide ((unhide CA).later b4); have O4 := hide (o4.mono (unhide CA).bel.size (Nat.le_refl _)); obtain ⟨p0, p1, p2, pf⟩ := blk_cells3 (unhide CB).k2; have zB := (unhide CB).lt; clear o4 b4))
  all_goals go_wp2
  all_goals exact bodyPost_ret (v := LgV c seq (.slice a4 m c4)) (by simp [results, Try.results44, go_sem, p0, p1, p2]) rfl ⟨a4, c4, rfl, by have h := log_set (unhide CB).k2 (.int .i64 c) (.int .i64 seq) (.slice a4 m c4) (unhide O4); simpa using h, (kLvs CB _ _ _).1⟩

set_option maxHeartbeats 8000000 in
set_option maxRecDepth 100000 in
theorem ilogcopy_any (c f : Int) (a : Option Addr) (n cap : Nat) (ss : List Sta) (hS : SmlS ss) (hz : SzS ss) (w : World) (hn : n ≤ 2000000) (hx : RwS w (.slice a n cap) ss) :
    Calls Try.prog 43 #[LgV c f (.slice a n cap)] w fun e w' => ∃ a' c', e = .returned (LgV c f (.slice a' n c')) ∧ OwS w.heap.size w'.heap.size w' (.slice a' n c') ss ∧ Below w.heap.size w w' := by
  have HX := hide hx
  have HS := hide hS
  have HZ := hide hz
  clear hx hS hz
  have hf0 : f - f = ((0 : Nat) : Int) := by simp
  go_enter Try.func43, Try.ntmps43
  go_wp2_with fail
  refine (ilogabove_any c f a n cap ss f 0 n (by omega) hf0 (unhide HS) (unhide HZ) _ hn ((unhide HX).later (Lv.new w c f (.slice a n cap)).bel)).mono ?_
  rintro e w3 ⟨a3, c3, rfl, o3, b3⟩
  have CA := hide ((Lv.new w c f (.slice a n cap)).later b3)
  have O3 := hide (o3.mono (Lv.new w c f (.slice a n cap)).bel.size (Nat.le_refl _))
  obtain ⟨p0, p1, p2, pf⟩ := blk_cells3 (unhide CA).k2
  have zA := (unhide CA).lt
  clear o3 b3
  go_wp2
  exact bodyPost_ret (v := LgV c f (.slice a3 n c3)) (by simp [results, Try.results43, go_sem, p0, p1, p2]) rfl ⟨a3, c3, rfl, by have h := log_set (unhide CA).k2 (.int .i64 c) (.int .i64 f) (.slice a3 n c3) (unhide O3); simpa using h, (kLvs CA _ _ _).1⟩
end Go.Proofs.Ytijdmfakaompgaa
