/-
  A variable that a drawn statement lays at some time, and stores a state of the call's own into. No program here, no statement is proved here.
  Variables of three cells. No program here, no statement is proved here.
  copy(dst, src) of elements of several cells, dst a row of the call's own as long as src. No program here, no statement is proved here.
  What a state lacks of another one: the program's. No statement is proved here.
  A state, a list of states, a log in memory of one's own: the program's. No statement is proved here.
  A state in memory of one's own: the program's. No statement is proved here.
  spec.l3Copy of whatever state, spec.l7Copy of whatever log: the same lists in memory of the call's own. No statement is proved here.
  What all know to be over is pruned: the specification's and the program's. No statement is proved here.
-/
import Derived.Test.YtighiahppjekeabGreatSt3
import Derived.Test.YtighiahppjekeabGreatStA
import Derived.Test.YtighiahppjekeabGreatRegs
import Derived.Test.YtighiahppjekeabGreatRwO
import Derived.Laws.CopyRow
import Derived.Laws.CopyOwn
import Derived.Test.YtighiahppjekeabGreatVwP
import Derived.Test.YtighiahppjekeabGreatRegs6
import Derived.Test.YtighiahppjekeabGreatApp2
import Derived.Test.YtighiahppjekeabGreatIStOk
import Derived.Test.YtighiahppjekeabGreatStT
import Derived.Test.YtighiahppjekeabGreatStM
import Derived.Test.YtighiahppjekeabGreatLgP
import Derived.Deep.RegionHeld3
import Derived.ArgAppend
import Derived.Laws.OwnMore
import Derived.Test.YtighiahppjekeabGreatMkQ
import Derived.Test.YtighiahppjekeabGreatTbC
import Derived.Test.YtighiahppjekeabGreatVwL
import Derived.Test.YtighiahppjekeabGreatIJnP
import Derived.Deep.DeepCutAuto
namespace Go.Proofs.YtighiahppjekeabGreat
open Go.RowKit

abbrev StZ : Obj := .cells #[.slice none 0 0, .slice none 0 0] 32
/-- The variable lies in block g, behind P, and is as it was laid. -/
structure Bx (P W : World) (g : Nat) : Prop where
  blk : W.heap[g]? = some StZ
  lt : g < W.heap.size
  ge : P.heap.size ≤ g
/-- The variable g, and where it lay ahead of the last call. -/
structure Bf (P V W : World) (g : Nat) : Prop where
  bx : Bx P W g
  lv : g < V.heap.size
theorem kal {P W : World} {o : Obj} (h : Below P.heap.size P W) : Below P.heap.size P (W.alloc o) := h.alloc h.size _
theorem Bx.new {P W w1 : World} (b : Below (W.alloc StZ).heap.size (W.alloc StZ) w1) (h : P.heap.size ≤ W.heap.size) : Bx P w1 W.heap.size := ⟨(newblk b).1, (newblk b).2, h⟩
theorem Bx.newD {P W w1 : World} (b : Below (W.alloc StZ).drew.heap.size (W.alloc StZ).drew w1) (h : P.heap.size ≤ W.heap.size) : Bx P w1 W.heap.size := ⟨(newblkD b).1, (newblkD b).2, h⟩
theorem Bx.kept {P W w1 : World} {g : Nat} (M : Hid (Bx P W g)) (b : Below W.heap.size W w1) : Bx P w1 g := ⟨(b.block _ (unhide M).lt).trans (unhide M).blk, Nat.lt_of_lt_of_le (unhide M).lt b.size, (unhide M).ge⟩
theorem Bf.new {P W w1 : World} (b : Below (W.alloc StZ).heap.size (W.alloc StZ) w1) (h : P.heap.size ≤ W.heap.size) : Bf P (W.alloc StZ) w1 W.heap.size := ⟨Bx.new b h, by simp⟩
theorem Bf.kept {P W w1 : World} {g : Nat} (M : Hid (Bx P W g)) (b : Below W.heap.size W w1) : Bf P W w1 g := ⟨Bx.kept M b, (unhide M).lt⟩
theorem kset {P V W : World} {g : Nat} {v1 v2 : Value} (b : Below P.heap.size P W) (M : Hid (Bf P V W g)) : Below P.heap.size P ((W.setCell ⟨g, 0, none⟩ v1).setCell ⟨g, 1, none⟩ v2) := (b.setCell (p := ⟨g, 0, none⟩) (unhide M).bx.ge _).setCell (p := ⟨g, 1, none⟩) (unhide M).bx.ge _
theorem Rw.later2 {α : Type} {enc : α → List Value} {k : Nat} {w w' : World} {o : Obj} {v : Value} {xs : List α} (h : Rw enc k w v xs) (b : Below (w.alloc o).heap.size (w.alloc o) w') : Rw enc k w' v xs := (h.alloc o).later b

/-- The variable holds the state of the call's own. -/
structure Fin (P W : World) (g : Nat) (v1 v2 : Value) (xs : List Itm) (fs : List Flr) : Prop where
  bel : Below P.heap.size P W
  ge : P.heap.size ≤ g
  lt : g < W.heap.size
  blk : W.heap[g]? = some (.cells #[v1, v2] 32 (0, 0))
  o1 : OwI P.heap.size W v1 xs
  o2 : OwF P.heap.size W v2 fs
theorem Fin.set {P V W : World} {g : Nat} {v1 v2 : Value} {xs : List Itm} {fs : List Flr} (b : Below P.heap.size P W) (h : P.heap.size ≤ V.heap.size) (M : Hid (Bf P V W g)) (o1 : Hid (OwI V.heap.size W v1 xs)) (o2 : Hid (OwF V.heap.size W v2 fs)) :
    Fin P ((W.setCell ⟨g, 0, none⟩ v1).setCell ⟨g, 1, none⟩ v2) g v1 v2 xs fs := by
  obtain ⟨⟨hb, hl, hg⟩, hv⟩ := unhide M
  refine ⟨(b.setCell (p := ⟨g, 0, none⟩) hg _).setCell (p := ⟨g, 1, none⟩) hg _, hg, by simpa using hl, blk_set2 hb _ _, ?_, ?_⟩
  · exact Ow.base (((unhide o1).set ⟨g, 0, none⟩ hv _).set ⟨g, 1, none⟩ hv _) h
  · exact Ow.base (((unhide o2).set ⟨g, 0, none⟩ hv _).set ⟨g, 1, none⟩ hv _) h
theorem Fin.new {P V W : World} {v1 v2 : Value} {xs : List Itm} {fs : List Flr} (b : Below P.heap.size P W) (h : P.heap.size ≤ V.heap.size) (o1 : Hid (OwI V.heap.size W v1 xs)) (o2 : Hid (OwF V.heap.size W v2 fs)) :
    Fin P (W.alloc (.cells #[v1, v2] 32)) W.heap.size v1 v2 xs fs := by
  refine ⟨kal b, b.size, by simp, heap_alloc_new _ _, ?_, ?_⟩
  · exact Ow.base (World.ownsRow.alloc (unhide o1) _) h
  · exact Ow.base (World.ownsRow.alloc (unhide o2) _) h
end Go.Proofs.YtighiahppjekeabGreat

namespace Go.Proofs.YtighiahppjekeabGreat
open Go.RowKit

theorem blk_cells3 {w : World} {g : Nat} {T : TypeId} {c0 c1 c2 : Value} (h : w.heap[g]? = some (.cells #[c0, c1, c2] T (0, 0))) :
    w.cell? ⟨g, 0, none⟩ = some c0 ∧ w.cell? ⟨g, 1, none⟩ = some c1 ∧ w.cell? ⟨g, 2, none⟩ = some c2 ∧ ∀ o, w.frozen? ⟨g, o, none⟩ = false := by
  simp [World.cell?, World.frozen?, h]
theorem blk_set3 {w : World} {g : Nat} {T : TypeId} {c0 c1 c2 : Value} (h : w.heap[g]? = some (.cells #[c0, c1, c2] T (0, 0))) (v0 v1 v2 : Value) :
    (((w.setCell ⟨g, 0, none⟩ v0).setCell ⟨g, 1, none⟩ v1).setCell ⟨g, 2, none⟩ v2).heap[g]? = some (.cells #[v0, v1, v2] T (0, 0)) :=
  heap_setCell_same _ _ _ _ _ _ (heap_setCell_same _ _ _ _ _ _ (heap_setCell_same _ _ _ _ _ _ h))
theorem blk_at {w : World} {g h : Nat} {o : Nat} {u : Value} {x : Obj} (k : w.heap[g]? = some x) (ne : g ≠ h) : (w.setCell ⟨h, o, none⟩ u).heap[g]? = some x := by
  rw [heap_setCell_other _ _ _ _ ne]; exact k
theorem grown_set1 (w : World) (g o : Nat) (u : Value) : w.grownBy (w.setCell ⟨g, o, none⟩ u) (some g) :=
  ⟨rfl, rfl, rfl, by simp, fun i _ hne => heap_setCell_other _ _ _ _ (fun e => hne (by simp [e]))⟩
theorem below_set3 {B : Nat} {w W : World} {g : Nat} {v0 v1 v2 : Value} (hg : B ≤ g) (h : Below B w W) : Below B w (((W.setCell ⟨g, 0, none⟩ v0).setCell ⟨g, 1, none⟩ v1).setCell ⟨g, 2, none⟩ v2) :=
  ((h.setCell (p := ⟨g, 0, none⟩) hg _).setCell (p := ⟨g, 1, none⟩) hg _).setCell (p := ⟨g, 2, none⟩) hg _
theorem kept3 {w W : World} {A B C : Obj} (b : Below (((w.alloc A).alloc B).alloc C).heap.size (((w.alloc A).alloc B).alloc C) W) : Below w.heap.size w W ∧ W.heap[w.heap.size]? = some A ∧ W.heap[w.heap.size + 1]? = some B ∧ W.heap[w.heap.size + 1 + 1]? = some C ∧ w.heap.size + 1 + 1 < W.heap.size := by
  refine ⟨((((Below.refl w.heap.size w).alloc (Nat.le_refl _) _).alloc (by simp) _).alloc (by simp; omega) _).trans (b.mono (by simp; omega)), (b.block _ (by simp; omega)).trans (lowB3 w _ _ _), (b.block _ (by simp)).trans (midB3 w _ _ _), (b.block _ (by simp)).trans (newB3 w _ _ _), ?_⟩
  have := b.size; simp at this; omega

/-- Two logs in variables, carried to a later world. -/
theorem keepL {w5 W : World} {g h : Nat} {T U : TypeId} {a0 a1 a2 b0 b1 b2 : Value} (hg : Hid (w5.heap[g]? = some (.cells #[a0, a1, a2] T (0, 0)) ∧ g < w5.heap.size)) (hh : Hid (w5.heap[h]? = some (.cells #[b0, b1, b2] U (0, 0)) ∧ h < w5.heap.size)) (hb : Below w5.heap.size w5 W) :
    Below w5.heap.size w5 W ∧ W.cell? ⟨g, 0, none⟩ = some a0 ∧ W.cell? ⟨g, 1, none⟩ = some a1 ∧ W.cell? ⟨g, 2, none⟩ = some a2 ∧ W.cell? ⟨h, 0, none⟩ = some b0 ∧ W.cell? ⟨h, 1, none⟩ = some b1 ∧ W.cell? ⟨h, 2, none⟩ = some b2 := by
  obtain ⟨p0, p1, p2, -⟩ := blk_cells3 ((hb.block _ (unhide hg).2).trans (unhide hg).1)
  obtain ⟨q0, q1, q2, -⟩ := blk_cells3 ((hb.block _ (unhide hh).2).trans (unhide hh).1)
  exact ⟨hb, p0, p1, p2, q0, q1, q2⟩
end Go.Proofs.YtighiahppjekeabGreat

namespace Go.Proofs.YtighiahppjekeabGreat
open Go.RowKit

theorem add_off (b off i : Nat) : (⟨b, off, none⟩ : Addr).add i = ⟨b, off + i, none⟩ := by
  unfold Addr.add
  split
  · rename_i e; rw [e]; rfl
  · rfl
theorem run_copyk_none {P : Program} {w : World} {T ty E : TypeId} {i : TypeInfo} (ht : P.underlying T = some (.slice E)) (hi : P.info? E = some i) (d a : Option Addr) (dCap sCap : Nat) :
    (Builtin.copy_ #[T, T] ty #[.slice d 0 dCap, .slice a 0 sCap]).run P w = .ok (goInt 0) w := by
  have hl : ∀ (x : Addr), (loadCells x 0).run P w = .ok #[] w := fun x => by simpa using run_loadCells_list (P := P) w x [] (by simp)
  cases d <;> cases a <;> simp [Builtin.copy_, run_underlying ht, Builtin.lenOf, Builtin.firstCells, sizeOf, typeInfo, hi, storeCells, hl]
theorem run_copyk {P : Program} {w : World} {T ty E : TypeId} {i : TypeInfo} {k : Nat} (ht : P.underlying T = some (.slice E)) (hi : P.info? E = some i) (hs : i.size = k) (g n dCap : Nat) (ad : Addr) (sCap : Nat) (cur : Array Value) (t : TypeId) (cs : List Value)
    (hg : w.heap[g]? = some (.cells cur t (0, 0))) (hn : cs.length = n * k) (hsrc : ∀ j v, cs[j]? = some v → w.cell? (ad.add j) = some v) (hfit : cs.length ≤ cur.size) (h1 : ∀ v ∈ cs, v.oneCell' = true) :
    (Builtin.copy_ #[T, T] ty #[.slice (some ⟨g, 0, none⟩) n dCap, .slice (some ad) n sCap]).run P w = .ok (goInt n) (w.setRow g (cs ++ cur.toList.drop cs.length).toArray) := by
  have hl := run_loadCells_list (P := P) w ad cs hsrc
  have hst := run_storeCells_at P g 0 t cs 0 cur w hg (by simpa using hfit) h1
  simp [Builtin.copy_, run_underlying ht, Builtin.lenOf, Builtin.firstCells, sizeOf, typeInfo, hi, hs, ← hn, hl, hst]

theorem copy_own {P : Program} {α : Type} {enc : α → List Value} {k : Nat} (hk : ∀ x, (enc x).length = k) (h0 : 0 < k) (E T : TypeId) (i : TypeInfo) (ht : P.underlying T = some (.slice E)) (hi : P.info? E = some i) (hsize : i.size = k)
    (w : World) (base : Nat) (dv sv : Value) (ys xs : List α) (n : Nat) (hn : n = xs.length) (h1 : ∀ u ∈ xs.flatMap enc, u.oneCell' = true) (hown : Ow enc k E base w dv ys) (hx : Rw enc k w sv xs) (hl : ys.length = xs.length) (ty : TypeId) :
    ∃ w', (Builtin.copy_ #[T, T] ty #[dv, sv]).run P w = .ok (goInt n) w' ∧ Ow enc k E base w' dv xs ∧ w.grownBy w' dv.ownBlock := by
  subst hn
  obtain ⟨a, cap, rfl, hcap, hr⟩ := hx
  by_cases hz : xs = []
  · subst hz
    obtain rfl : ys = [] := List.eq_nil_of_length_eq_zero hl
    obtain ⟨a', c', rfl⟩ := hown.form
    exact ⟨w, run_copyk_none ht hi _ _ _ _, hown, ⟨rfl, rfl, rfl, Nat.le_refl _, fun _ _ _ => rfl⟩⟩
  · rcases hr with hr | ⟨b, off, rfl, hb, hc⟩
    · exact absurd hr hz
    have hpos : 0 < xs.length := List.length_pos_iff.2 hz
    rcases hown.2 with ⟨_, h00⟩ | ⟨g, dcap, cur, rfl, hbg, hg, hnc, hcm, hcs, htake⟩
    · omega
    · have hfl := flat_len (enc := enc) hk xs
      have hfit : (xs.flatMap enc).length ≤ cur.size := by
        rw [hfl, hcs, ← hl]; exact Nat.mul_le_mul_right _ hnc
      have hrun := run_copyk (P := P) (w := w) (ty := ty) ht hi hsize g xs.length dcap ⟨b, off, none⟩ cap cur E (xs.flatMap enc) hg hfl (fun j v hj => by
        have hjl : j < (xs.flatMap enc).length := (List.getElem?_eq_some_iff.1 hj).1
        rw [hfl] at hjl
        obtain ⟨e, hr⟩ := div_parts h0 j
        have hq : j / k < xs.length := Nat.div_lt_of_lt_mul (by rw [Nat.mul_comm]; exact hjl)
        have ea : (⟨b, off, none⟩ : Addr).add j = ⟨b, off + j / k * k + j % k, none⟩ := by
          rw [add_off]; congr 1; omega
        rw [ea, hc (j / k) xs[j / k] (by simp [hq]) (j % k) hr, ← flat_at hk xs (j / k) xs[j / k] (j % k) (by simp [hq]) hr, ← e]
        exact hj) hfit h1
      refine ⟨_, by rw [hl]; exact hrun, ⟨by rw [hfl], .inr ⟨g, dcap, ((xs.flatMap enc) ++ cur.toList.drop (xs.flatMap enc).length).toArray, by rw [hl], hbg, setRow_heap w g cur _ E _ hg, by omega, hcm, ?_, ?_⟩⟩, ?_⟩
      · rw [List.size_toArray, List.length_append, List.length_drop]
        have : cur.toList.length = cur.size := by simp
        omega
      · simp [hfl]
      · exact ⟨rfl, rfl, rfl, by simp [World.setRow], fun q _ hne => setRow_other w g q _ (fun e => hne (by simp [Value.ownBlock, e]))⟩

theorem wpList_copyk {P : Program} {α : Type} {enc : α → List Value} {k : Nat} (hk : ∀ x, (enc x).length = k) (h0 : 0 < k) {ops : Array Oper} {rest : List Oper} {o : Oper} {a : Act} {Q : Exit → Act → World → Prop}
    (E T : TypeId) (i : TypeInfo) (ht : P.underlying T = some (.slice E)) (hi : P.info? E = some i) (hsize : i.size = k)
    (w : World) (hgd : o.guard = none) (d s : Operand) (ho : o.op = .call { callee := .builtin .copy, args := #[d, s], argTypes := #[T, T] })
    (base : Nat) (dv sv : Value) (ys xs : List α) (n : Nat) (hn : Hid (n = xs.length)) (hd : a.eval d = dv) (hs : a.eval s = sv) (h1 : Hid (∀ u ∈ xs.flatMap enc, u.oneCell' = true)) (hown : Ow enc k E base w dv ys) (hx : Rw enc k w sv xs) (hl : ys.length = xs.length)
    (h : ∀ w', Ow enc k E base w' dv xs → w.grownBy w' dv.ownBlock → wpList P ops Q rest (a.put o.dst (goInt n)) w') :
    wpList P ops Q (o :: rest) a w := by
  obtain ⟨w', hrun, r1, r2⟩ := copy_own hk h0 E T i ht hi hsize w base dv sv ys xs n (unhide hn) (unhide h1) hown hx hl o.type
  refine wpList_plain hgd fun K hK => ?_
  unfold Oper.wp
  simp [execOp, ho, resolve, invoke, builtin, hd, hs, hrun, Result.andThen]
  exact hK _ _ (h w' r1 r2)
end Go.Proofs.YtighiahppjekeabGreat

namespace Go.Proofs.YtighiahppjekeabGreat
open Go.RowKit

/-- While an item is copied: the argument, the result's variable. -/
structure C6 (w W : World) (x : Itm) : Prop where
  bel : Below w.heap.size w W
  k1 : W.heap[w.heap.size]? = some (.cells #[.int .i64 x.1, .int .i64 x.2.1, .int .i64 x.2.2.1, .int .i64 x.2.2.2.1, .int .i64 x.2.2.2.2.1, .string x.2.2.2.2.2] 69 (0, 0))
  k2 : W.heap[w.heap.size + 1]? = some (.cells #[.int .i64 0, .int .i64 0, .int .i64 0, .int .i64 0, .int .i64 0, .string ⟨#[]⟩] 69 (0, 0))
theorem C6.lt {w W : World} {x : Itm} (h : C6 w W x) : w.heap.size + 1 < W.heap.size := (Array.getElem?_eq_some_iff.1 h.k2).1
theorem C6.later {w W Y : World} {x : Itm} (h : C6 w W x) (b : Below W.heap.size W Y) : C6 w Y x := by
  have := h.lt
  exact ⟨h.bel.trans (b.mono h.bel.size), (b.block _ (by omega)).trans h.k1, (b.block _ h.lt).trans h.k2⟩
theorem C6.drewH {w W : World} {x : Itm} (h : Hid (C6 w W x)) : Hid (C6 w W.drew x) := hide ⟨(unhide h).bel.drew, (unhide h).k1, (unhide h).k2⟩
theorem kC6 {w W : World} {x : Itm} (h : Hid (C6 w W x)) : Below w.heap.size w W ∧ W.cell? ⟨w.heap.size, 0, none⟩ = some (.int .i64 x.1) ∧ W.cell? ⟨w.heap.size, 1, none⟩ = some (.int .i64 x.2.1) ∧ W.cell? ⟨w.heap.size, 2, none⟩ = some (.int .i64 x.2.2.1) ∧ W.cell? ⟨w.heap.size, 3, none⟩ = some (.int .i64 x.2.2.2.1) ∧ W.cell? ⟨w.heap.size, 4, none⟩ = some (.int .i64 x.2.2.2.2.1) ∧ W.cell? ⟨w.heap.size, 5, none⟩ = some (.string x.2.2.2.2.2) := by
  obtain ⟨h0, h1, h2, h3, h4, h5, -⟩ := blk_cells6 (unhide h).k1
  exact ⟨(unhide h).bel, h0, h1, h2, h3, h4, h5⟩
theorem kC6s {w W : World} {x : Itm} (h : Hid (C6 w W x)) (v0 v1 v2 v3 v4 v5 : Value) : Below w.heap.size w ((((((W.setCell ⟨w.heap.size + 1, 0, none⟩ v0).setCell ⟨w.heap.size + 1, 1, none⟩ v1).setCell ⟨w.heap.size + 1, 2, none⟩ v2).setCell ⟨w.heap.size + 1, 3, none⟩ v3).setCell ⟨w.heap.size + 1, 4, none⟩ v4).setCell ⟨w.heap.size + 1, 5, none⟩ v5) ∧ ((((((W.setCell ⟨w.heap.size + 1, 0, none⟩ v0).setCell ⟨w.heap.size + 1, 1, none⟩ v1).setCell ⟨w.heap.size + 1, 2, none⟩ v2).setCell ⟨w.heap.size + 1, 3, none⟩ v3).setCell ⟨w.heap.size + 1, 4, none⟩ v4).setCell ⟨w.heap.size + 1, 5, none⟩ v5).cell? ⟨w.heap.size, 0, none⟩ = some (.int .i64 x.1) ∧ ((((((W.setCell ⟨w.heap.size + 1, 0, none⟩ v0).setCell ⟨w.heap.size + 1, 1, none⟩ v1).setCell ⟨w.heap.size + 1, 2, none⟩ v2).setCell ⟨w.heap.size + 1, 3, none⟩ v3).setCell ⟨w.heap.size + 1, 4, none⟩ v4).setCell ⟨w.heap.size + 1, 5, none⟩ v5).cell? ⟨w.heap.size, 1, none⟩ = some (.int .i64 x.2.1) ∧ ((((((W.setCell ⟨w.heap.size + 1, 0, none⟩ v0).setCell ⟨w.heap.size + 1, 1, none⟩ v1).setCell ⟨w.heap.size + 1, 2, none⟩ v2).setCell ⟨w.heap.size + 1, 3, none⟩ v3).setCell ⟨w.heap.size + 1, 4, none⟩ v4).setCell ⟨w.heap.size + 1, 5, none⟩ v5).cell? ⟨w.heap.size, 2, none⟩ = some (.int .i64 x.2.2.1) ∧ ((((((W.setCell ⟨w.heap.size + 1, 0, none⟩ v0).setCell ⟨w.heap.size + 1, 1, none⟩ v1).setCell ⟨w.heap.size + 1, 2, none⟩ v2).setCell ⟨w.heap.size + 1, 3, none⟩ v3).setCell ⟨w.heap.size + 1, 4, none⟩ v4).setCell ⟨w.heap.size + 1, 5, none⟩ v5).cell? ⟨w.heap.size, 3, none⟩ = some (.int .i64 x.2.2.2.1) ∧ ((((((W.setCell ⟨w.heap.size + 1, 0, none⟩ v0).setCell ⟨w.heap.size + 1, 1, none⟩ v1).setCell ⟨w.heap.size + 1, 2, none⟩ v2).setCell ⟨w.heap.size + 1, 3, none⟩ v3).setCell ⟨w.heap.size + 1, 4, none⟩ v4).setCell ⟨w.heap.size + 1, 5, none⟩ v5).cell? ⟨w.heap.size, 4, none⟩ = some (.int .i64 x.2.2.2.2.1) ∧ ((((((W.setCell ⟨w.heap.size + 1, 0, none⟩ v0).setCell ⟨w.heap.size + 1, 1, none⟩ v1).setCell ⟨w.heap.size + 1, 2, none⟩ v2).setCell ⟨w.heap.size + 1, 3, none⟩ v3).setCell ⟨w.heap.size + 1, 4, none⟩ v4).setCell ⟨w.heap.size + 1, 5, none⟩ v5).cell? ⟨w.heap.size, 5, none⟩ = some (.string x.2.2.2.2.2) := by
  obtain ⟨hb, h0, h1, h2, h3, h4, h5⟩ := kC6 h
  have ne : w.heap.size ≠ w.heap.size + 1 := by omega
  exact ⟨below_set6 (by omega) hb, blk_far6 ne h0, blk_far6 ne h1, blk_far6 ne h2, blk_far6 ne h3, blk_far6 ne h4, blk_far6 ne h5⟩

set_option maxHeartbeats 4000000 in
set_option maxRecDepth 100000 in
theorem icopyI_any (x : Itm) (hd : x.2.2.2.2.2.size ≤ 281474976710656) (w : World) :
    Calls Tryz.prog 59 #[.agg #[.int .i64 x.1, .int .i64 x.2.1, .int .i64 x.2.2.1, .int .i64 x.2.2.2.1, .int .i64 x.2.2.2.2.1, .string x.2.2.2.2.2]] w fun e w' => e = .returned (.agg #[.int .i64 x.1, .int .i64 x.2.1, .int .i64 x.2.2.1, .int .i64 x.2.2.2.1, .int .i64 x.2.2.2.2.1, .string x.2.2.2.2.2]) ∧ Below w.heap.size w w' := by
  go_enter Tryz.func59, Tryz.ntmps59
  go_upto_region 1 with fail
  obtain ⟨V, hV⟩ : ∃ V, V = (w.alloc (.cells #[.int .i64 x.1, .int .i64 x.2.1, .int .i64 x.2.2.1, .int .i64 x.2.2.2.1, .int .i64 x.2.2.2.2.1, .string x.2.2.2.2.2] 69)).alloc (.cells #[.int .i64 0, .int .i64 0, .int .i64 0, .int .i64 0, .int .i64 0, .string ⟨#[]⟩] 69) := ⟨_, rfl⟩
  have CV := hide (show C6 w V x from by rw [hV]; exact ⟨((Below.refl w.heap.size w).alloc (Nat.le_refl _) _).alloc (by simp) _, lowB2 w _ _, newB2 w _ _⟩)
  rw [← hV]
  clear hV
  have CD := C6.drewH CV
  have z1 := (unhide CV).lt
  have z0 : w.heap.size < V.heap.size := by omega
  go_region_held3 (fun W => Below w.heap.size w W ∧ W.cell? ⟨w.heap.size, 0, none⟩ = some (.int .i64 x.1) ∧ W.cell? ⟨w.heap.size, 1, none⟩ = some (.int .i64 x.2.1) ∧ W.cell? ⟨w.heap.size, 2, none⟩ = some (.int .i64 x.2.2.1) ∧ W.cell? ⟨w.heap.size, 3, none⟩ = some (.int .i64 x.2.2.2.1) ∧ W.cell? ⟨w.heap.size, 4, none⟩ = some (.int .i64 x.2.2.2.2.1) ∧ W.cell? ⟨w.heap.size, 5, none⟩ = some (.string x.2.2.2.2.2))
    (first | (with_reducible exact kC6 CV) | (with_reducible exact kC6 CD) | (with_reducible exact kC6 CA) | (with_reducible exact kC6s CA _ _ _ _ _ _))
    (first | (go_at_call 71; refine (icopy_any x.2.1 x.2.2.1 x.2.2.2.1 x.2.2.2.2.1 x.2.2.2.2.2 hd _).mono ?_; rintro e w6 ⟨rfl, b6⟩; (first | (with_reducible have CA := hide ((unhide CD).later b6)) | (with_reducible have CA := hide ((unhide CV).later b6))); obtain ⟨q0, q1, q2, q3, q4, q5, qf⟩ := blk_cells6 (unhide CA).k2; have zA := (unhide CA).lt; clear b6))
  all_goals go_wp2
  all_goals exact bodyPost_ret (v := .agg #[.int .i64 x.1, .int .i64 x.2.1, .int .i64 x.2.2.1, .int .i64 x.2.2.2.1, .int .i64 x.2.2.2.2.1, .string x.2.2.2.2.2]) (by simp [results, Tryz.results59, go_sem, q0, q1, q2, q3, q4, q5]) rfl ⟨rfl, (kC6s CA _ _ _ _ _ _).1⟩

theorem lkF_pos {fs gs : List Flr} {k : Nat} {x : Flr} (hx : gs[k]? = some x) (h : lkF1 fs x = true) : lkF fs (gs.take (k + 1)) = lkF fs (gs.take k) ++ [x] := by
  rw [lkF, take_filter hx, if_pos h]; rfl
theorem lkF_neg {fs gs : List Flr} {k : Nat} {x : Flr} (hx : gs[k]? = some x) (h : lkF1 fs x = false) : lkF fs (gs.take (k + 1)) = lkF fs (gs.take k) := by
  rw [lkF, take_filter hx, if_neg (by simp [h]), List.append_nil]; rfl
theorem lkI_pos {xs ys : List Itm} {fs : List Flr} {k : Nat} {x : Itm} (hx : ys[k]? = some x) (h : lkI1 xs fs x = true) : lkI xs fs (ys.take (k + 1)) = lkI xs fs (ys.take k) ++ [x] := by
  rw [lkI, take_filter hx, if_pos h]; rfl
theorem lkI_neg {xs ys : List Itm} {fs : List Flr} {k : Nat} {x : Itm} (hx : ys[k]? = some x) (h : lkI1 xs fs x = false) : lkI xs fs (ys.take (k + 1)) = lkI xs fs (ys.take k) := by
  rw [lkI, take_filter hx, if_neg (by simp [h]), List.append_nil]; rfl
theorem lkF_k {fs gs : List Flr} {k : Nat} : (lkF fs (gs.take k)).length ≤ k := Nat.le_trans (lkF_len _ _) (by simp; omega)
theorem lkI_k {xs ys : List Itm} {fs : List Flr} {k : Nat} : (lkI xs fs (ys.take k)).length ≤ k := Nat.le_trans (lkI_len _ _ _) (by simp; omega)
theorem inewerK_v (a b : Key) (r : Bool) (h : Hid (decide (0 < cmpE a.1 a.2.1 a.2.2.1 a.2.2.2.1 a.2.2.2.2 b.1 b.2.1 b.2.2.1 b.2.2.2.1 b.2.2.2.2) = r)) (w : World) : Calls Tryz.prog 79 #[.agg #[.int .i64 a.1, .int .i64 a.2.1, .int .i64 a.2.2.1, .int .i64 a.2.2.2.1, .string a.2.2.2.2], .agg #[.int .i64 b.1, .int .i64 b.2.1, .int .i64 b.2.2.1, .int .i64 b.2.2.2.1, .string b.2.2.2.2]] w fun e w' => e = .returned (.bool r) ∧ Below w.heap.size w w' := by
  rw [← unhide h]; exact inewer_any _ _ _ _ _ _ _ _ _ _ w

end Go.Proofs.YtighiahppjekeabGreat

namespace Go.Proofs.YtighiahppjekeabGreat
open Go.RowKit

theorem step_make {P : Program} {α : Type} {enc : α → List Value} {k : Nat} (hk : ∀ x, (enc x).length = k) (h0 : 0 < k) {ops : Array Oper} {o : Oper} {a : Act} {K : Act → World → Prop} {Q : Exit → Act → World → Prop} {R : Prop}
    (w : World) (hgd : o.guard = none) (l c : Operand) (t : TypeId) (hop : o.op = Op.makeSlice t l c) (E : TypeId) (i : TypeInfo) (z : Value) (z0 : α) (hzz : z.cells.toList = enc z0) (h1 : P.underlying t = some (.slice E)) (h2 : P.info? E = some i) (h3 : i.zero = some z) (h4 : i.size = k)
    (n : Nat) (hl : a.eval l = .int .i64 (n : Int)) (hc : a.eval c = .int .i64 (n : Int)) (b2 : i.bytes * n ≤ 281474976710656) (b3 : n ≤ maxLen)
    (h : ∀ w', Ow enc k E w.heap.size w' (.slice (some ⟨w.heap.size, 0, none⟩) n n) (List.replicate n z0) → Below w.heap.size w w' → K (a.put o.dst (.slice (some ⟨w.heap.size, 0, none⟩) n n)) w') :
    if Region.wanted o (yielded ops a.tmps) = true then Oper.wp P o a w K Q else R := by
  rw [if_pos (by simp [Region.wanted, hgd])]
  obtain ⟨w', hrun, r1, r2⟩ := run_make_full (P := P) w w.heap.size t E i z k h1 h2 h3 h4 .i64 .i64 n b2 b3 (Nat.le_refl _)
  unfold Oper.wp
  simp [execOp, hop, hl, hc, hrun, Result.andThen]
  refine h w' ?_ ⟨r2.os, r2.tape, r2.output, r2.size, fun q hq => r2.block q hq (by simp)⟩
  unfold Ow
  rw [← made_flat h0 hk z.cells z0 hzz n]
  simpa using r1

/-- What 'make' lays, as one letter. -/
theorem made_obj {P : Program} {α : Type} {enc : α → List Value} {k : Nat} (hk : ∀ x, (enc x).length = k) (h0 : 0 < k) (t E : TypeId) (i : TypeInfo) (z : Value) (z0 : α) (hzz : z.cells.toList = enc z0) (h1 : P.underlying t = some (.slice E)) (h2 : P.info? E = some i) (h3 : i.zero = some z) (h4 : i.size = k)
    (n : Nat) (b2 : i.bytes * n ≤ 281474976710656) (b3 : n ≤ maxLen) :
    ∃ O : Obj, (∀ w : World, (Instr.makeSlice t (.int .i64 (n : Int)) (.int .i64 (n : Int))).run P w = .ok (.slice (some ⟨w.heap.size, 0, none⟩) n n) (w.alloc O)) ∧ ∀ (W : World) (g B : Nat), W.heap[g]? = some O → B ≤ g → Ow enc k E B W (.slice (some ⟨g, 0, none⟩) n n) (List.replicate n z0) := by
  have h63 : (n : Int) ≤ 9223372036854775807 := by have h := b3; simp [maxLen] at h; omega
  have hb' : (i.bytes : Int) * (n : Int) ≤ 281474976710656 := by
    have h : ((i.bytes * n : Nat) : Int) ≤ 281474976710656 := by omega
    rwa [Int.natCast_mul] at h
  refine ⟨.cells (madeCells z.cells (n * k)) E, fun w => ?_, fun W g B hg hB => ?_⟩
  · have hr := run_make (P := P) w t E i z h1 h2 h3 .i64 .i64 n n (by omega) (Int.le_refl _) hb' h63
    simpa [h4] using hr
  · unfold Ow
    rw [← made_flat h0 hk z.cells z0 hzz n]
    simp only [List.length_replicate]
    refine ⟨by simp [size_madeCells], .inr ⟨g, n, madeCells z.cells (n * k), rfl, hB, hg, Nat.le_refl _, b3, size_madeCells _ _, ?_⟩⟩
    exact List.take_of_length_le (by rw [Array.length_toList, size_madeCells]; exact Nat.le_refl _)

theorem kb3 {α : Type} {enc : α → List Value} {k : Nat} {e : TypeId} {w5 W W' : World} {A : Prop} {v : Value} {xs : List α} (h : Below w5.heap.size w5 W ∧ A) (o : Ow enc k e W.heap.size W' v xs) : Ow enc k e w5.heap.size W' v xs := o.base h.1.size
theorem Ow.later2 {α : Type} {enc : α → List Value} {k : Nat} {e : TypeId} {base : Nat} {w w' : World} {o : Obj} {v : Value} {xs : List α} (h : Ow enc k e base w v xs) (b : Below (w.alloc o).heap.size (w.alloc o) w') : Ow enc k e base w' v xs := (h.later ((Below.refl _ _).alloc (Nat.le_refl _) o)).later b
theorem up0 {V W : World} (b : Below V.drew.heap.size V.drew W) : Below V.heap.size V W := ((Below.refl V.heap.size V).drew).trans b
theorem up1 {V W : World} {o : Obj} (b : Below (V.alloc o).drew.heap.size (V.alloc o).drew W) : Below V.heap.size V W := (((Below.refl V.heap.size V).alloc (Nat.le_refl _) o).drew).trans (b.mono (by show V.heap.size ≤ (V.alloc o).heap.size; simp))
theorem up4 {V W : World} {o : Obj} (b : Below (V.drew.alloc o).heap.size (V.drew.alloc o) W) : Below V.heap.size V W := (((Below.refl V.heap.size V).drew).alloc (Nat.le_refl _) o).trans (b.mono (by show V.heap.size ≤ (V.drew.alloc o).heap.size; simp))
theorem up2 {V X W : World} (h : Below V.heap.size V X) (b : Below X.heap.size X W) : Below V.heap.size V W := h.trans (b.mono h.size)
theorem up3 {V X W : World} {o : Obj} (h : Below V.heap.size V X) (b : Below (X.alloc o).heap.size (X.alloc o) W) : Below V.heap.size V W := (h.alloc h.size o).trans (b.mono (by have := h.size; simp; omega))
theorem Ow.up {α : Type} {enc : α → List Value} {k : Nat} {e : TypeId} {B : Nat} {X W : World} {v : Value} {xs : List α} (o : Ow enc k e X.heap.size W v xs) (h : B ≤ X.heap.size) : Ow enc k e B W v xs := o.base h
theorem keepS7 {V W : World} {g : Nat} {T : TypeId} {a0 a1 : Value} (hg : Hid (V.heap[g]? = some (.cells #[a0, a1] T (0, 0)) ∧ g < V.heap.size)) (hb : Below V.heap.size V W) : Below V.heap.size V W ∧ W.cell? ⟨g, 0, none⟩ = some a0 ∧ W.cell? ⟨g, 1, none⟩ = some a1 := by
  obtain ⟨p0, p1, -⟩ := blk_cells2 ((hb.block _ (unhide hg).2).trans (unhide hg).1)
  exact ⟨hb, p0, p1⟩
theorem grownS (W : World) (g : Nat) (v0 v1 : Value) : W.grownBy ((W.setCell ⟨g, 0, none⟩ v0).setCell ⟨g, 1, none⟩ v1) (some g) := grown_trans2 (grown_set1 W g 0 v0) (grown_set1 _ g 1 v1)
theorem Fin.setT {P W : World} {g : Nat} {v1 v2 : Value} {xs : List Itm} {fs : List Flr} (b : Below P.heap.size P W) (M : Hid (Bx P W g)) (o1 : Hid (OwI P.heap.size W v1 xs)) (o2 : Hid (OwF P.heap.size W v2 fs)) :
    Fin P ((W.setCell ⟨g, 0, none⟩ v1).setCell ⟨g, 1, none⟩ v2) g v1 v2 xs fs := by
  obtain ⟨hb, hl, hg⟩ := unhide M
  have hq : ∀ q, some g = some q → ∃ cs fz, W.heap[q]? = some (.cells cs 32 fz) := fun q e => by cases e; exact ⟨_, _, hb⟩
  exact ⟨(b.setCell (p := ⟨g, 0, none⟩) hg _).setCell (p := ⟨g, 1, none⟩) hg _, hg, by simpa using hl, blk_set2 hb _ _, (unhide o1).otherT hq (by decide) (grownS W g v1 v2), (unhide o2).otherT hq (by decide) (grownS W g v1 v2)⟩
theorem Fin.newT {P W : World} {v1 v2 : Value} {xs : List Itm} {fs : List Flr} (b : Below P.heap.size P W) (o1 : Hid (OwI P.heap.size W v1 xs)) (o2 : Hid (OwF P.heap.size W v2 fs)) :
    Fin P (W.alloc (.cells #[v1, v2] 32)) W.heap.size v1 v2 xs fs :=
  ⟨b.alloc b.size _, b.size, by simp, heap_alloc_new _ _, (unhide o1).later ((Below.refl _ _).alloc (Nat.le_refl _) _), (unhide o2).later ((Below.refl _ _).alloc (Nat.le_refl _) _)⟩

theorem Fin.of {P W : World} {g gi gf n m : Nat} {xs : List Itm} {fs : List Flr} {A B : Obj} (b : Below P.heap.size P W) (kg : W.heap[g]? = some (.cells #[.slice (some ⟨gi, 0, none⟩) n n, .slice (some ⟨gf, 0, none⟩) m m] 32 (0, 0))) (hg : P.heap.size ≤ g)
    (k1 : W.heap[gi]? = some A) (h1 : P.heap.size ≤ gi) (k2 : W.heap[gf]? = some B) (h2 : P.heap.size ≤ gf) (o1 : Hid (∀ (W : World) (g B : Nat), W.heap[g]? = some A → B ≤ g → OwI B W (.slice (some ⟨g, 0, none⟩) n n) xs)) (o2 : Hid (∀ (W : World) (g C : Nat), W.heap[g]? = some B → C ≤ g → OwF C W (.slice (some ⟨g, 0, none⟩) m m) fs)) :
    Fin P W g (.slice (some ⟨gi, 0, none⟩) n n) (.slice (some ⟨gf, 0, none⟩) m m) xs fs := ⟨b, hg, (Array.getElem?_eq_some_iff.1 kg).1, kg, unhide o1 W gi _ k1 h1, unhide o2 W gf _ k2 h2⟩

theorem lowB3d (w : World) (A B C : Obj) : (((w.alloc A).alloc B).alloc C).drew.heap[w.heap.size]? = some A := lowB3 w A B C
theorem midB3d (w : World) (A B C : Obj) : (((w.alloc A).alloc B).alloc C).drew.heap[w.heap.size + 1]? = some B := midB3 w A B C
theorem newB3d (w : World) (A B C : Obj) : (((w.alloc A).alloc B).alloc C).drew.heap[w.heap.size + 1 + 1]? = some C := newB3 w A B C
theorem b3d (V : World) (A B C : Obj) : Below V.heap.size V (((V.alloc A).alloc B).alloc C).drew := ((((Below.refl V.heap.size V).alloc (Nat.le_refl _) A).alloc (by simp) B).alloc (by simp; omega) C).drew
/-- While an item is copied: the argument's variable, the new state's, the item's. -/
structure Cs5 (w W : World) (g gx : Nat) (v1 v2 u1 u2 : Value) (x : Itm) : Prop where
  bel : Below w.heap.size w W
  ks : W.heap[w.heap.size]? = some (.cells #[v1, v2] 32 (0, 0))
  kg : W.heap[g]? = some (.cells #[u1, u2] 32 (0, 0))
  kx : W.heap[gx]? = some (.cells #[.int .i64 x.1, .int .i64 x.2.1, .int .i64 x.2.2.1, .int .i64 x.2.2.2.1, .int .i64 x.2.2.2.2.1, .string x.2.2.2.2.2] 69 (0, 0))
theorem Cs5.later {w W Y : World} {g gx : Nat} {v1 v2 u1 u2 : Value} {x : Itm} (h : Cs5 w W g gx v1 v2 u1 u2 x) (b : Below W.heap.size W Y) : Cs5 w Y g gx v1 v2 u1 u2 x :=
  ⟨h.bel.trans (b.mono h.bel.size), (b.block _ (Array.getElem?_eq_some_iff.1 h.ks).1).trans h.ks, (b.block _ (Array.getElem?_eq_some_iff.1 h.kg).1).trans h.kg, (b.block _ (Array.getElem?_eq_some_iff.1 h.kx).1).trans h.kx⟩
theorem Cs5.drewH {w W : World} {g gx : Nat} {v1 v2 u1 u2 : Value} {x : Itm} (h : Hid (Cs5 w W g gx v1 v2 u1 u2 x)) : Hid (Cs5 w W.drew g gx v1 v2 u1 u2 x) := hide ((unhide h).later ((Below.refl _ _).drew))
theorem kCs5 {w W : World} {g gx : Nat} {v1 v2 u1 u2 : Value} {x : Itm} (h : Hid (Cs5 w W g gx v1 v2 u1 u2 x)) : Below w.heap.size w W ∧ W.cell? ⟨g, 0, none⟩ = some u1 ∧ W.cell? ⟨g, 1, none⟩ = some u2 ∧ W.cell? ⟨gx, 0, none⟩ = some (.int .i64 x.1) ∧ W.cell? ⟨gx, 1, none⟩ = some (.int .i64 x.2.1) ∧ W.cell? ⟨gx, 2, none⟩ = some (.int .i64 x.2.2.1) ∧ W.cell? ⟨gx, 3, none⟩ = some (.int .i64 x.2.2.2.1) ∧ W.cell? ⟨gx, 4, none⟩ = some (.int .i64 x.2.2.2.2.1) ∧ W.cell? ⟨gx, 5, none⟩ = some (.string x.2.2.2.2.2) := by
  obtain ⟨p0, p1, -⟩ := blk_cells2 (unhide h).kg
  obtain ⟨h0, h1, h2, h3, h4, h5, -⟩ := blk_cells6 (unhide h).kx
  exact ⟨(unhide h).bel, p0, p1, h0, h1, h2, h3, h4, h5⟩
theorem ow_blkI {base : Nat} {w : World} {g n cap : Nat} {xs : List Itm} (h : OwI base w (.slice (some ⟨g, 0, none⟩) n cap) xs) : ∃ cs fz, w.heap[g]? = some (.cells cs 69 fz) := by
  rcases h.2 with ⟨hv, _⟩ | ⟨g', cap', cur, hv, _, hh, _⟩
  · simp at hv
  · simp only [Value.slice.injEq, Option.some.injEq, Addr.mk.injEq, and_true] at hv
    obtain ⟨rfl, -, -⟩ := hv
    exact ⟨_, _, hh⟩
theorem set6_far {W : World} {g h o : Nat} {v0 v1 v2 v3 v4 v5 : Value} {x : Obj} (k : W.heap[g]? = some x) (ne : g ≠ h) : ((((((W.setCell ⟨h, o, none⟩ v0).setCell ⟨h, o + 1, none⟩ v1).setCell ⟨h, o + 2, none⟩ v2).setCell ⟨h, o + 3, none⟩ v3).setCell ⟨h, o + 4, none⟩ v4).setCell ⟨h, o + 5, none⟩ v5).heap[g]? = some x :=
  blk_at (blk_at (blk_at (blk_at (blk_at (blk_at k ne) ne) ne) ne) ne) ne
theorem Cs5.set {w W : World} {g gx h o : Nat} {v1 v2 u1 u2 : Value} {x : Itm} {c0 c1 c2 c3 c4 c5 : Value} (q : Cs5 w W g gx v1 v2 u1 u2 x) (h0 : w.heap.size ≤ h) (n0 : w.heap.size ≠ h) (n1 : g ≠ h) (n2 : gx ≠ h) :
    Cs5 w ((((((W.setCell ⟨h, o, none⟩ c0).setCell ⟨h, o + 1, none⟩ c1).setCell ⟨h, o + 2, none⟩ c2).setCell ⟨h, o + 3, none⟩ c3).setCell ⟨h, o + 4, none⟩ c4).setCell ⟨h, o + 5, none⟩ c5) g gx v1 v2 u1 u2 x :=
  ⟨(((((q.bel.setCell (p := ⟨h, o, none⟩) h0 _).setCell (p := ⟨h, o + 1, none⟩) h0 _).setCell (p := ⟨h, o + 2, none⟩) h0 _).setCell (p := ⟨h, o + 3, none⟩) h0 _).setCell (p := ⟨h, o + 4, none⟩) h0 _).setCell (p := ⟨h, o + 5, none⟩) h0 _, set6_far q.ks n0, set6_far q.kg n1, set6_far q.kx n2⟩
end Go.Proofs.YtighiahppjekeabGreat

namespace Go.Proofs.YtighiahppjekeabGreat
open Go.RowKit

theorem oneFs (fs : List Flr) : ∀ u ∈ fs.flatMap encF, u.oneCell' = true := by
  intro u hu
  obtain ⟨x, -, hx⟩ := List.mem_flatMap.1 hu
  exact oneF x u hx
set_option maxHeartbeats 8000000 in
set_option maxRecDepth 100000 in
theorem istatecopy_any (ai : Option Addr) (ni ci : Nat) (xs : List Itm) (hS : Sml xs) (af : Option Addr) (nf cf : Nat) (fs : List Flr) (w : World) (hni : ni ≤ 2000000) (hnf : nf ≤ 2000000) (hx : Rw encI 6 w (.slice ai ni ci) xs) (hf : Rw encF 2 w (.slice af nf cf) fs) :
    Calls Tryz.prog 31 #[.agg #[.slice ai ni ci, .slice af nf cf]] w fun e w' => ∃ a1 c1 a2 c2, e = .returned (.agg #[.slice a1 ni c1, .slice a2 nf c2]) ∧ OwI w.heap.size w' (.slice a1 ni c1) xs ∧ OwF w.heap.size w' (.slice a2 nf c2) fs ∧ Below w.heap.size w w' := by
  obtain ⟨i0, hi, hz0, hz1, hz2⟩ := info_parts Tryz.infoItem
  obtain ⟨i1, gi, gz0, gz1, gz2⟩ := info_parts Tryz.infoFloor
  have hb1 : i0.bytes * ni ≤ 281474976710656 := by rw [hz2]; omega
  have hb2 : i1.bytes * nf ≤ 281474976710656 := by rw [gz2]; omega
  have hm1 : ni ≤ maxLen := by unfold maxLen; omega
  have hm2 : nf ≤ maxLen := by unfold maxLen; omega
  obtain ⟨OI, mk1, po1⟩ := made_obj encI_len (by omega) 29 69 i0 (.agg #[.int .i64 0, .int .i64 0, .int .i64 0, .int .i64 0, .int .i64 0, .string ⟨#[]⟩]) zeroI rfl Tryz.underlying29 hi hz0 hz1 ni hb1 hm1
  obtain ⟨OF, mk2, po2⟩ := made_obj encF_len (by omega) 30 48 i1 (.agg #[.int .i64 0, .int .i64 0]) zeroF rfl Tryz.underlying30 gi gz0 gz1 nf hb2 hm2
  have PO1 := hide po1
  have PO2 := hide po2
  clear po1 po2
  have HX := hide hx
  have HF := hide hf
  have HS := hide hS
  have LX := hide hx.len.1
  have LF := hide hf.len.1
  have HZ := hide hz2
  have GZ := hide gz2
  clear hx hf hS hz2 gz2
  go_enter Tryz.func31, Tryz.ntmps31
  go_upto_region 1 with fail
  obtain ⟨V, hV⟩ : ∃ V, V = (w.alloc (.cells #[.slice ai ni ci, .slice af nf cf] 32)).alloc StZ := ⟨_, rfl⟩
  have bV : Below w.heap.size w V := by rw [hV]; exact ((Below.refl w.heap.size w).alloc (Nat.le_refl _) _).alloc (by simp) _
  have kS : V.heap[w.heap.size]? = some (.cells #[.slice ai ni ci, .slice af nf cf] 32 (0, 0)) := by rw [hV]; exact lowB2 w _ _
  have kR : V.heap[w.heap.size + 1]? = some StZ := by rw [hV]; exact newB2 w _ _
  rw [← hV]
  have zV : w.heap.size + 1 < V.heap.size := (Array.getElem?_eq_some_iff.1 kR).1
  have KS := hide (And.intro kS (show w.heap.size < V.heap.size by omega))
  have KR := hide kR
  have BV := hide bV
  clear hV kS kR bV
  obtain ⟨s0, s1, -⟩ := blk_cells2 (unhide KS).1
  have zs := (unhide KS).2
  go_cut [3] from 6 to 14 (fun p wx => ∃ (g : Nat) (a1 a2 : Option Addr), p = .pointer (some ⟨g, 0, none⟩) ∧ Fin V wx g (.slice a1 ni ni) (.slice a2 nf nf) (List.replicate ni zeroI) (List.replicate nf zeroF))
  case first =>
    go_region
    all_goals
      go_wp2_with fail
      go_meet
      first
        | with_reducible exact ⟨_, _, _, rfl, Fin.of (b3d V _ _ _) (lowB3d V _ _ _) (by omega) (midB3d V _ _ _) (by omega) (newB3d V _ _ _) (by omega) PO1 PO2⟩
        | with_reducible exact ⟨_, _, _, rfl, Fin.of (b3d V _ _ _) (lowB3d V _ _ _) (by omega) (newB3d V _ _ _) (by omega) (midB3d V _ _ _) (by omega) PO1 PO2⟩
        | with_reducible exact ⟨_, _, _, rfl, Fin.of (b3d V _ _ _) (midB3d V _ _ _) (by omega) (lowB3d V _ _ _) (by omega) (newB3d V _ _ _) (by omega) PO1 PO2⟩
        | with_reducible exact ⟨_, _, _, rfl, Fin.of (b3d V _ _ _) (midB3d V _ _ _) (by omega) (newB3d V _ _ _) (by omega) (lowB3d V _ _ _) (by omega) PO1 PO2⟩
        | with_reducible exact ⟨_, _, _, rfl, Fin.of (b3d V _ _ _) (newB3d V _ _ _) (by omega) (lowB3d V _ _ _) (by omega) (midB3d V _ _ _) (by omega) PO1 PO2⟩
        | with_reducible exact ⟨_, _, _, rfl, Fin.of (b3d V _ _ _) (newB3d V _ _ _) (by omega) (midB3d V _ _ _) (by omega) (lowB3d V _ _ _) (by omega) PO1 PO2⟩
  case rest =>
    obtain ⟨g, a1, a2, rfl, hfin⟩ := hcut
    have bc := (unhide BV).trans (hfin.bel.mono (unhide BV).size)
    have kS := (hfin.bel.block _ (unhide KS).2).trans (unhide KS).1
    have kR := (hfin.bel.block _ zV).trans (unhide KR)
    have gg := hfin.ge
    have gl := hfin.lt
    have KG := hide hfin.blk
    have O1 := hide (hfin.o1.base (base' := w.heap.size + 1 + 1) (by omega))
    have O2 := hide (hfin.o2.base (base' := w.heap.size + 1 + 1) (by omega))
    obtain ⟨t0, t1, -⟩ := blk_cells2 kS
    have KS2 := hide kS
    have KR2 := hide kR
    have BC := hide bc
    have zsc : w.heap.size < wc.heap.size := by omega
    clear hfin kS kR bc s0 s1 KS KR BV zs
    go_wp2
    clear t0 t1
    go_loopw [18] (fun i wr => ∃ k : Nat, k ≤ ni ∧ i = .int .i64 k ∧ Below w.heap.size w wr ∧ wr.heap[w.heap.size]? = some (.cells #[.slice ai ni ci, .slice af nf cf] 32 (0, 0)) ∧ wr.heap[w.heap.size + 1]? = some StZ ∧ wr.heap[g]? = some (.cells #[.slice a1 ni ni, .slice a2 nf nf] 32 (0, 0)) ∧ OwI (w.heap.size + 1 + 1) wr (.slice a1 ni ni) (xs.take k ++ List.replicate (xs.length - k) zeroI) ∧ OwF (w.heap.size + 1 + 1) wr (.slice a2 nf nf) (List.replicate nf zeroF)) (fun i _ => ni - (intOf i).toNat)
    case atStart => exact ⟨0, Nat.zero_le _, rfl, unhide BC, unhide KS2, unhide KR2, unhide KG, by rw [show xs.take 0 ++ List.replicate (xs.length - 0) zeroI = List.replicate ni zeroI by rw [← unhide LX]; simp]; exact unhide O1, unhide O2⟩
    case round =>
      obtain ⟨k, hk, rfl, hb, hks, hkr, hkg, ho1, ho2⟩ := hrel
      clear BC KS2 KR2 KG O1 O2
      have hzs : w.heap.size < wr.heap.size := (Array.getElem?_eq_some_iff.1 hks).1
      have hzr : w.heap.size + 1 < wr.heap.size := (Array.getElem?_eq_some_iff.1 hkr).1
      have hzg : g < wr.heap.size := (Array.getElem?_eq_some_iff.1 hkg).1
      by_cases hlt : k < ni
      · obtain ⟨x, b, off, hx, rfl, hbw, hcap, hc⟩ := (unhide HX).at hlt
        obtain ⟨c0, c1, c2, c3, c4, c5⟩ := item_cells (w := wr) (b := b) (off := off) (k := k) (x := x) (fun j hj => (hb.cell (p := ⟨b, off + k * 6 + j, none⟩) hbw).trans (hc j hj))
        have hsx := unhide HS k x hx
        have hbw2 : b < wr.heap.size := Nat.lt_of_lt_of_le hbw hb.size
        have HB := hide hb
        have HKS := hide hks
        have HKR := hide hkr
        have HKG := hide hkg
        have HO1 := hide ho1
        have HO2 := hide ho2
        have HX1 := hide hx
        clear hb hks hkr hkg ho1 ho2 hx hc
        go_upto_region 5 with fail
        clear c0 c1 c2 c3 c4 c5
        obtain ⟨Y, hY⟩ : ∃ Y, Y = wr.alloc (.cells #[.int .i64 x.1, .int .i64 x.2.1, .int .i64 x.2.2.1, .int .i64 x.2.2.2.1, .int .i64 x.2.2.2.2.1, .string x.2.2.2.2.2] 69) := ⟨_, rfl⟩
        have bY : Below wr.heap.size wr Y := by rw [hY]; exact (Below.refl wr.heap.size wr).alloc (Nat.le_refl _) _
        have kY : Y.heap[wr.heap.size]? = some (.cells #[.int .i64 x.1, .int .i64 x.2.1, .int .i64 x.2.2.1, .int .i64 x.2.2.2.1, .int .i64 x.2.2.2.2.1, .string x.2.2.2.2.2] 69 (0, 0)) := by rw [hY]; exact heap_alloc_new _ _
        rw [← hY]
        have zY : wr.heap.size < Y.heap.size := (Array.getElem?_eq_some_iff.1 kY).1
        have CV : Hid (Cs5 w Y g wr.heap.size (.slice (some ⟨b, off, none⟩) ni ci) (.slice af nf cf) (.slice a1 ni ni) (.slice a2 nf nf) x) := hide ⟨(unhide HB).trans (bY.mono (unhide HB).size), (bY.block _ hzs).trans (unhide HKS), (bY.block _ hzg).trans (unhide HKG), kY⟩
        have CD := Cs5.drewH CV
        have hHlt := (fun h (e : (Value.slice a1 ni ni).ownBlock = some h) => (World.ownsRow.lt (unhide HO1) h e).2)
        have HO1Y := hide ((unhide HO1).later bY)
        have HO2Y := hide ((unhide HO2).later bY)
        have HKRY := hide ((bY.block _ hzr).trans (unhide HKR))
        clear hY bY kY HB HKS HKG HO1 HO2 HKR
        obtain ⟨h, ha1, hhl⟩ : ∃ h, a1 = some ⟨h, 0, none⟩ ∧ w.heap.size + 1 + 1 ≤ h := by
          rcases (unhide HO1Y).2 with ⟨hv, h00⟩ | ⟨h, cap', cur, hv, hlo, -⟩
          · have := unhide LX; rw [fill_len _ _ _ (by omega)] at h00; omega
          · simp only [Value.slice.injEq] at hv
            exact ⟨h, hv.1, hlo⟩
        subst ha1
        have hfl : (xs.take k ++ List.replicate (xs.length - k) zeroI).length = ni := by rw [fill_len _ _ _ (by have := unhide LX; omega)]; exact (unhide LX).symm
        have HFL := hide hfl
        have ngh := own_ne (show Y.ownsRow (w.heap.size + 1 + 1) 69 6 (.slice (some ⟨h, 0, none⟩) ni ni) _ _ from unhide HO1Y) (unhide CV).kg (by decide)
        have nxh : wr.heap.size ≠ h := by
          have := hHlt h rfl
          omega
        have n1 : g ≠ h := fun e => ngh (by rw [e]; rfl)
        have HO1D := hide ((unhide HO1Y).later ((Below.refl _ _).drew))
        clear hfl ngh
        go_region_held3 (fun W => Below w.heap.size w W ∧ W.cell? ⟨g, 0, none⟩ = some (.slice (some ⟨h, 0, none⟩) ni ni) ∧ W.cell? ⟨g, 1, none⟩ = some (.slice a2 nf nf) ∧ W.cell? ⟨wr.heap.size, 0, none⟩ = some (.int .i64 x.1) ∧ W.cell? ⟨wr.heap.size, 1, none⟩ = some (.int .i64 x.2.1) ∧ W.cell? ⟨wr.heap.size, 2, none⟩ = some (.int .i64 x.2.2.1) ∧ W.cell? ⟨wr.heap.size, 3, none⟩ = some (.int .i64 x.2.2.2.1) ∧ W.cell? ⟨wr.heap.size, 4, none⟩ = some (.int .i64 x.2.2.2.2.1) ∧ W.cell? ⟨wr.heap.size, 5, none⟩ = some (.string x.2.2.2.2.2))
          (first | (with_reducible exact kCs5 CV) | (with_reducible exact kCs5 CD) | (with_reducible exact kCs5 CA) | (with_reducible exact kCs5 (hide ((unhide CA).set (by omega) (by omega) n1 nxh))))
          (first | (go_at_call 59; refine (icopyI_any x (by omega) _).mono ?_; rintro e w6 ⟨rfl, b6⟩; (first | (with_reducible have CA := hide ((unhide CD).later b6); have OA := hide ((unhide HO1D).later b6)) | (with_reducible have CA := hide ((unhide CV).later b6); have OA := hide ((unhide HO1Y).later b6))); have zA : Y.heap.size ≤ w6.heap.size := b6.size; have b6Y : Below Y.heap.size Y w6 := (by first | exact up0 b6 | exact b6); have B6 := hide b6Y; obtain ⟨y0, y1, y2, y3, y4, y5, q0, q1, q2, q3, q4, q5, qf⟩ := own_cells6 (show w6.ownsRow (w.heap.size + 1 + 1) 69 6 (.slice (some ⟨h, 0, none⟩) ni ni) ni _ from by have hh := unhide OA; unfold OwI Ow at hh; rw [unhide HFL] at hh; exact hh) hlt; clear b6 b6Y))
        have R1 := (unhide OA).put (by omega) encI_len (unhide HFL).symm k hlt x
        rw [fill_set xs zeroI k x (unhide HX1)] at R1
        have HR1 := hide R1
        have CE := hide ((unhide CA).set (o := k * 6) (h := h) (c0 := .int .i64 x.1) (c1 := .int .i64 x.2.1) (c2 := .int .i64 x.2.2.1) (c3 := .int .i64 x.2.2.2.1) (c4 := .int .i64 x.2.2.2.2.1) (c5 := .string x.2.2.2.2.2) (by omega) (by omega) n1 nxh)
        have HKR6 := hide (set6_far (h := h) (o := k * 6) (v0 := .int .i64 x.1) (v1 := .int .i64 x.2.1) (v2 := .int .i64 x.2.2.1) (v3 := .int .i64 x.2.2.2.1) (v4 := .int .i64 x.2.2.2.2.1) (v5 := .string x.2.2.2.2.2) (((unhide B6).block _ (by omega)).trans (unhide HKRY)) (show w.heap.size + 1 ≠ h by omega))
        have HO26 := hide (((unhide HO2Y).later (unhide B6)).otherT (T := 69) (b := some h) (fun q e => by cases e; exact ow_blkI (unhide OA)) (by decide) (setW_own (encI x) (show w6.ownsRow (w.heap.size + 1 + 1) 69 6 (.slice (some ⟨h, 0, none⟩) ni ni) ni _ from by have hh := unhide OA; unfold OwI Ow at hh; rw [unhide HFL] at hh; exact hh) (k * 6)).2)
        clear R1 HO1D HO1Y HO2Y CV CD CA OA HKRY B6 HFL q0 q1 q2 q3 q4 q5 qf
        go_wp2
        go_roundw
        case rel => exact ⟨k + 1, by omega, by go_num, (unhide CE).bel, (unhide CE).ks, unhide HKR6, (unhide CE).kg, unhide HR1, unhide HO26⟩
        case measure => simp [intOf]; omega
      · have hkn : k = ni := by omega
        obtain ⟨t0, t1, tf⟩ := blk_cells2 hks
        obtain ⟨g0, g1, gf⟩ := blk_cells2 hkg
        have HB := hide hb
        have HKR := hide hkr
        have HKG := hide hkg
        have HO1 : Hid (OwI (w.heap.size + 1 + 1) wr (.slice a1 ni ni) xs) := by
          have h := ho1
          rw [List.take_of_length_le (by have := unhide LX; omega), show xs.length - k = 0 by have := unhide LX; omega] at h
          simpa using hide h
        have HO2 := hide ho2
        have RF := hide ((unhide HF).later hb)
        have hlz : (List.replicate nf zeroF).length = fs.length := by rw [List.length_replicate]; exact unhide LF
        clear hb hks hkr hkg ho1 ho2 tf gf
        obtain ⟨w9, hrun, o9, gr9⟩ := copy_own (P := Tryz.prog) encF_len (by omega) 48 30 i1 Tryz.underlying30 gi gz1 wr (w.heap.size + 1 + 1) (.slice a2 nf nf) (.slice af nf cf) (List.replicate nf zeroF) fs nf (unhide LF) (oneFs fs) (unhide HO2) (unhide RF) hlz 3
        have O9 := hide o9
        have G9 := hide gr9
        clear o9 gr9
        have nR := own_ne (show wr.ownsRow (w.heap.size + 1 + 1) 48 2 (.slice a2 nf nf) _ _ from unhide HO2) (unhide HKR) (by decide)
        have nG := own_ne (show wr.ownsRow (w.heap.size + 1 + 1) 48 2 (.slice a2 nf nf) _ _ from unhide HO2) (unhide HKG) (by decide)
        have kr9 := ((unhide G9).block _ hzr (fun e => nR e.symm)).trans (unhide HKR)
        have kg9 := ((unhide G9).block _ hzg (fun e => nG e.symm)).trans (unhide HKG)
        obtain ⟨p0, p1, pf⟩ := blk_cells2 kr9
        obtain ⟨j0, j1, jf⟩ := blk_cells2 kg9
        have zr9 : w.heap.size + 1 < w9.heap.size := (Array.getElem?_eq_some_iff.1 kr9).1
        have zg9 : g < w9.heap.size := (Array.getElem?_eq_some_iff.1 kg9).1
        have HB9 := hide ((Trn.of_grown (unhide G9)).below (unhide HB) (unhide HB).size (fun i q => by have := (World.ownsRow.lt (unhide HO2) _ q).1; omega))
        have hap := owns_apart (unhide HO2) (unhide HO1) (by decide)
        have HO19 := hide ((Trn.of_grown (unhide G9)).own (unhide HO1) (fun i hi e => by rcases hap with h | h; rw [h] at e; cases e; exact h (e.trans hi.symm)))
        clear kr9 kg9 nR nG hap G9 HO1 HO2 HB HKR HKG RF
        go_wp2
        exact bodyPost_ret (v := .agg #[.slice a1 ni ni, .slice a2 nf nf]) (by simp [results, Tryz.results31, go_sem, p0, p1]) rfl ⟨a1, ni, a2, nf, rfl, Ow.base (((unhide HO19).set ⟨w.heap.size + 1, 0, none⟩ (by simp) _).set ⟨w.heap.size + 1, 1, none⟩ (by simp) _) (by omega), Ow.base (((unhide O9).set ⟨w.heap.size + 1, 0, none⟩ (by simp) _).set ⟨w.heap.size + 1, 1, none⟩ (by simp) _) (by omega), ((unhide HB9).setCell (p := ⟨w.heap.size + 1, 0, none⟩) (by simp) _).setCell (p := ⟨w.heap.size + 1, 1, none⟩) (by simp) _⟩
end Go.Proofs.YtighiahppjekeabGreat

namespace Go.Proofs.YtighiahppjekeabGreat
open Go.RowKit

abbrev StB7 (v1 v2 : Value) : Obj := .cells #[v1, v2] 32 (0, 0)
theorem Rw.flat {α : Type} {enc : α → List Value} {k : Nat} (hk : ∀ x, (enc x).length = k) (h0 : 0 < k) {w : World} {b off n cap : Nat} {xs : List α} (h : Rw enc k w (.slice (some ⟨b, off, none⟩) n cap) xs) : ∀ j u, (xs.flatMap enc)[j]? = some u → w.cell? ((⟨b, off, none⟩ : Addr).add j) = some u := by
  intro j v hj
  have hjl : j < (xs.flatMap enc).length := (List.getElem?_eq_some_iff.1 hj).1
  rw [flat_len hk] at hjl
  obtain ⟨e, hr⟩ := div_parts h0 j
  have hq : j / k < xs.length := Nat.div_lt_of_lt_mul (by rw [Nat.mul_comm]; exact hjl)
  obtain ⟨x, b', off', hx, ha, hb, hc, cc⟩ := h.at (i := j / k) (by rw [h.len.1]; exact hq)
  simp only [Option.some.injEq, Addr.mk.injEq, and_true] at ha
  obtain ⟨rfl, rfl⟩ := ha
  have ea : (⟨b, off, none⟩ : Addr).add j = ⟨b, off + j / k * k + j % k, none⟩ := by
    rw [add_off]; congr 1; omega
  rw [ea, cc (j % k) hr, ← flat_at hk xs (j / k) x (j % k) hx hr, ← e]
  exact hj
/-- A row of the call's own, or an empty one. -/
def Wk7 {α : Type} (enc : α → List Value) (k : Nat) (E : TypeId) (base : Nat) (w : World) (v : Value) (xs : List α) : Prop := Ow enc k E base w v xs ∨ (xs = [] ∧ ∃ a c, v = .slice a 0 c)
theorem Wk7.rw {α : Type} {enc : α → List Value} {k : Nat} (hk : ∀ x, (enc x).length = k) {e : TypeId} {base : Nat} {w : World} {v : Value} {xs : List α} (h : Wk7 enc k e base w v xs) : Rw enc k w v xs := by
  rcases h with h | ⟨rfl, a, c, rfl⟩
  · exact h.rw hk
  · exact ⟨a, c, rfl, Nat.zero_le _, .inl rfl⟩
theorem Wk7.later {α : Type} {enc : α → List Value} {k : Nat} {e : TypeId} {base : Nat} {w w' : World} {v : Value} {xs : List α} (h : Wk7 enc k e base w v xs) (hb : Below w.heap.size w w') : Wk7 enc k e base w' v xs := h.imp (fun h => h.later hb) id
theorem Wk7.base {α : Type} {enc : α → List Value} {k : Nat} {e : TypeId} {base base' : Nat} {w : World} {v : Value} {xs : List α} (h : Wk7 enc k e base w v xs) (hb : base' ≤ base) : Wk7 enc k e base' w v xs := h.imp (fun h => h.base hb) id
theorem Wk7.other {α : Type} {enc : α → List Value} {k : Nat} {E T : TypeId} {base : Nat} {w w' : World} {v : Value} {xs : List α} {b : Nat} {cs : Array Value} {fz : Nat × Nat} (h : Wk7 enc k E base w v xs) (hb : w.heap[b]? = some (.cells cs T fz)) (hne : E ≠ T) (hg : w.grownBy w' (some b)) : Wk7 enc k E base w' v xs := h.imp (fun h => h.otherT (fun q e => by cases e; exact ⟨_, _, hb⟩) hne hg) id
abbrev Wk7I (base : Nat) (w : World) (v : Value) (xs : List Itm) : Prop := Wk7 encI 6 69 base w v xs
abbrev Wk7F (base : Nat) (w : World) (v : Value) (fs : List Flr) : Prop := Wk7 encF 2 48 base w v fs

theorem run_cp7_none {P : Program} {w : World} (t ty e : TypeId) (i : TypeInfo) (ht : P.underlying t = some (.slice e)) (hi : P.info? e = some i) (ad : Addr) (x : Option Addr) (c : Nat) :
    (Builtin.append_ #[t, t] ty #[.slice (some ad) 0 0, .slice x 0 c]).run P w = .ok (.slice (some ad) 0 0) w := by
  cases x <;> simp [Builtin.append_, run_underlying ht, sizeOf, typeInfo, hi, Builtin.lenOf, Builtin.firstCells, storeCells, loadCells, loadCellsFrom]
theorem step_cp7 {P : Program} {α : Type} {enc : α → List Value} {k : Nat} (hk : ∀ x, (enc x).length = k) (h0 : 0 < k) {ops : Array Oper} {o : Oper} {a : Act} {K : Act → World → Prop} {Q : Exit → Act → World → Prop} {R : Prop}
    (E T : TypeId) (i : TypeInfo) (z : Value) (bytes : Nat) (ht : P.underlying T = some (.slice E)) (hi : P.info? E = some i) (hz : i.zero = some z) (hsize : i.size = k) (hby : i.bytes = bytes) (hzs : z.cells.size = k) (hb : bytes ≤ 1000)
    (w : World) (hgd : o.guard = none) (s xo : Operand) (ho : o.op = .call { callee := .builtin .append, args := #[s, xo], argTypes := #[T, T] })
    (ad : Addr) (hs : a.eval s = .slice (some ad) 0 0) (u : Value) (ys : List α) (n : Nat) (hn : Hid (n = ys.length)) (hx : a.eval xo = u) (hu : Rw enc k w u ys) (hlen : n ≤ 2000000)
    (h : ∀ a' c' w', Wk7 enc k E w.heap.size w' (.slice a' n c') ys → Below w.heap.size w w' → K (a.put o.dst (.slice a' n c')) w') :
    if Region.wanted o (yielded ops a.tmps) = true then Oper.wp P o a w K Q else R := by
  obtain rfl := unhide hn
  rw [if_pos (by simp [Region.wanted, hgd])]
  by_cases hm : ys.length = 0
  · have hy : ys = [] := List.eq_nil_of_length_eq_zero hm
    obtain ⟨x, c, hu'⟩ : ∃ x c, u = .slice x 0 c := by
      obtain ⟨x, n, c, e, hn⟩ := hu.form
      exact ⟨x, c, by rw [e, hn, hm]⟩
    have hrun := run_cp7_none (P := P) (w := w) T o.type E i ht hi ad x c
    unfold Oper.wp
    simp [execOp, ho, resolve, invoke, builtin, hs, hx, hu', hrun, Result.andThen]
    have := h (some ad) 0 w (.inr ⟨hy, some ad, 0, by rw [hm]⟩) (Below.refl _ _)
    rw [hm] at this
    exact this
  · obtain ⟨x, cap, rfl, hcap, hr⟩ := hu
    have hu : Rw enc k w (.slice x ys.length cap) ys := ⟨x, cap, rfl, hcap, hr⟩
    rcases hr with hr | ⟨b, off, rfl, hb', hc⟩
    · rw [hr] at hm; exact absurd rfl hm
    · have hcells := hu.flat hk h0
      obtain ⟨v', w', hrun, r1, r2⟩ := run_append_arg_grows (P := P) w T o.type E i z k bytes ht hi hz hsize hby hzs h0 ad 0 0 [] (by simp) (fun j u hj => by simp at hj) ⟨b, off, none⟩ ys.length cap (ys.flatMap enc) (by rw [flat_len hk]) hcells (by omega) (by unfold maxLen; omega) (by
        have : (0 + ys.length) * bytes ≤ 2000000 * 1000 := Nat.mul_le_mul (by omega) hb
        omega)
      have hO : Ow enc k E w.heap.size w' v' ys := by
        unfold Ow
        simpa using r1
      obtain ⟨a', c', rfl⟩ := hO.form
      unfold Oper.wp
      simp [execOp, ho, resolve, invoke, builtin, hs, hx, hrun, Result.andThen]
      exact h a' c' w' (.inl hO) ⟨r2.os, r2.tape, r2.output, r2.size, fun q hq => r2.block q hq (by simp)⟩

variable {w V W W' : World} {v1 v2 : Value}
/-- The argument's variable and the result's, while the copy is made. -/
structure C7 (w W : World) (v1 v2 : Value) : Prop where
  bel : Below w.heap.size w W
  k1 : W.heap[w.heap.size]? = some (StB7 v1 v2)
  k2 : W.heap[w.heap.size + 1]? = some (StB7 (.slice none 0 0) (.slice none 0 0))
theorem C7.lt (h : C7 w W v1 v2) : w.heap.size + 1 < W.heap.size := (Array.getElem?_eq_some_iff.1 h.k2).1
theorem C7.later (h : C7 w W v1 v2) (b : Below W.heap.size W W') : C7 w W' v1 v2 := by
  have := h.lt
  exact ⟨h.bel.trans (b.mono h.bel.size), (b.block _ (by omega)).trans h.k1, (b.block _ (by omega)).trans h.k2⟩
theorem C7.drewH (h : Hid (C7 w W v1 v2)) : Hid (C7 w W.drew v1 v2) := hide ((unhide h).later (Below.refl _ _).drew)
theorem C7.allocH (h : Hid (C7 w W v1 v2)) (o : Obj) : Hid (C7 w (W.alloc o) v1 v2) := hide ((unhide h).later ((Below.refl _ _).alloc (Nat.le_refl _) o))
theorem kC7 (h : Hid (C7 w W v1 v2)) : Below w.heap.size w W ∧ W.cell? ⟨w.heap.size, 0, none⟩ = some v1 ∧ W.cell? ⟨w.heap.size, 1, none⟩ = some v2 := by
  obtain ⟨p0, p1, _⟩ := blk_cells2 (unhide h).k1
  exact ⟨(unhide h).bel, p0, p1⟩
theorem kC7s (h : Hid (C7 w W v1 v2)) (u1 u2 : Value) : Below w.heap.size w ((W.setCell ⟨w.heap.size + 1, 0, none⟩ u1).setCell ⟨w.heap.size + 1, 1, none⟩ u2) ∧ ((W.setCell ⟨w.heap.size + 1, 0, none⟩ u1).setCell ⟨w.heap.size + 1, 1, none⟩ u2).cell? ⟨w.heap.size, 0, none⟩ = some v1 ∧ ((W.setCell ⟨w.heap.size + 1, 0, none⟩ u1).setCell ⟨w.heap.size + 1, 1, none⟩ u2).cell? ⟨w.heap.size, 1, none⟩ = some v2 := by
  obtain ⟨p0, p1, _⟩ := blk_cells2 (blk_at (h := w.heap.size + 1) (o := 1) (u := u2) (blk_at (h := w.heap.size + 1) (o := 0) (u := u1) (unhide h).k1 (by omega)) (by omega))
  exact ⟨((unhide h).bel.setCell (p := ⟨w.heap.size + 1, 0, none⟩) (by simp) _).setCell (p := ⟨w.heap.size + 1, 1, none⟩) (by simp) _, p0, p1⟩
theorem C7.new (w : World) (v1 v2 : Value) : C7 w ((w.alloc (StB7 v1 v2)).alloc (StB7 (.slice none 0 0) (.slice none 0 0))) v1 v2 :=
  ⟨((Below.refl w.heap.size w).alloc (Nat.le_refl _) _).alloc (by simp) _, (Below.heap_alloc _ _ _ (by simp)).trans (heap_alloc_new _ _), newB2 _ _ _⟩
theorem later_al7 {X Y : World} {o : Obj} (b : Below (X.alloc o).heap.size (X.alloc o) Y) : Below X.heap.size X Y := ((Below.refl X.heap.size X).alloc (Nat.le_refl _) o).trans (b.mono (by simp))

set_option maxHeartbeats 8000000 in
set_option maxRecDepth 100000 in
theorem l3copy7_any (a1 : Option Addr) (n1 c1 : Nat) (its : List Itm) (a2 : Option Addr) (n2 c2 : Nat) (fls : List Flr) (w : World) (h1 : n1 ≤ 2000000) (h2 : n2 ≤ 2000000) (hx : Rw encI 6 w (.slice a1 n1 c1) its) (hf : Rw encF 2 w (.slice a2 n2 c2) fls) :
    Calls Tryz.prog 19 #[.agg #[.slice a1 n1 c1, .slice a2 n2 c2]] w fun e w' => ∃ b1 d1 b2 d2, e = .returned (.agg #[.slice b1 n1 d1, .slice b2 n2 d2]) ∧ Wk7I w.heap.size w' (.slice b1 n1 d1) its ∧ Wk7F w.heap.size w' (.slice b2 n2 d2) fls ∧ Below w.heap.size w w' := by
  obtain ⟨i0, hi, hz0, hz1, hz2⟩ := info_parts Tryz.infoItem
  obtain ⟨i1, gi, gz0, gz1, gz2⟩ := info_parts Tryz.infoFloor
  have E1 := hide hx.len.1
  have E2 := hide hf.len.1
  have HX := hide hx
  have HF := hide hf
  clear hx hf
  go_enter Tryz.func19, Tryz.ntmps19
  go_upto_region 1 with fail
  obtain ⟨V, hV⟩ : ∃ V, V = (w.alloc (StB7 (.slice a1 n1 c1) (.slice a2 n2 c2))).alloc (StB7 (.slice none 0 0) (.slice none 0 0)) := ⟨_, rfl⟩
  have CV := hide (show C7 w V (.slice a1 n1 c1) (.slice a2 n2 c2) from by rw [hV]; exact C7.new _ _ _)
  rw [← hV]
  clear hV
  have CD := C7.drewH CV
  have z0 := (unhide CD).bel.size
  have z1 := (unhide CD).lt
  go_region_held3 (fun W => Below w.heap.size w W ∧ W.cell? ⟨w.heap.size, 0, none⟩ = some (.slice a1 n1 c1) ∧ W.cell? ⟨w.heap.size, 1, none⟩ = some (.slice a2 n2 c2))
    (first | (with_reducible exact kC7 CV) | (with_reducible exact kC7 CD) | (with_reducible exact kC7 CB) | (with_reducible exact kC7 CA) | (with_reducible exact kC7 (C7.drewH (C7.allocH CV _))) | (with_reducible exact kC7 (C7.drewH (C7.allocH (C7.allocH CV _) _))) | (with_reducible exact kC7 (C7.allocH CA _)) | (with_reducible exact kC7 (C7.allocH CB _)) | (with_reducible exact kC7s CB _ _) | (with_reducible exact kC7s CA _ _))
    (first
      | (refine step_cp7 encI_len (by omega) 69 29 i0 _ 56 Tryz.underlying29 hi hz0 hz1 hz2 rfl (by omega) _ rfl _ _ rfl _ rfl (.slice a1 n1 c1) its n1 E1 rfl ?_ (by omega) ?_; (first | with_reducible exact (unhide HX).later (unhide (C7.drewH (C7.allocH CV _))).bel | with_reducible exact (unhide HX).later (unhide (C7.drewH (C7.allocH (C7.allocH CV _) _))).bel | with_reducible exact (unhide HX).later (unhide CB).bel | with_reducible exact (unhide HX).later (unhide (C7.allocH CB _)).bel); intro b1 d1 w6 hO hG; (first | (with_reducible have CA := hide ((unhide (C7.drewH (C7.allocH CV _))).later hG); have OI := hide (hO.base (unhide (C7.drewH (C7.allocH CV _))).bel.size)) | (with_reducible have CA := hide ((unhide (C7.drewH (C7.allocH (C7.allocH CV _) _))).later hG); have OI := hide (hO.base (unhide (C7.drewH (C7.allocH (C7.allocH CV _) _))).bel.size)) | (with_reducible have CA := hide ((unhide CB).later hG); have OI := hide (hO.base (unhide CB).bel.size)) | (with_reducible have CA := hide ((unhide (C7.allocH CB _)).later hG); have OI := hide (hO.base (unhide (C7.allocH CB _)).bel.size))); (first | (with_reducible have OF := hide ((unhide OF).later hG)) | (with_reducible have OF := hide ((unhide OF).later (later_al7 hG))) | skip); have zA := (unhide CA).lt; obtain ⟨q0, q1, qf⟩ := blk_cells2 (unhide CA).k2; clear hO hG)
      | (refine step_cp7 encF_len (by omega) 48 30 i1 _ 16 Tryz.underlying30 gi gz0 gz1 gz2 rfl (by omega) _ rfl _ _ rfl _ rfl (.slice a2 n2 c2) fls n2 E2 rfl ?_ (by omega) ?_; (first | with_reducible exact (unhide HF).later (unhide (C7.drewH (C7.allocH CV _))).bel | with_reducible exact (unhide HF).later (unhide (C7.drewH (C7.allocH (C7.allocH CV _) _))).bel | with_reducible exact (unhide HF).later (unhide CA).bel | with_reducible exact (unhide HF).later (unhide (C7.allocH CA _)).bel); intro b2 d2 w7 hO hG; (first | (with_reducible have CB := hide ((unhide (C7.drewH (C7.allocH CV _))).later hG); have OF := hide (hO.base (unhide (C7.drewH (C7.allocH CV _))).bel.size)) | (with_reducible have CB := hide ((unhide (C7.drewH (C7.allocH (C7.allocH CV _) _))).later hG); have OF := hide (hO.base (unhide (C7.drewH (C7.allocH (C7.allocH CV _) _))).bel.size)) | (with_reducible have CB := hide ((unhide CA).later hG); have OF := hide (hO.base (unhide CA).bel.size)) | (with_reducible have CB := hide ((unhide (C7.allocH CA _)).later hG); have OF := hide (hO.base (unhide (C7.allocH CA _)).bel.size))); (first | (with_reducible have OI := hide ((unhide OI).later hG)) | (with_reducible have OI := hide ((unhide OI).later (later_al7 hG))) | skip); have zB := (unhide CB).lt; obtain ⟨q0, q1, qf⟩ := blk_cells2 (unhide CB).k2; clear hO hG))
  all_goals go_wp2
  all_goals first
    | exact bodyPost_ret (v := .agg #[.slice b1 n1 d1, .slice b2 n2 d2]) (by simp [results, Tryz.results19, go_sem, q0, q1]) rfl ⟨_, _, _, _, rfl, (unhide OI).other (unhide CA).k2 (by decide) (grownS w6 _ _ _), (unhide OF).other (unhide CA).k2 (by decide) (grownS w6 _ _ _), (kC7s CA _ _).1⟩
    | exact bodyPost_ret (v := .agg #[.slice b1 n1 d1, .slice b2 n2 d2]) (by simp [results, Tryz.results19, go_sem, q0, q1]) rfl ⟨_, _, _, _, rfl, (unhide OI).other (unhide CB).k2 (by decide) (grownS w7 _ _ _), (unhide OF).other (unhide CB).k2 (by decide) (grownS w7 _ _ _), (kC7s CB _ _).1⟩
end Go.Proofs.YtighiahppjekeabGreat

namespace Go.Proofs.YtighiahppjekeabGreat
open Go.RowKit

theorem own_res {α : Type} {enc : α → List Value} {k : Nat} {E : TypeId} {base r : Nat} {W : World} {v u0 u1 : Value} {xs : List α} (h : Ow enc k E base W v xs) (hb : W.heap[r]? = some (.cells #[u0, u1] 32 (0, 0))) (hne : E ≠ 32) (v0 v1 : Value) :
    Ow enc k E base ((W.setCell ⟨r, 0, none⟩ v0).setCell ⟨r, 1, none⟩ v1) v xs :=
  h.apartT (b := some r) (fun g e => by cases e; exact ⟨_, _, hb⟩) hne (grown_trans9 (grown_set9 W r 0 v0) (grown_set9 _ r 1 v1))
theorem min9_any (a b m : Int) (h : Hid (min a b = m)) (w : World) : Calls Tryz.prog 20 #[.int .i64 a, .int .i64 b] w fun e w' => e = .returned (.int .i64 m) ∧ w = w' := by
  by_cases hl : a < b
  · have hd : decide (a < b) = true := by simpa using hl
    obtain rfl : m = a := by rw [← unhide h]; omega
    clear h hl
    go_enter Tryz.func20, Tryz.ntmps20
    go_wp2
    go_ret
    exact ⟨rfl, rfl⟩
  · have hd : decide (a < b) = false := by simpa using hl
    obtain rfl : m = b := by rw [← unhide h]; omega
    clear h hl
    go_enter Tryz.func20, Tryz.ntmps20
    go_wp2
    go_ret
    exact ⟨rfl, rfl⟩
/-- While floors are gathered: the state in block r, the floors so far in block b. -/
structure P9 (w W : World) (b : Nat) (v0 v1 u : Value) (gs : List Flr) : Prop where
  bel : Below w.heap.size w W
  ks : W.heap[w.heap.size]? = some (.cells #[v0, v1] 32 (0, 0))
  kr : W.heap[w.heap.size + 1]? = some (.cells #[.slice none 0 0, .slice none 0 0] 32 (0, 0))
  hb : w.heap.size + 1 < b
  kb : W.heap[b]? = some (.cells #[.slice none 0 0, u] 32 (0, 0))
  of : OwF (w.heap.size + 2) W u gs
section
variable {w W X : World} {b : Nat} {v0 v1 u : Value} {gs : List Flr}
theorem P9.bl (h : P9 w W b v0 v1 u gs) : b < W.heap.size := (Array.getElem?_eq_some_iff.1 h.kb).1
theorem P9.later (h : P9 w W b v0 v1 u gs) (bl : Below W.heap.size W X) : P9 w X b v0 v1 u gs := by
  have h1 := h.bl
  have h2 := h.hb
  exact ⟨h.bel.trans (bl.mono h.bel.size), (bl.block _ (by omega)).trans h.ks, (bl.block _ (by omega)).trans h.kr, h2, (bl.block _ h1).trans h.kb, h.of.later bl⟩
theorem P9.put (h : P9 w W b v0 v1 u gs) {u2 : Value} {gs2 : List Flr} (hO : OwF (w.heap.size + 2) X u2 gs2) (hG : W.grownBy X u.ownBlock) : P9 w (X.setCell ⟨b, 1, none⟩ u2) b v0 v1 u2 gs2 := by
  have h1 := h.bl
  have h2 := h.hb
  have hlt : ∀ i, u.ownBlock = some i → w.heap.size + 2 ≤ i := fun i e => (World.ownsRow.lt h.of i e).1
  have hne : u.ownBlock ≠ some b := own_ne h.of h.kb (by decide)
  have kb := (hG.block b h1 (fun e => hne e.symm)).trans h.kb
  have G := grown_set9 X b 1 u2
  exact ⟨(h.bel.grown hG h.bel.size (fun i e => by have := hlt i e; omega)).setCell (p := ⟨b, 1, none⟩) (by show w.heap.size ≤ b; omega) u2,
    (heap_setCell_other _ _ _ _ (by show w.heap.size ≠ b; omega)).trans ((hG.block _ (by omega) (fun e => by have := hlt _ e.symm; omega)).trans h.ks),
    (heap_setCell_other _ _ _ _ (by show w.heap.size + 1 ≠ b; omega)).trans ((hG.block _ (by omega) (fun e => by have := hlt _ e.symm; omega)).trans h.kr), h2,
    heap_setCell_same _ _ _ _ _ _ kb, hO.apartT (b := some b) (fun g e => by cases e; exact ⟨_, _, kb⟩) (by decide) G⟩
end
set_option maxHeartbeats 8000000 in
set_option maxRecDepth 100000 in
theorem sprune_any (ai : Option Addr) (ni ci : Nat) (xs : List Itm) (af : Option Addr) (nf cf : Nat) (fs : List Flr) (ta : Option Addr) (tn tc : Nat) (t : Tb) (n1 n2 : Nat) (hn1 : Hid ((prI xs fs t).length = n1)) (hn2 : Hid ((prF xs fs t).length = n2)) (w : World)
    (hni : ni ≤ 2000000) (hnf : nf ≤ 2000000) (htn : tn ≤ 1048576) (hm : ∀ (i : Nat) (q : List Int), t[i]? = some q → q.length ≤ 140737488351232) (hx : Rw encI 6 w (.slice ai ni ci) xs) (hf : Rw encF 2 w (.slice af nf cf) fs) (ht : RwG w (.slice ta tn tc) t) :
    Calls Tryz.prog 6 #[.agg #[.slice ai ni ci, .slice af nf cf], .slice ta tn tc] w fun e w' => ∃ a1 c1 a2 c2, e = .returned (.agg #[.slice a1 n1 c1, .slice a2 n2 c2]) ∧ Rw encI 6 w' (.slice a1 n1 c1) (prI xs fs t) ∧ Rw encF 2 w' (.slice a2 n2 c2) (prF xs fs t) ∧ Below w.heap.size w w' := by
  obtain ⟨i1, gi, gz0, gz1, gz2⟩ := info_parts Tryz.infoFloor
  have HZ2 := hide gz2
  have HX := hide hx
  have HF := hide hf
  have HT := hide ht
  have HM := hide hm
  obtain ⟨ok, hok⟩ : ∃ ok, Hid (okS xs fs = ok) := ⟨_, hide rfl⟩
  clear hx hf ht hm gz2
  go_enter Tryz.func6, Tryz.ntmps6
  go_wp2_with fail
  refine (sstateok_any ai ni ci xs af nf cf fs ok hok _ (by omega) (by omega) (((unhide HX).alloc _).alloc _) (((unhide HF).alloc _).alloc _)).mono ?_
  rintro e w1 ⟨rfl, b1⟩
  have bA : Below w.heap.size w ((w.alloc (.cells #[.slice ai ni ci, .slice af nf cf] 32)).alloc (.cells #[.slice none 0 0, .slice none 0 0] 32)) := ((Below.refl _ _).alloc (Nat.le_refl _) _).alloc (by simp) _
  have HB1 := hide (bA.trans (b1.mono (by simp; omega)))
  have k1 := (b1.block w.heap.size (by simp; omega)).trans (lowB2 w _ _)
  have k2 := (b1.block (w.heap.size + 1) (by simp)).trans (newB2 w _ _)
  have z1 : w.heap.size + 1 < w1.heap.size := (Array.getElem?_eq_some_iff.1 k2).1
  have K1 := hide k1
  have K2 := hide k2
  obtain ⟨p0, p1, -⟩ := blk_cells2 k1
  clear b1 bA k1 k2
  cases ok
  · go_wp2_with fail
    refine (l3copy7_any ai ni ci xs af nf cf fs _ hni hnf ((unhide HX).later (unhide HB1)) ((unhide HF).later (unhide HB1))).mono ?_
    rintro e w2 ⟨e1, d1, e2, d2, rfl, o1, o2, b2⟩
    have k2 := (b2.block _ z1).trans (unhide K2)
    obtain ⟨q0, q1, qf⟩ := blk_cells2 k2
    have EI : Hid (prI xs fs t = xs) := hide (by unfold prI; rw [if_neg (by rw [unhide hok]; simp)])
    have EF : Hid (prF xs fs t = fs) := hide (by unfold prF; rw [if_neg (by rw [unhide hok]; simp)])
    obtain rfl : ni = n1 := by rw [← unhide hn1, unhide EI]; exact (unhide HX).len.1
    obtain rfl : nf = n2 := by rw [← unhide hn2, unhide EF]; exact (unhide HF).len.1
    have HB2 := hide ((unhide HB1).trans (b2.mono (unhide HB1).size))
    have R1 := hide (o1.other k2 (by decide) (grown_trans9 (grown_set9 w2 (w.heap.size + 1) 0 (.slice e1 ni d1)) (grown_set9 _ (w.heap.size + 1) 1 (.slice e2 nf d2))))
    have R2 := hide (o2.other k2 (by decide) (grown_trans9 (grown_set9 w2 (w.heap.size + 1) 0 (.slice e1 ni d1)) (grown_set9 _ (w.heap.size + 1) 1 (.slice e2 nf d2))))
    clear o1 o2 b2 p0 p1 k2
    go_wp2
    exact bodyPost_ret (v := .agg #[.slice e1 ni d1, .slice e2 nf d2]) (by simp [results, Tryz.results6, go_sem, q0, q1]) rfl ⟨e1, d1, e2, d2, rfl, by rw [unhide EI]; exact (unhide R1).rw encI_len, by rw [unhide EF]; exact (unhide R2).rw encF_len, ((unhide HB2).setCell (by simp) _).setCell (by simp) _⟩
  have EI : Hid (prI xs fs t = joinI xs fs [] (pf xs fs t)) := hide (by unfold prI; rw [if_pos (unhide hok)])
  have EF : Hid (prF xs fs t = joinF fs (pf xs fs t)) := hide (by unfold prF; rw [if_pos (unhide hok)])
  have H0 : Hid (P9 w (w1.alloc (.cells #[.slice none 0 0, .slice none 0 0] 32)) w1.heap.size (.slice ai ni ci) (.slice af nf cf) (.slice none 0 0) []) := hide (by
    have b : Below w1.heap.size w1 (w1.alloc (.cells #[.slice none 0 0, .slice none 0 0] 32)) := (Below.refl _ _).alloc (Nat.le_refl _) _
    exact ⟨(unhide HB1).trans (b.mono (unhide HB1).size), (b.block _ (by omega)).trans (unhide K1), (b.block _ z1).trans (unhide K2), z1, heap_alloc_new _ _, World.ownsRow_nil _ _ _ _⟩)
  clear hok p0 p1
  go_wp2
  go_loopw [6] (fun i wr => ∃ (k : Nat) (a : Option Addr) (n d : Nat), k ≤ 5 ∧ i = .int .i64 k ∧ P9 w wr w1.heap.size (.slice ai ni ci) (.slice af nf cf) (.slice a n d) (mkK (fun id => min (com t id) (gone xs fs id)) k)) (fun i _ => 5 - (intOf i).toNat)
  case atStart => exact ⟨0, none, 0, 0, Nat.zero_le _, rfl, unhide H0⟩
  case round =>
    obtain ⟨k, a, n, d, hk, rfl, hp⟩ := hrel
    have HP := hide hp
    have hbl := hp.bl
    have hbb := hp.hb
    have hbs := hp.bel.size
    have hlen := (hp.of.rw encF_len).len.1
    have hl5 := mkK_len (fun id => min (com t id) (gone xs fs id)) k
    have hn5 : n ≤ 5 := by omega
    have HL := hide hlen
    by_cases hlt : k < 5
    · obtain ⟨c, hc⟩ : ∃ c, Hid (com t (k : Int) = c) := ⟨_, hide rfl⟩
      obtain ⟨g, hg⟩ : ∃ g, Hid (gone xs fs (k : Int) = g) := ⟨_, hide rfl⟩
      obtain ⟨m, hm⟩ : ∃ m, Hid (min c g = m) := ⟨_, hide rfl⟩
      have HKK : Hid (mkK (fun id => min (com t id) (gone xs fs id)) (k + 1) = mkK (fun id => min (com t id) (gone xs fs id)) k ++ if 0 < m then [((k : Int), m)] else []) := hide (by
        rw [mkK, mk1]
        simp only [unhide hc, unhide hg, unhide hm])
      obtain ⟨p0, p1, -⟩ := blk_cells2 hp.ks
      have m0 := later_some (w := wr) (b := w.heap.size) (o := 0) (by omega) p0
      have m1 := later_some (w := wr) (b := w.heap.size) (o := 1) (by omega) p1
      have HXr := hide ((unhide HX).later hp.bel)
      have HFr := hide ((unhide HF).later hp.bel)
      have HTr := hide ((unhide HT).later hp.bel)
      clear p0 p1 hp hlen hl5
      go_wp2_with fail
      refine wp_region_later (by kernel_rfl) (by kernel_rfl) ?_
      repeat (go_big_quiet_step (first
        | (go_at_call 21; exact Calls.later_same (scommon_any ta tn tc t k c hc _ (by omega) (unhide HM) ((unhide HTr).later (later_below _ _ _))))
        | (go_at_call 22; exact Calls.later_of (sgone_any ai ni ci xs af nf cf fs k g hg _ (by omega) (by omega) ((unhide HXr).in_later _ _) ((unhide HFr).in_later _ _)))
        | (go_at_call 20; exact Calls.later_same (min9_any c g m hm _))))
      refine wpQuiet_nil ?_
      intro w4 b4
      have HP4 := hide ((unhide HP).later b4)
      have hs4 := (unhide HP4).bel.size
      have hbl4 := (unhide HP4).bl
      clear b4 m0 m1 HXr HFr HTr
      by_cases hm0 : 0 < m
      · have hd : decide (0 < m) = true := by simpa using hm0
        have HN : Hid (mkK (fun id => min (com t id) (gone xs fs id)) (k + 1) = mkK (fun id => min (com t id) (gone xs fs id)) k ++ [((k : Int), m)]) := hide (by rw [unhide HKK, if_pos hm0])
        obtain ⟨s0, s1, sf⟩ := blk_cells2 (unhide HP4).kb
        go_wp2_with (first | (at_builtin; refine wpList_app1 encF_len (by omega) oneF 48 30 i1 _ 16 Tryz.underlying30 gi gz0 gz1 (unhide HZ2) rfl (by omega) w4 ((k : Int), m) rfl _ _ rfl (w.heap.size + 2) _ _ n HL rfl (unhide HP4).of rfl (by omega) (by omega) ?_))
        intro a' c' w5 hO hG
        have HP5 := hide ((unhide HP4).put hO hG)
        have k5 := (hG.block w1.heap.size hbl4 (fun e => own_ne (unhide HP4).of (unhide HP4).kb (by decide) e.symm)).trans (unhide HP4).kb
        obtain ⟨u0, u1, uf⟩ := blk_cells2 k5
        clear hO hG s0 s1 sf k5 HP4 HP
        go_wp2
        go_roundw
        case rel => exact ⟨k + 1, _, _, _, by omega, by go_num, by rw [unhide HN]; exact unhide HP5⟩
        case measure => simp [intOf]; omega
      · have hd : decide (0 < m) = false := by simpa using hm0
        have HN : Hid (mkK (fun id => min (com t id) (gone xs fs id)) (k + 1) = mkK (fun id => min (com t id) (gone xs fs id)) k) := hide (by rw [unhide HKK, if_neg hm0, List.append_nil])
        go_wp2
        go_roundw
        case rel => exact ⟨k + 1, _, _, _, by omega, by go_num, by rw [unhide HN]; exact unhide HP4⟩
        case measure => simp [intOf]; omega
    · obtain rfl : k = 5 := by omega
      obtain ⟨p0, p1, -⟩ := blk_cells2 hp.ks
      obtain ⟨s0, s1, sf⟩ := blk_cells2 hp.kb
      have RP : Hid (Rw encF 2 wr (.slice a n d) (pf xs fs t)) := hide (hp.of.rw encF_len)
      have HXr := hide ((unhide HX).later hp.bel)
      have HFr := hide ((unhide HF).later hp.bel)
      clear hp hlen hl5
      go_wp2_with fail
      refine (l3join_any ai ni ci xs af nf cf fs none 0 0 [] a n d (pf xs fs t) _ (by omega) (by omega) (by omega) (by omega) (unhide HXr) (unhide HFr) Rw.nil (unhide RP)).mono ?_
      rintro e w6 ⟨e1, m1, d1, e2, m2, d2, rfl, o1, o2, b6⟩
      have k6 := (b6.block _ (show w.heap.size + 1 < wr.heap.size by omega)).trans (unhide HP).kr
      obtain ⟨q0, q1, qf⟩ := blk_cells2 k6
      obtain rfl : m1 = n1 := by rw [← unhide hn1, unhide EI]; exact (o1.rw encI_len).len.1
      obtain rfl : m2 = n2 := by rw [← unhide hn2, unhide EF]; exact (o2.rw encF_len).len.1
      have HB6 := hide ((unhide HP).bel.trans (b6.mono hbs))
      have R1 := hide (own_res o1 k6 (by decide) (.slice e1 m1 d1) (.slice e2 m2 d2))
      have R2 := hide (own_res o2 k6 (by decide) (.slice e1 m1 d1) (.slice e2 m2 d2))
      clear o1 o2 b6 p0 p1 s0 s1 sf k6
      go_wp2
      exact bodyPost_ret (v := .agg #[.slice e1 m1 d1, .slice e2 m2 d2]) (by simp [results, Tryz.results6, go_sem, q0, q1]) rfl ⟨e1, d1, e2, d2, rfl, by rw [unhide EI]; exact (unhide R1).rw encI_len, by rw [unhide EF]; exact (unhide R2).rw encF_len, ((unhide HB6).setCell (by simp) _).setCell (by simp) _⟩
/-- While the program gathers floors: the state in a block of its own, the result in the next one. -/
structure R9 (w W : World) (v0 v1 u : Value) (gs : List Flr) : Prop where
  bel : Below w.heap.size w W
  ks : W.heap[w.heap.size]? = some (.cells #[v0, v1] 32 (0, 0))
  kr : W.heap[w.heap.size + 1]? = some (.cells #[.slice none 0 0, .slice none 0 0] 32 (0, 0))
  of : OwF (w.heap.size + 2) W u gs
section
variable {w W X : World} {v0 v1 u : Value} {gs : List Flr}
theorem R9.lt (h : R9 w W v0 v1 u gs) : w.heap.size + 2 ≤ W.heap.size := (Array.getElem?_eq_some_iff.1 h.kr).1
theorem R9.later (h : R9 w W v0 v1 u gs) (bl : Below W.heap.size W X) : R9 w X v0 v1 u gs := by
  have h2 := h.lt
  exact ⟨h.bel.trans (bl.mono h.bel.size), (bl.block _ (by omega)).trans h.ks, (bl.block _ (by omega)).trans h.kr, h.of.later bl⟩
theorem R9.grown (h : R9 w W v0 v1 u gs) {u2 : Value} {gs2 : List Flr} (hO : OwF (w.heap.size + 2) X u2 gs2) (hG : W.grownBy X u.ownBlock) : R9 w X v0 v1 u2 gs2 := by
  have h2 := h.lt
  have hlt : ∀ i, u.ownBlock = some i → w.heap.size + 2 ≤ i := fun i e => (World.ownsRow.lt h.of i e).1
  exact ⟨h.bel.grown hG h.bel.size (fun i e => by have := hlt i e; omega), (hG.block _ (by omega) (fun e => by have := hlt _ e.symm; omega)).trans h.ks, (hG.block _ (by omega) (fun e => by have := hlt _ e.symm; omega)).trans h.kr, hO⟩
theorem R9.s (h : R9 w W v0 v1 u gs) : Below w.heap.size w W ∧ W.cell? ⟨w.heap.size, 0, none⟩ = some v0 ∧ W.cell? ⟨w.heap.size, 1, none⟩ = some v1 := by
  obtain ⟨p0, p1, -⟩ := blk_cells2 h.ks
  exact ⟨h.bel, p0, p1⟩
end
set_option maxHeartbeats 8000000 in
set_option maxRecDepth 100000 in
theorem iprune_any (ai : Option Addr) (ni ci : Nat) (xs : List Itm) (af : Option Addr) (nf cf : Nat) (fs : List Flr) (hs : Sml xs) (ta : Option Addr) (tn tc : Nat) (t : Tb) (n1 n2 : Nat) (hn1 : Hid ((prI xs fs t).length = n1)) (hn2 : Hid ((prF xs fs t).length = n2)) (w : World)
    (hni : ni ≤ 2000000) (hnf : nf ≤ 2000000) (htn : tn ≤ 1048576) (hm : ∀ (i : Nat) (q : List Int), t[i]? = some q → q.length ≤ 140737488351232) (hx : Rw encI 6 w (.slice ai ni ci) xs) (hf : Rw encF 2 w (.slice af nf cf) fs) (ht : RwG w (.slice ta tn tc) t) :
    Calls Tryz.prog 9 #[.agg #[.slice ai ni ci, .slice af nf cf], .slice ta tn tc] w fun e w' => ∃ a1 c1 a2 c2, e = .returned (.agg #[.slice a1 n1 c1, .slice a2 n2 c2]) ∧ OwI w.heap.size w' (.slice a1 n1 c1) (prI xs fs t) ∧ OwF w.heap.size w' (.slice a2 n2 c2) (prF xs fs t) ∧ Below w.heap.size w w' := by
  have HS := hide hs
  have HX := hide hx
  have HF := hide hf
  have HT := hide ht
  have HM := hide hm
  obtain ⟨ok, hok⟩ : ∃ ok, Hid (okS xs fs = ok) := ⟨_, hide rfl⟩
  have H0 : Hid (R9 w ((w.alloc (.cells #[.slice ai ni ci, .slice af nf cf] 32)).alloc (.cells #[.slice none 0 0, .slice none 0 0] 32)) (.slice ai ni ci) (.slice af nf cf) (.slice none 0 0) []) := hide ⟨((Below.refl _ _).alloc (Nat.le_refl _) _).alloc (by simp) _, lowB2 w _ _, newB2 w _ _, World.ownsRow_nil _ _ _ _⟩
  clear hx hf ht hm hs
  go_enter Tryz.func9, Tryz.ntmps9
  go_wp2
  go_loopw [5, 9] (fun u i wr => ∃ (k : Nat) (a : Option Addr) (n d : Nat), k ≤ 5 ∧ i = .int .i64 k ∧ u = .slice a n d ∧ R9 w wr (.slice ai ni ci) (.slice af nf cf) (.slice a n d) (mkK (fun id => min (com t id) (gone xs fs id)) k)) (fun _ i _ => 5 - (intOf i).toNat)
  case atStart => exact ⟨0, none, 0, 0, Nat.zero_le _, rfl, rfl, unhide H0⟩
  case round =>
    obtain ⟨k, a, n, d, hk, rfl, rfl, hp⟩ := hrel
    have hbs := hp.bel.size
    have hlen := (hp.of.rw encF_len).len.1
    have hl5 := mkK_len (fun id => min (com t id) (gone xs fs id)) k
    have hn5 : n ≤ 5 := by omega
    by_cases hlt : k < 5
    · obtain ⟨c, hc⟩ : ∃ c, Hid (com t (k : Int) = c) := ⟨_, hide rfl⟩
      obtain ⟨g, hg⟩ : ∃ g, Hid (gone xs fs (k : Int) = g) := ⟨_, hide rfl⟩
      have hg3 := gone_le xs fs (k : Int)
      rw [unhide hg] at hg3
      obtain ⟨m, hm⟩ : ∃ m, min c g = m := ⟨_, rfl⟩
      obtain ⟨q, hq⟩ : ∃ q, Hid (inB m 1 1000 = q) := ⟨_, hide rfl⟩
      have HKK : Hid (mkK (fun id => min (com t id) (gone xs fs id)) (k + 1) = mkK (fun id => min (com t id) (gone xs fs id)) k ++ if q then [((k : Int), m)] else []) := hide (by
        rw [mkK, mk1]
        simp only [unhide hc, unhide hg, hm]
        rw [← unhide hq]
        by_cases h : 0 < m
        · rw [if_pos h, if_pos (by simp [inB]; omega)]
        · rw [if_neg h, if_neg (by simp [inB]; omega)])
      have HRd := hide (hp.later (Below.refl _ _).drew)
      have HTd := hide ((unhide HT).later (unhide HRd).bel)
      have hS0 := (unhide HRd).s
      obtain ⟨p0, p1, -⟩ := blk_cells2 hp.ks
      clear hp hlen hl5 hg3 HTd
      have HTd := hide ((unhide HT).later (unhide HRd).bel)
      generalize mkK (fun id => min (com t id) (gone xs fs id)) k = gs at HRd HKK ⊢
      by_cases hcg : g < c
      all_goals
        go_wp2_with fail
        go_region_held3 (fun W => Below w.heap.size w W ∧ W.cell? ⟨w.heap.size, 0, none⟩ = some (.slice ai ni ci) ∧ W.cell? ⟨w.heap.size, 1, none⟩ = some (.slice af nf cf))
          (first | (with_reducible exact hS0) | (with_reducible assumption))
          (first
            | (go_at_call 28; refine (icommon_any ta tn tc t k c hc _ (by omega) (unhide HM) (unhide HTd)).mono ?_; rintro e u1 ⟨rfl, b6⟩; have HR1 := hide ((unhide HRd).later b6); have hS1 := (unhide HR1).s; clear b6)
            | (go_at_call 29; refine (igone_any ai ni ci xs af nf cf fs k g hg _ (by omega) (by omega) ((unhide HX).later (unhide HR1).bel) ((unhide HF).later (unhide HR1).bel)).mono ?_; rintro e u2 ⟨rfl, b6⟩; have HR2 := hide ((unhide HR1).later b6); have hS2 := (unhide HR2).s; clear b6)
            | (go_at_call 27; refine (iwithF_any (w.heap.size + 2) a n d gs ((k : Int), m) q hq _ (by omega) (unhide HR2).lt (unhide HR2).of).mono ?_; rintro e u3 ⟨a', n', d', rfl, hO, hG⟩; have HR3 := hide ((unhide HR2).grown hO hG); have hS3 := (unhide HR3).s; clear hO hG))
      all_goals
        go_wp2
        go_roundw
      all_goals first
        | exact ⟨k + 1, _, _, _, by omega, by go_num, rfl, by rw [unhide HKK]; exact unhide HR3⟩
        | (simp [intOf]; omega)
    · obtain rfl : k = 5 := by omega
      have HR := hide hp
      obtain ⟨p0, p1, -⟩ := blk_cells2 hp.ks
      have hlt2 := hp.lt
      have RP : Hid (Rw encF 2 wr (.slice a n d) (pf xs fs t)) := hide (hp.of.rw encF_len)
      have HXr := hide ((unhide HX).later hp.bel)
      have HFr := hide ((unhide HF).later hp.bel)
      have HJ : Hid ((okS xs fs && okS [] (pf xs fs t)) = ok) := hide (by rw [unhide hok, (okS_iff _ _).2 (pf_ok xs fs t), Bool.and_true])
      obtain ⟨m1, hm1⟩ : ∃ m, Hid ((jnI ok xs fs [] (pf xs fs t)).length = m) := ⟨_, hide rfl⟩
      obtain ⟨m2, hm2⟩ : ∃ m, Hid ((jnF ok fs (pf xs fs t)).length = m) := ⟨_, hide rfl⟩
      clear hp hlen hl5
      go_wp2_with fail
      refine (ijoin_any ai ni ci xs af nf cf fs none 0 0 [] a n d (pf xs fs t) ok HJ m1 m2 hm1 hm2 _ (by omega) (by omega) (by omega) (by omega) (unhide HXr) (unhide HFr) Rw.nil (unhide RP)).mono ?_
      rintro e w6 ⟨e1, d1, e2, d2, rfl, o1, o2, b6⟩
      have HR6 := hide ((unhide HR).later b6)
      have O1 := hide o1
      have O2 := hide o2
      have hs6 := b6.size
      clear o1 o2 b6 p0 p1 HXr HFr
      cases ok
      · obtain ⟨p0, p1, -⟩ := blk_cells2 (unhide HR6).ks
        go_upto_region 8 with fail
        obtain ⟨W, hW⟩ : ∃ q, q = w6.alloc (.cells #[.slice e1 m1 d1, .slice e2 m2 d2] 32) := ⟨_, rfl⟩
        rw [← hW]
        have bW : Below w6.heap.size w6 W := by rw [hW]; exact (Below.refl _ _).alloc (Nat.le_refl _) _
        have HR7 := hide ((unhide HR6).later bW)
        clear hW bW p0 p1
        obtain ⟨p0, p1, -⟩ := blk_cells2 (unhide HR7).ks
        have hs7 := (unhide HR7).bel.size
        go_wp2_with fail
        refine (istatecopy_any ai ni ci xs (unhide HS) af nf cf fs _ hni hnf ((unhide HX).later (unhide HR7).bel) ((unhide HF).later (unhide HR7).bel)).mono ?_
        rintro e w8 ⟨f1, g1, f2, g2, rfl, o1, o2, b8⟩
        have HR8 := hide ((unhide HR7).later b8)
        obtain ⟨q0, q1, qf⟩ := blk_cells2 (unhide HR8).kr
        have EI : Hid (prI xs fs t = xs) := hide (by unfold prI; rw [if_neg (by rw [unhide hok]; simp)])
        have EF : Hid (prF xs fs t = fs) := hide (by unfold prF; rw [if_neg (by rw [unhide hok]; simp)])
        obtain rfl : ni = n1 := by rw [← unhide hn1, unhide EI]; exact (unhide HX).len.1
        obtain rfl : nf = n2 := by rw [← unhide hn2, unhide EF]; exact (unhide HF).len.1
        have R1 := hide ((own_res o1 (unhide HR8).kr (by decide) (.slice f1 ni g1) (.slice f2 nf g2)).base hs7)
        have R2 := hide ((own_res o2 (unhide HR8).kr (by decide) (.slice f1 ni g1) (.slice f2 nf g2)).base hs7)
        have HB8 := hide (unhide HR8).bel
        clear o1 o2 b8 p0 p1
        go_wp2
        exact bodyPost_ret (v := .agg #[.slice f1 ni g1, .slice f2 nf g2]) (by simp [results, Tryz.results9, go_sem, q0, q1]) rfl ⟨f1, g1, f2, g2, rfl, by rw [unhide EI]; exact unhide R1, by rw [unhide EF]; exact unhide R2, ((unhide HB8).setCell (by simp) _).setCell (by simp) _⟩
      · go_upto_region 8 with fail
        obtain ⟨W, hW⟩ : ∃ q, q = w6.alloc (.cells #[.slice e1 m1 d1, .slice e2 m2 d2] 32) := ⟨_, rfl⟩
        rw [← hW]
        have bW : Below w6.heap.size w6 W := by rw [hW]; exact (Below.refl _ _).alloc (Nat.le_refl _) _
        have s0 : W.cell? ⟨w6.heap.size, 0, none⟩ = some (.slice e1 m1 d1) := by rw [hW]; simp
        have s1 : W.cell? ⟨w6.heap.size, 1, none⟩ = some (.slice e2 m2 d2) := by rw [hW]; simp
        have HR7 := hide ((unhide HR6).later bW)
        have O3 := hide ((unhide O1).later bW)
        have O4 := hide ((unhide O2).later bW)
        clear hW bW O1 O2
        obtain ⟨q0, q1, qf⟩ := blk_cells2 (unhide HR7).kr
        have EI : Hid (prI xs fs t = joinI xs fs [] (pf xs fs t)) := hide (by unfold prI; rw [if_pos (unhide hok)])
        have EF : Hid (prF xs fs t = joinF fs (pf xs fs t)) := hide (by unfold prF; rw [if_pos (unhide hok)])
        obtain rfl : m1 = n1 := by rw [← unhide hn1, unhide EI, ← unhide hm1]; rfl
        obtain rfl : m2 = n2 := by rw [← unhide hn2, unhide EF, ← unhide hm2]; rfl
        have R1 := hide ((own_res (unhide O3) (unhide HR7).kr (by decide) (.slice e1 m1 d1) (.slice e2 m2 d2)).base hbs)
        have R2 := hide ((own_res (unhide O4) (unhide HR7).kr (by decide) (.slice e1 m1 d1) (.slice e2 m2 d2)).base hbs)
        have HB8 := hide (unhide HR7).bel
        have hw6 : w.heap.size + 1 ≠ w6.heap.size := by omega
        go_wp2
        exact bodyPost_ret (v := .agg #[.slice e1 m1 d1, .slice e2 m2 d2]) (by simp [results, Tryz.results9, go_sem, q0, q1]) rfl ⟨e1, d1, e2, d2, rfl, by rw [unhide EI]; exact unhide R1, by rw [unhide EF]; exact unhide R2, ((unhide HB8).setCell (by simp) _).setCell (by simp) _⟩
end Go.Proofs.YtighiahppjekeabGreat
