/-
  spec.DrawStateOk, spec.DrawSingle: some state, some item, with short texts; nothing that was there turns. No statement is proved here.
  spec.l3Copy: the same lists in memory of the call's own. No statement is proved here.
  spec.l3Two, spec.DrawStateJoin, laws.tail: some two states, with short texts; nothing that was there turns. No statement is proved here.
  spec.l5Two, spec.DrawSayJoin: some state, with short texts, and some Id; nothing that was there turns. No statement is proved here.
-/
import Derived.Test.YtcojhelihafigaaGreatL3D
import Derived.Test.YtcojhelihafigaaGreatDrawB
import Derived.ArgAppend
import Derived.Laws.OwnMore
namespace Go.Proofs.YtcojhelihafigaaGreat
open Go.RowKit

variable {w X Y : World} {b : Nat} {v1 v2 : Value} {its : List Itm} {fls : List Flr}
/-- A state that was drawn from a code. -/
structure T3 (w X : World) (v1 v2 : Value) (its : List Itm) (fls : List Flr) : Prop where
  bel : Below w.heap.size w X
  oi : OwI w.heap.size X v1 its
  of : OwF w.heap.size X v2 fls
  li : its.length ≤ 6
  lf : fls.length ≤ 6
  ni : Nine its
/-- A variable of the law that holds a state. -/
structure V3 (w X : World) (b : Nat) (v1 v2 : Value) (its : List Itm) (fls : List Flr) : Prop where
  ge : w.heap.size ≤ b
  k1 : X.heap[b]? = some (StB v1 v2)
  oi : OwI w.heap.size X v1 its
  of : OwF w.heap.size X v2 fls
theorem V3.lt (h : V3 w X b v1 v2 its fls) : b < X.heap.size := (Array.getElem?_eq_some_iff.1 h.k1).1
theorem V3.later (h : V3 w X b v1 v2 its fls) (bl : Below X.heap.size X Y) : V3 w Y b v1 v2 its fls := ⟨h.ge, (bl.block _ h.lt).trans h.k1, h.oi.later bl, h.of.later bl⟩
theorem V3.alloc (h : V3 w X b v1 v2 its fls) (o : Obj) : V3 w (X.alloc o) b v1 v2 its fls := h.later ((Below.refl _ _).alloc (Nat.le_refl _) o)
theorem V3.new {B : Nat} (hb : w.heap.size ≤ X.heap.size) (hB : w.heap.size ≤ B) (o1 : OwI B X v1 its) (o2 : OwF B X v2 fls) : V3 w (X.alloc (StB v1 v2)) X.heap.size v1 v2 its fls :=
  have bl : Below X.heap.size X (X.alloc (StB v1 v2)) := (Below.refl _ _).alloc (Nat.le_refl _) _
  ⟨hb, heap_alloc_new _ _, Ow.base (o1.later bl) hB, Ow.base (o2.later bl) hB⟩
theorem V3.put (h : V3 w X b v1 v2 its fls) {B : Nat} {u1 u2 : Value} {is' : List Itm} {fs' : List Flr} (hB : w.heap.size ≤ B) (o1 : OwI B X u1 is') (o2 : OwF B X u2 fs') : V3 w ((X.setCell ⟨b, 0, none⟩ u1).setCell ⟨b, 1, none⟩ u2) b u1 u2 is' fs' :=
  have hg := grown_set2 X b u1 u2
  ⟨h.ge, blk_set2 h.k1 _ _, Ow.base (o1.other h.k1 (by decide) hg) hB, Ow.base (o2.other h.k1 (by decide) hg) hB⟩
theorem V3.aside (h : V3 w X b v1 v2 its fls) {b2 : Nat} {y1 y2 u1 u2 : Value} (h2 : X.heap[b2]? = some (StB y1 y2)) (hne : b ≠ b2) : V3 w ((X.setCell ⟨b2, 0, none⟩ u1).setCell ⟨b2, 1, none⟩ u2) b v1 v2 its fls :=
  have hg := grown_set2 X b2 u1 u2
  ⟨h.ge, blk_grown hg h.k1 hne, h.oi.other h2 (by decide) hg, h.of.other h2 (by decide) hg⟩
theorem V3.bel (h : V3 w X b v1 v2 its fls) (bl : Below w.heap.size w X) (u1 u2 : Value) : Below w.heap.size w ((X.setCell ⟨b, 0, none⟩ u1).setCell ⟨b, 1, none⟩ u2) := (bl.setCell (p := ⟨b, 0, none⟩) h.ge _).setCell (p := ⟨b, 1, none⟩) h.ge _
theorem V3.cells (h : V3 w X b v1 v2 its fls) : X.cell? ⟨b, 0, none⟩ = some v1 ∧ X.cell? ⟨b, 1, none⟩ = some v2 := by
  obtain ⟨p0, p1, _⟩ := blk_cells2 h.k1
  exact ⟨p0, p1⟩
theorem V3.len {a1 : Option Addr} {n1 c1 : Nat} {a2 : Option Addr} {n2 c2 : Nat} (h : V3 w X b (.slice a1 n1 c1) (.slice a2 n2 c2) its fls) : n1 = its.length ∧ n2 = fls.length := ⟨(h.oi.rw encI_len).len.1, (h.of.rw encF_len).len.1⟩

theorem keep8 {P W : World} {b q o0 o1 o2 o3 o4 o5 : Nat} {v1 v2 y0 y1 y2 y3 y4 y5 : Value} (hb : b < P.heap.size) (hq : q < P.heap.size)
    (h : Hid (P.cell? ⟨b, 0, none⟩ = some v1 ∧ P.cell? ⟨b, 1, none⟩ = some v2 ∧ P.cell? ⟨q, o0, none⟩ = some y0 ∧ P.cell? ⟨q, o1, none⟩ = some y1 ∧ P.cell? ⟨q, o2, none⟩ = some y2 ∧ P.cell? ⟨q, o3, none⟩ = some y3 ∧ P.cell? ⟨q, o4, none⟩ = some y4 ∧ P.cell? ⟨q, o5, none⟩ = some y5)) (bl : Below P.heap.size P W) :
    Below P.heap.size P W ∧ W.cell? ⟨b, 0, none⟩ = some v1 ∧ W.cell? ⟨b, 1, none⟩ = some v2 ∧ W.cell? ⟨q, o0, none⟩ = some y0 ∧ W.cell? ⟨q, o1, none⟩ = some y1 ∧ W.cell? ⟨q, o2, none⟩ = some y2 ∧ W.cell? ⟨q, o3, none⟩ = some y3 ∧ W.cell? ⟨q, o4, none⟩ = some y4 ∧ W.cell? ⟨q, o5, none⟩ = some y5 := by
  obtain ⟨c0, c1, c2, c3, c4, c5, c6, c7⟩ := unhide h
  exact ⟨bl, kc bl hb c0, kc bl hb c1, kc bl hq c2, kc bl hq c3, kc bl hq c4, kc bl hq c5, kc bl hq c6, kc bl hq c7⟩
theorem Bf.newD {P W w1 : World} (b : Below (W.alloc StZ).drew.heap.size (W.alloc StZ).drew w1) (h : P.heap.size ≤ W.heap.size) : Bf P (W.alloc StZ).drew w1 W.heap.size := ⟨Bx.newD b h, by show W.heap.size < (W.alloc StZ).heap.size; simp⟩
theorem own_nilF (w : World) (base : Nat) : Hid (OwF base w (.slice none 0 0) []) := hide (World.ownsRow_nil w base _ _)
theorem size_allocD (W : World) (o : Obj) : W.heap.size ≤ (W.alloc o).drew.heap.size := by show W.heap.size ≤ (W.alloc o).heap.size; simp
/-- The cursor was made behind the variables of the call; the state was drawn; it is stored into the result. -/
theorem T3.of_draw {w1 w2 : World} {g : Nat} {v : Value} {xs : List Int} (h01 : Below w.heap.size w w1) (hg : w.heap.size ≤ g) (d : D3 w1 w2 g v xs v1 v2 its fls) : T3 w w2 v1 v2 its fls :=
  ⟨h01.grown d.gr h01.size (fun q hq => by simp at hq; omega), Ow.base d.oi h01.size, Ow.base d.of h01.size, d.li, d.lf, d.ni⟩

end Go.Proofs.YtcojhelihafigaaGreat

namespace Go.Proofs.YtcojhelihafigaaGreat
open Go.RowKit

/-- A row of the call's own, or an empty one. -/
def Wk {α : Type} (enc : α → List Value) (k : Nat) (E : TypeId) (base : Nat) (w : World) (v : Value) (xs : List α) : Prop := Ow enc k E base w v xs ∨ (xs = [] ∧ ∃ a c, v = .slice a 0 c)
theorem Wk.rw {α : Type} {enc : α → List Value} {k : Nat} (hk : ∀ x, (enc x).length = k) {e : TypeId} {base : Nat} {w : World} {v : Value} {xs : List α} (h : Wk enc k e base w v xs) : Rw enc k w v xs := by
  rcases h with h | ⟨rfl, a, c, rfl⟩
  · exact h.rw hk
  · exact ⟨a, c, rfl, Nat.zero_le _, .inl rfl⟩
theorem Wk.later {α : Type} {enc : α → List Value} {k : Nat} {e : TypeId} {base : Nat} {w w' : World} {v : Value} {xs : List α} (h : Wk enc k e base w v xs) (hb : Below w.heap.size w w') : Wk enc k e base w' v xs := h.imp (fun h => h.later hb) id
theorem Wk.base {α : Type} {enc : α → List Value} {k : Nat} {e : TypeId} {base base' : Nat} {w : World} {v : Value} {xs : List α} (h : Wk enc k e base w v xs) (hb : base' ≤ base) : Wk enc k e base' w v xs := h.imp (fun h => h.base hb) id
theorem Wk.other {α : Type} {enc : α → List Value} {k : Nat} {E T : TypeId} {base : Nat} {w w' : World} {v : Value} {xs : List α} {b : Nat} {cs : Array Value} {fz : Nat × Nat} (h : Wk enc k E base w v xs) (hb : w.heap[b]? = some (.cells cs T fz)) (hne : E ≠ T) (hg : w.grownBy w' (some b)) : Wk enc k E base w' v xs := h.imp (fun h => h.other hb hne hg) id
abbrev WkI (base : Nat) (w : World) (v : Value) (xs : List Itm) : Prop := Wk encI 6 40 base w v xs
abbrev WkF (base : Nat) (w : World) (v : Value) (fs : List Flr) : Prop := Wk encF 2 72 base w v fs

theorem run_cp_none {P : Program} {w : World} (t ty e : TypeId) (i : TypeInfo) (ht : P.underlying t = some (.slice e)) (hi : P.info? e = some i) (ad : Addr) (x : Option Addr) (c : Nat) :
    (Builtin.append_ #[t, t] ty #[.slice (some ad) 0 0, .slice x 0 c]).run P w = .ok (.slice (some ad) 0 0) w := by
  cases x <;> simp [Builtin.append_, run_underlying ht, sizeOf, typeInfo, hi, Builtin.lenOf, Builtin.firstCells, storeCells, loadCells, loadCellsFrom]
theorem step_cp {P : Program} {α : Type} {enc : α → List Value} {k : Nat} (hk : ∀ x, (enc x).length = k) (h0 : 0 < k) {ops : Array Oper} {o : Oper} {a : Act} {K : Act → World → Prop} {Q : Exit → Act → World → Prop} {R : Prop}
    (E T : TypeId) (i : TypeInfo) (z : Value) (bytes : Nat) (ht : P.underlying T = some (.slice E)) (hi : P.info? E = some i) (hz : i.zero = some z) (hsize : i.size = k) (hby : i.bytes = bytes) (hzs : z.cells.size = k) (hb : bytes ≤ 1000)
    (w : World) (hgd : o.guard = none) (s xo : Operand) (ho : o.op = .call { callee := .builtin .append, args := #[s, xo], argTypes := #[T, T] })
    (ad : Addr) (hs : a.eval s = .slice (some ad) 0 0) (B : Nat) (u : Value) (ys : List α) (n : Nat) (hn : Hid (n = ys.length)) (hx : a.eval xo = u) (hu : Ow enc k E B w u ys) (hlen : n ≤ 1000)
    (h : ∀ a' c' w', Wk enc k E w.heap.size w' (.slice a' n c') ys → Below w.heap.size w w' → K (a.put o.dst (.slice a' n c')) w') :
    if Region.wanted o (yielded ops a.tmps) = true then Oper.wp P o a w K Q else R := by
  obtain rfl := unhide hn
  rw [if_pos (by simp [Region.wanted, hgd])]
  by_cases hm : ys.length = 0
  · have hy : ys = [] := List.eq_nil_of_length_eq_zero hm
    obtain ⟨x, c, hu'⟩ : ∃ x c, u = .slice x 0 c := by
      obtain ⟨x, c, e⟩ := hu.form
      exact ⟨x, c, by rw [e, hm]⟩
    have hrun := run_cp_none (P := P) (w := w) T o.type E i ht hi ad x c
    unfold Oper.wp
    simp [execOp, ho, resolve, invoke, builtin, hs, hx, hu', hrun, Result.andThen]
    have := h (some ad) 0 w (.inr ⟨hy, some ad, 0, by rw [hm]⟩) (Below.refl _ _)
    rw [hm] at this
    exact this
  · rcases hu.2 with ⟨_, h00⟩ | ⟨g, cap, cur, rfl, hb', hg, hnc, _⟩
    · omega
    · have hcells : ∀ j u, (ys.flatMap enc)[j]? = some u → w.cell? ((⟨g, 0, none⟩ : Addr).add j) = some u := fun j u hj => by
        have e : (⟨g, 0, none⟩ : Addr).add j = ⟨g, j, none⟩ := by unfold Addr.add; split <;> simp_all
        rw [e]
        have hl := hu.1
        have hjl : j < (ys.flatMap enc).length := (List.getElem?_eq_some_iff.1 hj).1
        rw [World.ownsRow.cellAt hu j (by rw [hl] at hjl; exact hjl)]
        exact hj
      obtain ⟨v', w', hrun, r1, r2⟩ := run_append_arg_grows (P := P) w T o.type E i z k bytes ht hi hz hsize hby hzs h0 ad 0 0 [] (by simp) (fun j u hj => by simp at hj) ⟨g, 0, none⟩ ys.length cap (ys.flatMap enc) (by rw [flat_len hk]) hcells (by omega) (by unfold maxLen; omega) (by
        have : (0 + ys.length) * bytes ≤ 1000 * 1000 := Nat.mul_le_mul (by omega) hb
        omega)
      have hO : Ow enc k E w.heap.size w' v' ys := by
        unfold Ow
        simpa using r1
      obtain ⟨a', c', rfl⟩ := hO.form
      unfold Oper.wp
      simp [execOp, ho, resolve, invoke, builtin, hs, hx, hrun, Result.andThen]
      exact h a' c' w' (.inl hO) ⟨r2.os, r2.tape, r2.output, r2.size, fun q hq => r2.block q hq (by simp)⟩

variable {w V W W' : World} {v1 v2 : Value}
/-- The argument's variable and the result's, while the copy is made. -/
structure C3 (w W : World) (v1 v2 : Value) : Prop where
  bel : Below w.heap.size w W
  k1 : W.heap[w.heap.size]? = some (StB v1 v2)
  k2 : W.heap[w.heap.size + 1]? = some (StB (.slice none 0 0) (.slice none 0 0))
theorem C3.lt (h : C3 w W v1 v2) : w.heap.size + 1 < W.heap.size := (Array.getElem?_eq_some_iff.1 h.k2).1
theorem C3.later (h : C3 w W v1 v2) (b : Below W.heap.size W W') : C3 w W' v1 v2 := by
  have := h.lt
  exact ⟨h.bel.trans (b.mono h.bel.size), (b.block _ (by omega)).trans h.k1, (b.block _ (by omega)).trans h.k2⟩
theorem C3.drewH (h : Hid (C3 w W v1 v2)) : Hid (C3 w W.drew v1 v2) := hide ((unhide h).later (Below.refl _ _).drew)
theorem C3.allocH (h : Hid (C3 w W v1 v2)) (o : Obj) : Hid (C3 w (W.alloc o) v1 v2) := hide ((unhide h).later ((Below.refl _ _).alloc (Nat.le_refl _) o))
theorem kC (h : Hid (C3 w W v1 v2)) : Below w.heap.size w W ∧ W.cell? ⟨w.heap.size, 0, none⟩ = some v1 ∧ W.cell? ⟨w.heap.size, 1, none⟩ = some v2 := by
  obtain ⟨p0, p1, _⟩ := blk_cells2 (unhide h).k1
  exact ⟨(unhide h).bel, p0, p1⟩
theorem kCs (h : Hid (C3 w W v1 v2)) (u1 u2 : Value) : Below w.heap.size w ((W.setCell ⟨w.heap.size + 1, 0, none⟩ u1).setCell ⟨w.heap.size + 1, 1, none⟩ u2) ∧ ((W.setCell ⟨w.heap.size + 1, 0, none⟩ u1).setCell ⟨w.heap.size + 1, 1, none⟩ u2).cell? ⟨w.heap.size, 0, none⟩ = some v1 ∧ ((W.setCell ⟨w.heap.size + 1, 0, none⟩ u1).setCell ⟨w.heap.size + 1, 1, none⟩ u2).cell? ⟨w.heap.size, 1, none⟩ = some v2 := by
  obtain ⟨p0, p1, _⟩ := blk_cells2 (blk_grown (grown_set2 W (w.heap.size + 1) u1 u2) (unhide h).k1 (by omega))
  exact ⟨((unhide h).bel.setCell (p := ⟨w.heap.size + 1, 0, none⟩) (by simp) _).setCell (p := ⟨w.heap.size + 1, 1, none⟩) (by simp) _, p0, p1⟩
theorem C3.new (w : World) (v1 v2 : Value) : C3 w ((w.alloc (StB v1 v2)).alloc (StB (.slice none 0 0) (.slice none 0 0))) v1 v2 :=
  ⟨((Below.refl w.heap.size w).alloc (Nat.le_refl _) _).alloc (by simp) _, (Below.heap_alloc _ _ _ (by simp)).trans (heap_alloc_new _ _), newB2 _ _ _⟩
theorem later_al {X Y : World} {o : Obj} (b : Below (X.alloc o).heap.size (X.alloc o) Y) : Below X.heap.size X Y := ((Below.refl X.heap.size X).alloc (Nat.le_refl _) o).trans (b.mono (by simp))

end Go.Proofs.YtcojhelihafigaaGreat

namespace Go.Proofs.YtcojhelihafigaaGreat
open Go.RowKit

variable {w X Y : World} {b g : Nat} {v : Value} {xs : List Int} {v1 v2 : Value} {its : List Itm} {fls : List Flr}
/-- A variable that holds a state. -/
structure U3 (w X : World) (b : Nat) (v1 v2 : Value) (its : List Itm) (fls : List Flr) : Prop where
  ge : w.heap.size ≤ b
  k1 : X.heap[b]? = some (StB v1 v2)
  oi : WkI w.heap.size X v1 its
  of : WkF w.heap.size X v2 fls
theorem U3.lt (h : U3 w X b v1 v2 its fls) : b < X.heap.size := (Array.getElem?_eq_some_iff.1 h.k1).1
theorem U3.later (h : U3 w X b v1 v2 its fls) (bl : Below X.heap.size X Y) : U3 w Y b v1 v2 its fls := ⟨h.ge, (bl.block _ h.lt).trans h.k1, h.oi.later bl, h.of.later bl⟩
theorem U3.new {B : Nat} (hb : w.heap.size ≤ X.heap.size) (hB : w.heap.size ≤ B) (o1 : WkI B X v1 its) (o2 : WkF B X v2 fls) : U3 w (X.alloc (StB v1 v2)) X.heap.size v1 v2 its fls :=
  have bl : Below X.heap.size X (X.alloc (StB v1 v2)) := (Below.refl _ _).alloc (Nat.le_refl _) _
  ⟨hb, heap_alloc_new _ _, (o1.later bl).base hB, (o2.later bl).base hB⟩
theorem U3.call (h : U3 w X b v1 v2 its fls) (hc : Cur X g v xs) (hg : X.grownBy Y (some g)) (hne : b ≠ g) : U3 w Y b v1 v2 its fls := by
  obtain ⟨⟨i, q, hk, _⟩, _⟩ := hc
  exact ⟨h.ge, blk_grown hg h.k1 hne, h.oi.other hk (by decide) hg, h.of.other hk (by decide) hg⟩
theorem U3.put (h : U3 w X b v1 v2 its fls) {B : Nat} {u1 u2 : Value} {is' : List Itm} {fs' : List Flr} (hB : w.heap.size ≤ B) (o1 : WkI B X u1 is') (o2 : WkF B X u2 fs') : U3 w ((X.setCell ⟨b, 0, none⟩ u1).setCell ⟨b, 1, none⟩ u2) b u1 u2 is' fs' :=
  have hg := grown_set2 X b u1 u2
  ⟨h.ge, blk_set2 h.k1 _ _, (o1.other h.k1 (by decide) hg).base hB, (o2.other h.k1 (by decide) hg).base hB⟩
theorem U3.aside (h : U3 w X b v1 v2 its fls) {b2 : Nat} {y1 y2 u1 u2 : Value} (h2 : X.heap[b2]? = some (StB y1 y2)) (hne : b ≠ b2) : U3 w ((X.setCell ⟨b2, 0, none⟩ u1).setCell ⟨b2, 1, none⟩ u2) b v1 v2 its fls :=
  have hg := grown_set2 X b2 u1 u2
  ⟨h.ge, blk_grown hg h.k1 hne, h.oi.other h2 (by decide) hg, h.of.other h2 (by decide) hg⟩
theorem U3.cells (h : U3 w X b v1 v2 its fls) : X.cell? ⟨b, 0, none⟩ = some v1 ∧ X.cell? ⟨b, 1, none⟩ = some v2 := by
  obtain ⟨p0, p1, _⟩ := blk_cells2 h.k1
  exact ⟨p0, p1⟩
theorem U3.len {a1 : Option Addr} {n1 c1 : Nat} {a2 : Option Addr} {n2 c2 : Nat} (h : U3 w X b (.slice a1 n1 c1) (.slice a2 n2 c2) its fls) : n1 = its.length ∧ n2 = fls.length := ⟨(h.oi.rw encI_len).len.1, (h.of.rw encF_len).len.1⟩
theorem U3.rI (h : U3 w X b v1 v2 its fls) : Rw encI 6 X v1 its := h.oi.rw encI_len
theorem U3.rF (h : U3 w X b v1 v2 its fls) : Rw encF 2 X v2 fls := h.of.rw encF_len
/-- The two results' variables, the cursor and what was there. -/
structure Z3 (w X : World) (g : Nat) (v : Value) (xs : List Int) : Prop where
  bel : Below w.heap.size w X
  cu : Cur X g v xs
  gg : w.heap.size + 1 < g
  k2 : X.heap[w.heap.size]? = some (StB (.slice none 0 0) (.slice none 0 0))
  k3 : X.heap[w.heap.size + 1]? = some (StB (.slice none 0 0) (.slice none 0 0))
theorem Z3.lt (h : Z3 w X g v xs) : w.heap.size + 1 < X.heap.size := (Array.getElem?_eq_some_iff.1 h.k3).1
theorem Z3.gl (h : Z3 w X g v xs) : g < X.heap.size := cur_lt h.cu
theorem Z3.later (h : Z3 w X g v xs) (bl : Below X.heap.size X Y) : Z3 w Y g v xs := by
  have := h.lt
  exact ⟨h.bel.trans (bl.mono h.bel.size), h.cu.later bl (Nat.le_refl _), h.gg, (bl.block _ (by omega)).trans h.k2, (bl.block _ (by omega)).trans h.k3⟩
theorem Z3.call (h : Z3 w X g v xs) (hc : Cur Y g v xs) (hg : X.grownBy Y (some g)) : Z3 w Y g v xs := by
  have := h.gg
  exact ⟨h.bel.grown hg h.bel.size (fun q hq => by simp at hq; omega), hc, h.gg, blk_grown hg h.k2 (by omega), blk_grown hg h.k3 (by omega)⟩
theorem Z3.new {w1 : World} (b1 : Below ((w.alloc (StB (.slice none 0 0) (.slice none 0 0))).alloc (StB (.slice none 0 0) (.slice none 0 0))).heap.size ((w.alloc (StB (.slice none 0 0) (.slice none 0 0))).alloc (StB (.slice none 0 0) (.slice none 0 0))) w1) (c1 : Cur w1 g v xs) (hg : g = w.heap.size + 1 + 1) : Z3 w w1 g v xs := by
  have hw0 : ((w.alloc (StB (.slice none 0 0) (.slice none 0 0))).alloc (StB (.slice none 0 0) (.slice none 0 0))).heap.size = w.heap.size + 1 + 1 := by simp
  have b0 : Below w.heap.size w ((w.alloc (StB (.slice none 0 0) (.slice none 0 0))).alloc (StB (.slice none 0 0) (.slice none 0 0))) := ((Below.refl w.heap.size w).alloc (Nat.le_refl _) _).alloc (by simp) _
  exact ⟨b0.trans (b1.mono (by rw [hw0]; omega)), c1, by omega, (b1.block _ (by rw [hw0]; omega)).trans ((Below.heap_alloc _ _ _ (by simp)).trans (heap_alloc_new _ _)), (b1.block _ (by rw [hw0]; omega)).trans (newB2 _ _ _)⟩
/-- Two states that were drawn from a code. -/
structure T4 (w X : World) (v1 v2 u1 u2 : Value) (its : List Itm) (fls : List Flr) (jts : List Itm) (gls : List Flr) : Prop where
  bel : Below w.heap.size w X
  oi : WkI w.heap.size X v1 its
  of : WkF w.heap.size X v2 fls
  pi : WkI w.heap.size X u1 jts
  pf : WkF w.heap.size X u2 gls
  l1 : its.length ≤ 6
  l2 : fls.length ≤ 6
  l3 : jts.length ≤ 6
  l4 : gls.length ≤ 6
  ni : Nine its
  nj : Nine jts
/-- Two states are stored into the results. -/
theorem T4.mk' {u1 u2 : Value} {jts : List Itm} {gls : List Flr} (o1 : WkI w.heap.size X v1 its) (o2 : WkF w.heap.size X v2 fls) (o3 : WkI w.heap.size X u1 jts) (o4 : WkF w.heap.size X u2 gls) (bl : Below w.heap.size w X) (k2 : X.heap[w.heap.size]? = some (StB (.slice none 0 0) (.slice none 0 0))) (k3 : X.heap[w.heap.size + 1]? = some (StB (.slice none 0 0) (.slice none 0 0)))
    (l1 : its.length ≤ 6) (l2 : fls.length ≤ 6) (l3 : jts.length ≤ 6) (l4 : gls.length ≤ 6) (ni : Nine its) (nj : Nine jts) :
    T4 w ((((X.setCell ⟨w.heap.size, 0, none⟩ v1).setCell ⟨w.heap.size, 1, none⟩ v2).setCell ⟨w.heap.size + 1, 0, none⟩ u1).setCell ⟨w.heap.size + 1, 1, none⟩ u2) v1 v2 u1 u2 its fls jts gls := by
  have g1 := grown_set2 X w.heap.size v1 v2
  have k3' := blk_grown g1 k3 (by omega)
  have g2 := grown_set2 ((X.setCell ⟨w.heap.size, 0, none⟩ v1).setCell ⟨w.heap.size, 1, none⟩ v2) (w.heap.size + 1) u1 u2
  exact ⟨(((bl.setCell (p := ⟨w.heap.size, 0, none⟩) (Nat.le_refl _) _).setCell (p := ⟨w.heap.size, 1, none⟩) (Nat.le_refl _) _).setCell (p := ⟨w.heap.size + 1, 0, none⟩) (by simp) _).setCell (p := ⟨w.heap.size + 1, 1, none⟩) (by simp) _,
    (o1.other k2 (by decide) g1).other k3' (by decide) g2, (o2.other k2 (by decide) g1).other k3' (by decide) g2, (o3.other k2 (by decide) g1).other k3' (by decide) g2, (o4.other k2 (by decide) g1).other k3' (by decide) g2, l1, l2, l3, l4, ni, nj⟩
theorem T4.two {b' : Nat} {u1 u2 : Value} {jts : List Itm} {gls : List Flr} (h : U3 w X b v1 v2 its fls) (h' : U3 w X b' u1 u2 jts gls) (bl : Below w.heap.size w X) (k2 : X.heap[w.heap.size]? = some (StB (.slice none 0 0) (.slice none 0 0))) (k3 : X.heap[w.heap.size + 1]? = some (StB (.slice none 0 0) (.slice none 0 0)))
    (l1 : its.length ≤ 6) (l2 : fls.length ≤ 6) (l3 : jts.length ≤ 6) (l4 : gls.length ≤ 6) (ni : Nine its) (nj : Nine jts) :
    T4 w ((((X.setCell ⟨w.heap.size, 0, none⟩ v1).setCell ⟨w.heap.size, 1, none⟩ v2).setCell ⟨w.heap.size + 1, 0, none⟩ u1).setCell ⟨w.heap.size + 1, 1, none⟩ u2) v1 v2 u1 u2 its fls jts gls := T4.mk' h.oi h.of h'.oi h'.of bl k2 k3 l1 l2 l3 l4 ni nj
theorem T4.drew {u1 u2 : Value} {jts : List Itm} {gls : List Flr} (h : T4 w X v1 v2 u1 u2 its fls jts gls) : T4 w X.drew v1 v2 u1 u2 its fls jts gls :=
  have b : Below X.heap.size X X.drew := (Below.refl _ _).drew
  ⟨h.bel.trans (b.mono h.bel.size), h.oi.later b, h.of.later b, h.pi.later b, h.pf.later b, h.l1, h.l2, h.l3, h.l4, h.ni, h.nj⟩

theorem tail3_seg {w : World} {b off cap n : Nat} {xs : List Int} (hn : n = xs.length - 1) (hcap : xs.length ≤ cap) (h0 : xs.length ≠ 0) (hlt : b < w.heap.size) (hc : ∀ i, i < xs.length → w.cell? ⟨b, off + i, none⟩ = some (.int .u8 (xs.getD i 0))) : Seg w (.slice (some ⟨b, off + 1, none⟩) n (cap - 1)) xs.tail := by
  refine Seg.mk (by simp [hn]) (by omega) (.inr ⟨b, off + 1, rfl, hlt, fun i hi => ?_⟩)
  simp at hi
  rw [show off + 1 + i = off + (i + 1) by omega, hc (i + 1) (by omega)]
  cases xs with
  | nil => simp at h0
  | cons x r => simp

end Go.Proofs.YtcojhelihafigaaGreat

namespace Go.Proofs.YtcojhelihafigaaGreat
open Go.RowKit

/-- One cell of an item is written. -/
theorem OwI_one {X : World} {its : List Itm} {base q n c i j : Nat} {x y : Itm} {u : Value} (h : OwI base X (.slice (some ⟨q, 0, none⟩) n c) its) (hx : its[i]? = some x) (hj : j < 6) (hy : encI y = (encI x).set j u) :
    OwI base (X.setCell ⟨q, i * 6 + j, none⟩ u) (.slice (some ⟨q, 0, none⟩) n c) (its.set i y) ∧ X.grownBy (X.setCell ⟨q, i * 6 + j, none⟩ u) (some q) := by
  have hn : n = its.length := (h.rw encI_len).len.1
  subst hn
  have hi : i < its.length := (List.getElem?_eq_some_iff.1 hx).1
  obtain ⟨h1, h2⟩ := setW_own [u] h (i * 6 + j)
  refine ⟨?_, h2⟩
  have e : setL (its.flatMap encI) (i * 6 + j) [u] = (its.set i y).flatMap encI := by
    rw [← setL_flat (by omega) encI_len its i hi y]
    refine List.ext_getElem? fun m => ?_
    rw [setL_at, setL_at, encI_len, hy]
    simp only [List.length_cons, List.length_nil, Nat.zero_add]
    have hl : (its.flatMap encI).length = its.length * 6 := flat_len encI_len its
    by_cases hm : i * 6 ≤ m ∧ m < i * 6 + 6 ∧ m < (its.flatMap encI).length
    · rw [if_pos hm]
      by_cases hmj : m = i * 6 + j
      · subst hmj
        have e1 : i * 6 + j - i * 6 = j := by omega
        rw [if_pos ⟨Nat.le_refl _, by omega, hm.2.2⟩, Nat.sub_self, e1, List.getElem?_set_self (by rw [encI_len]; exact hj)]
        rfl
      · rw [if_neg (by omega), List.getElem?_set_ne (by omega)]
        have := flat_at encI_len its i x (m - i * 6) hx (by omega)
        rw [show i * 6 + (m - i * 6) = m by omega] at this
        exact this
    · rw [if_neg hm, if_neg (by omega)]
  unfold OwI Ow
  rw [List.length_set, ← e]
  exact h1

theorem once5_any (g : Nat) (v : Value) (xs : List Int) (n : Int) (w : World) (hlen : xs.length ≤ 1048576) (hbd : ∀ z ∈ xs, 0 ≤ z ∧ z ≤ 255) (hn0 : 0 < n) (hn1 : n ≤ 4294967296) (hc : Cur w g v xs) :
    Calls Tryz.prog 42 #[.pointer (some ⟨g, 0, none⟩), .int .i64 n] w fun e w' => (∃ b : Bool, e = .returned (.bool b)) ∧ Cur w' g v xs ∧ w.grownBy w' (some g) := by
  have HD := hide hbd
  have HC := hide hc
  clear hbd hc
  go_enter Tryz.func42, Tryz.ntmps42
  go_wp2_with fail
  refine (below_any g v xs n _ hlen (unhide HD) hn0 hn1 (unhide HC)).mono ?_
  rintro e w1 ⟨⟨x, rfl, xa, xb⟩, c1, g1⟩
  have C1 := hide c1
  have G1 := hide g1
  clear c1 g1
  go_wp2
  go_ret
  exact ⟨⟨_, rfl⟩, unhide C1, unhide G1⟩
/-- Where the code lies. -/
def Low (B : Nat) (v : Value) (xs : List Int) : Prop := xs = [] ∨ ∀ a n c, v = .slice (some a) n c → a.block < B
theorem seg_low {w : World} {v : Value} {xs : List Int} (h : Seg w v xs) : Low w.heap.size v xs := by
  obtain ⟨a, cap, rfl, hcap, hr⟩ := h
  rcases hr with hr | ⟨b, off, rfl, hlt, hc⟩
  · exact .inl hr
  · exact .inr fun a n c e => by cases e; exact hlt
theorem cur_put {W : World} {g s k B : Nat} {v u : Value} {xs : List Int} (h : Cur W g v xs) (hs : g ≠ s) (hv : Low B v xs) (hB : B ≤ s) : Cur (W.setCell ⟨s, k, none⟩ u) g v xs := by
  obtain ⟨⟨i, q, e, hi⟩, hseg, hne⟩ := h
  refine ⟨⟨i, q, (heap_setCell_other _ _ _ _ hs).trans e, hi⟩, ?_, hne⟩
  obtain ⟨a, cap, rfl, hcap, hr⟩ := hseg
  refine ⟨a, cap, rfl, hcap, ?_⟩
  rcases hr with hr | ⟨b, off, rfl, hlt, hc⟩
  · exact .inl hr
  · rcases hv with hv | hv
    · exact .inl hv
    have hb : b < B := hv _ _ _ rfl
    refine .inr ⟨b, off, rfl, by simpa using hlt, fun i hi => ?_⟩
    rw [World.cell?_setCell_other _ _ _ _ (fun e => by have := congrArg Addr.block e; simp only at this; omega)]
    exact hc i hi

variable {w X Y : World} {b g : Nat} {v : Value} {xs : List Int} {v1 v2 : Value} {its : List Itm} {fls : List Flr}
/-- While a state and an Id are drawn: the cursor g, the result in the call's first block, the state in block b. -/
structure Q5 (w X : World) (g : Nat) (v : Value) (xs : List Int) (b : Nat) (v1 v2 : Value) (its : List Itm) (fls : List Flr) : Prop where
  bel : Below w.heap.size w X
  cu : Cur X g v xs
  lo : Low w.heap.size v xs
  hg : w.heap.size < g
  hb : g < b
  k0 : X.heap[w.heap.size]? = some (StB (.slice none 0 0) (.slice none 0 0))
  k1 : X.heap[b]? = some (StB v1 v2)
  oi : OwI w.heap.size X v1 its
  of : OwF w.heap.size X v2 fls
  li : its.length ≤ 6
  lf : fls.length ≤ 6
  ni : Nine its
theorem Q5.gl (h : Q5 w X g v xs b v1 v2 its fls) : g < X.heap.size := cur_lt h.cu
theorem Q5.bl (h : Q5 w X g v xs b v1 v2 its fls) : b < X.heap.size := (Array.getElem?_eq_some_iff.1 h.k1).1
theorem Q5.call (h : Q5 w X g v xs b v1 v2 its fls) (hc : Cur Y g v xs) (hg : X.grownBy Y (some g)) : Q5 w Y g v xs b v1 v2 its fls := by
  obtain ⟨⟨i, q, hk, _⟩, _⟩ := h.cu
  have h1 := h.hg
  have h2 := h.hb
  exact ⟨h.bel.grown hg h.bel.size (fun q hq => by simp at hq; omega), hc, h.lo, h.hg, h.hb, blk_grown hg h.k0 (by omega), blk_grown hg h.k1 (by omega), h.oi.other hk (by decide) hg, h.of.other hk (by decide) hg, h.li, h.lf, h.ni⟩
theorem Q5.later (h : Q5 w X g v xs b v1 v2 its fls) (bl : Below X.heap.size X Y) : Q5 w Y g v xs b v1 v2 its fls := by
  have h1 := h.hg
  have h3 := h.gl
  exact ⟨h.bel.trans (bl.mono h.bel.size), h.cu.later bl (Nat.le_refl _), h.lo, h.hg, h.hb, (bl.block _ (by omega)).trans h.k0, (bl.block _ h.bl).trans h.k1, h.oi.later bl, h.of.later bl, h.li, h.lf, h.ni⟩
theorem Q5.drew (h : Q5 w X g v xs b v1 v2 its fls) : Q5 w X.drew g v xs b v1 v2 its fls := h.later (Below.refl _ _).drew
theorem Q5.cells (h : Q5 w X g v xs b v1 v2 its fls) : X.cell? ⟨b, 0, none⟩ = some v1 ∧ X.cell? ⟨b, 1, none⟩ = some v2 := by
  obtain ⟨p0, p1, _⟩ := blk_cells2 h.k1
  exact ⟨p0, p1⟩
theorem Q5.res (h : Q5 w X g v xs b v1 v2 its fls) : X.cell? ⟨w.heap.size, 0, none⟩ = some (.slice none 0 0) ∧ X.cell? ⟨w.heap.size, 1, none⟩ = some (.slice none 0 0) ∧ ∀ o, X.frozen? ⟨w.heap.size, o, none⟩ = false := blk_cells2 h.k0
theorem Q5.len {a1 : Option Addr} {n1 c1 : Nat} {a2 : Option Addr} {n2 c2 : Nat} (h : Q5 w X g v xs b (.slice a1 n1 c1) (.slice a2 n2 c2) its fls) : n1 = its.length ∧ n2 = fls.length := ⟨(h.oi.rw encI_len).len.1, (h.of.rw encF_len).len.1⟩
/-- An own row of more than none is a block of its own, from its start. -/
theorem Q5.at {a1 : Option Addr} {n1 c1 : Nat} (h : Q5 w X g v xs b (.slice a1 n1 c1) v2 its fls) (h0 : 0 < n1) : ∃ q, a1 = some ⟨q, 0, none⟩ ∧ w.heap.size ≤ q ∧ q < X.heap.size := by
  obtain ⟨-, h1 | ⟨q, c, cs, e, hq, hblk, -⟩⟩ := h.oi
  · obtain ⟨e, -⟩ := h1
    cases e; omega
  · cases e
    exact ⟨q, rfl, hq, (Array.getElem?_eq_some_iff.1 hblk).1⟩
/-- One cell of an item of the state is written. -/
theorem Q5.wr {q n c i j : Nat} {x y : Itm} {u : Value} (h : Q5 w X g v xs b (.slice (some ⟨q, 0, none⟩) n c) v2 its fls) (hx : its[i]? = some x) (hj : j < 6) (hy : encI y = (encI x).set j u) (hs : y.2.2.2.2.2.size ≤ 9) :
    Q5 w (X.setCell ⟨q, i * 6 + j, none⟩ u) g v xs b (.slice (some ⟨q, 0, none⟩) n c) v2 (its.set i y) fls := by
  obtain ⟨o1, hg⟩ := OwI_one h.oi hx hj hy
  obtain ⟨⟨ci, cq, hk, _⟩, _⟩ := h.cu
  have hq := World.ownsRow.lt h.oi q rfl
  have n0 : w.heap.size ≠ q := fun e => own_ne h.oi h.k0 (by decide) (by rw [e]; rfl)
  have nb : b ≠ q := fun e => own_ne h.oi h.k1 (by decide) (by rw [e]; rfl)
  have ng : g ≠ q := fun e => own_ne h.oi hk (by decide) (by rw [e]; rfl)
  exact ⟨h.bel.setCell (p := ⟨q, i * 6 + j, none⟩) hq.1 _, cur_put h.cu ng h.lo hq.1, h.lo, h.hg, h.hb, blk_grown hg h.k0 n0, blk_grown hg h.k1 nb, o1, World.ownsRow.kept h.of hg (owns_apart h.of h.oi (by decide)), by rw [List.length_set]; exact h.li, h.lf, nine_set h.ni hs⟩
theorem Q5.fin (h : Q5 w X g v xs b v1 v2 its fls) : T3 w ((X.setCell ⟨w.heap.size, 0, none⟩ v1).setCell ⟨w.heap.size, 1, none⟩ v2) v1 v2 its fls := by
  have hg := grown_set2 X w.heap.size v1 v2
  exact ⟨(h.bel.setCell (p := ⟨w.heap.size, 0, none⟩) (Nat.le_refl _) _).setCell (p := ⟨w.heap.size, 1, none⟩) (Nat.le_refl _) _, h.oi.other h.k0 (by decide) hg, h.of.other h.k0 (by decide) hg, h.li, h.lf, h.ni⟩
theorem item5 {base q n c k : Nat} {x : Itm} (h : OwI base X (.slice (some ⟨q, 0, none⟩) n c) its) (hx : its[k]? = some x) :
    X.cell? ⟨q, k * 6, none⟩ = some (.int .i64 x.1) ∧ X.cell? ⟨q, k * 6 + 1, none⟩ = some (.int .i64 x.2.1) ∧ X.cell? ⟨q, k * 6 + 2, none⟩ = some (.int .i64 x.2.2.1) ∧ X.cell? ⟨q, k * 6 + 3, none⟩ = some (.int .i64 x.2.2.2.1) ∧ X.cell? ⟨q, k * 6 + 4, none⟩ = some (.int .i64 x.2.2.2.2.1) ∧ X.cell? ⟨q, k * 6 + 5, none⟩ = some (.string x.2.2.2.2.2) ∧ ∀ o, X.frozen? ⟨q, o, none⟩ = false := by
  have hn : n = its.length := (h.rw encI_len).len.1
  have hk : k < n := by rw [hn]; exact (List.getElem?_eq_some_iff.1 hx).1
  obtain ⟨y0, y1, y2, y3, y4, y5, -, -, -, -, -, -, hf⟩ := items_cells h hk
  obtain ⟨x', b', off, hx', e, hb, hcap, hc⟩ := (h.rw encI_len).at hk
  rw [hx] at hx'; cases hx'
  cases e
  obtain ⟨c0, c1, c2, c3, c4, c5⟩ := item_cells hc
  simp only [Nat.zero_add] at c0 c1 c2 c3 c4 c5
  exact ⟨c0, c1, c2, c3, c4, c5, hf⟩
set_option maxHeartbeats 8000000 in
set_option maxRecDepth 100000 in
theorem l5two_any (v : Value) (xs : List Int) (w : World) (hlen : xs.length ≤ 1048576) (hbd : ∀ z ∈ xs, 0 ≤ z ∧ z ≤ 255) (hv : Seg w v xs) :
    Calls Tryz.prog 20 #[v] w fun e w' => ∃ a1 n1 c1 a2 n2 c2 its fls id, e = .returned (.tuple #[.agg #[.slice a1 n1 c1, .slice a2 n2 c2], .int .i64 id]) ∧ T3 w w' (.slice a1 n1 c1) (.slice a2 n2 c2) its fls := by
  have HD := hide hbd
  have bA : Below w.heap.size w (w.alloc (StB (.slice none 0 0) (.slice none 0 0))) := (Below.refl _ _).alloc (Nat.le_refl _) _
  have HS := hide (hv.below bA (Nat.le_refl _))
  have BA := hide bA
  have LO := hide (seg_low hv)
  clear hbd hv bA
  go_enter Tryz.func20, Tryz.ntmps20
  go_wp2_with fail
  refine (new_any v xs _ hlen (unhide HD) (unhide HS)).mono ?_
  rintro e w1 ⟨rfl, c1, b1, s1⟩
  have hw0 : (w.alloc (StB (.slice none 0 0) (.slice none 0 0))).heap.size = w.heap.size + 1 := by simp
  have B1 := hide ((unhide BA).trans (b1.mono (by rw [hw0]; omega)))
  have K1 := hide ((b1.block _ (by rw [hw0]; omega)).trans (heap_alloc_new w _))
  rw [hw0] at c1 s1
  have C1 := hide c1
  obtain ⟨g, hg⟩ : ∃ g, g = w.heap.size + 1 := ⟨_, rfl⟩
  rw [hw0, ← hg]
  rw [← hg] at C1
  have hgA : w.heap.size < g := by omega
  clear hg c1 b1 s1 hw0 HS BA
  go_wp2_with fail
  refine (l3draw_any g v xs _ hlen (unhide HD) (unhide C1)).mono ?_
  rintro e w2 ⟨a1, n1, c1, a2, n2, c2, its, fls, rfl, d⟩
  go_upto_region 3 with fail
  obtain ⟨wa, hwa⟩ : ∃ W, W = w2.alloc (StB (.slice a1 n1 c1) (.slice a2 n2 c2)) := ⟨_, rfl⟩
  obtain ⟨b, hb⟩ : ∃ b, b = w2.heap.size := ⟨_, rfl⟩
  rw [← hwa, ← hb]
  have hgb : g < b := by rw [hb]; exact Nat.lt_of_lt_of_le (cur_lt (unhide C1)) d.gr.size
  have Q := hide (show Q5 w wa g v xs b (.slice a1 n1 c1) (.slice a2 n2 c2) its fls from by
    have t := T3.of_draw (unhide B1) (by omega) d
    have bl : Below w2.heap.size w2 wa := by rw [hwa]; exact (Below.refl _ _).alloc (Nat.le_refl _) _
    exact ⟨t.bel.trans (bl.mono t.bel.size), d.cu.later bl (Nat.le_refl _), unhide LO, hgA, hgb, (bl.block _ (by have := (Array.getElem?_eq_some_iff.1 (blk_grown d.gr (unhide K1) (by omega))).1; omega)).trans (blk_grown d.gr (unhide K1) (by omega)), by rw [hwa, hb]; exact heap_alloc_new _ _, t.oi.later bl, t.of.later bl, t.li, t.lf, t.ni⟩)
  clear d hwa hb C1 B1 K1 LO
  obtain ⟨e1, e2⟩ := (unhide Q).len
  have l1 := (unhide Q).li
  have l2 := (unhide Q).lf
  obtain ⟨hn1, hn2⟩ : n1 ≤ 6 ∧ n2 ≤ 6 := by omega
  have E1 := hide e1
  clear e1 e2 l1 l2
  go_wp2_with fail
  refine (below_any g v xs 7 _ hlen (unhide HD) (by omega) (by omega) (unhide Q).cu).mono ?_
  rintro e w3 ⟨⟨x, rfl, xa, xb⟩, c3, g3⟩
  replace Q := hide ((unhide Q).call c3 g3)
  clear c3 g3
  obtain ⟨p0, p1⟩ := (unhide Q).cells
  by_cases hz : n1 = 0
  · subst hz
    obtain ⟨r0, r1, rz⟩ := (unhide Q).res
    go_wp2
    exact bodyPost_ret (v := .tuple #[.agg #[.slice a1 0 c1, .slice a2 n2 c2], .int .i64 (x - 1)]) (by simp [results, Tryz.results20, go_sem, r0, r1]) rfl ⟨_, _, _, _, _, _, _, _, _, rfl, (unhide Q).fin⟩
  have hz0 : 0 < n1 := by omega
  have hd0 : decide ((0 : Int) < (n1 : Int)) = true := by simp; omega
  go_wp2_with fail
  refine (once5_any g v xs 2 _ hlen (unhide HD) (by omega) (by omega) (unhide Q).cu).mono ?_
  rintro e w4 ⟨⟨oq, rfl⟩, c4, g4⟩
  replace Q := hide ((unhide Q).call c4 g4)
  clear c4 g4 p0 p1
  obtain ⟨p0, p1⟩ := (unhide Q).cells
  cases oq
  · obtain ⟨r0, r1, rz⟩ := (unhide Q).res
    go_wp2
    exact bodyPost_ret (v := .tuple #[.agg #[.slice a1 n1 c1, .slice a2 n2 c2], .int .i64 (x - 1)]) (by simp [results, Tryz.results20, go_sem, r0, r1]) rfl ⟨_, _, _, _, _, _, _, _, _, rfl, (unhide Q).fin⟩
  go_wp2_with fail
  refine (below_any g v xs n1 _ hlen (unhide HD) (by omega) (by omega) (unhide Q).cu).mono ?_
  rintro e w5 ⟨⟨kx, rfl, ka, kb⟩, c5, g5⟩
  replace Q := hide ((unhide Q).call c5 g5)
  obtain ⟨k, rfl⟩ := Int.eq_ofNat_of_zero_le ka
  have hk : k < n1 := by omega
  clear c5 g5 p0 p1
  obtain ⟨p0, p1⟩ := (unhide Q).cells
  obtain ⟨q, rfl, hq1, hq2⟩ := (unhide Q).at hz0
  obtain ⟨it, hit⟩ := at_some (unhide E1) hk
  have HIT := hide hit
  obtain ⟨i0, i1, i2, i3, i4, i5, fz⟩ := item5 (unhide Q).oi hit
  clear hit
  go_wp2_with fail
  refine (below_any g v xs 6 _ hlen (unhide HD) (by omega) (by omega) (unhide Q).cu).mono ?_
  rintro e w6 ⟨⟨y, rfl, ya, yb⟩, c6, g6⟩
  replace Q := hide ((unhide Q).call c6 g6)
  clear c6 g6 p0 p1 i0 i1 i2 i3 i4 i5 fz
  obtain ⟨p0, p1⟩ := (unhide Q).cells
  obtain ⟨i0, i1, i2, i3, i4, i5, fz⟩ := item5 (unhide Q).oi (unhide HIT)
  have hs9 := (unhide Q).ni it (List.mem_of_getElem? (unhide HIT))
  obtain ⟨r0, r1, rz⟩ := (unhide Q).res
  rcases (by omega : y = 0 ∨ y = 1 ∨ y = 2 ∨ 3 ≤ y) with rfl | rfl | rfl | hy
  · have QN := hide ((unhide Q).wr (j := 1) (y := (it.1, 1000, it.2.2.1, it.2.2.2.1, it.2.2.2.2.1, it.2.2.2.2.2)) (u := .int .i64 1000) (unhide HIT) (by omega) rfl hs9)
    obtain ⟨s0, s1, sz⟩ := (unhide QN).res
    obtain ⟨t0, t1⟩ := (unhide QN).cells
    go_wp2
    exact bodyPost_ret (v := .tuple #[.agg #[.slice (some ⟨q, 0, none⟩) n1 c1, .slice a2 n2 c2], .int .i64 it.1]) (by simp [results, Tryz.results20, go_sem, s0, s1]) rfl ⟨_, _, _, _, _, _, _, _, _, rfl, (unhide QN).fin⟩
  · have QN := hide ((unhide Q).wr (j := 3) (y := (it.1, it.2.1, it.2.2.1, 100000, it.2.2.2.2.1, it.2.2.2.2.2)) (u := .int .i64 100000) (unhide HIT) (by omega) rfl hs9)
    obtain ⟨s0, s1, sz⟩ := (unhide QN).res
    obtain ⟨t0, t1⟩ := (unhide QN).cells
    go_wp2
    exact bodyPost_ret (v := .tuple #[.agg #[.slice (some ⟨q, 0, none⟩) n1 c1, .slice a2 n2 c2], .int .i64 it.1]) (by simp [results, Tryz.results20, go_sem, s0, s1]) rfl ⟨_, _, _, _, _, _, _, _, _, rfl, (unhide QN).fin⟩
  · have QN := hide ((unhide Q).wr (j := 4) (y := (it.1, it.2.1, it.2.2.1, it.2.2.2.1, 1000, it.2.2.2.2.2)) (u := .int .i64 1000) (unhide HIT) (by omega) rfl hs9)
    obtain ⟨s0, s1, sz⟩ := (unhide QN).res
    obtain ⟨t0, t1⟩ := (unhide QN).cells
    go_wp2
    exact bodyPost_ret (v := .tuple #[.agg #[.slice (some ⟨q, 0, none⟩) n1 c1, .slice a2 n2 c2], .int .i64 it.1]) (by simp [results, Tryz.results20, go_sem, s0, s1]) rfl ⟨_, _, _, _, _, _, _, _, _, rfl, (unhide QN).fin⟩
  have hy0 : (y == 0) = false := by simp; omega
  have hy1 : (y == 1) = false := by simp; omega
  have hy2 : (y == 2) = false := by simp; omega
  go_wp2
  exact bodyPost_ret (v := .tuple #[.agg #[.slice (some ⟨q, 0, none⟩) n1 c1, .slice a2 n2 c2], .int .i64 it.1]) (by simp [results, Tryz.results20, go_sem, r0, r1]) rfl ⟨_, _, _, _, _, _, _, _, _, rfl, (unhide Q).fin⟩

theorem T3.res {O : Obj} (hO : O = StB (.slice none 0 0) (.slice none 0 0)) (h : T3 (w.alloc O) X v1 v2 its fls) : T3 w ((X.setCell ⟨w.heap.size, 0, none⟩ v1).setCell ⟨w.heap.size, 1, none⟩ v2) v1 v2 its fls := by
  have hg := grown_set2 X w.heap.size v1 v2
  have hs : (w.alloc O).heap.size = w.heap.size + 1 := by simp
  have bA : Below w.heap.size w (w.alloc O) := (Below.refl _ _).alloc (Nat.le_refl _) _
  have k0 := (h.bel.block w.heap.size (by omega)).trans (heap_alloc_new w O)
  rw [hO] at k0
  have bl := bA.trans (h.bel.mono (by omega))
  exact ⟨(bl.setCell (p := ⟨w.heap.size, 0, none⟩) (Nat.le_refl _) _).setCell (p := ⟨w.heap.size, 1, none⟩) (Nat.le_refl _) _, Ow.base (h.oi.other k0 (by decide) hg) (by omega), Ow.base (h.of.other k0 (by decide) hg) (by omega), h.li, h.lf, h.ni⟩

set_option maxHeartbeats 4000000 in
set_option maxRecDepth 100000 in
theorem drawsay_any (v : Value) (xs : List Int) (w : World) (hlen : xs.length ≤ 1048576) (hbd : ∀ z ∈ xs, 0 ≤ z ∧ z ≤ 255) (hv : Seg w v xs) :
    Calls Tryz.prog 5 #[v] w fun e w' => ∃ a1 n1 c1 a2 n2 c2 its fls id, e = .returned (.tuple #[.agg #[.slice a1 n1 c1, .slice a2 n2 c2], .int .i64 id]) ∧ T3 w w' (.slice a1 n1 c1) (.slice a2 n2 c2) its fls := by
  have HD := hide hbd
  have bA : Below w.heap.size w (w.alloc (StB (.slice none 0 0) (.slice none 0 0))) := (Below.refl _ _).alloc (Nat.le_refl _) _
  have HS := hide (hv.below bA (Nat.le_refl _))
  clear hbd hv bA
  go_enter Tryz.func5, Tryz.ntmps5
  go_wp2_with fail
  refine (l5two_any v xs _ hlen (unhide HD) (unhide HS)).mono ?_
  rintro e w1 ⟨a1, n1, c1, a2, n2, c2, its, fls, id, rfl, t⟩
  have T := hide (t.res rfl)
  obtain ⟨r0, r1, rz⟩ := blk_cells2 ((t.bel.block w.heap.size (by simp)).trans (heap_alloc_new w _))
  clear t HS
  go_wp2
  exact bodyPost_ret (v := .tuple #[.agg #[.slice a1 n1 c1, .slice a2 n2 c2], .int .i64 id]) (by simp [results, Tryz.results5, go_sem, r0, r1]) rfl ⟨_, _, _, _, _, _, _, _, _, rfl, unhide T⟩
set_option maxHeartbeats 1000000 in
theorem at0_any (v : Value) (xs : List Int) (i : Nat) (w : World) (hlen : xs.length ≤ 1048576) (hi : i ≤ 1000000) (hbd : ∀ z ∈ xs, 0 ≤ z ∧ z ≤ 255) (hv : Seg w v xs) :
    Calls Tryz.prog 6 #[v, .int .i64 i] w fun e w' => (∃ x, e = .returned (.int .i64 x) ∧ 0 ≤ x ∧ x ≤ 255) ∧ w = w' := by
  obtain ⟨a, cap, rfl, hcap, hr⟩ := hv
  by_cases hlt : i < xs.length
  · rcases hr with hr | ⟨b, off, rfl, hbw, hc⟩
    · subst hr; simp at hlt
    · have hcx := hc i hlt
      have hzb := hbd (xs.getD i 0) (by simp [hlt])
      generalize hz : xs.getD i 0 = z at hcx hzb
      clear hc hz hbd
      obtain ⟨hz0, hz1⟩ := hzb
      go_enter Tryz.func6, Tryz.ntmps6
      go_wp2
      go_ret
      exact ⟨⟨z, rfl, hz0, hz1⟩, rfl⟩
  · clear hr hbd
    go_enter Tryz.func6, Tryz.ntmps6
    go_wp2
    go_ret
    exact ⟨⟨_, rfl, Int.emod_nonneg _ (by omega), by have := Int.emod_lt_of_pos ((i : Int) * 7 + xs.length) (show (0 : Int) < 256 by omega); omega⟩, rfl⟩
theorem at0_seven (v : Value) (xs : List Int) (w : World) (hlen : xs.length ≤ 1048576) (hbd : ∀ z ∈ xs, 0 ≤ z ∧ z ≤ 255) (hv : Seg w v xs) :
    Calls Tryz.prog 6 #[v, .int .i64 7] w fun e w' => (∃ x, e = .returned (.int .i64 x) ∧ 0 ≤ x ∧ x ≤ 255) ∧ w = w' := at0_any v xs 7 w hlen (by decide) hbd hv
end Go.Proofs.YtcojhelihafigaaGreat
