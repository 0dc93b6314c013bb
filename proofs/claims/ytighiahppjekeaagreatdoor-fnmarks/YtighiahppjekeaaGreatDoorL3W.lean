/-
  spec.DrawStateOk, spec.DrawSingle: some state, some item, with short texts; nothing that was there turns. No statement is proved here.
  spec.l3Copy: the same lists in memory of the call's own. No statement is proved here.
  spec.l3Two, spec.DrawStateJoin, laws.tail: some two states, with short texts; nothing that was there turns. No statement is proved here.
-/
import Derived.Test.YtighiahppjekeaaGreatDoorL3D
import Derived.Test.YtighiahppjekeaaGreatDoorEntDraw
import Derived.ArgAppend
import Derived.Laws.OwnMore
namespace Go.Proofs.YtighiahppjekeaaGreatDoor
open Go.RowKit

variable {w X Y : World} {b : Nat} {v1 v2 : Value} {its : List Itm} {fls : List Flr}
/-- A state that was drawn from a code. -/
structure T3 (w X : World) (v1 v2 : Value) (its : List Itm) (fls : List Flr) : Prop where
  bel : Below w.heap.size w X
  oi : OwI w.heap.size X v1 its
  of : OwF w.heap.size X v2 fls
  li : its.length ≤ 6
  lf : fls.length ≤ 6
  ni : Nine its
/-- A variable of the law that holds a state. -/
structure V3 (w X : World) (b : Nat) (v1 v2 : Value) (its : List Itm) (fls : List Flr) : Prop where
  ge : w.heap.size ≤ b
  k1 : X.heap[b]? = some (StB v1 v2)
  oi : OwI w.heap.size X v1 its
  of : OwF w.heap.size X v2 fls
theorem V3.lt (h : V3 w X b v1 v2 its fls) : b < X.heap.size := (Array.getElem?_eq_some_iff.1 h.k1).1
theorem V3.later (h : V3 w X b v1 v2 its fls) (bl : Below X.heap.size X Y) : V3 w Y b v1 v2 its fls := ⟨h.ge, (bl.block _ h.lt).trans h.k1, h.oi.later bl, h.of.later bl⟩
theorem V3.alloc (h : V3 w X b v1 v2 its fls) (o : Obj) : V3 w (X.alloc o) b v1 v2 its fls := h.later ((Below.refl _ _).alloc (Nat.le_refl _) o)
theorem V3.new {B : Nat} (hb : w.heap.size ≤ X.heap.size) (hB : w.heap.size ≤ B) (o1 : OwI B X v1 its) (o2 : OwF B X v2 fls) : V3 w (X.alloc (StB v1 v2)) X.heap.size v1 v2 its fls :=
  have bl : Below X.heap.size X (X.alloc (StB v1 v2)) := (Below.refl _ _).alloc (Nat.le_refl _) _
  ⟨hb, heap_alloc_new _ _, Ow.base (o1.later bl) hB, Ow.base (o2.later bl) hB⟩
theorem V3.put (h : V3 w X b v1 v2 its fls) {B : Nat} {u1 u2 : Value} {is' : List Itm} {fs' : List Flr} (hB : w.heap.size ≤ B) (o1 : OwI B X u1 is') (o2 : OwF B X u2 fs') : V3 w ((X.setCell ⟨b, 0, none⟩ u1).setCell ⟨b, 1, none⟩ u2) b u1 u2 is' fs' :=
  have hg := grown_set2 X b u1 u2
  ⟨h.ge, blk_set2 h.k1 _ _, Ow.base (o1.other h.k1 (by decide) hg) hB, Ow.base (o2.other h.k1 (by decide) hg) hB⟩
theorem V3.aside (h : V3 w X b v1 v2 its fls) {b2 : Nat} {y1 y2 u1 u2 : Value} (h2 : X.heap[b2]? = some (StB y1 y2)) (hne : b ≠ b2) : V3 w ((X.setCell ⟨b2, 0, none⟩ u1).setCell ⟨b2, 1, none⟩ u2) b v1 v2 its fls :=
  have hg := grown_set2 X b2 u1 u2
  ⟨h.ge, blk_grown hg h.k1 hne, h.oi.other h2 (by decide) hg, h.of.other h2 (by decide) hg⟩
theorem V3.bel (h : V3 w X b v1 v2 its fls) (bl : Below w.heap.size w X) (u1 u2 : Value) : Below w.heap.size w ((X.setCell ⟨b, 0, none⟩ u1).setCell ⟨b, 1, none⟩ u2) := (bl.setCell (p := ⟨b, 0, none⟩) h.ge _).setCell (p := ⟨b, 1, none⟩) h.ge _
theorem V3.cells (h : V3 w X b v1 v2 its fls) : X.cell? ⟨b, 0, none⟩ = some v1 ∧ X.cell? ⟨b, 1, none⟩ = some v2 := by
  obtain ⟨p0, p1, _⟩ := blk_cells2 h.k1
  exact ⟨p0, p1⟩
theorem V3.len {a1 : Option Addr} {n1 c1 : Nat} {a2 : Option Addr} {n2 c2 : Nat} (h : V3 w X b (.slice a1 n1 c1) (.slice a2 n2 c2) its fls) : n1 = its.length ∧ n2 = fls.length := ⟨(h.oi.rw encI_len).len.1, (h.of.rw encF_len).len.1⟩

theorem keep8 {P W : World} {b q o0 o1 o2 o3 o4 o5 : Nat} {v1 v2 y0 y1 y2 y3 y4 y5 : Value} (hb : b < P.heap.size) (hq : q < P.heap.size)
    (h : Hid (P.cell? ⟨b, 0, none⟩ = some v1 ∧ P.cell? ⟨b, 1, none⟩ = some v2 ∧ P.cell? ⟨q, o0, none⟩ = some y0 ∧ P.cell? ⟨q, o1, none⟩ = some y1 ∧ P.cell? ⟨q, o2, none⟩ = some y2 ∧ P.cell? ⟨q, o3, none⟩ = some y3 ∧ P.cell? ⟨q, o4, none⟩ = some y4 ∧ P.cell? ⟨q, o5, none⟩ = some y5)) (bl : Below P.heap.size P W) :
    Below P.heap.size P W ∧ W.cell? ⟨b, 0, none⟩ = some v1 ∧ W.cell? ⟨b, 1, none⟩ = some v2 ∧ W.cell? ⟨q, o0, none⟩ = some y0 ∧ W.cell? ⟨q, o1, none⟩ = some y1 ∧ W.cell? ⟨q, o2, none⟩ = some y2 ∧ W.cell? ⟨q, o3, none⟩ = some y3 ∧ W.cell? ⟨q, o4, none⟩ = some y4 ∧ W.cell? ⟨q, o5, none⟩ = some y5 := by
  obtain ⟨c0, c1, c2, c3, c4, c5, c6, c7⟩ := unhide h
  exact ⟨bl, kc bl hb c0, kc bl hb c1, kc bl hq c2, kc bl hq c3, kc bl hq c4, kc bl hq c5, kc bl hq c6, kc bl hq c7⟩
theorem Bf.newD {P W w1 : World} (b : Below (W.alloc StZ).drew.heap.size (W.alloc StZ).drew w1) (h : P.heap.size ≤ W.heap.size) : Bf P (W.alloc StZ).drew w1 W.heap.size := ⟨Bx.newD b h, by show W.heap.size < (W.alloc StZ).heap.size; simp⟩
theorem own_nilF (w : World) (base : Nat) : Hid (OwF base w (.slice none 0 0) []) := hide (World.ownsRow_nil w base _ _)
theorem size_allocD (W : World) (o : Obj) : W.heap.size ≤ (W.alloc o).drew.heap.size := by show W.heap.size ≤ (W.alloc o).heap.size; simp
/-- The cursor was made behind the variables of the call; the state was drawn; it is stored into the result. -/
theorem T3.of_draw {w1 w2 : World} {g : Nat} {v : Value} {xs : List Int} (h01 : Below w.heap.size w w1) (hg : w.heap.size ≤ g) (d : D3 w1 w2 g v xs v1 v2 its fls) : T3 w w2 v1 v2 its fls :=
  ⟨h01.grown d.gr h01.size (fun q hq => by simp at hq; omega), Ow.base d.oi h01.size, Ow.base d.of h01.size, d.li, d.lf, d.ni⟩

end Go.Proofs.YtighiahppjekeaaGreatDoor

namespace Go.Proofs.YtighiahppjekeaaGreatDoor
open Go.RowKit

/-- A row of the call's own, or an empty one. -/
def Wk {α : Type} (enc : α → List Value) (k : Nat) (E : TypeId) (base : Nat) (w : World) (v : Value) (xs : List α) : Prop := Ow enc k E base w v xs ∨ (xs = [] ∧ ∃ a c, v = .slice a 0 c)
theorem Wk.rw {α : Type} {enc : α → List Value} {k : Nat} (hk : ∀ x, (enc x).length = k) {e : TypeId} {base : Nat} {w : World} {v : Value} {xs : List α} (h : Wk enc k e base w v xs) : Rw enc k w v xs := by
  rcases h with h | ⟨rfl, a, c, rfl⟩
  · exact h.rw hk
  · exact ⟨a, c, rfl, Nat.zero_le _, .inl rfl⟩
theorem Wk.later {α : Type} {enc : α → List Value} {k : Nat} {e : TypeId} {base : Nat} {w w' : World} {v : Value} {xs : List α} (h : Wk enc k e base w v xs) (hb : Below w.heap.size w w') : Wk enc k e base w' v xs := h.imp (fun h => h.later hb) id
theorem Wk.base {α : Type} {enc : α → List Value} {k : Nat} {e : TypeId} {base base' : Nat} {w : World} {v : Value} {xs : List α} (h : Wk enc k e base w v xs) (hb : base' ≤ base) : Wk enc k e base' w v xs := h.imp (fun h => h.base hb) id
theorem Wk.other {α : Type} {enc : α → List Value} {k : Nat} {E T : TypeId} {base : Nat} {w w' : World} {v : Value} {xs : List α} {b : Nat} {cs : Array Value} {fz : Nat × Nat} (h : Wk enc k E base w v xs) (hb : w.heap[b]? = some (.cells cs T fz)) (hne : E ≠ T) (hg : w.grownBy w' (some b)) : Wk enc k E base w' v xs := h.imp (fun h => h.other hb hne hg) id
abbrev WkI (base : Nat) (w : World) (v : Value) (xs : List Itm) : Prop := Wk encI 6 62 base w v xs
abbrev WkF (base : Nat) (w : World) (v : Value) (fs : List Flr) : Prop := Wk encF 2 59 base w v fs

theorem run_cp_none {P : Program} {w : World} (t ty e : TypeId) (i : TypeInfo) (ht : P.underlying t = some (.slice e)) (hi : P.info? e = some i) (ad : Addr) (x : Option Addr) (c : Nat) :
    (Builtin.append_ #[t, t] ty #[.slice (some ad) 0 0, .slice x 0 c]).run P w = .ok (.slice (some ad) 0 0) w := by
  cases x <;> simp [Builtin.append_, run_underlying ht, sizeOf, typeInfo, hi, Builtin.lenOf, Builtin.firstCells, storeCells, loadCells, loadCellsFrom]
theorem step_cp {P : Program} {α : Type} {enc : α → List Value} {k : Nat} (hk : ∀ x, (enc x).length = k) (h0 : 0 < k) {ops : Array Oper} {o : Oper} {a : Act} {K : Act → World → Prop} {Q : Exit → Act → World → Prop} {R : Prop}
    (E T : TypeId) (i : TypeInfo) (z : Value) (bytes : Nat) (ht : P.underlying T = some (.slice E)) (hi : P.info? E = some i) (hz : i.zero = some z) (hsize : i.size = k) (hby : i.bytes = bytes) (hzs : z.cells.size = k) (hb : bytes ≤ 1000)
    (w : World) (hgd : o.guard = none) (s xo : Operand) (ho : o.op = .call { callee := .builtin .append, args := #[s, xo], argTypes := #[T, T] })
    (ad : Addr) (hs : a.eval s = .slice (some ad) 0 0) (B : Nat) (u : Value) (ys : List α) (n : Nat) (hn : Hid (n = ys.length)) (hx : a.eval xo = u) (hu : Ow enc k E B w u ys) (hlen : n ≤ 1000)
    (h : ∀ a' c' w', Wk enc k E w.heap.size w' (.slice a' n c') ys → Below w.heap.size w w' → K (a.put o.dst (.slice a' n c')) w') :
    if Region.wanted o (yielded ops a.tmps) = true then Oper.wp P o a w K Q else R := by
  obtain rfl := unhide hn
  rw [if_pos (by simp [Region.wanted, hgd])]
  by_cases hm : ys.length = 0
  · have hy : ys = [] := List.eq_nil_of_length_eq_zero hm
    obtain ⟨x, c, hu'⟩ : ∃ x c, u = .slice x 0 c := by
      obtain ⟨x, c, e⟩ := hu.form
      exact ⟨x, c, by rw [e, hm]⟩
    have hrun := run_cp_none (P := P) (w := w) T o.type E i ht hi ad x c
    unfold Oper.wp
    simp [execOp, ho, resolve, invoke, builtin, hs, hx, hu', hrun, Result.andThen]
    have := h (some ad) 0 w (.inr ⟨hy, some ad, 0, by rw [hm]⟩) (Below.refl _ _)
    rw [hm] at this
    exact this
  · rcases hu.2 with ⟨_, h00⟩ | ⟨g, cap, cur, rfl, hb', hg, hnc, _⟩
    · omega
    · have hcells : ∀ j u, (ys.flatMap enc)[j]? = some u → w.cell? ((⟨g, 0, none⟩ : Addr).add j) = some u := fun j u hj => by
        have e : (⟨g, 0, none⟩ : Addr).add j = ⟨g, j, none⟩ := by unfold Addr.add; split <;> simp_all
        rw [e]
        have hl := hu.1
        have hjl : j < (ys.flatMap enc).length := (List.getElem?_eq_some_iff.1 hj).1
        rw [World.ownsRow.cellAt hu j (by rw [hl] at hjl; exact hjl)]
        exact hj
      obtain ⟨v', w', hrun, r1, r2⟩ := run_append_arg_grows (P := P) w T o.type E i z k bytes ht hi hz hsize hby hzs h0 ad 0 0 [] (by simp) (fun j u hj => by simp at hj) ⟨g, 0, none⟩ ys.length cap (ys.flatMap enc) (by rw [flat_len hk]) hcells (by omega) (by unfold maxLen; omega) (by
        have : (0 + ys.length) * bytes ≤ 1000 * 1000 := Nat.mul_le_mul (by omega) hb
        omega)
      have hO : Ow enc k E w.heap.size w' v' ys := by
        unfold Ow
        simpa using r1
      obtain ⟨a', c', rfl⟩ := hO.form
      unfold Oper.wp
      simp [execOp, ho, resolve, invoke, builtin, hs, hx, hrun, Result.andThen]
      exact h a' c' w' (.inl hO) ⟨r2.os, r2.tape, r2.output, r2.size, fun q hq => r2.block q hq (by simp)⟩

variable {w V W W' : World} {v1 v2 : Value}
/-- The argument's variable and the result's, while the copy is made. -/
structure C3 (w W : World) (v1 v2 : Value) : Prop where
  bel : Below w.heap.size w W
  k1 : W.heap[w.heap.size]? = some (StB v1 v2)
  k2 : W.heap[w.heap.size + 1]? = some (StB (.slice none 0 0) (.slice none 0 0))
theorem C3.lt (h : C3 w W v1 v2) : w.heap.size + 1 < W.heap.size := (Array.getElem?_eq_some_iff.1 h.k2).1
theorem C3.later (h : C3 w W v1 v2) (b : Below W.heap.size W W') : C3 w W' v1 v2 := by
  have := h.lt
  exact ⟨h.bel.trans (b.mono h.bel.size), (b.block _ (by omega)).trans h.k1, (b.block _ (by omega)).trans h.k2⟩
theorem C3.drewH (h : Hid (C3 w W v1 v2)) : Hid (C3 w W.drew v1 v2) := hide ((unhide h).later (Below.refl _ _).drew)
theorem C3.allocH (h : Hid (C3 w W v1 v2)) (o : Obj) : Hid (C3 w (W.alloc o) v1 v2) := hide ((unhide h).later ((Below.refl _ _).alloc (Nat.le_refl _) o))
theorem kC (h : Hid (C3 w W v1 v2)) : Below w.heap.size w W ∧ W.cell? ⟨w.heap.size, 0, none⟩ = some v1 ∧ W.cell? ⟨w.heap.size, 1, none⟩ = some v2 := by
  obtain ⟨p0, p1, _⟩ := blk_cells2 (unhide h).k1
  exact ⟨(unhide h).bel, p0, p1⟩
theorem kCs (h : Hid (C3 w W v1 v2)) (u1 u2 : Value) : Below w.heap.size w ((W.setCell ⟨w.heap.size + 1, 0, none⟩ u1).setCell ⟨w.heap.size + 1, 1, none⟩ u2) ∧ ((W.setCell ⟨w.heap.size + 1, 0, none⟩ u1).setCell ⟨w.heap.size + 1, 1, none⟩ u2).cell? ⟨w.heap.size, 0, none⟩ = some v1 ∧ ((W.setCell ⟨w.heap.size + 1, 0, none⟩ u1).setCell ⟨w.heap.size + 1, 1, none⟩ u2).cell? ⟨w.heap.size, 1, none⟩ = some v2 := by
  obtain ⟨p0, p1, _⟩ := blk_cells2 (blk_grown (grown_set2 W (w.heap.size + 1) u1 u2) (unhide h).k1 (by omega))
  exact ⟨((unhide h).bel.setCell (p := ⟨w.heap.size + 1, 0, none⟩) (by simp) _).setCell (p := ⟨w.heap.size + 1, 1, none⟩) (by simp) _, p0, p1⟩
theorem C3.new (w : World) (v1 v2 : Value) : C3 w ((w.alloc (StB v1 v2)).alloc (StB (.slice none 0 0) (.slice none 0 0))) v1 v2 :=
  ⟨((Below.refl w.heap.size w).alloc (Nat.le_refl _) _).alloc (by simp) _, (Below.heap_alloc _ _ _ (by simp)).trans (heap_alloc_new _ _), newB2 _ _ _⟩
theorem later_al {X Y : World} {o : Obj} (b : Below (X.alloc o).heap.size (X.alloc o) Y) : Below X.heap.size X Y := ((Below.refl X.heap.size X).alloc (Nat.le_refl _) o).trans (b.mono (by simp))

set_option maxHeartbeats 8000000 in
set_option maxRecDepth 100000 in
theorem l3copy_any (a1 : Option Addr) (n1 c1 : Nat) (its : List Itm) (a2 : Option Addr) (n2 c2 : Nat) (fls : List Flr) (B : Nat) (w : World) (h1 : n1 ≤ 6) (h2 : n2 ≤ 6) (hx : OwI B w (.slice a1 n1 c1) its) (hf : OwF B w (.slice a2 n2 c2) fls) :
    Calls Tryz.prog 32 #[.agg #[.slice a1 n1 c1, .slice a2 n2 c2]] w fun e w' => ∃ b1 d1 b2 d2, e = .returned (.agg #[.slice b1 n1 d1, .slice b2 n2 d2]) ∧ WkI w.heap.size w' (.slice b1 n1 d1) its ∧ WkF w.heap.size w' (.slice b2 n2 d2) fls ∧ Below w.heap.size w w' := by
  obtain ⟨i0, hi, hz0, hz1, hz2⟩ := info_parts Tryz.infoItem
  obtain ⟨i1, gi, gz0, gz1, gz2⟩ := info_parts Tryz.infoFloor
  have E1 := hide (hx.rw encI_len).len.1
  have E2 := hide (hf.rw encF_len).len.1
  have HX := hide hx
  have HF := hide hf
  clear hx hf
  go_enter Tryz.func32, Tryz.ntmps32
  go_upto_region 1 with fail
  obtain ⟨V, hV⟩ : ∃ V, V = (w.alloc (StB (.slice a1 n1 c1) (.slice a2 n2 c2))).alloc (StB (.slice none 0 0) (.slice none 0 0)) := ⟨_, rfl⟩
  have CV := hide (show C3 w V (.slice a1 n1 c1) (.slice a2 n2 c2) from by rw [hV]; exact C3.new _ _ _)
  rw [← hV]
  clear hV
  have CD := C3.drewH CV
  have z0 := (unhide CD).bel.size
  have z1 := (unhide CD).lt
  go_region_held3 (fun W => Below w.heap.size w W ∧ W.cell? ⟨w.heap.size, 0, none⟩ = some (.slice a1 n1 c1) ∧ W.cell? ⟨w.heap.size, 1, none⟩ = some (.slice a2 n2 c2))
    (first | (with_reducible exact kC CV) | (with_reducible exact kC CD) | (with_reducible exact kC CB) | (with_reducible exact kC CA) | (with_reducible exact kC (C3.drewH (C3.allocH CV _))) | (with_reducible exact kC (C3.drewH (C3.allocH (C3.allocH CV _) _))) | (with_reducible exact kC (C3.allocH CA _)) | (with_reducible exact kC (C3.allocH CB _)) | (with_reducible exact kCs CB _ _) | (with_reducible exact kCs CA _ _))
    (first
      | (refine step_cp encI_len (by omega) 62 24 i0 _ 56 Tryz.underlying24 hi hz0 hz1 hz2 rfl (by omega) _ rfl _ _ rfl _ rfl B (.slice a1 n1 c1) its n1 E1 rfl ?_ (by omega) ?_; (first | with_reducible exact (unhide HX).later (unhide (C3.drewH (C3.allocH CV _))).bel | with_reducible exact (unhide HX).later (unhide (C3.drewH (C3.allocH (C3.allocH CV _) _))).bel | with_reducible exact (unhide HX).later (unhide CB).bel | with_reducible exact (unhide HX).later (unhide (C3.allocH CB _)).bel); intro b1 d1 w6 hO hG; (first | (with_reducible have CA := hide ((unhide (C3.drewH (C3.allocH CV _))).later hG); have OI := hide (hO.base (unhide (C3.drewH (C3.allocH CV _))).bel.size)) | (with_reducible have CA := hide ((unhide (C3.drewH (C3.allocH (C3.allocH CV _) _))).later hG); have OI := hide (hO.base (unhide (C3.drewH (C3.allocH (C3.allocH CV _) _))).bel.size)) | (with_reducible have CA := hide ((unhide CB).later hG); have OI := hide (hO.base (unhide CB).bel.size)) | (with_reducible have CA := hide ((unhide (C3.allocH CB _)).later hG); have OI := hide (hO.base (unhide (C3.allocH CB _)).bel.size))); (first | (with_reducible have OF := hide ((unhide OF).later hG)) | (with_reducible have OF := hide ((unhide OF).later (later_al hG))) | skip); have zA := (unhide CA).lt; obtain ⟨q0, q1, qf⟩ := blk_cells2 (unhide CA).k2; clear hO hG)
      | (refine step_cp encF_len (by omega) 59 25 i1 _ 16 Tryz.underlying25 gi gz0 gz1 gz2 rfl (by omega) _ rfl _ _ rfl _ rfl B (.slice a2 n2 c2) fls n2 E2 rfl ?_ (by omega) ?_; (first | with_reducible exact (unhide HF).later (unhide (C3.drewH (C3.allocH CV _))).bel | with_reducible exact (unhide HF).later (unhide (C3.drewH (C3.allocH (C3.allocH CV _) _))).bel | with_reducible exact (unhide HF).later (unhide CA).bel | with_reducible exact (unhide HF).later (unhide (C3.allocH CA _)).bel); intro b2 d2 w7 hO hG; (first | (with_reducible have CB := hide ((unhide (C3.drewH (C3.allocH CV _))).later hG); have OF := hide (hO.base (unhide (C3.drewH (C3.allocH CV _))).bel.size)) | (with_reducible have CB := hide ((unhide (C3.drewH (C3.allocH (C3.allocH CV _) _))).later hG); have OF := hide (hO.base (unhide (C3.drewH (C3.allocH (C3.allocH CV _) _))).bel.size)) | (with_reducible have CB := hide ((unhide CA).later hG); have OF := hide (hO.base (unhide CA).bel.size)) | (with_reducible have CB := hide ((unhide (C3.allocH CA _)).later hG); have OF := hide (hO.base (unhide (C3.allocH CA _)).bel.size))); (first | (with_reducible have OI := hide ((unhide OI).later hG)) | (with_reducible have OI := hide ((unhide OI).later (later_al hG))) | skip); have zB := (unhide CB).lt; obtain ⟨q0, q1, qf⟩ := blk_cells2 (unhide CB).k2; clear hO hG))
  all_goals go_wp2
  all_goals first
    | exact bodyPost_ret (v := .agg #[.slice b1 n1 d1, .slice b2 n2 d2]) (by simp [results, Tryz.results32, go_sem, q0, q1]) rfl ⟨_, _, _, _, rfl, (unhide OI).other (unhide CA).k2 (by decide) (grown_set2 w6 _ _ _), (unhide OF).other (unhide CA).k2 (by decide) (grown_set2 w6 _ _ _), (kCs CA _ _).1⟩
    | exact bodyPost_ret (v := .agg #[.slice b1 n1 d1, .slice b2 n2 d2]) (by simp [results, Tryz.results32, go_sem, q0, q1]) rfl ⟨_, _, _, _, rfl, (unhide OI).other (unhide CB).k2 (by decide) (grown_set2 w7 _ _ _), (unhide OF).other (unhide CB).k2 (by decide) (grown_set2 w7 _ _ _), (kCs CB _ _).1⟩
end Go.Proofs.YtighiahppjekeaaGreatDoor

namespace Go.Proofs.YtighiahppjekeaaGreatDoor
open Go.RowKit

variable {w X Y : World} {b g : Nat} {v : Value} {xs : List Int} {v1 v2 : Value} {its : List Itm} {fls : List Flr}
/-- A variable that holds a state. -/
structure U3 (w X : World) (b : Nat) (v1 v2 : Value) (its : List Itm) (fls : List Flr) : Prop where
  ge : w.heap.size ≤ b
  k1 : X.heap[b]? = some (StB v1 v2)
  oi : WkI w.heap.size X v1 its
  of : WkF w.heap.size X v2 fls
theorem U3.lt (h : U3 w X b v1 v2 its fls) : b < X.heap.size := (Array.getElem?_eq_some_iff.1 h.k1).1
theorem U3.later (h : U3 w X b v1 v2 its fls) (bl : Below X.heap.size X Y) : U3 w Y b v1 v2 its fls := ⟨h.ge, (bl.block _ h.lt).trans h.k1, h.oi.later bl, h.of.later bl⟩
theorem U3.new {B : Nat} (hb : w.heap.size ≤ X.heap.size) (hB : w.heap.size ≤ B) (o1 : WkI B X v1 its) (o2 : WkF B X v2 fls) : U3 w (X.alloc (StB v1 v2)) X.heap.size v1 v2 its fls :=
  have bl : Below X.heap.size X (X.alloc (StB v1 v2)) := (Below.refl _ _).alloc (Nat.le_refl _) _
  ⟨hb, heap_alloc_new _ _, (o1.later bl).base hB, (o2.later bl).base hB⟩
theorem U3.call (h : U3 w X b v1 v2 its fls) (hc : Cur X g v xs) (hg : X.grownBy Y (some g)) (hne : b ≠ g) : U3 w Y b v1 v2 its fls := by
  obtain ⟨⟨i, q, hk, _⟩, _⟩ := hc
  exact ⟨h.ge, blk_grown hg h.k1 hne, h.oi.other hk (by decide) hg, h.of.other hk (by decide) hg⟩
theorem U3.put (h : U3 w X b v1 v2 its fls) {B : Nat} {u1 u2 : Value} {is' : List Itm} {fs' : List Flr} (hB : w.heap.size ≤ B) (o1 : WkI B X u1 is') (o2 : WkF B X u2 fs') : U3 w ((X.setCell ⟨b, 0, none⟩ u1).setCell ⟨b, 1, none⟩ u2) b u1 u2 is' fs' :=
  have hg := grown_set2 X b u1 u2
  ⟨h.ge, blk_set2 h.k1 _ _, (o1.other h.k1 (by decide) hg).base hB, (o2.other h.k1 (by decide) hg).base hB⟩
theorem U3.aside (h : U3 w X b v1 v2 its fls) {b2 : Nat} {y1 y2 u1 u2 : Value} (h2 : X.heap[b2]? = some (StB y1 y2)) (hne : b ≠ b2) : U3 w ((X.setCell ⟨b2, 0, none⟩ u1).setCell ⟨b2, 1, none⟩ u2) b v1 v2 its fls :=
  have hg := grown_set2 X b2 u1 u2
  ⟨h.ge, blk_grown hg h.k1 hne, h.oi.other h2 (by decide) hg, h.of.other h2 (by decide) hg⟩
theorem U3.cells (h : U3 w X b v1 v2 its fls) : X.cell? ⟨b, 0, none⟩ = some v1 ∧ X.cell? ⟨b, 1, none⟩ = some v2 := by
  obtain ⟨p0, p1, _⟩ := blk_cells2 h.k1
  exact ⟨p0, p1⟩
theorem U3.len {a1 : Option Addr} {n1 c1 : Nat} {a2 : Option Addr} {n2 c2 : Nat} (h : U3 w X b (.slice a1 n1 c1) (.slice a2 n2 c2) its fls) : n1 = its.length ∧ n2 = fls.length := ⟨(h.oi.rw encI_len).len.1, (h.of.rw encF_len).len.1⟩
theorem U3.rI (h : U3 w X b v1 v2 its fls) : Rw encI 6 X v1 its := h.oi.rw encI_len
theorem U3.rF (h : U3 w X b v1 v2 its fls) : Rw encF 2 X v2 fls := h.of.rw encF_len
/-- The two results' variables, the cursor and what was there. -/
structure Z3 (w X : World) (g : Nat) (v : Value) (xs : List Int) : Prop where
  bel : Below w.heap.size w X
  cu : Cur X g v xs
  gg : w.heap.size + 1 < g
  k2 : X.heap[w.heap.size]? = some (StB (.slice none 0 0) (.slice none 0 0))
  k3 : X.heap[w.heap.size + 1]? = some (StB (.slice none 0 0) (.slice none 0 0))
theorem Z3.lt (h : Z3 w X g v xs) : w.heap.size + 1 < X.heap.size := (Array.getElem?_eq_some_iff.1 h.k3).1
theorem Z3.gl (h : Z3 w X g v xs) : g < X.heap.size := cur_lt h.cu
theorem Z3.later (h : Z3 w X g v xs) (bl : Below X.heap.size X Y) : Z3 w Y g v xs := by
  have := h.lt
  exact ⟨h.bel.trans (bl.mono h.bel.size), h.cu.later bl (Nat.le_refl _), h.gg, (bl.block _ (by omega)).trans h.k2, (bl.block _ (by omega)).trans h.k3⟩
theorem Z3.call (h : Z3 w X g v xs) (hc : Cur Y g v xs) (hg : X.grownBy Y (some g)) : Z3 w Y g v xs := by
  have := h.gg
  exact ⟨h.bel.grown hg h.bel.size (fun q hq => by simp at hq; omega), hc, h.gg, blk_grown hg h.k2 (by omega), blk_grown hg h.k3 (by omega)⟩
theorem Z3.new {w1 : World} (b1 : Below ((w.alloc (StB (.slice none 0 0) (.slice none 0 0))).alloc (StB (.slice none 0 0) (.slice none 0 0))).heap.size ((w.alloc (StB (.slice none 0 0) (.slice none 0 0))).alloc (StB (.slice none 0 0) (.slice none 0 0))) w1) (c1 : Cur w1 g v xs) (hg : g = w.heap.size + 1 + 1) : Z3 w w1 g v xs := by
  have hw0 : ((w.alloc (StB (.slice none 0 0) (.slice none 0 0))).alloc (StB (.slice none 0 0) (.slice none 0 0))).heap.size = w.heap.size + 1 + 1 := by simp
  have b0 : Below w.heap.size w ((w.alloc (StB (.slice none 0 0) (.slice none 0 0))).alloc (StB (.slice none 0 0) (.slice none 0 0))) := ((Below.refl w.heap.size w).alloc (Nat.le_refl _) _).alloc (by simp) _
  exact ⟨b0.trans (b1.mono (by rw [hw0]; omega)), c1, by omega, (b1.block _ (by rw [hw0]; omega)).trans ((Below.heap_alloc _ _ _ (by simp)).trans (heap_alloc_new _ _)), (b1.block _ (by rw [hw0]; omega)).trans (newB2 _ _ _)⟩
/-- Two states that were drawn from a code. -/
structure T4 (w X : World) (v1 v2 u1 u2 : Value) (its : List Itm) (fls : List Flr) (jts : List Itm) (gls : List Flr) : Prop where
  bel : Below w.heap.size w X
  oi : WkI w.heap.size X v1 its
  of : WkF w.heap.size X v2 fls
  pi : WkI w.heap.size X u1 jts
  pf : WkF w.heap.size X u2 gls
  l1 : its.length ≤ 6
  l2 : fls.length ≤ 6
  l3 : jts.length ≤ 6
  l4 : gls.length ≤ 6
  ni : Nine its
  nj : Nine jts
/-- Two states are stored into the results. -/
theorem T4.mk' {u1 u2 : Value} {jts : List Itm} {gls : List Flr} (o1 : WkI w.heap.size X v1 its) (o2 : WkF w.heap.size X v2 fls) (o3 : WkI w.heap.size X u1 jts) (o4 : WkF w.heap.size X u2 gls) (bl : Below w.heap.size w X) (k2 : X.heap[w.heap.size]? = some (StB (.slice none 0 0) (.slice none 0 0))) (k3 : X.heap[w.heap.size + 1]? = some (StB (.slice none 0 0) (.slice none 0 0)))
    (l1 : its.length ≤ 6) (l2 : fls.length ≤ 6) (l3 : jts.length ≤ 6) (l4 : gls.length ≤ 6) (ni : Nine its) (nj : Nine jts) :
    T4 w ((((X.setCell ⟨w.heap.size, 0, none⟩ v1).setCell ⟨w.heap.size, 1, none⟩ v2).setCell ⟨w.heap.size + 1, 0, none⟩ u1).setCell ⟨w.heap.size + 1, 1, none⟩ u2) v1 v2 u1 u2 its fls jts gls := by
  have g1 := grown_set2 X w.heap.size v1 v2
  have k3' := blk_grown g1 k3 (by omega)
  have g2 := grown_set2 ((X.setCell ⟨w.heap.size, 0, none⟩ v1).setCell ⟨w.heap.size, 1, none⟩ v2) (w.heap.size + 1) u1 u2
  exact ⟨(((bl.setCell (p := ⟨w.heap.size, 0, none⟩) (Nat.le_refl _) _).setCell (p := ⟨w.heap.size, 1, none⟩) (Nat.le_refl _) _).setCell (p := ⟨w.heap.size + 1, 0, none⟩) (by simp) _).setCell (p := ⟨w.heap.size + 1, 1, none⟩) (by simp) _,
    (o1.other k2 (by decide) g1).other k3' (by decide) g2, (o2.other k2 (by decide) g1).other k3' (by decide) g2, (o3.other k2 (by decide) g1).other k3' (by decide) g2, (o4.other k2 (by decide) g1).other k3' (by decide) g2, l1, l2, l3, l4, ni, nj⟩
theorem T4.two {b' : Nat} {u1 u2 : Value} {jts : List Itm} {gls : List Flr} (h : U3 w X b v1 v2 its fls) (h' : U3 w X b' u1 u2 jts gls) (bl : Below w.heap.size w X) (k2 : X.heap[w.heap.size]? = some (StB (.slice none 0 0) (.slice none 0 0))) (k3 : X.heap[w.heap.size + 1]? = some (StB (.slice none 0 0) (.slice none 0 0)))
    (l1 : its.length ≤ 6) (l2 : fls.length ≤ 6) (l3 : jts.length ≤ 6) (l4 : gls.length ≤ 6) (ni : Nine its) (nj : Nine jts) :
    T4 w ((((X.setCell ⟨w.heap.size, 0, none⟩ v1).setCell ⟨w.heap.size, 1, none⟩ v2).setCell ⟨w.heap.size + 1, 0, none⟩ u1).setCell ⟨w.heap.size + 1, 1, none⟩ u2) v1 v2 u1 u2 its fls jts gls := T4.mk' h.oi h.of h'.oi h'.of bl k2 k3 l1 l2 l3 l4 ni nj
theorem T4.drew {u1 u2 : Value} {jts : List Itm} {gls : List Flr} (h : T4 w X v1 v2 u1 u2 its fls jts gls) : T4 w X.drew v1 v2 u1 u2 its fls jts gls :=
  have b : Below X.heap.size X X.drew := (Below.refl _ _).drew
  ⟨h.bel.trans (b.mono h.bel.size), h.oi.later b, h.of.later b, h.pi.later b, h.pf.later b, h.l1, h.l2, h.l3, h.l4, h.ni, h.nj⟩

set_option maxHeartbeats 8000000 in
set_option maxRecDepth 100000 in
theorem l3two_any (v : Value) (xs : List Int) (w : World) (hlen : xs.length ≤ 1048576) (hbd : ∀ z ∈ xs, 0 ≤ z ∧ z ≤ 255) (hv : Seg w v xs) :
    Calls Tryz.prog 50 #[v] w fun e w' => ∃ a1 n1 c1 a2 n2 c2 b1 m1 d1 b2 m2 d2 its fls jts gls, e = .returned (.tuple #[.agg #[.slice a1 n1 c1, .slice a2 n2 c2], .agg #[.slice b1 m1 d1, .slice b2 m2 d2]]) ∧ T4 w w' (.slice a1 n1 c1) (.slice a2 n2 c2) (.slice b1 m1 d1) (.slice b2 m2 d2) its fls jts gls := by
  have HD := hide hbd
  have HS := hide (hv.below (((Below.refl w.heap.size w).alloc (Nat.le_refl _) (StB (.slice none 0 0) (.slice none 0 0))).alloc (by simp) (StB (.slice none 0 0) (.slice none 0 0))) (Nat.le_refl _))
  clear hbd hv
  go_enter Tryz.func50, Tryz.ntmps50
  go_wp2_with fail
  refine (new_any v xs _ hlen (unhide HD) (unhide HS)).mono ?_
  rintro e w1 ⟨rfl, c1, b1, s1⟩
  have hw0 : ((w.alloc (StB (.slice none 0 0) (.slice none 0 0))).alloc (StB (.slice none 0 0) (.slice none 0 0))).heap.size = w.heap.size + 1 + 1 := by simp
  rw [hw0] at c1
  obtain ⟨g, hg⟩ : ∃ g, g = w.heap.size + 1 + 1 := ⟨_, rfl⟩
  rw [hw0, ← hg]
  rw [← hg] at c1
  have Z1 := hide (Z3.new b1 c1 hg)
  clear hg c1 b1 s1 hw0 HS
  go_wp2_with fail
  refine (l3draw_any g v xs _ hlen (unhide HD) (unhide Z1).cu).mono ?_
  rintro e w2 ⟨a1, n1, c1, a2, n2, c2, its, fls, rfl, d⟩
  go_upto_region 3 with fail
  obtain ⟨wa, hwa⟩ : ∃ W, W = w2.alloc (StB (.slice a1 n1 c1) (.slice a2 n2 c2)) := ⟨_, rfl⟩
  obtain ⟨ba, hba⟩ : ∃ b, b = w2.heap.size := ⟨_, rfl⟩
  rw [← hwa, ← hba]
  have bwa : Below w2.heap.size w2 wa := by rw [hwa]; exact (Below.refl _ _).alloc (Nat.le_refl _) _
  have Za := hide (((unhide Z1).call d.cu d.gr).later bwa)
  have hba1 : g < ba := by rw [hba]; exact Nat.lt_of_lt_of_le (unhide Z1).gl d.gr.size
  have hba2 : w.heap.size + 1 < ba := by have := (unhide Z1).gg; omega
  have VA := hide (show V3 w1 wa ba (.slice a1 n1 c1) (.slice a2 n2 c2) its fls from by rw [hwa, hba]; exact V3.new d.gr.size (Nat.le_refl _) d.oi d.of)
  have L1 := hide d.li
  have L2 := hide d.lf
  have NI := hide d.ni
  have hz1 := (unhide Z1).bel.size
  clear d hwa hba bwa
  go_wp2_with fail
  refine (l3draw_any g v xs _ hlen (unhide HD) (unhide Za).cu).mono ?_
  rintro e w3 ⟨b1, m1, d1, b2, m2, d2, jts, gls, rfl, d⟩
  go_upto_region 4 with fail
  obtain ⟨wb, hwb⟩ : ∃ W, W = w3.alloc (StB (.slice b1 m1 d1) (.slice b2 m2 d2)) := ⟨_, rfl⟩
  obtain ⟨bb, hbb⟩ : ∃ b, b = w3.heap.size := ⟨_, rfl⟩
  rw [← hwb, ← hbb]
  have bwb : Below w3.heap.size w3 wb := by rw [hwb]; exact (Below.refl _ _).alloc (Nat.le_refl _) _
  have Zb := hide (((unhide Za).call d.cu d.gr).later bwb)
  have hbb1 : ba < bb := by rw [hbb]; exact Nat.lt_of_lt_of_le (unhide VA).lt d.gr.size
  obtain ⟨⟨ix, qx, hkx, _⟩, _⟩ := (unhide Za).cu
  have VAb := hide (show V3 w1 wb ba (.slice a1 n1 c1) (.slice a2 n2 c2) its fls from (show V3 w1 w3 ba (.slice a1 n1 c1) (.slice a2 n2 c2) its fls from ⟨(unhide VA).ge, blk_grown d.gr (unhide VA).k1 (by omega), (unhide VA).oi.other hkx (by decide) d.gr, (unhide VA).of.other hkx (by decide) d.gr⟩).later bwb)
  have UB := hide (show U3 w wb bb (.slice b1 m1 d1) (.slice b2 m2 d2) jts gls from by rw [hwb, hbb]; exact U3.new ((unhide Za).bel.trans (show Below w.heap.size wa w3 from ⟨d.gr.os, d.gr.tape, d.gr.output, d.gr.size, fun k hk => d.gr.block k (Nat.lt_of_lt_of_le hk (unhide Za).bel.size) (by have := (unhide Za).gg; simp; omega)⟩)).size (unhide Za).bel.size (.inl d.oi) (.inl d.of))
  have L3 := hide d.li
  have L4 := hide d.lf
  have NJ := hide d.ni
  clear d hwb hbb bwb Za VA hkx
  go_wp2_with fail
  refine (below_any g v xs 5 _ hlen (unhide HD) (by omega) (by omega) (unhide Zb).cu).mono ?_
  rintro e w4 ⟨⟨x, rfl, xa, xb⟩, c4, g4⟩
  have Z4 := hide ((unhide Zb).call c4 g4)
  have U4 := hide ((unhide UB).call (unhide Zb).cu g4 (by omega))
  obtain ⟨⟨ix, qx, hkx, _⟩, _⟩ := (unhide Zb).cu
  have V4 := hide (show V3 w1 w4 ba (.slice a1 n1 c1) (.slice a2 n2 c2) its fls from ⟨(unhide VAb).ge, blk_grown g4 (unhide VAb).k1 (by omega), (unhide VAb).oi.other hkx (by decide) g4, (unhide VAb).of.other hkx (by decide) g4⟩)
  obtain ⟨f1, f2⟩ := (unhide V4).len
  obtain ⟨f3, f4⟩ := (unhide U4).len
  have l1 := unhide L1
  have l2 := unhide L2
  have l3 := unhide L3
  have l4 := unhide L4
  obtain ⟨h1, h2, h3, h4⟩ : n1 ≤ 6 ∧ n2 ≤ 6 ∧ m1 ≤ 6 ∧ m2 ≤ 6 := by omega
  clear c4 g4 Zb UB VAb hkx f1 f2 f3 f4 l1 l2 l3 l4
  have A4 := hide (show U3 w w4 ba (.slice a1 n1 c1) (.slice a2 n2 c2) its fls from ⟨by omega, (unhide V4).k1, .inl ((unhide V4).oi.base hz1), .inl ((unhide V4).of.base hz1)⟩)
  have hl4 := (unhide Z4).lt
  by_cases h0 : x = 0
  · subst h0
    obtain ⟨p0, p1⟩ := (unhide V4).cells
    go_wp2_with fail
    clear p0 p1
    refine (l3copy_any a1 n1 c1 its a2 n2 c2 fls w1.heap.size _ h1 h2 (unhide V4).oi (unhide V4).of).mono ?_
    rintro e w5 ⟨e1, k1, e2, k2, rfl, o1, o2, b5⟩
    have Z5 := hide ((unhide Z4).later b5)
    have U5 := hide ((unhide U4).later b5)
    have A5 := hide ((unhide A4).later b5)
    have O1 := hide o1
    have O2 := hide o2
    clear b5 o1 o2 U4 A4 V4
    obtain ⟨s0, s1, s2⟩ := blk_cells2 (unhide U5).k1
    go_upto_region 10 with fail
    clear s0 s1 s2
    obtain ⟨wx, hwx⟩ : ∃ W, W = (w5.setCell ⟨bb, 0, none⟩ (.slice e1 n1 k1)).setCell ⟨bb, 1, none⟩ (.slice e2 n2 k2) := ⟨_, rfl⟩
    rw [← hwx]
    have hgx : w5.grownBy wx (some bb) := by rw [hwx]; exact grown_set2 _ _ _ _
    have UX := hide (show U3 w wx bb (.slice e1 n1 k1) (.slice e2 n2 k2) its fls from by rw [hwx]; exact (unhide U5).put (unhide Z4).bel.size (unhide O1) (unhide O2))
    have AX := hide (show U3 w wx ba (.slice a1 n1 c1) (.slice a2 n2 c2) its fls from by rw [hwx]; exact (unhide A5).aside (unhide U5).k1 (by omega))
    have BX := hide (show Below w.heap.size w wx from by rw [hwx]; exact ((unhide Z5).bel.setCell (p := ⟨bb, 0, none⟩) (by show w.heap.size ≤ bb; omega) _).setCell (p := ⟨bb, 1, none⟩) (by show w.heap.size ≤ bb; omega) _)
    have K2 := hide (blk_grown hgx (unhide Z5).k2 (by omega))
    have K3 := hide (blk_grown hgx (unhide Z5).k3 (by omega))
    clear hwx hgx U5 A5 O1 O2 Z5 Z4
    have T := hide (T4.two (unhide AX) (unhide UX) (unhide BX) (unhide K2) (unhide K3) (unhide L1) (unhide L2) (unhide L1) (unhide L2) (unhide NI) (unhide NI))
    obtain ⟨p0, p1⟩ := (unhide AX).cells
    obtain ⟨q0, q1⟩ := (unhide UX).cells
    obtain ⟨r0, r1, r2⟩ := blk_cells2 (unhide K2)
    obtain ⟨t0, t1, t2⟩ := blk_cells2 (unhide K3)
    have ly0 := (unhide AX).lt
    have ly1 := (unhide UX).lt
    clear AX UX BX K2 K3
    go_region
    all_goals go_wp2
    all_goals exact bodyPost_ret (v := .tuple #[.agg #[.slice a1 n1 c1, .slice a2 n2 c2], .agg #[.slice e1 n1 k1, .slice e2 n2 k2]]) (by simp [results, Tryz.results50, go_sem, r0, r1, t0, t1]) rfl ⟨_, _, _, _, _, _, _, _, _, _, _, _, _, _, _, _, rfl, (unhide T).drew⟩
  have e0 : (x == 0) = false := by simpa using h0
  by_cases h1' : x = 1
  · subst h1'
    obtain ⟨okA, hokA⟩ : ∃ ok, Hid (okS its fls = ok) := ⟨_, hide rfl⟩
    obtain ⟨okB, hokB⟩ : ∃ ok, Hid (okS jts gls = ok) := ⟨_, hide rfl⟩
    obtain ⟨p0, p1⟩ := (unhide A4).cells
    go_wp2_with fail
    clear p0 p1
    refine (sstateok_any a1 n1 c1 its a2 n2 c2 fls okA hokA _ (by omega) (by omega) (unhide A4).rI (unhide A4).rF).mono ?_
    rintro e w5 ⟨rfl, b5⟩
    have Z5 := hide ((unhide Z4).later b5)
    have U5 := hide ((unhide U4).later b5)
    have A5 := hide ((unhide A4).later b5)
    have hl5 := (unhide Z5).lt
    clear b5 U4 A4 V4 Z4
    cases okA
    · go_upto_region 10 with fail
      obtain ⟨wx, hwx⟩ : ∃ W, W = w5 := ⟨_, rfl⟩
      subst hwx
      have UX := U5
      have AX := A5
      have BX := hide (unhide Z5).bel
      have K2 := hide (unhide Z5).k2
      have K3 := hide (unhide Z5).k3
      clear U5 A5 Z5
      have T := hide (T4.two (unhide AX) (unhide UX) (unhide BX) (unhide K2) (unhide K3) (unhide L1) (unhide L2) (unhide L3) (unhide L4) (unhide NI) (unhide NJ))
      obtain ⟨p0, p1⟩ := (unhide AX).cells
      obtain ⟨q0, q1⟩ := (unhide UX).cells
      obtain ⟨r0, r1, r2⟩ := blk_cells2 (unhide K2)
      obtain ⟨t0, t1, t2⟩ := blk_cells2 (unhide K3)
      have ly0 := (unhide AX).lt
      have ly1 := (unhide UX).lt
      clear AX UX BX K2 K3
      go_region
      all_goals go_wp2
      all_goals exact bodyPost_ret (v := .tuple #[.agg #[.slice a1 n1 c1, .slice a2 n2 c2], .agg #[.slice b1 m1 d1, .slice b2 m2 d2]]) (by simp [results, Tryz.results50, go_sem, r0, r1, t0, t1]) rfl ⟨_, _, _, _, _, _, _, _, _, _, _, _, _, _, _, _, rfl, (unhide T).drew⟩
    obtain ⟨p0, p1⟩ := (unhide U5).cells
    go_wp2_with fail
    clear p0 p1
    refine (sstateok_any b1 m1 d1 jts b2 m2 d2 gls okB hokB _ (by omega) (by omega) (unhide U5).rI (unhide U5).rF).mono ?_
    rintro e w6 ⟨rfl, b6⟩
    have Z6 := hide ((unhide Z5).later b6)
    have U6 := hide ((unhide U5).later b6)
    have A6 := hide ((unhide A5).later b6)
    have hl6 := (unhide Z6).lt
    clear b6 U5 A5 Z5
    cases okB
    · go_upto_region 10 with fail
      obtain ⟨wx, hwx⟩ : ∃ W, W = w6 := ⟨_, rfl⟩
      subst hwx
      have UX := U6
      have AX := A6
      have BX := hide (unhide Z6).bel
      have K2 := hide (unhide Z6).k2
      have K3 := hide (unhide Z6).k3
      clear U6 A6 Z6
      have T := hide (T4.two (unhide AX) (unhide UX) (unhide BX) (unhide K2) (unhide K3) (unhide L1) (unhide L2) (unhide L3) (unhide L4) (unhide NI) (unhide NJ))
      obtain ⟨p0, p1⟩ := (unhide AX).cells
      obtain ⟨q0, q1⟩ := (unhide UX).cells
      obtain ⟨r0, r1, r2⟩ := blk_cells2 (unhide K2)
      obtain ⟨t0, t1, t2⟩ := blk_cells2 (unhide K3)
      have ly0 := (unhide AX).lt
      have ly1 := (unhide UX).lt
      clear AX UX BX K2 K3
      go_region
      all_goals go_wp2
      all_goals exact bodyPost_ret (v := .tuple #[.agg #[.slice a1 n1 c1, .slice a2 n2 c2], .agg #[.slice b1 m1 d1, .slice b2 m2 d2]]) (by simp [results, Tryz.results50, go_sem, r0, r1, t0, t1]) rfl ⟨_, _, _, _, _, _, _, _, _, _, _, _, _, _, _, _, rfl, (unhide T).drew⟩
    obtain ⟨p0, p1⟩ := (unhide A6).cells
    obtain ⟨q0, q1⟩ := (unhide U6).cells
    go_wp2_with fail
    clear p0 p1 q0 q1
    refine (l3join_any a1 n1 c1 its a2 n2 c2 fls b1 m1 d1 jts b2 m2 d2 gls _ (by omega) (by omega) (by omega) (by omega) (unhide A6).rI (unhide A6).rF (unhide U6).rI (unhide U6).rF).mono ?_
    rintro e w7 ⟨e1, y1, k1, e2, y2, k2, rfl, o1, o2, b7⟩
    have Z7 := hide ((unhide Z6).later b7)
    have U7 := hide ((unhide U6).later b7)
    have A7 := hide ((unhide A6).later b7)
    have O1 := hide o1
    have O2 := hide o2
    have hl7 := (unhide Z7).lt
    clear b7 o1 o2 U6 A6
    obtain ⟨s0, s1, s2⟩ := blk_cells2 (unhide U7).k1
    go_upto_region 10 with fail
    clear s0 s1 s2
    obtain ⟨wx, hwx⟩ : ∃ W, W = (w7.setCell ⟨bb, 0, none⟩ (.slice e1 y1 k1)).setCell ⟨bb, 1, none⟩ (.slice e2 y2 k2) := ⟨_, rfl⟩
    rw [← hwx]
    have hgx : w7.grownBy wx (some bb) := by rw [hwx]; exact grown_set2 _ _ _ _
    have UX := hide (show U3 w wx bb (.slice e1 y1 k1) (.slice e2 y2 k2) (joinI its fls jts gls) (joinF fls gls) from by rw [hwx]; exact (unhide U7).put (unhide Z6).bel.size (.inl (unhide O1)) (.inl (unhide O2)))
    have AX := hide (show U3 w wx ba (.slice a1 n1 c1) (.slice a2 n2 c2) its fls from by rw [hwx]; exact (unhide A7).aside (unhide U7).k1 (by omega))
    have BX := hide (show Below w.heap.size w wx from by rw [hwx]; exact ((unhide Z7).bel.setCell (p := ⟨bb, 0, none⟩) (by show w.heap.size ≤ bb; omega) _).setCell (p := ⟨bb, 1, none⟩) (by show w.heap.size ≤ bb; omega) _)
    have K2 := hide (blk_grown hgx (unhide Z7).k2 (by omega))
    have K3 := hide (blk_grown hgx (unhide Z7).k3 (by omega))
    have L5 : Hid ((joinI its fls jts gls).length ≤ 6) := hide (by have := jI_len its fls jts gls 5; unfold joinI; omega)
    have L6 : Hid ((joinF fls gls).length ≤ 6) := hide (by have := jF_len fls gls 5; unfold joinF; omega)
    have NK := hide (nine_join (fs := fls) (gs := gls) (unhide NI) (unhide NJ))
    clear hwx hgx U7 A7 O1 O2 Z7 Z6
    have T := hide (T4.two (unhide AX) (unhide UX) (unhide BX) (unhide K2) (unhide K3) (unhide L1) (unhide L2) (unhide L5) (unhide L6) (unhide NI) (unhide NK))
    obtain ⟨p0, p1⟩ := (unhide AX).cells
    obtain ⟨q0, q1⟩ := (unhide UX).cells
    obtain ⟨r0, r1, r2⟩ := blk_cells2 (unhide K2)
    obtain ⟨t0, t1, t2⟩ := blk_cells2 (unhide K3)
    have ly0 := (unhide AX).lt
    have ly1 := (unhide UX).lt
    clear AX UX BX K2 K3
    go_region
    all_goals go_wp2
    all_goals exact bodyPost_ret (v := .tuple #[.agg #[.slice a1 n1 c1, .slice a2 n2 c2], .agg #[.slice e1 y1 k1, .slice e2 y2 k2]]) (by simp [results, Tryz.results50, go_sem, r0, r1, t0, t1]) rfl ⟨_, _, _, _, _, _, _, _, _, _, _, _, _, _, _, _, rfl, (unhide T).drew⟩
  have e1 : (x == 1) = false := by simpa using h1'
  go_upto_region 10 with fail
  obtain ⟨wx, hwx⟩ : ∃ W, W = w4 := ⟨_, rfl⟩
  subst hwx
  have UX := U4
  have AX := A4
  have BX := hide (unhide Z4).bel
  have K2 := hide (unhide Z4).k2
  have K3 := hide (unhide Z4).k3
  clear U4 A4 Z4 V4
  have T := hide (T4.two (unhide AX) (unhide UX) (unhide BX) (unhide K2) (unhide K3) (unhide L1) (unhide L2) (unhide L3) (unhide L4) (unhide NI) (unhide NJ))
  obtain ⟨p0, p1⟩ := (unhide AX).cells
  obtain ⟨q0, q1⟩ := (unhide UX).cells
  obtain ⟨r0, r1, r2⟩ := blk_cells2 (unhide K2)
  obtain ⟨t0, t1, t2⟩ := blk_cells2 (unhide K3)
  have ly0 := (unhide AX).lt
  have ly1 := (unhide UX).lt
  clear AX UX BX K2 K3
  go_region
  all_goals go_wp2
  all_goals exact bodyPost_ret (v := .tuple #[.agg #[.slice a1 n1 c1, .slice a2 n2 c2], .agg #[.slice b1 m1 d1, .slice b2 m2 d2]]) (by simp [results, Tryz.results50, go_sem, r0, r1, t0, t1]) rfl ⟨_, _, _, _, _, _, _, _, _, _, _, _, _, _, _, _, rfl, (unhide T).drew⟩

set_option maxHeartbeats 4000000 in
set_option maxRecDepth 100000 in
theorem drawjoin_any (v : Value) (xs : List Int) (w : World) (hlen : xs.length ≤ 1048576) (hbd : ∀ z ∈ xs, 0 ≤ z ∧ z ≤ 255) (hv : Seg w v xs) :
    Calls Tryz.prog 19 #[v] w fun e w' => ∃ a1 n1 c1 a2 n2 c2 b1 m1 d1 b2 m2 d2 its fls jts gls, e = .returned (.tuple #[.agg #[.slice a1 n1 c1, .slice a2 n2 c2], .agg #[.slice b1 m1 d1, .slice b2 m2 d2]]) ∧ T4 w w' (.slice a1 n1 c1) (.slice a2 n2 c2) (.slice b1 m1 d1) (.slice b2 m2 d2) its fls jts gls := by
  have HD := hide hbd
  have bA : Below w.heap.size w ((w.alloc (StB (.slice none 0 0) (.slice none 0 0))).alloc (StB (.slice none 0 0) (.slice none 0 0))) := ((Below.refl w.heap.size w).alloc (Nat.le_refl _) _).alloc (by simp) _
  have HS := hide (hv.below bA (Nat.le_refl _))
  have BA := hide bA
  have KA := hide (show ((w.alloc (StB (.slice none 0 0) (.slice none 0 0))).alloc (StB (.slice none 0 0) (.slice none 0 0))).heap[w.heap.size]? = some (StB (.slice none 0 0) (.slice none 0 0)) from (Below.heap_alloc _ _ _ (by simp)).trans (heap_alloc_new _ _))
  have KB := hide (newB2 w (StB (.slice none 0 0) (.slice none 0 0)) (StB (.slice none 0 0) (.slice none 0 0)))
  have hz : ((w.alloc (StB (.slice none 0 0) (.slice none 0 0))).alloc (StB (.slice none 0 0) (.slice none 0 0))).heap.size = w.heap.size + 1 + 1 := by simp
  have HZ := hide hz
  clear hbd hv bA hz
  go_enter Tryz.func19, Tryz.ntmps19
  go_wp2_with fail
  refine (l3two_any v xs _ hlen (unhide HD) (unhide HS)).mono ?_
  rintro e w1 ⟨a1, n1, c1, a2, n2, c2, b1, m1, d1, b2, m2, d2, its, fls, jts, gls, rfl, t⟩
  have hz := unhide HZ
  have B1 : Below w.heap.size w w1 := (unhide BA).trans (t.bel.mono (by rw [hz]; omega))
  have K2 := hide ((t.bel.block _ (by rw [hz]; omega)).trans (unhide KA))
  have K3 := hide ((t.bel.block _ (by rw [hz]; omega)).trans (unhide KB))
  have o1 := t.oi.base (base' := w.heap.size) (by rw [hz]; omega)
  have o2 := t.of.base (base' := w.heap.size) (by rw [hz]; omega)
  have o3 := t.pi.base (base' := w.heap.size) (by rw [hz]; omega)
  have o4 := t.pf.base (base' := w.heap.size) (by rw [hz]; omega)
  have T := hide (T4.mk' o1 o2 o3 o4 B1 (unhide K2) (unhide K3) t.l1 t.l2 t.l3 t.l4 t.ni t.nj)
  obtain ⟨r0, r1, r2⟩ := blk_cells2 (unhide K2)
  obtain ⟨t0, t1, t2⟩ := blk_cells2 (unhide K3)
  clear t o1 o2 o3 o4 B1 hz K2 K3 KA KB BA HS HZ
  go_wp2
  exact bodyPost_ret (v := .tuple #[.agg #[.slice a1 n1 c1, .slice a2 n2 c2], .agg #[.slice b1 m1 d1, .slice b2 m2 d2]]) (by simp [results, Tryz.results19, go_sem, r0, r1, t0, t1]) rfl ⟨_, _, _, _, _, _, _, _, _, _, _, _, _, _, _, _, rfl, unhide T⟩
theorem tail3_seg {w : World} {b off cap n : Nat} {xs : List Int} (hn : n = xs.length - 1) (hcap : xs.length ≤ cap) (h0 : xs.length ≠ 0) (hlt : b < w.heap.size) (hc : ∀ i, i < xs.length → w.cell? ⟨b, off + i, none⟩ = some (.int .u8 (xs.getD i 0))) : Seg w (.slice (some ⟨b, off + 1, none⟩) n (cap - 1)) xs.tail := by
  refine Seg.mk (by simp [hn]) (by omega) (.inr ⟨b, off + 1, rfl, hlt, fun i hi => ?_⟩)
  simp at hi
  rw [show off + 1 + i = off + (i + 1) by omega, hc (i + 1) (by omega)]
  cases xs with
  | nil => simp at h0
  | cons x r => simp

end Go.Proofs.YtighiahppjekeaaGreatDoor
