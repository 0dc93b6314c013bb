/-
  spec.DrawStateOk, spec.DrawSingle: some state, some item, with short texts; nothing that was there turns. No statement is proved here.
  spec.l3Copy: the same lists in memory of the call's own. No statement is proved here.
  spec.l3Two, spec.DrawStateJoin, laws.tail: some two states, with short texts; nothing that was there turns. No statement is proved here.
-/
import Derived.Test.YtohfbahfnbganaaGreatL3D
import Derived.Test.YtohfbahfnbganaaGreatDrawB
import Derived.ArgAppend
import Derived.Laws.OwnMore
namespace Go.Proofs.YtohfbahfnbganaaGreat
open Go.RowKit

variable {w X Y : World} {b : Nat} {v1 v2 : Value} {its : List Itm} {fls : List Flr}
/-- A state that was drawn from a code. -/
structure T3 (w X : World) (v1 v2 : Value) (its : List Itm) (fls : List Flr) : Prop where
  bel : Below w.heap.size w X
  oi : OwI w.heap.size X v1 its
  of : OwF w.heap.size X v2 fls
  li : its.length ≤ 6
  lf : fls.length ≤ 6
  ni : Nine its
/-- A variable of the law that holds a state. -/
structure V3 (w X : World) (b : Nat) (v1 v2 : Value) (its : List Itm) (fls : List Flr) : Prop where
  ge : w.heap.size ≤ b
  k1 : X.heap[b]? = some (StB v1 v2)
  oi : OwI w.heap.size X v1 its
  of : OwF w.heap.size X v2 fls
theorem V3.lt (h : V3 w X b v1 v2 its fls) : b < X.heap.size := (Array.getElem?_eq_some_iff.1 h.k1).1
theorem V3.later (h : V3 w X b v1 v2 its fls) (bl : Below X.heap.size X Y) : V3 w Y b v1 v2 its fls := ⟨h.ge, (bl.block _ h.lt).trans h.k1, h.oi.later bl, h.of.later bl⟩
theorem V3.alloc (h : V3 w X b v1 v2 its fls) (o : Obj) : V3 w (X.alloc o) b v1 v2 its fls := h.later ((Below.refl _ _).alloc (Nat.le_refl _) o)
theorem V3.new {B : Nat} (hb : w.heap.size ≤ X.heap.size) (hB : w.heap.size ≤ B) (o1 : OwI B X v1 its) (o2 : OwF B X v2 fls) : V3 w (X.alloc (StB v1 v2)) X.heap.size v1 v2 its fls :=
  have bl : Below X.heap.size X (X.alloc (StB v1 v2)) := (Below.refl _ _).alloc (Nat.le_refl _) _
  ⟨hb, heap_alloc_new _ _, Ow.base (o1.later bl) hB, Ow.base (o2.later bl) hB⟩
theorem V3.put (h : V3 w X b v1 v2 its fls) {B : Nat} {u1 u2 : Value} {is' : List Itm} {fs' : List Flr} (hB : w.heap.size ≤ B) (o1 : OwI B X u1 is') (o2 : OwF B X u2 fs') : V3 w ((X.setCell ⟨b, 0, none⟩ u1).setCell ⟨b, 1, none⟩ u2) b u1 u2 is' fs' :=
  have hg := grown_set2 X b u1 u2
  ⟨h.ge, blk_set2 h.k1 _ _, Ow.base (o1.other h.k1 (by decide) hg) hB, Ow.base (o2.other h.k1 (by decide) hg) hB⟩
theorem V3.aside (h : V3 w X b v1 v2 its fls) {b2 : Nat} {y1 y2 u1 u2 : Value} (h2 : X.heap[b2]? = some (StB y1 y2)) (hne : b ≠ b2) : V3 w ((X.setCell ⟨b2, 0, none⟩ u1).setCell ⟨b2, 1, none⟩ u2) b v1 v2 its fls :=
  have hg := grown_set2 X b2 u1 u2
  ⟨h.ge, blk_grown hg h.k1 hne, h.oi.other h2 (by decide) hg, h.of.other h2 (by decide) hg⟩
theorem V3.bel (h : V3 w X b v1 v2 its fls) (bl : Below w.heap.size w X) (u1 u2 : Value) : Below w.heap.size w ((X.setCell ⟨b, 0, none⟩ u1).setCell ⟨b, 1, none⟩ u2) := (bl.setCell (p := ⟨b, 0, none⟩) h.ge _).setCell (p := ⟨b, 1, none⟩) h.ge _
theorem V3.cells (h : V3 w X b v1 v2 its fls) : X.cell? ⟨b, 0, none⟩ = some v1 ∧ X.cell? ⟨b, 1, none⟩ = some v2 := by
  obtain ⟨p0, p1, _⟩ := blk_cells2 h.k1
  exact ⟨p0, p1⟩
theorem V3.len {a1 : Option Addr} {n1 c1 : Nat} {a2 : Option Addr} {n2 c2 : Nat} (h : V3 w X b (.slice a1 n1 c1) (.slice a2 n2 c2) its fls) : n1 = its.length ∧ n2 = fls.length := ⟨(h.oi.rw encI_len).len.1, (h.of.rw encF_len).len.1⟩

theorem keep8 {P W : World} {b q o0 o1 o2 o3 o4 o5 : Nat} {v1 v2 y0 y1 y2 y3 y4 y5 : Value} (hb : b < P.heap.size) (hq : q < P.heap.size)
    (h : Hid (P.cell? ⟨b, 0, none⟩ = some v1 ∧ P.cell? ⟨b, 1, none⟩ = some v2 ∧ P.cell? ⟨q, o0, none⟩ = some y0 ∧ P.cell? ⟨q, o1, none⟩ = some y1 ∧ P.cell? ⟨q, o2, none⟩ = some y2 ∧ P.cell? ⟨q, o3, none⟩ = some y3 ∧ P.cell? ⟨q, o4, none⟩ = some y4 ∧ P.cell? ⟨q, o5, none⟩ = some y5)) (bl : Below P.heap.size P W) :
    Below P.heap.size P W ∧ W.cell? ⟨b, 0, none⟩ = some v1 ∧ W.cell? ⟨b, 1, none⟩ = some v2 ∧ W.cell? ⟨q, o0, none⟩ = some y0 ∧ W.cell? ⟨q, o1, none⟩ = some y1 ∧ W.cell? ⟨q, o2, none⟩ = some y2 ∧ W.cell? ⟨q, o3, none⟩ = some y3 ∧ W.cell? ⟨q, o4, none⟩ = some y4 ∧ W.cell? ⟨q, o5, none⟩ = some y5 := by
  obtain ⟨c0, c1, c2, c3, c4, c5, c6, c7⟩ := unhide h
  exact ⟨bl, kc bl hb c0, kc bl hb c1, kc bl hq c2, kc bl hq c3, kc bl hq c4, kc bl hq c5, kc bl hq c6, kc bl hq c7⟩
theorem Bf.newD {P W w1 : World} (b : Below (W.alloc StZ).drew.heap.size (W.alloc StZ).drew w1) (h : P.heap.size ≤ W.heap.size) : Bf P (W.alloc StZ).drew w1 W.heap.size := ⟨Bx.newD b h, by show W.heap.size < (W.alloc StZ).heap.size; simp⟩
theorem own_nilF (w : World) (base : Nat) : Hid (OwF base w (.slice none 0 0) []) := hide (World.ownsRow_nil w base _ _)
theorem size_allocD (W : World) (o : Obj) : W.heap.size ≤ (W.alloc o).drew.heap.size := by show W.heap.size ≤ (W.alloc o).heap.size; simp
/-- The cursor was made behind the variables of the call; the state was drawn; it is stored into the result. -/
theorem T3.of_draw {w1 w2 : World} {g : Nat} {v : Value} {xs : List Int} (h01 : Below w.heap.size w w1) (hg : w.heap.size ≤ g) (d : D3 w1 w2 g v xs v1 v2 its fls) : T3 w w2 v1 v2 its fls :=
  ⟨h01.grown d.gr h01.size (fun q hq => by simp at hq; omega), Ow.base d.oi h01.size, Ow.base d.of h01.size, d.li, d.lf, d.ni⟩

set_option maxHeartbeats 4000000 in
set_option maxRecDepth 100000 in
theorem drawsingle_any (v : Value) (xs : List Int) (w : World) (hlen : xs.length ≤ 1048576) (hbd : ∀ z ∈ xs, 0 ≤ z ∧ z ≤ 255) (hv : Seg w v xs) :
    Calls Tryz.prog 6 #[v] w fun e w' => (∃ id ai ar ab av ad, e = .returned (.tuple #[.int .i64 id, .agg #[.int .i64 ai, .int .i64 ar, .int .i64 ab, .int .i64 av, .string ad]]) ∧ ad.size ≤ 9) ∧ Below w.heap.size w w' := by
  have HD := hide hbd
  have bA : Below w.heap.size w (w.alloc (.cells #[.int .i64 0, .int .i64 0, .int .i64 0, .int .i64 0, .string ⟨#[]⟩] 31)) := (Below.refl _ _).alloc (Nat.le_refl _) _
  have HS := hide (hv.below bA (Nat.le_refl _))
  have BA := hide bA
  clear hbd hv bA
  go_enter Tryz.func6, Tryz.ntmps6
  go_wp2_with fail
  refine (new_any v xs _ hlen (unhide HD) (unhide HS)).mono ?_
  rintro e w1 ⟨rfl, c1, b1, s1⟩
  have hw0 : (w.alloc (.cells #[.int .i64 0, .int .i64 0, .int .i64 0, .int .i64 0, .string ⟨#[]⟩] 31)).heap.size = w.heap.size + 1 := by simp
  have B1 := hide ((unhide BA).trans (b1.mono (by rw [hw0]; omega)))
  have K1 := hide ((b1.block _ (by rw [hw0]; omega)).trans (heap_alloc_new w _))
  rw [hw0] at c1 s1
  have C1 := hide c1
  obtain ⟨g, hg⟩ : ∃ g, g = w.heap.size + 1 := ⟨_, rfl⟩
  rw [hw0, ← hg]
  rw [← hg] at C1
  have hgA : w.heap.size < g := by omega
  clear hg c1 b1 s1 hw0 HS BA
  go_wp2_with fail
  refine (below_any g v xs 7 _ hlen (unhide HD) (by omega) (by omega) (unhide C1)).mono ?_
  rintro e w2 ⟨⟨x, rfl, xa, xb⟩, c2, g2⟩
  have C2 := hide c2
  have B2 := hide ((unhide B1).grown g2 (unhide B1).size (fun q hq => by simp at hq; omega))
  have K2 := hide (blk_grown g2 (unhide K1) (by omega))
  clear c2 g2 C1 B1 K1
  go_wp2_with fail
  refine (draw_any g v xs _ hlen (unhide HD) (unhide C2)).mono ?_
  rintro e w3 ⟨⟨ai, ar, ab, av, ad, rfl, had⟩, c3, g3⟩
  have B3 := hide ((unhide B2).grown g3 (unhide B2).size (fun q hq => by simp at hq; omega))
  have K3 := hide (blk_grown g3 (unhide K2) (by omega))
  have HN := hide had
  clear c3 g3 C2 B2 K2 had
  obtain ⟨p0, p1, p2, p3, p4, p5⟩ := blk_cells5 (unhide K3)
  go_wp2
  exact bodyPost_ret (v := .tuple #[.int .i64 (x - 1), .agg #[.int .i64 ai, .int .i64 ar, .int .i64 ab, .int .i64 av, .string ad]]) (by simp [results, Tryz.results6, go_sem, p0, p1, p2, p3, p4]) rfl ⟨⟨_, _, _, _, _, _, rfl, unhide HN⟩, below_set5 (Nat.le_refl _) (unhide B3)⟩
end Go.Proofs.YtohfbahfnbganaaGreat

namespace Go.Proofs.YtohfbahfnbganaaGreat
open Go.RowKit

/-- A row of the call's own, or an empty one. -/
def Wk {α : Type} (enc : α → List Value) (k : Nat) (E : TypeId) (base : Nat) (w : World) (v : Value) (xs : List α) : Prop := Ow enc k E base w v xs ∨ (xs = [] ∧ ∃ a c, v = .slice a 0 c)
theorem Wk.rw {α : Type} {enc : α → List Value} {k : Nat} (hk : ∀ x, (enc x).length = k) {e : TypeId} {base : Nat} {w : World} {v : Value} {xs : List α} (h : Wk enc k e base w v xs) : Rw enc k w v xs := by
  rcases h with h | ⟨rfl, a, c, rfl⟩
  · exact h.rw hk
  · exact ⟨a, c, rfl, Nat.zero_le _, .inl rfl⟩
theorem Wk.later {α : Type} {enc : α → List Value} {k : Nat} {e : TypeId} {base : Nat} {w w' : World} {v : Value} {xs : List α} (h : Wk enc k e base w v xs) (hb : Below w.heap.size w w') : Wk enc k e base w' v xs := h.imp (fun h => h.later hb) id
theorem Wk.base {α : Type} {enc : α → List Value} {k : Nat} {e : TypeId} {base base' : Nat} {w : World} {v : Value} {xs : List α} (h : Wk enc k e base w v xs) (hb : base' ≤ base) : Wk enc k e base' w v xs := h.imp (fun h => h.base hb) id
theorem Wk.other {α : Type} {enc : α → List Value} {k : Nat} {E T : TypeId} {base : Nat} {w w' : World} {v : Value} {xs : List α} {b : Nat} {cs : Array Value} {fz : Nat × Nat} (h : Wk enc k E base w v xs) (hb : w.heap[b]? = some (.cells cs T fz)) (hne : E ≠ T) (hg : w.grownBy w' (some b)) : Wk enc k E base w' v xs := h.imp (fun h => h.other hb hne hg) id
abbrev WkI (base : Nat) (w : World) (v : Value) (xs : List Itm) : Prop := Wk encI 6 57 base w v xs
abbrev WkF (base : Nat) (w : World) (v : Value) (fs : List Flr) : Prop := Wk encF 2 61 base w v fs

theorem run_cp_none {P : Program} {w : World} (t ty e : TypeId) (i : TypeInfo) (ht : P.underlying t = some (.slice e)) (hi : P.info? e = some i) (ad : Addr) (x : Option Addr) (c : Nat) :
    (Builtin.append_ #[t, t] ty #[.slice (some ad) 0 0, .slice x 0 c]).run P w = .ok (.slice (some ad) 0 0) w := by
  cases x <;> simp [Builtin.append_, run_underlying ht, sizeOf, typeInfo, hi, Builtin.lenOf, Builtin.firstCells, storeCells, loadCells, loadCellsFrom]
theorem step_cp {P : Program} {α : Type} {enc : α → List Value} {k : Nat} (hk : ∀ x, (enc x).length = k) (h0 : 0 < k) {ops : Array Oper} {o : Oper} {a : Act} {K : Act → World → Prop} {Q : Exit → Act → World → Prop} {R : Prop}
    (E T : TypeId) (i : TypeInfo) (z : Value) (bytes : Nat) (ht : P.underlying T = some (.slice E)) (hi : P.info? E = some i) (hz : i.zero = some z) (hsize : i.size = k) (hby : i.bytes = bytes) (hzs : z.cells.size = k) (hb : bytes ≤ 1000)
    (w : World) (hgd : o.guard = none) (s xo : Operand) (ho : o.op = .call { callee := .builtin .append, args := #[s, xo], argTypes := #[T, T] })
    (ad : Addr) (hs : a.eval s = .slice (some ad) 0 0) (B : Nat) (u : Value) (ys : List α) (n : Nat) (hn : Hid (n = ys.length)) (hx : a.eval xo = u) (hu : Ow enc k E B w u ys) (hlen : n ≤ 1000)
    (h : ∀ a' c' w', Wk enc k E w.heap.size w' (.slice a' n c') ys → Below w.heap.size w w' → K (a.put o.dst (.slice a' n c')) w') :
    if Region.wanted o (yielded ops a.tmps) = true then Oper.wp P o a w K Q else R := by
  obtain rfl := unhide hn
  rw [if_pos (by simp [Region.wanted, hgd])]
  by_cases hm : ys.length = 0
  · have hy : ys = [] := List.eq_nil_of_length_eq_zero hm
    obtain ⟨x, c, hu'⟩ : ∃ x c, u = .slice x 0 c := by
      obtain ⟨x, c, e⟩ := hu.form
      exact ⟨x, c, by rw [e, hm]⟩
    have hrun := run_cp_none (P := P) (w := w) T o.type E i ht hi ad x c
    unfold Oper.wp
    simp [execOp, ho, resolve, invoke, builtin, hs, hx, hu', hrun, Result.andThen]
    have := h (some ad) 0 w (.inr ⟨hy, some ad, 0, by rw [hm]⟩) (Below.refl _ _)
    rw [hm] at this
    exact this
  · rcases hu.2 with ⟨_, h00⟩ | ⟨g, cap, cur, rfl, hb', hg, hnc, _⟩
    · omega
    · have hcells : ∀ j u, (ys.flatMap enc)[j]? = some u → w.cell? ((⟨g, 0, none⟩ : Addr).add j) = some u := fun j u hj => by
        have e : (⟨g, 0, none⟩ : Addr).add j = ⟨g, j, none⟩ := by unfold Addr.add; split <;> simp_all
        rw [e]
        have hl := hu.1
        have hjl : j < (ys.flatMap enc).length := (List.getElem?_eq_some_iff.1 hj).1
        rw [World.ownsRow.cellAt hu j (by rw [hl] at hjl; exact hjl)]
        exact hj
      obtain ⟨v', w', hrun, r1, r2⟩ := run_append_arg_grows (P := P) w T o.type E i z k bytes ht hi hz hsize hby hzs h0 ad 0 0 [] (by simp) (fun j u hj => by simp at hj) ⟨g, 0, none⟩ ys.length cap (ys.flatMap enc) (by rw [flat_len hk]) hcells (by omega) (by unfold maxLen; omega) (by
        have : (0 + ys.length) * bytes ≤ 1000 * 1000 := Nat.mul_le_mul (by omega) hb
        omega)
      have hO : Ow enc k E w.heap.size w' v' ys := by
        unfold Ow
        simpa using r1
      obtain ⟨a', c', rfl⟩ := hO.form
      unfold Oper.wp
      simp [execOp, ho, resolve, invoke, builtin, hs, hx, hrun, Result.andThen]
      exact h a' c' w' (.inl hO) ⟨r2.os, r2.tape, r2.output, r2.size, fun q hq => r2.block q hq (by simp)⟩

variable {w V W W' : World} {v1 v2 : Value}
/-- The argument's variable and the result's, while the copy is made. -/
structure C3 (w W : World) (v1 v2 : Value) : Prop where
  bel : Below w.heap.size w W
  k1 : W.heap[w.heap.size]? = some (StB v1 v2)
  k2 : W.heap[w.heap.size + 1]? = some (StB (.slice none 0 0) (.slice none 0 0))
theorem C3.lt (h : C3 w W v1 v2) : w.heap.size + 1 < W.heap.size := (Array.getElem?_eq_some_iff.1 h.k2).1
theorem C3.later (h : C3 w W v1 v2) (b : Below W.heap.size W W') : C3 w W' v1 v2 := by
  have := h.lt
  exact ⟨h.bel.trans (b.mono h.bel.size), (b.block _ (by omega)).trans h.k1, (b.block _ (by omega)).trans h.k2⟩
theorem C3.drewH (h : Hid (C3 w W v1 v2)) : Hid (C3 w W.drew v1 v2) := hide ((unhide h).later (Below.refl _ _).drew)
theorem C3.allocH (h : Hid (C3 w W v1 v2)) (o : Obj) : Hid (C3 w (W.alloc o) v1 v2) := hide ((unhide h).later ((Below.refl _ _).alloc (Nat.le_refl _) o))
theorem kC (h : Hid (C3 w W v1 v2)) : Below w.heap.size w W ∧ W.cell? ⟨w.heap.size, 0, none⟩ = some v1 ∧ W.cell? ⟨w.heap.size, 1, none⟩ = some v2 := by
  obtain ⟨p0, p1, _⟩ := blk_cells2 (unhide h).k1
  exact ⟨(unhide h).bel, p0, p1⟩
theorem kCs (h : Hid (C3 w W v1 v2)) (u1 u2 : Value) : Below w.heap.size w ((W.setCell ⟨w.heap.size + 1, 0, none⟩ u1).setCell ⟨w.heap.size + 1, 1, none⟩ u2) ∧ ((W.setCell ⟨w.heap.size + 1, 0, none⟩ u1).setCell ⟨w.heap.size + 1, 1, none⟩ u2).cell? ⟨w.heap.size, 0, none⟩ = some v1 ∧ ((W.setCell ⟨w.heap.size + 1, 0, none⟩ u1).setCell ⟨w.heap.size + 1, 1, none⟩ u2).cell? ⟨w.heap.size, 1, none⟩ = some v2 := by
  obtain ⟨p0, p1, _⟩ := blk_cells2 (blk_grown (grown_set2 W (w.heap.size + 1) u1 u2) (unhide h).k1 (by omega))
  exact ⟨((unhide h).bel.setCell (p := ⟨w.heap.size + 1, 0, none⟩) (by simp) _).setCell (p := ⟨w.heap.size + 1, 1, none⟩) (by simp) _, p0, p1⟩
theorem C3.new (w : World) (v1 v2 : Value) : C3 w ((w.alloc (StB v1 v2)).alloc (StB (.slice none 0 0) (.slice none 0 0))) v1 v2 :=
  ⟨((Below.refl w.heap.size w).alloc (Nat.le_refl _) _).alloc (by simp) _, (Below.heap_alloc _ _ _ (by simp)).trans (heap_alloc_new _ _), newB2 _ _ _⟩
theorem later_al {X Y : World} {o : Obj} (b : Below (X.alloc o).heap.size (X.alloc o) Y) : Below X.heap.size X Y := ((Below.refl X.heap.size X).alloc (Nat.le_refl _) o).trans (b.mono (by simp))

end Go.Proofs.YtohfbahfnbganaaGreat

namespace Go.Proofs.YtohfbahfnbganaaGreat
open Go.RowKit

variable {w X Y : World} {b g : Nat} {v : Value} {xs : List Int} {v1 v2 : Value} {its : List Itm} {fls : List Flr}
/-- A variable that holds a state. -/
structure U3 (w X : World) (b : Nat) (v1 v2 : Value) (its : List Itm) (fls : List Flr) : Prop where
  ge : w.heap.size ≤ b
  k1 : X.heap[b]? = some (StB v1 v2)
  oi : WkI w.heap.size X v1 its
  of : WkF w.heap.size X v2 fls
theorem U3.lt (h : U3 w X b v1 v2 its fls) : b < X.heap.size := (Array.getElem?_eq_some_iff.1 h.k1).1
theorem U3.later (h : U3 w X b v1 v2 its fls) (bl : Below X.heap.size X Y) : U3 w Y b v1 v2 its fls := ⟨h.ge, (bl.block _ h.lt).trans h.k1, h.oi.later bl, h.of.later bl⟩
theorem U3.new {B : Nat} (hb : w.heap.size ≤ X.heap.size) (hB : w.heap.size ≤ B) (o1 : WkI B X v1 its) (o2 : WkF B X v2 fls) : U3 w (X.alloc (StB v1 v2)) X.heap.size v1 v2 its fls :=
  have bl : Below X.heap.size X (X.alloc (StB v1 v2)) := (Below.refl _ _).alloc (Nat.le_refl _) _
  ⟨hb, heap_alloc_new _ _, (o1.later bl).base hB, (o2.later bl).base hB⟩
theorem U3.call (h : U3 w X b v1 v2 its fls) (hc : Cur X g v xs) (hg : X.grownBy Y (some g)) (hne : b ≠ g) : U3 w Y b v1 v2 its fls := by
  obtain ⟨⟨i, q, hk, _⟩, _⟩ := hc
  exact ⟨h.ge, blk_grown hg h.k1 hne, h.oi.other hk (by decide) hg, h.of.other hk (by decide) hg⟩
theorem U3.put (h : U3 w X b v1 v2 its fls) {B : Nat} {u1 u2 : Value} {is' : List Itm} {fs' : List Flr} (hB : w.heap.size ≤ B) (o1 : WkI B X u1 is') (o2 : WkF B X u2 fs') : U3 w ((X.setCell ⟨b, 0, none⟩ u1).setCell ⟨b, 1, none⟩ u2) b u1 u2 is' fs' :=
  have hg := grown_set2 X b u1 u2
  ⟨h.ge, blk_set2 h.k1 _ _, (o1.other h.k1 (by decide) hg).base hB, (o2.other h.k1 (by decide) hg).base hB⟩
theorem U3.aside (h : U3 w X b v1 v2 its fls) {b2 : Nat} {y1 y2 u1 u2 : Value} (h2 : X.heap[b2]? = some (StB y1 y2)) (hne : b ≠ b2) : U3 w ((X.setCell ⟨b2, 0, none⟩ u1).setCell ⟨b2, 1, none⟩ u2) b v1 v2 its fls :=
  have hg := grown_set2 X b2 u1 u2
  ⟨h.ge, blk_grown hg h.k1 hne, h.oi.other h2 (by decide) hg, h.of.other h2 (by decide) hg⟩
theorem U3.cells (h : U3 w X b v1 v2 its fls) : X.cell? ⟨b, 0, none⟩ = some v1 ∧ X.cell? ⟨b, 1, none⟩ = some v2 := by
  obtain ⟨p0, p1, _⟩ := blk_cells2 h.k1
  exact ⟨p0, p1⟩
theorem U3.len {a1 : Option Addr} {n1 c1 : Nat} {a2 : Option Addr} {n2 c2 : Nat} (h : U3 w X b (.slice a1 n1 c1) (.slice a2 n2 c2) its fls) : n1 = its.length ∧ n2 = fls.length := ⟨(h.oi.rw encI_len).len.1, (h.of.rw encF_len).len.1⟩
theorem U3.rI (h : U3 w X b v1 v2 its fls) : Rw encI 6 X v1 its := h.oi.rw encI_len
theorem U3.rF (h : U3 w X b v1 v2 its fls) : Rw encF 2 X v2 fls := h.of.rw encF_len
/-- The two results' variables, the cursor and what was there. -/
structure Z3 (w X : World) (g : Nat) (v : Value) (xs : List Int) : Prop where
  bel : Below w.heap.size w X
  cu : Cur X g v xs
  gg : w.heap.size + 1 < g
  k2 : X.heap[w.heap.size]? = some (StB (.slice none 0 0) (.slice none 0 0))
  k3 : X.heap[w.heap.size + 1]? = some (StB (.slice none 0 0) (.slice none 0 0))
theorem Z3.lt (h : Z3 w X g v xs) : w.heap.size + 1 < X.heap.size := (Array.getElem?_eq_some_iff.1 h.k3).1
theorem Z3.gl (h : Z3 w X g v xs) : g < X.heap.size := cur_lt h.cu
theorem Z3.later (h : Z3 w X g v xs) (bl : Below X.heap.size X Y) : Z3 w Y g v xs := by
  have := h.lt
  exact ⟨h.bel.trans (bl.mono h.bel.size), h.cu.later bl (Nat.le_refl _), h.gg, (bl.block _ (by omega)).trans h.k2, (bl.block _ (by omega)).trans h.k3⟩
theorem Z3.call (h : Z3 w X g v xs) (hc : Cur Y g v xs) (hg : X.grownBy Y (some g)) : Z3 w Y g v xs := by
  have := h.gg
  exact ⟨h.bel.grown hg h.bel.size (fun q hq => by simp at hq; omega), hc, h.gg, blk_grown hg h.k2 (by omega), blk_grown hg h.k3 (by omega)⟩
theorem Z3.new {w1 : World} (b1 : Below ((w.alloc (StB (.slice none 0 0) (.slice none 0 0))).alloc (StB (.slice none 0 0) (.slice none 0 0))).heap.size ((w.alloc (StB (.slice none 0 0) (.slice none 0 0))).alloc (StB (.slice none 0 0) (.slice none 0 0))) w1) (c1 : Cur w1 g v xs) (hg : g = w.heap.size + 1 + 1) : Z3 w w1 g v xs := by
  have hw0 : ((w.alloc (StB (.slice none 0 0) (.slice none 0 0))).alloc (StB (.slice none 0 0) (.slice none 0 0))).heap.size = w.heap.size + 1 + 1 := by simp
  have b0 : Below w.heap.size w ((w.alloc (StB (.slice none 0 0) (.slice none 0 0))).alloc (StB (.slice none 0 0) (.slice none 0 0))) := ((Below.refl w.heap.size w).alloc (Nat.le_refl _) _).alloc (by simp) _
  exact ⟨b0.trans (b1.mono (by rw [hw0]; omega)), c1, by omega, (b1.block _ (by rw [hw0]; omega)).trans ((Below.heap_alloc _ _ _ (by simp)).trans (heap_alloc_new _ _)), (b1.block _ (by rw [hw0]; omega)).trans (newB2 _ _ _)⟩
/-- Two states that were drawn from a code. -/
structure T4 (w X : World) (v1 v2 u1 u2 : Value) (its : List Itm) (fls : List Flr) (jts : List Itm) (gls : List Flr) : Prop where
  bel : Below w.heap.size w X
  oi : WkI w.heap.size X v1 its
  of : WkF w.heap.size X v2 fls
  pi : WkI w.heap.size X u1 jts
  pf : WkF w.heap.size X u2 gls
  l1 : its.length ≤ 6
  l2 : fls.length ≤ 6
  l3 : jts.length ≤ 6
  l4 : gls.length ≤ 6
  ni : Nine its
  nj : Nine jts
/-- Two states are stored into the results. -/
theorem T4.mk' {u1 u2 : Value} {jts : List Itm} {gls : List Flr} (o1 : WkI w.heap.size X v1 its) (o2 : WkF w.heap.size X v2 fls) (o3 : WkI w.heap.size X u1 jts) (o4 : WkF w.heap.size X u2 gls) (bl : Below w.heap.size w X) (k2 : X.heap[w.heap.size]? = some (StB (.slice none 0 0) (.slice none 0 0))) (k3 : X.heap[w.heap.size + 1]? = some (StB (.slice none 0 0) (.slice none 0 0)))
    (l1 : its.length ≤ 6) (l2 : fls.length ≤ 6) (l3 : jts.length ≤ 6) (l4 : gls.length ≤ 6) (ni : Nine its) (nj : Nine jts) :
    T4 w ((((X.setCell ⟨w.heap.size, 0, none⟩ v1).setCell ⟨w.heap.size, 1, none⟩ v2).setCell ⟨w.heap.size + 1, 0, none⟩ u1).setCell ⟨w.heap.size + 1, 1, none⟩ u2) v1 v2 u1 u2 its fls jts gls := by
  have g1 := grown_set2 X w.heap.size v1 v2
  have k3' := blk_grown g1 k3 (by omega)
  have g2 := grown_set2 ((X.setCell ⟨w.heap.size, 0, none⟩ v1).setCell ⟨w.heap.size, 1, none⟩ v2) (w.heap.size + 1) u1 u2
  exact ⟨(((bl.setCell (p := ⟨w.heap.size, 0, none⟩) (Nat.le_refl _) _).setCell (p := ⟨w.heap.size, 1, none⟩) (Nat.le_refl _) _).setCell (p := ⟨w.heap.size + 1, 0, none⟩) (by simp) _).setCell (p := ⟨w.heap.size + 1, 1, none⟩) (by simp) _,
    (o1.other k2 (by decide) g1).other k3' (by decide) g2, (o2.other k2 (by decide) g1).other k3' (by decide) g2, (o3.other k2 (by decide) g1).other k3' (by decide) g2, (o4.other k2 (by decide) g1).other k3' (by decide) g2, l1, l2, l3, l4, ni, nj⟩
theorem T4.two {b' : Nat} {u1 u2 : Value} {jts : List Itm} {gls : List Flr} (h : U3 w X b v1 v2 its fls) (h' : U3 w X b' u1 u2 jts gls) (bl : Below w.heap.size w X) (k2 : X.heap[w.heap.size]? = some (StB (.slice none 0 0) (.slice none 0 0))) (k3 : X.heap[w.heap.size + 1]? = some (StB (.slice none 0 0) (.slice none 0 0)))
    (l1 : its.length ≤ 6) (l2 : fls.length ≤ 6) (l3 : jts.length ≤ 6) (l4 : gls.length ≤ 6) (ni : Nine its) (nj : Nine jts) :
    T4 w ((((X.setCell ⟨w.heap.size, 0, none⟩ v1).setCell ⟨w.heap.size, 1, none⟩ v2).setCell ⟨w.heap.size + 1, 0, none⟩ u1).setCell ⟨w.heap.size + 1, 1, none⟩ u2) v1 v2 u1 u2 its fls jts gls := T4.mk' h.oi h.of h'.oi h'.of bl k2 k3 l1 l2 l3 l4 ni nj
theorem T4.drew {u1 u2 : Value} {jts : List Itm} {gls : List Flr} (h : T4 w X v1 v2 u1 u2 its fls jts gls) : T4 w X.drew v1 v2 u1 u2 its fls jts gls :=
  have b : Below X.heap.size X X.drew := (Below.refl _ _).drew
  ⟨h.bel.trans (b.mono h.bel.size), h.oi.later b, h.of.later b, h.pi.later b, h.pf.later b, h.l1, h.l2, h.l3, h.l4, h.ni, h.nj⟩

theorem tail3_seg {w : World} {b off cap n : Nat} {xs : List Int} (hn : n = xs.length - 1) (hcap : xs.length ≤ cap) (h0 : xs.length ≠ 0) (hlt : b < w.heap.size) (hc : ∀ i, i < xs.length → w.cell? ⟨b, off + i, none⟩ = some (.int .u8 (xs.getD i 0))) : Seg w (.slice (some ⟨b, off + 1, none⟩) n (cap - 1)) xs.tail := by
  refine Seg.mk (by simp [hn]) (by omega) (.inr ⟨b, off + 1, rfl, hlt, fun i hi => ?_⟩)
  simp at hi
  rw [show off + 1 + i = off + (i + 1) by omega, hc (i + 1) (by omega)]
  cases xs with
  | nil => simp at h0
  | cons x r => simp

end Go.Proofs.YtohfbahfnbganaaGreat
