/-
  spec.l3Copy: the same lists in memory of the call's own. No statement is proved here.
-/
import Derived.Test.YtdpaocikmijioabGreatL3T
import Derived.ArgAppend
import Derived.Laws.OwnMore
namespace Go.Proofs.YtdpaocikmijioabGreat
open Go.RowKit

/-- A row of the call's own, or an empty one. -/
def Wk {α : Type} (enc : α → List Value) (k : Nat) (E : TypeId) (base : Nat) (w : World) (v : Value) (xs : List α) : Prop := Ow enc k E base w v xs ∨ (xs = [] ∧ ∃ a c, v = .slice a 0 c)
theorem Wk.rw {α : Type} {enc : α → List Value} {k : Nat} (hk : ∀ x, (enc x).length = k) {e : TypeId} {base : Nat} {w : World} {v : Value} {xs : List α} (h : Wk enc k e base w v xs) : Rw enc k w v xs := by
  rcases h with h | ⟨rfl, a, c, rfl⟩
  · exact h.rw hk
  · exact ⟨a, c, rfl, Nat.zero_le _, .inl rfl⟩
theorem Wk.later {α : Type} {enc : α → List Value} {k : Nat} {e : TypeId} {base : Nat} {w w' : World} {v : Value} {xs : List α} (h : Wk enc k e base w v xs) (hb : Below w.heap.size w w') : Wk enc k e base w' v xs := h.imp (fun h => h.later hb) id
theorem Wk.base {α : Type} {enc : α → List Value} {k : Nat} {e : TypeId} {base base' : Nat} {w : World} {v : Value} {xs : List α} (h : Wk enc k e base w v xs) (hb : base' ≤ base) : Wk enc k e base' w v xs := h.imp (fun h => h.base hb) id
theorem Wk.other {α : Type} {enc : α → List Value} {k : Nat} {E T : TypeId} {base : Nat} {w w' : World} {v : Value} {xs : List α} {b : Nat} {cs : Array Value} {fz : Nat × Nat} (h : Wk enc k E base w v xs) (hb : w.heap[b]? = some (.cells cs T fz)) (hne : E ≠ T) (hg : w.grownBy w' (some b)) : Wk enc k E base w' v xs := h.imp (fun h => h.other hb hne hg) id
abbrev WkI (base : Nat) (w : World) (v : Value) (xs : List Itm) : Prop := Wk encI 6 40 base w v xs
abbrev WkF (base : Nat) (w : World) (v : Value) (fs : List Flr) : Prop := Wk encF 2 84 base w v fs

theorem run_cp_none {P : Program} {w : World} (t ty e : TypeId) (i : TypeInfo) (ht : P.underlying t = some (.slice e)) (hi : P.info? e = some i) (ad : Addr) (x : Option Addr) (c : Nat) :
    (Builtin.append_ #[t, t] ty #[.slice (some ad) 0 0, .slice x 0 c]).run P w = .ok (.slice (some ad) 0 0) w := by
  cases x <;> simp [Builtin.append_, run_underlying ht, sizeOf, typeInfo, hi, Builtin.lenOf, Builtin.firstCells, storeCells, loadCells, loadCellsFrom]
theorem step_cp {P : Program} {α : Type} {enc : α → List Value} {k : Nat} (hk : ∀ x, (enc x).length = k) (h0 : 0 < k) {ops : Array Oper} {o : Oper} {a : Act} {K : Act → World → Prop} {Q : Exit → Act → World → Prop} {R : Prop}
    (E T : TypeId) (i : TypeInfo) (z : Value) (bytes : Nat) (ht : P.underlying T = some (.slice E)) (hi : P.info? E = some i) (hz : i.zero = some z) (hsize : i.size = k) (hby : i.bytes = bytes) (hzs : z.cells.size = k) (hb : bytes ≤ 1000)
    (w : World) (hgd : o.guard = none) (s xo : Operand) (ho : o.op = .call { callee := .builtin .append, args := #[s, xo], argTypes := #[T, T] })
    (ad : Addr) (hs : a.eval s = .slice (some ad) 0 0) (B : Nat) (u : Value) (ys : List α) (n : Nat) (hn : Hid (n = ys.length)) (hx : a.eval xo = u) (hu : Ow enc k E B w u ys) (hlen : n ≤ 1000)
    (h : ∀ a' c' w', Wk enc k E w.heap.size w' (.slice a' n c') ys → Below w.heap.size w w' → K (a.put o.dst (.slice a' n c')) w') :
    if Region.wanted o (yielded ops a.tmps) = true then Oper.wp P o a w K Q else R := by
  obtain rfl := unhide hn
  rw [if_pos (by simp [Region.wanted, hgd])]
  by_cases hm : ys.length = 0
  · have hy : ys = [] := List.eq_nil_of_length_eq_zero hm
    obtain ⟨x, c, hu'⟩ : ∃ x c, u = .slice x 0 c := by
      obtain ⟨x, c, e⟩ := hu.form
      exact ⟨x, c, by rw [e, hm]⟩
    have hrun := run_cp_none (P := P) (w := w) T o.type E i ht hi ad x c
    unfold Oper.wp
    simp [execOp, ho, resolve, invoke, builtin, hs, hx, hu', hrun, Result.andThen]
    have := h (some ad) 0 w (.inr ⟨hy, some ad, 0, by rw [hm]⟩) (Below.refl _ _)
    rw [hm] at this
    exact this
  · rcases hu.2 with ⟨_, h00⟩ | ⟨g, cap, cur, rfl, hb', hg, hnc, _⟩
    · omega
    · have hcells : ∀ j u, (ys.flatMap enc)[j]? = some u → w.cell? ((⟨g, 0, none⟩ : Addr).add j) = some u := fun j u hj => by
        have e : (⟨g, 0, none⟩ : Addr).add j = ⟨g, j, none⟩ := by unfold Addr.add; split <;> simp_all
        rw [e]
        have hl := hu.1
        have hjl : j < (ys.flatMap enc).length := (List.getElem?_eq_some_iff.1 hj).1
        rw [World.ownsRow.cellAt hu j (by rw [hl] at hjl; exact hjl)]
        exact hj
      obtain ⟨v', w', hrun, r1, r2⟩ := run_append_arg_grows (P := P) w T o.type E i z k bytes ht hi hz hsize hby hzs h0 ad 0 0 [] (by simp) (fun j u hj => by simp at hj) ⟨g, 0, none⟩ ys.length cap (ys.flatMap enc) (by rw [flat_len hk]) hcells (by omega) (by unfold maxLen; omega) (by
        have : (0 + ys.length) * bytes ≤ 1000 * 1000 := Nat.mul_le_mul (by omega) hb
        omega)
      have hO : Ow enc k E w.heap.size w' v' ys := by
        unfold Ow
        simpa using r1
      obtain ⟨a', c', rfl⟩ := hO.form
      unfold Oper.wp
      simp [execOp, ho, resolve, invoke, builtin, hs, hx, hrun, Result.andThen]
      exact h a' c' w' (.inl hO) ⟨r2.os, r2.tape, r2.output, r2.size, fun q hq => r2.block q hq (by simp)⟩

variable {w V W W' : World} {v1 v2 : Value}
/-- The argument's variable and the result's, while the copy is made. -/
structure C3 (w W : World) (v1 v2 : Value) : Prop where
  bel : Below w.heap.size w W
  k1 : W.heap[w.heap.size]? = some (StB v1 v2)
  k2 : W.heap[w.heap.size + 1]? = some (StB (.slice none 0 0) (.slice none 0 0))
theorem C3.lt (h : C3 w W v1 v2) : w.heap.size + 1 < W.heap.size := (Array.getElem?_eq_some_iff.1 h.k2).1
theorem C3.later (h : C3 w W v1 v2) (b : Below W.heap.size W W') : C3 w W' v1 v2 := by
  have := h.lt
  exact ⟨h.bel.trans (b.mono h.bel.size), (b.block _ (by omega)).trans h.k1, (b.block _ (by omega)).trans h.k2⟩
theorem C3.drewH (h : Hid (C3 w W v1 v2)) : Hid (C3 w W.drew v1 v2) := hide ((unhide h).later (Below.refl _ _).drew)
theorem C3.allocH (h : Hid (C3 w W v1 v2)) (o : Obj) : Hid (C3 w (W.alloc o) v1 v2) := hide ((unhide h).later ((Below.refl _ _).alloc (Nat.le_refl _) o))
theorem kC (h : Hid (C3 w W v1 v2)) : Below w.heap.size w W ∧ W.cell? ⟨w.heap.size, 0, none⟩ = some v1 ∧ W.cell? ⟨w.heap.size, 1, none⟩ = some v2 := by
  obtain ⟨p0, p1, _⟩ := blk_cells2 (unhide h).k1
  exact ⟨(unhide h).bel, p0, p1⟩
theorem kCs (h : Hid (C3 w W v1 v2)) (u1 u2 : Value) : Below w.heap.size w ((W.setCell ⟨w.heap.size + 1, 0, none⟩ u1).setCell ⟨w.heap.size + 1, 1, none⟩ u2) ∧ ((W.setCell ⟨w.heap.size + 1, 0, none⟩ u1).setCell ⟨w.heap.size + 1, 1, none⟩ u2).cell? ⟨w.heap.size, 0, none⟩ = some v1 ∧ ((W.setCell ⟨w.heap.size + 1, 0, none⟩ u1).setCell ⟨w.heap.size + 1, 1, none⟩ u2).cell? ⟨w.heap.size, 1, none⟩ = some v2 := by
  obtain ⟨p0, p1, _⟩ := blk_cells2 (blk_grown (grown_set2 W (w.heap.size + 1) u1 u2) (unhide h).k1 (by omega))
  exact ⟨((unhide h).bel.setCell (p := ⟨w.heap.size + 1, 0, none⟩) (by simp) _).setCell (p := ⟨w.heap.size + 1, 1, none⟩) (by simp) _, p0, p1⟩
theorem C3.new (w : World) (v1 v2 : Value) : C3 w ((w.alloc (StB v1 v2)).alloc (StB (.slice none 0 0) (.slice none 0 0))) v1 v2 :=
  ⟨((Below.refl w.heap.size w).alloc (Nat.le_refl _) _).alloc (by simp) _, (Below.heap_alloc _ _ _ (by simp)).trans (heap_alloc_new _ _), newB2 _ _ _⟩
theorem later_al {X Y : World} {o : Obj} (b : Below (X.alloc o).heap.size (X.alloc o) Y) : Below X.heap.size X Y := ((Below.refl X.heap.size X).alloc (Nat.le_refl _) o).trans (b.mono (by simp))

set_option maxHeartbeats 8000000 in
set_option maxRecDepth 100000 in
theorem l3copy_any (a1 : Option Addr) (n1 c1 : Nat) (its : List Itm) (a2 : Option Addr) (n2 c2 : Nat) (fls : List Flr) (B : Nat) (w : World) (h1 : n1 ≤ 6) (h2 : n2 ≤ 6) (hx : OwI B w (.slice a1 n1 c1) its) (hf : OwF B w (.slice a2 n2 c2) fls) :
    Calls Tryz.prog 100 #[.agg #[.slice a1 n1 c1, .slice a2 n2 c2]] w fun e w' => ∃ b1 d1 b2 d2, e = .returned (.agg #[.slice b1 n1 d1, .slice b2 n2 d2]) ∧ WkI w.heap.size w' (.slice b1 n1 d1) its ∧ WkF w.heap.size w' (.slice b2 n2 d2) fls ∧ Below w.heap.size w w' := by
  obtain ⟨i0, hi, hz0, hz1, hz2⟩ := info_parts Tryz.infoItem
  obtain ⟨i1, gi, gz0, gz1, gz2⟩ := info_parts Tryz.infoFloor
  have E1 := hide (hx.rw encI_len).len.1
  have E2 := hide (hf.rw encF_len).len.1
  have HX := hide hx
  have HF := hide hf
  clear hx hf
  go_enter Tryz.func100, Tryz.ntmps100
  go_upto_region 1 with fail
  obtain ⟨V, hV⟩ : ∃ V, V = (w.alloc (StB (.slice a1 n1 c1) (.slice a2 n2 c2))).alloc (StB (.slice none 0 0) (.slice none 0 0)) := ⟨_, rfl⟩
  have CV := hide (show C3 w V (.slice a1 n1 c1) (.slice a2 n2 c2) from by rw [hV]; exact C3.new _ _ _)
  rw [← hV]
  clear hV
  have CD := C3.drewH CV
  have z0 := (unhide CD).bel.size
  have z1 := (unhide CD).lt
  go_region_held3 (fun W => Below w.heap.size w W ∧ W.cell? ⟨w.heap.size, 0, none⟩ = some (.slice a1 n1 c1) ∧ W.cell? ⟨w.heap.size, 1, none⟩ = some (.slice a2 n2 c2))
    (first | (with_reducible exact kC CV) | (with_reducible exact kC CD) | (with_reducible exact kC CB) | (with_reducible exact kC CA) | (with_reducible exact kC (C3.drewH (C3.allocH CV _))) | (with_reducible exact kC (C3.drewH (C3.allocH (C3.allocH CV _) _))) | (with_reducible exact kC (C3.allocH CA _)) | (with_reducible exact kC (C3.allocH CB _)) | (with_reducible exact kCs CB _ _) | (with_reducible exact kCs CA _ _))
    (first
      | (refine step_cp encI_len (by omega) 40 24 i0 _ 56 Tryz.underlying24 hi hz0 hz1 hz2 rfl (by omega) _ rfl _ _ rfl _ rfl B (.slice a1 n1 c1) its n1 E1 rfl ?_ (by omega) ?_; (first | with_reducible exact (unhide HX).later (unhide (C3.drewH (C3.allocH CV _))).bel | with_reducible exact (unhide HX).later (unhide (C3.drewH (C3.allocH (C3.allocH CV _) _))).bel | with_reducible exact (unhide HX).later (unhide CB).bel | with_reducible exact (unhide HX).later (unhide (C3.allocH CB _)).bel); intro b1 d1 w6 hO hG; (first | (with_reducible have CA := hide ((unhide (C3.drewH (C3.allocH CV _))).later hG); have OI := hide (hO.base (unhide (C3.drewH (C3.allocH CV _))).bel.size)) | (with_reducible have CA := hide ((unhide (C3.drewH (C3.allocH (C3.allocH CV _) _))).later hG); have OI := hide (hO.base (unhide (C3.drewH (C3.allocH (C3.allocH CV _) _))).bel.size)) | (with_reducible have CA := hide ((unhide CB).later hG); have OI := hide (hO.base (unhide CB).bel.size)) | (with_reducible have CA := hide ((unhide (C3.allocH CB _)).later hG); have OI := hide (hO.base (unhide (C3.allocH CB _)).bel.size))); (first | (with_reducible have OF := hide ((unhide OF).later hG)) | (with_reducible have OF := hide ((unhide OF).later (later_al hG))) | skip); have zA := (unhide CA).lt; obtain ⟨q0, q1, qf⟩ := blk_cells2 (unhide CA).k2; clear hO hG)
      | (refine step_cp encF_len (by omega) 84 25 i1 _ 16 Tryz.underlying25 gi gz0 gz1 gz2 rfl (by omega) _ rfl _ _ rfl _ rfl B (.slice a2 n2 c2) fls n2 E2 rfl ?_ (by omega) ?_; (first | with_reducible exact (unhide HF).later (unhide (C3.drewH (C3.allocH CV _))).bel | with_reducible exact (unhide HF).later (unhide (C3.drewH (C3.allocH (C3.allocH CV _) _))).bel | with_reducible exact (unhide HF).later (unhide CA).bel | with_reducible exact (unhide HF).later (unhide (C3.allocH CA _)).bel); intro b2 d2 w7 hO hG; (first | (with_reducible have CB := hide ((unhide (C3.drewH (C3.allocH CV _))).later hG); have OF := hide (hO.base (unhide (C3.drewH (C3.allocH CV _))).bel.size)) | (with_reducible have CB := hide ((unhide (C3.drewH (C3.allocH (C3.allocH CV _) _))).later hG); have OF := hide (hO.base (unhide (C3.drewH (C3.allocH (C3.allocH CV _) _))).bel.size)) | (with_reducible have CB := hide ((unhide CA).later hG); have OF := hide (hO.base (unhide CA).bel.size)) | (with_reducible have CB := hide ((unhide (C3.allocH CA _)).later hG); have OF := hide (hO.base (unhide (C3.allocH CA _)).bel.size))); (first | (with_reducible have OI := hide ((unhide OI).later hG)) | (with_reducible have OI := hide ((unhide OI).later (later_al hG))) | skip); have zB := (unhide CB).lt; obtain ⟨q0, q1, qf⟩ := blk_cells2 (unhide CB).k2; clear hO hG))
  all_goals go_wp2
  all_goals first
    | exact bodyPost_ret (v := .agg #[.slice b1 n1 d1, .slice b2 n2 d2]) (by simp [results, Tryz.results100, go_sem, q0, q1]) rfl ⟨_, _, _, _, rfl, (unhide OI).other (unhide CA).k2 (by decide) (grown_set2 w6 _ _ _), (unhide OF).other (unhide CA).k2 (by decide) (grown_set2 w6 _ _ _), (kCs CA _ _).1⟩
    | exact bodyPost_ret (v := .agg #[.slice b1 n1 d1, .slice b2 n2 d2]) (by simp [results, Tryz.results100, go_sem, q0, q1]) rfl ⟨_, _, _, _, rfl, (unhide OI).other (unhide CB).k2 (by decide) (grown_set2 w7 _ _ _), (unhide OF).other (unhide CB).k2 (by decide) (grown_set2 w7 _ _ _), (kCs CB _ _).1⟩
end Go.Proofs.YtdpaocikmijioabGreat
