/-
  spec.l3Copy of whatever state, spec.l7Copy of whatever log: the same lists in memory of the call's own. No statement is proved here.
-/
import Derived.Test.YtdpaocikmijioacLgC
import Derived.ArgAppend
import Derived.Laws.OwnMore
import Derived.Deep.RegionHeld3
namespace Go.Proofs.Ytdpaocikmijioac
open Go.RowKit

abbrev StB7 (v1 v2 : Value) : Obj := .cells #[v1, v2] 30 (0, 0)
theorem Rw.flat {α : Type} {enc : α → List Value} {k : Nat} (hk : ∀ x, (enc x).length = k) (h0 : 0 < k) {w : World} {b off n cap : Nat} {xs : List α} (h : Rw enc k w (.slice (some ⟨b, off, none⟩) n cap) xs) : ∀ j u, (xs.flatMap enc)[j]? = some u → w.cell? ((⟨b, off, none⟩ : Addr).add j) = some u := by
  intro j v hj
  have hjl : j < (xs.flatMap enc).length := (List.getElem?_eq_some_iff.1 hj).1
  rw [flat_len hk] at hjl
  obtain ⟨e, hr⟩ := div_parts h0 j
  have hq : j / k < xs.length := Nat.div_lt_of_lt_mul (by rw [Nat.mul_comm]; exact hjl)
  obtain ⟨x, b', off', hx, ha, hb, hc, cc⟩ := h.at (i := j / k) (by rw [h.len.1]; exact hq)
  simp only [Option.some.injEq, Addr.mk.injEq, and_true] at ha
  obtain ⟨rfl, rfl⟩ := ha
  have ea : (⟨b, off, none⟩ : Addr).add j = ⟨b, off + j / k * k + j % k, none⟩ := by
    rw [add_off]; congr 1; omega
  rw [ea, cc (j % k) hr, ← flat_at hk xs (j / k) x (j % k) hx hr, ← e]
  exact hj
/-- A row of the call's own, or an empty one. -/
def Wk7 {α : Type} (enc : α → List Value) (k : Nat) (E : TypeId) (base : Nat) (w : World) (v : Value) (xs : List α) : Prop := Ow enc k E base w v xs ∨ (xs = [] ∧ ∃ a c, v = .slice a 0 c)
theorem Wk7.rw {α : Type} {enc : α → List Value} {k : Nat} (hk : ∀ x, (enc x).length = k) {e : TypeId} {base : Nat} {w : World} {v : Value} {xs : List α} (h : Wk7 enc k e base w v xs) : Rw enc k w v xs := by
  rcases h with h | ⟨rfl, a, c, rfl⟩
  · exact h.rw hk
  · exact ⟨a, c, rfl, Nat.zero_le _, .inl rfl⟩
theorem Wk7.later {α : Type} {enc : α → List Value} {k : Nat} {e : TypeId} {base : Nat} {w w' : World} {v : Value} {xs : List α} (h : Wk7 enc k e base w v xs) (hb : Below w.heap.size w w') : Wk7 enc k e base w' v xs := h.imp (fun h => h.later hb) id
theorem Wk7.base {α : Type} {enc : α → List Value} {k : Nat} {e : TypeId} {base base' : Nat} {w : World} {v : Value} {xs : List α} (h : Wk7 enc k e base w v xs) (hb : base' ≤ base) : Wk7 enc k e base' w v xs := h.imp (fun h => h.base hb) id
theorem Wk7.other {α : Type} {enc : α → List Value} {k : Nat} {E T : TypeId} {base : Nat} {w w' : World} {v : Value} {xs : List α} {b : Nat} {cs : Array Value} {fz : Nat × Nat} (h : Wk7 enc k E base w v xs) (hb : w.heap[b]? = some (.cells cs T fz)) (hne : E ≠ T) (hg : w.grownBy w' (some b)) : Wk7 enc k E base w' v xs := h.imp (fun h => h.otherT (fun q e => by cases e; exact ⟨_, _, hb⟩) hne hg) id
abbrev Wk7I (base : Nat) (w : World) (v : Value) (xs : List Itm) : Prop := Wk7 encI 6 75 base w v xs
abbrev Wk7F (base : Nat) (w : World) (v : Value) (fs : List Flr) : Prop := Wk7 encF 2 78 base w v fs

theorem run_cp7_none {P : Program} {w : World} (t ty e : TypeId) (i : TypeInfo) (ht : P.underlying t = some (.slice e)) (hi : P.info? e = some i) (ad : Addr) (x : Option Addr) (c : Nat) :
    (Builtin.append_ #[t, t] ty #[.slice (some ad) 0 0, .slice x 0 c]).run P w = .ok (.slice (some ad) 0 0) w := by
  cases x <;> simp [Builtin.append_, run_underlying ht, sizeOf, typeInfo, hi, Builtin.lenOf, Builtin.firstCells, storeCells, loadCells, loadCellsFrom]
theorem step_cp7 {P : Program} {α : Type} {enc : α → List Value} {k : Nat} (hk : ∀ x, (enc x).length = k) (h0 : 0 < k) {ops : Array Oper} {o : Oper} {a : Act} {K : Act → World → Prop} {Q : Exit → Act → World → Prop} {R : Prop}
    (E T : TypeId) (i : TypeInfo) (z : Value) (bytes : Nat) (ht : P.underlying T = some (.slice E)) (hi : P.info? E = some i) (hz : i.zero = some z) (hsize : i.size = k) (hby : i.bytes = bytes) (hzs : z.cells.size = k) (hb : bytes ≤ 1000)
    (w : World) (hgd : o.guard = none) (s xo : Operand) (ho : o.op = .call { callee := .builtin .append, args := #[s, xo], argTypes := #[T, T] })
    (ad : Addr) (hs : a.eval s = .slice (some ad) 0 0) (u : Value) (ys : List α) (n : Nat) (hn : Hid (n = ys.length)) (hx : a.eval xo = u) (hu : Rw enc k w u ys) (hlen : n ≤ 2000000)
    (h : ∀ a' c' w', Wk7 enc k E w.heap.size w' (.slice a' n c') ys → Below w.heap.size w w' → K (a.put o.dst (.slice a' n c')) w') :
    if Region.wanted o (yielded ops a.tmps) = true then Oper.wp P o a w K Q else R := by
  obtain rfl := unhide hn
  rw [if_pos (by simp [Region.wanted, hgd])]
  by_cases hm : ys.length = 0
  · have hy : ys = [] := List.eq_nil_of_length_eq_zero hm
    obtain ⟨x, c, hu'⟩ : ∃ x c, u = .slice x 0 c := by
      obtain ⟨x, n, c, e, hn⟩ := hu.form
      exact ⟨x, c, by rw [e, hn, hm]⟩
    have hrun := run_cp7_none (P := P) (w := w) T o.type E i ht hi ad x c
    unfold Oper.wp
    simp [execOp, ho, resolve, invoke, builtin, hs, hx, hu', hrun, Result.andThen]
    have := h (some ad) 0 w (.inr ⟨hy, some ad, 0, by rw [hm]⟩) (Below.refl _ _)
    rw [hm] at this
    exact this
  · obtain ⟨x, cap, rfl, hcap, hr⟩ := hu
    have hu : Rw enc k w (.slice x ys.length cap) ys := ⟨x, cap, rfl, hcap, hr⟩
    rcases hr with hr | ⟨b, off, rfl, hb', hc⟩
    · rw [hr] at hm; exact absurd rfl hm
    · have hcells := hu.flat hk h0
      obtain ⟨v', w', hrun, r1, r2⟩ := run_append_arg_grows (P := P) w T o.type E i z k bytes ht hi hz hsize hby hzs h0 ad 0 0 [] (by simp) (fun j u hj => by simp at hj) ⟨b, off, none⟩ ys.length cap (ys.flatMap enc) (by rw [flat_len hk]) hcells (by omega) (by unfold maxLen; omega) (by
        have : (0 + ys.length) * bytes ≤ 2000000 * 1000 := Nat.mul_le_mul (by omega) hb
        omega)
      have hO : Ow enc k E w.heap.size w' v' ys := by
        unfold Ow
        simpa using r1
      obtain ⟨a', c', rfl⟩ := hO.form
      unfold Oper.wp
      simp [execOp, ho, resolve, invoke, builtin, hs, hx, hrun, Result.andThen]
      exact h a' c' w' (.inl hO) ⟨r2.os, r2.tape, r2.output, r2.size, fun q hq => r2.block q hq (by simp)⟩

variable {w V W W' : World} {v1 v2 : Value}
/-- The argument's variable and the result's, while the copy is made. -/
structure C7 (w W : World) (v1 v2 : Value) : Prop where
  bel : Below w.heap.size w W
  k1 : W.heap[w.heap.size]? = some (StB7 v1 v2)
  k2 : W.heap[w.heap.size + 1]? = some (StB7 (.slice none 0 0) (.slice none 0 0))
theorem C7.lt (h : C7 w W v1 v2) : w.heap.size + 1 < W.heap.size := (Array.getElem?_eq_some_iff.1 h.k2).1
theorem C7.later (h : C7 w W v1 v2) (b : Below W.heap.size W W') : C7 w W' v1 v2 := by
  have := h.lt
  exact ⟨h.bel.trans (b.mono h.bel.size), (b.block _ (by omega)).trans h.k1, (b.block _ (by omega)).trans h.k2⟩
theorem C7.drewH (h : Hid (C7 w W v1 v2)) : Hid (C7 w W.drew v1 v2) := hide ((unhide h).later (Below.refl _ _).drew)
theorem C7.allocH (h : Hid (C7 w W v1 v2)) (o : Obj) : Hid (C7 w (W.alloc o) v1 v2) := hide ((unhide h).later ((Below.refl _ _).alloc (Nat.le_refl _) o))
theorem kC7 (h : Hid (C7 w W v1 v2)) : Below w.heap.size w W ∧ W.cell? ⟨w.heap.size, 0, none⟩ = some v1 ∧ W.cell? ⟨w.heap.size, 1, none⟩ = some v2 := by
  obtain ⟨p0, p1, _⟩ := blk_cells2 (unhide h).k1
  exact ⟨(unhide h).bel, p0, p1⟩
theorem kC7s (h : Hid (C7 w W v1 v2)) (u1 u2 : Value) : Below w.heap.size w ((W.setCell ⟨w.heap.size + 1, 0, none⟩ u1).setCell ⟨w.heap.size + 1, 1, none⟩ u2) ∧ ((W.setCell ⟨w.heap.size + 1, 0, none⟩ u1).setCell ⟨w.heap.size + 1, 1, none⟩ u2).cell? ⟨w.heap.size, 0, none⟩ = some v1 ∧ ((W.setCell ⟨w.heap.size + 1, 0, none⟩ u1).setCell ⟨w.heap.size + 1, 1, none⟩ u2).cell? ⟨w.heap.size, 1, none⟩ = some v2 := by
  obtain ⟨p0, p1, _⟩ := blk_cells2 (blk_at (h := w.heap.size + 1) (o := 1) (u := u2) (blk_at (h := w.heap.size + 1) (o := 0) (u := u1) (unhide h).k1 (by omega)) (by omega))
  exact ⟨((unhide h).bel.setCell (p := ⟨w.heap.size + 1, 0, none⟩) (by simp) _).setCell (p := ⟨w.heap.size + 1, 1, none⟩) (by simp) _, p0, p1⟩
theorem C7.new (w : World) (v1 v2 : Value) : C7 w ((w.alloc (StB7 v1 v2)).alloc (StB7 (.slice none 0 0) (.slice none 0 0))) v1 v2 :=
  ⟨((Below.refl w.heap.size w).alloc (Nat.le_refl _) _).alloc (by simp) _, (Below.heap_alloc _ _ _ (by simp)).trans (heap_alloc_new _ _), newB2 _ _ _⟩
theorem later_al7 {X Y : World} {o : Obj} (b : Below (X.alloc o).heap.size (X.alloc o) Y) : Below X.heap.size X Y := ((Below.refl X.heap.size X).alloc (Nat.le_refl _) o).trans (b.mono (by simp))

set_option maxHeartbeats 8000000 in
set_option maxRecDepth 100000 in
theorem l3copy7_any (a1 : Option Addr) (n1 c1 : Nat) (its : List Itm) (a2 : Option Addr) (n2 c2 : Nat) (fls : List Flr) (w : World) (h1 : n1 ≤ 2000000) (h2 : n2 ≤ 2000000) (hx : Rw encI 6 w (.slice a1 n1 c1) its) (hf : Rw encF 2 w (.slice a2 n2 c2) fls) :
    Calls Try.prog 46 #[.agg #[.slice a1 n1 c1, .slice a2 n2 c2]] w fun e w' => ∃ b1 d1 b2 d2, e = .returned (.agg #[.slice b1 n1 d1, .slice b2 n2 d2]) ∧ Wk7I w.heap.size w' (.slice b1 n1 d1) its ∧ Wk7F w.heap.size w' (.slice b2 n2 d2) fls ∧ Below w.heap.size w w' := by
  obtain ⟨i0, hi, hz0, hz1, hz2⟩ := info_parts Try.infoItem
  obtain ⟨i1, gi, gz0, gz1, gz2⟩ := info_parts Try.infoFloor
  have E1 := hide hx.len.1
  have E2 := hide hf.len.1
  have HX := hide hx
  have HF := hide hf
  clear hx hf
  go_enter Try.func46, Try.ntmps46
  go_upto_region 1 with fail
  obtain ⟨V, hV⟩ : ∃ V, V = (w.alloc (StB7 (.slice a1 n1 c1) (.slice a2 n2 c2))).alloc (StB7 (.slice none 0 0) (.slice none 0 0)) := ⟨_, rfl⟩
  have CV := hide (show C7 w V (.slice a1 n1 c1) (.slice a2 n2 c2) from by rw [hV]; exact C7.new _ _ _)
  rw [← hV]
  clear hV
  have CD := C7.drewH CV
  have z0 := (unhide CD).bel.size
  have z1 := (unhide CD).lt
  go_region_held3 (fun W => Below w.heap.size w W ∧ W.cell? ⟨w.heap.size, 0, none⟩ = some (.slice a1 n1 c1) ∧ W.cell? ⟨w.heap.size, 1, none⟩ = some (.slice a2 n2 c2))
    (first | (with_reducible exact kC7 CV) | (with_reducible exact kC7 CD) | (with_reducible exact kC7 CB) | (with_reducible exact kC7 CA) | (with_reducible exact kC7 (C7.drewH (C7.allocH CV _))) | (with_reducible exact kC7 (C7.drewH (C7.allocH (C7.allocH CV _) _))) | (with_reducible exact kC7 (C7.allocH CA _)) | (with_reducible exact kC7 (C7.allocH CB _)) | (with_reducible exact kC7s CB _ _) | (with_reducible exact kC7s CA _ _))
    (first
      | (refine step_cp7 encI_len (by omega) 75 27 i0 _ 56 Try.underlying27 hi hz0 hz1 hz2 rfl (by omega) _ rfl _ _ rfl _ rfl (.slice a1 n1 c1) its n1 E1 rfl ?_ (by omega) ?_; (first | with_reducible exact (unhide HX).later (unhide (C7.drewH (C7.allocH CV _))).bel | with_reducible exact (unhide HX).later (unhide (C7.drewH (C7.allocH (C7.allocH CV _) _))).bel | with_reducible exact (unhide HX).later (unhide CB).bel | with_reducible exact (unhide HX).later (unhide (C7.allocH CB _)).bel); intro b1 d1 w6 hO hG; (first | (with_reducible have CA := hide ((unhide (C7.drewH (C7.allocH CV _))).later hG); have OI := hide (hO.base (unhide (C7.drewH (C7.allocH CV _))).bel.size)) | (with_reducible have CA := hide ((unhide (C7.drewH (C7.allocH (C7.allocH CV _) _))).later hG); have OI := hide (hO.base (unhide (C7.drewH (C7.allocH (C7.allocH CV _) _))).bel.size)) | (with_reducible have CA := hide ((unhide CB).later hG); have OI := hide (hO.base (unhide CB).bel.size)) | (with_reducible have CA := hide ((unhide (C7.allocH CB _)).later hG); have OI := hide (hO.base (unhide (C7.allocH CB _)).bel.size))); (first | (with_reducible have OF := hide ((unhide OF).later hG)) | (with_reducible have OF := hide ((unhide OF).later (later_al7 hG))) | skip); have zA := (unhide CA).lt; obtain ⟨q0, q1, qf⟩ := blk_cells2 (unhide CA).k2; clear hO hG)
      | (refine step_cp7 encF_len (by omega) 78 28 i1 _ 16 Try.underlying28 gi gz0 gz1 gz2 rfl (by omega) _ rfl _ _ rfl _ rfl (.slice a2 n2 c2) fls n2 E2 rfl ?_ (by omega) ?_; (first | with_reducible exact (unhide HF).later (unhide (C7.drewH (C7.allocH CV _))).bel | with_reducible exact (unhide HF).later (unhide (C7.drewH (C7.allocH (C7.allocH CV _) _))).bel | with_reducible exact (unhide HF).later (unhide CA).bel | with_reducible exact (unhide HF).later (unhide (C7.allocH CA _)).bel); intro b2 d2 w7 hO hG; (first | (with_reducible have CB := hide ((unhide (C7.drewH (C7.allocH CV _))).later hG); have OF := hide (hO.base (unhide (C7.drewH (C7.allocH CV _))).bel.size)) | (with_reducible have CB := hide ((unhide (C7.drewH (C7.allocH (C7.allocH CV _) _))).later hG); have OF := hide (hO.base (unhide (C7.drewH (C7.allocH (C7.allocH CV _) _))).bel.size)) | (with_reducible have CB := hide ((unhide CA).later hG); have OF := hide (hO.base (unhide CA).bel.size)) | (with_reducible have CB := hide ((unhide (C7.allocH CA _)).later hG); have OF := hide (hO.base (unhide (C7.allocH CA _)).bel.size))); (first | (with_reducible have OI := hide ((unhide OI).later hG)) | (with_reducible have OI := hide ((unhide OI).later (later_al7 hG))) | skip); have zB := (unhide CB).lt; obtain ⟨q0, q1, qf⟩ := blk_cells2 (unhide CB).k2; clear hO hG))
  all_goals go_wp2
  all_goals first
    | exact bodyPost_ret (v := .agg #[.slice b1 n1 d1, .slice b2 n2 d2]) (by simp [results, Try.results46, go_sem, q0, q1]) rfl ⟨_, _, _, _, rfl, (unhide OI).other (unhide CA).k2 (by decide) (grownS w6 _ _ _), (unhide OF).other (unhide CA).k2 (by decide) (grownS w6 _ _ _), (kC7s CA _ _).1⟩
    | exact bodyPost_ret (v := .agg #[.slice b1 n1 d1, .slice b2 n2 d2]) (by simp [results, Try.results46, go_sem, q0, q1]) rfl ⟨_, _, _, _, rfl, (unhide OI).other (unhide CB).k2 (by decide) (grownS w7 _ _ _), (unhide OF).other (unhide CB).k2 (by decide) (grownS w7 _ _ _), (kC7s CB _ _).1⟩
end Go.Proofs.Ytdpaocikmijioac
