/-
  spec.l3Copy of whatever state, spec.l7Copy of whatever log: the same lists in memory of the call's own. No statement is proved here.
  spec.l7Copy: a log in memory of the call's own. No statement is proved here.
  append([]T{}, src...) of a row that is read; the rest of a row. No program here, no statement is proved here.
  spec.LogAdd: a change is logged. No statement is proved here.
-/
import Derived.Test.YtijdmfakaompgaaLgK
import Derived.Test.YtijdmfakaompgaaLgI
import Derived.ArgAppend
import Derived.Laws.OwnMore
import Derived.Deep.RegionHeld3
import Derived.Test.YtijdmfakaompgaaApp2
namespace Go.Proofs.Ytijdmfakaompgaa
open Go.RowKit

abbrev StB7 (v1 v2 : Value) : Obj := .cells #[v1, v2] 32 (0, 0)
theorem Rw.flat {α : Type} {enc : α → List Value} {k : Nat} (hk : ∀ x, (enc x).length = k) (h0 : 0 < k) {w : World} {b off n cap : Nat} {xs : List α} (h : Rw enc k w (.slice (some ⟨b, off, none⟩) n cap) xs) : ∀ j u, (xs.flatMap enc)[j]? = some u → w.cell? ((⟨b, off, none⟩ : Addr).add j) = some u := by
  intro j v hj
  have hjl : j < (xs.flatMap enc).length := (List.getElem?_eq_some_iff.1 hj).1
  rw [flat_len hk] at hjl
  obtain ⟨e, hr⟩ := div_parts h0 j
  have hq : j / k < xs.length := Nat.div_lt_of_lt_mul (by rw [Nat.mul_comm]; exact hjl)
  obtain ⟨x, b', off', hx, ha, hb, hc, cc⟩ := h.at (i := j / k) (by rw [h.len.1]; exact hq)
  simp only [Option.some.injEq, Addr.mk.injEq, and_true] at ha
  obtain ⟨rfl, rfl⟩ := ha
  have ea : (⟨b, off, none⟩ : Addr).add j = ⟨b, off + j / k * k + j % k, none⟩ := by
    rw [add_off]; congr 1; omega
  rw [ea, cc (j % k) hr, ← flat_at hk xs (j / k) x (j % k) hx hr, ← e]
  exact hj
/-- A row of the call's own, or an empty one. -/
def Wk7 {α : Type} (enc : α → List Value) (k : Nat) (E : TypeId) (base : Nat) (w : World) (v : Value) (xs : List α) : Prop := Ow enc k E base w v xs ∨ (xs = [] ∧ ∃ a c, v = .slice a 0 c)
theorem Wk7.rw {α : Type} {enc : α → List Value} {k : Nat} (hk : ∀ x, (enc x).length = k) {e : TypeId} {base : Nat} {w : World} {v : Value} {xs : List α} (h : Wk7 enc k e base w v xs) : Rw enc k w v xs := by
  rcases h with h | ⟨rfl, a, c, rfl⟩
  · exact h.rw hk
  · exact ⟨a, c, rfl, Nat.zero_le _, .inl rfl⟩
theorem Wk7.later {α : Type} {enc : α → List Value} {k : Nat} {e : TypeId} {base : Nat} {w w' : World} {v : Value} {xs : List α} (h : Wk7 enc k e base w v xs) (hb : Below w.heap.size w w') : Wk7 enc k e base w' v xs := h.imp (fun h => h.later hb) id
theorem Wk7.base {α : Type} {enc : α → List Value} {k : Nat} {e : TypeId} {base base' : Nat} {w : World} {v : Value} {xs : List α} (h : Wk7 enc k e base w v xs) (hb : base' ≤ base) : Wk7 enc k e base' w v xs := h.imp (fun h => h.base hb) id
theorem Wk7.other {α : Type} {enc : α → List Value} {k : Nat} {E T : TypeId} {base : Nat} {w w' : World} {v : Value} {xs : List α} {b : Nat} {cs : Array Value} {fz : Nat × Nat} (h : Wk7 enc k E base w v xs) (hb : w.heap[b]? = some (.cells cs T fz)) (hne : E ≠ T) (hg : w.grownBy w' (some b)) : Wk7 enc k E base w' v xs := h.imp (fun h => h.otherT (fun q e => by cases e; exact ⟨_, _, hb⟩) hne hg) id
abbrev Wk7I (base : Nat) (w : World) (v : Value) (xs : List Itm) : Prop := Wk7 encI 6 76 base w v xs
abbrev Wk7F (base : Nat) (w : World) (v : Value) (fs : List Flr) : Prop := Wk7 encF 2 79 base w v fs

theorem run_cp7_none {P : Program} {w : World} (t ty e : TypeId) (i : TypeInfo) (ht : P.underlying t = some (.slice e)) (hi : P.info? e = some i) (ad : Addr) (x : Option Addr) (c : Nat) :
    (Builtin.append_ #[t, t] ty #[.slice (some ad) 0 0, .slice x 0 c]).run P w = .ok (.slice (some ad) 0 0) w := by
  cases x <;> simp [Builtin.append_, run_underlying ht, sizeOf, typeInfo, hi, Builtin.lenOf, Builtin.firstCells, storeCells, loadCells, loadCellsFrom]
theorem step_cp7 {P : Program} {α : Type} {enc : α → List Value} {k : Nat} (hk : ∀ x, (enc x).length = k) (h0 : 0 < k) {ops : Array Oper} {o : Oper} {a : Act} {K : Act → World → Prop} {Q : Exit → Act → World → Prop} {R : Prop}
    (E T : TypeId) (i : TypeInfo) (z : Value) (bytes : Nat) (ht : P.underlying T = some (.slice E)) (hi : P.info? E = some i) (hz : i.zero = some z) (hsize : i.size = k) (hby : i.bytes = bytes) (hzs : z.cells.size = k) (hb : bytes ≤ 1000)
    (w : World) (hgd : o.guard = none) (s xo : Operand) (ho : o.op = .call { callee := .builtin .append, args := #[s, xo], argTypes := #[T, T] })
    (ad : Addr) (hs : a.eval s = .slice (some ad) 0 0) (u : Value) (ys : List α) (n : Nat) (hn : Hid (n = ys.length)) (hx : a.eval xo = u) (hu : Rw enc k w u ys) (hlen : n ≤ 2000000)
    (h : ∀ a' c' w', Wk7 enc k E w.heap.size w' (.slice a' n c') ys → Below w.heap.size w w' → K (a.put o.dst (.slice a' n c')) w') :
    if Region.wanted o (yielded ops a.tmps) = true then Oper.wp P o a w K Q else R := by
  obtain rfl := unhide hn
  rw [if_pos (by simp [Region.wanted, hgd])]
  by_cases hm : ys.length = 0
  · have hy : ys = [] := List.eq_nil_of_length_eq_zero hm
    obtain ⟨x, c, hu'⟩ : ∃ x c, u = .slice x 0 c := by
      obtain ⟨x, n, c, e, hn⟩ := hu.form
      exact ⟨x, c, by rw [e, hn, hm]⟩
    have hrun := run_cp7_none (P := P) (w := w) T o.type E i ht hi ad x c
    unfold Oper.wp
    simp [execOp, ho, resolve, invoke, builtin, hs, hx, hu', hrun, Result.andThen]
    have := h (some ad) 0 w (.inr ⟨hy, some ad, 0, by rw [hm]⟩) (Below.refl _ _)
    rw [hm] at this
    exact this
  · obtain ⟨x, cap, rfl, hcap, hr⟩ := hu
    have hu : Rw enc k w (.slice x ys.length cap) ys := ⟨x, cap, rfl, hcap, hr⟩
    rcases hr with hr | ⟨b, off, rfl, hb', hc⟩
    · rw [hr] at hm; exact absurd rfl hm
    · have hcells := hu.flat hk h0
      obtain ⟨v', w', hrun, r1, r2⟩ := run_append_arg_grows (P := P) w T o.type E i z k bytes ht hi hz hsize hby hzs h0 ad 0 0 [] (by simp) (fun j u hj => by simp at hj) ⟨b, off, none⟩ ys.length cap (ys.flatMap enc) (by rw [flat_len hk]) hcells (by omega) (by unfold maxLen; omega) (by
        have : (0 + ys.length) * bytes ≤ 2000000 * 1000 := Nat.mul_le_mul (by omega) hb
        omega)
      have hO : Ow enc k E w.heap.size w' v' ys := by
        unfold Ow
        simpa using r1
      obtain ⟨a', c', rfl⟩ := hO.form
      unfold Oper.wp
      simp [execOp, ho, resolve, invoke, builtin, hs, hx, hrun, Result.andThen]
      exact h a' c' w' (.inl hO) ⟨r2.os, r2.tape, r2.output, r2.size, fun q hq => r2.block q hq (by simp)⟩

variable {w V W W' : World} {v1 v2 : Value}
/-- The argument's variable and the result's, while the copy is made. -/
structure C7 (w W : World) (v1 v2 : Value) : Prop where
  bel : Below w.heap.size w W
  k1 : W.heap[w.heap.size]? = some (StB7 v1 v2)
  k2 : W.heap[w.heap.size + 1]? = some (StB7 (.slice none 0 0) (.slice none 0 0))
theorem C7.lt (h : C7 w W v1 v2) : w.heap.size + 1 < W.heap.size := (Array.getElem?_eq_some_iff.1 h.k2).1
theorem C7.later (h : C7 w W v1 v2) (b : Below W.heap.size W W') : C7 w W' v1 v2 := by
  have := h.lt
  exact ⟨h.bel.trans (b.mono h.bel.size), (b.block _ (by omega)).trans h.k1, (b.block _ (by omega)).trans h.k2⟩
theorem C7.drewH (h : Hid (C7 w W v1 v2)) : Hid (C7 w W.drew v1 v2) := hide ((unhide h).later (Below.refl _ _).drew)
theorem C7.allocH (h : Hid (C7 w W v1 v2)) (o : Obj) : Hid (C7 w (W.alloc o) v1 v2) := hide ((unhide h).later ((Below.refl _ _).alloc (Nat.le_refl _) o))
theorem kC7 (h : Hid (C7 w W v1 v2)) : Below w.heap.size w W ∧ W.cell? ⟨w.heap.size, 0, none⟩ = some v1 ∧ W.cell? ⟨w.heap.size, 1, none⟩ = some v2 := by
  obtain ⟨p0, p1, _⟩ := blk_cells2 (unhide h).k1
  exact ⟨(unhide h).bel, p0, p1⟩
theorem kC7s (h : Hid (C7 w W v1 v2)) (u1 u2 : Value) : Below w.heap.size w ((W.setCell ⟨w.heap.size + 1, 0, none⟩ u1).setCell ⟨w.heap.size + 1, 1, none⟩ u2) ∧ ((W.setCell ⟨w.heap.size + 1, 0, none⟩ u1).setCell ⟨w.heap.size + 1, 1, none⟩ u2).cell? ⟨w.heap.size, 0, none⟩ = some v1 ∧ ((W.setCell ⟨w.heap.size + 1, 0, none⟩ u1).setCell ⟨w.heap.size + 1, 1, none⟩ u2).cell? ⟨w.heap.size, 1, none⟩ = some v2 := by
  obtain ⟨p0, p1, _⟩ := blk_cells2 (blk_at (h := w.heap.size + 1) (o := 1) (u := u2) (blk_at (h := w.heap.size + 1) (o := 0) (u := u1) (unhide h).k1 (by omega)) (by omega))
  exact ⟨((unhide h).bel.setCell (p := ⟨w.heap.size + 1, 0, none⟩) (by simp) _).setCell (p := ⟨w.heap.size + 1, 1, none⟩) (by simp) _, p0, p1⟩
theorem C7.new (w : World) (v1 v2 : Value) : C7 w ((w.alloc (StB7 v1 v2)).alloc (StB7 (.slice none 0 0) (.slice none 0 0))) v1 v2 :=
  ⟨((Below.refl w.heap.size w).alloc (Nat.le_refl _) _).alloc (by simp) _, (Below.heap_alloc _ _ _ (by simp)).trans (heap_alloc_new _ _), newB2 _ _ _⟩
theorem later_al7 {X Y : World} {o : Obj} (b : Below (X.alloc o).heap.size (X.alloc o) Y) : Below X.heap.size X Y := ((Below.refl X.heap.size X).alloc (Nat.le_refl _) o).trans (b.mono (by simp))

set_option maxHeartbeats 8000000 in
set_option maxRecDepth 100000 in
theorem l3copy7_any (a1 : Option Addr) (n1 c1 : Nat) (its : List Itm) (a2 : Option Addr) (n2 c2 : Nat) (fls : List Flr) (w : World) (h1 : n1 ≤ 2000000) (h2 : n2 ≤ 2000000) (hx : Rw encI 6 w (.slice a1 n1 c1) its) (hf : Rw encF 2 w (.slice a2 n2 c2) fls) :
    Calls Try.prog 55 #[.agg #[.slice a1 n1 c1, .slice a2 n2 c2]] w fun e w' => ∃ b1 d1 b2 d2, e = .returned (.agg #[.slice b1 n1 d1, .slice b2 n2 d2]) ∧ Wk7I w.heap.size w' (.slice b1 n1 d1) its ∧ Wk7F w.heap.size w' (.slice b2 n2 d2) fls ∧ Below w.heap.size w w' := by
  obtain ⟨i0, hi, hz0, hz1, hz2⟩ := info_parts Try.infoItem
  obtain ⟨i1, gi, gz0, gz1, gz2⟩ := info_parts Try.infoFloor
  have E1 := hide hx.len.1
  have E2 := hide hf.len.1
  have HX := hide hx
  have HF := hide hf
  clear hx hf
  go_enter Try.func55, Try.ntmps55
  go_upto_region 1 with fail
  obtain ⟨V, hV⟩ : ∃ V, V = (w.alloc (StB7 (.slice a1 n1 c1) (.slice a2 n2 c2))).alloc (StB7 (.slice none 0 0) (.slice none 0 0)) := ⟨_, rfl⟩
  have CV := hide (show C7 w V (.slice a1 n1 c1) (.slice a2 n2 c2) from by rw [hV]; exact C7.new _ _ _)
  rw [← hV]
  clear hV
  have CD := C7.drewH CV
  have z0 := (unhide CD).bel.size
  have z1 := (unhide CD).lt
  go_region_held3 (fun W => Below w.heap.size w W ∧ W.cell? ⟨w.heap.size, 0, none⟩ = some (.slice a1 n1 c1) ∧ W.cell? ⟨w.heap.size, 1, none⟩ = some (.slice a2 n2 c2))
    (first | (with_reducible exact kC7 CV) | (with_reducible exact kC7 CD) | (with_reducible exact kC7 CB) | (with_reducible exact kC7 CA) | (with_reducible exact kC7 (C7.drewH (C7.allocH CV _))) | (with_reducible exact kC7 (C7.drewH (C7.allocH (C7.allocH CV _) _))) | (with_reducible exact kC7 (C7.allocH CA _)) | (with_reducible exact kC7 (C7.allocH CB _)) | (with_reducible exact kC7s CB _ _) | (with_reducible exact kC7s CA _ _))
    (first
      | (refine step_cp7 encI_len (by omega) 76 29 i0 _ 56 Try.underlying29 hi hz0 hz1 hz2 rfl (by omega) _ rfl _ _ rfl _ rfl (.slice a1 n1 c1) its n1 E1 rfl ?_ (by omega) ?_; (first | with_reducible exact (unhide HX).later (unhide (C7.drewH (C7.allocH CV _))).bel | with_reducible exact (unhide HX).later (unhide (C7.drewH (C7.allocH (C7.allocH CV _) _))).bel | with_reducible exact (unhide HX).later (unhide CB).bel | with_reducible exact (unhide HX).later (unhide (C7.allocH CB _)).bel); intro b1 d1 w6 hO hG; (first | (with_reducible have CA := hide ((unhide (C7.drewH (C7.allocH CV _))).later hG); have OI := hide (hO.base (unhide (C7.drewH (C7.allocH CV _))).bel.size)) | (with_reducible have CA := hide ((unhide (C7.drewH (C7.allocH (C7.allocH CV _) _))).later hG); have OI := hide (hO.base (unhide (C7.drewH (C7.allocH (C7.allocH CV _) _))).bel.size)) | (with_reducible have CA := hide ((unhide CB).later hG); have OI := hide (hO.base (unhide CB).bel.size)) | (with_reducible have CA := hide ((unhide (C7.allocH CB _)).later hG); have OI := hide (hO.base (unhide (C7.allocH CB _)).bel.size))); (first | (with_reducible have OF := hide ((unhide OF).later hG)) | (with_reducible have OF := hide ((unhide OF).later (later_al7 hG))) | skip); have zA := (unhide CA).lt; obtain ⟨q0, q1, qf⟩ := blk_cells2 (unhide CA).k2; clear hO hG)
      | (refine step_cp7 encF_len (by omega) 79 30 i1 _ 16 Try.underlying30 gi gz0 gz1 gz2 rfl (by omega) _ rfl _ _ rfl _ rfl (.slice a2 n2 c2) fls n2 E2 rfl ?_ (by omega) ?_; (first | with_reducible exact (unhide HF).later (unhide (C7.drewH (C7.allocH CV _))).bel | with_reducible exact (unhide HF).later (unhide (C7.drewH (C7.allocH (C7.allocH CV _) _))).bel | with_reducible exact (unhide HF).later (unhide CA).bel | with_reducible exact (unhide HF).later (unhide (C7.allocH CA _)).bel); intro b2 d2 w7 hO hG; (first | (with_reducible have CB := hide ((unhide (C7.drewH (C7.allocH CV _))).later hG); have OF := hide (hO.base (unhide (C7.drewH (C7.allocH CV _))).bel.size)) | (with_reducible have CB := hide ((unhide (C7.drewH (C7.allocH (C7.allocH CV _) _))).later hG); have OF := hide (hO.base (unhide (C7.drewH (C7.allocH (C7.allocH CV _) _))).bel.size)) | (with_reducible have CB := hide ((unhide CA).later hG); have OF := hide (hO.base (unhide CA).bel.size)) | (with_reducible have CB := hide ((unhide (C7.allocH CA _)).later hG); have OF := hide (hO.base (unhide (C7.allocH CA _)).bel.size))); (first | (with_reducible have OI := hide ((unhide OI).later hG)) | (with_reducible have OI := hide ((unhide OI).later (later_al7 hG))) | skip); have zB := (unhide CB).lt; obtain ⟨q0, q1, qf⟩ := blk_cells2 (unhide CB).k2; clear hO hG))
  all_goals go_wp2
  all_goals first
    | exact bodyPost_ret (v := .agg #[.slice b1 n1 d1, .slice b2 n2 d2]) (by simp [results, Try.results55, go_sem, q0, q1]) rfl ⟨_, _, _, _, rfl, (unhide OI).other (unhide CA).k2 (by decide) (grownS w6 _ _ _), (unhide OF).other (unhide CA).k2 (by decide) (grownS w6 _ _ _), (kC7s CA _ _).1⟩
    | exact bodyPost_ret (v := .agg #[.slice b1 n1 d1, .slice b2 n2 d2]) (by simp [results, Try.results55, go_sem, q0, q1]) rfl ⟨_, _, _, _, rfl, (unhide OI).other (unhide CB).k2 (by decide) (grownS w7 _ _ _), (unhide OF).other (unhide CB).k2 (by decide) (grownS w7 _ _ _), (kC7s CB _ _).1⟩
end Go.Proofs.Ytijdmfakaompgaa

namespace Go.Proofs.Ytijdmfakaompgaa
open Go.RowKit

/-- append(dst, x) of one element that lies in a block of its own. -/
theorem step_app7 {P : Program} {α : Type} {enc : α → List Value} {k : Nat} (hk : ∀ x, (enc x).length = k) (h0 : 0 < k) {ops : Array Oper} {o : Oper} {a : Act} {K : Act → World → Prop} {Q : Exit → Act → World → Prop} {R : Prop}
    (E T : TypeId) (i : TypeInfo) (z : Value) (bytes : Nat) (ht : P.underlying T = some (.slice E)) (hi : P.info? E = some i) (hz : i.zero = some z) (hsize : i.size = k) (hby : i.bytes = bytes) (hzs : z.cells.size = k) (hb : bytes ≤ 1000)
    (w : World) (x : α) (h1 : ∀ u ∈ enc x, u.oneCell' = true) (hgd : o.guard = none) (s xo : Operand) (ho : o.op = .call { callee := .builtin .append, args := #[s, xo], argTypes := #[T, T] })
    (base : Nat) (v : Value) (xs : List α) (n : Nat) (hn : Hid (n = xs.length)) (hs : a.eval s = v) (hown : Ow enc k E base w v xs) (g : Nat) (hx : a.eval xo = .slice (some ⟨g, 0, none⟩) 1 1) (hg : w.heap[g]? = some (.cells (enc x).toArray E (0, 0))) (hlen : n ≤ 2000000) (hbase : base ≤ w.heap.size)
    (h : ∀ a' c' w', Ow enc k E base w' (.slice a' (n + 1) c') (xs ++ [x]) → w.grownBy w' v.ownBlock → K (a.put o.dst (.slice a' (n + 1) c')) w') :
    if Region.wanted o (yielded ops a.tmps) = true then Oper.wp P o a w K Q else R := by
  obtain rfl := unhide hn
  refine step_append_lies _ hgd s xo T ho base E i z k bytes ht hi hz hsize hby hzs h0 v xs.length (xs.flatMap enc) hs hown ⟨g, 0, none⟩ 1 1 (enc x) hx (by rw [hk]; omega) ?_ h1 (by omega) (by unfold maxLen; omega) ?_ hbase _ rfl ?_
  · intro j u hj
    rw [add_off, Nat.zero_add]
    simp only [World.cell?, hg]
    simpa using hj
  · have : (xs.length + 1) * bytes ≤ 2000001 * 1000 := Nat.mul_le_mul (by omega) hb
    omega
  · intro g' cap w' h2 h3 _ _
    have hO : Ow enc k E base w' (.slice (some ⟨g', 0, none⟩) (xs.length + 1) cap) (xs ++ [x]) := by
      unfold Ow
      rw [List.length_append, List.flatMap_append]
      simpa using h2
    exact h _ _ w' hO h3

/-- The inner rows of states of the call's own, or empty ones. -/
structure Wn (base : Nat) (w : World) (ps : List Two) (ss : List Sta) : Prop where
  len : ps.length = ss.length
  ins : ∀ (i : Nat) (p : Two) (s : Sta), ps[i]? = some p → ss[i]? = some s → Wk7I base w p.1 s.1 ∧ Wk7F base w p.2 s.2
theorem Wn.nil (base : Nat) (w : World) : Wn base w [] [] := ⟨rfl, fun i p s h => by simp at h⟩
theorem Wn.later {base : Nat} {w w' : World} {ps : List Two} {ss : List Sta} (h : Wn base w ps ss) (hb : Below w.heap.size w w') : Wn base w' ps ss := ⟨h.len, fun i p s hp hs => ⟨(h.ins i p s hp hs).1.later hb, (h.ins i p s hp hs).2.later hb⟩⟩
theorem Wn.rw {base : Nat} {w : World} {ps : List Two} {ss : List Sta} (h : Wn base w ps ss) : Ins w ps ss := ⟨h.len, fun i p s hp hs => ⟨(h.ins i p s hp hs).1.rw encI_len, (h.ins i p s hp hs).2.rw encF_len⟩⟩
theorem Wn.mono {base base' : Nat} {w : World} {ps : List Two} {ss : List Sta} (h : Wn base w ps ss) (hb : base' ≤ base) : Wn base' w ps ss := ⟨h.len, fun i p s hp hs => ⟨(h.ins i p s hp hs).1.base hb, (h.ins i p s hp hs).2.base hb⟩⟩
/-- A write into a block of states, or into a variable of type Log. -/
theorem Wk7.otherB {α : Type} {enc : α → List Value} {k : Nat} {E T : TypeId} {base : Nat} {w w' : World} {v : Value} {xs : List α} {b : Option Nat} (h : Wk7 enc k E base w v xs) (hb : ∀ g, b = some g → ∃ cs fz, w.heap[g]? = some (.cells cs T fz)) (hne : E ≠ T) (hg : w.grownBy w' b) : Wk7 enc k E base w' v xs := h.imp (fun h => h.otherT hb hne hg) id
theorem Wn.otherS {base : Nat} {w w' : World} {ps : List Two} {ss : List Sta} {b : Option Nat} (h : Wn base w ps ss) (hb : ∀ g, b = some g → ∃ cs fz, w.heap[g]? = some (.cells cs 32 fz)) (hg : w.grownBy w' b) : Wn base w' ps ss :=
  ⟨h.len, fun i p s hp hs => ⟨(h.ins i p s hp hs).1.otherB hb (by decide) hg, (h.ins i p s hp hs).2.otherB hb (by decide) hg⟩⟩
theorem Wn.otherL {base : Nat} {w w' : World} {ps : List Two} {ss : List Sta} {b : Option Nat} (h : Wn base w ps ss) (hb : ∀ g, b = some g → ∃ cs fz, w.heap[g]? = some (.cells cs 26 fz)) (hg : w.grownBy w' b) : Wn base w' ps ss :=
  ⟨h.len, fun i p s hp hs => ⟨(h.ins i p s hp hs).1.otherB hb (by decide) hg, (h.ins i p s hp hs).2.otherB hb (by decide) hg⟩⟩
theorem Wn.snoc {base : Nat} {w : World} {ps : List Two} {ss : List Sta} {p : Two} {s : Sta} (h : Wn base w ps ss) (h1 : Wk7I base w p.1 s.1) (h2 : Wk7F base w p.2 s.2) : Wn base w (ps ++ [p]) (ss ++ [s]) := by
  refine ⟨by simp [h.len], fun i q t hq ht => ?_⟩
  by_cases hi : i < ps.length
  · rw [List.getElem?_append_left hi] at hq
    rw [List.getElem?_append_left (by rw [← h.len]; exact hi)] at ht
    exact h.ins i q t hq ht
  · rw [List.getElem?_append_right (by omega)] at hq
    rw [List.getElem?_append_right (by rw [← h.len]; omega), ← h.len] at ht
    have e : i - ps.length = 0 := by
      have := (List.getElem?_eq_some_iff.1 hq).1
      simp at this; omega
    rw [e] at hq ht
    simp at hq ht
    subst hq ht
    exact ⟨h1, h2⟩
/-- A list of states of the call's own; what is in it may be empty rows that lie anywhere. -/
def OwW (base : Nat) (w : World) (v : Value) (ss : List Sta) : Prop := ∃ ps, OwV base w v ps ∧ Wn base w ps ss
theorem OwW.later {base : Nat} {w w' : World} {v : Value} {ss : List Sta} (h : OwW base w v ss) (hb : Below w.heap.size w w') : OwW base w' v ss := by
  obtain ⟨ps, h1, h2⟩ := h
  exact ⟨ps, h1.later hb, h2.later hb⟩
theorem OwW.rw {base : Nat} {w : World} {v : Value} {ss : List Sta} (h : OwW base w v ss) : RwS w v ss := by
  obtain ⟨ps, h1, h2⟩ := h
  exact ⟨ps, h1.rw encS_len, h2.rw⟩
theorem OwW.mono {base base' : Nat} {w : World} {v : Value} {ss : List Sta} (h : OwW base w v ss) (hb : base' ≤ base) : OwW base' w v ss := by
  obtain ⟨ps, h1, h2⟩ := h
  exact ⟨ps, h1.base hb, h2.mono hb⟩
theorem OwW.log {base : Nat} {w : World} {v : Value} {ss : List Sta} (h : OwW base w v ss) {g : Nat} {cs : Array Value} {fz : Nat × Nat} (hg : w.heap[g]? = some (.cells cs 26 fz)) (o : Nat) (u : Value) : OwW base (w.setCell ⟨g, o, none⟩ u) v ss := by
  obtain ⟨ps, h1, h2⟩ := h
  have hb : ∀ q, some g = some q → ∃ cs fz, w.heap[q]? = some (.cells cs 26 fz) := fun q e => by cases e; exact ⟨_, _, hg⟩
  exact ⟨ps, h1.otherT hb (by decide) (grown_set1 w g o u), h2.otherL hb (grown_set1 w g o u)⟩
theorem OwW.log3 {base : Nat} {w : World} {g : Nat} {c0 c1 c2 : Value} (h : w.heap[g]? = some (.cells #[c0, c1, c2] 26 (0, 0))) (v0 v1 v2 : Value) {v : Value} {ss : List Sta} (k : OwW base w v ss) :
    OwW base (((w.setCell ⟨g, 0, none⟩ v0).setCell ⟨g, 1, none⟩ v1).setCell ⟨g, 2, none⟩ v2) v ss :=
  ((k.log h 0 v0).log (heap_setCell_same _ _ _ _ _ _ h) 1 v1).log (heap_setCell_same _ _ _ _ _ _ (heap_setCell_same _ _ _ _ _ _ h)) 2 v2
theorem OwW.form {base : Nat} {w : World} {v : Value} {ss : List Sta} (h : OwW base w v ss) : ∃ a c, v = .slice a ss.length c := by
  obtain ⟨ps, h1, h2⟩ := h
  obtain ⟨a, c, e⟩ := Ow.form h1
  exact ⟨a, c, by rw [e, h2.len]⟩

/-- Behind append(out.List, x): what has stayed, what has come. -/
structure Ap7 (w W : World) (c f c0 f0 c2 f2 : Int) (va vr v u : Value) (ss : List Sta) : Prop where
  bel : Below w.heap.size w W
  k1 : W.heap[w.heap.size]? = some (LgO c f va)
  k2 : W.heap[w.heap.size + 1]? = some (LgO c0 f0 vr)
  k3 : W.heap[w.heap.size + 1 + 1]? = some (LgO c2 f2 v)
  z : w.heap.size + 1 + 1 < W.heap.size
  row : OwW (w.heap.size + 1 + 1) W u ss
theorem app7_facts {w w4 w6 : World} {c f c0 f0 c2 f2 : Int} {va vr v u : Value} {ps : List Two} {p : Two} {ss : List Sta} {s : Sta} {O : Obj}
    (k1 : w4.heap[w.heap.size]? = some (LgO c f va)) (k2 : w4.heap[w.heap.size + 1]? = some (LgO c0 f0 vr)) (k3 : w4.heap[w.heap.size + 1 + 1]? = some (LgO c2 f2 v)) (row : OwV (w.heap.size + 1 + 1) w4 v ps) (wn : Wn (w.heap.size + 1 + 1) w4 ps ss) (o5 : Wk7I (w.heap.size + 1 + 1) w4 p.1 s.1) (o6 : Wk7F (w.heap.size + 1 + 1) w4 p.2 s.2) (bel : Below w.heap.size w w4)
    (hO : OwV (w.heap.size + 1 + 1) w6 u (ps ++ [p])) (hG : (w4.alloc O).grownBy w6 v.ownBlock) : Ap7 w w6 c f c0 f0 c2 f2 va vr v u (ss ++ [s]) := by
  have al : Below w4.heap.size w4 (w4.alloc O) := (Below.refl _ _).alloc (Nat.le_refl _) O
  have row' := row.later al
  have hst := OwV.blk row'
  have keep : ∀ {g : Nat} {cc : Array Value} {fz : Nat × Nat}, w4.heap[g]? = some (.cells cc 26 fz) → w6.heap[g]? = some (.cells cc 26 fz) := fun {g cc fz} hk => by
    have hlt : g < w4.heap.size := (Array.getElem?_eq_some_iff.1 hk).1
    have hk' := (al.block _ hlt).trans hk
    refine (hG.block g (Nat.lt_of_lt_of_le hlt al.size) (fun e => ?_)).trans hk'
    exact own_ne row' hk' (by decide) e.symm
  have hz : w.heap.size + 1 + 1 < w4.heap.size := (Array.getElem?_eq_some_iff.1 k3).1
  refine ⟨?_, keep k1, keep k2, keep k3, Nat.lt_of_lt_of_le hz (Nat.le_trans al.size hG.size), ps ++ [p], hO, ?_⟩
  · exact (Trn.of_grown hG).below (bel.trans (al.mono bel.size)) (by simp; omega) (fun i q => by have := (World.ownsRow.lt row' _ q).1; omega)
  · exact ((wn.snoc o5 o6).later al).otherS hst hG

set_option maxHeartbeats 8000000 in
set_option maxRecDepth 100000 in
theorem l7copy_any (c f : Int) (a : Option Addr) (n cap : Nat) (ss : List Sta) (hz : ∀ (i : Nat) (s : Sta), ss[i]? = some s → s.1.length ≤ 1048576 ∧ s.2.length ≤ 1048576) (w : World) (hn : n ≤ 1999999) (hx : RwS w (.slice a n cap) ss) :
    Calls Try.prog 53 #[LgV c f (.slice a n cap)] w fun e w' => ∃ a' c', e = .returned (LgV c f (.slice a' n c')) ∧ OwW w.heap.size w' (.slice a' n c') ss ∧ Below w.heap.size w w' := by
  obtain ⟨i0, hi, hz0, hz1, hz2⟩ := info_parts Try.infoState
  have HX := hide hx
  have HL := hide hx.len.1
  have HZ := hide hz
  have HBV := hide (show Below w.heap.size w (((w.alloc (LgO c f (.slice a n cap))).alloc (LgO 0 0 (.slice none 0 0))).alloc (LgO c f (.slice none 0 0))) from (((Below.refl w.heap.size w).alloc (Nat.le_refl _) _).alloc (by simp) _).alloc (by simp; omega) _)
  clear hx hz
  go_enter Try.func53, Try.ntmps53
  go_wp2
  go_loopw [4] (fun i wr => ∃ (j : Nat) (v : Value), j ≤ n ∧ i = .int .i64 j ∧ Below w.heap.size w wr ∧ wr.heap[w.heap.size]? = some (LgO c f (.slice a n cap)) ∧ wr.heap[w.heap.size + 1]? = some (LgO 0 0 (.slice none 0 0)) ∧ wr.heap[w.heap.size + 1 + 1]? = some (LgO c f v) ∧ OwW (w.heap.size + 1 + 1) wr v (ss.take j)) (fun i _ => n - (intOf i).toNat)
  case atStart => exact ⟨0, .slice none 0 0, Nat.zero_le _, rfl, unhide HBV, lowB3 w _ _ _, midB3 w _ _ _, newB3 w _ _ _, [], World.ownsRow_nil _ _ _ _, Wn.nil _ _⟩
  case round =>
    obtain ⟨j, v, hj, rfl, hb, hk1, hk2, hk3, ho⟩ := hrel
    have hzg : w.heap.size + 1 + 1 < wr.heap.size := (Array.getElem?_eq_some_iff.1 hk3).1
    have hzr : w.heap.size + 1 < wr.heap.size := by omega
    have hzl : w.heap.size < wr.heap.size := by omega
    obtain ⟨s0, s1, s2, -⟩ := blk_cells3 hk1
    obtain ⟨g0, g1, g2, gf⟩ := blk_cells3 hk3
    by_cases hlt : j < n
    · obtain ⟨xs, fs, ai, ni, ci, af, nf, cf, b, off, hx, rfl, hbw, hcap, c0, c1, rx, rf⟩ := (unhide HX).at hlt
      have d0 := (hb.cell (p := ⟨b, off + j * 2, none⟩) hbw).trans c0
      have d1 := (hb.cell (p := ⟨b, off + j * 2 + 1, none⟩) hbw).trans c1
      obtain ⟨m1, m2⟩ := unhide HZ j _ hx
      have hn1 : ni ≤ 2000000 := by have := rx.len.1; simp only at m1; omega
      have hn2 : nf ≤ 2000000 := by have := rf.len.1; simp only at m2; omega
      have hbwr : b < wr.heap.size := Nat.lt_of_lt_of_le hbw hb.size
      have RX := hide (rx.later (hb.trans (((Below.refl wr.heap.size wr).drew).mono hb.size)))
      have RF := hide (rf.later (hb.trans (((Below.refl wr.heap.size wr).drew).mono hb.size)))
      obtain ⟨ps, hrow, hwn⟩ := ho
      obtain ⟨a9, c9, rfl⟩ := Ow.form hrow
      have hpl0 : ps.length = j := by rw [hwn.len]; simp; have := unhide HL; omega
      rw [hpl0] at hrow hk3 g2
      have hpl : Hid (j = ps.length) := hide hpl0.symm
      have HTK := hide (take_at hx)
      have HROW := hide hrow
      have HWN := hide hwn
      have HB := hide hb
      have HKL1 := hide hk1
      have HKR := hide hk2
      have HKG := hide hk3
      clear c0 c1 rx rf hx hb hk1 hk2 hk3 hrow hwn m1 m2 hpl0
      go_upto_region 5 with fail
      go_region_law (first
        | (go_simp; go_at_call 55; refine (l3copy7_any ai ni ci xs af nf cf fs _ hn1 hn2 (unhide RX) (unhide RF)).mono ?_; rintro e w4 ⟨b1, e1, b2, e2, rfl, o5, o6, b4⟩; have b4' : Below wr.heap.size wr w4 := up0 b4; have kg4 := (b4'.block _ hzg).trans (unhide HKG); obtain ⟨t0, t1, t2, tf⟩ := blk_cells3 kg4; have zg4 : w.heap.size + 1 + 1 < w4.heap.size := (Array.getElem?_eq_some_iff.1 kg4).1; have HKG4 := hide kg4; have HKR4 := hide ((b4'.block _ hzr).trans (unhide HKR)); have HKL4 := hide ((b4'.block _ hzl).trans (unhide HKL1)); have HB4 := hide ((unhide HB).trans (b4'.mono (unhide HB).size)); have O5 := hide (Wk7.base (base' := w.heap.size + 1 + 1) o5 (by show w.heap.size + 1 + 1 ≤ wr.heap.size; omega)); have O6 := hide (Wk7.base (base' := w.heap.size + 1 + 1) o6 (by show w.heap.size + 1 + 1 ≤ wr.heap.size; omega)); have HROW4 := hide ((unhide HROW).later b4'); have HWN4 := hide ((unhide HWN).later b4'); clear o5 o6 b4 b4' kg4)
        | (refine step_app7 encS_len (by omega) 32 24 i0 _ 48 Try.underlying24 hi hz0 hz1 hz2 rfl (by omega) (w4.alloc (.cells #[.slice b1 ni e1, .slice b2 nf e2] 32)) (.slice b1 ni e1, .slice b2 nf e2) (oneS _ rfl rfl) rfl _ _ rfl (w.heap.size + 1 + 1) (.slice a9 j c9) ps j hpl rfl ((unhide HROW4).later ((Below.refl _ _).alloc (Nat.le_refl _) _)) w4.heap.size rfl (heap_alloc_new w4 _) (by omega) (by simp; omega) ?_; intro a7 c7 w6 hO hG; have A7 := app7_facts (s := (xs, fs)) (unhide HKL4) (unhide HKR4) (unhide HKG4) (unhide HROW4) (unhide HWN4) (unhide O5) (unhide O6) (unhide HB4) hO hG; obtain ⟨m0, m1, m2, mf⟩ := blk_cells3 A7.k3; have z6 := A7.z; have HA7 := hide A7; clear hO hG A7))
      all_goals
        clear g0 g1 g2 gf t0 t1 t2 tf d0 d1 s0 s1 s2 HKG HKR HKL1 HB RX RF HROW HWN HROW4 HWN4 O5 O6 HKG4 HKR4 HKL4 HB4
        go_wp2
        go_roundw
        case rel => exact ⟨j + 1, .slice a7 (j + 1) c7, by omega, by go_num, (unhide HA7).bel.setCell (p := ⟨w.heap.size + 1 + 1, 2, none⟩) (by simp; omega) _, blk_at (unhide HA7).k1 (by omega), blk_at (unhide HA7).k2 (by omega), heap_setCell_same _ _ _ _ _ _ (unhide HA7).k3, by rw [unhide HTK]; exact (unhide HA7).row.log (unhide HA7).k3 2 _⟩
        case measure => simp [intOf]; omega
    · have hjn : j = n := by omega
      obtain ⟨p0, p1, p2, pf⟩ := blk_cells3 hk2
      have hT : ss.take j = ss := List.take_of_length_le (by have := unhide HL; omega)
      rw [hT] at ho
      obtain ⟨a9, c9, rfl⟩ := ho.form
      rw [← unhide HL] at ho g2 hk3
      have HO := hide ho
      have HB := hide hb
      have HKR := hide hk2
      clear hb hk1 hk2 hk3 ho hT
      go_wp2
      exact bodyPost_ret (v := LgV c f (.slice a9 n c9)) (by simp [results, Try.results53, go_sem, p0, p1, p2]) rfl ⟨a9, c9, rfl, OwW.mono (OwW.log3 (unhide HKR) _ _ _ (unhide HO)) (by omega), below_set3 (by omega) (unhide HB)⟩
end Go.Proofs.Ytijdmfakaompgaa

namespace Go.Proofs.Ytijdmfakaompgaa
open Go.RowKit

theorem wpList_cp7 {P : Program} {α : Type} {enc : α → List Value} {k : Nat} (hk : ∀ x, (enc x).length = k) (h0 : 0 < k) {ops : Array Oper} {rest : List Oper} {o : Oper} {a : Act} {Q : Exit → Act → World → Prop}
    (E T : TypeId) (i : TypeInfo) (z : Value) (bytes : Nat) (ht : P.underlying T = some (.slice E)) (hi : P.info? E = some i) (hz : i.zero = some z) (hsize : i.size = k) (hby : i.bytes = bytes) (hzs : z.cells.size = k) (hb : bytes ≤ 1000)
    (w : World) (hgd : o.guard = none) (s xo : Operand) (ho : o.op = .call { callee := .builtin .append, args := #[s, xo], argTypes := #[T, T] })
    (ad : Addr) (hs : a.eval s = .slice (some ad) 0 0) (u : Value) (ys : List α) (n : Nat) (hn : Hid (n = ys.length)) (hx : a.eval xo = u) (hu : Rw enc k w u ys) (hlen : n ≤ 2000000)
    (h : ∀ a' c' w', Wk7 enc k E w.heap.size w' (.slice a' n c') ys → Below w.heap.size w w' → wpList P ops Q rest (a.put o.dst (.slice a' n c')) w') :
    wpList P ops Q (o :: rest) a w := by
  obtain rfl := unhide hn
  refine wpList_plain hgd fun K hK => ?_
  by_cases hm : ys.length = 0
  · have hy : ys = [] := List.eq_nil_of_length_eq_zero hm
    obtain ⟨x, c, hu'⟩ : ∃ x c, u = .slice x 0 c := by
      obtain ⟨x, n, c, e, hn⟩ := hu.form
      exact ⟨x, c, by rw [e, hn, hm]⟩
    have hrun := run_cp7_none (P := P) (w := w) T o.type E i ht hi ad x c
    unfold Oper.wp
    simp [execOp, ho, resolve, invoke, builtin, hs, hx, hu', hrun, Result.andThen]
    have := h (some ad) 0 w (.inr ⟨hy, some ad, 0, by rw [hm]⟩) (Below.refl _ _)
    rw [hm] at this
    exact hK _ _ this
  · obtain ⟨x, cap, rfl, hcap, hr⟩ := hu
    have hu : Rw enc k w (.slice x ys.length cap) ys := ⟨x, cap, rfl, hcap, hr⟩
    rcases hr with hr | ⟨b, off, rfl, hb', hc⟩
    · rw [hr] at hm; exact absurd rfl hm
    · have hcells := hu.flat hk h0
      obtain ⟨v', w', hrun, r1, r2⟩ := run_append_arg_grows (P := P) w T o.type E i z k bytes ht hi hz hsize hby hzs h0 ad 0 0 [] (by simp) (fun j u hj => by simp at hj) ⟨b, off, none⟩ ys.length cap (ys.flatMap enc) (by rw [flat_len hk]) hcells (by omega) (by unfold maxLen; omega) (by
        have : (0 + ys.length) * bytes ≤ 2000000 * 1000 := Nat.mul_le_mul (by omega) hb
        omega)
      have hO : Ow enc k E w.heap.size w' v' ys := by
        unfold Ow
        simpa using r1
      obtain ⟨a', c', rfl⟩ := hO.form
      unfold Oper.wp
      simp [execOp, ho, resolve, invoke, builtin, hs, hx, hrun, Result.andThen]
      exact hK _ _ (h a' c' w' (.inl hO) ⟨r2.os, r2.tape, r2.output, r2.size, fun q hq => r2.block q hq (by simp)⟩)

theorem Rw.drop {α : Type} {enc : α → List Value} {k : Nat} {w : World} {a : Option Addr} {n cap j m c : Nat} {xs : List α} (h : Rw enc k w (.slice a n cap) xs) (hj : n = j + m) (h0 : ¬ m = 0) (hc : m ≤ c) : Rw enc k w (.slice (a.map fun x => x.add (j * k)) m c) (xs.drop j) := by
  have hl := h.len.1
  obtain ⟨a', cap', e, hcap, hr⟩ := h
  simp only [Value.slice.injEq] at e
  obtain ⟨rfl, -, rfl⟩ := e
  have hlm : (xs.drop j).length = m := by simp; omega
  rcases hr with rfl | ⟨b, off, rfl, hb, hcell⟩
  · simp at hl; omega
  · refine ⟨some ⟨b, off + j * k, none⟩, c, ?_, by omega, .inr ⟨b, off + j * k, rfl, hb, fun i x hx l hl => ?_⟩⟩
    · rw [hlm]; simp [add_off]
    · rw [List.getElem?_drop] at hx
      rw [show off + j * k + i * k + l = off + (j + i) * k + l by rw [Nat.add_mul]; omega]
      exact hcell (j + i) x hx l hl
theorem Wn.drop {base : Nat} {w : World} {ps : List Two} {ss : List Sta} (h : Wn base w ps ss) (k : Nat) : Wn base w (ps.drop k) (ss.drop k) :=
  ⟨by simp [h.len], fun i p s hp hs => by rw [List.getElem?_drop] at hp hs; exact h.ins (k + i) p s hp hs⟩
end Go.Proofs.Ytijdmfakaompgaa

namespace Go.Proofs.Ytijdmfakaompgaa
open Go.RowKit

theorem app_keep {w4 w6 : World} {O : Obj} {v : Value} (hG : (w4.alloc O).grownBy w6 v.ownBlock) {g : Nat} {x : Obj} (hk : w4.heap[g]? = some x) (hne : v.ownBlock ≠ some g) : w6.heap[g]? = some x := by
  have hlt : g < w4.heap.size := (Array.getElem?_eq_some_iff.1 hk).1
  exact (hG.block g (by simp; omega) (fun e => hne e.symm)).trans ((Below.heap_alloc _ _ _ hlt).trans hk)

def lar (c f : Int) (ss : List Sta) (d : Sta) : Bool := lok c f ss && okS d.1 d.2 && !(f + (ss.length : Int) == 100000)
def lad (r : Bool) (c f : Int) (ss : List Sta) (d : Sta) : Int × List Sta := if r = true then (if (ss.length : Int) = c then (f + 1, (ss ++ [d]).drop 1) else (f, ss ++ [d])) else (f, ss)

/-- While a change is added: both arguments' variables, the result's, the new log's. -/
structure La7 (w W : World) (c f c2 f2 : Int) (va v1 v2 : Value) (g : Nat) (v : Value) : Prop where
  bel : Below w.heap.size w W
  k1 : W.heap[w.heap.size]? = some (LgO c f va)
  k2 : W.heap[w.heap.size + 1]? = some (.cells #[v1, v2] 32 (0, 0))
  k3 : W.heap[w.heap.size + 1 + 1]? = some (LgO 0 0 (.slice none 0 0))
  kg : W.heap[g]? = some (LgO c2 f2 v)
theorem La7.later {w W Y : World} {c f c2 f2 : Int} {va v1 v2 : Value} {g : Nat} {v : Value} (h : La7 w W c f c2 f2 va v1 v2 g v) (b : Below W.heap.size W Y) : La7 w Y c f c2 f2 va v1 v2 g v :=
  ⟨h.bel.trans (b.mono h.bel.size), (b.block _ (Array.getElem?_eq_some_iff.1 h.k1).1).trans h.k1, (b.block _ (Array.getElem?_eq_some_iff.1 h.k2).1).trans h.k2, (b.block _ (Array.getElem?_eq_some_iff.1 h.k3).1).trans h.k3, (b.block _ (Array.getElem?_eq_some_iff.1 h.kg).1).trans h.kg⟩
theorem La7.lt {w W : World} {c f c2 f2 : Int} {va v1 v2 : Value} {g : Nat} {v : Value} (h : La7 w W c f c2 f2 va v1 v2 g v) : w.heap.size + 1 + 1 < W.heap.size ∧ g < W.heap.size := ⟨(Array.getElem?_eq_some_iff.1 h.k3).1, (Array.getElem?_eq_some_iff.1 h.kg).1⟩

/-- Behind append(out.List, x). -/
structure Ad7 (w W : World) (c2 f2 : Int) (g : Nat) (v u : Value) (ss : List Sta) : Prop where
  bel : Below w.heap.size w W
  k3 : W.heap[w.heap.size + 1 + 1]? = some (LgO 0 0 (.slice none 0 0))
  kg : W.heap[g]? = some (LgO c2 f2 v)
  row : OwW (w.heap.size + 1 + 1 + 1) W u ss
theorem Ad7.lt {w W : World} {c2 f2 : Int} {g : Nat} {v u : Value} {ss : List Sta} (h : Ad7 w W c2 f2 g v u ss) : w.heap.size + 1 + 1 < W.heap.size ∧ g < W.heap.size := ⟨(Array.getElem?_eq_some_iff.1 h.k3).1, (Array.getElem?_eq_some_iff.1 h.kg).1⟩
theorem add7_facts {w w4 w6 : World} {c f c2 f2 : Int} {va v1 v2 v u : Value} {g : Nat} {ps : List Two} {p : Two} {ss : List Sta} {s : Sta} {O : Obj} (h : La7 w w4 c f c2 f2 va v1 v2 g v) (_ : w.heap.size + 1 + 1 + 1 ≤ g) (row : OwV (w.heap.size + 1 + 1 + 1) w4 v ps) (wn : Wn (w.heap.size + 1 + 1 + 1) w4 ps ss) (o5 : Wk7I (w.heap.size + 1 + 1 + 1) w4 p.1 s.1) (o6 : Wk7F (w.heap.size + 1 + 1 + 1) w4 p.2 s.2)
    (hO : OwV (w.heap.size + 1 + 1 + 1) w6 u (ps ++ [p])) (hG : (w4.alloc O).grownBy w6 v.ownBlock) : Ad7 w w6 c2 f2 g v u (ss ++ [s]) := by
  have al : Below w4.heap.size w4 (w4.alloc O) := (Below.refl _ _).alloc (Nat.le_refl _) O
  have row' := row.later al
  refine ⟨?_, app_keep hG h.k3 (own_ne row h.k3 (by decide)), app_keep hG h.kg (own_ne row h.kg (by decide)), ps ++ [p], hO, ((wn.snoc o5 o6).later al).otherS (OwV.blk row') hG⟩
  have := h.lt
  exact (Trn.of_grown hG).below (h.bel.trans (al.mono h.bel.size)) (by simp; omega) (fun i q => by have := (World.ownsRow.lt row' _ q).1; omega)

set_option maxHeartbeats 8000000 in
set_option maxRecDepth 100000 in
theorem slogadd_any (c f : Int) (a : Option Addr) (n cap : Nat) (ss : List Sta) (ai : Option Addr) (ni ci : Nat) (xs : List Itm) (af : Option Addr) (nf cf : Nat) (fs : List Flr) (r : Bool) (h0 : Hid (lar c f ss (xs, fs) = r)) (f1 : Int) (ss1 : List Sta) (h1 : Hid (lad r c f ss (xs, fs) = (f1, ss1))) (m : Nat) (hm : Hid (m = ss1.length)) (w : World) (hn : n ≤ 1048576) (ht : tot ss ≤ 1048576) (hni : ni ≤ 1048576) (hnf : nf ≤ 1048576) (hx : RwS w (.slice a n cap) ss) (hd : Rw encI 6 w (.slice ai ni ci) xs) (he : Rw encF 2 w (.slice af nf cf) fs) :
    Calls Try.prog 20 #[LgV c f (.slice a n cap), .agg #[.slice ai ni ci, .slice af nf cf]] w fun e w' => ∃ a' c', e = .returned (.tuple #[LgV c f1 (.slice a' m c'), .bool r]) ∧ OwW w.heap.size w' (.slice a' m c') ss1 ∧ Below w.heap.size w w' := by
  obtain ⟨i0, hi, hz0, hz1, hz2⟩ := info_parts Try.infoState
  have HX := hide hx
  have HL := hide hx.len.1
  have HD := hide hd
  have HE := hide he
  obtain ⟨ok, hok⟩ : ∃ ok, lok c f ss = ok := ⟨_, rfl⟩
  obtain ⟨q, hq⟩ : ∃ q, okS xs fs = q := ⟨_, rfl⟩
  obtain ⟨b3, d3⟩ : ∃ b, (f + (n : Int) == 100000) = b := ⟨_, rfl⟩
  have hE := unhide h0
  rw [lar, hok, hq, ← unhide HL, d3] at hE
  have HOK := hide hok
  have HQ := hide hq
  have HV := hide (show Below w.heap.size w (((w.alloc (LgO c f (.slice a n cap))).alloc (.cells #[.slice ai ni ci, .slice af nf cf] 32)).alloc (LgO 0 0 (.slice none 0 0))) from (((Below.refl w.heap.size w).alloc (Nat.le_refl _) _).alloc (by simp) _).alloc (by simp; omega) _)
  clear hx hd he hok hq h0
  go_enter Try.func20, Try.ntmps20
  go_wp2_with fail
  refine (l7copy_any c f a n cap ss (SzS.tot ht) _ (by omega) ((unhide HX).later (unhide HV))).mono ?_
  rintro e w1 ⟨a1, c1, rfl, o1, b1⟩
  obtain ⟨B1, k1, k2, k3, z1⟩ := kept3 b1
  have C1 : Hid (La7 w (w1.alloc (LgO c f (.slice a1 n c1))) c f c f (.slice a n cap) (.slice ai ni ci) (.slice af nf cf) w1.heap.size (.slice a1 n c1)) := hide ⟨B1.alloc B1.size _, (Below.heap_alloc _ _ _ (by omega)).trans k1, (Below.heap_alloc _ _ _ (by omega)).trans k2, (Below.heap_alloc _ _ _ z1).trans k3, heap_alloc_new _ _⟩
  have O1 := hide ((o1.mono (base' := w.heap.size + 1 + 1 + 1) (by simp)).later ((Below.refl w1.heap.size w1).alloc (Nat.le_refl _) (LgO c f (.slice a1 n c1))))
  have hgb : w.heap.size + 1 + 1 + 1 ≤ w1.heap.size := by omega
  obtain ⟨p0, p1, p2, pf⟩ := blk_cells3 k1
  have zl : w.heap.size < w1.heap.size := by omega
  clear o1 b1 B1 k1 k2 k3 HV
  go_wp2_with fail
  refine (slogok_any c f a n cap ss ok HOK _ (by omega) (by omega) ((unhide HX).later (unhide C1).bel)).mono ?_
  rintro e w2 ⟨rfl, b2⟩
  have C2 := hide ((unhide C1).later b2)
  have O2 := hide ((unhide O1).later b2)
  clear b2 C1 O1 p0 p1 p2 pf
  cases ok
  · obtain rfl : r = false := by rw [← hE]; rfl
    obtain ⟨rfl, rfl⟩ : f1 = f ∧ ss1 = ss := by have h := unhide h1; simp [lad] at h; exact ⟨h.1.symm, h.2.symm⟩
    obtain rfl : m = n := by rw [unhide hm, unhide HL]
    obtain ⟨q0, q1, q2, qf⟩ := blk_cells3 (unhide C2).k3
    obtain ⟨j0, j1, j2, jf⟩ := blk_cells3 (unhide C2).kg
    obtain ⟨zr, zg⟩ := (unhide C2).lt
    go_wp2
    exact bodyPost_ret (v := .tuple #[LgV c f1 (.slice a1 m c1), .bool false]) (by simp [results, Try.results20, go_sem, q0, q1, q2]) rfl ⟨a1, c1, rfl, OwW.mono (OwW.log3 (unhide C2).k3 _ _ _ (unhide O2)) (by omega), below_set3 (by omega) (unhide C2).bel⟩
  obtain ⟨⟨c1', c2'⟩, cn, ⟨f1', f2'⟩, fn, hokL⟩ := lok_iff.1 (unhide HOK)
  have cn' : (n : Int) ≤ c := by rw [unhide HL]; exact cn
  clear cn fn hokL
  obtain ⟨p0, p1, p2, pf⟩ := blk_cells3 (unhide C2).k1
  obtain ⟨s0, s1, sf⟩ := blk_cells2 (unhide C2).k2
  obtain ⟨zr2, zg2⟩ := (unhide C2).lt
  have zl2 : w.heap.size < w2.heap.size := by omega
  have zd2 : w.heap.size + 1 < w2.heap.size := by omega
  go_wp2_with fail
  refine (sstateok_any ai ni ci xs af nf cf fs q HQ _ (by omega) (by omega) ((unhide HD).later (unhide C2).bel) ((unhide HE).later (unhide C2).bel)).mono ?_
  rintro e w3 ⟨rfl, b3'⟩
  have C3 := hide ((unhide C2).later b3')
  have O3 := hide ((unhide O2).later b3')
  clear b3' C2 O2 p0 p1 p2 pf s0 s1 sf
  cases q
  · obtain rfl : r = false := by rw [← hE]; rfl
    obtain ⟨rfl, rfl⟩ : f1 = f ∧ ss1 = ss := by have h := unhide h1; simp [lad] at h; exact ⟨h.1.symm, h.2.symm⟩
    obtain rfl : m = n := by rw [unhide hm, unhide HL]
    obtain ⟨q0, q1, q2, qf⟩ := blk_cells3 (unhide C3).k3
    obtain ⟨j0, j1, j2, jf⟩ := blk_cells3 (unhide C3).kg
    obtain ⟨zr, zg⟩ := (unhide C3).lt
    go_wp2
    exact bodyPost_ret (v := .tuple #[LgV c f1 (.slice a1 m c1), .bool false]) (by simp [results, Try.results20, go_sem, q0, q1, q2]) rfl ⟨a1, c1, rfl, OwW.mono (OwW.log3 (unhide C3).k3 _ _ _ (unhide O3)) (by omega), below_set3 (by omega) (unhide C3).bel⟩
  obtain ⟨p0, p1, p2, pf⟩ := blk_cells3 (unhide C3).k1
  obtain ⟨zr3, zg3⟩ := (unhide C3).lt
  have zl3 : w.heap.size < w3.heap.size := by omega
  have zd3 : w.heap.size + 1 < w3.heap.size := by omega
  cases b3
  · obtain rfl : r = true := by rw [← hE]; rfl
    obtain ⟨s0, s1, sf⟩ := blk_cells2 (unhide C3).k2
    obtain ⟨j0, j1, j2, jf⟩ := blk_cells3 (unhide C3).kg
    generalize hg : w1.heap.size = g at *
    obtain ⟨ps, hrow, hwn⟩ := unhide O3
    have hpl : Hid (n = ps.length) := hide (by rw [hwn.len]; exact unhide HL)
    have HROW := hide hrow
    have HWN := hide hwn
    have RX := hide (((unhide HD).later (unhide C3).bel).later ((Below.refl _ _).drew))
    have RF := hide (((unhide HE).later (unhide C3).bel).later ((Below.refl _ _).drew))
    clear hrow hwn O3 hE
    go_upto_region 4 with fail
    go_region_law (first
      | (go_simp; go_at_call 55; refine (l3copy7_any ai ni ci xs af nf cf fs _ (by omega) (by omega) (unhide RX) (unhide RF)).mono ?_; rintro e w4 ⟨b1, e1, b2, e2, rfl, o5, o6, b4⟩; have b4' : Below w3.heap.size w3 w4 := up0 b4; have C4 := hide ((unhide C3).later b4'); obtain ⟨t0, t1, t2, tf⟩ := blk_cells3 (unhide C4).kg; obtain ⟨zr4, zg4⟩ := (unhide C4).lt; have O5 := hide (Wk7.base (base' := w.heap.size + 1 + 1 + 1) o5 (by show w.heap.size + 1 + 1 + 1 ≤ w3.heap.size; omega)); have O6 := hide (Wk7.base (base' := w.heap.size + 1 + 1 + 1) o6 (by show w.heap.size + 1 + 1 + 1 ≤ w3.heap.size; omega)); have HROW4 := hide ((unhide HROW).later b4'); have HWN4 := hide ((unhide HWN).later b4'); clear o5 o6 b4 b4')
      | (refine step_app7 encS_len (by omega) 32 24 i0 _ 48 Try.underlying24 hi hz0 hz1 hz2 rfl (by omega) (w4.alloc (.cells #[.slice b1 ni e1, .slice b2 nf e2] 32)) (.slice b1 ni e1, .slice b2 nf e2) (oneS _ rfl rfl) rfl _ _ rfl (w.heap.size + 1 + 1 + 1) (.slice a1 n c1) ps n hpl rfl ((unhide HROW4).later ((Below.refl _ _).alloc (Nat.le_refl _) _)) w4.heap.size rfl (heap_alloc_new w4 _) (by omega) (by simp; omega) ?_; intro a7 c7 w6 hO hG; have A7 := add7_facts (s := (xs, fs)) (unhide C4) hgb (unhide HROW4) (unhide HWN4) (unhide O5) (unhide O6) hO hG; obtain ⟨m0, m1, m2, mf⟩ := blk_cells3 A7.kg; have z6 := A7.lt; have HA7 := hide A7; clear hO hG A7))
    all_goals
      clear t0 t1 t2 tf s0 s1 sf j0 j1 j2 jf p0 p1 p2 pf RX RF HROW HWN HROW4 HWN4 O5 O6 C3 C4
      obtain ⟨zr6, zg6⟩ := z6
      obtain ⟨X, hX⟩ : ∃ X, X = w6.setCell ⟨g, 2, none⟩ (.slice a7 (n + 1) c7) := ⟨_, rfl⟩
      have bX : Below w.heap.size w X := by rw [hX]; exact (unhide HA7).bel.setCell (p := ⟨g, 2, none⟩) (by simp; omega) _
      have kX : X.heap[w.heap.size + 1 + 1]? = some (LgO 0 0 (.slice none 0 0)) := by rw [hX]; exact blk_at (unhide HA7).k3 (by omega)
      have kgX : X.heap[g]? = some (LgO c f (.slice a7 (n + 1) c7)) := by rw [hX]; exact heap_setCell_same _ _ _ _ _ _ (unhide HA7).kg
      have OX : OwW (w.heap.size + 1 + 1 + 1) X (.slice a7 (n + 1) c7) (ss ++ [(xs, fs)]) := by rw [hX]; exact (unhide HA7).row.log (unhide HA7).kg 2 _
      rw [← hX]
      obtain ⟨q0, q1, q2, qf⟩ := blk_cells3 kX
      obtain ⟨j0, j1, j2, jf⟩ := blk_cells3 kgX
      have zrX : w.heap.size + 1 + 1 < X.heap.size := (Array.getElem?_eq_some_iff.1 kX).1
      have zgX : g < X.heap.size := (Array.getElem?_eq_some_iff.1 kgX).1
      have BX := hide bX
      have KX := hide kX
      have KGX := hide kgX
      have HOX := hide OX
      clear hX bX kX kgX OX HA7 m0 m1 m2 mf
      by_cases hnc : (n : Int) = c
      · have hd5 : decide ((n : Int) + 1 > c) = true := by simp; omega
        simp only [gt_iff_lt] at hd5
        obtain ⟨rfl, rfl⟩ : f1 = f + 1 ∧ ss1 = (ss ++ [(xs, fs)]).drop 1 := by have h := unhide h1; rw [lad, if_pos rfl, if_pos (by rw [← unhide HL]; exact hnc)] at h; simp only [Prod.mk.injEq] at h; exact ⟨h.1.symm, h.2.symm⟩
        obtain rfl : m = n := by rw [unhide hm, unhide HL]; simp
        obtain ⟨ps', hrow', hwn'⟩ := unhide HOX
        have hcc := (Ow.rw encS_len hrow').len.2
        have hc7 : ¬ c7 = 1 := by omega
        have hpl' : Hid (m = (ps'.drop 1).length) := hide (by have := (Ow.rw encS_len hrow').len.1; simp; omega)
        have RD : Hid (Rw encS 2 (X.alloc (.cells #[] 32)) (.slice (a7.map fun x => x.add 2) m (c7 - 1)) (ps'.drop 1)) := hide (((Ow.rw encS_len hrow').drop (j := 1) (m := m) (c := c7 - 1) (by omega) (by omega) (by omega)).alloc _)
        have HW' := hide (hwn'.drop 1)
        have hm1 : 1 ≤ m := by omega
        have HNC := hide hnc
        clear hrow' hwn' hnc hcc HOX
        go_wp2_with (first | (at_builtin; refine wpList_cp7 encS_len (by omega) 32 24 i0 _ 48 Try.underlying24 hi hz0 hz1 hz2 rfl (by omega) (X.alloc (.cells #[] 32)) rfl _ _ rfl _ rfl _ (ps'.drop 1) m hpl' rfl (unhide RD) (by omega) ?_; intro a8 c8 w8 hO8 hB8; have O8 := hide hO8; have B8 := hide (later_al7 hB8); clear hO8 hB8; obtain ⟨q0', q1', q2', qf'⟩ := blk_cells3 (((unhide B8).block _ zrX).trans (unhide KX)); obtain ⟨j0', j1', j2', jf'⟩ := blk_cells3 (((unhide B8).block _ zgX).trans (unhide KGX)); have z8 := (unhide B8).size; have zr8 : w.heap.size + 1 + 1 < w8.heap.size := (by omega); have zg8 : g < w8.heap.size := (by omega)))
        have kg8 := ((unhide B8).block _ zgX).trans (unhide KGX)
        have k38 := ((unhide B8).block _ zrX).trans (unhide KX)
        have row8 : OwV (w.heap.size + 1 + 1 + 1) w8 (.slice a8 m c8) (ps'.drop 1) := by
          rcases unhide O8 with h | ⟨h, -⟩
          · exact h.base (by simp; omega)
          · have := unhide hpl'; rw [h] at this; simp at this; omega
        have ow8 : OwW (w.heap.size + 1 + 1 + 1) w8 (.slice a8 m c8) ((ss ++ [(xs, fs)]).drop 1) := ⟨_, row8, (unhide HW').later (unhide B8)⟩
        obtain ⟨Z, hZ⟩ : ∃ Z, Z = (w8.setCell ⟨g, 2, none⟩ (.slice a8 m c8)).setCell ⟨g, 1, none⟩ (.int .i64 (f + 1)) := ⟨_, rfl⟩
        have kZ : Z.heap[w.heap.size + 1 + 1]? = some (LgO 0 0 (.slice none 0 0)) := by rw [hZ]; exact blk_at (blk_at k38 (by omega)) (by omega)
        have oZ : OwW (w.heap.size + 1 + 1 + 1) Z (.slice a8 m c8) ((ss ++ [(xs, fs)]).drop 1) := by rw [hZ]; exact (ow8.log kg8 2 _).log (heap_setCell_same _ _ _ _ _ _ kg8) 1 _
        have bZ : Below w.heap.size w Z := by rw [hZ]; exact (((unhide BX).trans ((unhide B8).mono (unhide BX).size)).setCell (p := ⟨g, 2, none⟩) (by simp; omega) _).setCell (p := ⟨g, 1, none⟩) (by simp; omega) _
        rw [← hZ]
        obtain ⟨y0, y1, y2, yf⟩ := blk_cells3 kZ
        exact bodyPost_ret (v := .tuple #[LgV c (f + 1) (.slice a8 m c8), .bool true]) (by simp [results, Try.results20, go_sem, y0, y1, y2]) rfl ⟨a8, c8, rfl, OwW.mono (OwW.log3 kZ _ _ _ oZ) (by omega), below_set3 (by omega) bZ⟩
      · have hd5 : decide ((n : Int) + 1 > c) = false := by simp; omega
        simp only [gt_iff_lt] at hd5
        obtain ⟨rfl, rfl⟩ : f1 = f ∧ ss1 = ss ++ [(xs, fs)] := by have h := unhide h1; rw [lad, if_pos rfl, if_neg (by rw [← unhide HL]; exact hnc)] at h; simp at h; exact ⟨h.1.symm, h.2.symm⟩
        obtain rfl : m = n + 1 := by rw [unhide hm, unhide HL]; simp
        go_wp2
        exact bodyPost_ret (v := .tuple #[LgV c f1 (.slice a7 (n + 1) c7), .bool true]) (by simp [results, Try.results20, go_sem, q0, q1, q2]) rfl ⟨a7, c7, rfl, OwW.mono (OwW.log3 (unhide KX) _ _ _ (unhide HOX)) (by omega), below_set3 (by omega) (unhide BX)⟩
  · obtain rfl : r = false := by rw [← hE]; rfl
    obtain ⟨rfl, rfl⟩ : f1 = f ∧ ss1 = ss := by have h := unhide h1; simp [lad] at h; exact ⟨h.1.symm, h.2.symm⟩
    obtain rfl : m = n := by rw [unhide hm, unhide HL]
    obtain ⟨q0, q1, q2, qf⟩ := blk_cells3 (unhide C3).k3
    obtain ⟨j0, j1, j2, jf⟩ := blk_cells3 (unhide C3).kg
    obtain ⟨zr, zg⟩ := (unhide C3).lt
    go_wp2
    exact bodyPost_ret (v := .tuple #[LgV c f1 (.slice a1 m c1), .bool false]) (by simp [results, Try.results20, go_sem, q0, q1, q2]) rfl ⟨a1, c1, rfl, OwW.mono (OwW.log3 (unhide C3).k3 _ _ _ (unhide O3)) (by omega), below_set3 (by omega) (unhide C3).bel⟩
end Go.Proofs.Ytijdmfakaompgaa
