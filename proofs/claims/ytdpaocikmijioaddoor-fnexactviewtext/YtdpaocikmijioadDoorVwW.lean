/-
  View of the program: who is up, collected. No statement is proved here.
-/
import Derived.Test.YtdpaocikmijioadDoorVwI
namespace Go.Proofs.YtdpaocikmijioadDoor
open Go.RowKit Go.Shelf

attribute [local go_sem] Oper.semAt_some

theorem wpListIn_app1 {F : Fence} {m : Nat} {P : Program} {α : Type} {enc : α → List Value} {k : Nat} (hk : ∀ x, (enc x).length = k) (h0 : 0 < k) (h1 : ∀ x, ∀ u ∈ enc x, u.oneCell' = true) {ops : Array Oper} {rest : List Oper} {o : Oper} {a : Act} {Q : Exit → Act → World → Prop}
    (E T : TypeId) (i : TypeInfo) (z : Value) (bytes : Nat) (ht : P.underlying T = some (.slice E)) (hi : P.info? E = some i) (hz : i.zero = some z) (hsize : i.size = k) (hby : i.bytes = bytes) (hzs : z.cells.size = k) (hb : bytes ≤ 1000)
    (w : World) (x : α) (hgd : o.guard = none) (s xo : Operand) (ho : o.op = .call { callee := .builtin .append, args := #[s, xo], argTypes := #[T, T] })
    (base : Nat) (v : Value) (xs : List α) (n : Nat) (hn : Hid (n = xs.length)) (hs : a.eval s = v) (hown : Ow enc k E base w v xs) (hx : a.eval xo = .slice (some ⟨w.heap.size, 0, none⟩) 1 1) (hlen : n ≤ 2000000) (hbase : base ≤ w.heap.size)
    (h : ∀ a' c' w', Ow enc k E base w' (.slice a' (n + 1) c') (xs ++ [x]) → w.grownBy w' v.ownBlock → wpListIn F m P ops Q rest (a.put o.dst (.slice a' (n + 1) c')) w') :
    wpListIn F m P ops Q (o :: rest) a (w.alloc (.cells (enc x).toArray E)) := by
  obtain rfl := unhide hn
  refine wpListIn_append_own _ hgd s xo T ho base E i z k bytes ht hi hz hsize hby hzs h0 v xs.length (xs.flatMap enc) hs (World.ownsRow.alloc hown _) ⟨w.heap.size, 0, none⟩ 1 1 (enc x) hx (by rw [hk]; omega) ?_ (h1 x) (by unfold maxLen; omega) ?_ (by simp; omega) ?_
  · intro j u hj
    have e : (⟨w.heap.size, 0, none⟩ : Addr).add j = ⟨w.heap.size, j, none⟩ := by unfold Addr.add; split <;> simp_all
    rw [e]
    have : (w.alloc (.cells (enc x).toArray E)).heap[w.heap.size]? = some (.cells (enc x).toArray E (0, 0)) := heap_alloc_new w _
    simp only [World.cell?, this]
    simpa using hj
  · have : (xs.length + 1) * bytes ≤ 2000001 * 1000 := Nat.mul_le_mul (by omega) hb
    omega
  · intro v' w' h2 h3 _
    have hO : Ow enc k E base w' v' (xs ++ [x]) := by
      unfold Ow
      rw [List.length_append, List.flatMap_append]
      simpa using h2
    obtain ⟨a', c', rfl⟩ := hO.form
    rw [List.length_append] at hO ⊢
    exact h a' c' w' hO (by
      have g0 := World.grownBy_alloc w (.cells (enc x).toArray E) v.ownBlock
      exact ⟨h3.os.trans g0.os, h3.tape.trans g0.tape, h3.output.trans g0.output, Nat.le_trans g0.size h3.size, fun i hi hne => (h3.block i (Nat.lt_of_lt_of_le hi g0.size) hne).trans (g0.block i hi hne)⟩)

/-- While items are collected: the variable that holds them. -/
structure CO (w W : World) (pre : List Itm) (a : Option Addr) (m c : Nat) : Prop where
  bel : Below w.heap.size w W
  box : W.heap[w.heap.size]? = some (.cells #[.slice a m c] 28 (0, 0))
  own : OwI w.heap.size W (.slice a m c) pre
theorem CO.lt {w W : World} {pre : List Itm} {a : Option Addr} {m c : Nat} (h : CO w W pre a m c) : w.heap.size < W.heap.size := (Array.getElem?_eq_some_iff.1 h.box).1
theorem CO.kept {w X Y : World} {pre : List Itm} {a : Option Addr} {m c : Nat} {row : Option Nat} (h : CO w X pre a m c) (hg : X.grownBy Y row) (hr : ∀ r, row = some r → w.heap.size < r ∧ ∃ o : Obj, X.heap[r]? = some o ∧ o.isCells = false) : CO w Y pre a m c := by
  refine ⟨h.bel.grown hg h.bel.size (fun r e => by have := (hr r e).1; omega), (hg.block _ h.lt (fun e => by have := (hr _ e.symm).1; omega)).trans h.box, World.ownsRow.kept h.own hg ?_⟩
  rcases h.own.2 with ⟨q, _⟩ | ⟨g, cap, cur, q, _, hgb, _⟩
  · rw [q]; exact .inl rfl
  · rw [q]
    refine .inr fun e' => ?_
    obtain ⟨_, o, ho, hc⟩ := hr g (by simpa [Value.ownBlock] using e'.symm)
    rw [hgb] at ho; cases ho; cases hc
theorem CO.alloc {w W : World} {pre : List Itm} {a : Option Addr} {m c : Nat} (h : CO w W pre a m c) (o : Obj) : CO w (W.alloc o) pre a m c := h.kept (World.grownBy_alloc W o none) (fun r e => by cases e)
theorem CO.app {w X Y : World} {pre pre' : List Itm} {a : Option Addr} {m c : Nat} (h : CO w X pre a m c) {a' : Option Addr} {m' c' : Nat} (ho : OwI w.heap.size Y (.slice a' m' c') pre') (hg : X.grownBy Y (Value.slice a m c).ownBlock) :
    CO w (Y.setCell ⟨w.heap.size, 0, none⟩ (.slice a' m' c')) pre' a' m' c' := by
  have hne := own_ne h.own h.box (by decide)
  have hb : Y.heap[w.heap.size]? = some (.cells #[.slice a m c] 28 (0, 0)) := (hg.block _ h.lt (fun q => hne q.symm)).trans h.box
  have hbl : Below w.heap.size w Y := h.bel.grown hg h.bel.size (fun r e => (World.ownsRow.lt h.own r e).1)
  refine ⟨hbl.setCell (p := ⟨w.heap.size, 0, none⟩) (Nat.le_refl _) _, heap_setCell_same _ w.heap.size 0 #[.slice a m c] _ _ hb, World.ownsRow.kept ho (grownBy_setCell' Y _ _) (.inr (own_ne ho hb (by decide)))⟩

set_option maxRecDepth 100000 in
set_option maxHeartbeats 4000000 in
/-- What a function that is ranged over tells, collected: whatever function tells it, so it tells no more than five. -/
theorem iappend_any (wS w0 : World) (gf : Nat) (lb : Array Value) (eg : ∀ args w, (callFunc gf args).run Tryd.prog w = .ok (.enter gf args) w) (ys : List Itm) (n1 : Nat) (hn1 : Hid (ys.length = n1)) (hseq : SeqStopsK Fence.wide 9 Tryd.prog gf lb (fun x : Itm => #[.agg #[.int .i64 x.1, .int .i64 x.2.1, .int .i64 x.2.2.1, .int .i64 x.2.2.2.1, .int .i64 x.2.2.2.2.1, .string x.2.2.2.2.2]]) (Below wS.heap.size) (fun zs => zs = ys) (fun pre => pre <+: ys) 5 w0)
    (w : World) (hS : wS.heap.size ≤ w.heap.size) (hb0 : Below w0.heap.size w0 w) :
    Calls Tryd.prog 43 #[.slice none 0 0, .func (.func gf) #[] lb] w fun e w' => ∃ a c, e = .returned (.slice a n1 c) ∧ OwI w.heap.size w' (.slice a n1 c) ys ∧ Below w.heap.size w w' := by
  obtain ⟨i0, hi, hz0, hz1, hz2⟩ := info_parts Tryd.infoItem
  refine (callsIn_wide (n := 10)).1 ?_
  refine callsIn_of_wp_marks Tryd.func43 rfl trivial ?_ rfl
  simp only [Tryd.ntmps43, List.size_toArray, List.length_cons, List.length_nil, Nat.reduceAdd, Nat.reduceSub, Array.replicate_succ, Array.replicate_zero, List.push_toArray, List.append_toArray, List.nil_append, List.cons_append]
  gi_wp2
  obtain ⟨V, hV⟩ : ∃ V, V = w.alloc (.cells #[.slice none 0 0] 28) := ⟨_, rfl⟩
  have CV : CO w V [] none 0 0 := by rw [hV]; exact ⟨(Below.refl _ _).alloc (Nat.le_refl _) _, heap_alloc_new w _, World.ownsRow_nil _ _ _ _⟩
  have sV : V.heap.size = w.heap.size + 1 := by rw [hV]; simp
  have bV : Below w0.heap.size w0 V := by rw [hV]; exact hb0.alloc hb0.size _
  rw [← hV]
  clear hV
  refine wpIn_rangeFunc_ownH rfl (by omega) (gf := gf) (lb := lb) rfl trivial eg hseq belowK_t (belowK_b (by omega)) bV (fun _ => rfl)
    (fun pre W => ∃ a m c, CO w W pre a m c)
    (fun _ _ _ => False)
    (fun s X Y row h hg hr => by obtain ⟨a, m, c, h⟩ := h; exact ⟨a, m, c, h.kept hg (fun r e => ⟨by have := (hr r e).1; omega, (hr r e).2⟩)⟩)
    (fun _ _ _ _ _ h _ _ => h)
    ⟨_, _, _, CV⟩
    (fun x a' W => ∃ Bx, w.heap.size < Bx ∧ W.heap[Bx]? = some (.cells #[.int .i64 x.1, .int .i64 x.2.1, .int .i64 x.2.2.1, .int .i64 x.2.2.2.1, .int .i64 x.2.2.2.2.1, .string x.2.2.2.2.2] 50 (0, 0)) ∧ a' = { tmps := #[.slice none 0 0, .func (.func gf) #[] lb, .pointer (some ⟨w.heap.size, 0, none⟩), undef, .slice none 0 0, .pointer (some ⟨Bx, 0, none⟩), .func (.func gf) #[] lb, .agg #[.int .i64 x.1, .int .i64 x.2.1, .int .i64 x.2.2.1, .int .i64 x.2.2.2.1, .int .i64 x.2.2.2.2.1, .string x.2.2.2.2.2], undef, undef, undef, undef, undef], defers := [] })
    (fun x a' _ X Y row h hg hr => by
      obtain ⟨Bx, h1, h2, h3⟩ := h
      refine ⟨Bx, h1, (hg.block Bx (Array.getElem?_eq_some_iff.1 h2).1 (fun e => ?_)).trans h2, h3⟩
      obtain ⟨_, o, ho, hc⟩ := hr Bx e.symm
      rw [h2] at ho; cases ho; cases hc)
    ?assign ?body ?done ?stop
  case assign =>
    rintro l pre x W K ⟨a, m, c, hi'⟩ hK
    have hl := hi'.lt
    have hls := hi'.bel.size
    gi_wp2
    exact hK _ _ ((KeepsOthers.alloc _ _).from _) ((Below.refl _ W).alloc (by omega) _) ⟨a, m, c, hi'.alloc _⟩ ⟨W.heap.size, by omega, heap_alloc_new _ _, rfl⟩
  case body =>
    rintro l pre x a' W _ _ ⟨a, m, c, hco⟩ ⟨Bx, hBx, bX, rfl⟩ hlt
    have HC := hide hco
    obtain ⟨x0, x1, x2, x3, x4, x5, -⟩ := blk_cells6 bX
    have c0 : W.cell? ⟨w.heap.size, 0, none⟩ = some (.slice a m c) := by simp [World.cell?, hco.box]
    have hlw := hco.lt
    have hls := hco.bel.size
    have hm : Hid (m = pre.length) := hide (hco.own.rw encI_len).len.1
    have hm5 : m ≤ 5 := by have := unhide hm; omega
    have hBl : Bx < W.heap.size := (Array.getElem?_eq_some_iff.1 bX).1
    clear hco bX
    gi_wp2_with (first | (gi_at_builtin; refine wpListIn_app1 encI_len (by omega) oneI 50 28 i0 _ 56 Tryd.underlying28 hi hz0 hz1 hz2 rfl (by omega) W x rfl _ _ rfl w.heap.size _ pre m hm rfl (unhide HC).own rfl (by omega) hls ?_; intro a2 c2 w4 hO hG0; have hG : W.grownBy w4 (Value.slice a m c).ownBlock := hG0; have hb4 : w4.heap[w.heap.size]? = some (.cells #[.slice a m c] 28 (0, 0)) := (hG.block _ hlw (fun q => own_ne (unhide HC).own (unhide HC).box (by decide) q.symm)).trans (unhide HC).box; have d0 : w4.cell? ⟨w.heap.size, 0, none⟩ = some (.slice a m c) := (by simp [World.cell?, hb4]); have df : w4.frozen? ⟨w.heap.size, 0, none⟩ = false := (by simp [World.frozen?, hb4]); have HO := hide hO; have HG := hide hG; clear hO hG hG0 hb4 c0))
    have kk : KeepsOthers W w4 := KeepsOthers.of_grownBy (unhide HG) (fun j o e hj => by
      rcases (unhide HC).own.2 with ⟨q, _⟩ | ⟨g, cap, cur, q, _, hgb, _⟩
      · rw [q] at e; simp [Value.ownBlock] at e
      · rw [q] at e
        obtain rfl : g = j := by simpa [Value.ownBlock] using e
        rw [hgb] at hj; cases hj; rfl)
    have kb : Below wS.heap.size W w4 := (Below.refl _ W).grown (unhide HG) (by omega) (fun r e => by have := (World.ownsRow.lt (unhide HC).own r e).1; omega)
    exact ⟨(kk.trans (KeepsOthers.setCell _ _ _)).from _, kb.setCell (p := ⟨w.heap.size, 0, none⟩) hS _, ⟨_, _, _, (unhide HC).app (unhide HO) (unhide HG)⟩⟩
  case done =>
    rintro D zs W hD rfl ⟨a, m, c, hco⟩ hK
    obtain rfl : m = n1 := ((hco.own.rw encI_len).len.1).trans (unhide hn1)
    have c0 : W.cell? ⟨w.heap.size, 0, none⟩ = some (.slice a m c) := by simp [World.cell?, hco.box]
    gi_wp2
    refine ⟨by simp, .inl ⟨_, _, rfl, run_takeDeferred hK, ?_⟩⟩
    have hL := hco.kept (grownBy_putObj' W D (.deferred none)) (fun r e => by cases e; exact ⟨by omega, _, hK, rfl⟩)
    exact ⟨_, results_tmp rfl _ _ _, a, c, rfl, hL.own, hL.bel⟩
  case stop =>
    rintro D c pre W _ _ h _
    exact h.elim

set_option maxHeartbeats 1000000 in
theorem icollect_any (wS w0 : World) (gf : Nat) (lb : Array Value) (eg : ∀ args w, (callFunc gf args).run Tryd.prog w = .ok (.enter gf args) w) (ys : List Itm) (n1 : Nat) (hn1 : Hid (ys.length = n1)) (hseq : SeqStopsK Fence.wide 9 Tryd.prog gf lb (fun x : Itm => #[.agg #[.int .i64 x.1, .int .i64 x.2.1, .int .i64 x.2.2.1, .int .i64 x.2.2.2.1, .int .i64 x.2.2.2.2.1, .string x.2.2.2.2.2]]) (Below wS.heap.size) (fun zs => zs = ys) (fun pre => pre <+: ys) 5 w0)
    (w : World) (hS : wS.heap.size ≤ w.heap.size) (hb0 : Below w0.heap.size w0 w) :
    Calls Tryd.prog 28 #[.func (.func gf) #[] lb] w fun e w' => ∃ a c, e = .returned (.slice a n1 c) ∧ OwI w.heap.size w' (.slice a n1 c) ys ∧ Below w.heap.size w w' := by
  go_enter Tryd.func28, Tryd.ntmps28
  go_wp2_with fail
  refine (iappend_any wS w0 gf lb eg ys n1 hn1 hseq w hS hb0).mono ?_
  rintro e w1 ⟨a, c, rfl, o1, b1⟩
  have O1 := hide o1
  have B1 := hide b1
  clear o1 b1
  go_wp2
  go_ret
  exact ⟨a, c, rfl, unhide O1, unhide B1⟩

set_option maxHeartbeats 1000000 in
theorem iview_any (ai : Option Addr) (ni ci : Nat) (xs : List Itm) (af : Option Addr) (nf cf : Nat) (fs : List Flr) (n1 : Nat) (hn1 : Hid ((vw xs fs).length = n1)) (w : World)
    (hni : ni ≤ 140737488351232) (hnf : nf ≤ 140737488351232) (hx : Rw encI 6 w (.slice ai ni ci) xs) (hf : Rw encF 2 w (.slice af nf cf) fs) :
    Calls Tryd.prog 16 #[.agg #[.slice ai ni ci, .slice af nf cf]] w fun e w' => ∃ a1 c1, e = .returned (.slice a1 n1 c1) ∧ OwI w.heap.size w' (.slice a1 n1 c1) (vw xs fs) ∧ Below w.heap.size w w' := by
  have HX := hide hx
  have HF := hide hf
  clear hx hf
  go_enter Tryd.func16, Tryd.ntmps16
  go_wp2_with fail
  refine (iup_any _ _ _).mono ?_
  rintro e _ ⟨rfl, rfl⟩
  go_wp2_with fail
  obtain ⟨V, hV⟩ : ∃ V, V = (w.alloc (.cells #[.slice ai ni ci, .slice af nf cf] 31)).alloc (.cells #[.slice ai ni ci, .slice af nf cf] 31) := ⟨_, rfl⟩
  have bV : Below w.heap.size w V := by rw [hV]; exact ((Below.refl _ _).alloc (Nat.le_refl _) _).alloc (by simp) _
  have kV : V.heap[w.heap.size + 1]? = some (.cells #[.slice ai ni ci, .slice af nf cf] 31 (0, 0)) := by rw [hV]; exact newB2 w _ _
  rw [← hV]
  clear hV
  refine (icollect_any w V 44 _ (enters_of Tryd.func44 (by kernel_rfl) rfl) (vw xs fs) n1 hn1 (iup_stops 9 _ ai ni ci xs af nf cf fs w V bV kV hni hnf (unhide HX) (unhide HF)) V bV.size (Below.refl _ _)).mono ?_
  rintro e w1 ⟨a, c, rfl, o1, b1⟩
  have O1 := hide (o1.base bV.size)
  have B1 := hide (bV.trans (b1.mono bV.size))
  clear o1 b1 bV kV
  go_wp2
  go_ret
  exact ⟨a, c, rfl, unhide O1, unhide B1⟩
end Go.Proofs.YtdpaocikmijioadDoor
