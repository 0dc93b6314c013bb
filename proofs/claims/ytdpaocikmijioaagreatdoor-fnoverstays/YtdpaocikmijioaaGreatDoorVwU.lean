/-
  Lookup of the program: the entry of who is up. No statement is proved here.
-/
import Derived.Test.YtdpaocikmijioaaGreatDoorVwI
namespace Go.Proofs.YtdpaocikmijioaaGreatDoor
open Go.RowKit Go.Shelf

attribute [local go_sem] Oper.semAt_some

/-- While one is looked for: the number, and both variables of the result. -/
structure LK (w W : World) (id : Int) (r : Key) (b : Bool) : Prop where
  bel : Below w.heap.size w W
  ki : W.heap[w.heap.size + 1]? = some (.cells #[.int .i64 id] 3 (0, 0))
  ke : W.heap[w.heap.size + 1 + 1]? = some (.cells #[.int .i64 r.1, .int .i64 r.2.1, .int .i64 r.2.2.1, .int .i64 r.2.2.2.1, .string r.2.2.2.2] 33 (0, 0))
  kb : W.heap[w.heap.size + 1 + 1 + 1]? = some (.cells #[.bool b] 4 (0, 0))
theorem LK.lt {w W : World} {id : Int} {r : Key} {b : Bool} (h : LK w W id r b) : w.heap.size + 1 + 1 + 1 < W.heap.size := (Array.getElem?_eq_some_iff.1 h.kb).1
theorem LK.own {β : Type} {w : World} {id : Int} {r : Key} {b : Bool} {B : Nat} (hB : w.heap.size + 1 + 1 + 1 < B) : OwnFrom B (fun (_ : β) W => LK w W id r b) := fun _ W W' row h hg hr => by
  have hl := h.lt
  have k : ∀ g, g < B → g < W.heap.size → W'.heap[g]? = W.heap[g]? := fun g h1 h2 => hg.block g h2 (fun e => by have := (hr g e.symm).1; omega)
  exact ⟨h.bel.grown hg h.bel.size (fun r e => by have := (hr r e).1; omega), (k _ (by omega) (by omega)).trans h.ki, (k _ (by omega) (by omega)).trans h.ke, (k _ (by omega) (by omega)).trans h.kb⟩
theorem LK.alloc {w W : World} {id : Int} {r : Key} {b : Bool} (h : LK w W id r b) (o : Obj) : LK w (W.alloc o) id r b := by
  have hl := h.lt
  exact ⟨h.bel.alloc h.bel.size _, (Below.heap_alloc _ _ _ (by omega)).trans h.ki, (Below.heap_alloc _ _ _ (by omega)).trans h.ke, (Below.heap_alloc _ _ _ (by omega)).trans h.kb⟩

theorem keeps_put (W : World) (e b : Nat) (v0 v1 v2 v3 v4 u : Value) : KeepsOthers W ((((((W.setCell ⟨e, 0, none⟩ v0).setCell ⟨e, 1, none⟩ v1).setCell ⟨e, 2, none⟩ v2).setCell ⟨e, 3, none⟩ v3).setCell ⟨e, 4, none⟩ v4).setCell ⟨b, 0, none⟩ u) :=
  ((((KeepsOthers.setCell _ _ _).trans (KeepsOthers.setCell _ _ _)).trans (KeepsOthers.setCell _ _ _)).trans (KeepsOthers.setCell _ _ _)).trans ((KeepsOthers.setCell _ _ _).trans (KeepsOthers.setCell _ _ _))
theorem LK.put {w W : World} {id : Int} {r : Key} {b : Bool} (h : LK w W id r b) (x : Key) (c : Bool) : LK w ((((((W.setCell ⟨w.heap.size + 1 + 1, 0, none⟩ (.int .i64 x.1)).setCell ⟨w.heap.size + 1 + 1, 1, none⟩ (.int .i64 x.2.1)).setCell ⟨w.heap.size + 1 + 1, 2, none⟩ (.int .i64 x.2.2.1)).setCell ⟨w.heap.size + 1 + 1, 3, none⟩ (.int .i64 x.2.2.2.1)).setCell ⟨w.heap.size + 1 + 1, 4, none⟩ (.string x.2.2.2.2)).setCell ⟨w.heap.size + 1 + 1 + 1, 0, none⟩ (.bool c)) id x c := by
  have hb := (below_set5 (g := w.heap.size + 1 + 1) (v0 := .int .i64 x.1) (v1 := .int .i64 x.2.1) (v2 := .int .i64 x.2.2.1) (v3 := .int .i64 x.2.2.2.1) (v4 := .string x.2.2.2.2) (by omega) h.bel).setCell (p := ⟨w.heap.size + 1 + 1 + 1, 0, none⟩) (by simp; omega) (.bool c)
  have far : ∀ k, k ≠ w.heap.size + 1 + 1 → k ≠ w.heap.size + 1 + 1 + 1 → ((((((W.setCell ⟨w.heap.size + 1 + 1, 0, none⟩ (.int .i64 x.1)).setCell ⟨w.heap.size + 1 + 1, 1, none⟩ (.int .i64 x.2.1)).setCell ⟨w.heap.size + 1 + 1, 2, none⟩ (.int .i64 x.2.2.1)).setCell ⟨w.heap.size + 1 + 1, 3, none⟩ (.int .i64 x.2.2.2.1)).setCell ⟨w.heap.size + 1 + 1, 4, none⟩ (.string x.2.2.2.2)).setCell ⟨w.heap.size + 1 + 1 + 1, 0, none⟩ (.bool c)).heap[k]? = W.heap[k]? := fun k h1 h2 => by
    rw [heap_setCell_other _ _ _ _ (by exact h2), heap_setCell_other _ _ _ _ (by exact h1), heap_setCell_other _ _ _ _ (by exact h1), heap_setCell_other _ _ _ _ (by exact h1), heap_setCell_other _ _ _ _ (by exact h1), heap_setCell_other _ _ _ _ (by exact h1)]
  refine ⟨hb, (far _ (by omega) (by omega)).trans h.ki, ?_, ?_⟩
  · rw [heap_setCell_other _ _ _ _ (by show w.heap.size + 1 + 1 ≠ w.heap.size + 1 + 1 + 1; omega)]
    exact blk_set5 h.ke _ _ _ _ _
  · refine heap_setCell_same _ (w.heap.size + 1 + 1 + 1) 0 #[.bool b] 4 (.bool c) ?_
    have ne : w.heap.size + 1 + 1 + 1 ≠ w.heap.size + 1 + 1 := by omega
    rw [heap_setCell_other _ _ _ _ (by exact ne), heap_setCell_other _ _ _ _ (by exact ne), heap_setCell_other _ _ _ _ (by exact ne), heap_setCell_other _ _ _ _ (by exact ne), heap_setCell_other _ _ _ _ (by exact ne)]
    exact h.kb
theorem LK.cells {w W : World} {id : Int} {r : Key} {b : Bool} (h : LK w W id r b) : W.cell? ⟨w.heap.size + 1, 0, none⟩ = some (.int .i64 id) ∧ (W.cell? ⟨w.heap.size + 1 + 1, 0, none⟩ = some (.int .i64 r.1) ∧ W.cell? ⟨w.heap.size + 1 + 1, 1, none⟩ = some (.int .i64 r.2.1) ∧ W.cell? ⟨w.heap.size + 1 + 1, 2, none⟩ = some (.int .i64 r.2.2.1) ∧ W.cell? ⟨w.heap.size + 1 + 1, 3, none⟩ = some (.int .i64 r.2.2.2.1) ∧ W.cell? ⟨w.heap.size + 1 + 1, 4, none⟩ = some (.string r.2.2.2.2) ∧ ∀ o, W.frozen? ⟨w.heap.size + 1 + 1, o, none⟩ = false) ∧ W.cell? ⟨w.heap.size + 1 + 1 + 1, 0, none⟩ = some (.bool b) ∧ ∀ o, W.frozen? ⟨w.heap.size + 1 + 1 + 1, o, none⟩ = false :=
  ⟨by simp [World.cell?, h.ki], blk_cells5 h.ke, by simp [World.cell?, h.kb], fun o => by simp [World.frozen?, h.kb]⟩
theorem LK.new (w : World) (v1 v2 : Value) (id : Int) : LK w (((((w.alloc (.cells #[v1, v2] 27)).alloc (.cells #[.int .i64 id] 3)).alloc (.cells #[.int .i64 0, .int .i64 0, .int .i64 0, .int .i64 0, .string ⟨#[]⟩] 33)).alloc (.cells #[.bool false] 4)).alloc (.cells #[v1, v2] 27)) id zeroK false := by
  obtain ⟨m1, m2, m3⟩ := new4 w (.cells #[v1, v2] 27) (.cells #[.int .i64 id] 3) (.cells #[.int .i64 0, .int .i64 0, .int .i64 0, .int .i64 0, .string ⟨#[]⟩] 33) (.cells #[.bool false] 4)
  exact LK.alloc ⟨((((Below.refl w.heap.size w).alloc (Nat.le_refl _) _).alloc (by simp) _).alloc (by simp; omega) _).alloc (by simp; omega) _, m1, m2, m3⟩ _
theorem entR_none {ys : List Itm} {id : Int} {r : Key} {ok : Bool} (h : entR ys id = (r, ok)) (hp : ∀ y ∈ ys, (y.1 == id) = false) : r = zeroK ∧ ok = false := by
  have e : ent ys id = none := by rw [ent, List.find?_eq_none.2 (fun x hx => by simp [hp x hx])]; rfl
  rw [entR, e] at h
  simp only [Prod.mk.injEq] at h
  exact ⟨h.1.symm, h.2.symm⟩
theorem entR_first {ys p : List Itm} {x : Itm} {id : Int} {r : Key} {ok : Bool} (h : entR ys id = (r, ok)) (hy : p ++ [x] <+: ys) (hp : ∀ y ∈ p, (y.1 == id) = false) (hx : (x.1 == id) = true) : r = x.2 ∧ ok = true := by
  obtain ⟨q, rfl⟩ := hy
  have e : ent (p ++ [x] ++ q) id = some x.2 := by
    rw [ent, List.find?_append, List.find?_append, List.find?_eq_none.2 (fun y hm => by simp [hp y hm]), List.find?_cons, hx]; rfl
  rw [entR, e] at h
  simp only [Prod.mk.injEq] at h
  exact ⟨h.1.symm, h.2.symm⟩

set_option maxRecDepth 100000 in
set_option maxHeartbeats 4000000 in
theorem ilookup_any (ai : Option Addr) (ni ci : Nat) (xs : List Itm) (af : Option Addr) (nf cf : Nat) (fs : List Flr) (id : Int) (r : Key) (ok : Bool) (h0 : Hid (entR (vw xs fs) id = (r, ok))) (w : World)
    (hni : ni ≤ 140737488351232) (hnf : nf ≤ 140737488351232) (hx : Rw encI 6 w (.slice ai ni ci) xs) (hf : Rw encF 2 w (.slice af nf cf) fs) :
    Calls Tryz.prog 8 #[.agg #[.slice ai ni ci, .slice af nf cf], .int .i64 id] w fun e w' => e = .returned (.tuple #[.agg #[.int .i64 r.1, .int .i64 r.2.1, .int .i64 r.2.2.1, .int .i64 r.2.2.2.1, .string r.2.2.2.2], .bool ok]) ∧ Below w.heap.size w w' := by
  have HX := hide hx
  have HF := hide hf
  clear hx hf
  refine (callsIn_wide (n := 10)).1 ?_
  refine callsIn_of_wp_marks Tryz.func8 rfl trivial ?_ rfl
  simp only [Tryz.ntmps8, List.size_toArray, List.length_cons, List.length_nil, Nat.reduceAdd, Nat.reduceSub, Array.replicate_succ, Array.replicate_zero, List.push_toArray, List.append_toArray, List.nil_append, List.cons_append]
  gi_wp2
  refine ⟨trivial, gi_call (iup_any _ _ _) ?_⟩
  rintro e _ ⟨rfl, rfl⟩
  gi_wp2
  obtain ⟨V, hV⟩ : ∃ V, V = ((((w.alloc (.cells #[.slice ai ni ci, .slice af nf cf] 27)).alloc (.cells #[.int .i64 id] 3)).alloc (.cells #[.int .i64 0, .int .i64 0, .int .i64 0, .int .i64 0, .string ⟨#[]⟩] 33)).alloc (.cells #[.bool false] 4)).alloc (.cells #[.slice ai ni ci, .slice af nf cf] 27) := ⟨_, rfl⟩
  have LV : LK w V id zeroK false := by rw [hV]; exact LK.new w _ _ id
  have KX : V.heap[w.heap.size + 1 + 1 + 1 + 1]? = some (.cells #[.slice ai ni ci, .slice af nf cf] 27 (0, 0)) := by
    rw [hV]
    have e := heap_alloc_new ((((w.alloc (.cells #[.slice ai ni ci, .slice af nf cf] 27)).alloc (.cells #[.int .i64 id] 3)).alloc (.cells #[.int .i64 0, .int .i64 0, .int .i64 0, .int .i64 0, .string ⟨#[]⟩] 33)).alloc (.cells #[.bool false] 4)) (.cells #[.slice ai ni ci, .slice af nf cf] 27)
    simpa using e
  have sV : V.heap.size = w.heap.size + 1 + 1 + 1 + 1 + 1 := by rw [hV]; simp
  rw [← hV]
  clear hV
  have hB : w.heap.size + 1 + 1 + 1 < V.heap.size := by omega
  refine wpIn_rangeFunc_ownH rfl (by omega) (gf := 46) (lb := #[.pointer (some ⟨w.heap.size + 1 + 1 + 1 + 1, 0, none⟩)]) rfl trivial (enters_of Tryz.func46 (by kernel_rfl) rfl)
    (iup_stops 9 _ ai ni ci xs af nf cf fs w V LV.bel KX hni hnf (unhide HX) (unhide HF)) belowK_t (belowK_b (by omega)) (Below.refl _ _) (fun _ => rfl)
    (fun pre W => (∀ y ∈ pre, (y.1 == id) = false) ∧ LK w W id zeroK false)
    (fun c pre W => c = .ret ∧ ∃ p x, pre = p ++ [x] ∧ (∀ y ∈ p, (y.1 == id) = false) ∧ (x.1 == id) = true ∧ LK w W id x.2 true)
    (OwnFrom.and (ownFrom_pure _ _) (LK.own hB))
    (fun c s X Y row h hg hr => by obtain ⟨e0, p, x, e, h1, h2, h3⟩ := h; exact ⟨e0, p, x, e, h1, h2, LK.own (β := Unit) hB () X Y row h3 hg hr⟩)
    ⟨by simp, LV⟩
    (fun x a' W => ∃ Bx, w.heap.size + 1 + 1 + 1 < Bx ∧ W.heap[Bx]? = some (.cells #[.int .i64 x.1, .int .i64 x.2.1, .int .i64 x.2.2.1, .int .i64 x.2.2.2.1, .int .i64 x.2.2.2.2.1, .string x.2.2.2.2.2] 39 (0, 0)) ∧ a' = { tmps := #[.agg #[.slice ai ni ci, .slice af nf cf], .int .i64 id, .pointer (some ⟨w.heap.size, 0, none⟩), .pointer (some ⟨w.heap.size + 1, 0, none⟩), .pointer (some ⟨w.heap.size + 1 + 1, 0, none⟩), .pointer (some ⟨w.heap.size + 1 + 1 + 1, 0, none⟩), .pointer (some ⟨Bx, 0, none⟩), .agg #[.slice ai ni ci, .slice af nf cf], .func (.func 46) #[] #[.pointer (some ⟨w.heap.size + 1 + 1 + 1 + 1, 0, none⟩)], .agg #[.int .i64 x.1, .int .i64 x.2.1, .int .i64 x.2.2.1, .int .i64 x.2.2.2.1, .int .i64 x.2.2.2.2.1, .string x.2.2.2.2.2], undef, undef, undef, undef, undef, undef, undef], defers := [] })
    (fun x a' _ X Y row h hg hr => by
      obtain ⟨Bx, h1, h2, h3⟩ := h
      refine ⟨Bx, h1, (hg.block Bx (Array.getElem?_eq_some_iff.1 h2).1 (fun e => ?_)).trans h2, h3⟩
      obtain ⟨_, o, ho, hc⟩ := hr Bx e.symm
      rw [h2] at ho; cases ho; cases hc)
    ?assign ?body ?done ?stop
  case assign =>
    rintro l pre x W K ⟨hp, hi⟩ hK
    have hl := hi.lt
    have hls := hi.bel.size
    gi_wp2
    exact hK _ _ ((KeepsOthers.alloc _ _).from _) ((Below.refl _ W).alloc hls _) ⟨hp, hi.alloc _⟩ ⟨W.heap.size, by omega, heap_alloc_new _ _, rfl⟩
  case body =>
    rintro l pre x a' W _ _ ⟨hp, hi⟩ ⟨Bx, hBx, bX, rfl⟩ hlt
    have HI := hide hi
    have HP := hide hp
    obtain ⟨x0, x1, x2, x3, x4, x5, -⟩ := blk_cells6 bX
    obtain ⟨i0, ⟨e0, e1, e2, e3, e4, ef⟩, b0, bf⟩ := hi.cells
    clear hi hp bX
    rcases Bool.eq_false_or_eq_true (x.1 == id) with he | he
    · gi_wp2
      exact ⟨(keeps_put _ _ _ _ _ _ _ _ _).from _, rfl, pre, x, rfl, unhide HP, he, (unhide HI).put x.2 true⟩
    · gi_wp2
      exact ⟨KeepsFrom.refl _ _, Below.refl _ _, fun y hy => (List.mem_append.1 hy).elim (unhide HP y) (fun e => by rw [List.mem_singleton.1 e]; exact he), unhide HI⟩
  case done =>
    rintro D ys W hD rfl ⟨hp, hi⟩ hK
    obtain ⟨rfl, rfl⟩ := entR_none (unhide h0) hp
    have HI := hide hi
    obtain ⟨-, ⟨e0, e1, e2, e3, e4, ef⟩, b0, bf⟩ := hi.cells
    have HK := hide hK
    clear hi hp hK
    gi_wp2
    have hK' := (keeps_put W (w.heap.size + 1 + 1) (w.heap.size + 1 + 1 + 1) (.int .i64 0) (.int .i64 0) (.int .i64 0) (.int .i64 0) (.string ⟨#[]⟩) (.bool false)).same D _ (unhide HK) rfl
    refine ⟨by simp, .inl ⟨_, _, rfl, run_takeDeferred hK', ?_⟩⟩
    have hL := LK.own (β := Unit) hB () _ _ (some D) ((unhide HI).put zeroK false) (grownBy_putObj' _ D (.deferred none)) (fun r e => by cases e; exact ⟨hD, _, hK', rfl⟩)
    obtain ⟨-, ⟨q0, q1, q2, q3, q4, -⟩, q5, -⟩ := hL.cells
    simp only [zeroK] at q0 q1 q2 q3 q4 q5
    refine ⟨.tuple #[.agg #[.int .i64 zeroK.1, .int .i64 zeroK.2.1, .int .i64 zeroK.2.2.1, .int .i64 zeroK.2.2.2.1, .string zeroK.2.2.2.2], .bool false], ?_, rfl, hL.bel⟩
    simp [results, Tryz.f8, go_sem, zeroK, q0, q1, q2, q3, q4, q5]
  case stop =>
    rintro D c pre W hD hpre ⟨rfl, p, x, rfl, hp, hx, hi⟩ hK
    obtain ⟨rfl, rfl⟩ := entR_first (unhide h0) hpre hp hx
    have HI := hide hi
    have HK := hide hK
    clear hi hp hK
    gi_wp2
    refine ⟨by simp, .inl ⟨_, _, rfl, run_takeDeferred (unhide HK), ?_⟩⟩
    have hL := LK.own (β := Unit) hB () _ _ (some D) (unhide HI) (grownBy_putObj' _ D (.deferred none)) (fun r e => by cases e; exact ⟨hD, _, unhide HK, rfl⟩)
    obtain ⟨-, ⟨q0, q1, q2, q3, q4, -⟩, q5, -⟩ := hL.cells
    refine ⟨.tuple #[.agg #[.int .i64 x.2.1, .int .i64 x.2.2.1, .int .i64 x.2.2.2.1, .int .i64 x.2.2.2.2.1, .string x.2.2.2.2.2], .bool true], ?_, rfl, hL.bel⟩
    simp [results, Tryz.f8, go_sem, q0, q1, q2, q3, q4, q5]
end Go.Proofs.YtdpaocikmijioaaGreatDoor
