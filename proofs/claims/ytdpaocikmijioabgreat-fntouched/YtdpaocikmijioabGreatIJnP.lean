/-
  Trees that are touched: the specification's and the program's. No statement is proved here.
  Trees that are touched: the program's. No statement is proved here.
  The program's joinFloors. No statement is proved here.
  A row that came in as an argument: what it reads as. No statement is proved here.
  A state that came in as an argument: its value written out, and what its rows read as. No statement is proved here.
  A map from nodes to entries, as a function. No statement is proved here.
  The program's joinItems and dropOver: what they do to the map. No statement is proved here.
  What the map holds behind both states' items and the floors: the joined items. No program here, no statement is proved here.
-/
import Derived.Test.YtdpaocikmijioabGreatTrX
import Derived.Test.YtdpaocikmijioabGreatStJP
import Derived.Test.YtdpaocikmijioabGreatApp2
import Derived.Test.YtdpaocikmijioabGreatIStOk
import Derived.Test.YtdpaocikmijioabGreatStT
import Derived.Test.YtdpaocikmijioabGreatStM
import Derived.Test.YtdpaocikmijioabGreatRw
import Derived.ProofKit
import Derived.ChangeArms
import Derived.Deep.Slices
import Derived.Test.YtdpaocikmijioabGreatStA
import Derived.Maps.RangeWalk
import Derived.Maps.OwnSet
import Derived.Maps.OwnOps
import Derived.Maps.Ext
import Derived.Test.YtdpaocikmijioabGreatSt3
import Derived.Deep.RegionHeld3
import Derived.Test.YtdpaocikmijioabGreatVwP
namespace Go.Proofs.YtdpaocikmijioabGreat
open Go.RowKit

theorem step_appN {ops : Array Oper} {o : Oper} {a : Act} {K : Act → World → Prop} {Q : Exit → Act → World → Prop} {E : Prop} (w : World) (hgd : o.guard = none) (s x : Operand)
    (ho : o.op = .call { callee := .builtin .append, args := #[s, x], argTypes := #[30, 30] })
    (base : Nat) (v : Value) (xs : List Int) (hs : a.eval s = v) (hown : OwN base w v xs) (b : Option Addr) (m cap : Nat) (ys : List Int) (hx : a.eval x = .slice b m cap) (hu : RwN w (.slice b m cap) ys) (hnil : b = none → cap = 0) (hl : xs.length + ys.length ≤ 100000000) (hbase : base ≤ w.heap.size)
    (h : ∀ v' w', OwN base w' v' (xs ++ ys) → w.grownBy w' v.ownBlock → K (a.put o.dst v') w') : if Region.wanted o (yielded ops a.tmps) = true then Oper.wp Tryz.prog o a w K Q else E := by
  have hw : Region.wanted o (yielded ops a.tmps) = true := by simp [Region.wanted, hgd]
  rw [if_pos hw]
  obtain ⟨i0, hi, hz0, hz1, hz2⟩ := info_parts Tryz.infoInt
  obtain ⟨hm, hcap⟩ := hu.len
  subst hm
  cases b with
  | none =>
    have hys : ys = [] := by
      cases ys with
      | nil => rfl
      | cons y r =>
        obtain ⟨z, b', off', _, hp, _⟩ := hu.atN (i := 0) (by simp)
        cases hp
    subst hys
    obtain rfl := hnil rfl
    have hrun := run_append_owned_none (P := Tryz.prog) (w := w) base 30 o.type 3 i0 1 Tryz.underlying30 hi v xs.length (xs.flatMap encN) hown
    have hh := h v w (by simpa using hown) (World.grownBy.refl _ _)
    unfold Oper.wp
    simp [execOp, ho, resolve, invoke, builtin, hs, hx, hrun, Result.andThen]
    exact hh
  | some ad =>
    refine wp_append_own w s x 30 ho base 3 i0 (.int .i64 0) 1 8 Tryz.underlying30 hi hz0 hz1 hz2 rfl (by decide) v xs.length (xs.flatMap encN) hs hown ad ys.length cap (ys.flatMap encN) hx (by rw [flatN, List.length_map]; omega) ?_ ?_ (by unfold maxLen; omega) (by omega) hbase (fun v' w' o1 g1 _ => h v' w' ?_ g1)
    · intro j u hj
      rw [flatN] at hj
      have hj' : j < ys.length := by have := (List.getElem?_eq_some_iff.1 hj).1; simpa using this
      obtain ⟨z, b', off', hz, hp, _, _, cz⟩ := hu.atN hj'
      simp only [Option.some.injEq] at hp
      subst hp
      have e : (⟨b', off', none⟩ : Addr).add j = ⟨b', off' + j, none⟩ := by
        unfold Addr.add
        by_cases h0 : j = 0
        · subst h0; rfl
        · rw [if_neg h0]
      rw [e, cz]
      rw [List.getElem?_map, hz] at hj
      simpa using hj
    · intro u hu'
      rw [flatN] at hu'
      exact ints_oneCell _ _ u hu'
    · unfold OwN Ow
      rw [List.flatMap_append, List.length_append]
      exact o1

theorem Ow.formN {base : Nat} {w : World} {v : Value} {ns : List Int} {n : Nat} (h : OwN base w v ([] ++ ns)) (hl : n = ns.length) : ∃ a c, v = .slice a n c ∧ OwN base w (.slice a n c) ns := by
  rw [List.nil_append] at h
  obtain ⟨a, c, e⟩ := h.form
  subst hl
  exact ⟨a, c, e, e ▸ h⟩
/-- While a tree is touched: both arguments, the result's variable, the new tree, its leaves. -/
structure T6 (w X : World) (g : Nat) (v : Value) (q : Int) (v1 v2 : Value) (u : Value) (q1 : Int) (ns : List Int) : Prop where
  bel : Below w.heap.size w X
  hg : w.heap.size + 1 + 1 < g
  kt : X.heap[w.heap.size]? = some (TreB v q)
  ks : X.heap[w.heap.size + 1]? = some (.cells #[v1, v2] 27 (0, 0))
  kr : X.heap[w.heap.size + 1 + 1]? = some (TreB (.slice none 0 0) 0)
  ko : X.heap[g]? = some (TreB u q1)
  ob : OwN (w.heap.size + 1 + 1 + 1) X u ns
section
variable {w X Y : World} {g : Nat} {v : Value} {q q1 : Int} {v1 v2 u : Value} {ns ms : List Int}
theorem T6.lt (h : T6 w X g v q v1 v2 u q1 ns) : g < X.heap.size := (Array.getElem?_eq_some_iff.1 h.ko).1
theorem T6.later (h : T6 w X g v q v1 v2 u q1 ns) (b : Below X.heap.size X Y) : T6 w Y g v q v1 v2 u q1 ns := by
  have := h.lt; have := h.hg
  exact ⟨h.bel.trans (b.mono h.bel.size), h.hg, (b.block _ (by omega)).trans h.kt, (b.block _ (by omega)).trans h.ks, (b.block _ (by omega)).trans h.kr, (b.block _ h.lt).trans h.ko, h.ob.later b⟩
theorem T6.drewH (h : Hid (T6 w X g v q v1 v2 u q1 ns)) : Hid (T6 w X.drew g v q v1 v2 u q1 ns) := hide ((unhide h).later ((Below.refl _ _).drew))
theorem kT6 (h : Hid (T6 w X g v q v1 v2 u q1 ns)) : Below w.heap.size w X ∧ X.cell? ⟨g, 0, none⟩ = some u ∧ X.cell? ⟨g, 1, none⟩ = some (.int .i64 q1) ∧ X.cell? ⟨w.heap.size + 1, 0, none⟩ = some v1 ∧ X.cell? ⟨w.heap.size + 1, 1, none⟩ = some v2 := by
  obtain ⟨h0, h1, -⟩ := blk_cells2 (unhide h).ko
  obtain ⟨h2, h3, -⟩ := blk_cells2 (unhide h).ks
  exact ⟨(unhide h).bel, h0, h1, h2, h3⟩
/-- A number is stored into the leaves. -/
theorem T6.put {e n c k : Nat} (h : T6 w X g v q v1 v2 (.slice (some ⟨e, 0, none⟩) n c) q1 ns) (hn : n = ns.length) (z : Int) : T6 w (X.setCell ⟨e, k, none⟩ (.int .i64 z)) g v q v1 v2 (.slice (some ⟨e, 0, none⟩) n c) q1 (ns.set k z) := by
  have hl := (World.ownsRow.lt h.ob e rfl).1
  have hg := h.hg
  have hne : e ≠ g := fun q => own_ne h.ob h.ko (by decide) (by rw [← q]; rfl)
  subst hn
  have hst := (World.ownsRow.stored (show X.ownsRow (w.heap.size + 1 + 1 + 1) 3 1 (.slice (some ⟨e, 0, none⟩) ns.length c) ns.length (ns.flatMap encN) from h.ob) k (.int .i64 z)).1
  have o : ∀ b, b ≠ e → (X.setCell ⟨e, k, none⟩ (.int .i64 z)).heap[b]? = X.heap[b]? := fun b hb => heap_setCell_other _ _ _ _ (by show b ≠ e; exact hb)
  refine ⟨h.bel.setCell (p := ⟨e, k, none⟩) (by simp <;> omega) _, hg, (o _ (by omega)).trans h.kt, (o _ (by omega)).trans h.ks, (o _ (by omega)).trans h.kr, (o _ (Ne.symm hne)).trans h.ko, ?_⟩
  unfold OwN Ow
  rw [List.length_set, flatN, List.map_set, ← flatN]
  exact hst
end
theorem tc_no {ts : List Int} {xs : List Itm} {fs : List Flr} {id r : Int} {k1 k2 k3 : Bool} (h1 : okS xs fs = k1) (h2 : inB id 0 4 = k2) (h3 : (ts.length == 4) = k3) (h : (k1 && k2 && k3) = false) : tcL ts xs fs id = ts ∧ tcR ts r xs fs id = r := by
  have e : tcOk ts xs fs id = false := by rw [tcOk, h1, h2, h3, h]
  rw [tcL, tcR, e]; exact ⟨rfl, rfl⟩
theorem tc_yes {ts : List Int} {xs : List Itm} {fs : List Flr} {id r l z : Int} (h1 : okS xs fs = true) (h2 : inB id 0 4 = true) (h3 : (ts.length == 4) = true) (hl : lf id = l) (hz : lsm xs fs l = z) : tcL ts xs fs id = ts.set l.toNat z ∧ tcR ts r xs fs id = rt (ts.set l.toNat z) := by
  have e : tcOk ts xs fs id = true := by rw [tcOk, h1, h2, h3]; rfl
  rw [tcL, tcR, e, hl, hz]; exact ⟨rfl, rfl⟩
theorem fit_set {ns : List Int} (h : ∀ (k : Nat) (x : Int), ns[k]? = some x → -9223372036854775808 ≤ x ∧ x ≤ 9223372036854775807) (j : Nat) {z : Int} (hz : Fit64 z) : ∀ (k : Nat) (x : Int), (ns.set j z)[k]? = some x → -9223372036854775808 ≤ x ∧ x ≤ 9223372036854775807 := by
  intro k x hx
  rw [List.getElem?_set] at hx
  split at hx
  · split at hx
    · cases hx; exact hz
    · cases hx
  · exact h k x hx
theorem spat_touch {W : World} {g : Nat} {r : Int} {u : Value} (h : W.heap[g]? = some (TreB u r)) (r1 : Int) : (W.setCell ⟨g, 1, none⟩ (.int .i64 r1)).heap[g]? = some (TreB u r1) := heap_setCell_same _ _ _ _ _ _ h

theorem Ow.setne {α : Type} {enc : α → List Value} {k : Nat} {E : TypeId} {base : Nat} {w : World} {v : Value} {xs : List α} (h : Ow enc k E base w v xs) {g : Nat} (hne : v.ownBlock ≠ some g) (o : Nat) (u : Value) : Ow enc k E base (w.setCell ⟨g, o, none⟩ u) v xs := by
  refine ⟨h.1, ?_⟩
  rcases h.2 with hn | ⟨e, cap, cur, rfl, hg, hh, r⟩
  · exact .inl hn
  · refine .inr ⟨e, cap, cur, rfl, hg, ?_, r⟩
    rw [heap_setCell_other _ _ _ _ (by show e ≠ g; intro q; exact hne (by rw [← q]; rfl))]
    exact hh
theorem own_cell {base e n c : Nat} {W : World} {ns : List Int} (h : OwN base W (.slice (some ⟨e, 0, none⟩) n c) ns) (hn : n = ns.length) {k : Nat} (hk : k < n) : ∃ y, W.cell? ⟨e, k, none⟩ = some y ∧ W.frozen? ⟨e, k, none⟩ = false := by
  subst hn
  have h' : W.ownsRow base 3 1 (.slice (some ⟨e, 0, none⟩) ns.length c) ns.length (ns.flatMap encN) := h
  have hc := h'.cellAt k (by omega)
  rw [flatN] at hc
  exact ⟨_, hc.trans (List.getElem?_eq_getElem (by simpa using hk)), h'.frozenAt k⟩
end Go.Proofs.YtdpaocikmijioabGreat

namespace Go.Proofs.YtdpaocikmijioabGreat
open Go.RowKit

set_option maxHeartbeats 8000000 in
set_option maxRecDepth 100000 in
theorem itreetouch_any (a : Option Addr) (n c : Nat) (ns : List Int) (q : Int) (ai : Option Addr) (ni ci : Nat) (xs : List Itm) (af : Option Addr) (nf cf : Nat) (fs : List Flr) (id r : Int) (hr : Hid (tcR ns q xs fs id = r)) (w : World) (hn : n ≤ 10000000) (hnil : a = none → c = 0) (hfit : ∀ (k : Nat) (x : Int), ns[k]? = some x → -9223372036854775808 ≤ x ∧ x ≤ 9223372036854775807)
    (hni : ni ≤ 140737488351232) (hnf : nf ≤ 140737488351232) (h : RwN w (.slice a n c) ns) (hx : Rw encI 6 w (.slice ai ni ci) xs) (hf : Rw encF 2 w (.slice af nf cf) fs) :
    Calls Tryz.prog 35 #[.agg #[.slice a n c, .int .i64 q], .agg #[.slice ai ni ci, .slice af nf cf], .int .i64 id] w fun e w' => ∃ a1 c1, e = .returned (.agg #[.slice a1 n c1, .int .i64 r]) ∧ OwT w.heap.size w' (.slice a1 n c1) (tcL ns xs fs id) ∧ Below w.heap.size w w' := by
  obtain ⟨k1, HK1⟩ : ∃ k, Hid (okS xs fs = k) := ⟨_, hide rfl⟩
  obtain ⟨k2, HK2⟩ : ∃ k, Hid (inB id 0 4 = k) := ⟨_, hide rfl⟩
  obtain ⟨⟨x0, x1, x2, x3⟩, k3, HS3⟩ : ∃ x k, sm ns = (x, k) := ⟨_, _, rfl⟩
  have HK3 : Hid ((ns.length == 4) = k3) := hide (by rw [← sm_len, HS3])
  replace HS3 := hide HS3
  have HR := hide h
  have HX := hide hx
  have HF := hide hf
  have HL := hide h.len.1
  have HFT := hide hfit
  clear h hx hf hfit
  go_enter Tryz.func35, Tryz.ntmps35
  go_wp2_with fail
  have bW : Below w.heap.size w (((w.alloc (TreB (.slice a n c) q)).alloc (.cells #[.slice ai ni ci, .slice af nf cf] 27)).alloc (TreB (.slice none 0 0) 0)) := (((Below.refl w.heap.size w).alloc (Nat.le_refl _) _).alloc (by simp) _).alloc (by simp <;> omega) _
  refine (isumsof_any a n c ns q x0 x1 x2 x3 k3 HS3 _ ((unhide HR).later bW) (by omega)).mono ?_
  rintro e w1 ⟨rfl, b1⟩
  have BL := hide (bW.trans (b1.mono (by simp <;> omega)))
  have KT := hide ((b1.block w.heap.size (by simp <;> omega)).trans (lowB3 w _ _ _))
  have KS := hide ((b1.block (w.heap.size + 1) (by simp)).trans (midB3 w _ _ _))
  have KR := hide ((b1.block (w.heap.size + 1 + 1) (by simp)).trans (newB3 w _ _ _))
  have z1 : w.heap.size + 1 + 1 < w1.heap.size := (Array.getElem?_eq_some_iff.1 (unhide KR)).1
  clear bW b1
  obtain ⟨s0, s1, -⟩ := blk_cells2 (unhide KS)
  have zS : w.heap.size + 1 < w1.heap.size := by omega
  go_wp2_with fail
  obtain ⟨W, hW⟩ : ∃ W, W = w1.alloc (SumB x0 x1 x2 x3) := ⟨_, rfl⟩
  have bX : Below w1.heap.size w1 W := by rw [hW]; exact (Below.refl _ _).alloc (Nat.le_refl _) _
  have BLW := hide ((unhide BL).trans (bX.mono (unhide BL).size))
  have TW := hide ((bX.block _ (by omega)).trans (unhide KT))
  have SW := hide ((bX.block _ zS).trans (unhide KS))
  have RW := hide ((bX.block _ z1).trans (unhide KR))
  have LW : Hid (W.heap[w1.heap.size]? = some (SumB x0 x1 x2 x3)) := hide (by rw [hW]; exact newB1 w1 _)
  rw [← hW]
  clear s0 s1 hW bX BL KT KS KR
  refine (istateok_any ai ni ci xs af nf cf fs _ HK1 _ hni hnf ((unhide HX).later (unhide BLW)) ((unhide HF).later (unhide BLW))).mono ?_
  rintro e w2 ⟨rfl, b2⟩
  have zW := (Array.getElem?_eq_some_iff.1 (unhide LW)).1
  have BL2 := hide ((unhide BLW).trans (b2.mono (unhide BLW).size))
  have KT2 := hide ((b2.block _ (by omega)).trans (unhide TW))
  have KS2 := hide ((b2.block _ (by omega)).trans (unhide SW))
  have KR2 := hide ((b2.block _ (by omega)).trans (unhide RW))
  have KL2 := hide ((b2.block _ zW).trans (unhide LW))
  have z2 := (Array.getElem?_eq_some_iff.1 (unhide KL2)).1
  have zR2 : w.heap.size + 1 + 1 < w2.heap.size := by omega
  have zS2 : w.heap.size + 1 < w2.heap.size := by omega
  have zT2 : w.heap.size < w2.heap.size := by omega
  have hw2 := (unhide BL2).size
  clear b2 BLW TW SW RW LW
  cases k1
  · obtain ⟨e1, e2⟩ := tc_no (ts := ns) (r := q) (unhide HK1) (unhide HK2) rfl (by simp)
    obtain rfl : q = r := by rw [← unhide hr, e2]
    obtain ⟨t0, t1, -⟩ := blk_cells2 (unhide KT2)
    go_wp2_with fail
    refine (itreecopy_any a n c ns q _ hn hnil ((unhide HR).later (unhide BL2))).mono ?_
    rintro e w3 ⟨a1, c1, rfl, o3, b3⟩
    have BL3 := hide ((unhide BL2).trans (b3.mono hw2))
    have O3 := hide (Ow.base (base' := w.heap.size + 1 + 1 + 1) o3 (by omega))
    have KR3 := hide ((b3.block _ zR2).trans (unhide KR2))
    have z3 : w.heap.size + 1 + 1 < w3.heap.size := (Array.getElem?_eq_some_iff.1 (unhide KR3)).1
    clear t0 t1 o3 b3
    obtain ⟨r0, r1, rf⟩ := blk_cells2 (unhide KR3)
    go_wp2
    exact bodyPost_ret (v := .agg #[.slice a1 n c1, .int .i64 q]) (by simp [results, Tryz.results35, go_sem, r0, r1]) rfl ⟨a1, c1, rfl, ⟨_, by rw [e1]; exact Ow.base (((unhide O3).set ⟨w.heap.size + 1 + 1, 0, none⟩ (by simp) _).set ⟨w.heap.size + 1 + 1, 1, none⟩ (by simp) _) (by omega)⟩, ((unhide BL3).setCell (p := ⟨w.heap.size + 1 + 1, 0, none⟩) (by simp <;> omega) _).setCell (p := ⟨w.heap.size + 1 + 1, 1, none⟩) (by simp <;> omega) _⟩
  · go_wp2_with fail
    refine (inode_any id k2 HK2 _).mono ?_
    rintro e _ ⟨rfl, rfl⟩
    cases k2
    · obtain ⟨e1, e2⟩ := tc_no (ts := ns) (r := q) (unhide HK1) (unhide HK2) rfl (by simp)
      obtain rfl : q = r := by rw [← unhide hr, e2]
      obtain ⟨t0, t1, -⟩ := blk_cells2 (unhide KT2)
      go_wp2_with fail
      refine (itreecopy_any a n c ns q _ hn hnil ((unhide HR).later (unhide BL2))).mono ?_
      rintro e w3 ⟨a1, c1, rfl, o3, b3⟩
      have BL3 := hide ((unhide BL2).trans (b3.mono hw2))
      have O3 := hide (Ow.base (base' := w.heap.size + 1 + 1 + 1) o3 (by omega))
      have KR3 := hide ((b3.block _ zR2).trans (unhide KR2))
      have z3 : w.heap.size + 1 + 1 < w3.heap.size := (Array.getElem?_eq_some_iff.1 (unhide KR3)).1
      clear t0 t1 o3 b3
      obtain ⟨r0, r1, rf⟩ := blk_cells2 (unhide KR3)
      go_wp2
      exact bodyPost_ret (v := .agg #[.slice a1 n c1, .int .i64 q]) (by simp [results, Tryz.results35, go_sem, r0, r1]) rfl ⟨a1, c1, rfl, ⟨_, by rw [e1]; exact Ow.base (((unhide O3).set ⟨w.heap.size + 1 + 1, 0, none⟩ (by simp) _).set ⟨w.heap.size + 1 + 1, 1, none⟩ (by simp) _) (by omega)⟩, ((unhide BL3).setCell (p := ⟨w.heap.size + 1 + 1, 0, none⟩) (by simp <;> omega) _).setCell (p := ⟨w.heap.size + 1 + 1, 1, none⟩) (by simp <;> omega) _⟩
    · cases k3
      · obtain ⟨e1, e2⟩ := tc_no (ts := ns) (r := q) (unhide HK1) (unhide HK2) (unhide HK3) rfl
        obtain rfl : q = r := by rw [← unhide hr, e2]
        obtain ⟨t0, t1, -⟩ := blk_cells2 (unhide KT2)
        go_wp2_with fail
        refine (itreecopy_any a n c ns q _ hn hnil ((unhide HR).later (unhide BL2))).mono ?_
        rintro e w3 ⟨a1, c1, rfl, o3, b3⟩
        have BL3 := hide ((unhide BL2).trans (b3.mono hw2))
        have O3 := hide (Ow.base (base' := w.heap.size + 1 + 1 + 1) o3 (by omega))
        have KR3 := hide ((b3.block _ zR2).trans (unhide KR2))
        have z3 : w.heap.size + 1 + 1 < w3.heap.size := (Array.getElem?_eq_some_iff.1 (unhide KR3)).1
        clear t0 t1 o3 b3
        obtain ⟨r0, r1, rf⟩ := blk_cells2 (unhide KR3)
        go_wp2
        exact bodyPost_ret (v := .agg #[.slice a1 n c1, .int .i64 q]) (by simp [results, Tryz.results35, go_sem, r0, r1]) rfl ⟨a1, c1, rfl, ⟨_, by rw [e1]; exact Ow.base (((unhide O3).set ⟨w.heap.size + 1 + 1, 0, none⟩ (by simp) _).set ⟨w.heap.size + 1 + 1, 1, none⟩ (by simp) _) (by omega)⟩, ((unhide BL3).setCell (p := ⟨w.heap.size + 1 + 1, 0, none⟩) (by simp <;> omega) _).setCell (p := ⟨w.heap.size + 1 + 1, 1, none⟩) (by simp <;> omega) _⟩
      · obtain rfl := sm_yes (unhide HS3)
        obtain rfl : n = 4 := unhide HL
        obtain ⟨l, HLF⟩ : ∃ l, Hid (lf id = l) := ⟨_, hide rfl⟩
        obtain ⟨z, HZ⟩ : ∃ z, Hid (lsm xs fs l = z) := ⟨_, hide rfl⟩
        obtain ⟨e1, e2⟩ := tc_yes (ts := [x0, x1, x2, x3]) (r := q) (unhide HK1) (unhide HK2) rfl (unhide HLF) (unhide HZ)
        have HE1 := hide e1
        have HE2 : Hid (rt (([x0, x1, x2, x3] : List Int).set l.toNat z) = r) := hide (by rw [← unhide hr, e2])
        have hlr := lf_in (unhide HK2)
        rw [unhide HLF] at hlr
        obtain ⟨-, l0, l3⟩ := hlr
        have hz : Fit64 z := by
          have h := lsm_range xs fs l
          rw [unhide HZ] at h
          unfold Fit64; omega
        have g0 : Fit64 x0 := unhide HFT 0 x0 rfl
        have g1 : Fit64 x1 := unhide HFT 1 x1 rfl
        have g2 : Fit64 x2 := unhide HFT 2 x2 rfl
        have g3 : Fit64 x3 := unhide HFT 3 x3 rfl
        clear e1 e2 hr HS3 HK3 HL HFT
        go_wp2_with fail
        refine (ileaf_any id l HLF _).mono ?_
        rintro e w3 ⟨rfl, b3⟩
        have BL3 := hide ((unhide BL2).trans (b3.mono hw2))
        have KS3 := hide ((b3.block _ zS2).trans (unhide KS2))
        have KR3 := hide ((b3.block _ zR2).trans (unhide KR2))
        have KL3 := hide ((b3.block _ z2).trans (unhide KL2))
        have z3 := (Array.getElem?_eq_some_iff.1 (unhide KL3)).1
        have hw3 := (unhide BL3).size
        have zS3 : w.heap.size + 1 < w3.heap.size := by omega
        have zR3 : w.heap.size + 1 + 1 < w3.heap.size := by omega
        clear b3 BL2 KT2 KS2 KR2 KL2
        obtain ⟨s0, s1, -⟩ := blk_cells2 (unhide KS3)
        go_wp2_with fail
        refine (ileafsum_any ai ni ci xs af nf cf fs l z HZ _ hni hnf ((unhide HX).later (unhide BL3)) ((unhide HF).later (unhide BL3))).mono ?_
        rintro e w4 ⟨rfl, b4⟩
        have BL4 := hide ((unhide BL3).trans (b4.mono hw3))
        have KR4 := hide ((b4.block _ zR3).trans (unhide KR3))
        have KL4 := hide ((b4.block _ z3).trans (unhide KL3))
        have z4 := (Array.getElem?_eq_some_iff.1 (unhide KL4)).1
        have hw4 := (unhide BL4).size
        clear b4 s0 s1 BL3 KS3 KR3 KL3 HLF HZ
        rcases (by omega : l = 0 ∨ l = 1 ∨ l = 2 ∨ l = 3) with rfl | rfl | rfl | rfl
        · skip
          obtain ⟨c0, c1', c2, c3, cf'⟩ := blkS4 (unhide KL4)
          have HRT : Hid (rt [z, x1, x2, x3] = r) := HE2
          go_wp2_with fail
          have KL5 : Hid ((w4.setCell ⟨w1.heap.size, 0, none⟩ (.int .i64 z)).heap[w1.heap.size]? = some (SumB z x1 x2 x3)) := hide (heap_setCell_same _ _ _ _ _ _ (unhide KL4))
          have BL5 := (unhide BL4).setCell (p := ⟨w1.heap.size, 0, none⟩) (by simp <;> omega) (.int .i64 z)
          have KR5 : (w4.setCell ⟨w1.heap.size, 0, none⟩ (.int .i64 z)).heap[w.heap.size + 1 + 1]? = some (TreB (.slice none 0 0) 0) := by rw [heap_setCell_other _ _ _ _ (by show w.heap.size + 1 + 1 ≠ w1.heap.size; omega)]; exact unhide KR4
          refine (itreewith_any z x1 x2 x3 r HRT _ hz g1 g2 g3).mono ?_
          rintro e w6 ⟨a1, q1, rfl, o6, b6⟩
          have y5 := BL5.size
          have BL6 := hide (BL5.trans (b6.mono y5))
          have KR6 := hide ((b6.block _ (by simp <;> omega)).trans KR5)
          have O6 := hide (Ow.base (base' := w.heap.size + 1 + 1 + 1) o6 (by simp <;> omega))
          have z6 : w.heap.size + 1 + 1 < w6.heap.size := (Array.getElem?_eq_some_iff.1 (unhide KR6)).1
          obtain ⟨r0, r1, rf⟩ := blk_cells2 (unhide KR6)
          clear o6 b6 BL5 KR5 c0 c1' c2 c3 cf'
          go_wp2
          exact bodyPost_ret (v := .agg #[.slice a1 4 q1, .int .i64 r]) (by simp [results, Tryz.results35, go_sem, r0, r1]) rfl ⟨a1, q1, rfl, ⟨_, by rw [unhide HE1]; exact Ow.base (((unhide O6).set ⟨w.heap.size + 1 + 1, 0, none⟩ (by simp) _).set ⟨w.heap.size + 1 + 1, 1, none⟩ (by simp) _) (by omega)⟩, ((unhide BL6).setCell (p := ⟨w.heap.size + 1 + 1, 0, none⟩) (by simp <;> omega) _).setCell (p := ⟨w.heap.size + 1 + 1, 1, none⟩) (by simp <;> omega) _⟩
        · skip
          obtain ⟨c0, c1', c2, c3, cf'⟩ := blkS4 (unhide KL4)
          have HRT : Hid (rt [x0, z, x2, x3] = r) := HE2
          go_wp2_with fail
          have KL5 : Hid ((w4.setCell ⟨w1.heap.size, 1, none⟩ (.int .i64 z)).heap[w1.heap.size]? = some (SumB x0 z x2 x3)) := hide (heap_setCell_same _ _ _ _ _ _ (unhide KL4))
          have BL5 := (unhide BL4).setCell (p := ⟨w1.heap.size, 1, none⟩) (by simp <;> omega) (.int .i64 z)
          have KR5 : (w4.setCell ⟨w1.heap.size, 1, none⟩ (.int .i64 z)).heap[w.heap.size + 1 + 1]? = some (TreB (.slice none 0 0) 0) := by rw [heap_setCell_other _ _ _ _ (by show w.heap.size + 1 + 1 ≠ w1.heap.size; omega)]; exact unhide KR4
          refine (itreewith_any x0 z x2 x3 r HRT _ g0 hz g2 g3).mono ?_
          rintro e w6 ⟨a1, q1, rfl, o6, b6⟩
          have y5 := BL5.size
          have BL6 := hide (BL5.trans (b6.mono y5))
          have KR6 := hide ((b6.block _ (by simp <;> omega)).trans KR5)
          have O6 := hide (Ow.base (base' := w.heap.size + 1 + 1 + 1) o6 (by simp <;> omega))
          have z6 : w.heap.size + 1 + 1 < w6.heap.size := (Array.getElem?_eq_some_iff.1 (unhide KR6)).1
          obtain ⟨r0, r1, rf⟩ := blk_cells2 (unhide KR6)
          clear o6 b6 BL5 KR5 c0 c1' c2 c3 cf'
          go_wp2
          exact bodyPost_ret (v := .agg #[.slice a1 4 q1, .int .i64 r]) (by simp [results, Tryz.results35, go_sem, r0, r1]) rfl ⟨a1, q1, rfl, ⟨_, by rw [unhide HE1]; exact Ow.base (((unhide O6).set ⟨w.heap.size + 1 + 1, 0, none⟩ (by simp) _).set ⟨w.heap.size + 1 + 1, 1, none⟩ (by simp) _) (by omega)⟩, ((unhide BL6).setCell (p := ⟨w.heap.size + 1 + 1, 0, none⟩) (by simp <;> omega) _).setCell (p := ⟨w.heap.size + 1 + 1, 1, none⟩) (by simp <;> omega) _⟩
        · skip
          obtain ⟨c0, c1', c2, c3, cf'⟩ := blkS4 (unhide KL4)
          have HRT : Hid (rt [x0, x1, z, x3] = r) := HE2
          go_wp2_with fail
          have KL5 : Hid ((w4.setCell ⟨w1.heap.size, 2, none⟩ (.int .i64 z)).heap[w1.heap.size]? = some (SumB x0 x1 z x3)) := hide (heap_setCell_same _ _ _ _ _ _ (unhide KL4))
          have BL5 := (unhide BL4).setCell (p := ⟨w1.heap.size, 2, none⟩) (by simp <;> omega) (.int .i64 z)
          have KR5 : (w4.setCell ⟨w1.heap.size, 2, none⟩ (.int .i64 z)).heap[w.heap.size + 1 + 1]? = some (TreB (.slice none 0 0) 0) := by rw [heap_setCell_other _ _ _ _ (by show w.heap.size + 1 + 1 ≠ w1.heap.size; omega)]; exact unhide KR4
          refine (itreewith_any x0 x1 z x3 r HRT _ g0 g1 hz g3).mono ?_
          rintro e w6 ⟨a1, q1, rfl, o6, b6⟩
          have y5 := BL5.size
          have BL6 := hide (BL5.trans (b6.mono y5))
          have KR6 := hide ((b6.block _ (by simp <;> omega)).trans KR5)
          have O6 := hide (Ow.base (base' := w.heap.size + 1 + 1 + 1) o6 (by simp <;> omega))
          have z6 : w.heap.size + 1 + 1 < w6.heap.size := (Array.getElem?_eq_some_iff.1 (unhide KR6)).1
          obtain ⟨r0, r1, rf⟩ := blk_cells2 (unhide KR6)
          clear o6 b6 BL5 KR5 c0 c1' c2 c3 cf'
          go_wp2
          exact bodyPost_ret (v := .agg #[.slice a1 4 q1, .int .i64 r]) (by simp [results, Tryz.results35, go_sem, r0, r1]) rfl ⟨a1, q1, rfl, ⟨_, by rw [unhide HE1]; exact Ow.base (((unhide O6).set ⟨w.heap.size + 1 + 1, 0, none⟩ (by simp) _).set ⟨w.heap.size + 1 + 1, 1, none⟩ (by simp) _) (by omega)⟩, ((unhide BL6).setCell (p := ⟨w.heap.size + 1 + 1, 0, none⟩) (by simp <;> omega) _).setCell (p := ⟨w.heap.size + 1 + 1, 1, none⟩) (by simp <;> omega) _⟩
        · skip
          obtain ⟨c0, c1', c2, c3, cf'⟩ := blkS4 (unhide KL4)
          have HRT : Hid (rt [x0, x1, x2, z] = r) := HE2
          go_wp2_with fail
          have KL5 : Hid ((w4.setCell ⟨w1.heap.size, 3, none⟩ (.int .i64 z)).heap[w1.heap.size]? = some (SumB x0 x1 x2 z)) := hide (heap_setCell_same _ _ _ _ _ _ (unhide KL4))
          have BL5 := (unhide BL4).setCell (p := ⟨w1.heap.size, 3, none⟩) (by simp <;> omega) (.int .i64 z)
          have KR5 : (w4.setCell ⟨w1.heap.size, 3, none⟩ (.int .i64 z)).heap[w.heap.size + 1 + 1]? = some (TreB (.slice none 0 0) 0) := by rw [heap_setCell_other _ _ _ _ (by show w.heap.size + 1 + 1 ≠ w1.heap.size; omega)]; exact unhide KR4
          refine (itreewith_any x0 x1 x2 z r HRT _ g0 g1 g2 hz).mono ?_
          rintro e w6 ⟨a1, q1, rfl, o6, b6⟩
          have y5 := BL5.size
          have BL6 := hide (BL5.trans (b6.mono y5))
          have KR6 := hide ((b6.block _ (by simp <;> omega)).trans KR5)
          have O6 := hide (Ow.base (base' := w.heap.size + 1 + 1 + 1) o6 (by simp <;> omega))
          have z6 : w.heap.size + 1 + 1 < w6.heap.size := (Array.getElem?_eq_some_iff.1 (unhide KR6)).1
          obtain ⟨r0, r1, rf⟩ := blk_cells2 (unhide KR6)
          clear o6 b6 BL5 KR5 c0 c1' c2 c3 cf'
          go_wp2
          exact bodyPost_ret (v := .agg #[.slice a1 4 q1, .int .i64 r]) (by simp [results, Tryz.results35, go_sem, r0, r1]) rfl ⟨a1, q1, rfl, ⟨_, by rw [unhide HE1]; exact Ow.base (((unhide O6).set ⟨w.heap.size + 1 + 1, 0, none⟩ (by simp) _).set ⟨w.heap.size + 1 + 1, 1, none⟩ (by simp) _) (by omega)⟩, ((unhide BL6).setCell (p := ⟨w.heap.size + 1 + 1, 0, none⟩) (by simp <;> omega) _).setCell (p := ⟨w.heap.size + 1 + 1, 1, none⟩) (by simp <;> omega) _⟩
end Go.Proofs.YtdpaocikmijioabGreat

namespace Go.Proofs.YtdpaocikmijioabGreat
open Go.RowKit

set_option maxHeartbeats 8000000 in
set_option maxRecDepth 100000 in
theorem ijoinf_any (vi : Value) (af : Option Addr) (nf cf : Nat) (fs : List Flr) (vj : Value) (bf : Option Addr) (mf df : Nat) (gs : List Flr) (w : World)
    (hnf : nf ≤ 140737488351232) (hmf : mf ≤ 140737488351232) (hf : Rw encF 2 w (.slice af nf cf) fs) (hg : Rw encF 2 w (.slice bf mf df) gs) :
    Calls Tryz.prog 48 #[.agg #[vi, .slice af nf cf], .agg #[vj, .slice bf mf df]] w fun e w' => ∃ a2 n2 c2, e = .returned (.slice a2 n2 c2) ∧ OwF w.heap.size w' (.slice a2 n2 c2) (joinF fs gs) ∧ Below w.heap.size w w' := by
  obtain ⟨i1, gi, gz0, gz1, gz2⟩ := info_parts Tryz.infoFloor
  have HF := hide hf
  have HG := hide hg
  clear hf hg
  go_enter Tryz.func48, Tryz.ntmps48
  go_wp2
  go_loopw [5, 8] (fun v i wr => ∃ (k : Nat) (a2 : Option Addr) (n2 c2 : Nat), k ≤ 5 ∧ i = .int .i64 k ∧ v = .slice a2 n2 c2 ∧ OwF w.heap.size wr (.slice a2 n2 c2) (jF fs gs k) ∧ Below w.heap.size w wr ∧ wr.heap[w.heap.size]? = some (.cells #[vi, .slice af nf cf] 27 (0, 0)) ∧ wr.heap[w.heap.size + 1]? = some (.cells #[vj, .slice bf mf df] 27 (0, 0))) (fun _ i _ => 5 - (intOf i).toNat)
  case atStart => exact ⟨0, none, 0, 0, by omega, rfl, rfl, World.ownsRow_nil _ _ _ _, ((Below.refl _ _).alloc (Nat.le_refl _) _).alloc (by simp) _, lowB2 w _ _, newB2 w _ _⟩
  case round =>
    obtain ⟨k, a2, n2, c2, hk, rfl, rfl, hown, hbel, ka, kb⟩ := hrel
    have HO := hide hown
    have HB := hide hbel
    have KA := hide ka
    have KB := hide kb
    have hsz := hbel.size
    have hz : w.heap.size + 1 < wr.heap.size := (Array.getElem?_eq_some_iff.mp kb).1
    obtain ⟨pa0, pa1, -⟩ := blk_cells2 ka
    obtain ⟨pb0, pb1, -⟩ := blk_cells2 kb
    clear hown ka kb
    by_cases hlt : k < 5
    · obtain ⟨fa, hfa⟩ : ∃ fa, flo fs k = fa := ⟨_, rfl⟩
      obtain ⟨fb, hfb⟩ : ∃ fb, flo gs k = fb := ⟨_, rfl⟩
      have HFA := hide hfa
      have HFB := hide hfb
      have HF0 : Hid (fl2 fs gs k = max fa fb) := hide (by rw [fl2, hfa, hfb]; split <;> omega)
      have hdk : decide ((k : Int) < 5) = true := by simp; omega
      clear hfa hfb
      have la0 := later_some (w := wr) (b := w.heap.size) (o := 0) (by omega) pa0
      have la1 := later_some (w := wr) (b := w.heap.size) (o := 1) (by omega) pa1
      have lb0 := later_some (w := wr) (b := w.heap.size + 1) (o := 0) (by omega) pb0
      have lb1 := later_some (w := wr) (b := w.heap.size + 1) (o := 1) (by omega) pb1
      have RF := hide ((unhide HF).later hbel)
      have RG := hide ((unhide HG).later hbel)
      clear hbel
      go_wp2_with fail
      refine wp_region_later (by kernel_rfl) (by kernel_rfl) ?_
      repeat (go_big_quiet_step (first
        | (go_at_call_of 53 (Value.slice af nf cf); exact Calls.later_of (ifloor_v _ af nf cf fs _ fa HFA _ hnf ((unhide RF).in_later _ _)))
        | (go_at_call_of 53 (Value.slice bf mf df); exact Calls.later_of (ifloor_v _ bf mf df gs _ fb HFB _ hmf ((unhide RG).in_later _ _)))))
      refine wpQuiet_nil ?_
      intro w1 hb1
      generalize hm : max fa fb = f at HF0 ⊢
      have HO1 := hide ((unhide HO).later hb1)
      have HB1 := hide ((unhide HB).trans (hb1.mono hsz))
      have KA1 := hide ((hb1.block _ (by omega)).trans (unhide KA))
      have KB1 := hide ((hb1.block _ (by omega)).trans (unhide KB))
      have hz1 : w.heap.size + 1 < w1.heap.size := Nat.lt_of_lt_of_le hz hb1.size
      have hn2 : Hid (n2 = (jF fs gs k).length) := hide ((unhide HO1).rw encF_len).len.1
      have hn2l : n2 ≤ 5 := by have := unhide hn2; have := jF_len fs gs k; omega
      clear hm hb1 la0 la1 lb0 lb1 RF RG pa0 pa1 pb0 pb1 HO HB KA KB HFA HFB hsz hz
      have hw1 : w.heap.size ≤ w1.heap.size := by omega
      rcases Bool.eq_false_or_eq_true (decide (0 < f)) with hpos | hpos
      · go_wp2_with (first | (at_builtin; refine wpList_app1 encF_len (by omega) oneF 84 25 i1 _ 16 Tryz.underlying25 gi gz0 gz1 gz2 rfl (by omega) w1 ((k : Int), f) rfl _ _ rfl w.heap.size _ (jF fs gs k) n2 hn2 rfl (unhide HO1) rfl (by omega) hw1 ?_; intro a2' c2' w2 hO hG; have HO2 := hide hO; have HB2 := hide ((Trn.of_grown hG).below (unhide HB1) hw1 (fun i q => (World.ownsRow.lt (unhide HO1) i q).1)); have HG2 := hide hG; clear hO hG))
        go_roundw
        case rel =>
          have hnA := own_ne (unhide HO1) (unhide KA1) (by decide)
          have hnB := own_ne (unhide HO1) (unhide KB1) (by decide)
          exact ⟨k + 1, a2', n2 + 1, c2', by omega, by go_num, rfl, by rw [jF_pos (by rw [unhide HF0]; exact hpos), unhide HF0]; exact unhide HO2, unhide HB2, ((unhide HG2).block _ (by omega) (fun q => hnA q.symm)).trans (unhide KA1), ((unhide HG2).block _ (by omega) (fun q => hnB q.symm)).trans (unhide KB1)⟩
        case measure => simp [intOf]; omega
      · go_wp2
        go_roundw
        case rel => exact ⟨k + 1, a2, n2, c2, by omega, by go_num, rfl, by rw [jF_neg (by rw [unhide HF0]; exact hpos)]; exact unhide HO1, unhide HB1, unhide KA1, unhide KB1⟩
        case measure => simp [intOf]; omega
    · have hdk : decide ((k : Int) < 5) = false := by simp; omega
      have HE : Hid (OwF w.heap.size wr (.slice a2 n2 c2) (joinF fs gs)) := by
        have h := unhide HO
        have e : k = 5 := by omega
        rw [e] at h
        exact hide h
      clear hbel HO
      go_wp2
      go_ret
      exact ⟨a2, n2, c2, rfl, unhide HE, unhide HB⟩
end Go.Proofs.YtdpaocikmijioabGreat

namespace Go.Proofs.YtdpaocikmijioabGreat
open Go.ChangeShapes Go.WideShapes Go.ChangeAt Go.RowKit

def FitN (n : Int) : Prop := -9223372036854775808 ≤ n ∧ n ≤ 9223372036854775807
theorem list_of {α : Type} {p : Nat → α → Prop} : ∀ (n : Nat), (∀ i, i < n → ∃ y, p i y) → ∃ xs : List α, xs.length = n ∧ ∀ (i : Nat) (y : α), xs[i]? = some y → p i y
  | 0, _ => ⟨[], rfl, fun i y h => by simp at h⟩
  | n + 1, h => by
    obtain ⟨xs, hl, hx⟩ := list_of n (fun i hi => h i (by omega))
    obtain ⟨y, hy⟩ := h n (by omega)
    refine ⟨xs ++ [y], by simp [hl], fun i z hz => ?_⟩
    by_cases hi : i < n
    · rw [List.getElem?_append_left (by omega)] at hz; exact hx i z hz
    · have hlt := (List.getElem?_eq_some_iff.1 hz).1
      simp [hl] at hlt
      obtain rfl : i = n := by omega
      rw [List.getElem?_append_right (by omega)] at hz
      simp [hl] at hz
      subst hz; exact hy

theorem fit_of {n : Int} (h : (Lit.int .i64 n).wf = true) : FitN n := by
  simp [Lit.wf, IntKind.min, IntKind.max, IntKind.bits, IntKind.signed] at h
  unfold FitN
  omega

theorem addr_off (b off i : Nat) : (⟨b, off, none⟩ : Addr).add i = ⟨b, off + i, none⟩ := by
  unfold Addr.add
  split
  · rename_i e; rw [e]; rfl
  · rfl

section
variable {H : Type} {enc : TypeId × Value → H} {w : World} {base : Nat} {spare : Nat → Bool} {held : Bool}

/-- A slice whose elements are structs. -/
theorem rw_of_slice {α : Type} {ec : α → List Value} {k : Nat} {Q : α → Prop} {T E : TypeId} (hT : Tryz.prog.underlying T = some (.slice E)) (hE : Tryz.prog.cellsOf E = k) (h0 : 0 < k)
    (dec : ∀ (fuel : Nat) (cs : List Value) (x : DataW H × List MemPlace), DataW.trod enc Tryz.prog w base spare held fuel E cs = some x → ∃ y, cs = ec y ∧ Q y)
    {fuel : Nat} {c : Value} {x : DataW H × List MemPlace} (h : DataW.trod enc Tryz.prog w base spare held fuel T [c] = some x) :
    ∃ a n cap xs, c = .slice a n cap ∧ n ≤ maxLen ∧ Rw ec k w (.slice a n cap) xs ∧ ∀ (i : Nat) (y : α), xs[i]? = some y → Q y := by
  rcases Deep.open_slice hT h with ⟨h1, -⟩ | ⟨a, len, cap, m, n, D, Pl, h1, hb, hl, hm, hmm, -, hx⟩
  · simp only [List.cons.injEq, and_true] at h1
    exact ⟨none, 0, 0, [], h1, by unfold maxLen; omega, Rw.nil, fun i y hy => by simp at hy⟩
  · simp only [List.cons.injEq, and_true] at h1
    subst h1
    have hlm : len ≤ m := by rw [hmm]; split <;> omega
    obtain ⟨xs, hxl, hxs⟩ := list_of (p := fun i y => (w.cells? base (a.add (i * k)) k = some (ec y)) ∧ Q y) len (fun i hi => by
      obtain ⟨cs', e1, e2⟩ := hx i (by omega)
      obtain ⟨y, rfl, hq⟩ := dec _ _ _ e2
      rw [hE] at e1
      exact ⟨y, e1, hq⟩)
    refine ⟨some a, len, cap, xs, rfl, by omega, ?_, fun i y hy => (hxs i y hy).2⟩
    subst hxl
    refine ⟨some a, cap, rfl, hl, ?_⟩
    by_cases hz : xs = []
    · exact .inl hz
    · have hpos : 0 < xs.length := List.length_pos_iff.2 hz
      have hc0 := (hxs 0 xs[0] (by simp [hpos])).1
      obtain ⟨_, hlen0, hcell0⟩ := World.cells?_some hc0
      have hc00 := hcell0 0 h0
      rw [List.getElem?_eq_getElem (by omega)] at hc00
      obtain ⟨b, off, spot⟩ := a
      have hspot : spot = none := by
        have := World.cell?_spot hc00
        simpa [Addr.add] using this
      subst hspot
      refine .inr ⟨b, off, rfl, by simpa [Addr.add] using World.block_lt_of_cell? w _ hc00, fun i y hy j hj => ?_⟩
      obtain ⟨_, _, hcell⟩ := World.cells?_some (hxs i y hy).1
      have := hcell j hj
      rw [Deep.add_add, addr_off] at this
      rw [Nat.add_assoc]
      exact this
end
end Go.Proofs.YtdpaocikmijioabGreat

namespace Go.Proofs.YtdpaocikmijioabGreat
open Go.ChangeShapes Go.WideShapes Go.ChangeAt Go.RowKit

def FitK (e : Key) : Prop := FitN e.1 ∧ FitN e.2.1 ∧ FitN e.2.2.1 ∧ FitN e.2.2.2.1
/-- Each number is one of this machine. -/
def FitI (xs : List Itm) : Prop := ∀ (k : Nat) (x : Itm), xs[k]? = some x → FitN x.1 ∧ FitK x.2
def FitF (fs : List Flr) : Prop := ∀ (k : Nat) (x : Flr), fs[k]? = some x → FitN x.1 ∧ FitN x.2

section
variable {H : Type} {enc : TypeId × Value → H} {w : World} {base : Nat} {spare : Nat → Bool} {held : Bool}

end
end Go.Proofs.YtdpaocikmijioabGreat

namespace Go.Proofs.YtdpaocikmijioabGreat
open Go.RowKit Go.Maps

/-- How an element of the map reads: as the entry that it is. -/
def RK : Value → Option (DataW Key × List MemPlace)
  | .agg cs => match cs.toList with
    | [.int .i64 i, .int .i64 r, .int .i64 b, .int .i64 v, .string d] => some (.held (i, r, b, v, d), [])
    | _ => none
  | _ => none
theorem RK_mk (e : Key) : RK (.agg #[.int .i64 e.1, .int .i64 e.2.1, .int .i64 e.2.2.1, .int .i64 e.2.2.2.1, .string e.2.2.2.2]) = some (.held e, []) := rfl
theorem RK_inv {v : Value} {z : DataW Key × List MemPlace} (h : RK v = some z) : ∃ e : Key, v = .agg #[.int .i64 e.1, .int .i64 e.2.1, .int .i64 e.2.2.1, .int .i64 e.2.2.2.1, .string e.2.2.2.2] ∧ z = (.held e, []) := by
  unfold RK at h
  split at h
  · rename_i cs
    split at h
    · rename_i i r b v d hcs
      cases h
      refine ⟨(i, r, b, v, d), ?_, rfl⟩
      obtain ⟨l⟩ := cs
      simp only at hcs
      rw [hcs]
    · cases h
  · cases h

theorem klaw : Keyed Tryz.prog 3 := int_keyed Tryz.underlying3
theorem wf_fit {n : Int} (h : FitN n) : (Lit.int .i64 n).wf = true := by
  unfold FitN at h
  simp [Lit.wf, IntKind.min, IntKind.max, IntKind.bits, IntKind.signed]
  omega
theorem kof {n : Int} (h : FitN n) : keyOf Tryz.prog 3 (.int .i64 n) = some (.int .i64 n) := keyOf_int_mk Tryz.underlying3 (wf_fit h)

/-- The map reads as the function m. -/
def MapV (D : DataW Key) (m : Int → Option Key) : Prop := ∀ id, FitN id → ∀ z, D.atKey (.int .i64 id) z = (match m id with
  | some e => .held e
  | none => z)
def upd (m : Int → Option Key) (id : Int) (e : Key) : Int → Option Key := fun j => if j = id then some e else m j
def cut (m : Int → Option Key) (id : Int) : Int → Option Key := fun j => if j = id then none else m j
def mget (m : Int → Option Key) (id : Int) : Key := (m id).getD zeroK
theorem MapV.nil : MapV (.map []) (fun _ => none) := fun _ _ _ => rfl
theorem lit_ne {a b : Int} (h : a ≠ b) : (Lit.int .i64 a) ≠ Lit.int .i64 b := fun e => h (by injection e)
theorem MapV.put {D : DataW Key} {m : Int → Option Key} (h : MapV D m) (hm : IsMap D) {id : Int} (hk : WideAt.IsKeyLit (Lit.int .i64 id)) (e : Key) : MapV (D.put (.int .i64 id) (.held e)) (upd m id e) := by
  intro j hj z
  unfold upd
  by_cases c : j = id
  · subst c
    rw [atKey_put_same hm hk, if_pos rfl]
  · rw [atKey_put_other (lit_ne c), if_neg c]
    exact h j hj z
theorem MapV.del {D : DataW Key} {m : Int → Option Key} (h : MapV D m) (id : Int) : MapV (D.del (.int .i64 id)) (cut m id) := by
  intro j hj z
  unfold cut
  by_cases c : j = id
  · subst c
    rw [atKey_del_same, if_pos rfl]
  · rw [atKey_del_other (lit_ne c), if_neg c]
    exact h j hj z
theorem key_lit (id : Int) : WideAt.IsKeyLit (Lit.int .i64 id) := trivial

theorem zeroE (w : World) : (zeroValue 38).run Tryz.prog w = .ok (.agg #[.int .i64 zeroK.1, .int .i64 zeroK.2.1, .int .i64 zeroK.2.2.1, .int .i64 zeroK.2.2.2.1, .string zeroK.2.2.2.2]) w := by kernel_rfl
theorem field0 (e : Key) (w : World) : (Instr.field 38 (.agg #[.int .i64 e.1, .int .i64 e.2.1, .int .i64 e.2.2.1, .int .i64 e.2.2.2.1, .string e.2.2.2.2]) 0).run Tryz.prog w = .ok (.int .i64 e.1) w := by
  have h := Tryz.underlying38
  have h3 := Tryz.underlying3
  simp [Instr.field, run_underlying h, asAgg, part, isAgg, sizeOf, run_underlying h3, typeInfo]
abbrev OwM (w : World) (b n : Nat) (D : DataW Key) : Prop := w.ownsMap Tryz.prog 3 RK b n D
/-- 'm[id]'. -/
theorem look {w : World} {b n : Nat} {D : DataW Key} {m : Int → Option Key} (h : OwM w b n D) (hv : MapV D m) {id : Int} (hid : FitN id) :
    (Instr.lookup 69 (.map (some b)) (.int .i64 id) false).run Tryz.prog w = .ok (.agg #[.int .i64 (mget m id).1, .int .i64 (mget m id).2.1, .int .i64 (mget m id).2.2.1, .int .i64 (mget m id).2.2.2.1, .string (mget m id).2.2.2.2]) w := by
  obtain ⟨v, ps, hrun, hR⟩ := h.lookup klaw Tryz.underlying69 (zeroE w) (RK_mk zeroK) (kof hid)
  obtain ⟨e, rfl, he⟩ := RK_inv hR
  rw [hrun]
  simp only [Prod.mk.injEq] at he
  have h1 := hv id hid (.held zeroK)
  rw [h1] at he
  have : mget m id = e := by
    unfold mget
    cases hm : m id with
    | none => rw [hm] at he; simp only [DataW.held.injEq] at he; exact he.1
    | some x => rw [hm] at he; simp only [DataW.held.injEq] at he; exact he.1
  rw [this]
end Go.Proofs.YtdpaocikmijioabGreat

namespace Go.Proofs.YtdpaocikmijioabGreat
open Go.RowKit Go.Maps

theorem imaxK_any (a b r : Key) (hr : Hid (mx a b = r)) (ha : a.2.2.2.2.size ≤ 1048576) (hb : b.2.2.2.2.size ≤ 1048576) (w : World) : Calls Tryz.prog 87 #[.agg #[.int .i64 a.1, .int .i64 a.2.1, .int .i64 a.2.2.1, .int .i64 a.2.2.2.1, .string a.2.2.2.2], .agg #[.int .i64 b.1, .int .i64 b.2.1, .int .i64 b.2.2.1, .int .i64 b.2.2.2.1, .string b.2.2.2.2]] w fun e w' => e = .returned (.agg #[.int .i64 r.1, .int .i64 r.2.1, .int .i64 r.2.2.1, .int .i64 r.2.2.2.1, .string r.2.2.2.2]) ∧ Below w.heap.size w w' := by
  refine imax_is _ _ _ _ _ _ _ _ _ _ _ _ _ _ _ ?_ (by omega) (by omega) w
  rw [isMax_mx]
  exact (unhide hr).symm

/-- The items laid into the map, one behind the other. -/
def fm (m : Int → Option Key) : List Itm → Int → Option Key
  | [] => m
  | x :: r => fm (upd m x.1 (mx (mget m x.1) x.2)) r
theorem fm_at {m : Int → Option Key} {xs : List Itm} {k : Nat} {x : Itm} (h : xs[k]? = some x) : fm m (xs.drop k) = fm (upd m x.1 (mx (mget m x.1) x.2)) (xs.drop (k + 1)) := by
  rw [drop_at h, fm]
def SmlM (m : Int → Option Key) : Prop := ∀ id e, m id = some e → e.2.2.2.2.size ≤ 1048576
theorem mget_sml {m : Int → Option Key} (h : SmlM m) (id : Int) : (mget m id).2.2.2.2.size ≤ 1048576 := by
  unfold mget
  cases hm : m id with
  | none => show (zeroK.2.2.2.2.size) ≤ _; exact Nat.zero_le _
  | some e => exact h id e hm
theorem mx_sml {a b : Key} (ha : a.2.2.2.2.size ≤ 1048576) (hb : b.2.2.2.2.size ≤ 1048576) : (mx a b).2.2.2.2.size ≤ 1048576 := by
  unfold mx
  split
  · exact hb
  · exact ha
theorem upd_sml {m : Int → Option Key} (h : SmlM m) (id : Int) {e : Key} (he : e.2.2.2.2.size ≤ 1048576) : SmlM (upd m id e) := by
  intro j x hx
  unfold upd at hx
  split at hx
  · cases hx; exact he
  · exact h j x hx
theorem cut_sml {m : Int → Option Key} (h : SmlM m) (id : Int) : SmlM (cut m id) := by
  intro j x hx
  unfold cut at hx
  split at hx
  · cases hx
  · exact h j x hx

theorem owm_later {w w' : World} {b n : Nat} {D : DataW Key} (h : OwM w b n D) (hb : Below w.heap.size w w') : OwM w' b n D := h.kept (grown_below none hb) (by simp)
/-- A row of cells is no map. -/
theorem Rw.beside {α : Type} {enc : α → List Value} {k : Nat} (hk : ∀ x, (enc x).length = k) (h0 : 0 < k) {w w' : World} {v : Value} {xs : List α} (h : Rw enc k w v xs) {b n : Nat} {D : DataW Key} (hm : OwM w b n D) (hg : w.grownBy w' (some b)) : Rw enc k w' v xs := by
  obtain ⟨a, cap, rfl, hcap, h⟩ := h
  refine ⟨a, cap, rfl, hcap, ?_⟩
  rcases h with h | ⟨g, off, rfl, hlt, hc⟩
  · exact .inl h
  · by_cases hz : xs = []
    · exact .inl hz
    · refine .inr ⟨g, off, rfl, Nat.lt_of_lt_of_le hlt hg.size, fun i x hx j hj => ?_⟩
      have hne : g ≠ b := by
        intro e
        subst e
        have hpos : 0 < xs.length := List.length_pos_iff.2 hz
        have := hc 0 xs[0] (by simp [hpos]) 0 h0
        obtain ⟨es, clock, hh, _⟩ := hm
        have e0 : (enc xs[0])[0]? = some ((enc xs[0])[0]'(by rw [hk]; exact h0)) := List.getElem?_eq_getElem _
        rw [e0] at this
        simp [World.cell?, hh] at this
      exact (World.cell?_of_block (w := w) (hg.block g hlt (by simp [hne]))).trans (hc i x hx j hj)

theorem keepX {W : World} {g : Nat} {T : TypeId} {c0 c1 c2 c3 c4 c5 : Value} (h : W.heap[g]? = some (.cells #[c0, c1, c2, c3, c4, c5] T (0, 0))) : W.cell? ⟨g, 0, none⟩ = some c0 ∧ W.cell? ⟨g, 1, none⟩ = some c1 ∧ W.cell? ⟨g, 2, none⟩ = some c2 ∧ W.cell? ⟨g, 3, none⟩ = some c3 ∧ W.cell? ⟨g, 4, none⟩ = some c4 ∧ W.cell? ⟨g, 5, none⟩ = some c5 := by
  obtain ⟨h0, h1, h2, h3, h4, h5, -⟩ := blk_cells6 h
  exact ⟨h0, h1, h2, h3, h4, h5⟩
set_option maxHeartbeats 8000000 in
set_option maxRecDepth 100000 in
theorem ijoini_any (bm n : Nat) (D : DataW Key) (m : Int → Option Key) (ai : Option Addr) (ni ci : Nat) (xs : List Itm) (hfit : ∀ (k : Nat) (x : Itm), xs[k]? = some x → FitN x.1 ∧ x.2.2.2.2.2.size ≤ 1048576) (hsm : SmlM m) (w : World) (hni : ni ≤ 1000000) (hn : n ≤ 1000000)
    (hm : OwM w bm n D) (hv : MapV D m) (hx : Rw encI 6 w (.slice ai ni ci) xs) :
    Calls Tryz.prog 49 #[.map (some bm), .slice ai ni ci] w fun e w' => e = .returned (.tuple #[]) ∧ (∃ n' D', OwM w' bm n' D' ∧ n' ≤ n + ni ∧ MapV D' (fm m xs) ∧ SmlM (fm m xs)) ∧ w.grownBy w' (some bm) := by
  have HX := hide hx
  have HM := hide hm
  have HV := hide hv
  have HS := hide hsm
  have HFT := hide hfit
  clear hx hm hv hsm hfit
  go_enter Tryz.func49, Tryz.ntmps49
  go_wp2
  go_loopw [8] (fun i wr => ∃ (k n' : Nat) (D' : DataW Key) (m' : Int → Option Key), k ≤ ni ∧ i = .int .i64 k ∧ n' ≤ n + k ∧ OwM wr bm n' D' ∧ MapV D' m' ∧ SmlM m' ∧ fm m' (xs.drop k) = fm m xs ∧ w.grownBy wr (some bm)) (fun i _ => ni - (intOf i).toNat)
  case atStart => exact ⟨0, n, D, m, Nat.zero_le _, rfl, by omega, unhide HM, unhide HV, unhide HS, rfl, grown_refl _ _⟩
  case round =>
    obtain ⟨k, n', D', m', hk, rfl, hn', hM, hV, hS, hrec, hgr⟩ := hrel
    have HM1 := hide hM
    have HV1 := hide hV
    have HS1 := hide hS
    have HR := hide hrec
    have HG := hide hgr
    have RX := hide ((unhide HX).beside encI_len (by omega) (unhide HM) hgr)
    clear hM hV hS hrec hgr
    by_cases hlt : k < ni
    · obtain ⟨x, b, off, hx, rfl, hb, hcap, hc⟩ := (unhide RX).at hlt
      obtain ⟨c0, c1, c2, c3, c4, c5⟩ := item_cells hc
      obtain ⟨hid, hxs⟩ := unhide HFT k x hx
      obtain ⟨g, hg⟩ : ∃ g, mget m' x.1 = g := ⟨_, rfl⟩
      obtain ⟨r, hr⟩ : ∃ r, mx g x.2 = r := ⟨_, rfl⟩
      have hgs : g.2.2.2.2.size ≤ 1048576 := by rw [← hg]; exact mget_sml (unhide HS1) _
      have hrs : r.2.2.2.2.size ≤ 1048576 := by rw [← hr]; exact mx_sml hgs hxs
      have HE := hide (fm_at (m := m') hx)
      rw [unhide HR, hg, hr] at HE
      have HRR := hide hr
      have HID := hide hid
      have hlk := look (unhide HM1) (unhide HV1) hid
      rw [hg] at hlk
      have HLK := hide hlk
      clear hc hx hg hr hlk hid
      go_wp2_with fail
      obtain ⟨W, hW⟩ : ∃ W, W = wr.alloc (.cells #[.int .i64 x.1, .int .i64 x.2.1, .int .i64 x.2.2.1, .int .i64 x.2.2.2.1, .int .i64 x.2.2.2.2.1, .string x.2.2.2.2.2] 40) := ⟨_, rfl⟩
      rw [← hW]
      have hWB : Below wr.heap.size wr W := by rw [hW]; exact (Below.refl _ _).alloc (Nat.le_refl _) _
      have KX : Hid (W.heap[wr.heap.size]? = some (.cells #[.int .i64 x.1, .int .i64 x.2.1, .int .i64 x.2.2.1, .int .i64 x.2.2.2.1, .int .i64 x.2.2.2.2.1, .string x.2.2.2.2.2] 40 (0, 0)) ∧ wr.heap.size < W.heap.size) := by rw [hW]; exact hide ⟨newB1 wr _, by simp⟩
      have KXD : Hid (W.drew.heap[wr.heap.size]? = some (.cells #[.int .i64 x.1, .int .i64 x.2.1, .int .i64 x.2.2.1, .int .i64 x.2.2.2.1, .int .i64 x.2.2.2.2.1, .string x.2.2.2.2.2] 40 (0, 0)) ∧ wr.heap.size < W.drew.heap.size) := KX
      have HMW := hide (owm_later (unhide HM1) hWB)
      have hlk : (Instr.lookup 69 (.map (some bm)) (.int .i64 x.1) false).run Tryz.prog W.drew = .ok (.agg #[.int .i64 g.1, .int .i64 g.2.1, .int .i64 g.2.2.1, .int .i64 g.2.2.2.1, .string g.2.2.2.2]) W.drew := by
        have h := look (show OwM W.drew bm n' D' from unhide HMW) (unhide HV1) (unhide HID)
        have h2 := unhide HLK
        rw [look (unhide HM1) (unhide HV1) (unhide HID)] at h2
        simp only [Result.ok.injEq, and_true] at h2
        rw [h2] at h
        exact h
      have HWB := hide hWB
      clear hW hWB HLK c0 c1 c2 c3 c4 c5
      have hbmne : bm ≠ wr.heap.size := fun e => by have := (unhide HM1).lt; omega
      go_region_held3 (fun V => V.cell? ⟨wr.heap.size, 0, none⟩ = some (.int .i64 x.1) ∧ V.cell? ⟨wr.heap.size, 1, none⟩ = some (.int .i64 x.2.1) ∧ V.cell? ⟨wr.heap.size, 2, none⟩ = some (.int .i64 x.2.2.1) ∧ V.cell? ⟨wr.heap.size, 3, none⟩ = some (.int .i64 x.2.2.2.1) ∧ V.cell? ⟨wr.heap.size, 4, none⟩ = some (.int .i64 x.2.2.2.2.1) ∧ V.cell? ⟨wr.heap.size, 5, none⟩ = some (.string x.2.2.2.2.2))
        (first | (with_reducible exact keepX (unhide KX).1) | (with_reducible exact keepX (unhide KXD).1) | (with_reducible exact keepX (unhide KX1).1) | (with_reducible exact keepX (unhide KX2).1))
        (first | (go_at_call 87; refine (imaxK_any g x.2 r HRR hgs hxs _).mono ?_; rintro e w1 ⟨rfl, b1⟩; have b1' : Below W.heap.size W w1 := ⟨b1.os, b1.tape, b1.output, b1.size, b1.block⟩; have KX1 := hide (keptblk b1' KX); obtain ⟨w2, hrun, hM2, hG2⟩ := (owm_later (unhide HMW) b1').update klaw Tryz.underlying69 (by unfold maxLen; omega) (kof (unhide HID)) (RK_mk r); have KX2 := hide (And.intro ((hG2.block _ (unhide KX1).2 (by simp; exact fun e => hbmne e.symm)).trans (unhide KX1).1) (Nat.lt_of_lt_of_le (unhide KX1).2 hG2.size)); have HM2 := hide hM2; have HG2 := hide hG2; have HB1 := hide b1'; clear b1 b1' hM2 hG2))
      have HG3 := hide (grown_trans2 (unhide HG) (grown_trans2 (grown_below _ ((unhide HWB).trans ((unhide HB1).mono (unhide HWB).size))) (unhide HG2)))
      clear HG HWB HB1 HG2 hrun hlk KX KXD KX1 KX2
      go_wp2
      go_roundw
      case rel => exact ⟨k + 1, n' + 1, _, upd m' x.1 r, by omega, by go_num, by omega, unhide HM2, (unhide HV1).put (unhide HM1).isMap (key_lit _) r, upd_sml (unhide HS1) _ hrs, (unhide HE).symm, unhide HG3⟩
      case measure => simp [intOf]; omega
    · have HE : Hid (m' = fm m xs) := by
        have h := unhide HR
        rw [drop_end (unhide HX).len.1 hk hlt] at h
        exact hide h
      go_wp2
      go_end0
      exact ⟨rfl, ⟨n', D', unhide HM1, by omega, unhide HE ▸ unhide HV1, unhide HE ▸ unhide HS1⟩, unhide HG⟩

/-- What is over is dropped, floor by floor. -/
def fd (m : Int → Option Key) : List Flr → Int → Option Key
  | [] => m
  | f :: r => fd (if (mget m f.1).1 ≤ f.2 then cut m f.1 else m) r
theorem fd_hit {m : Int → Option Key} {fs : List Flr} {k : Nat} {f : Flr} {g : Key} (h : fs[k]? = some f) (hg : mget m f.1 = g) (hd : decide (g.1 ≤ f.2) = true) : fd m (fs.drop k) = fd (cut m f.1) (fs.drop (k + 1)) := by
  rw [drop_at h, fd, hg, if_pos (of_decide_eq_true hd)]
theorem fd_miss {m : Int → Option Key} {fs : List Flr} {k : Nat} {f : Flr} {g : Key} (h : fs[k]? = some f) (hg : mget m f.1 = g) (hd : decide (g.1 ≤ f.2) = false) : fd m (fs.drop k) = fd m (fs.drop (k + 1)) := by
  rw [drop_at h, fd, hg, if_neg (of_decide_eq_false hd)]

set_option maxHeartbeats 8000000 in
set_option maxRecDepth 100000 in
theorem idrop_any (bm n : Nat) (D : DataW Key) (m : Int → Option Key) (af : Option Addr) (nf cf : Nat) (fs : List Flr) (hfit : ∀ (k : Nat) (x : Flr), fs[k]? = some x → FitN x.1) (hsm : SmlM m) (w : World) (hnf : nf ≤ 1000000)
    (hm : OwM w bm n D) (hv : MapV D m) (hx : Rw encF 2 w (.slice af nf cf) fs) :
    Calls Tryz.prog 50 #[.map (some bm), .slice af nf cf] w fun e w' => e = .returned (.tuple #[]) ∧ (∃ D', OwM w' bm n D' ∧ MapV D' (fd m fs) ∧ SmlM (fd m fs)) ∧ w.grownBy w' (some bm) := by
  have HX := hide hx
  have HM := hide hm
  have HV := hide hv
  have HS := hide hsm
  have HFT := hide hfit
  clear hx hm hv hsm hfit
  go_enter Tryz.func50, Tryz.ntmps50
  go_wp2
  go_loopw [8] (fun i wr => ∃ (k : Nat) (D' : DataW Key) (m' : Int → Option Key), k ≤ nf ∧ i = .int .i64 k ∧ OwM wr bm n D' ∧ MapV D' m' ∧ SmlM m' ∧ fd m' (fs.drop k) = fd m fs ∧ w.grownBy wr (some bm)) (fun i _ => nf - (intOf i).toNat)
  case atStart => exact ⟨0, D, m, Nat.zero_le _, rfl, unhide HM, unhide HV, unhide HS, rfl, grown_refl _ _⟩
  case round =>
    obtain ⟨k, D', m', hk, rfl, hM, hV, hS, hrec, hgr⟩ := hrel
    have HM1 := hide hM
    have HV1 := hide hV
    have HS1 := hide hS
    have HR := hide hrec
    have HG := hide hgr
    have RX := hide ((unhide HX).beside encF_len (by omega) (unhide HM) hgr)
    clear hM hV hS hrec hgr
    by_cases hlt : k < nf
    · obtain ⟨x, b, off, hx, rfl, hb, hcap, hc⟩ := (unhide RX).at hlt
      have c0 : wr.cell? ⟨b, off + k * 2, none⟩ = some (.int .i64 x.1) := hc 0 (by omega)
      have c1 : wr.cell? ⟨b, off + k * 2 + 1, none⟩ = some (.int .i64 x.2) := hc 1 (by omega)
      have hid := unhide HFT k x hx
      obtain ⟨g, hg⟩ : ∃ g, mget m' x.1 = g := ⟨_, rfl⟩
      have HMW := hide (owm_later (unhide HM1) ((Below.refl wr.heap.size wr).alloc (Nat.le_refl _) (.cells #[.int .i64 x.1, .int .i64 x.2] 84)))
      have hlk := look (unhide HMW) (unhide HV1) hid
      rw [hg] at hlk
      have HK := hide (kof hid)
      have hf0 := field0 g
      rcases Bool.eq_false_or_eq_true (decide (g.1 ≤ x.2)) with hle | hle
      · have HE := hide (fd_hit hx hg hle)
        rw [unhide HR] at HE
        clear hc hx hg hid
        go_wp2_with (first | (at_delete; refine wpList_delete_own _ rfl _ _ 69 3 rfl 38 klaw Tryz.underlying69 RK bm n D' rfl (unhide HMW) _ _ rfl (unhide HK) ?_; intro w1 hM2 ht2; have HM2 := hide hM2; have HT2 := hide ht2.grown; clear hM2 ht2))
        go_roundw
        case rel => exact ⟨k + 1, _, cut m' x.1, by omega, by go_num, unhide HM2, (unhide HV1).del _, cut_sml (unhide HS1) _, (unhide HE).symm, grown_trans2 (unhide HG) (grown_trans2 (World.grownBy_alloc _ _ _) (unhide HT2))⟩
        case measure => simp [intOf]; omega
      · have HE := hide (fd_miss hx hg hle)
        rw [unhide HR] at HE
        clear hc hx hg hid
        go_wp2
        go_roundw
        case rel => exact ⟨k + 1, D', m', by omega, by go_num, unhide HMW, unhide HV1, unhide HS1, (unhide HE).symm, grown_trans2 (unhide HG) (World.grownBy_alloc _ _ _)⟩
        case measure => simp [intOf]; omega
    · have HE : Hid (m' = fd m fs) := by
        have h := unhide HR
        rw [drop_end (unhide HX).len.1 hk hlt] at h
        exact hide h
      go_wp2
      go_end0
      exact ⟨rfl, ⟨D', unhide HM1, unhide HE ▸ unhide HV1, unhide HE ▸ unhide HS1⟩, unhide HG⟩
end Go.Proofs.YtdpaocikmijioabGreat

namespace Go.Proofs.YtdpaocikmijioabGreat
open Go.RowKit Go.Maps

theorem ent_cons (x : Itm) (r : List Itm) (id : Int) : ent (x :: r) id = if x.1 = id then some x.2 else ent r id := by
  unfold ent
  rw [List.find?_cons]
  by_cases h : x.1 = id
  · simp [h]
  · rw [show (x.1 == id) = false by simpa using h, if_neg h]
theorem fm_ent : ∀ (xs : List Itm) (m : Int → Option Key), xs.Pairwise (fun a b => a.1 < b.1) → ∀ id, fm m xs id = (match ent xs id with
    | some e => some (mx (mget m id) e)
    | none => m id)
  | [], m, _, id => rfl
  | x :: r, m, h, id => by
    obtain ⟨h1, h2⟩ := List.pairwise_cons.1 h
    rw [fm, fm_ent r _ h2 id, ent_cons]
    by_cases hx : x.1 = id
    · subst hx
      have : ent r x.1 = none := by
        cases hq : ent r x.1 with
        | none => rfl
        | some e => have := h1 _ ((ent_iff h2).1 hq); simp at this
      rw [this]
      simp [upd]
    · rw [if_neg hx]
      have hu : upd m x.1 (mx (mget m x.1) x.2) id = m id := by rw [upd, if_neg (Ne.symm hx)]
      have hg : mget (upd m x.1 (mx (mget m x.1) x.2)) id = mget m id := by rw [mget, hu, mget]
      rw [hu, hg]
theorem mx_zero {e : Key} (h : 1 ≤ e.1) : mx zeroK e = e := by
  have : keyC zeroK e < 0 := by
    have : cmpI 0 e.1 = -1 := by unfold cmpI; rw [if_pos (by omega)]
    unfold keyC lexC
    rw [show zeroK.1 = 0 from rfl, this]
    simp
  rw [mx, if_pos this]
theorem fd_none : ∀ (fs : List Flr) (m : Int → Option Key) (id : Int), m id = none → fd m fs id = none
  | [], _, _, h => h
  | f :: r, m, id, h => by
    rw [fd]
    refine fd_none r _ id ?_
    split
    · rw [cut]; split
      · rfl
      · exact h
    · exact h
theorem fd_at : ∀ (fs : List Flr) (m : Int → Option Key), fs.Pairwise (fun a b => a.1 < b.1) → (∀ f ∈ fs, 1 ≤ f.2) → ∀ (id : Int) (e : Key), m id = some e → 1 ≤ e.1 → fd m fs id = if e.1 ≤ flo fs id then none else some e
  | [], m, _, _, id, e, h, he => by rw [fd, h, if_neg (by show ¬ e.1 ≤ 0; omega)]
  | f :: r, m, hp, h1, id, e, h, he => by
    obtain ⟨p1, p2⟩ := List.pairwise_cons.1 hp
    rw [fd]
    by_cases hf : f.1 = id
    · have hfl : flo (f :: r) id = f.2 := flo_mem hp (by rw [← hf]; simp)
      have hg : mget m f.1 = e := by rw [mget, hf, h]; rfl
      rw [hfl, hg]
      by_cases hle : e.1 ≤ f.2
      · rw [if_pos hle, if_pos hle]
        exact fd_none r _ id (by rw [cut, if_pos hf.symm])
      · rw [if_neg hle, if_neg hle, fd_at r m p2 (fun g hg => h1 g (by simp [hg])) id e h he]
        have : flo r id = 0 := by
          by_cases hc : flo r id = 0
          · exact hc
          · have := p1 _ ((flo_pos p2 hc).1 rfl)
            simp only at this; omega
        rw [this, if_neg (by omega)]
    · have hfl : flo (f :: r) id = flo r id := by
        unfold flo
        rw [List.find?_cons, show (f.1 == id) = false by simpa using hf]
      rw [hfl]
      refine fd_at r _ p2 (fun g hg => h1 g (by simp [hg])) id e ?_ he
      split
      · rw [cut, if_neg (Ne.symm hf)]; exact h
      · exact h
section
variable {xs ys : List Itm} {fs gs : List Flr}
theorem map_join (hx : OkS xs fs) (hy : OkS ys gs) (id : Int) : fm (fm (fun _ => none) xs) ys id = jE (ent xs id) (ent ys id) := by
  have h1 : fm (fun _ => none) xs id = ent xs id := by
    rw [fm_ent xs _ hx.px]
    cases hq : ent xs id with
    | none => rfl
    | some e =>
      show some (mx zeroK e) = _
      rw [mx_zero (okE_inc (hx.ent_in hq).2.2.1).1]
  rw [fm_ent ys _ hy.px]
  cases hq : ent ys id with
  | none =>
    rw [h1]
    cases ent xs id <;> rfl
  | some e =>
    show some (mx (mget (fm (fun _ => none) xs) id) e) = _
    rw [mget, h1]
    cases ent xs id with
    | none => show some (mx zeroK e) = some e; rw [mx_zero (okE_inc (hy.ent_in hq).2.2.1).1]
    | some d => rfl
theorem map_end (hx : OkS xs fs) (hy : OkS ys gs) (x : Itm) : x ∈ joinI xs fs ys gs ↔ FitN x.1 ∧ fd (fm (fm (fun _ => none) xs) ys) (joinF fs gs) x.1 = some x.2 := by
  have hm := map_join hx hy x.1
  rw [joinI, mem_jI]
  cases hj : jE (ent xs x.1) (ent ys x.1) with
  | none =>
    rw [hj] at hm
    rw [fd_none _ _ _ hm]
    simp
  | some e =>
    rw [hj] at hm
    have hin := hx.jE_in hy hj
    have he := okE_inc hin.2.2
    rw [fd_at (joinF fs gs) _ (jF_pair 5) (fun f hf => (mem_jF.1 hf).2.2.1) x.1 e hm he.1, join_flo hx hy]
    constructor
    · rintro ⟨_, _, h3, h4⟩
      cases h3
      rw [if_neg (by omega)]
      exact ⟨by unfold FitN; omega, rfl⟩
    · rintro ⟨_, h⟩
      split at h
      · cases h
      · cases h
        exact ⟨hin.1, by omega, rfl, by omega⟩
end
end Go.Proofs.YtdpaocikmijioabGreat
