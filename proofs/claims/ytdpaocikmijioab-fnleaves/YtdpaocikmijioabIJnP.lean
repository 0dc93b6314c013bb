/-
  spec.DrawEntryOf, spec.DrawLookup, spec.DrawSlice: some state, with short texts, and some Id, or some leaves; nothing that was there turns. No statement is proved here.
  Two entries are equal where the order says so. No statement is proved here.
  The program's joinFloors. No statement is proved here.
  A row that came in as an argument: what it reads as. No statement is proved here.
  A state that came in as an argument: its value written out, and what its rows read as. No statement is proved here.
  A map from nodes to entries, as a function. No statement is proved here.
  The program's joinItems and dropOver: what they do to the map. No statement is proved here.
  What the map holds behind both states' items and the floors: the joined items. No program here, no statement is proved here.
-/
import Derived.Test.YtdpaocikmijioabL3W
import Derived.Test.YtdpaocikmijioabFldT
import Derived.Test.YtdpaocikmijioabEntP
import Derived.Laws.StructEq
import Derived.Test.YtdpaocikmijioabStJP
import Derived.Test.YtdpaocikmijioabApp2
import Derived.Test.YtdpaocikmijioabIStOk
import Derived.Test.YtdpaocikmijioabStT
import Derived.Test.YtdpaocikmijioabStM
import Derived.Test.YtdpaocikmijioabRw
import Derived.ProofKit
import Derived.ChangeArms
import Derived.Deep.Slices
import Derived.Test.YtdpaocikmijioabStA
import Derived.Maps.RangeWalk
import Derived.Maps.OwnSet
import Derived.Maps.OwnOps
import Derived.Maps.Ext
import Derived.Test.YtdpaocikmijioabSt3
import Derived.Deep.RegionHeld3
import Derived.Test.YtdpaocikmijioabVwP
namespace Go.Proofs.Ytdpaocikmijioab
open Go.RowKit

theorem blk_cells1 {w : World} {g : Nat} {T : TypeId} {c0 : Value} (h : w.heap[g]? = some (.cells #[c0] T (0, 0))) : w.cell? ⟨g, 0, none⟩ = some c0 ∧ ∀ o, w.frozen? ⟨g, o, none⟩ = false := by
  simp [World.cell?, World.frozen?, h]
theorem keep12 {P W : World} {g h s : Nat} {e0 e1 e2 e3 e4 f0 f1 f2 f3 f4 s0 s1 : Value} (hg : g < P.heap.size) (hh : h < P.heap.size) (hs : s < P.heap.size)
    (c0 : P.cell? ⟨g, 0, none⟩ = some e0) (c1 : P.cell? ⟨g, 1, none⟩ = some e1) (c2 : P.cell? ⟨g, 2, none⟩ = some e2) (c3 : P.cell? ⟨g, 3, none⟩ = some e3) (c4 : P.cell? ⟨g, 4, none⟩ = some e4)
    (d0 : P.cell? ⟨h, 0, none⟩ = some f0) (d1 : P.cell? ⟨h, 1, none⟩ = some f1) (d2 : P.cell? ⟨h, 2, none⟩ = some f2) (d3 : P.cell? ⟨h, 3, none⟩ = some f3) (d4 : P.cell? ⟨h, 4, none⟩ = some f4)
    (k0 : P.cell? ⟨s, 0, none⟩ = some s0) (k1 : P.cell? ⟨s, 1, none⟩ = some s1) (b : Below P.heap.size P W) :
    Below P.heap.size P W ∧ W.cell? ⟨g, 0, none⟩ = some e0 ∧ W.cell? ⟨g, 1, none⟩ = some e1 ∧ W.cell? ⟨g, 2, none⟩ = some e2 ∧ W.cell? ⟨g, 3, none⟩ = some e3 ∧ W.cell? ⟨g, 4, none⟩ = some e4 ∧ W.cell? ⟨h, 0, none⟩ = some f0 ∧ W.cell? ⟨h, 1, none⟩ = some f1 ∧ W.cell? ⟨h, 2, none⟩ = some f2 ∧ W.cell? ⟨h, 3, none⟩ = some f3 ∧ W.cell? ⟨h, 4, none⟩ = some f4 ∧ W.cell? ⟨s, 0, none⟩ = some s0 ∧ W.cell? ⟨s, 1, none⟩ = some s1 := by
  have t : ∀ {q o : Nat} {v : Value}, q < P.heap.size → P.cell? ⟨q, o, none⟩ = some v → W.cell? ⟨q, o, none⟩ = some v := fun {q o v} hq c => (b.cell (p := ⟨q, o, none⟩) hq).trans c
  exact ⟨b, t hg c0, t hg c1, t hg c2, t hg c3, t hg c4, t hh d0, t hh d1, t hh d2, t hh d3, t hh d4, t hs k0, t hs k1⟩
theorem entR_of {xs ys : List Itm} {id : Int} (h : ent ys id = ent xs id) : entR ys id = entR xs id := by unfold entR; rw [h]
theorem entR_none {xs : List Itm} {id : Int} (h : ent xs id = none) : entR xs id = (zeroK, false) := by unfold entR; rw [h]
theorem entR_leaf {xs : List Itm} {id l : Int} (h : lf id = l) : entR (slI [l] xs) id = entR xs id := entR_of (by rw [ent_sl, hasN_one, h]; simp)
theorem entR_else {xs : List Itm} {id l m : Int} (h : lf id = l) (hm : m ≠ l) : entR (slI [m] xs) id = (zeroK, false) := entR_none (by rw [ent_sl, hasN_one, h, if_neg (by simpa using hm)])
theorem sc_none {xs : List Itm} {fs : List Flr} {ok : Bool} (h : okS xs fs = ok) : scI ok [-1] xs = [] := by
  cases ok
  · rfl
  · have hx := (okS_iff _ _).1 h
    show slI [-1] xs = []
    refine List.filter_eq_nil_iff.2 fun x hm => ?_
    have h1 := lf_in (inB_iff.2 ⟨(hx.ix x hm).1, (hx.ix x hm).2.1⟩)
    rw [hasN_one]
    simp
    omega
/-- While a state and more are drawn: the cursor g, the result in the call's first block, the state in block b. -/
structure Q6 (w X : World) (g : Nat) (v : Value) (xs : List Int) (b : Nat) (v1 v2 : Value) (its : List Itm) (fls : List Flr) : Prop where
  bel : Below w.heap.size w X
  cu : Cur X g v xs
  hg : w.heap.size < g
  hb : g < b
  k0 : X.heap[w.heap.size]? = some (StB (.slice none 0 0) (.slice none 0 0))
  k1 : X.heap[b]? = some (StB v1 v2)
  oi : OwI w.heap.size X v1 its
  of : OwF w.heap.size X v2 fls
  li : its.length ≤ 6
  lf : fls.length ≤ 6
  ni : Nine its
section
variable {w X Y : World} {b g : Nat} {v : Value} {xs : List Int} {v1 v2 : Value} {its : List Itm} {fls : List Flr}
theorem Q6.gl (h : Q6 w X g v xs b v1 v2 its fls) : g < X.heap.size := cur_lt h.cu
theorem Q6.bl (h : Q6 w X g v xs b v1 v2 its fls) : b < X.heap.size := (Array.getElem?_eq_some_iff.1 h.k1).1
theorem Q6.call (h : Q6 w X g v xs b v1 v2 its fls) (hc : Cur Y g v xs) (hg : X.grownBy Y (some g)) : Q6 w Y g v xs b v1 v2 its fls := by
  obtain ⟨⟨i, q, hk, _⟩, _⟩ := h.cu
  have h1 := h.hg
  have h2 := h.hb
  exact ⟨h.bel.grown hg h.bel.size (fun q hq => by simp at hq; omega), hc, h.hg, h.hb, blk_grown hg h.k0 (by omega), blk_grown hg h.k1 (by omega), h.oi.other hk (by decide) hg, h.of.other hk (by decide) hg, h.li, h.lf, h.ni⟩
theorem Q6.later (h : Q6 w X g v xs b v1 v2 its fls) (bl : Below X.heap.size X Y) : Q6 w Y g v xs b v1 v2 its fls := by
  have h1 := h.hg
  have h3 := h.gl
  exact ⟨h.bel.trans (bl.mono h.bel.size), h.cu.later bl (Nat.le_refl _), h.hg, h.hb, (bl.block _ (by omega)).trans h.k0, (bl.block _ h.bl).trans h.k1, h.oi.later bl, h.of.later bl, h.li, h.lf, h.ni⟩
theorem Q6.drewH (h : Hid (Q6 w X g v xs b v1 v2 its fls)) : Hid (Q6 w X.drew g v xs b v1 v2 its fls) := hide ((unhide h).later (Below.refl _ _).drew)
theorem Q6.fin (h : Q6 w X g v xs b v1 v2 its fls) : T3 w ((X.setCell ⟨w.heap.size, 0, none⟩ v1).setCell ⟨w.heap.size, 1, none⟩ v2) v1 v2 its fls := by
  have hg := grown_set2 X w.heap.size v1 v2
  exact ⟨(h.bel.setCell (p := ⟨w.heap.size, 0, none⟩) (Nat.le_refl _) _).setCell (p := ⟨w.heap.size, 1, none⟩) (Nat.le_refl _) _, h.oi.other h.k0 (by decide) hg, h.of.other h.k0 (by decide) hg, h.li, h.lf, h.ni⟩
theorem kQ6 (h : Hid (Q6 w X g v xs b v1 v2 its fls)) : X.cell? ⟨b, 0, none⟩ = some v1 ∧ X.cell? ⟨b, 1, none⟩ = some v2 := by
  obtain ⟨p0, p1, _⟩ := blk_cells2 (unhide h).k1
  exact ⟨p0, p1⟩
theorem kQ6s (h : Hid (Q6 w X g v xs b v1 v2 its fls)) (x y : Value) : ((X.setCell ⟨w.heap.size, 0, none⟩ x).setCell ⟨w.heap.size, 1, none⟩ y).cell? ⟨b, 0, none⟩ = some v1 ∧ ((X.setCell ⟨w.heap.size, 0, none⟩ x).setCell ⟨w.heap.size, 1, none⟩ y).cell? ⟨b, 1, none⟩ = some v2 := by
  obtain ⟨p0, p1⟩ := kQ6 h
  have := (unhide h).hg; have := (unhide h).hb
  exact ⟨farT (by omega) p0, farT (by omega) p1⟩
end
theorem T3.resd {w X : World} {O : Obj} {v1 v2 : Value} {its : List Itm} {fls : List Flr} (hO : O = StB (.slice none 0 0) (.slice none 0 0)) (h : T3 (w.alloc O) X v1 v2 its fls) : T3 w ((X.setCell ⟨w.heap.size, 0, none⟩ v1).setCell ⟨w.heap.size, 1, none⟩ v2) v1 v2 its fls := by
  have hg := grown_set2 X w.heap.size v1 v2
  have hs : (w.alloc O).heap.size = w.heap.size + 1 := by simp
  have bA : Below w.heap.size w (w.alloc O) := (Below.refl _ _).alloc (Nat.le_refl _) _
  have k0 := (h.bel.block w.heap.size (by omega)).trans (heap_alloc_new w O)
  rw [hO] at k0
  have bl := bA.trans (h.bel.mono (by omega))
  exact ⟨(bl.setCell (p := ⟨w.heap.size, 0, none⟩) (Nat.le_refl _) _).setCell (p := ⟨w.heap.size, 1, none⟩) (Nat.le_refl _) _, Ow.base (h.oi.other k0 (by decide) hg) (by omega), Ow.base (h.of.other k0 (by decide) hg) (by omega), h.li, h.lf, h.ni⟩
set_option maxHeartbeats 8000000 in
set_option maxRecDepth 100000 in
theorem drawent_any (v : Value) (xs : List Int) (w : World) (hlen : xs.length ≤ 1048576) (hbd : ∀ z ∈ xs, 0 ≤ z ∧ z ≤ 255) (hv : Seg w v xs) :
    Calls Try.prog 45 #[v] w fun e w' => ∃ a1 n1 c1 a2 n2 c2 its fls id, e = .returned (.tuple #[.agg #[.slice a1 n1 c1, .slice a2 n2 c2], .int .i64 id]) ∧ (-1 ≤ id ∧ id ≤ 5) ∧ T3 w w' (.slice a1 n1 c1) (.slice a2 n2 c2) its fls := by
  have HD := hide hbd
  have bA : Below w.heap.size w (w.alloc (StB (.slice none 0 0) (.slice none 0 0))) := (Below.refl _ _).alloc (Nat.le_refl _) _
  have HS := hide (hv.below bA (Nat.le_refl _))
  have BA := hide bA
  clear hbd hv bA
  go_enter Try.func45, Try.ntmps45
  go_wp2_with fail
  refine (new_any v xs _ hlen (unhide HD) (unhide HS)).mono ?_
  rintro e w1 ⟨rfl, c1, b1, s1⟩
  have hw0 : (w.alloc (StB (.slice none 0 0) (.slice none 0 0))).heap.size = w.heap.size + 1 := by simp
  have B1 := hide ((unhide BA).trans (b1.mono (by rw [hw0]; omega)))
  have K1 := hide ((b1.block _ (by rw [hw0]; omega)).trans (heap_alloc_new w _))
  rw [hw0] at c1 s1
  have C1 := hide c1
  obtain ⟨g, hg⟩ : ∃ g, g = w.heap.size + 1 := ⟨_, rfl⟩
  rw [hw0, ← hg]
  rw [← hg] at C1
  have hgA : w.heap.size < g := by omega
  clear hg c1 b1 s1 hw0 HS BA
  go_wp2_with fail
  refine (l3draw_any g v xs _ hlen (unhide HD) (unhide C1)).mono ?_
  rintro e w2 ⟨a1, n1, c1, a2, n2, c2, its, fls, rfl, d⟩
  go_upto_region 3 with fail
  obtain ⟨wa, hwa⟩ : ∃ W, W = w2.alloc (StB (.slice a1 n1 c1) (.slice a2 n2 c2)) := ⟨_, rfl⟩
  obtain ⟨b, hb⟩ : ∃ b, b = w2.heap.size := ⟨_, rfl⟩
  rw [← hwa, ← hb]
  have hgb : g < b := by rw [hb]; exact Nat.lt_of_lt_of_le (cur_lt (unhide C1)) d.gr.size
  have Q := hide (show Q6 w wa g v xs b (.slice a1 n1 c1) (.slice a2 n2 c2) its fls from by
    have t := T3.of_draw (unhide B1) (by omega) d
    have bl : Below w2.heap.size w2 wa := by rw [hwa]; exact (Below.refl _ _).alloc (Nat.le_refl _) _
    exact ⟨t.bel.trans (bl.mono t.bel.size), d.cu.later bl (Nat.le_refl _), hgA, hgb, (bl.block _ (by have := (Array.getElem?_eq_some_iff.1 (blk_grown d.gr (unhide K1) (by omega))).1; omega)).trans (blk_grown d.gr (unhide K1) (by omega)), by rw [hwa, hb]; exact heap_alloc_new _ _, t.oi.later bl, t.of.later bl, t.li, t.lf, t.ni⟩)
  clear d hwa hb C1 B1 K1
  have hbl := (unhide Q).bl
  have QD := Q6.drewH Q
  have hbw : w.heap.size < b := by omega
  go_region_held3 (fun W => W.cell? ⟨b, 0, none⟩ = some (.slice a1 n1 c1) ∧ W.cell? ⟨b, 1, none⟩ = some (.slice a2 n2 c2))
    (first | (with_reducible exact kQ6 Q) | (with_reducible exact kQ6 QD) | (with_reducible exact kQ6 QC) | (with_reducible exact kQ6s QC _ _))
    (first | (go_at_call 69; refine (below_any g v xs 7 _ hlen (unhide HD) (by omega) (by omega) (unhide QD).cu).mono ?_; rintro e w3 ⟨⟨x, rfl, xa, xb⟩, c3, g3⟩; have QC := hide ((unhide QD).call c3 g3); obtain ⟨r0, r1, rz⟩ := blk_cells2 (unhide QC).k0; have hl3 := (unhide QC).bl; have HWX : Hid (IntKind.i64.wrap (x - 1) = x - 1) := hide (by rw [IntKind.wrap_i64]; omega); clear c3 g3))
  all_goals go_wp2
  all_goals exact bodyPost_ret (v := .tuple #[.agg #[.slice a1 n1 c1, .slice a2 n2 c2], .int .i64 (x - 1)]) (by simp [results, Try.results45, go_sem, r0, r1, unhide HWX]) rfl ⟨_, _, _, _, _, _, _, _, _, rfl, ⟨by omega, by omega⟩, (unhide QC).fin⟩
--@if spec.DrawLookup
set_option maxHeartbeats 4000000 in
set_option maxRecDepth 100000 in
theorem drawlookup_any (v : Value) (xs : List Int) (w : World) (hlen : xs.length ≤ 1048576) (hbd : ∀ z ∈ xs, 0 ≤ z ∧ z ≤ 255) (hv : Seg w v xs) :
    Calls Try.prog 14 #[v] w fun e w' => ∃ a1 n1 c1 a2 n2 c2 its fls id, e = .returned (.tuple #[.agg #[.slice a1 n1 c1, .slice a2 n2 c2], .int .i64 id]) ∧ (-1 ≤ id ∧ id ≤ 5) ∧ T3 w w' (.slice a1 n1 c1) (.slice a2 n2 c2) its fls := by
  have HD := hide hbd
  have bA : Below w.heap.size w (w.alloc (StB (.slice none 0 0) (.slice none 0 0))) := (Below.refl _ _).alloc (Nat.le_refl _) _
  have HS := hide (hv.below bA (Nat.le_refl _))
  clear hbd hv bA
  go_enter Try.func14, Try.ntmps14
  go_wp2_with fail
  refine (drawent_any v xs _ hlen (unhide HD) (unhide HS)).mono ?_
  rintro e w1 ⟨a1, n1, c1, a2, n2, c2, its, fls, id, rfl, hid, t⟩
  have T := hide (T3.resd rfl t)
  have HI := hide hid
  obtain ⟨r0, r1, rz⟩ := blk_cells2 ((t.bel.block w.heap.size (by simp)).trans (heap_alloc_new w _))
  clear t HS hid
  go_wp2
  exact bodyPost_ret (v := .tuple #[.agg #[.slice a1 n1 c1, .slice a2 n2 c2], .int .i64 id]) (by simp [results, Try.results14, go_sem, r0, r1]) rfl ⟨_, _, _, _, _, _, _, _, _, rfl, unhide HI, unhide T⟩
--@end
--@end
end Go.Proofs.Ytdpaocikmijioab

namespace Go.Proofs.Ytdpaocikmijioab
open Go.RowKit

theorem eq_iff (ai ar ab av : Int) (ad : ByteArray) (bi br bb bv : Int) (bd : ByteArray) : cmpE ai ar ab av ad bi br bb bv bd = 0 ↔ ai = bi ∧ ar = br ∧ ab = bb ∧ av = bv ∧ ad.toList = bd.toList := by
  rw [cmpE_key, keyC_is.zero]
  simp only [Prod.mk.injEq]
  refine ⟨fun ⟨h0, h1, h2, h3, h4⟩ => ⟨h0, h1, h2, h3, by rw [h4]⟩, fun ⟨h0, h1, h2, h3, h4⟩ => ⟨h0, h1, h2, h3, ?_⟩⟩
  rw [Lib.toList_data, Lib.toList_data] at h4
  obtain ⟨⟨x⟩⟩ := ad
  obtain ⟨⟨y⟩⟩ := bd
  simp at h4
  rw [h4]
theorem eq_run (ai ar ab av : Int) (ad : ByteArray) (bi br bb bv : Int) (bd : ByteArray) (W : World) : (Op.equalIn 10000 38 (.agg #[.int .i64 ai, .int .i64 ar, .int .i64 ab, .int .i64 av, .string ad]) (.agg #[.int .i64 bi, .int .i64 br, .int .i64 bb, .int .i64 bv, .string bd])).run Try.prog W = .ok (decide (cmpE ai ar ab av ad bi br bb bv bd = 0)) W := by
  have e : decide (cmpE ai ar ab av ad bi br bb bv bd = 0) = decide (ai = bi ∧ ar = br ∧ ab = bb ∧ av = bv ∧ ad.toList = bd.toList) := decide_eq_decide.mpr (eq_iff ai ar ab av ad bi br bb bv bd)
  rw [e]
  go_simp
  repeat' split
  all_goals simp_all
end Go.Proofs.Ytdpaocikmijioab

namespace Go.Proofs.Ytdpaocikmijioab
open Go.RowKit

set_option maxHeartbeats 8000000 in
set_option maxRecDepth 100000 in
theorem ijoinf_any (vi : Value) (af : Option Addr) (nf cf : Nat) (fs : List Flr) (vj : Value) (bf : Option Addr) (mf df : Nat) (gs : List Flr) (w : World)
    (hnf : nf ≤ 140737488351232) (hmf : mf ≤ 140737488351232) (hf : Rw encF 2 w (.slice af nf cf) fs) (hg : Rw encF 2 w (.slice bf mf df) gs) :
    Calls Try.prog 39 #[.agg #[vi, .slice af nf cf], .agg #[vj, .slice bf mf df]] w fun e w' => ∃ a2 n2 c2, e = .returned (.slice a2 n2 c2) ∧ OwF w.heap.size w' (.slice a2 n2 c2) (joinF fs gs) ∧ Below w.heap.size w w' := by
  obtain ⟨i1, gi, gz0, gz1, gz2⟩ := info_parts Try.infoFloor
  have HF := hide hf
  have HG := hide hg
  clear hf hg
  go_enter Try.func39, Try.ntmps39
  go_wp2
  go_loopw [5, 8] (fun v i wr => ∃ (k : Nat) (a2 : Option Addr) (n2 c2 : Nat), k ≤ 5 ∧ i = .int .i64 k ∧ v = .slice a2 n2 c2 ∧ OwF w.heap.size wr (.slice a2 n2 c2) (jF fs gs k) ∧ Below w.heap.size w wr ∧ wr.heap[w.heap.size]? = some (.cells #[vi, .slice af nf cf] 27 (0, 0)) ∧ wr.heap[w.heap.size + 1]? = some (.cells #[vj, .slice bf mf df] 27 (0, 0))) (fun _ i _ => 5 - (intOf i).toNat)
  case atStart => exact ⟨0, none, 0, 0, by omega, rfl, rfl, World.ownsRow_nil _ _ _ _, ((Below.refl _ _).alloc (Nat.le_refl _) _).alloc (by simp) _, lowB2 w _ _, newB2 w _ _⟩
  case round =>
    obtain ⟨k, a2, n2, c2, hk, rfl, rfl, hown, hbel, ka, kb⟩ := hrel
    have HO := hide hown
    have HB := hide hbel
    have KA := hide ka
    have KB := hide kb
    have hsz := hbel.size
    have hz : w.heap.size + 1 < wr.heap.size := (Array.getElem?_eq_some_iff.mp kb).1
    obtain ⟨pa0, pa1, -⟩ := blk_cells2 ka
    obtain ⟨pb0, pb1, -⟩ := blk_cells2 kb
    clear hown ka kb
    by_cases hlt : k < 5
    · obtain ⟨fa, hfa⟩ : ∃ fa, flo fs k = fa := ⟨_, rfl⟩
      obtain ⟨fb, hfb⟩ : ∃ fb, flo gs k = fb := ⟨_, rfl⟩
      have HFA := hide hfa
      have HFB := hide hfb
      have HF0 : Hid (fl2 fs gs k = max fa fb) := hide (by rw [fl2, hfa, hfb]; split <;> omega)
      have hdk : decide ((k : Int) < 5) = true := by simp; omega
      clear hfa hfb
      have la0 := later_some (w := wr) (b := w.heap.size) (o := 0) (by omega) pa0
      have la1 := later_some (w := wr) (b := w.heap.size) (o := 1) (by omega) pa1
      have lb0 := later_some (w := wr) (b := w.heap.size + 1) (o := 0) (by omega) pb0
      have lb1 := later_some (w := wr) (b := w.heap.size + 1) (o := 1) (by omega) pb1
      have RF := hide ((unhide HF).later hbel)
      have RG := hide ((unhide HG).later hbel)
      clear hbel
      go_wp2_with fail
      refine wp_region_later (by kernel_rfl) (by kernel_rfl) ?_
      repeat (go_big_quiet_step (first
        | (go_at_call_of 43 (Value.slice af nf cf); exact Calls.later_of (ifloor_v _ af nf cf fs _ fa HFA _ hnf ((unhide RF).in_later _ _)))
        | (go_at_call_of 43 (Value.slice bf mf df); exact Calls.later_of (ifloor_v _ bf mf df gs _ fb HFB _ hmf ((unhide RG).in_later _ _)))))
      refine wpQuiet_nil ?_
      intro w1 hb1
      generalize hm : max fa fb = f at HF0 ⊢
      have HO1 := hide ((unhide HO).later hb1)
      have HB1 := hide ((unhide HB).trans (hb1.mono hsz))
      have KA1 := hide ((hb1.block _ (by omega)).trans (unhide KA))
      have KB1 := hide ((hb1.block _ (by omega)).trans (unhide KB))
      have hz1 : w.heap.size + 1 < w1.heap.size := Nat.lt_of_lt_of_le hz hb1.size
      have hn2 : Hid (n2 = (jF fs gs k).length) := hide ((unhide HO1).rw encF_len).len.1
      have hn2l : n2 ≤ 5 := by have := unhide hn2; have := jF_len fs gs k; omega
      clear hm hb1 la0 la1 lb0 lb1 RF RG pa0 pa1 pb0 pb1 HO HB KA KB HFA HFB hsz hz
      have hw1 : w.heap.size ≤ w1.heap.size := by omega
      rcases Bool.eq_false_or_eq_true (decide (0 < f)) with hpos | hpos
      · go_wp2_with (first | (at_builtin; refine wpList_app1 encF_len (by omega) oneF 35 25 i1 _ 16 Try.underlying25 gi gz0 gz1 gz2 rfl (by omega) w1 ((k : Int), f) rfl _ _ rfl w.heap.size _ (jF fs gs k) n2 hn2 rfl (unhide HO1) rfl (by omega) hw1 ?_; intro a2' c2' w2 hO hG; have HO2 := hide hO; have HB2 := hide ((Trn.of_grown hG).below (unhide HB1) hw1 (fun i q => (World.ownsRow.lt (unhide HO1) i q).1)); have HG2 := hide hG; clear hO hG))
        go_roundw
        case rel =>
          have hnA := own_ne (unhide HO1) (unhide KA1) (by decide)
          have hnB := own_ne (unhide HO1) (unhide KB1) (by decide)
          exact ⟨k + 1, a2', n2 + 1, c2', by omega, by go_num, rfl, by rw [jF_pos (by rw [unhide HF0]; exact hpos), unhide HF0]; exact unhide HO2, unhide HB2, ((unhide HG2).block _ (by omega) (fun q => hnA q.symm)).trans (unhide KA1), ((unhide HG2).block _ (by omega) (fun q => hnB q.symm)).trans (unhide KB1)⟩
        case measure => simp [intOf]; omega
      · go_wp2
        go_roundw
        case rel => exact ⟨k + 1, a2, n2, c2, by omega, by go_num, rfl, by rw [jF_neg (by rw [unhide HF0]; exact hpos)]; exact unhide HO1, unhide HB1, unhide KA1, unhide KB1⟩
        case measure => simp [intOf]; omega
    · have hdk : decide ((k : Int) < 5) = false := by simp; omega
      have HE : Hid (OwF w.heap.size wr (.slice a2 n2 c2) (joinF fs gs)) := by
        have h := unhide HO
        have e : k = 5 := by omega
        rw [e] at h
        exact hide h
      clear hbel HO
      go_wp2
      go_ret
      exact ⟨a2, n2, c2, rfl, unhide HE, unhide HB⟩
end Go.Proofs.Ytdpaocikmijioab

namespace Go.Proofs.Ytdpaocikmijioab
open Go.ChangeShapes Go.WideShapes Go.ChangeAt Go.RowKit

def FitN (n : Int) : Prop := -9223372036854775808 ≤ n ∧ n ≤ 9223372036854775807
theorem list_of {α : Type} {p : Nat → α → Prop} : ∀ (n : Nat), (∀ i, i < n → ∃ y, p i y) → ∃ xs : List α, xs.length = n ∧ ∀ (i : Nat) (y : α), xs[i]? = some y → p i y
  | 0, _ => ⟨[], rfl, fun i y h => by simp at h⟩
  | n + 1, h => by
    obtain ⟨xs, hl, hx⟩ := list_of n (fun i hi => h i (by omega))
    obtain ⟨y, hy⟩ := h n (by omega)
    refine ⟨xs ++ [y], by simp [hl], fun i z hz => ?_⟩
    by_cases hi : i < n
    · rw [List.getElem?_append_left (by omega)] at hz; exact hx i z hz
    · have hlt := (List.getElem?_eq_some_iff.1 hz).1
      simp [hl] at hlt
      obtain rfl : i = n := by omega
      rw [List.getElem?_append_right (by omega)] at hz
      simp [hl] at hz
      subst hz; exact hy

theorem fit_of {n : Int} (h : (Lit.int .i64 n).wf = true) : FitN n := by
  simp [Lit.wf, IntKind.min, IntKind.max, IntKind.bits, IntKind.signed] at h
  unfold FitN
  omega

theorem addr_off (b off i : Nat) : (⟨b, off, none⟩ : Addr).add i = ⟨b, off + i, none⟩ := by
  unfold Addr.add
  split
  · rename_i e; rw [e]; rfl
  · rfl

section
variable {H : Type} {enc : TypeId × Value → H} {w : World} {base : Nat} {spare : Nat → Bool} {held : Bool}

/-- A slice whose elements are structs. -/
theorem rw_of_slice {α : Type} {ec : α → List Value} {k : Nat} {Q : α → Prop} {T E : TypeId} (hT : Try.prog.underlying T = some (.slice E)) (hE : Try.prog.cellsOf E = k) (h0 : 0 < k)
    (dec : ∀ (fuel : Nat) (cs : List Value) (x : DataW H × List MemPlace), DataW.trod enc Try.prog w base spare held fuel E cs = some x → ∃ y, cs = ec y ∧ Q y)
    {fuel : Nat} {c : Value} {x : DataW H × List MemPlace} (h : DataW.trod enc Try.prog w base spare held fuel T [c] = some x) :
    ∃ a n cap xs, c = .slice a n cap ∧ n ≤ maxLen ∧ Rw ec k w (.slice a n cap) xs ∧ ∀ (i : Nat) (y : α), xs[i]? = some y → Q y := by
  rcases Deep.open_slice hT h with ⟨h1, -⟩ | ⟨a, len, cap, m, n, D, Pl, h1, hb, hl, hm, hmm, -, hx⟩
  · simp only [List.cons.injEq, and_true] at h1
    exact ⟨none, 0, 0, [], h1, by unfold maxLen; omega, Rw.nil, fun i y hy => by simp at hy⟩
  · simp only [List.cons.injEq, and_true] at h1
    subst h1
    have hlm : len ≤ m := by rw [hmm]; split <;> omega
    obtain ⟨xs, hxl, hxs⟩ := list_of (p := fun i y => (w.cells? base (a.add (i * k)) k = some (ec y)) ∧ Q y) len (fun i hi => by
      obtain ⟨cs', e1, e2⟩ := hx i (by omega)
      obtain ⟨y, rfl, hq⟩ := dec _ _ _ e2
      rw [hE] at e1
      exact ⟨y, e1, hq⟩)
    refine ⟨some a, len, cap, xs, rfl, by omega, ?_, fun i y hy => (hxs i y hy).2⟩
    subst hxl
    refine ⟨some a, cap, rfl, hl, ?_⟩
    by_cases hz : xs = []
    · exact .inl hz
    · have hpos : 0 < xs.length := List.length_pos_iff.2 hz
      have hc0 := (hxs 0 xs[0] (by simp [hpos])).1
      obtain ⟨_, hlen0, hcell0⟩ := World.cells?_some hc0
      have hc00 := hcell0 0 h0
      rw [List.getElem?_eq_getElem (by omega)] at hc00
      obtain ⟨b, off, spot⟩ := a
      have hspot : spot = none := by
        have := World.cell?_spot hc00
        simpa [Addr.add] using this
      subst hspot
      refine .inr ⟨b, off, rfl, by simpa [Addr.add] using World.block_lt_of_cell? w _ hc00, fun i y hy j hj => ?_⟩
      obtain ⟨_, _, hcell⟩ := World.cells?_some (hxs i y hy).1
      have := hcell j hj
      rw [Deep.add_add, addr_off] at this
      rw [Nat.add_assoc]
      exact this
end
end Go.Proofs.Ytdpaocikmijioab

namespace Go.Proofs.Ytdpaocikmijioab
open Go.ChangeShapes Go.WideShapes Go.ChangeAt Go.RowKit

def FitK (e : Key) : Prop := FitN e.1 ∧ FitN e.2.1 ∧ FitN e.2.2.1 ∧ FitN e.2.2.2.1
/-- Each number is one of this machine. -/
def FitI (xs : List Itm) : Prop := ∀ (k : Nat) (x : Itm), xs[k]? = some x → FitN x.1 ∧ FitK x.2
def FitF (fs : List Flr) : Prop := ∀ (k : Nat) (x : Flr), fs[k]? = some x → FitN x.1 ∧ FitN x.2

section
variable {H : Type} {enc : TypeId × Value → H} {w : World} {base : Nat} {spare : Nat → Bool} {held : Bool}

end
end Go.Proofs.Ytdpaocikmijioab

namespace Go.Proofs.Ytdpaocikmijioab
open Go.RowKit Go.Maps

/-- How an element of the map reads: as the entry that it is. -/
def RK : Value → Option (DataW Key × List MemPlace)
  | .agg cs => match cs.toList with
    | [.int .i64 i, .int .i64 r, .int .i64 b, .int .i64 v, .string d] => some (.held (i, r, b, v, d), [])
    | _ => none
  | _ => none
theorem RK_mk (e : Key) : RK (.agg #[.int .i64 e.1, .int .i64 e.2.1, .int .i64 e.2.2.1, .int .i64 e.2.2.2.1, .string e.2.2.2.2]) = some (.held e, []) := rfl
theorem RK_inv {v : Value} {z : DataW Key × List MemPlace} (h : RK v = some z) : ∃ e : Key, v = .agg #[.int .i64 e.1, .int .i64 e.2.1, .int .i64 e.2.2.1, .int .i64 e.2.2.2.1, .string e.2.2.2.2] ∧ z = (.held e, []) := by
  unfold RK at h
  split at h
  · rename_i cs
    split at h
    · rename_i i r b v d hcs
      cases h
      refine ⟨(i, r, b, v, d), ?_, rfl⟩
      obtain ⟨l⟩ := cs
      simp only at hcs
      rw [hcs]
    · cases h
  · cases h

theorem klaw : Keyed Try.prog 3 := int_keyed Try.underlying3
theorem wf_fit {n : Int} (h : FitN n) : (Lit.int .i64 n).wf = true := by
  unfold FitN at h
  simp [Lit.wf, IntKind.min, IntKind.max, IntKind.bits, IntKind.signed]
  omega
theorem kof {n : Int} (h : FitN n) : keyOf Try.prog 3 (.int .i64 n) = some (.int .i64 n) := keyOf_int_mk Try.underlying3 (wf_fit h)

/-- The map reads as the function m. -/
def MapV (D : DataW Key) (m : Int → Option Key) : Prop := ∀ id, FitN id → ∀ z, D.atKey (.int .i64 id) z = (match m id with
  | some e => .held e
  | none => z)
def upd (m : Int → Option Key) (id : Int) (e : Key) : Int → Option Key := fun j => if j = id then some e else m j
def cut (m : Int → Option Key) (id : Int) : Int → Option Key := fun j => if j = id then none else m j
def mget (m : Int → Option Key) (id : Int) : Key := (m id).getD zeroK
theorem MapV.nil : MapV (.map []) (fun _ => none) := fun _ _ _ => rfl
theorem lit_ne {a b : Int} (h : a ≠ b) : (Lit.int .i64 a) ≠ Lit.int .i64 b := fun e => h (by injection e)
theorem MapV.put {D : DataW Key} {m : Int → Option Key} (h : MapV D m) (hm : IsMap D) {id : Int} (hk : WideAt.IsKeyLit (Lit.int .i64 id)) (e : Key) : MapV (D.put (.int .i64 id) (.held e)) (upd m id e) := by
  intro j hj z
  unfold upd
  by_cases c : j = id
  · subst c
    rw [atKey_put_same hm hk, if_pos rfl]
  · rw [atKey_put_other (lit_ne c), if_neg c]
    exact h j hj z
theorem MapV.del {D : DataW Key} {m : Int → Option Key} (h : MapV D m) (id : Int) : MapV (D.del (.int .i64 id)) (cut m id) := by
  intro j hj z
  unfold cut
  by_cases c : j = id
  · subst c
    rw [atKey_del_same, if_pos rfl]
  · rw [atKey_del_other (lit_ne c), if_neg c]
    exact h j hj z
theorem key_lit (id : Int) : WideAt.IsKeyLit (Lit.int .i64 id) := trivial

theorem zeroE (w : World) : (zeroValue 38).run Try.prog w = .ok (.agg #[.int .i64 zeroK.1, .int .i64 zeroK.2.1, .int .i64 zeroK.2.2.1, .int .i64 zeroK.2.2.2.1, .string zeroK.2.2.2.2]) w := by kernel_rfl
theorem field0 (e : Key) (w : World) : (Instr.field 38 (.agg #[.int .i64 e.1, .int .i64 e.2.1, .int .i64 e.2.2.1, .int .i64 e.2.2.2.1, .string e.2.2.2.2]) 0).run Try.prog w = .ok (.int .i64 e.1) w := by
  have h := Try.underlying38
  have h3 := Try.underlying3
  simp [Instr.field, run_underlying h, asAgg, part, isAgg, sizeOf, run_underlying h3, typeInfo]
abbrev OwM (w : World) (b n : Nat) (D : DataW Key) : Prop := w.ownsMap Try.prog 3 RK b n D
/-- 'm[id]'. -/
theorem look {w : World} {b n : Nat} {D : DataW Key} {m : Int → Option Key} (h : OwM w b n D) (hv : MapV D m) {id : Int} (hid : FitN id) :
    (Instr.lookup 68 (.map (some b)) (.int .i64 id) false).run Try.prog w = .ok (.agg #[.int .i64 (mget m id).1, .int .i64 (mget m id).2.1, .int .i64 (mget m id).2.2.1, .int .i64 (mget m id).2.2.2.1, .string (mget m id).2.2.2.2]) w := by
  obtain ⟨v, ps, hrun, hR⟩ := h.lookup klaw Try.underlying68 (zeroE w) (RK_mk zeroK) (kof hid)
  obtain ⟨e, rfl, he⟩ := RK_inv hR
  rw [hrun]
  simp only [Prod.mk.injEq] at he
  have h1 := hv id hid (.held zeroK)
  rw [h1] at he
  have : mget m id = e := by
    unfold mget
    cases hm : m id with
    | none => rw [hm] at he; simp only [DataW.held.injEq] at he; exact he.1
    | some x => rw [hm] at he; simp only [DataW.held.injEq] at he; exact he.1
  rw [this]
end Go.Proofs.Ytdpaocikmijioab

namespace Go.Proofs.Ytdpaocikmijioab
open Go.RowKit Go.Maps

theorem imaxK_any (a b r : Key) (hr : Hid (mx a b = r)) (ha : a.2.2.2.2.size ≤ 1048576) (hb : b.2.2.2.2.size ≤ 1048576) (w : World) : Calls Try.prog 78 #[.agg #[.int .i64 a.1, .int .i64 a.2.1, .int .i64 a.2.2.1, .int .i64 a.2.2.2.1, .string a.2.2.2.2], .agg #[.int .i64 b.1, .int .i64 b.2.1, .int .i64 b.2.2.1, .int .i64 b.2.2.2.1, .string b.2.2.2.2]] w fun e w' => e = .returned (.agg #[.int .i64 r.1, .int .i64 r.2.1, .int .i64 r.2.2.1, .int .i64 r.2.2.2.1, .string r.2.2.2.2]) ∧ Below w.heap.size w w' := by
  refine imax_is _ _ _ _ _ _ _ _ _ _ _ _ _ _ _ ?_ (by omega) (by omega) w
  rw [isMax_mx]
  exact (unhide hr).symm

/-- The items laid into the map, one behind the other. -/
def fm (m : Int → Option Key) : List Itm → Int → Option Key
  | [] => m
  | x :: r => fm (upd m x.1 (mx (mget m x.1) x.2)) r
theorem fm_at {m : Int → Option Key} {xs : List Itm} {k : Nat} {x : Itm} (h : xs[k]? = some x) : fm m (xs.drop k) = fm (upd m x.1 (mx (mget m x.1) x.2)) (xs.drop (k + 1)) := by
  rw [drop_at h, fm]
def SmlM (m : Int → Option Key) : Prop := ∀ id e, m id = some e → e.2.2.2.2.size ≤ 1048576
theorem mget_sml {m : Int → Option Key} (h : SmlM m) (id : Int) : (mget m id).2.2.2.2.size ≤ 1048576 := by
  unfold mget
  cases hm : m id with
  | none => show (zeroK.2.2.2.2.size) ≤ _; exact Nat.zero_le _
  | some e => exact h id e hm
theorem mx_sml {a b : Key} (ha : a.2.2.2.2.size ≤ 1048576) (hb : b.2.2.2.2.size ≤ 1048576) : (mx a b).2.2.2.2.size ≤ 1048576 := by
  unfold mx
  split
  · exact hb
  · exact ha
theorem upd_sml {m : Int → Option Key} (h : SmlM m) (id : Int) {e : Key} (he : e.2.2.2.2.size ≤ 1048576) : SmlM (upd m id e) := by
  intro j x hx
  unfold upd at hx
  split at hx
  · cases hx; exact he
  · exact h j x hx
theorem cut_sml {m : Int → Option Key} (h : SmlM m) (id : Int) : SmlM (cut m id) := by
  intro j x hx
  unfold cut at hx
  split at hx
  · cases hx
  · exact h j x hx

theorem owm_later {w w' : World} {b n : Nat} {D : DataW Key} (h : OwM w b n D) (hb : Below w.heap.size w w') : OwM w' b n D := h.kept (grown_below none hb) (by simp)
/-- A row of cells is no map. -/
theorem Rw.beside {α : Type} {enc : α → List Value} {k : Nat} (hk : ∀ x, (enc x).length = k) (h0 : 0 < k) {w w' : World} {v : Value} {xs : List α} (h : Rw enc k w v xs) {b n : Nat} {D : DataW Key} (hm : OwM w b n D) (hg : w.grownBy w' (some b)) : Rw enc k w' v xs := by
  obtain ⟨a, cap, rfl, hcap, h⟩ := h
  refine ⟨a, cap, rfl, hcap, ?_⟩
  rcases h with h | ⟨g, off, rfl, hlt, hc⟩
  · exact .inl h
  · by_cases hz : xs = []
    · exact .inl hz
    · refine .inr ⟨g, off, rfl, Nat.lt_of_lt_of_le hlt hg.size, fun i x hx j hj => ?_⟩
      have hne : g ≠ b := by
        intro e
        subst e
        have hpos : 0 < xs.length := List.length_pos_iff.2 hz
        have := hc 0 xs[0] (by simp [hpos]) 0 h0
        obtain ⟨es, clock, hh, _⟩ := hm
        have e0 : (enc xs[0])[0]? = some ((enc xs[0])[0]'(by rw [hk]; exact h0)) := List.getElem?_eq_getElem _
        rw [e0] at this
        simp [World.cell?, hh] at this
      exact (World.cell?_of_block (w := w) (hg.block g hlt (by simp [hne]))).trans (hc i x hx j hj)

theorem keepX {W : World} {g : Nat} {T : TypeId} {c0 c1 c2 c3 c4 c5 : Value} (h : W.heap[g]? = some (.cells #[c0, c1, c2, c3, c4, c5] T (0, 0))) : W.cell? ⟨g, 0, none⟩ = some c0 ∧ W.cell? ⟨g, 1, none⟩ = some c1 ∧ W.cell? ⟨g, 2, none⟩ = some c2 ∧ W.cell? ⟨g, 3, none⟩ = some c3 ∧ W.cell? ⟨g, 4, none⟩ = some c4 ∧ W.cell? ⟨g, 5, none⟩ = some c5 := by
  obtain ⟨h0, h1, h2, h3, h4, h5, -⟩ := blk_cells6 h
  exact ⟨h0, h1, h2, h3, h4, h5⟩
set_option maxHeartbeats 8000000 in
set_option maxRecDepth 100000 in
theorem ijoini_any (bm n : Nat) (D : DataW Key) (m : Int → Option Key) (ai : Option Addr) (ni ci : Nat) (xs : List Itm) (hfit : ∀ (k : Nat) (x : Itm), xs[k]? = some x → FitN x.1 ∧ x.2.2.2.2.2.size ≤ 1048576) (hsm : SmlM m) (w : World) (hni : ni ≤ 1000000) (hn : n ≤ 1000000)
    (hm : OwM w bm n D) (hv : MapV D m) (hx : Rw encI 6 w (.slice ai ni ci) xs) :
    Calls Try.prog 40 #[.map (some bm), .slice ai ni ci] w fun e w' => e = .returned (.tuple #[]) ∧ (∃ n' D', OwM w' bm n' D' ∧ n' ≤ n + ni ∧ MapV D' (fm m xs) ∧ SmlM (fm m xs)) ∧ w.grownBy w' (some bm) := by
  have HX := hide hx
  have HM := hide hm
  have HV := hide hv
  have HS := hide hsm
  have HFT := hide hfit
  clear hx hm hv hsm hfit
  go_enter Try.func40, Try.ntmps40
  go_wp2
  go_loopw [8] (fun i wr => ∃ (k n' : Nat) (D' : DataW Key) (m' : Int → Option Key), k ≤ ni ∧ i = .int .i64 k ∧ n' ≤ n + k ∧ OwM wr bm n' D' ∧ MapV D' m' ∧ SmlM m' ∧ fm m' (xs.drop k) = fm m xs ∧ w.grownBy wr (some bm)) (fun i _ => ni - (intOf i).toNat)
  case atStart => exact ⟨0, n, D, m, Nat.zero_le _, rfl, by omega, unhide HM, unhide HV, unhide HS, rfl, grown_refl _ _⟩
  case round =>
    obtain ⟨k, n', D', m', hk, rfl, hn', hM, hV, hS, hrec, hgr⟩ := hrel
    have HM1 := hide hM
    have HV1 := hide hV
    have HS1 := hide hS
    have HR := hide hrec
    have HG := hide hgr
    have RX := hide ((unhide HX).beside encI_len (by omega) (unhide HM) hgr)
    clear hM hV hS hrec hgr
    by_cases hlt : k < ni
    · obtain ⟨x, b, off, hx, rfl, hb, hcap, hc⟩ := (unhide RX).at hlt
      obtain ⟨c0, c1, c2, c3, c4, c5⟩ := item_cells hc
      obtain ⟨hid, hxs⟩ := unhide HFT k x hx
      obtain ⟨g, hg⟩ : ∃ g, mget m' x.1 = g := ⟨_, rfl⟩
      obtain ⟨r, hr⟩ : ∃ r, mx g x.2 = r := ⟨_, rfl⟩
      have hgs : g.2.2.2.2.size ≤ 1048576 := by rw [← hg]; exact mget_sml (unhide HS1) _
      have hrs : r.2.2.2.2.size ≤ 1048576 := by rw [← hr]; exact mx_sml hgs hxs
      have HE := hide (fm_at (m := m') hx)
      rw [unhide HR, hg, hr] at HE
      have HRR := hide hr
      have HID := hide hid
      have hlk := look (unhide HM1) (unhide HV1) hid
      rw [hg] at hlk
      have HLK := hide hlk
      clear hc hx hg hr hlk hid
      go_wp2_with fail
      obtain ⟨W, hW⟩ : ∃ W, W = wr.alloc (.cells #[.int .i64 x.1, .int .i64 x.2.1, .int .i64 x.2.2.1, .int .i64 x.2.2.2.1, .int .i64 x.2.2.2.2.1, .string x.2.2.2.2.2] 42) := ⟨_, rfl⟩
      rw [← hW]
      have hWB : Below wr.heap.size wr W := by rw [hW]; exact (Below.refl _ _).alloc (Nat.le_refl _) _
      have KX : Hid (W.heap[wr.heap.size]? = some (.cells #[.int .i64 x.1, .int .i64 x.2.1, .int .i64 x.2.2.1, .int .i64 x.2.2.2.1, .int .i64 x.2.2.2.2.1, .string x.2.2.2.2.2] 42 (0, 0)) ∧ wr.heap.size < W.heap.size) := by rw [hW]; exact hide ⟨newB1 wr _, by simp⟩
      have KXD : Hid (W.drew.heap[wr.heap.size]? = some (.cells #[.int .i64 x.1, .int .i64 x.2.1, .int .i64 x.2.2.1, .int .i64 x.2.2.2.1, .int .i64 x.2.2.2.2.1, .string x.2.2.2.2.2] 42 (0, 0)) ∧ wr.heap.size < W.drew.heap.size) := KX
      have HMW := hide (owm_later (unhide HM1) hWB)
      have hlk : (Instr.lookup 68 (.map (some bm)) (.int .i64 x.1) false).run Try.prog W.drew = .ok (.agg #[.int .i64 g.1, .int .i64 g.2.1, .int .i64 g.2.2.1, .int .i64 g.2.2.2.1, .string g.2.2.2.2]) W.drew := by
        have h := look (show OwM W.drew bm n' D' from unhide HMW) (unhide HV1) (unhide HID)
        have h2 := unhide HLK
        rw [look (unhide HM1) (unhide HV1) (unhide HID)] at h2
        simp only [Result.ok.injEq, and_true] at h2
        rw [h2] at h
        exact h
      have HWB := hide hWB
      clear hW hWB HLK c0 c1 c2 c3 c4 c5
      have hbmne : bm ≠ wr.heap.size := fun e => by have := (unhide HM1).lt; omega
      go_region_held3 (fun V => V.cell? ⟨wr.heap.size, 0, none⟩ = some (.int .i64 x.1) ∧ V.cell? ⟨wr.heap.size, 1, none⟩ = some (.int .i64 x.2.1) ∧ V.cell? ⟨wr.heap.size, 2, none⟩ = some (.int .i64 x.2.2.1) ∧ V.cell? ⟨wr.heap.size, 3, none⟩ = some (.int .i64 x.2.2.2.1) ∧ V.cell? ⟨wr.heap.size, 4, none⟩ = some (.int .i64 x.2.2.2.2.1) ∧ V.cell? ⟨wr.heap.size, 5, none⟩ = some (.string x.2.2.2.2.2))
        (first | (with_reducible exact keepX (unhide KX).1) | (with_reducible exact keepX (unhide KXD).1) | (with_reducible exact keepX (unhide KX1).1) | (with_reducible exact keepX (unhide KX2).1))
        (first | (go_at_call 78; refine (imaxK_any g x.2 r HRR hgs hxs _).mono ?_; rintro e w1 ⟨rfl, b1⟩; have b1' : Below W.heap.size W w1 := ⟨b1.os, b1.tape, b1.output, b1.size, b1.block⟩; have KX1 := hide (keptblk b1' KX); obtain ⟨w2, hrun, hM2, hG2⟩ := (owm_later (unhide HMW) b1').update klaw Try.underlying68 (by unfold maxLen; omega) (kof (unhide HID)) (RK_mk r); have KX2 := hide (And.intro ((hG2.block _ (unhide KX1).2 (by simp; exact fun e => hbmne e.symm)).trans (unhide KX1).1) (Nat.lt_of_lt_of_le (unhide KX1).2 hG2.size)); have HM2 := hide hM2; have HG2 := hide hG2; have HB1 := hide b1'; clear b1 b1' hM2 hG2))
      have HG3 := hide (grown_trans2 (unhide HG) (grown_trans2 (grown_below _ ((unhide HWB).trans ((unhide HB1).mono (unhide HWB).size))) (unhide HG2)))
      clear HG HWB HB1 HG2 hrun hlk KX KXD KX1 KX2
      go_wp2
      go_roundw
      case rel => exact ⟨k + 1, n' + 1, _, upd m' x.1 r, by omega, by go_num, by omega, unhide HM2, (unhide HV1).put (unhide HM1).isMap (key_lit _) r, upd_sml (unhide HS1) _ hrs, (unhide HE).symm, unhide HG3⟩
      case measure => simp [intOf]; omega
    · have HE : Hid (m' = fm m xs) := by
        have h := unhide HR
        rw [drop_end (unhide HX).len.1 hk hlt] at h
        exact hide h
      go_wp2
      go_end0
      exact ⟨rfl, ⟨n', D', unhide HM1, by omega, unhide HE ▸ unhide HV1, unhide HE ▸ unhide HS1⟩, unhide HG⟩

/-- What is over is dropped, floor by floor. -/
def fd (m : Int → Option Key) : List Flr → Int → Option Key
  | [] => m
  | f :: r => fd (if (mget m f.1).1 ≤ f.2 then cut m f.1 else m) r
theorem fd_hit {m : Int → Option Key} {fs : List Flr} {k : Nat} {f : Flr} {g : Key} (h : fs[k]? = some f) (hg : mget m f.1 = g) (hd : decide (g.1 ≤ f.2) = true) : fd m (fs.drop k) = fd (cut m f.1) (fs.drop (k + 1)) := by
  rw [drop_at h, fd, hg, if_pos (of_decide_eq_true hd)]
theorem fd_miss {m : Int → Option Key} {fs : List Flr} {k : Nat} {f : Flr} {g : Key} (h : fs[k]? = some f) (hg : mget m f.1 = g) (hd : decide (g.1 ≤ f.2) = false) : fd m (fs.drop k) = fd m (fs.drop (k + 1)) := by
  rw [drop_at h, fd, hg, if_neg (of_decide_eq_false hd)]

set_option maxHeartbeats 8000000 in
set_option maxRecDepth 100000 in
theorem idrop_any (bm n : Nat) (D : DataW Key) (m : Int → Option Key) (af : Option Addr) (nf cf : Nat) (fs : List Flr) (hfit : ∀ (k : Nat) (x : Flr), fs[k]? = some x → FitN x.1) (hsm : SmlM m) (w : World) (hnf : nf ≤ 1000000)
    (hm : OwM w bm n D) (hv : MapV D m) (hx : Rw encF 2 w (.slice af nf cf) fs) :
    Calls Try.prog 41 #[.map (some bm), .slice af nf cf] w fun e w' => e = .returned (.tuple #[]) ∧ (∃ D', OwM w' bm n D' ∧ MapV D' (fd m fs) ∧ SmlM (fd m fs)) ∧ w.grownBy w' (some bm) := by
  have HX := hide hx
  have HM := hide hm
  have HV := hide hv
  have HS := hide hsm
  have HFT := hide hfit
  clear hx hm hv hsm hfit
  go_enter Try.func41, Try.ntmps41
  go_wp2
  go_loopw [8] (fun i wr => ∃ (k : Nat) (D' : DataW Key) (m' : Int → Option Key), k ≤ nf ∧ i = .int .i64 k ∧ OwM wr bm n D' ∧ MapV D' m' ∧ SmlM m' ∧ fd m' (fs.drop k) = fd m fs ∧ w.grownBy wr (some bm)) (fun i _ => nf - (intOf i).toNat)
  case atStart => exact ⟨0, D, m, Nat.zero_le _, rfl, unhide HM, unhide HV, unhide HS, rfl, grown_refl _ _⟩
  case round =>
    obtain ⟨k, D', m', hk, rfl, hM, hV, hS, hrec, hgr⟩ := hrel
    have HM1 := hide hM
    have HV1 := hide hV
    have HS1 := hide hS
    have HR := hide hrec
    have HG := hide hgr
    have RX := hide ((unhide HX).beside encF_len (by omega) (unhide HM) hgr)
    clear hM hV hS hrec hgr
    by_cases hlt : k < nf
    · obtain ⟨x, b, off, hx, rfl, hb, hcap, hc⟩ := (unhide RX).at hlt
      have c0 : wr.cell? ⟨b, off + k * 2, none⟩ = some (.int .i64 x.1) := hc 0 (by omega)
      have c1 : wr.cell? ⟨b, off + k * 2 + 1, none⟩ = some (.int .i64 x.2) := hc 1 (by omega)
      have hid := unhide HFT k x hx
      obtain ⟨g, hg⟩ : ∃ g, mget m' x.1 = g := ⟨_, rfl⟩
      have HMW := hide (owm_later (unhide HM1) ((Below.refl wr.heap.size wr).alloc (Nat.le_refl _) (.cells #[.int .i64 x.1, .int .i64 x.2] 35)))
      have hlk := look (unhide HMW) (unhide HV1) hid
      rw [hg] at hlk
      have HK := hide (kof hid)
      have hf0 := field0 g
      rcases Bool.eq_false_or_eq_true (decide (g.1 ≤ x.2)) with hle | hle
      · have HE := hide (fd_hit hx hg hle)
        rw [unhide HR] at HE
        clear hc hx hg hid
        go_wp2_with (first | (at_delete; refine wpList_delete_own _ rfl _ _ 68 3 rfl 38 klaw Try.underlying68 RK bm n D' rfl (unhide HMW) _ _ rfl (unhide HK) ?_; intro w1 hM2 ht2; have HM2 := hide hM2; have HT2 := hide ht2.grown; clear hM2 ht2))
        go_roundw
        case rel => exact ⟨k + 1, _, cut m' x.1, by omega, by go_num, unhide HM2, (unhide HV1).del _, cut_sml (unhide HS1) _, (unhide HE).symm, grown_trans2 (unhide HG) (grown_trans2 (World.grownBy_alloc _ _ _) (unhide HT2))⟩
        case measure => simp [intOf]; omega
      · have HE := hide (fd_miss hx hg hle)
        rw [unhide HR] at HE
        clear hc hx hg hid
        go_wp2
        go_roundw
        case rel => exact ⟨k + 1, D', m', by omega, by go_num, unhide HMW, unhide HV1, unhide HS1, (unhide HE).symm, grown_trans2 (unhide HG) (World.grownBy_alloc _ _ _)⟩
        case measure => simp [intOf]; omega
    · have HE : Hid (m' = fd m fs) := by
        have h := unhide HR
        rw [drop_end (unhide HX).len.1 hk hlt] at h
        exact hide h
      go_wp2
      go_end0
      exact ⟨rfl, ⟨D', unhide HM1, unhide HE ▸ unhide HV1, unhide HE ▸ unhide HS1⟩, unhide HG⟩
end Go.Proofs.Ytdpaocikmijioab

namespace Go.Proofs.Ytdpaocikmijioab
open Go.RowKit Go.Maps

theorem ent_cons (x : Itm) (r : List Itm) (id : Int) : ent (x :: r) id = if x.1 = id then some x.2 else ent r id := by
  unfold ent
  rw [List.find?_cons]
  by_cases h : x.1 = id
  · simp [h]
  · rw [show (x.1 == id) = false by simpa using h, if_neg h]
theorem fm_ent : ∀ (xs : List Itm) (m : Int → Option Key), xs.Pairwise (fun a b => a.1 < b.1) → ∀ id, fm m xs id = (match ent xs id with
    | some e => some (mx (mget m id) e)
    | none => m id)
  | [], m, _, id => rfl
  | x :: r, m, h, id => by
    obtain ⟨h1, h2⟩ := List.pairwise_cons.1 h
    rw [fm, fm_ent r _ h2 id, ent_cons]
    by_cases hx : x.1 = id
    · subst hx
      have : ent r x.1 = none := by
        cases hq : ent r x.1 with
        | none => rfl
        | some e => have := h1 _ ((ent_iff h2).1 hq); simp at this
      rw [this]
      simp [upd]
    · rw [if_neg hx]
      have hu : upd m x.1 (mx (mget m x.1) x.2) id = m id := by rw [upd, if_neg (Ne.symm hx)]
      have hg : mget (upd m x.1 (mx (mget m x.1) x.2)) id = mget m id := by rw [mget, hu, mget]
      rw [hu, hg]
theorem mx_zero {e : Key} (h : 1 ≤ e.1) : mx zeroK e = e := by
  have : keyC zeroK e < 0 := by
    have : cmpI 0 e.1 = -1 := by unfold cmpI; rw [if_pos (by omega)]
    unfold keyC lexC
    rw [show zeroK.1 = 0 from rfl, this]
    simp
  rw [mx, if_pos this]
theorem fd_none : ∀ (fs : List Flr) (m : Int → Option Key) (id : Int), m id = none → fd m fs id = none
  | [], _, _, h => h
  | f :: r, m, id, h => by
    rw [fd]
    refine fd_none r _ id ?_
    split
    · rw [cut]; split
      · rfl
      · exact h
    · exact h
theorem fd_at : ∀ (fs : List Flr) (m : Int → Option Key), fs.Pairwise (fun a b => a.1 < b.1) → (∀ f ∈ fs, 1 ≤ f.2) → ∀ (id : Int) (e : Key), m id = some e → 1 ≤ e.1 → fd m fs id = if e.1 ≤ flo fs id then none else some e
  | [], m, _, _, id, e, h, he => by rw [fd, h, if_neg (by show ¬ e.1 ≤ 0; omega)]
  | f :: r, m, hp, h1, id, e, h, he => by
    obtain ⟨p1, p2⟩ := List.pairwise_cons.1 hp
    rw [fd]
    by_cases hf : f.1 = id
    · have hfl : flo (f :: r) id = f.2 := flo_mem hp (by rw [← hf]; simp)
      have hg : mget m f.1 = e := by rw [mget, hf, h]; rfl
      rw [hfl, hg]
      by_cases hle : e.1 ≤ f.2
      · rw [if_pos hle, if_pos hle]
        exact fd_none r _ id (by rw [cut, if_pos hf.symm])
      · rw [if_neg hle, if_neg hle, fd_at r m p2 (fun g hg => h1 g (by simp [hg])) id e h he]
        have : flo r id = 0 := by
          by_cases hc : flo r id = 0
          · exact hc
          · have := p1 _ ((flo_pos p2 hc).1 rfl)
            simp only at this; omega
        rw [this, if_neg (by omega)]
    · have hfl : flo (f :: r) id = flo r id := by
        unfold flo
        rw [List.find?_cons, show (f.1 == id) = false by simpa using hf]
      rw [hfl]
      refine fd_at r _ p2 (fun g hg => h1 g (by simp [hg])) id e ?_ he
      split
      · rw [cut, if_neg (Ne.symm hf)]; exact h
      · exact h
section
variable {xs ys : List Itm} {fs gs : List Flr}
theorem map_join (hx : OkS xs fs) (hy : OkS ys gs) (id : Int) : fm (fm (fun _ => none) xs) ys id = jE (ent xs id) (ent ys id) := by
  have h1 : fm (fun _ => none) xs id = ent xs id := by
    rw [fm_ent xs _ hx.px]
    cases hq : ent xs id with
    | none => rfl
    | some e =>
      show some (mx zeroK e) = _
      rw [mx_zero (okE_inc (hx.ent_in hq).2.2.1).1]
  rw [fm_ent ys _ hy.px]
  cases hq : ent ys id with
  | none =>
    rw [h1]
    cases ent xs id <;> rfl
  | some e =>
    show some (mx (mget (fm (fun _ => none) xs) id) e) = _
    rw [mget, h1]
    cases ent xs id with
    | none => show some (mx zeroK e) = some e; rw [mx_zero (okE_inc (hy.ent_in hq).2.2.1).1]
    | some d => rfl
theorem map_end (hx : OkS xs fs) (hy : OkS ys gs) (x : Itm) : x ∈ joinI xs fs ys gs ↔ FitN x.1 ∧ fd (fm (fm (fun _ => none) xs) ys) (joinF fs gs) x.1 = some x.2 := by
  have hm := map_join hx hy x.1
  rw [joinI, mem_jI]
  cases hj : jE (ent xs x.1) (ent ys x.1) with
  | none =>
    rw [hj] at hm
    rw [fd_none _ _ _ hm]
    simp
  | some e =>
    rw [hj] at hm
    have hin := hx.jE_in hy hj
    have he := okE_inc hin.2.2
    rw [fd_at (joinF fs gs) _ (jF_pair 5) (fun f hf => (mem_jF.1 hf).2.2.1) x.1 e hm he.1, join_flo hx hy]
    constructor
    · rintro ⟨_, _, h3, h4⟩
      cases h3
      rw [if_neg (by omega)]
      exact ⟨by unfold FitN; omega, rfl⟩
    · rintro ⟨_, h⟩
      split at h
      · cases h
      · cases h
        exact ⟨hin.1, by omega, rfl, by omega⟩
end
end Go.Proofs.Ytdpaocikmijioab
