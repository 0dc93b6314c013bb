/-
  spec.DrawEntryOf, spec.DrawLookup, spec.DrawSlice: some state, with short texts, and some Id, or some leaves; nothing that was there turns. No statement is proved here.
-/
import Derived.Test.YtohfbahfnbganaaL3W
import Derived.Test.YtohfbahfnbganaaFldT
namespace Go.Proofs.Ytohfbahfnbganaa
open Go.RowKit

theorem blk_cells1 {w : World} {g : Nat} {T : TypeId} {c0 : Value} (h : w.heap[g]? = some (.cells #[c0] T (0, 0))) : w.cell? ⟨g, 0, none⟩ = some c0 ∧ ∀ o, w.frozen? ⟨g, o, none⟩ = false := by
  simp [World.cell?, World.frozen?, h]
theorem keep12 {P W : World} {g h s : Nat} {e0 e1 e2 e3 e4 f0 f1 f2 f3 f4 s0 s1 : Value} (hg : g < P.heap.size) (hh : h < P.heap.size) (hs : s < P.heap.size)
    (c0 : P.cell? ⟨g, 0, none⟩ = some e0) (c1 : P.cell? ⟨g, 1, none⟩ = some e1) (c2 : P.cell? ⟨g, 2, none⟩ = some e2) (c3 : P.cell? ⟨g, 3, none⟩ = some e3) (c4 : P.cell? ⟨g, 4, none⟩ = some e4)
    (d0 : P.cell? ⟨h, 0, none⟩ = some f0) (d1 : P.cell? ⟨h, 1, none⟩ = some f1) (d2 : P.cell? ⟨h, 2, none⟩ = some f2) (d3 : P.cell? ⟨h, 3, none⟩ = some f3) (d4 : P.cell? ⟨h, 4, none⟩ = some f4)
    (k0 : P.cell? ⟨s, 0, none⟩ = some s0) (k1 : P.cell? ⟨s, 1, none⟩ = some s1) (b : Below P.heap.size P W) :
    Below P.heap.size P W ∧ W.cell? ⟨g, 0, none⟩ = some e0 ∧ W.cell? ⟨g, 1, none⟩ = some e1 ∧ W.cell? ⟨g, 2, none⟩ = some e2 ∧ W.cell? ⟨g, 3, none⟩ = some e3 ∧ W.cell? ⟨g, 4, none⟩ = some e4 ∧ W.cell? ⟨h, 0, none⟩ = some f0 ∧ W.cell? ⟨h, 1, none⟩ = some f1 ∧ W.cell? ⟨h, 2, none⟩ = some f2 ∧ W.cell? ⟨h, 3, none⟩ = some f3 ∧ W.cell? ⟨h, 4, none⟩ = some f4 ∧ W.cell? ⟨s, 0, none⟩ = some s0 ∧ W.cell? ⟨s, 1, none⟩ = some s1 := by
  have t : ∀ {q o : Nat} {v : Value}, q < P.heap.size → P.cell? ⟨q, o, none⟩ = some v → W.cell? ⟨q, o, none⟩ = some v := fun {q o v} hq c => (b.cell (p := ⟨q, o, none⟩) hq).trans c
  exact ⟨b, t hg c0, t hg c1, t hg c2, t hg c3, t hg c4, t hh d0, t hh d1, t hh d2, t hh d3, t hh d4, t hs k0, t hs k1⟩
theorem entR_of {xs ys : List Itm} {id : Int} (h : ent ys id = ent xs id) : entR ys id = entR xs id := by unfold entR; rw [h]
theorem entR_none {xs : List Itm} {id : Int} (h : ent xs id = none) : entR xs id = (zeroK, false) := by unfold entR; rw [h]
theorem entR_leaf {xs : List Itm} {id l : Int} (h : lf id = l) : entR (slI [l] xs) id = entR xs id := entR_of (by rw [ent_sl, hasN_one, h]; simp)
theorem entR_else {xs : List Itm} {id l m : Int} (h : lf id = l) (hm : m ≠ l) : entR (slI [m] xs) id = (zeroK, false) := entR_none (by rw [ent_sl, hasN_one, h, if_neg (by simpa using hm)])
theorem sc_none {xs : List Itm} {fs : List Flr} {ok : Bool} (h : okS xs fs = ok) : scI ok [-1] xs = [] := by
  cases ok
  · rfl
  · have hx := (okS_iff _ _).1 h
    show slI [-1] xs = []
    refine List.filter_eq_nil_iff.2 fun x hm => ?_
    have h1 := lf_in (inB_iff.2 ⟨(hx.ix x hm).1, (hx.ix x hm).2.1⟩)
    rw [hasN_one]
    simp
    omega
/-- While a state and more are drawn: the cursor g, the result in the call's first block, the state in block b. -/
structure Q6 (w X : World) (g : Nat) (v : Value) (xs : List Int) (b : Nat) (v1 v2 : Value) (its : List Itm) (fls : List Flr) : Prop where
  bel : Below w.heap.size w X
  cu : Cur X g v xs
  hg : w.heap.size < g
  hb : g < b
  k0 : X.heap[w.heap.size]? = some (StB (.slice none 0 0) (.slice none 0 0))
  k1 : X.heap[b]? = some (StB v1 v2)
  oi : OwI w.heap.size X v1 its
  of : OwF w.heap.size X v2 fls
  li : its.length ≤ 6
  lf : fls.length ≤ 6
  ni : Nine its
section
variable {w X Y : World} {b g : Nat} {v : Value} {xs : List Int} {v1 v2 : Value} {its : List Itm} {fls : List Flr}
theorem Q6.gl (h : Q6 w X g v xs b v1 v2 its fls) : g < X.heap.size := cur_lt h.cu
theorem Q6.bl (h : Q6 w X g v xs b v1 v2 its fls) : b < X.heap.size := (Array.getElem?_eq_some_iff.1 h.k1).1
theorem Q6.call (h : Q6 w X g v xs b v1 v2 its fls) (hc : Cur Y g v xs) (hg : X.grownBy Y (some g)) : Q6 w Y g v xs b v1 v2 its fls := by
  obtain ⟨⟨i, q, hk, _⟩, _⟩ := h.cu
  have h1 := h.hg
  have h2 := h.hb
  exact ⟨h.bel.grown hg h.bel.size (fun q hq => by simp at hq; omega), hc, h.hg, h.hb, blk_grown hg h.k0 (by omega), blk_grown hg h.k1 (by omega), h.oi.other hk (by decide) hg, h.of.other hk (by decide) hg, h.li, h.lf, h.ni⟩
theorem Q6.later (h : Q6 w X g v xs b v1 v2 its fls) (bl : Below X.heap.size X Y) : Q6 w Y g v xs b v1 v2 its fls := by
  have h1 := h.hg
  have h3 := h.gl
  exact ⟨h.bel.trans (bl.mono h.bel.size), h.cu.later bl (Nat.le_refl _), h.hg, h.hb, (bl.block _ (by omega)).trans h.k0, (bl.block _ h.bl).trans h.k1, h.oi.later bl, h.of.later bl, h.li, h.lf, h.ni⟩
theorem Q6.drewH (h : Hid (Q6 w X g v xs b v1 v2 its fls)) : Hid (Q6 w X.drew g v xs b v1 v2 its fls) := hide ((unhide h).later (Below.refl _ _).drew)
theorem Q6.fin (h : Q6 w X g v xs b v1 v2 its fls) : T3 w ((X.setCell ⟨w.heap.size, 0, none⟩ v1).setCell ⟨w.heap.size, 1, none⟩ v2) v1 v2 its fls := by
  have hg := grown_set2 X w.heap.size v1 v2
  exact ⟨(h.bel.setCell (p := ⟨w.heap.size, 0, none⟩) (Nat.le_refl _) _).setCell (p := ⟨w.heap.size, 1, none⟩) (Nat.le_refl _) _, h.oi.other h.k0 (by decide) hg, h.of.other h.k0 (by decide) hg, h.li, h.lf, h.ni⟩
theorem kQ6 (h : Hid (Q6 w X g v xs b v1 v2 its fls)) : X.cell? ⟨b, 0, none⟩ = some v1 ∧ X.cell? ⟨b, 1, none⟩ = some v2 := by
  obtain ⟨p0, p1, _⟩ := blk_cells2 (unhide h).k1
  exact ⟨p0, p1⟩
theorem kQ6s (h : Hid (Q6 w X g v xs b v1 v2 its fls)) (x y : Value) : ((X.setCell ⟨w.heap.size, 0, none⟩ x).setCell ⟨w.heap.size, 1, none⟩ y).cell? ⟨b, 0, none⟩ = some v1 ∧ ((X.setCell ⟨w.heap.size, 0, none⟩ x).setCell ⟨w.heap.size, 1, none⟩ y).cell? ⟨b, 1, none⟩ = some v2 := by
  obtain ⟨p0, p1⟩ := kQ6 h
  have := (unhide h).hg; have := (unhide h).hb
  exact ⟨farT (by omega) p0, farT (by omega) p1⟩
end
theorem T3.resd {w X : World} {O : Obj} {v1 v2 : Value} {its : List Itm} {fls : List Flr} (hO : O = StB (.slice none 0 0) (.slice none 0 0)) (h : T3 (w.alloc O) X v1 v2 its fls) : T3 w ((X.setCell ⟨w.heap.size, 0, none⟩ v1).setCell ⟨w.heap.size, 1, none⟩ v2) v1 v2 its fls := by
  have hg := grown_set2 X w.heap.size v1 v2
  have hs : (w.alloc O).heap.size = w.heap.size + 1 := by simp
  have bA : Below w.heap.size w (w.alloc O) := (Below.refl _ _).alloc (Nat.le_refl _) _
  have k0 := (h.bel.block w.heap.size (by omega)).trans (heap_alloc_new w O)
  rw [hO] at k0
  have bl := bA.trans (h.bel.mono (by omega))
  exact ⟨(bl.setCell (p := ⟨w.heap.size, 0, none⟩) (Nat.le_refl _) _).setCell (p := ⟨w.heap.size, 1, none⟩) (Nat.le_refl _) _, Ow.base (h.oi.other k0 (by decide) hg) (by omega), Ow.base (h.of.other k0 (by decide) hg) (by omega), h.li, h.lf, h.ni⟩
set_option maxHeartbeats 8000000 in
set_option maxRecDepth 100000 in
theorem drawent_any (v : Value) (xs : List Int) (w : World) (hlen : xs.length ≤ 1048576) (hbd : ∀ z ∈ xs, 0 ≤ z ∧ z ≤ 255) (hv : Seg w v xs) :
    Calls Try.prog 57 #[v] w fun e w' => ∃ a1 n1 c1 a2 n2 c2 its fls id, e = .returned (.tuple #[.agg #[.slice a1 n1 c1, .slice a2 n2 c2], .int .i64 id]) ∧ (-1 ≤ id ∧ id ≤ 5) ∧ T3 w w' (.slice a1 n1 c1) (.slice a2 n2 c2) its fls := by
  have HD := hide hbd
  have bA : Below w.heap.size w (w.alloc (StB (.slice none 0 0) (.slice none 0 0))) := (Below.refl _ _).alloc (Nat.le_refl _) _
  have HS := hide (hv.below bA (Nat.le_refl _))
  have BA := hide bA
  clear hbd hv bA
  go_enter Try.func57, Try.ntmps57
  go_wp2_with fail
  refine (new_any v xs _ hlen (unhide HD) (unhide HS)).mono ?_
  rintro e w1 ⟨rfl, c1, b1, s1⟩
  have hw0 : (w.alloc (StB (.slice none 0 0) (.slice none 0 0))).heap.size = w.heap.size + 1 := by simp
  have B1 := hide ((unhide BA).trans (b1.mono (by rw [hw0]; omega)))
  have K1 := hide ((b1.block _ (by rw [hw0]; omega)).trans (heap_alloc_new w _))
  rw [hw0] at c1 s1
  have C1 := hide c1
  obtain ⟨g, hg⟩ : ∃ g, g = w.heap.size + 1 := ⟨_, rfl⟩
  rw [hw0, ← hg]
  rw [← hg] at C1
  have hgA : w.heap.size < g := by omega
  clear hg c1 b1 s1 hw0 HS BA
  go_wp2_with fail
  refine (l3draw_any g v xs _ hlen (unhide HD) (unhide C1)).mono ?_
  rintro e w2 ⟨a1, n1, c1, a2, n2, c2, its, fls, rfl, d⟩
  go_upto_region 3 with fail
  obtain ⟨wa, hwa⟩ : ∃ W, W = w2.alloc (StB (.slice a1 n1 c1) (.slice a2 n2 c2)) := ⟨_, rfl⟩
  obtain ⟨b, hb⟩ : ∃ b, b = w2.heap.size := ⟨_, rfl⟩
  rw [← hwa, ← hb]
  have hgb : g < b := by rw [hb]; exact Nat.lt_of_lt_of_le (cur_lt (unhide C1)) d.gr.size
  have Q := hide (show Q6 w wa g v xs b (.slice a1 n1 c1) (.slice a2 n2 c2) its fls from by
    have t := T3.of_draw (unhide B1) (by omega) d
    have bl : Below w2.heap.size w2 wa := by rw [hwa]; exact (Below.refl _ _).alloc (Nat.le_refl _) _
    exact ⟨t.bel.trans (bl.mono t.bel.size), d.cu.later bl (Nat.le_refl _), hgA, hgb, (bl.block _ (by have := (Array.getElem?_eq_some_iff.1 (blk_grown d.gr (unhide K1) (by omega))).1; omega)).trans (blk_grown d.gr (unhide K1) (by omega)), by rw [hwa, hb]; exact heap_alloc_new _ _, t.oi.later bl, t.of.later bl, t.li, t.lf, t.ni⟩)
  clear d hwa hb C1 B1 K1
  have hbl := (unhide Q).bl
  have QD := Q6.drewH Q
  have hbw : w.heap.size < b := by omega
  go_region_held3 (fun W => W.cell? ⟨b, 0, none⟩ = some (.slice a1 n1 c1) ∧ W.cell? ⟨b, 1, none⟩ = some (.slice a2 n2 c2))
    (first | (with_reducible exact kQ6 Q) | (with_reducible exact kQ6 QD) | (with_reducible exact kQ6 QC) | (with_reducible exact kQ6s QC _ _))
    (first | (go_at_call 77; refine (below_any g v xs 7 _ hlen (unhide HD) (by omega) (by omega) (unhide QD).cu).mono ?_; rintro e w3 ⟨⟨x, rfl, xa, xb⟩, c3, g3⟩; have QC := hide ((unhide QD).call c3 g3); obtain ⟨r0, r1, rz⟩ := blk_cells2 (unhide QC).k0; have hl3 := (unhide QC).bl; have HWX : Hid (IntKind.i64.wrap (x - 1) = x - 1) := hide (by rw [IntKind.wrap_i64]; omega); clear c3 g3))
  all_goals go_wp2
  all_goals exact bodyPost_ret (v := .tuple #[.agg #[.slice a1 n1 c1, .slice a2 n2 c2], .int .i64 (x - 1)]) (by simp [results, Try.results57, go_sem, r0, r1, unhide HWX]) rfl ⟨_, _, _, _, _, _, _, _, _, rfl, ⟨by omega, by omega⟩, (unhide QC).fin⟩
set_option maxHeartbeats 4000000 in
set_option maxRecDepth 100000 in
theorem drawlookup_any (v : Value) (xs : List Int) (w : World) (hlen : xs.length ≤ 1048576) (hbd : ∀ z ∈ xs, 0 ≤ z ∧ z ≤ 255) (hv : Seg w v xs) :
    Calls Try.prog 19 #[v] w fun e w' => ∃ a1 n1 c1 a2 n2 c2 its fls id, e = .returned (.tuple #[.agg #[.slice a1 n1 c1, .slice a2 n2 c2], .int .i64 id]) ∧ (-1 ≤ id ∧ id ≤ 5) ∧ T3 w w' (.slice a1 n1 c1) (.slice a2 n2 c2) its fls := by
  have HD := hide hbd
  have bA : Below w.heap.size w (w.alloc (StB (.slice none 0 0) (.slice none 0 0))) := (Below.refl _ _).alloc (Nat.le_refl _) _
  have HS := hide (hv.below bA (Nat.le_refl _))
  clear hbd hv bA
  go_enter Try.func19, Try.ntmps19
  go_wp2_with fail
  refine (drawent_any v xs _ hlen (unhide HD) (unhide HS)).mono ?_
  rintro e w1 ⟨a1, n1, c1, a2, n2, c2, its, fls, id, rfl, hid, t⟩
  have T := hide (T3.resd rfl t)
  have HI := hide hid
  obtain ⟨r0, r1, rz⟩ := blk_cells2 ((t.bel.block w.heap.size (by simp)).trans (heap_alloc_new w _))
  clear t HS hid
  go_wp2
  exact bodyPost_ret (v := .tuple #[.agg #[.slice a1 n1 c1, .slice a2 n2 c2], .int .i64 id]) (by simp [results, Try.results19, go_sem, r0, r1]) rfl ⟨_, _, _, _, _, _, _, _, _, rfl, unhide HI, unhide T⟩
/-- A row of numbers is not the cursor's variable. -/
theorem own_cur {base : Nat} {X Y : World} {g : Nat} {v u : Value} {xs ns : List Int} (hc : Cur X g v xs) (h : OwN base X u ns) (hg : X.grownBy Y (some g)) : OwN base Y u ns := by
  obtain ⟨⟨i, q, hk, _⟩, _⟩ := hc
  exact h.other hk (by decide) hg
theorem grown_row {w X Y : World} {g : Nat} {u : Value} {ns : List Int} (hg : w.grownBy X (some g)) (h : OwN w.heap.size X u ns) (hG : X.grownBy Y u.ownBlock) : w.grownBy Y (some g) :=
  ⟨hG.os.trans hg.os, hG.tape.trans hg.tape, hG.output.trans hg.output, Nat.le_trans hg.size hG.size, fun i hi hne => (hG.block i (Nat.lt_of_lt_of_le hi hg.size) (fun q => by have := (World.ownsRow.lt h i q.symm).1; omega)).trans (hg.block i hi hne)⟩
theorem cur_row {w X Y : World} {g : Nat} {v u : Value} {xs ns : List Int} (hc0 : Cur w g v xs) (hg : w.grownBy X (some g)) (hc : Cur X g v xs) (h : OwN w.heap.size X u ns) (hgl : g < w.heap.size) (hG : X.grownBy Y u.ownBlock) : Cur Y g v xs := by
  have hY := grown_row hg h hG
  obtain ⟨⟨i, q, hk, hi⟩, _, hne⟩ := hc
  exact ⟨⟨i, q, (hG.block g (Array.getElem?_eq_some_iff.1 hk).1 (fun q => by have := (World.ownsRow.lt h g q.symm).1; omega)).trans hk, hi⟩, hc0.2.1.grown hY hne, hne⟩
set_option maxHeartbeats 4000000 in
set_option maxRecDepth 100000 in
theorem l6leaves_any (g : Nat) (v : Value) (xs : List Int) (w : World) (hlen : xs.length ≤ 1048576) (hbd : ∀ z ∈ xs, 0 ≤ z ∧ z ≤ 255) (hc : Cur w g v xs) :
    Calls Try.prog 38 #[.pointer (some ⟨g, 0, none⟩)] w fun e w' => ∃ a1 n1 c1, e = .returned (.slice a1 n1 c1) ∧ n1 ≤ 3 ∧ (∃ ns, OwN w.heap.size w' (.slice a1 n1 c1) ns) ∧ Cur w' g v xs ∧ w.grownBy w' (some g) := by
  obtain ⟨i0, hi, hz0, hz1, hz2⟩ := info_parts Try.infoInt
  have HD := hide hbd
  have HC := hide hc
  have hgl := cur_lt hc
  clear hbd hc
  have hO : Hid (OwN w.heap.size (w.alloc (.cells #[] 3)) (.slice (some ⟨w.heap.size, 0, none⟩) 0 0) []) := hide ⟨by simp, .inr ⟨w.heap.size, 0, #[], rfl, Nat.le_refl _, newB1 w _, by simp, by simp⟩⟩
  have bA : Below w.heap.size w (w.alloc (.cells #[] 3)) := (Below.refl _ _).alloc (Nat.le_refl _) _
  have CA := hide ((unhide HC).later bA (Nat.le_refl _))
  have GA := hide (World.grownBy_alloc w (.cells #[] 3) (some g))
  clear bA
  go_enter Try.func38, Try.ntmps38
  go_wp2_with fail
  refine (below_any g v xs 4 _ hlen (unhide HD) (by omega) (by omega) (unhide CA)).mono ?_
  rintro e w1 ⟨⟨n, rfl, na, nb⟩, c1, g1⟩
  have C1 := hide c1
  have G1 := hide (grown_trans (unhide GA) g1)
  have O1 := hide (own_cur (unhide CA) (unhide hO) g1)
  clear c1 g1 CA GA hO
  go_wp2
  go_loopw [3, 5] (fun u i wr => ∃ (k : Nat) (a1 : Option Addr) (c1 : Nat) (ns : List Int), (k : Int) ≤ n ∧ i = .int .i64 k ∧ u = .slice a1 k c1 ∧ OwN w.heap.size wr (.slice a1 k c1) ns ∧ Cur wr g v xs ∧ w.grownBy wr (some g)) (fun _ i _ => (n - intOf i).toNat)
  case atStart => exact ⟨0, _, 0, [], by omega, rfl, rfl, unhide O1, unhide C1, unhide G1⟩
  case round =>
    clear C1 G1 O1
    obtain ⟨k, a1, c1, ns, hk, rfl, rfl, hown, hcur, hgr⟩ := hrel
    have HO := hide hown
    have HC1 := hide hcur
    have HG1 := hide hgr
    have hn1 : Hid (k = ns.length) := hide (hown.rw encN_len).len.1
    have hgl1 := cur_lt hcur
    have hsz := hgr.size
    clear hown hcur hgr
    by_cases hlt : (k : Int) < n
    · have hd : decide ((k : Int) < n) = true := by simpa using hlt
      go_wp2_with fail
      refine (below_any g v xs 6 _ hlen (unhide HD) (by omega) (by omega) (unhide HC1)).mono ?_
      rintro e w2 ⟨⟨x, rfl, xa, xb⟩, c2, g2⟩
      have HO2 := hide (own_cur (unhide HC1) (unhide HO) g2)
      have HC2 := hide c2
      have HG2 := hide (grown_trans (unhide HG1) g2)
      have hs2 : w.heap.size ≤ w2.heap.size := (unhide HG2).size
      clear c2 g2 HO HC1 HG1
      go_wp2_with (first | (at_builtin; refine wpList_app1 encN_len (by omega) oneN 3 28 i0 _ 8 Try.underlying28 hi hz0 hz1 hz2 rfl (by omega) w2 (x - 1) rfl _ _ rfl w.heap.size _ ns k hn1 rfl (unhide HO2) rfl (by omega) hs2 ?_; intro a8 c8 w4 hO hG; have HO4 := hide hO; have HC4 := hide (cur_row (unhide HC) (unhide HG2) (unhide HC2) (unhide HO2) hgl hG); have HG4 := hide (grown_row (unhide HG2) (unhide HO2) hG); clear hO hG))
      go_roundw
      case rel => exact ⟨k + 1, a8, c8, _, by omega, by go_num, rfl, unhide HO4, unhide HC4, unhide HG4⟩
      case measure => simp [intOf]; omega
    · have hd : decide ((k : Int) < n) = false := by simpa using hlt
      go_wp2
      go_ret
      exact ⟨a1, k, c1, rfl, by omega, ⟨ns, unhide HO⟩, unhide HC1, unhide HG1⟩
set_option maxHeartbeats 8000000 in
set_option maxRecDepth 100000 in
theorem drawslice_any (v : Value) (xs : List Int) (w : World) (hlen : xs.length ≤ 1048576) (hbd : ∀ z ∈ xs, 0 ≤ z ∧ z ≤ 255) (hv : Seg w v xs) :
    Calls Try.prog 9 #[v] w fun e w' => ∃ a1 n1 c1 a2 n2 c2 its fls la ln lc ls, e = .returned (.tuple #[.agg #[.slice a1 n1 c1, .slice a2 n2 c2], .slice la ln lc]) ∧ ln ≤ 3 ∧ RwN w' (.slice la ln lc) ls ∧ T3 w w' (.slice a1 n1 c1) (.slice a2 n2 c2) its fls := by
  have HD := hide hbd
  have bA : Below w.heap.size w (w.alloc (StB (.slice none 0 0) (.slice none 0 0))) := (Below.refl _ _).alloc (Nat.le_refl _) _
  have HS := hide (hv.below bA (Nat.le_refl _))
  have BA := hide bA
  clear hbd hv bA
  go_enter Try.func9, Try.ntmps9
  go_wp2_with fail
  refine (new_any v xs _ hlen (unhide HD) (unhide HS)).mono ?_
  rintro e w1 ⟨rfl, c1, b1, s1⟩
  have hw0 : (w.alloc (StB (.slice none 0 0) (.slice none 0 0))).heap.size = w.heap.size + 1 := by simp
  have B1 := hide ((unhide BA).trans (b1.mono (by rw [hw0]; omega)))
  have K1 := hide ((b1.block _ (by rw [hw0]; omega)).trans (heap_alloc_new w _))
  rw [hw0] at c1 s1
  have C1 := hide c1
  obtain ⟨g, hg⟩ : ∃ g, g = w.heap.size + 1 := ⟨_, rfl⟩
  rw [hw0, ← hg]
  rw [← hg] at C1
  have hgA : w.heap.size < g := by omega
  clear hg c1 b1 s1 hw0 HS BA
  go_wp2_with fail
  refine (l3draw_any g v xs _ hlen (unhide HD) (unhide C1)).mono ?_
  rintro e w2 ⟨a1, n1, c1, a2, n2, c2, its, fls, rfl, d⟩
  go_upto_region 3 with fail
  obtain ⟨wa, hwa⟩ : ∃ W, W = w2.alloc (StB (.slice a1 n1 c1) (.slice a2 n2 c2)) := ⟨_, rfl⟩
  obtain ⟨b, hb⟩ : ∃ b, b = w2.heap.size := ⟨_, rfl⟩
  rw [← hwa, ← hb]
  have hgb : g < b := by rw [hb]; exact Nat.lt_of_lt_of_le (cur_lt (unhide C1)) d.gr.size
  have Q := hide (show Q6 w wa g v xs b (.slice a1 n1 c1) (.slice a2 n2 c2) its fls from by
    have t := T3.of_draw (unhide B1) (by omega) d
    have bl : Below w2.heap.size w2 wa := by rw [hwa]; exact (Below.refl _ _).alloc (Nat.le_refl _) _
    exact ⟨t.bel.trans (bl.mono t.bel.size), d.cu.later bl (Nat.le_refl _), hgA, hgb, (bl.block _ (by have := (Array.getElem?_eq_some_iff.1 (blk_grown d.gr (unhide K1) (by omega))).1; omega)).trans (blk_grown d.gr (unhide K1) (by omega)), by rw [hwa, hb]; exact heap_alloc_new _ _, t.oi.later bl, t.of.later bl, t.li, t.lf, t.ni⟩)
  clear d hwa hb C1 B1 K1
  have hbl := (unhide Q).bl
  have QD := Q6.drewH Q
  have hbw : w.heap.size < b := by omega
  go_region_held3 (fun W => W.cell? ⟨b, 0, none⟩ = some (.slice a1 n1 c1) ∧ W.cell? ⟨b, 1, none⟩ = some (.slice a2 n2 c2))
    (first | (with_reducible exact kQ6 Q) | (with_reducible exact kQ6 QD) | (with_reducible exact kQ6 QC) | (with_reducible exact kQ6s QC _ _))
    (first | (go_at_call 38; refine (l6leaves_any g v xs _ hlen (unhide HD) (unhide QD).cu).mono ?_; rintro e w3 ⟨la, ln, lc, rfl, hln, ⟨ls, ol⟩, c3, g3⟩; have QC := hide ((unhide QD).call c3 g3); have OL := hide (Ow.base (base' := w.heap.size + 1) ol (by have := (unhide QD).bl; omega)); obtain ⟨r0, r1, rz⟩ := blk_cells2 (unhide QC).k0; have hl3 := (unhide QC).bl; clear c3 g3 ol))
  all_goals go_wp2
  all_goals exact bodyPost_ret (v := .tuple #[.agg #[.slice a1 n1 c1, .slice a2 n2 c2], .slice la ln lc]) (by simp [results, Try.results9, go_sem, r0, r1]) rfl ⟨_, _, _, _, _, _, _, _, _, _, _, ls, rfl, hln, (((unhide OL).set ⟨w.heap.size, 0, none⟩ (by simp) _).set ⟨w.heap.size, 1, none⟩ (by simp) _).rw encN_len, (unhide QC).fin⟩
end Go.Proofs.Ytohfbahfnbganaa
