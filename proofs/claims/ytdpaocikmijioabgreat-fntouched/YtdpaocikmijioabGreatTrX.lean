/-
  Trees: the program's. No statement is proved here.
  A field of a struct that a call has told. No statement is proved here.
  spec.DrawEntryOf, spec.DrawLookup, spec.DrawSlice: some state, with short texts, and some Id, or some leaves; nothing that was there turns. No statement is proved here.
  Trees: the specification's TreeOf. No statement is proved here.
  Trees that are touched or held against each other: the program's. No statement is proved here.
  Rows of numbers appended to one another, and copied. No statement is proved here.
  Trees that are copied, touched, or held against each other: the program's. No statement is proved here.
  Trees that are held against each other: the specification's Differ. No statement is proved here.
-/
import Derived.Test.YtdpaocikmijioabGreatTrS
import Derived.Test.YtdpaocikmijioabGreatL3W
import Derived.Laws.CopyOwn
import Derived.Laws.AppendOwnNone
import Derived.Laws.StructEq
namespace Go.Proofs.YtdpaocikmijioabGreat
open Go.RowKit

abbrev SumB (a b c d : Int) : Obj := .cells #[.int .i64 a, .int .i64 b, .int .i64 c, .int .i64 d] 90 (0, 0)
abbrev TreB (v : Value) (r : Int) : Obj := .cells #[v, .int .i64 r] 50 (0, 0)
def Fit64 (a : Int) : Prop := -9223372036854775808 ≤ a ∧ a ≤ 9223372036854775807
theorem fit4 {a b c d : Int} (h1 : Fit64 a) (h2 : Fit64 b) (h3 : Fit64 c) (h4 : Fit64 d) : ∀ (k : Nat) (x : Int), [a, b, c, d][k]? = some x → -9223372036854775808 ≤ x ∧ x ≤ 9223372036854775807 := by
  intro k x hx
  have := List.mem_of_getElem? hx
  simp at this; rcases this with rfl | rfl | rfl | rfl <;> assumption
theorem icrc_v (v : Value) (xs : List Int) (c : Int) (hc : Hid (crcOf xs = c)) (w : World) (hlen : xs.length ≤ 281474976710656) (hv : Seg w v xs) :
    Calls Tryz.prog 78 #[v] w fun e w' => e = .returned (.int .i64 c) ∧ w = w' := by rw [← unhide hc]; exact icrc_any v xs w hlen hv
/-- A block of numbers, of whatever kind, that the call itself laid. -/
theorem owN_blk {w : World} {g base : Nat} {E : TypeId} {ns : List Int} (hb : base ≤ g) (hl : ns.length ≤ 1000000) (h : w.heap[g]? = some (.cells (ns.map (Value.int .i64)).toArray E (0, 0))) : Ow encN 1 E base w (.slice (some ⟨g, 0, none⟩) ns.length ns.length) ns :=
  ⟨by rw [flatN]; simp, .inr ⟨g, ns.length, _, rfl, hb, h, Nat.le_refl _, by unfold maxLen; omega, by simp, by rw [flatN]; simp [List.take_of_length_le]⟩⟩
theorem rwS_blk {w : World} {g : Nat} {E : TypeId} {ns : List Int} {fz : Nat × Nat} (h : w.heap[g]? = some (.cells (ns.map (Value.int .i64)).toArray E fz)) : RwN w (.slice (some ⟨g, 0, none⟩) ns.length ns.length) ns := by
  refine ⟨_, _, rfl, Nat.le_refl _, .inr ⟨g, 0, rfl, (Array.getElem?_eq_some_iff.1 h).1, fun i x hx j hj => ?_⟩⟩
  obtain rfl : j = 0 := by omega
  obtain ⟨hi, rfl⟩ := List.getElem?_eq_some_iff.1 hx
  simp only [World.cell?, h]
  simp [encN, hi]
/-- While a tree is made of its sums: the sums, the result's variable. -/
structure C9 (w W : World) (a b c d : Int) : Prop where
  bel : Below w.heap.size w W
  ka : W.heap[w.heap.size]? = some (SumB a b c d)
  kr : W.heap[w.heap.size + 1]? = some (TreB (.slice none 0 0) 0)
section
variable {w W Y : World} {a b c d : Int}
theorem C9.lt (h : C9 w W a b c d) : w.heap.size + 1 < W.heap.size := (Array.getElem?_eq_some_iff.1 h.kr).1
theorem C9.later (h : C9 w W a b c d) (k : Below W.heap.size W Y) : C9 w Y a b c d := by
  have := h.lt
  exact ⟨h.bel.trans (k.mono h.bel.size), (k.block _ (by omega)).trans h.ka, (k.block _ h.lt).trans h.kr⟩
theorem C9.drewH (h : Hid (C9 w W a b c d)) : Hid (C9 w W.drew a b c d) := hide ((unhide h).later ((Below.refl _ _).drew))
theorem C9.rw (h : C9 w W a b c d) : RwN W (.slice (some ⟨w.heap.size, 0, none⟩) 4 4) [a, b, c, d] := rwS_blk (ns := [a, b, c, d]) h.ka
theorem C9.bs (h : Hid (C9 w W a b c d)) (x y : Value) : Below w.heap.size w ((W.setCell ⟨w.heap.size + 1, 0, none⟩ x).setCell ⟨w.heap.size + 1, 1, none⟩ y) := ((unhide h).bel.setCell (p := ⟨w.heap.size + 1, 0, none⟩) (by simp) _).setCell (p := ⟨w.heap.size + 1, 1, none⟩) (by simp) _
end
theorem C9.new (w : World) (a b c d : Int) : C9 w ((w.alloc (SumB a b c d)).alloc (TreB (.slice none 0 0) 0)) a b c d :=
  ⟨((Below.refl w.heap.size w).alloc (Nat.le_refl _) _).alloc (by simp) _, lowB2 w _ _, newB2 w _ _⟩

set_option maxHeartbeats 4000000 in
set_option maxRecDepth 100000 in
theorem itreewith_any (a b c d r : Int) (hr : Hid (rt [a, b, c, d] = r)) (w : World) (h1 : Fit64 a) (h2 : Fit64 b) (h3 : Fit64 c) (h4 : Fit64 d) :
    Calls Tryz.prog 66 #[.agg #[.int .i64 a, .int .i64 b, .int .i64 c, .int .i64 d]] w fun e w' => ∃ a1 c1, e = .returned (.agg #[.slice a1 4 c1, .int .i64 r]) ∧ Ow encN 1 90 w.heap.size w' (.slice a1 4 c1) [a, b, c, d] ∧ Below w.heap.size w w' := by
  have HF := hide (fit4 h1 h2 h3 h4)
  have hlb : (nums [a, b, c, d]).length ≤ 20 := nums_len [a, b, c, d]
  have q0 := crcOf_nonneg _ (nums_bytes [a, b, c, d])
  have q1 := crcOf_range _ (nums_bytes [a, b, c, d])
  obtain ⟨cc, HC⟩ : ∃ cc, Hid (crcOf (nums [a, b, c, d]) = cc) := ⟨_, hide rfl⟩
  rw [unhide HC] at q0 q1
  obtain rfl : cc % 1024 = r := by rw [← unhide hr, ← unhide HC]; rfl
  have htm : cc.tmod 1024 = cc % 1024 := Int.tmod_eq_emod_of_nonneg q0
  have HT := hide htm
  clear h1 h2 h3 h4 hr htm
  go_enter Tryz.func66, Tryz.ntmps66
  go_wp2_with fail
  have CV0 := C9.new w a b c d
  obtain ⟨V, hV⟩ : ∃ V, V = (w.alloc (SumB a b c d)).alloc (TreB (.slice none 0 0) 0) := ⟨_, rfl⟩
  have CV : Hid (C9 w V a b c d) := hide (by rw [hV]; exact CV0)
  rw [← hV]
  clear hV CV0
  have CD := C9.drewH CV
  go_region_held3 (fun W => Below w.heap.size w W)
    (first | (with_reducible exact (unhide CV).bel) | (with_reducible exact (unhide CD).bel) | (with_reducible exact (unhide CA).bel) | (with_reducible exact C9.bs CA _ _))
    (first
      | (go_at_call 63; refine (iputnums_any _ 4 4 [a, b, c, d] _ (by omega) (unhide HF) (unhide CD).rw).mono ?_; rintro e w3 ⟨v3, rfl, o3, b3⟩; have CA := hide ((unhide CD).later b3); have S3 := hide (seg_of_owns o3); obtain ⟨p0, p1, pf⟩ := blk_cells2 (unhide CA).kr; have zA := (unhide CA).lt; clear o3 b3)
      | (go_at_call 78; refine (icrc_v v3 (nums [a, b, c, d]) cc HC _ (by omega) (unhide S3)).mono ?_; rintro e _ ⟨rfl, rfl⟩))
  all_goals go_wp2
  all_goals exact bodyPost_ret (v := .agg #[.slice (some ⟨w.heap.size, 0, none⟩) 4 4, .int .i64 (cc % 1024)]) (by simp [results, Tryz.results66, go_sem, p0, p1, unhide HT]) rfl ⟨_, _, rfl, owN_blk (ns := [a, b, c, d]) (Nat.le_refl _) (by simp) (by
    rw [heap_setCell_other _ _ _ _ (by show w.heap.size ≠ w.heap.size + 1; omega), heap_setCell_other _ _ _ _ (by show w.heap.size ≠ w.heap.size + 1; omega)]
    exact (unhide CA).ka), C9.bs CA _ _⟩

theorem fill4 (ls : List Int) (h : ls.length = 4) (k : Nat) (hk : k ≤ 4) : (ls.take k ++ List.replicate (4 - k) 0).length = 4 := by simp; omega
/-- A tree as it is told: its leaves are a row of the call's own. -/
def OwT (base : Nat) (w : World) (v : Value) (ns : List Int) : Prop := ∃ E : TypeId, Ow encN 1 E base w v ns

set_option maxHeartbeats 4000000 in
set_option maxRecDepth 100000 in
theorem itreeof_any (ai : Option Addr) (ni ci : Nat) (xs : List Itm) (af : Option Addr) (nf cf : Nat) (fs : List Flr) (n : Nat) (hn : Hid ((trL xs fs).length = n)) (r : Int) (hr : Hid (trR xs fs = r)) (w : World)
    (hni : ni ≤ 140737488351232) (hnf : nf ≤ 140737488351232) (hx : Rw encI 6 w (.slice ai ni ci) xs) (hf : Rw encF 2 w (.slice af nf cf) fs) :
    Calls Tryz.prog 28 #[.agg #[.slice ai ni ci, .slice af nf cf]] w fun e w' => ∃ a1 c1, e = .returned (.agg #[.slice a1 n c1, .int .i64 r]) ∧ OwT w.heap.size w' (.slice a1 n c1) (trL xs fs) ∧ Below w.heap.size w w' := by
  obtain ⟨k1, HK1⟩ : ∃ k, Hid (okS xs fs = k) := ⟨_, hide rfl⟩
  have HX := hide hx
  have HF := hide hf
  clear hx hf
  obtain ⟨l0, H0⟩ : ∃ l, Hid (lsm xs fs 0 = l) := ⟨_, hide rfl⟩
  obtain ⟨l1, H1⟩ : ∃ l, Hid (lsm xs fs 1 = l) := ⟨_, hide rfl⟩
  obtain ⟨l2, H2⟩ : ∃ l, Hid (lsm xs fs 2 = l) := ⟨_, hide rfl⟩
  obtain ⟨l3, H3⟩ : ∃ l, Hid (lsm xs fs 3 = l) := ⟨_, hide rfl⟩
  have HG : Hid (Fit64 l0 ∧ Fit64 l1 ∧ Fit64 l2 ∧ Fit64 l3) := hide (by
    have r0 := lsm_range xs fs 0; have r1 := lsm_range xs fs 1; have r2 := lsm_range xs fs 2; have r3 := lsm_range xs fs 3
    rw [unhide H0] at r0; rw [unhide H1] at r1; rw [unhide H2] at r2; rw [unhide H3] at r3
    unfold Fit64; omega)
  have HZ : Hid (∀ (k : Nat) (z : Int), [l0, l1, l2, l3][k]? = some z → lsm xs fs (k : Int) = z) := hide (by
    intro k z hz
    match k, hz with
    | 0, hz => simp at hz; rw [← hz]; exact unhide H0
    | 1, hz => simp at hz; rw [← hz]; exact unhide H1
    | 2, hz => simp at hz; rw [← hz]; exact unhide H2
    | 3, hz => simp at hz; rw [← hz]; exact unhide H3
    | k + 4, hz => simp at hz)
  go_enter Tryz.func28, Tryz.ntmps28
  go_wp2_with fail
  have bW : Below w.heap.size w ((w.alloc (.cells #[.slice ai ni ci, .slice af nf cf] 27)).alloc (TreB (.slice none 0 0) 0)) := ((Below.refl w.heap.size w).alloc (Nat.le_refl _) _).alloc (by simp) _
  refine (istateok_any ai ni ci xs af nf cf fs _ HK1 _ hni hnf ((unhide HX).later bW) ((unhide HF).later bW)).mono ?_
  rintro e w1 ⟨rfl, b1⟩
  have BL := hide (bW.trans (b1.mono (by simp; omega)))
  have KA := hide ((b1.block w.heap.size (by simp; omega)).trans (lowB2 w _ _))
  have KR := hide ((b1.block (w.heap.size + 1) (by simp)).trans (newB2 w _ _))
  have z1 : w.heap.size + 1 < w1.heap.size := (Array.getElem?_eq_some_iff.1 (unhide KR)).1
  clear b1 bW
  cases k1
  · have e1 : trL xs fs = [] := by rw [trL, unhide HK1]; rfl
    have e2 : trR xs fs = 0 := by rw [trR, unhide HK1]; rfl
    obtain rfl : n = 0 := by rw [← unhide hn, e1]; rfl
    obtain rfl : r = 0 := by rw [← unhide hr, e2]
    obtain ⟨p0, p1, pf⟩ := blk_cells2 (unhide KR)
    go_wp2
    exact bodyPost_ret (v := .agg #[.slice none 0 0, .int .i64 0]) (by simp [results, Tryz.results28, go_sem, p0, p1]) rfl ⟨none, 0, rfl, ⟨3, by rw [e1]; exact World.ownsRow_nil _ _ _ _⟩, ((unhide BL).setCell (p := ⟨w.heap.size + 1, 0, none⟩) (by simp) _).setCell (p := ⟨w.heap.size + 1, 1, none⟩) (by simp) _⟩
  · have HTL : Hid (trL xs fs = [l0, l1, l2, l3]) := hide (by rw [trL, unhide HK1, unhide H0, unhide H1, unhide H2, unhide H3]; rfl)
    have HTR : Hid (rt [l0, l1, l2, l3] = r) := hide (by rw [← unhide hr, trR, unhide HK1, unhide H0, unhide H1, unhide H2, unhide H3]; rfl)
    obtain rfl : n = 4 := by rw [← unhide hn, unhide HTL]; rfl
    clear H0 H1 H2 H3 hn hr
    go_wp2
    go_loopw [9] (fun i wr => ∃ k : Nat, k ≤ 4 ∧ i = .int .i64 k ∧ Below w.heap.size w wr ∧ wr.heap[w.heap.size]? = some (.cells #[.slice ai ni ci, .slice af nf cf] 27 (0, 0)) ∧ wr.heap[w.heap.size + 1]? = some (TreB (.slice none 0 0) 0) ∧ Ow encN 1 90 w1.heap.size wr (.slice (some ⟨w1.heap.size, 0, none⟩) 4 4) (([l0, l1, l2, l3] : List Int).take k ++ List.replicate (4 - k) 0)) (fun i _ => 4 - (intOf i).toNat)
    case atStart =>
      refine ⟨0, by omega, rfl, (unhide BL).alloc (unhide BL).size _, ?_, ?_, ?_⟩
      · exact (Below.heap_alloc _ _ _ (by omega)).trans (unhide KA)
      · exact (Below.heap_alloc _ _ _ z1).trans (unhide KR)
      · exact owN_blk (ns := [0, 0, 0, 0]) (Nat.le_refl _) (by simp) (newB1 w1 _)
    case round =>
      clear BL KA KR
      obtain ⟨k, hk, rfl, hbel, ha, hr0, hown⟩ := hrel
      have BL := hide hbel
      have KA := hide ha
      have KR := hide hr0
      have HO := hide hown
      have hsz := hbel.size
      have zr : w.heap.size + 1 < wr.heap.size := (Array.getElem?_eq_some_iff.1 hr0).1
      clear hr0
      by_cases hlt : k < 4
      · obtain ⟨z, hz⟩ : ∃ z, [l0, l1, l2, l3][k]? = some z := ⟨_, List.getElem?_eq_getElem (by simpa using hlt)⟩
        have HQ := hide (unhide HZ k z hz)
        have HS : Hid ((([l0, l1, l2, l3] : List Int).take k ++ List.replicate (4 - k) 0).set k z = ([l0, l1, l2, l3] : List Int).take (k + 1) ++ List.replicate (4 - (k + 1)) 0) := hide (fill_set [l0, l1, l2, l3] 0 k z hz)
        obtain ⟨p0, p1, -⟩ := blk_cells2 ha
        have hgl := (World.ownsRow.lt hown w1.heap.size rfl).2
        clear hbel ha hown hz
        go_wp2_with fail
        refine (ileafsum_any ai ni ci xs af nf cf fs (k : Int) z HQ _ hni hnf ((unhide HX).later (unhide BL)) ((unhide HF).later (unhide BL))).mono ?_
        rintro e w2 ⟨rfl, b2⟩
        have BL2 := hide ((unhide BL).trans (b2.mono hsz))
        have KA2 := hide ((b2.block _ (by omega)).trans (unhide KA))
        have KR2 := hide ((b2.block _ zr).trans (unhide KR))
        have HO2 := hide ((unhide HO).later b2)
        have hO2 : w2.ownsRow w1.heap.size 90 1 (.slice (some ⟨w1.heap.size, 0, none⟩) 4 4) 4 ((([l0, l1, l2, l3] : List Int).take k ++ List.replicate (4 - k) 0).flatMap encN) := by
          have h := unhide HO2
          unfold Ow at h
          rwa [fill4 [l0, l1, l2, l3] rfl k hk] at h
        have hfz := hO2.frozenAt k
        have hcy := hO2.cellAt k (by omega)
        obtain ⟨y, hy⟩ : ∃ y, w2.cell? ⟨w1.heap.size, k, none⟩ = some y := by
          rw [hcy, flatN]
          exact ⟨_, List.getElem?_eq_getElem (by simp; omega)⟩
        have R1 := hide (hO2.stored k (.int .i64 z)).1
        clear hcy hO2 b2 p0 p1 BL KA KR HO
        go_wp2
        go_roundw
        case rel =>
          refine ⟨k + 1, by omega, by go_num, (unhide BL2).setCell (p := ⟨w1.heap.size, k, none⟩) (by simp; omega) _, ?_, ?_, ?_⟩
          · rw [heap_setCell_other _ _ _ _ (by show w.heap.size ≠ w1.heap.size; omega)]; exact unhide KA2
          · rw [heap_setCell_other _ _ _ _ (by show w.heap.size + 1 ≠ w1.heap.size; omega)]; exact unhide KR2
          · have h := unhide R1
            rw [flatN, ← List.map_set, unhide HS, ← flatN] at h
            unfold Ow
            rw [fill4 [l0, l1, l2, l3] rfl (k + 1) (by omega)]
            exact h
        case measure => simp [intOf]; omega
      · obtain rfl : k = 4 := by omega
        obtain ⟨g1, g2, g3, g4⟩ := unhide HG
        have c0 := World.ownsRow.cellAt hown 0 (by simp)
        have c1 := World.ownsRow.cellAt hown 1 (by simp)
        have c2 := World.ownsRow.cellAt hown 2 (by simp)
        have c3 := World.ownsRow.cellAt hown 3 (by simp)
        simp [encN] at c0 c1 c2 c3
        have hgl := (World.ownsRow.lt hown w1.heap.size rfl).2
        clear hbel ha hown HO
        go_wp2_with fail
        refine (itreewith_any l0 l1 l2 l3 r HTR _ g1 g2 g3 g4).mono ?_
        rintro e w2 ⟨a1, q1, rfl, o2, b2⟩
        have BL2 := hide ((unhide BL).trans (b2.mono hsz))
        have KR2 := hide ((b2.block _ zr).trans (unhide KR))
        have O2 := hide (o2.base (base' := w.heap.size + 1 + 1) zr)
        obtain ⟨p0, p1, pf⟩ := blk_cells2 (unhide KR2)
        have z2 : w.heap.size + 1 < w2.heap.size := (Array.getElem?_eq_some_iff.1 (unhide KR2)).1
        clear o2 b2 c0 c1 c2 c3 BL KA KR g1 g2 g3 g4
        go_wp2
        exact bodyPost_ret (v := .agg #[.slice a1 4 q1, .int .i64 r]) (by simp [results, Tryz.results28, go_sem, p0, p1]) rfl ⟨a1, q1, rfl, ⟨_, by rw [unhide HTL]; exact Ow.base (((unhide O2).set ⟨w.heap.size + 1, 0, none⟩ (by simp) _).set ⟨w.heap.size + 1, 1, none⟩ (by simp) _) (by omega)⟩, ((unhide BL2).setCell (p := ⟨w.heap.size + 1, 0, none⟩) (by simp) _).setCell (p := ⟨w.heap.size + 1, 1, none⟩) (by simp) _⟩
end Go.Proofs.YtdpaocikmijioabGreat

namespace Go.Proofs.YtdpaocikmijioabGreat
open Go.RowKit

set_option maxRecDepth 100000 in
theorem fld_items (a : Option Addr) (n c : Nat) (v : Value) (W : World) : (Instr.field 27 (.agg #[.slice a n c, v]) 0).run Tryz.prog W = .ok (.slice a n c) W := by
  have a3 := Tryz.isAgg24
  have z3 := Tryz.sizeOf24
  simp only [Instr.field, Sem.run_bind, run_underlying Tryz.underlying27, Result.andThen_ok]
  go_simp
  simp [asAgg]
set_option maxRecDepth 100000 in
theorem fld_leaves (a : Option Addr) (n c : Nat) (v : Value) (W : World) : (Instr.field 50 (.agg #[.slice a n c, v]) 0).run Tryz.prog W = .ok (.slice a n c) W := by
  have a3 := Tryz.isAgg30
  have z3 := Tryz.sizeOf30
  simp only [Instr.field, Sem.run_bind, run_underlying Tryz.underlying50, Result.andThen_ok]
  go_simp
  simp [asAgg]
set_option maxRecDepth 100000 in
theorem fld_root (a : Option Addr) (n c : Nat) (q : Int) (W : World) : (Instr.field 50 (.agg #[.slice a n c, .int .i64 q]) 1).run Tryz.prog W = .ok (.int .i64 q) W := by
  have a3 := Tryz.isAgg3
  have z3 := Tryz.sizeOf3
  simp only [Instr.field, Sem.run_bind, run_underlying Tryz.underlying50, Result.andThen_ok]
  go_simp
  simp [asAgg]
end Go.Proofs.YtdpaocikmijioabGreat

namespace Go.Proofs.YtdpaocikmijioabGreat
open Go.RowKit

theorem blk_cells1 {w : World} {g : Nat} {T : TypeId} {c0 : Value} (h : w.heap[g]? = some (.cells #[c0] T (0, 0))) : w.cell? ⟨g, 0, none⟩ = some c0 ∧ ∀ o, w.frozen? ⟨g, o, none⟩ = false := by
  simp [World.cell?, World.frozen?, h]
theorem keep12 {P W : World} {g h s : Nat} {e0 e1 e2 e3 e4 f0 f1 f2 f3 f4 s0 s1 : Value} (hg : g < P.heap.size) (hh : h < P.heap.size) (hs : s < P.heap.size)
    (c0 : P.cell? ⟨g, 0, none⟩ = some e0) (c1 : P.cell? ⟨g, 1, none⟩ = some e1) (c2 : P.cell? ⟨g, 2, none⟩ = some e2) (c3 : P.cell? ⟨g, 3, none⟩ = some e3) (c4 : P.cell? ⟨g, 4, none⟩ = some e4)
    (d0 : P.cell? ⟨h, 0, none⟩ = some f0) (d1 : P.cell? ⟨h, 1, none⟩ = some f1) (d2 : P.cell? ⟨h, 2, none⟩ = some f2) (d3 : P.cell? ⟨h, 3, none⟩ = some f3) (d4 : P.cell? ⟨h, 4, none⟩ = some f4)
    (k0 : P.cell? ⟨s, 0, none⟩ = some s0) (k1 : P.cell? ⟨s, 1, none⟩ = some s1) (b : Below P.heap.size P W) :
    Below P.heap.size P W ∧ W.cell? ⟨g, 0, none⟩ = some e0 ∧ W.cell? ⟨g, 1, none⟩ = some e1 ∧ W.cell? ⟨g, 2, none⟩ = some e2 ∧ W.cell? ⟨g, 3, none⟩ = some e3 ∧ W.cell? ⟨g, 4, none⟩ = some e4 ∧ W.cell? ⟨h, 0, none⟩ = some f0 ∧ W.cell? ⟨h, 1, none⟩ = some f1 ∧ W.cell? ⟨h, 2, none⟩ = some f2 ∧ W.cell? ⟨h, 3, none⟩ = some f3 ∧ W.cell? ⟨h, 4, none⟩ = some f4 ∧ W.cell? ⟨s, 0, none⟩ = some s0 ∧ W.cell? ⟨s, 1, none⟩ = some s1 := by
  have t : ∀ {q o : Nat} {v : Value}, q < P.heap.size → P.cell? ⟨q, o, none⟩ = some v → W.cell? ⟨q, o, none⟩ = some v := fun {q o v} hq c => (b.cell (p := ⟨q, o, none⟩) hq).trans c
  exact ⟨b, t hg c0, t hg c1, t hg c2, t hg c3, t hg c4, t hh d0, t hh d1, t hh d2, t hh d3, t hh d4, t hs k0, t hs k1⟩
theorem entR_of {xs ys : List Itm} {id : Int} (h : ent ys id = ent xs id) : entR ys id = entR xs id := by unfold entR; rw [h]
theorem entR_none {xs : List Itm} {id : Int} (h : ent xs id = none) : entR xs id = (zeroK, false) := by unfold entR; rw [h]
theorem entR_leaf {xs : List Itm} {id l : Int} (h : lf id = l) : entR (slI [l] xs) id = entR xs id := entR_of (by rw [ent_sl, hasN_one, h]; simp)
theorem entR_else {xs : List Itm} {id l m : Int} (h : lf id = l) (hm : m ≠ l) : entR (slI [m] xs) id = (zeroK, false) := entR_none (by rw [ent_sl, hasN_one, h, if_neg (by simpa using hm)])
theorem sc_none {xs : List Itm} {fs : List Flr} {ok : Bool} (h : okS xs fs = ok) : scI ok [-1] xs = [] := by
  cases ok
  · rfl
  · have hx := (okS_iff _ _).1 h
    show slI [-1] xs = []
    refine List.filter_eq_nil_iff.2 fun x hm => ?_
    have h1 := lf_in (inB_iff.2 ⟨(hx.ix x hm).1, (hx.ix x hm).2.1⟩)
    rw [hasN_one]
    simp
    omega
/-- While a state and more are drawn: the cursor g, the result in the call's first block, the state in block b. -/
structure Q6 (w X : World) (g : Nat) (v : Value) (xs : List Int) (b : Nat) (v1 v2 : Value) (its : List Itm) (fls : List Flr) : Prop where
  bel : Below w.heap.size w X
  cu : Cur X g v xs
  hg : w.heap.size < g
  hb : g < b
  k0 : X.heap[w.heap.size]? = some (StB (.slice none 0 0) (.slice none 0 0))
  k1 : X.heap[b]? = some (StB v1 v2)
  oi : OwI w.heap.size X v1 its
  of : OwF w.heap.size X v2 fls
  li : its.length ≤ 6
  lf : fls.length ≤ 6
  ni : Nine its
section
variable {w X Y : World} {b g : Nat} {v : Value} {xs : List Int} {v1 v2 : Value} {its : List Itm} {fls : List Flr}
theorem Q6.gl (h : Q6 w X g v xs b v1 v2 its fls) : g < X.heap.size := cur_lt h.cu
theorem Q6.bl (h : Q6 w X g v xs b v1 v2 its fls) : b < X.heap.size := (Array.getElem?_eq_some_iff.1 h.k1).1
theorem Q6.call (h : Q6 w X g v xs b v1 v2 its fls) (hc : Cur Y g v xs) (hg : X.grownBy Y (some g)) : Q6 w Y g v xs b v1 v2 its fls := by
  obtain ⟨⟨i, q, hk, _⟩, _⟩ := h.cu
  have h1 := h.hg
  have h2 := h.hb
  exact ⟨h.bel.grown hg h.bel.size (fun q hq => by simp at hq; omega), hc, h.hg, h.hb, blk_grown hg h.k0 (by omega), blk_grown hg h.k1 (by omega), h.oi.other hk (by decide) hg, h.of.other hk (by decide) hg, h.li, h.lf, h.ni⟩
theorem Q6.later (h : Q6 w X g v xs b v1 v2 its fls) (bl : Below X.heap.size X Y) : Q6 w Y g v xs b v1 v2 its fls := by
  have h1 := h.hg
  have h3 := h.gl
  exact ⟨h.bel.trans (bl.mono h.bel.size), h.cu.later bl (Nat.le_refl _), h.hg, h.hb, (bl.block _ (by omega)).trans h.k0, (bl.block _ h.bl).trans h.k1, h.oi.later bl, h.of.later bl, h.li, h.lf, h.ni⟩
theorem Q6.drewH (h : Hid (Q6 w X g v xs b v1 v2 its fls)) : Hid (Q6 w X.drew g v xs b v1 v2 its fls) := hide ((unhide h).later (Below.refl _ _).drew)
theorem Q6.fin (h : Q6 w X g v xs b v1 v2 its fls) : T3 w ((X.setCell ⟨w.heap.size, 0, none⟩ v1).setCell ⟨w.heap.size, 1, none⟩ v2) v1 v2 its fls := by
  have hg := grown_set2 X w.heap.size v1 v2
  exact ⟨(h.bel.setCell (p := ⟨w.heap.size, 0, none⟩) (Nat.le_refl _) _).setCell (p := ⟨w.heap.size, 1, none⟩) (Nat.le_refl _) _, h.oi.other h.k0 (by decide) hg, h.of.other h.k0 (by decide) hg, h.li, h.lf, h.ni⟩
theorem kQ6 (h : Hid (Q6 w X g v xs b v1 v2 its fls)) : X.cell? ⟨b, 0, none⟩ = some v1 ∧ X.cell? ⟨b, 1, none⟩ = some v2 := by
  obtain ⟨p0, p1, _⟩ := blk_cells2 (unhide h).k1
  exact ⟨p0, p1⟩
theorem kQ6s (h : Hid (Q6 w X g v xs b v1 v2 its fls)) (x y : Value) : ((X.setCell ⟨w.heap.size, 0, none⟩ x).setCell ⟨w.heap.size, 1, none⟩ y).cell? ⟨b, 0, none⟩ = some v1 ∧ ((X.setCell ⟨w.heap.size, 0, none⟩ x).setCell ⟨w.heap.size, 1, none⟩ y).cell? ⟨b, 1, none⟩ = some v2 := by
  obtain ⟨p0, p1⟩ := kQ6 h
  have := (unhide h).hg; have := (unhide h).hb
  exact ⟨farT (by omega) p0, farT (by omega) p1⟩
end
theorem T3.resd {w X : World} {O : Obj} {v1 v2 : Value} {its : List Itm} {fls : List Flr} (hO : O = StB (.slice none 0 0) (.slice none 0 0)) (h : T3 (w.alloc O) X v1 v2 its fls) : T3 w ((X.setCell ⟨w.heap.size, 0, none⟩ v1).setCell ⟨w.heap.size, 1, none⟩ v2) v1 v2 its fls := by
  have hg := grown_set2 X w.heap.size v1 v2
  have hs : (w.alloc O).heap.size = w.heap.size + 1 := by simp
  have bA : Below w.heap.size w (w.alloc O) := (Below.refl _ _).alloc (Nat.le_refl _) _
  have k0 := (h.bel.block w.heap.size (by omega)).trans (heap_alloc_new w O)
  rw [hO] at k0
  have bl := bA.trans (h.bel.mono (by omega))
  exact ⟨(bl.setCell (p := ⟨w.heap.size, 0, none⟩) (Nat.le_refl _) _).setCell (p := ⟨w.heap.size, 1, none⟩) (Nat.le_refl _) _, Ow.base (h.oi.other k0 (by decide) hg) (by omega), Ow.base (h.of.other k0 (by decide) hg) (by omega), h.li, h.lf, h.ni⟩
set_option maxHeartbeats 8000000 in
set_option maxRecDepth 100000 in
theorem drawent_any (v : Value) (xs : List Int) (w : World) (hlen : xs.length ≤ 1048576) (hbd : ∀ z ∈ xs, 0 ≤ z ∧ z ≤ 255) (hv : Seg w v xs) :
    Calls Tryz.prog 31 #[v] w fun e w' => ∃ a1 n1 c1 a2 n2 c2 its fls id, e = .returned (.tuple #[.agg #[.slice a1 n1 c1, .slice a2 n2 c2], .int .i64 id]) ∧ (-1 ≤ id ∧ id ≤ 5) ∧ T3 w w' (.slice a1 n1 c1) (.slice a2 n2 c2) its fls := by
  have HD := hide hbd
  have bA : Below w.heap.size w (w.alloc (StB (.slice none 0 0) (.slice none 0 0))) := (Below.refl _ _).alloc (Nat.le_refl _) _
  have HS := hide (hv.below bA (Nat.le_refl _))
  have BA := hide bA
  clear hbd hv bA
  go_enter Tryz.func31, Tryz.ntmps31
  go_wp2_with fail
  refine (new_any v xs _ hlen (unhide HD) (unhide HS)).mono ?_
  rintro e w1 ⟨rfl, c1, b1, s1⟩
  have hw0 : (w.alloc (StB (.slice none 0 0) (.slice none 0 0))).heap.size = w.heap.size + 1 := by simp
  have B1 := hide ((unhide BA).trans (b1.mono (by rw [hw0]; omega)))
  have K1 := hide ((b1.block _ (by rw [hw0]; omega)).trans (heap_alloc_new w _))
  rw [hw0] at c1 s1
  have C1 := hide c1
  obtain ⟨g, hg⟩ : ∃ g, g = w.heap.size + 1 := ⟨_, rfl⟩
  rw [hw0, ← hg]
  rw [← hg] at C1
  have hgA : w.heap.size < g := by omega
  clear hg c1 b1 s1 hw0 HS BA
  go_wp2_with fail
  refine (l3draw_any g v xs _ hlen (unhide HD) (unhide C1)).mono ?_
  rintro e w2 ⟨a1, n1, c1, a2, n2, c2, its, fls, rfl, d⟩
  go_upto_region 3 with fail
  obtain ⟨wa, hwa⟩ : ∃ W, W = w2.alloc (StB (.slice a1 n1 c1) (.slice a2 n2 c2)) := ⟨_, rfl⟩
  obtain ⟨b, hb⟩ : ∃ b, b = w2.heap.size := ⟨_, rfl⟩
  rw [← hwa, ← hb]
  have hgb : g < b := by rw [hb]; exact Nat.lt_of_lt_of_le (cur_lt (unhide C1)) d.gr.size
  have Q := hide (show Q6 w wa g v xs b (.slice a1 n1 c1) (.slice a2 n2 c2) its fls from by
    have t := T3.of_draw (unhide B1) (by omega) d
    have bl : Below w2.heap.size w2 wa := by rw [hwa]; exact (Below.refl _ _).alloc (Nat.le_refl _) _
    exact ⟨t.bel.trans (bl.mono t.bel.size), d.cu.later bl (Nat.le_refl _), hgA, hgb, (bl.block _ (by have := (Array.getElem?_eq_some_iff.1 (blk_grown d.gr (unhide K1) (by omega))).1; omega)).trans (blk_grown d.gr (unhide K1) (by omega)), by rw [hwa, hb]; exact heap_alloc_new _ _, t.oi.later bl, t.of.later bl, t.li, t.lf, t.ni⟩)
  clear d hwa hb C1 B1 K1
  have hbl := (unhide Q).bl
  have QD := Q6.drewH Q
  have hbw : w.heap.size < b := by omega
  go_region_held3 (fun W => W.cell? ⟨b, 0, none⟩ = some (.slice a1 n1 c1) ∧ W.cell? ⟨b, 1, none⟩ = some (.slice a2 n2 c2))
    (first | (with_reducible exact kQ6 Q) | (with_reducible exact kQ6 QD) | (with_reducible exact kQ6 QC) | (with_reducible exact kQ6s QC _ _))
    (first | (go_at_call 70; refine (below_any g v xs 7 _ hlen (unhide HD) (by omega) (by omega) (unhide QD).cu).mono ?_; rintro e w3 ⟨⟨x, rfl, xa, xb⟩, c3, g3⟩; have QC := hide ((unhide QD).call c3 g3); obtain ⟨r0, r1, rz⟩ := blk_cells2 (unhide QC).k0; have hl3 := (unhide QC).bl; have HWX : Hid (IntKind.i64.wrap (x - 1) = x - 1) := hide (by rw [IntKind.wrap_i64]; omega); clear c3 g3))
  all_goals go_wp2
  all_goals exact bodyPost_ret (v := .tuple #[.agg #[.slice a1 n1 c1, .slice a2 n2 c2], .int .i64 (x - 1)]) (by simp [results, Tryz.results31, go_sem, r0, r1, unhide HWX]) rfl ⟨_, _, _, _, _, _, _, _, _, rfl, ⟨by omega, by omega⟩, (unhide QC).fin⟩
--@end
/-- A row of numbers is not the cursor's variable. -/
theorem own_cur {base : Nat} {X Y : World} {g : Nat} {v u : Value} {xs ns : List Int} (hc : Cur X g v xs) (h : OwN base X u ns) (hg : X.grownBy Y (some g)) : OwN base Y u ns := by
  obtain ⟨⟨i, q, hk, _⟩, _⟩ := hc
  exact h.other hk (by decide) hg
theorem grown_row {w X Y : World} {g : Nat} {u : Value} {ns : List Int} (hg : w.grownBy X (some g)) (h : OwN w.heap.size X u ns) (hG : X.grownBy Y u.ownBlock) : w.grownBy Y (some g) :=
  ⟨hG.os.trans hg.os, hG.tape.trans hg.tape, hG.output.trans hg.output, Nat.le_trans hg.size hG.size, fun i hi hne => (hG.block i (Nat.lt_of_lt_of_le hi hg.size) (fun q => by have := (World.ownsRow.lt h i q.symm).1; omega)).trans (hg.block i hi hne)⟩
theorem cur_row {w X Y : World} {g : Nat} {v u : Value} {xs ns : List Int} (hc0 : Cur w g v xs) (hg : w.grownBy X (some g)) (hc : Cur X g v xs) (h : OwN w.heap.size X u ns) (hgl : g < w.heap.size) (hG : X.grownBy Y u.ownBlock) : Cur Y g v xs := by
  have hY := grown_row hg h hG
  obtain ⟨⟨i, q, hk, hi⟩, _, hne⟩ := hc
  exact ⟨⟨i, q, (hG.block g (Array.getElem?_eq_some_iff.1 hk).1 (fun q => by have := (World.ownsRow.lt h g q.symm).1; omega)).trans hk, hi⟩, hc0.2.1.grown hY hne, hne⟩
--@if spec.l6Leaves
set_option maxHeartbeats 4000000 in
set_option maxRecDepth 100000 in
theorem l6leaves_any (g : Nat) (v : Value) (xs : List Int) (w : World) (hlen : xs.length ≤ 1048576) (hbd : ∀ z ∈ xs, 0 ≤ z ∧ z ≤ 255) (hc : Cur w g v xs) :
    Calls Tryz.prog 57 #[.pointer (some ⟨g, 0, none⟩)] w fun e w' => ∃ a1 n1 c1, e = .returned (.slice a1 n1 c1) ∧ n1 ≤ 3 ∧ (∃ ns, OwN w.heap.size w' (.slice a1 n1 c1) ns) ∧ Cur w' g v xs ∧ w.grownBy w' (some g) := by
  obtain ⟨i0, hi, hz0, hz1, hz2⟩ := info_parts Tryz.infoInt
  have HD := hide hbd
  have HC := hide hc
  have hgl := cur_lt hc
  clear hbd hc
  have hO : Hid (OwN w.heap.size (w.alloc (.cells #[] 3)) (.slice (some ⟨w.heap.size, 0, none⟩) 0 0) []) := hide ⟨by simp, .inr ⟨w.heap.size, 0, #[], rfl, Nat.le_refl _, newB1 w _, by simp, by simp⟩⟩
  have bA : Below w.heap.size w (w.alloc (.cells #[] 3)) := (Below.refl _ _).alloc (Nat.le_refl _) _
  have CA := hide ((unhide HC).later bA (Nat.le_refl _))
  have GA := hide (World.grownBy_alloc w (.cells #[] 3) (some g))
  clear bA
  go_enter Tryz.func57, Tryz.ntmps57
  go_wp2_with fail
  refine (below_any g v xs 4 _ hlen (unhide HD) (by omega) (by omega) (unhide CA)).mono ?_
  rintro e w1 ⟨⟨n, rfl, na, nb⟩, c1, g1⟩
  have C1 := hide c1
  have G1 := hide (grown_trans (unhide GA) g1)
  have O1 := hide (own_cur (unhide CA) (unhide hO) g1)
  clear c1 g1 CA GA hO
  go_wp2
  go_loopw [3, 5] (fun u i wr => ∃ (k : Nat) (a1 : Option Addr) (c1 : Nat) (ns : List Int), (k : Int) ≤ n ∧ i = .int .i64 k ∧ u = .slice a1 k c1 ∧ OwN w.heap.size wr (.slice a1 k c1) ns ∧ Cur wr g v xs ∧ w.grownBy wr (some g)) (fun _ i _ => (n - intOf i).toNat)
  case atStart => exact ⟨0, _, 0, [], by omega, rfl, rfl, unhide O1, unhide C1, unhide G1⟩
  case round =>
    clear C1 G1 O1
    obtain ⟨k, a1, c1, ns, hk, rfl, rfl, hown, hcur, hgr⟩ := hrel
    have HO := hide hown
    have HC1 := hide hcur
    have HG1 := hide hgr
    have hn1 : Hid (k = ns.length) := hide (hown.rw encN_len).len.1
    have hgl1 := cur_lt hcur
    have hsz := hgr.size
    clear hown hcur hgr
    by_cases hlt : (k : Int) < n
    · have hd : decide ((k : Int) < n) = true := by simpa using hlt
      go_wp2_with fail
      refine (below_any g v xs 6 _ hlen (unhide HD) (by omega) (by omega) (unhide HC1)).mono ?_
      rintro e w2 ⟨⟨x, rfl, xa, xb⟩, c2, g2⟩
      have HO2 := hide (own_cur (unhide HC1) (unhide HO) g2)
      have HC2 := hide c2
      have HG2 := hide (grown_trans (unhide HG1) g2)
      have hs2 : w.heap.size ≤ w2.heap.size := (unhide HG2).size
      clear c2 g2 HO HC1 HG1
      go_wp2_with (first | (at_builtin; refine wpList_app1 encN_len (by omega) oneN 3 30 i0 _ 8 Tryz.underlying30 hi hz0 hz1 hz2 rfl (by omega) w2 (x - 1) rfl _ _ rfl w.heap.size _ ns k hn1 rfl (unhide HO2) rfl (by omega) hs2 ?_; intro a8 c8 w4 hO hG; have HO4 := hide hO; have HC4 := hide (cur_row (unhide HC) (unhide HG2) (unhide HC2) (unhide HO2) hgl hG); have HG4 := hide (grown_row (unhide HG2) (unhide HO2) hG); clear hO hG))
      go_roundw
      case rel => exact ⟨k + 1, a8, c8, _, by omega, by go_num, rfl, unhide HO4, unhide HC4, unhide HG4⟩
      case measure => simp [intOf]; omega
    · have hd : decide ((k : Int) < n) = false := by simpa using hlt
      go_wp2
      go_ret
      exact ⟨a1, k, c1, rfl, by omega, ⟨ns, unhide HO⟩, unhide HC1, unhide HG1⟩
set_option maxHeartbeats 8000000 in
set_option maxRecDepth 100000 in
theorem drawslice_any (v : Value) (xs : List Int) (w : World) (hlen : xs.length ≤ 1048576) (hbd : ∀ z ∈ xs, 0 ≤ z ∧ z ≤ 255) (hv : Seg w v xs) :
    Calls Tryz.prog 22 #[v] w fun e w' => ∃ a1 n1 c1 a2 n2 c2 its fls la ln lc ls, e = .returned (.tuple #[.agg #[.slice a1 n1 c1, .slice a2 n2 c2], .slice la ln lc]) ∧ ln ≤ 3 ∧ RwN w' (.slice la ln lc) ls ∧ T3 w w' (.slice a1 n1 c1) (.slice a2 n2 c2) its fls := by
  have HD := hide hbd
  have bA : Below w.heap.size w (w.alloc (StB (.slice none 0 0) (.slice none 0 0))) := (Below.refl _ _).alloc (Nat.le_refl _) _
  have HS := hide (hv.below bA (Nat.le_refl _))
  have BA := hide bA
  clear hbd hv bA
  go_enter Tryz.func22, Tryz.ntmps22
  go_wp2_with fail
  refine (new_any v xs _ hlen (unhide HD) (unhide HS)).mono ?_
  rintro e w1 ⟨rfl, c1, b1, s1⟩
  have hw0 : (w.alloc (StB (.slice none 0 0) (.slice none 0 0))).heap.size = w.heap.size + 1 := by simp
  have B1 := hide ((unhide BA).trans (b1.mono (by rw [hw0]; omega)))
  have K1 := hide ((b1.block _ (by rw [hw0]; omega)).trans (heap_alloc_new w _))
  rw [hw0] at c1 s1
  have C1 := hide c1
  obtain ⟨g, hg⟩ : ∃ g, g = w.heap.size + 1 := ⟨_, rfl⟩
  rw [hw0, ← hg]
  rw [← hg] at C1
  have hgA : w.heap.size < g := by omega
  clear hg c1 b1 s1 hw0 HS BA
  go_wp2_with fail
  refine (l3draw_any g v xs _ hlen (unhide HD) (unhide C1)).mono ?_
  rintro e w2 ⟨a1, n1, c1, a2, n2, c2, its, fls, rfl, d⟩
  go_upto_region 3 with fail
  obtain ⟨wa, hwa⟩ : ∃ W, W = w2.alloc (StB (.slice a1 n1 c1) (.slice a2 n2 c2)) := ⟨_, rfl⟩
  obtain ⟨b, hb⟩ : ∃ b, b = w2.heap.size := ⟨_, rfl⟩
  rw [← hwa, ← hb]
  have hgb : g < b := by rw [hb]; exact Nat.lt_of_lt_of_le (cur_lt (unhide C1)) d.gr.size
  have Q := hide (show Q6 w wa g v xs b (.slice a1 n1 c1) (.slice a2 n2 c2) its fls from by
    have t := T3.of_draw (unhide B1) (by omega) d
    have bl : Below w2.heap.size w2 wa := by rw [hwa]; exact (Below.refl _ _).alloc (Nat.le_refl _) _
    exact ⟨t.bel.trans (bl.mono t.bel.size), d.cu.later bl (Nat.le_refl _), hgA, hgb, (bl.block _ (by have := (Array.getElem?_eq_some_iff.1 (blk_grown d.gr (unhide K1) (by omega))).1; omega)).trans (blk_grown d.gr (unhide K1) (by omega)), by rw [hwa, hb]; exact heap_alloc_new _ _, t.oi.later bl, t.of.later bl, t.li, t.lf, t.ni⟩)
  clear d hwa hb C1 B1 K1
  have hbl := (unhide Q).bl
  have QD := Q6.drewH Q
  have hbw : w.heap.size < b := by omega
  go_region_held3 (fun W => W.cell? ⟨b, 0, none⟩ = some (.slice a1 n1 c1) ∧ W.cell? ⟨b, 1, none⟩ = some (.slice a2 n2 c2))
    (first | (with_reducible exact kQ6 Q) | (with_reducible exact kQ6 QD) | (with_reducible exact kQ6 QC) | (with_reducible exact kQ6s QC _ _))
    (first | (go_at_call 57; refine (l6leaves_any g v xs _ hlen (unhide HD) (unhide QD).cu).mono ?_; rintro e w3 ⟨la, ln, lc, rfl, hln, ⟨ls, ol⟩, c3, g3⟩; have QC := hide ((unhide QD).call c3 g3); have OL := hide (Ow.base (base' := w.heap.size + 1) ol (by have := (unhide QD).bl; omega)); obtain ⟨r0, r1, rz⟩ := blk_cells2 (unhide QC).k0; have hl3 := (unhide QC).bl; clear c3 g3 ol))
  all_goals go_wp2
  all_goals exact bodyPost_ret (v := .tuple #[.agg #[.slice a1 n1 c1, .slice a2 n2 c2], .slice la ln lc]) (by simp [results, Tryz.results22, go_sem, r0, r1]) rfl ⟨_, _, _, _, _, _, _, _, _, _, _, ls, rfl, hln, (((unhide OL).set ⟨w.heap.size, 0, none⟩ (by simp) _).set ⟨w.heap.size, 1, none⟩ (by simp) _).rw encN_len, (unhide QC).fin⟩
--@end
end Go.Proofs.YtdpaocikmijioabGreat

namespace Go.Proofs.YtdpaocikmijioabGreat
open Go.RowKit

/-- While a tree is made: the state, the result's variable, the tree, its leaves. -/
structure TQ4 (w X : World) (g : Nat) (v1 v2 : Value) (a1 : Option Addr) (n1 c1 : Nat) (ns : List Int) : Prop where
  bel : Below w.heap.size w X
  hg : w.heap.size + 1 < g
  ka : X.heap[w.heap.size]? = some (.cells #[v1, v2] 27 (0, 0))
  kr : X.heap[w.heap.size + 1]? = some (TreB (.slice none 0 0) 0)
  kt : X.heap[g]? = some (TreB (.slice a1 n1 c1) 0)
  ob : OwN (g + 1) X (.slice a1 n1 c1) ns
section
variable {w X Y : World} {g : Nat} {v1 v2 : Value} {a1 : Option Addr} {n1 c1 : Nat} {ns ms : List Int}
theorem TQ4.lt (h : TQ4 w X g v1 v2 a1 n1 c1 ns) : g < X.heap.size := (Array.getElem?_eq_some_iff.1 h.kt).1
theorem TQ4.later (h : TQ4 w X g v1 v2 a1 n1 c1 ns) (b : Below X.heap.size X Y) : TQ4 w Y g v1 v2 a1 n1 c1 ns := by
  have := h.lt; have := h.hg
  exact ⟨h.bel.trans (b.mono h.bel.size), h.hg, (b.block _ (by omega)).trans h.ka, (b.block _ (by omega)).trans h.kr, (b.block _ h.lt).trans h.kt, h.ob.later b⟩
theorem TQ4.drew (h : TQ4 w X g v1 v2 a1 n1 c1 ns) : TQ4 w X.drew g v1 v2 a1 n1 c1 ns := h.later ((Below.refl _ _).drew)
theorem TQ4.turn (h : TQ4 w X g v1 v2 a1 n1 c1 ns) (hG : X.grownBy Y (Value.slice a1 n1 c1).ownBlock) {k : Nat} (hk : k ≤ g) : Y.heap[k]? = X.heap[k]? :=
  hG.block k (by have := h.lt; omega) (fun q => by have := (World.ownsRow.lt h.ob k q.symm).1; omega)
theorem TQ4.app (h : TQ4 w X g v1 v2 a1 n1 c1 ns) {a' : Option Addr} {n' c' : Nat} (ho : OwN (g + 1) Y (.slice a' n' c') ms) (hG : X.grownBy Y (Value.slice a1 n1 c1).ownBlock) : TQ4 w (Y.setCell ⟨g, 0, none⟩ (.slice a' n' c')) g v1 v2 a' n' c' ms := by
  have hs := h.bel.size
  have hg := h.hg
  have t := fun k hk => h.turn hG (k := k) hk
  have bl : ∀ k, k < g → (Y.setCell ⟨g, 0, none⟩ (.slice a' n' c')).heap[k]? = X.heap[k]? := fun k hk => by
    rw [heap_setCell_other _ _ _ _ (by show k ≠ g; omega)]; exact t k (by omega)
  refine ⟨(h.bel.grown hG hs (fun k hk => by have := (World.ownsRow.lt h.ob k hk).1; omega)).setCell (p := ⟨g, 0, none⟩) (by simp; omega) _, hg, (bl _ (by omega)).trans h.ka, (bl _ (by omega)).trans h.kr, ?_, ho.set _ (by simp) _⟩
  exact heap_setCell_same _ _ _ _ _ _ ((t g (Nat.le_refl _)).trans h.kt)
end

set_option maxHeartbeats 8000000 in
set_option maxRecDepth 100000 in
theorem streeof_any (ai : Option Addr) (ni ci : Nat) (xs : List Itm) (af : Option Addr) (nf cf : Nat) (fs : List Flr) (n : Nat) (hn : Hid ((trL xs fs).length = n)) (r : Int) (hr : Hid (trR xs fs = r)) (w : World)
    (hni : ni ≤ 140737488351232) (hnf : nf ≤ 140737488351232) (hx : Rw encI 6 w (.slice ai ni ci) xs) (hf : Rw encF 2 w (.slice af nf cf) fs) :
    Calls Tryz.prog 33 #[.agg #[.slice ai ni ci, .slice af nf cf]] w fun e w' => ∃ a1 c1, e = .returned (.agg #[.slice a1 n c1, .int .i64 r]) ∧ OwN w.heap.size w' (.slice a1 n c1) (trL xs fs) ∧ Below w.heap.size w w' := by
  obtain ⟨i0, hi, hz0, hz1, hz2⟩ := info_parts Tryz.infoInt
  obtain ⟨k1, HK1⟩ : ∃ k, Hid (okS xs fs = k) := ⟨_, hide rfl⟩
  have HX := hide hx
  have HF := hide hf
  clear hx hf
  obtain ⟨l0, H0⟩ : ∃ l, Hid (lsm xs fs 0 = l) := ⟨_, hide rfl⟩
  obtain ⟨l1, H1⟩ : ∃ l, Hid (lsm xs fs 1 = l) := ⟨_, hide rfl⟩
  obtain ⟨l2, H2⟩ : ∃ l, Hid (lsm xs fs 2 = l) := ⟨_, hide rfl⟩
  obtain ⟨l3, H3⟩ : ∃ l, Hid (lsm xs fs 3 = l) := ⟨_, hide rfl⟩
  have HG : Hid (Fit64 l0 ∧ Fit64 l1 ∧ Fit64 l2 ∧ Fit64 l3) := hide (by
    have r0 := lsm_range xs fs 0; have r1 := lsm_range xs fs 1; have r2 := lsm_range xs fs 2; have r3 := lsm_range xs fs 3
    rw [unhide H0] at r0; rw [unhide H1] at r1; rw [unhide H2] at r2; rw [unhide H3] at r3
    unfold Fit64; omega)
  have HZ : Hid (∀ (k : Nat) (z : Int), [l0, l1, l2, l3][k]? = some z → lsm xs fs (k : Int) = z) := hide (by
    intro k z hz
    match k, hz with
    | 0, hz => simp at hz; rw [← hz]; exact unhide H0
    | 1, hz => simp at hz; rw [← hz]; exact unhide H1
    | 2, hz => simp at hz; rw [← hz]; exact unhide H2
    | 3, hz => simp at hz; rw [← hz]; exact unhide H3
    | k + 4, hz => simp at hz)
  go_enter Tryz.func33, Tryz.ntmps33
  go_wp2_with fail
  have bW : Below w.heap.size w ((w.alloc (.cells #[.slice ai ni ci, .slice af nf cf] 27)).alloc (TreB (.slice none 0 0) 0)) := ((Below.refl w.heap.size w).alloc (Nat.le_refl _) _).alloc (by simp) _
  refine (sstateok_any ai ni ci xs af nf cf fs _ HK1 _ hni hnf ((unhide HX).later bW) ((unhide HF).later bW)).mono ?_
  rintro e w1 ⟨rfl, b1⟩
  have BL := hide (bW.trans (b1.mono (by simp; omega)))
  have KA := hide ((b1.block w.heap.size (by simp; omega)).trans (lowB2 w _ _))
  have KR := hide ((b1.block (w.heap.size + 1) (by simp)).trans (newB2 w _ _))
  have z1 : w.heap.size + 1 < w1.heap.size := (Array.getElem?_eq_some_iff.1 (unhide KR)).1
  clear b1 bW
  cases k1
  · have e1 : trL xs fs = [] := by rw [trL, unhide HK1]; rfl
    have e2 : trR xs fs = 0 := by rw [trR, unhide HK1]; rfl
    obtain rfl : n = 0 := by rw [← unhide hn, e1]; rfl
    obtain rfl : r = 0 := by rw [← unhide hr, e2]
    obtain ⟨p0, p1, pf⟩ := blk_cells2 (unhide KR)
    go_wp2
    exact bodyPost_ret (v := .agg #[.slice none 0 0, .int .i64 0]) (by simp [results, Tryz.results33, go_sem, p0, p1]) rfl ⟨none, 0, rfl, by rw [e1]; exact World.ownsRow_nil _ _ _ _, ((unhide BL).setCell (p := ⟨w.heap.size + 1, 0, none⟩) (by simp) _).setCell (p := ⟨w.heap.size + 1, 1, none⟩) (by simp) _⟩
  · have HTL : Hid (trL xs fs = [l0, l1, l2, l3]) := hide (by rw [trL, unhide HK1, unhide H0, unhide H1, unhide H2, unhide H3]; rfl)
    have HTR : Hid (rt [l0, l1, l2, l3] = r) := hide (by rw [← unhide hr, trR, unhide HK1, unhide H0, unhide H1, unhide H2, unhide H3]; rfl)
    obtain rfl : n = 4 := by rw [← unhide hn, unhide HTL]; rfl
    clear H0 H1 H2 H3 hn hr
    go_wp2
    go_loopw [4] (fun i wr => ∃ (k : Nat) (a1 : Option Addr) (c1 : Nat), k ≤ 4 ∧ i = .int .i64 k ∧ TQ4 w wr w1.heap.size (.slice ai ni ci) (.slice af nf cf) a1 k c1 (([l0, l1, l2, l3] : List Int).take k)) (fun i _ => 4 - (intOf i).toNat)
    case atStart =>
      refine ⟨0, none, 0, by omega, rfl, (unhide BL).alloc (unhide BL).size _, z1, ?_, ?_, newB1 w1 _, World.ownsRow_nil _ _ _ _⟩
      · exact (Below.heap_alloc _ _ _ (by omega)).trans (unhide KA)
      · exact (Below.heap_alloc _ _ _ z1).trans (unhide KR)
    case round =>
      clear BL KA KR
      obtain ⟨k, a1, c1, hk, rfl, hT⟩ := hrel
      have TV := hide hT
      have hlt0 := hT.lt
      obtain ⟨p0, p1, -⟩ := blk_cells2 hT.ka
      obtain ⟨t0, t1, tf⟩ := blk_cells2 hT.kt
      clear hT
      by_cases hlt : k < 4
      · obtain ⟨z, hz⟩ : ∃ z, [l0, l1, l2, l3][k]? = some z := ⟨_, List.getElem?_eq_getElem (by simpa using hlt)⟩
        have HQ := hide (unhide HZ k z hz)
        have HS : Hid (([l0, l1, l2, l3] : List Int).take (k + 1) = ([l0, l1, l2, l3] : List Int).take k ++ [z]) := hide (by rw [List.take_add_one, hz]; rfl)
        have hn1 : Hid (k = (([l0, l1, l2, l3] : List Int).take k).length) := hide (by simp; omega)
        have TD := hide (unhide TV).drew
        clear hz
        go_wp2_with fail
        go_region_law (first
          | (go_simp; go_at_call 72; refine (sleafsum_any ai ni ci xs af nf cf fs (k : Int) z HQ _ hni hnf ((unhide HX).later (unhide TD).bel) ((unhide HF).later (unhide TD).bel)).mono ?_; rintro e w2 ⟨rfl, b2⟩; have T2 := hide ((unhide TD).later b2); have zT2 := (unhide T2).lt; obtain ⟨t0, t1, tf⟩ := blk_cells2 (unhide T2).kt; clear b2)
          | (refine step_app1 encN_len (by omega) oneN 3 30 i0 _ 8 Tryz.underlying30 hi hz0 hz1 hz2 rfl (by omega) w2 z rfl _ _ rfl (w1.heap.size + 1) _ (([l0, l1, l2, l3] : List Int).take k) k hn1 rfl (unhide T2).ob rfl (by omega) (by have := (unhide T2).lt; omega) ?_; intro a8 c8 w6 hO hG; obtain ⟨pq0, pq1, pqf⟩ := blk_cells2 (((unhide T2).turn hG (Nat.le_refl _)).trans (unhide T2).kt); have T6 := hide ((unhide T2).app hO hG); clear hO hG))
        all_goals clear p0 p1 t0 t1 tf
        all_goals
          go_wp2
          go_roundw
          case rel => exact ⟨k + 1, a8, c8, by omega, by go_num, by rw [unhide HS]; exact unhide T6⟩
          case measure => simp [intOf]; omega
      · obtain rfl : k = 4 := by omega
        replace TV := hide (show TQ4 w wr w1.heap.size (.slice ai ni ci) (.slice af nf cf) a1 4 c1 [l0, l1, l2, l3] from unhide TV)
        obtain ⟨g1, g2, g3, g4⟩ := unhide HG
        clear p0 p1
        go_wp2_with fail
        refine (l6root_any a1 4 c1 [l0, l1, l2, l3] r HTR _ (by omega) (fit4 g1 g2 g3 g4) ((unhide TV).ob.rw encN_len)).mono ?_
        rintro e w2 ⟨rfl, b2⟩
        have T2 := hide ((unhide TV).later b2)
        have z2 := (unhide T2).lt
        clear t0 t1 tf b2
        obtain ⟨t0, t1, tf⟩ := blk_cells2 (unhide T2).kt
        obtain ⟨r0, r1, rf⟩ := blk_cells2 (unhide T2).kr
        have O2 := hide (Ow.base (base' := w1.heap.size + 1) (unhide T2).ob (by omega))
        clear g1 g2 g3 g4
        go_wp2
        exact bodyPost_ret (v := .agg #[.slice a1 4 c1, .int .i64 r]) (by simp [results, Tryz.results33, go_sem, r0, r1]) rfl ⟨a1, c1, rfl, by rw [unhide HTL]; exact Ow.base ((((unhide O2).set ⟨w1.heap.size, 1, none⟩ (by simp) _).set ⟨w.heap.size + 1, 0, none⟩ (by simp; omega) _).set ⟨w.heap.size + 1, 1, none⟩ (by simp; omega) _) (by omega), (((unhide T2).bel.setCell (p := ⟨w1.heap.size, 1, none⟩) (by simp; omega) _).setCell (p := ⟨w.heap.size + 1, 0, none⟩) (by simp) _).setCell (p := ⟨w.heap.size + 1, 1, none⟩) (by simp) _⟩
end Go.Proofs.YtdpaocikmijioabGreat

namespace Go.Proofs.YtdpaocikmijioabGreat
open Go.RowKit

/-- The sums of a whole tree, and whether it is one. -/
def sm : List Int → (Int × Int × Int × Int) × Bool
  | [a, b, c, d] => ((a, b, c, d), true)
  | _ => ((0, 0, 0, 0), false)
theorem sm_yes {ns : List Int} {a b c d : Int} (h : sm ns = ((a, b, c, d), true)) : ns = [a, b, c, d] := by
  match ns, h with
  | [a', b', c', d'], h => simp [sm] at h; obtain ⟨rfl, rfl, rfl, rfl⟩ := h; rfl
  | [], h => simp [sm] at h
  | [_], h => simp [sm] at h
  | [_, _], h => simp [sm] at h
  | [_, _, _], h => simp [sm] at h
  | _ :: _ :: _ :: _ :: _ :: _, h => simp [sm] at h
theorem sm_no {ns : List Int} {x : Int × Int × Int × Int} (h : sm ns = (x, false)) : ns.length ≠ 4 ∧ x = (0, 0, 0, 0) := by
  match ns, h with
  | [a', b', c', d'], h => simp [sm] at h
  | [], h => simp [sm] at h; exact ⟨by simp, h.symm⟩
  | [_], h => simp [sm] at h; exact ⟨by simp, h.symm⟩
  | [_, _], h => simp [sm] at h; exact ⟨by simp, h.symm⟩
  | [_, _, _], h => simp [sm] at h; exact ⟨by simp, h.symm⟩
  | _ :: _ :: _ :: _ :: _ :: _, h => simp [sm] at h; exact ⟨by simp, h.symm⟩
theorem sm_len (ns : List Int) : (sm ns).2 = (ns.length == 4) := by
  match ns with
  | [a', b', c', d'] => rfl
  | [] => rfl
  | [_] => rfl
  | [_, _] => rfl
  | [_, _, _] => rfl
  | _ :: _ :: _ :: _ :: _ :: _ => simp [sm]
theorem Tryz.sizeInt : (Tryz.prog.info? 3).map (·.size) = some 1 := by
  obtain ⟨i0, hi, hz0, hz1, hz2⟩ := info_parts Tryz.infoInt
  rw [hi]; simp [hz1]

theorem blkS4 {w : World} {g : Nat} {T : TypeId} {c0 c1 c2 c3 : Value} (h : w.heap[g]? = some (.cells #[c0, c1, c2, c3] T (0, 0))) :
    w.cell? ⟨g, 0, none⟩ = some c0 ∧ w.cell? ⟨g, 1, none⟩ = some c1 ∧ w.cell? ⟨g, 2, none⟩ = some c2 ∧ w.cell? ⟨g, 3, none⟩ = some c3 ∧ ∀ o, w.frozen? ⟨g, o, none⟩ = false := by
  simp [World.cell?, World.frozen?, h]
theorem copy_src {W : World} {b off c : Nat} {x0 x1 x2 x3 : Int} (h : RwN W (.slice (some ⟨b, off, none⟩) 4 c) [x0, x1, x2, x3]) : ∀ (j : Nat) (v : Value), ([.int .i64 x0, .int .i64 x1, .int .i64 x2, .int .i64 x3] : List Value)[j]? = some v → W.cell? ((⟨b, off, none⟩ : Addr).add j) = some v := by
  intro j v hj
  have hl : j < 4 := by have := (List.getElem?_eq_some_iff.1 hj).1; simpa using this
  obtain ⟨z, b', off', hz, hp, -, -, cz⟩ := h.atN hl
  simp only [Option.some.injEq, Addr.mk.injEq, and_true] at hp
  obtain ⟨rfl, rfl⟩ := hp
  have e : (⟨b, off, none⟩ : Addr).add j = ⟨b, off + j, none⟩ := by
    unfold Addr.add
    by_cases h0 : j = 0
    · subst h0; rfl
    · rw [if_neg h0]
  rw [e, cz]
  rcases (by omega : j = 0 ∨ j = 1 ∨ j = 2 ∨ j = 3) with rfl | rfl | rfl | rfl <;> (simp at hz hj; rw [← hz, ← hj])
theorem oneL4 (x0 x1 x2 x3 : Int) : ∀ u ∈ ([.int .i64 x0, .int .i64 x1, .int .i64 x2, .int .i64 x3] : List Value), u.oneCell' = true := by
  intro u hu
  simp at hu
  rcases hu with rfl | rfl | rfl | rfl <;> rfl
set_option maxHeartbeats 4000000 in
set_option maxRecDepth 100000 in
theorem isumsof_any (a : Option Addr) (n c : Nat) (ns : List Int) (q : Int) (x0 x1 x2 x3 : Int) (k : Bool) (hs : Hid (sm ns = ((x0, x1, x2, x3), k))) (w : World) (h : RwN w (.slice a n c) ns) (hn : n ≤ 140737488351232) :
    Calls Tryz.prog 74 #[.agg #[.slice a n c, .int .i64 q]] w fun e w' => e = .returned (.tuple #[.agg #[.int .i64 x0, .int .i64 x1, .int .i64 x2, .int .i64 x3], .bool k]) ∧ Below w.heap.size w w' := by
  have HR := hide h
  have HN := hide h.len.1
  clear h
  cases k
  · obtain ⟨h4, hx⟩ := sm_no (unhide hs)
    have hn4 : n ≠ 4 := by rw [unhide HN]; exact h4
    simp only [Prod.mk.injEq] at hx
    obtain ⟨rfl, rfl, rfl, rfl⟩ := hx
    have hd : ((n : Int) != 4) = true := by simp; omega
    clear h4 hs
    go_enter Tryz.func74, Tryz.ntmps74
    go_wp2
    exact bodyPost_ret (v := .tuple #[.agg #[.int .i64 0, .int .i64 0, .int .i64 0, .int .i64 0], .bool false]) (by simp [results, Tryz.results74, go_sem]) rfl ⟨rfl, (((Below.refl w.heap.size w).alloc (Nat.le_refl _) _).alloc (by simp) _).alloc (by simp <;> omega) _⟩
  · have hns := sm_yes (unhide hs)
    have hn4 : n = 4 := by rw [unhide HN, hns]; rfl
    subst hn4 hns
    clear hs HN
    go_enter Tryz.func74, Tryz.ntmps74
    go_wp2_with (at_builtin; fail)
    obtain ⟨V, hV⟩ : ∃ V, V = ((w.alloc (TreB (.slice a 4 c) q)).alloc (SumB 0 0 0 0)).alloc (SumB 0 0 0 0) := ⟨_, rfl⟩
    have bV : Below w.heap.size w V := by rw [hV]; exact (((Below.refl w.heap.size w).alloc (Nat.le_refl _) _).alloc (by simp) _).alloc (by simp <;> omega) _
    have KT : Hid (V.heap[w.heap.size]? = some (TreB (.slice a 4 c) q)) := hide (by rw [hV]; exact lowB3 w _ _ _)
    have KR : Hid (V.heap[w.heap.size + 1]? = some (SumB 0 0 0 0)) := hide (by rw [hV]; exact midB3 w _ _ _)
    have KO : Hid (V.heap[w.heap.size + 1 + 1]? = some (SumB 0 0 0 0)) := hide (by rw [hV]; exact newB3 w _ _ _)
    rw [← hV]
    clear hV
    have zV : w.heap.size + 1 + 1 < V.heap.size := (Array.getElem?_eq_some_iff.1 (unhide KO)).1
    have zT : w.heap.size < V.heap.size := by omega
    obtain ⟨t0, t1, -⟩ := blk_cells2 (unhide KT)
    have bD : Below V.heap.size V V.drew := (Below.refl _ _).drew
    obtain ⟨d, b, off, hz, rfl, hb, hcap, cz⟩ := ((unhide HR).later (bV.trans (bD.mono bV.size))).atN (i := 0) (by omega)
    have HSRC := hide (copy_src ((unhide HR).later (bV.trans (bD.mono bV.size))))
    have BV := hide bV
    clear hz cz bV bD
    go_region_law (refine step_copy_splice rfl (.tmp 10) (.tmp 12) 30 30 rfl 3 Tryz.underlying30 Tryz.sizeInt _ _ 4 4 4 c rfl rfl (w.heap.size + 1 + 1) 0 [.int .i64 0, .int .i64 0, .int .i64 0, .int .i64 0] 90 (unhide KO) [.int .i64 x0, .int .i64 x1, .int .i64 x2, .int .i64 x3] rfl (fun _ => ⟨rfl, _, rfl, unhide HSRC⟩) (Nat.le_refl _) (oneL4 x0 x1 x2 x3) (w.heap.size + 1 + 1) V.drew (Below.refl _ _) (Nat.le_refl _) ?_; intro w4 hg4 hb4; have G4 : Hid (w4.heap[w.heap.size + 1 + 1]? = some (SumB x0 x1 x2 x3)) := hg4; have B4 := hide hb4; clear hg4 hb4)
    all_goals
      have KR4 : Hid (w4.heap[w.heap.size + 1]? = some (SumB 0 0 0 0)) := hide (((unhide B4).block _ (by omega)).trans (unhide KR))
      have BL4 := hide (((unhide BV).trans ((Below.refl _ _).drew)).trans ((unhide B4).mono (by omega)))
      obtain ⟨o0, o1, o2, o3, -⟩ := blkS4 (unhide G4)
      obtain ⟨r0, r1, r2, r3, rf⟩ := blkS4 (unhide KR4)
      have z4 : w.heap.size + 1 + 1 < w4.heap.size := (Array.getElem?_eq_some_iff.1 (unhide G4)).1
      clear t0 t1
      go_wp2
      exact bodyPost_ret (v := .tuple #[.agg #[.int .i64 x0, .int .i64 x1, .int .i64 x2, .int .i64 x3], .bool true]) (by simp [results, Tryz.results74, go_sem, r0, r1, r2, r3]) rfl ⟨rfl, ((((unhide BL4).setCell (p := ⟨w.heap.size + 1, 0, none⟩) (by simp) _).setCell (p := ⟨w.heap.size + 1, 1, none⟩) (by simp) _).setCell (p := ⟨w.heap.size + 1, 2, none⟩) (by simp) _).setCell (p := ⟨w.heap.size + 1, 3, none⟩) (by simp) _⟩
end Go.Proofs.YtdpaocikmijioabGreat

namespace Go.Proofs.YtdpaocikmijioabGreat
open Go.RowKit

theorem wpList_appN {ops : Array Oper} {rest : List Oper} {o : Oper} {a : Act} {Q : Exit → Act → World → Prop} (w : World) (hgd : o.guard = none) (s x : Operand)
    (ho : o.op = .call { callee := .builtin .append, args := #[s, x], argTypes := #[30, 30] })
    (base : Nat) (v : Value) (xs : List Int) (hs : a.eval s = v) (hown : OwN base w v xs) (b : Option Addr) (m cap : Nat) (ys : List Int) (hx : a.eval x = .slice b m cap) (hu : RwN w (.slice b m cap) ys) (hnil : b = none → cap = 0) (hl : xs.length + ys.length ≤ 100000000) (hbase : base ≤ w.heap.size)
    (h : ∀ v' w', OwN base w' v' (xs ++ ys) → w.grownBy w' v.ownBlock → wpList Tryz.prog ops Q rest (a.put o.dst v') w') : wpList Tryz.prog ops Q (o :: rest) a w := by
  obtain ⟨i0, hi, hz0, hz1, hz2⟩ := info_parts Tryz.infoInt
  obtain ⟨hm, hcap⟩ := hu.len
  subst hm
  cases b with
  | none =>
    have hys : ys = [] := by
      cases ys with
      | nil => rfl
      | cons y r =>
        obtain ⟨z, b', off', _, hp, _⟩ := hu.atN (i := 0) (by simp)
        cases hp
    subst hys
    obtain rfl := hnil rfl
    exact wpList_append_own_none hgd s x 30 ho base 3 i0 1 Tryz.underlying30 hi v xs.length (xs.flatMap encN) hs hown hx (h v w (by simpa using hown) (World.grownBy.refl _ _))
  | some ad =>
    refine wpList_append_own w hgd s x 30 ho base 3 i0 (.int .i64 0) 1 8 Tryz.underlying30 hi hz0 hz1 hz2 rfl (by decide) v xs.length (xs.flatMap encN) hs hown ad ys.length cap (ys.flatMap encN) hx (by rw [flatN, List.length_map]; omega) ?_ ?_ (by unfold maxLen; omega) (by omega) hbase (fun v' w' o1 g1 _ => h v' w' ?_ g1)
    · intro j u hj
      rw [flatN] at hj
      have hj' : j < ys.length := by have := (List.getElem?_eq_some_iff.1 hj).1; simpa using this
      obtain ⟨z, b', off', hz, hp, _, _, cz⟩ := hu.atN hj'
      simp only [Option.some.injEq] at hp
      subst hp
      have e : (⟨b', off', none⟩ : Addr).add j = ⟨b', off' + j, none⟩ := by
        unfold Addr.add
        by_cases h0 : j = 0
        · subst h0; rfl
        · rw [if_neg h0]
      rw [e, cz]
      rw [List.getElem?_map, hz] at hj
      simpa using hj
    · intro u hu'
      rw [flatN] at hu'
      exact ints_oneCell _ _ u hu'
    · unfold OwN Ow
      rw [List.flatMap_append, List.length_append]
      exact o1
theorem Ow.nilok {E : TypeId} {base : Nat} {w : World} {a : Option Addr} {n c : Nat} {ns : List Int} (h : Ow encN 1 E base w (.slice a n c) ns) : a = none → c = 0 := by
  rintro rfl
  rcases h.2 with ⟨e, _⟩ | ⟨g, cap, cur, e, _⟩
  · simp at e; exact e.2
  · simp at e

theorem eqlnil {P : Program} (w : World) (t e : TypeId) (a : Option Addr) (n c : Nat) (h : P.underlying t = some (.slice e)) : (binOp .eql t (.slice a n c) (.slice none 0 0)).run P w = .ok (.bool a.isNone) w := by
  have h1 : ∀ d : Nat, (Op.equalIn (d + 1) t (.slice a n c) (.slice none 0 0)).run P w = .ok a.isNone w := fun d => by cases a <;> simp [Op.equalIn, run_underlying h]
  simp only [binOp]
  simp [Op.equal, Op.maxDepth, h1 9999]
theorem madeN {w : World} {g base : Nat} (hb : base ≤ g) (h : w.heap[g]? = some (.cells #[] 3 (0, 0))) : OwN base w (.slice (some ⟨g, 0, none⟩) 0 0) [] :=
  ⟨by simp, .inr ⟨g, 0, #[], rfl, hb, h, by simp, by simp⟩⟩
set_option maxHeartbeats 2000000 in
set_option maxRecDepth 100000 in
theorem iclone_any (a : Option Addr) (n c : Nat) (ns : List Int) (w : World) (hn : n ≤ 10000000) (hnil : a = none → c = 0) (h : RwN w (.slice a n c) ns) :
    Calls Tryz.prog 107 #[.slice a n c] w fun e w' => ∃ a1 c1, e = .returned (.slice a1 n c1) ∧ OwN w.heap.size w' (.slice a1 n c1) ns ∧ Below w.heap.size w w' := by
  have hN := h.len.1
  have HR := hide h
  cases a with
  | none =>
    have hns : ns = [] := by
      cases ns with
      | nil => rfl
      | cons y r =>
        obtain ⟨z, b', off', _, hp, _⟩ := h.atN (i := 0) (by rw [hN]; simp)
        cases hp
    subst hns
    obtain rfl : n = 0 := hN
    obtain rfl := hnil rfl
    have hcl : ∀ W, (binOp .eql 30 (.slice none 0 0) (.slice none 0 0)).run Tryz.prog W = .ok (.bool true) W := fun W => eqlnil W 30 3 none 0 0 Tryz.underlying30
    clear h HR
    go_enter Tryz.func107, Tryz.ntmps107
    go_wp2
    go_ret
    exact ⟨none, 0, rfl, World.ownsRow_nil _ _ _ _, Below.refl _ _⟩
  | some ad =>
    have hO : Hid (OwN w.heap.size (w.alloc (.cells #[] 3)) (.slice (some ⟨w.heap.size, 0, none⟩) 0 0) []) := hide (World.ownsRow_made _ #[] 0 (Nat.le_refl _) (by simp [maxLen]) rfl)
    have HL := hide hN
    have hcl : ∀ W, (binOp .eql 30 (.slice (some ad) n c) (.slice none 0 0)).run Tryz.prog W = .ok (.bool false) W := fun W => eqlnil W 30 3 (some ad) n c Tryz.underlying30
    clear h hN
    go_enter Tryz.func107, Tryz.ntmps107
    go_wp2_with (at_builtin; refine wpList_appN _ rfl _ _ rfl w.heap.size _ [] rfl (unhide hO) (some ad) n c ns rfl ((unhide HR).alloc _) (fun h => by cases h) (by have := unhide HL; simp; omega) (by simp) ?_; intro v' w' hV hG; have HV := hide hV; have HG := hide (((Below.refl w.heap.size w).alloc (Nat.le_refl _) _).grown hG (by simp) (fun k hk => ((unhide hO).lt k hk).1)); clear hV hG)
    go_ret
    have hv := unhide HV
    rw [List.nil_append] at hv
    obtain ⟨a1, c1, rfl⟩ := hv.form
    rw [← unhide HL] at hv ⊢
    exact ⟨a1, c1, rfl, hv, unhide HG⟩
end Go.Proofs.YtdpaocikmijioabGreat

namespace Go.Proofs.YtdpaocikmijioabGreat
open Go.RowKit

/-- While a tree is copied: the argument, the result's variable. -/
structure C10 (w W : World) (v : Value) (q : Int) : Prop where
  bel : Below w.heap.size w W
  ka : W.heap[w.heap.size]? = some (TreB v q)
  kr : W.heap[w.heap.size + 1]? = some (TreB (.slice none 0 0) 0)
theorem C10.lt {w W : World} {v : Value} {q : Int} (h : C10 w W v q) : w.heap.size + 1 < W.heap.size := (Array.getElem?_eq_some_iff.1 h.kr).1
theorem C10.later {w W Y : World} {v : Value} {q : Int} (h : C10 w W v q) (b : Below W.heap.size W Y) : C10 w Y v q := by
  have := h.lt
  exact ⟨h.bel.trans (b.mono h.bel.size), (b.block _ (by omega)).trans h.ka, (b.block _ h.lt).trans h.kr⟩
theorem C10.drewH {w W : World} {v : Value} {q : Int} (h : Hid (C10 w W v q)) : Hid (C10 w W.drew v q) := hide ((unhide h).later ((Below.refl _ _).drew))
theorem kC10 {w W : World} {v : Value} {q : Int} (h : Hid (C10 w W v q)) : Below w.heap.size w W ∧ W.cell? ⟨w.heap.size, 0, none⟩ = some v ∧ W.cell? ⟨w.heap.size, 1, none⟩ = some (.int .i64 q) := by
  obtain ⟨h0, h1, -⟩ := blk_cells2 (unhide h).ka
  exact ⟨(unhide h).bel, h0, h1⟩
theorem kC10s {w W : World} {v : Value} {q : Int} (h : Hid (C10 w W v q)) (x y : Value) : Below w.heap.size w ((W.setCell ⟨w.heap.size + 1, 0, none⟩ x).setCell ⟨w.heap.size + 1, 1, none⟩ y) ∧ ((W.setCell ⟨w.heap.size + 1, 0, none⟩ x).setCell ⟨w.heap.size + 1, 1, none⟩ y).cell? ⟨w.heap.size, 0, none⟩ = some v ∧ ((W.setCell ⟨w.heap.size + 1, 0, none⟩ x).setCell ⟨w.heap.size + 1, 1, none⟩ y).cell? ⟨w.heap.size, 1, none⟩ = some (.int .i64 q) := by
  obtain ⟨hb, h0, h1⟩ := kC10 h
  exact ⟨(hb.setCell (p := ⟨w.heap.size + 1, 0, none⟩) (by simp) _).setCell (p := ⟨w.heap.size + 1, 1, none⟩) (by simp) _, farT (by omega) h0, farT (by omega) h1⟩
theorem C10.new (w : World) (v : Value) (q : Int) : C10 w ((w.alloc (TreB v q)).alloc (TreB (.slice none 0 0) 0)) v q :=
  ⟨((Below.refl w.heap.size w).alloc (Nat.le_refl _) _).alloc (by simp) _, lowB2 w _ _, newB2 w _ _⟩
set_option maxHeartbeats 2000000 in
set_option maxRecDepth 100000 in
theorem itreecopy_any (a : Option Addr) (n c : Nat) (ns : List Int) (q : Int) (w : World) (hn : n ≤ 10000000) (hnil : a = none → c = 0) (h : RwN w (.slice a n c) ns) :
    Calls Tryz.prog 76 #[.agg #[.slice a n c, .int .i64 q]] w fun e w' => ∃ a1 c1, e = .returned (.agg #[.slice a1 n c1, .int .i64 q]) ∧ OwN w.heap.size w' (.slice a1 n c1) ns ∧ Below w.heap.size w w' := by
  have HR := hide h
  clear h
  go_enter Tryz.func76, Tryz.ntmps76
  go_wp2_with fail
  have CV0 := C10.new w (.slice a n c) q
  obtain ⟨V, hV⟩ : ∃ V, V = (w.alloc (TreB (.slice a n c) q)).alloc (TreB (.slice none 0 0) 0) := ⟨_, rfl⟩
  have CV : Hid (C10 w V (.slice a n c) q) := hide (by rw [hV]; exact CV0)
  rw [← hV]
  clear hV CV0
  have CD := C10.drewH CV
  have zV := (unhide CV).lt
  have zA : w.heap.size < V.heap.size := by omega
  go_region_held3 (fun W => Below w.heap.size w W ∧ W.cell? ⟨w.heap.size, 0, none⟩ = some (.slice a n c) ∧ W.cell? ⟨w.heap.size, 1, none⟩ = some (.int .i64 q))
    (first | (with_reducible exact kC10 CV) | (with_reducible exact kC10 CD) | (with_reducible exact kC10 CA) | (with_reducible exact kC10s CA _ _))
    (first | (go_at_call 107; refine (iclone_any a n c ns _ hn hnil ((unhide HR).later (unhide CD).bel)).mono ?_; rintro e w3 ⟨a1, c1, rfl, o1, b3⟩; have CA := hide ((unhide CD).later b3); have OI := hide (o1.base (base' := w.heap.size + 1 + 1) (unhide CD).lt); obtain ⟨p0, p1, pf⟩ := blk_cells2 (unhide CA).kr; have zB := (unhide CA).lt; clear o1 b3))
  all_goals go_wp2
  all_goals exact bodyPost_ret (v := .agg #[.slice a1 n c1, .int .i64 q]) (by simp [results, Tryz.results76, go_sem, p0, p1]) rfl ⟨a1, c1, rfl, Ow.base (((unhide OI).set ⟨w.heap.size + 1, 0, none⟩ (by simp) _).set ⟨w.heap.size + 1, 1, none⟩ (by simp) _) (by omega), (kC10s CA _ _).1⟩
set_option maxHeartbeats 2000000 in
set_option maxRecDepth 100000 in
theorem ieveryleaf_any (w : World) :
    Calls Tryz.prog 77 #[] w fun e w' => ∃ a1 c1, e = .returned (.slice a1 4 c1) ∧ OwN w.heap.size w' (.slice a1 4 c1) [0, 1, 2, 3] ∧ Below w.heap.size w w' := by
  obtain ⟨i0, hi, hz0, hz1, hz2⟩ := info_parts Tryz.infoInt
  go_enter Tryz.func77, Tryz.ntmps77
  go_wp2
  go_loopw [1, 3] (fun v i wr => ∃ (k : Nat) (a1 : Option Addr) (c1 : Nat), k ≤ 4 ∧ i = .int .i64 k ∧ v = .slice a1 k c1 ∧ OwN w.heap.size wr (.slice a1 k c1) (([0, 1, 2, 3] : List Int).take k) ∧ Below w.heap.size w wr) (fun _ i _ => 4 - (intOf i).toNat)
  case atStart => exact ⟨0, none, 0, by omega, rfl, rfl, World.ownsRow_nil _ _ _ _, Below.refl _ _⟩
  case round =>
    obtain ⟨k, a1, c1, hk, rfl, rfl, hown, hbel⟩ := hrel
    have HO := hide hown
    have HB := hide hbel
    have hsz := hbel.size
    clear hown hbel
    by_cases hlt : k < 4
    · have hn1 : Hid (k = (([0, 1, 2, 3] : List Int).take k).length) := hide (by simp; omega)
      have HP : Hid (([0, 1, 2, 3] : List Int).take (k + 1) = ([0, 1, 2, 3] : List Int).take k ++ [(k : Int)]) := hide (by
        rcases (by omega : k = 0 ∨ k = 1 ∨ k = 2 ∨ k = 3) with rfl | rfl | rfl | rfl <;> rfl)
      go_wp2_with (first | (at_builtin; refine wpList_app1 encN_len (by omega) oneN 3 30 i0 _ 8 Tryz.underlying30 hi hz0 hz1 hz2 rfl (by omega) wr (k : Int) rfl _ _ rfl w.heap.size _ (([0, 1, 2, 3] : List Int).take k) k hn1 rfl (unhide HO) rfl (by omega) hsz ?_; intro a8 c8 w4 hO hG; have HO4 := hide hO; have HB4 := hide ((unhide HB).grown hG hsz (fun i q => (World.ownsRow.lt (unhide HO) i q).1)); clear hO hG))
      go_roundw
      case rel => exact ⟨k + 1, a8, c8, by omega, by go_num, rfl, by rw [unhide HP]; exact unhide HO4, unhide HB4⟩
      case measure => simp [intOf]; omega
    · obtain rfl : k = 4 := by omega
      go_wp2
      go_ret
      exact ⟨a1, c1, rfl, unhide HO, unhide HB⟩
theorem eqS_run (x0 x1 x2 x3 y0 y1 y2 y3 : Int) (W : World) : (Op.equalIn 10000 90 (.agg #[.int .i64 x0, .int .i64 x1, .int .i64 x2, .int .i64 x3]) (.agg #[.int .i64 y0, .int .i64 y1, .int .i64 y2, .int .i64 y3])).run Tryz.prog W = .ok (x0 == y0 && x1 == y1 && x2 == y2 && x3 == y3) W := by
  have u3 := Tryz.underlying3
  have a3 := Tryz.isAgg3
  have z3 := Tryz.sizeOf3
  rw [show (10000 : Nat) = 9999 + 1 from rfl, Op.equalIn]
  simp only [Sem.run_bind, run_underlying Tryz.underlying90, Result.andThen_ok]
  simp only [Std.Legacy.Range.forIn_eq_forIn_range', Std.Legacy.Range.size, Nat.sub_zero, Nat.add_sub_cancel, Nat.div_one, List.range'_succ, List.range'_zero, List.forIn_cons, List.forIn_nil]
  go_simp
  by_cases h1 : x0 = y0 <;> by_cases h2 : x1 = y1 <;> by_cases h3 : x2 = y2 <;> by_cases h4 : x3 = y3 <;> simp [h1, h2, h3, h4]
theorem df_no {ns ms : List Int} {q p : Int} (hqp : (q == p) = false) (h : (ns.length == 4) = false ∨ (ms.length == 4) = false) : dfL ns q ms p = [0, 1, 2, 3] := by
  have hne : q ≠ p := by simpa using hqp
  rw [dfL, if_neg hne]
  have : ∀ k, dfP ns ms k = true := fun k => by
    unfold dfP
    rcases h with h | h
    · rw [h]; rfl
    · rw [h]; cases (ns.length == 4) <;> rfl
  simp [this]
theorem df_four {x0 x1 x2 x3 y0 y1 y2 y3 q p : Int} (hqp : (q == p) = false) : dfL [x0, x1, x2, x3] q [y0, y1, y2, y3] p = ([0, 1, 2, 3] : List Int).filter (fun k => ([x0, x1, x2, x3] : List Int).getD k.toNat 0 != ([y0, y1, y2, y3] : List Int).getD k.toNat 0) := by
  have hne : q ≠ p := by simpa using hqp
  rw [dfL, if_neg hne]
  rfl
set_option maxHeartbeats 8000000 in
set_option maxRecDepth 100000 in
theorem idiffer_any (a : Option Addr) (n c : Nat) (ns : List Int) (q : Int) (b : Option Addr) (m d : Nat) (ms : List Int) (p : Int) (w : World) (hn : n ≤ 140737488351232) (hm : m ≤ 140737488351232) (h : RwN w (.slice a n c) ns) (h1 : RwN w (.slice b m d) ms) :
    Calls Tryz.prog 36 #[.agg #[.slice a n c, .int .i64 q], .agg #[.slice b m d, .int .i64 p]] w fun e w' => ∃ a1 n1 c1, e = .returned (.slice a1 n1 c1) ∧ OwN w.heap.size w' (.slice a1 n1 c1) (dfL ns q ms p) ∧ Below w.heap.size w w' := by
  obtain ⟨i0, hi, hz0, hz1, hz2⟩ := info_parts Tryz.infoInt
  have HR := hide h
  have HR1 := hide h1
  clear h h1
  rcases Bool.eq_false_or_eq_true (q == p) with hqp | hqp
  · have e0 : dfL ns q ms p = [] := by rw [dfL, if_pos (by simpa using hqp)]
    go_enter Tryz.func36, Tryz.ntmps36
    go_wp2
    go_ret
    exact ⟨none, 0, 0, rfl, by rw [e0]; exact World.ownsRow_nil _ _ _ _, ((Below.refl w.heap.size w).alloc (Nat.le_refl _) _).alloc (by simp) _⟩
  · obtain ⟨⟨x0, x1, x2, x3⟩, k1, HS1⟩ : ∃ x k, sm ns = (x, k) := ⟨_, _, rfl⟩
    obtain ⟨⟨y0, y1, y2, y3⟩, k2, HS2⟩ : ∃ x k, sm ms = (x, k) := ⟨_, _, rfl⟩
    have hk1 : Hid ((ns.length == 4) = k1) := hide (by rw [← sm_len, HS1])
    have hk2 : Hid ((ms.length == 4) = k2) := hide (by rw [← sm_len, HS2])
    replace HS1 := hide HS1
    replace HS2 := hide HS2
    go_enter Tryz.func36, Tryz.ntmps36
    go_wp2_with fail
    have bW : Below w.heap.size w ((w.alloc (TreB (.slice a n c) q)).alloc (TreB (.slice b m d) p)) := ((Below.refl w.heap.size w).alloc (Nat.le_refl _) _).alloc (by simp) _
    refine (isumsof_any a n c ns q x0 x1 x2 x3 k1 HS1 _ ((unhide HR).later bW) hn).mono ?_
    rintro e w1 ⟨rfl, b1⟩
    have BL1 := hide (bW.trans (b1.mono (by simp <;> omega)))
    have KB1 := hide ((b1.block (w.heap.size + 1) (by simp)).trans (newB2 w _ _))
    have z1 : w.heap.size + 1 < w1.heap.size := (Array.getElem?_eq_some_iff.1 (unhide KB1)).1
    obtain ⟨p0, p1, -⟩ := blk_cells2 (unhide KB1)
    clear bW b1
    go_wp2_with fail
    have bX : Below w1.heap.size w1 (w1.alloc (SumB x0 x1 x2 x3)) := (Below.refl _ _).alloc (Nat.le_refl _) _
    refine (isumsof_any b m d ms p y0 y1 y2 y3 k2 HS2 _ ((unhide HR1).later ((unhide BL1).trans (bX.mono (by omega)))) hm).mono ?_
    rintro e w2 ⟨rfl, b2⟩
    have BL2 := hide (((unhide BL1).trans (bX.mono (by omega))).trans (b2.mono (by simp <;> omega)))
    have KH2 := hide ((b2.block w1.heap.size (by simp)).trans (newB1 w1 _))
    have z2 : w1.heap.size < w2.heap.size := (Array.getElem?_eq_some_iff.1 (unhide KH2)).1
    have hw2 := (unhide BL2).size
    clear bX b2 p0 p1 KB1 BL1
    obtain ⟨W, hW⟩ : ∃ W, W = w2.alloc (SumB y0 y1 y2 y3) := ⟨_, rfl⟩
    have bW2 : Below w2.heap.size w2 W := by rw [hW]; exact (Below.refl _ _).alloc (Nat.le_refl _) _
    have BLW := hide ((unhide BL2).trans (bW2.mono hw2))
    have KH := hide ((bW2.block w1.heap.size z2).trans (unhide KH2))
    have KT : Hid (W.heap[w2.heap.size]? = some (SumB y0 y1 y2 y3)) := hide (by rw [hW]; exact newB1 w2 _)
    have zW : w2.heap.size < W.heap.size := (Array.getElem?_eq_some_iff.1 (unhide KT)).1
    have zH : w1.heap.size < W.heap.size := by omega
    have hwW := (unhide BLW).size
    obtain ⟨s0, s1, s2, s3, -⟩ := blkS4 (unhide KH2)
    have HW := hide hW
    clear hW bW2 BL2 KH2
    cases k1
    · have HD := hide (df_no (ms := ms) (ns := ns) hqp (.inl (unhide hk1)))
      clear s0 s1 s2 s3
      go_wp2_with fail
      rw [← unhide HW]
      refine (ieveryleaf_any _).mono ?_
      rintro e w3 ⟨a1, c1, rfl, o3, b3⟩
      have O3 := hide o3
      have B3 := hide ((unhide BLW).trans (b3.mono hwW))
      clear o3 b3
      go_wp2
      go_ret
      exact ⟨a1, 4, c1, rfl, by rw [unhide HD]; exact Ow.base (unhide O3) hwW, unhide B3⟩
    · cases k2
      · have HD := hide (df_no (ms := ms) (ns := ns) hqp (.inr (unhide hk2)))
        clear s0 s1 s2 s3
        go_wp2_with fail
        rw [← unhide HW]
        refine (ieveryleaf_any _).mono ?_
        rintro e w3 ⟨a1, c1, rfl, o3, b3⟩
        have O3 := hide o3
        have B3 := hide ((unhide BLW).trans (b3.mono hwW))
        clear o3 b3
        go_wp2
        go_ret
        exact ⟨a1, 4, c1, rfl, by rw [unhide HD]; exact Ow.base (unhide O3) hwW, unhide B3⟩
      · obtain rfl := sm_yes (unhide HS1)
        obtain rfl := sm_yes (unhide HS2)
        have HD : Hid (dfL [x0, x1, x2, x3] q [y0, y1, y2, y3] p = ([0, 1, 2, 3] : List Int).filter (fun k => ([x0, x1, x2, x3] : List Int).getD k.toNat 0 != ([y0, y1, y2, y3] : List Int).getD k.toNat 0)) := hide (df_four hqp)
        obtain ⟨kk, hkk⟩ : ∃ kk, (x0 == y0 && x1 == y1 && x2 == y2 && x3 == y3) = kk := ⟨_, rfl⟩
        have hEQ : ∀ W, (Op.equalIn 10000 90 (.agg #[.int .i64 x0, .int .i64 x1, .int .i64 x2, .int .i64 x3]) (.agg #[.int .i64 y0, .int .i64 y1, .int .i64 y2, .int .i64 y3])).run Tryz.prog W = .ok kk W := fun W => by rw [← hkk]; exact eqS_run x0 x1 x2 x3 y0 y1 y2 y3 W
        have HKK := hide hkk
        clear hkk
        cases kk
        rotate_left
        · have e0 : dfL [x0, x1, x2, x3] q [y0, y1, y2, y3] p = [] := by
            have hk := unhide HKK
            simp only [Bool.and_eq_true, beq_iff_eq] at hk
            obtain ⟨⟨⟨rfl, rfl⟩, rfl⟩, rfl⟩ := hk
            rw [unhide HD]; simp
          go_wp2
          go_ret
          exact ⟨none, 0, 0, rfl, by rw [e0]; exact World.ownsRow_nil _ _ _ _, by rw [← unhide HW]; exact unhide BLW⟩
        · go_wp2
          go_loopw [9, 36] (fun v i wr => ∃ (k : Nat) (a1 : Option Addr) (n1 c1 : Nat), k ≤ 4 ∧ i = .int .i64 k ∧ v = .slice a1 n1 c1 ∧ OwN (w2.heap.size + 1) wr (.slice a1 n1 c1) ((([0, 1, 2, 3] : List Int).take k).filter (fun k => ([x0, x1, x2, x3] : List Int).getD k.toNat 0 != ([y0, y1, y2, y3] : List Int).getD k.toNat 0)) ∧ Below w.heap.size w wr ∧ wr.heap[w1.heap.size]? = some (SumB x0 x1 x2 x3) ∧ wr.heap[w2.heap.size]? = some (SumB y0 y1 y2 y3)) (fun _ i _ => 4 - (intOf i).toNat)
          case atStart => exact ⟨0, none, 0, 0, by omega, rfl, rfl, World.ownsRow_nil _ _ _ _, by rw [← unhide HW]; exact unhide BLW, by rw [← unhide HW]; exact unhide KH, by rw [← unhide HW]; exact unhide KT⟩
          case round =>
            clear s0 s1 s2 s3 BLW KH KT HW
            obtain ⟨k, a1, n1, c1, hk, rfl, rfl, hown, hbel, hh, ht⟩ := hrel
            have HO := hide hown
            have HB := hide hbel
            have KH := hide hh
            have KT := hide ht
            have hsz := hbel.size
            have ltT : w2.heap.size < wr.heap.size := (Array.getElem?_eq_some_iff.1 ht).1
            have ltH : w1.heap.size < wr.heap.size := by omega
            have hn1 : Hid (n1 = ((([0, 1, 2, 3] : List Int).take k).filter (fun k => ([x0, x1, x2, x3] : List Int).getD k.toNat 0 != ([y0, y1, y2, y3] : List Int).getD k.toNat 0)).length) := hide (hown.rw encN_len).len.1
            have hn1l : n1 ≤ 4 := by
              have h1 := unhide hn1
              have h2 := List.length_filter_le (fun k : Int => ([x0, x1, x2, x3] : List Int).getD k.toNat 0 != ([y0, y1, y2, y3] : List Int).getD k.toNat 0) (([0, 1, 2, 3] : List Int).take k)
              have h3 : (([0, 1, 2, 3] : List Int).take k).length ≤ 4 := by simp; omega
              omega
            clear hown hbel
            by_cases hlt : k < 4
            · obtain ⟨x, b', off', hx, hp, -, -, cx⟩ := (rwS_blk (ns := [x0, x1, x2, x3]) hh).atN (i := k) hlt
              simp only [Option.some.injEq, Addr.mk.injEq, and_true] at hp
              obtain ⟨rfl, rfl⟩ := hp
              obtain ⟨y, b'', off'', hy, hp, -, -, cy⟩ := (rwS_blk (ns := [y0, y1, y2, y3]) ht).atN (i := k) hlt
              simp only [Option.some.injEq, Addr.mk.injEq, and_true] at hp
              obtain ⟨rfl, rfl⟩ := hp
              rw [Nat.zero_add] at cx cy
              have HQ : Hid (([x0, x1, x2, x3] : List Int).getD ((k : Int)).toNat 0 = x ∧ ([y0, y1, y2, y3] : List Int).getD ((k : Int)).toNat 0 = y) := hide ⟨by rw [Int.toNat_natCast, List.getD_eq_getElem?_getD, hx]; rfl, by rw [Int.toNat_natCast, List.getD_eq_getElem?_getD, hy]; rfl⟩
              have HK : Hid (([0, 1, 2, 3] : List Int)[k]? = some (k : Int)) := hide (by
                rcases (by omega : k = 0 ∨ k = 1 ∨ k = 2 ∨ k = 3) with rfl | rfl | rfl | rfl <;> rfl)
              clear hh ht hx hy
              rcases Bool.eq_false_or_eq_true (x != y) with he | he
              · have HP := hide (take_filter (p := fun k : Int => ([x0, x1, x2, x3] : List Int).getD k.toNat 0 != ([y0, y1, y2, y3] : List Int).getD k.toNat 0) (unhide HK))
                have HP2 : Hid ((([0, 1, 2, 3] : List Int).take (k + 1)).filter (fun k => ([x0, x1, x2, x3] : List Int).getD k.toNat 0 != ([y0, y1, y2, y3] : List Int).getD k.toNat 0) = (([0, 1, 2, 3] : List Int).take k).filter (fun k => ([x0, x1, x2, x3] : List Int).getD k.toNat 0 != ([y0, y1, y2, y3] : List Int).getD k.toNat 0) ++ [(k : Int)]) := hide (by rw [unhide HP, if_pos (by rw [(unhide HQ).1, (unhide HQ).2]; exact he)])
                clear HP
                go_wp2
                go_quiet (fail)
                obtain ⟨wn, hwn⟩ : ∃ x, x = wr.drewN nq := ⟨_, rfl⟩
                rw [← hwn]
                have bn : Below wr.heap.size wr wn := by rw [hwn]; exact below_drewN (Below.refl _ _) _
                have zn := bn.size
                have HOn := hide ((unhide HO).later bn)
                have HBn := hide ((unhide HB).trans (bn.mono hsz))
                have KHn := hide ((bn.block _ ltH).trans (unhide KH))
                have KTn := hide ((bn.block _ ltT).trans (unhide KT))
                clear hwn bn cx cy HO HB KH KT
                have hwn' : w2.heap.size + 1 ≤ wn.heap.size := by omega
                have hsn : w.heap.size ≤ wn.heap.size := by omega
                have ltTn : w2.heap.size < wn.heap.size := by omega
                have ltHn : w1.heap.size < wn.heap.size := by omega
                go_wp2_with (first | (at_builtin; refine wpList_app1 encN_len (by omega) oneN 3 30 i0 _ 8 Tryz.underlying30 hi hz0 hz1 hz2 rfl (by omega) wn (k : Int) rfl _ _ rfl (w2.heap.size + 1) _ _ n1 hn1 rfl (unhide HOn) rfl (by omega) hwn' ?_; intro a8 c8 w4 hO hG; have HO4 := hide hO; have HB4 := hide ((unhide HBn).grown hG hsn (fun i q => by have := (World.ownsRow.lt (unhide HOn) i q).1; omega)); have KH4 := hide ((hG.block _ ltHn (fun q => by have := (World.ownsRow.lt (unhide HOn) _ q.symm).1; omega)).trans (unhide KHn)); have KT4 := hide ((hG.block _ ltTn (fun q => by have := (World.ownsRow.lt (unhide HOn) _ q.symm).1; omega)).trans (unhide KTn)); clear hO hG))
                go_roundw
                case rel => exact ⟨k + 1, a8, n1 + 1, c8, by omega, by go_num, rfl, by rw [unhide HP2]; exact unhide HO4, unhide HB4, unhide KH4, unhide KT4⟩
                case measure => simp [intOf]; omega
              · have HP := hide (take_filter (p := fun k : Int => ([x0, x1, x2, x3] : List Int).getD k.toNat 0 != ([y0, y1, y2, y3] : List Int).getD k.toNat 0) (unhide HK))
                have HP2 : Hid ((([0, 1, 2, 3] : List Int).take (k + 1)).filter (fun k => ([x0, x1, x2, x3] : List Int).getD k.toNat 0 != ([y0, y1, y2, y3] : List Int).getD k.toNat 0) = (([0, 1, 2, 3] : List Int).take k).filter (fun k => ([x0, x1, x2, x3] : List Int).getD k.toNat 0 != ([y0, y1, y2, y3] : List Int).getD k.toNat 0)) := hide (by rw [unhide HP, if_neg (by rw [(unhide HQ).1, (unhide HQ).2, he]; simp), List.append_nil])
                clear HP
                go_wp2
                go_quiet (fail)
                obtain ⟨wn, hwn⟩ : ∃ x, x = wr.drewN nq := ⟨_, rfl⟩
                rw [← hwn]
                have bn : Below wr.heap.size wr wn := by rw [hwn]; exact below_drewN (Below.refl _ _) _
                have zn := bn.size
                have HOn := hide ((unhide HO).later bn)
                have HBn := hide ((unhide HB).trans (bn.mono hsz))
                have KHn := hide ((bn.block _ ltH).trans (unhide KH))
                have KTn := hide ((bn.block _ ltT).trans (unhide KT))
                clear hwn bn cx cy HO HB KH KT
                go_wp2
                go_roundw
                case rel => exact ⟨k + 1, a1, n1, c1, by omega, by go_num, rfl, by rw [unhide HP2]; exact unhide HOn, unhide HBn, unhide KHn, unhide KTn⟩
                case measure => simp [intOf]; omega
            · have HT : Hid ((([0, 1, 2, 3] : List Int).take k).filter (fun k => ([x0, x1, x2, x3] : List Int).getD k.toNat 0 != ([y0, y1, y2, y3] : List Int).getD k.toNat 0) = dfL [x0, x1, x2, x3] q [y0, y1, y2, y3] p) := hide (by rw [unhide HD, List.take_of_length_le (by simp; omega)])
              clear hh ht
              go_wp2
              go_ret
              exact ⟨a1, n1, c1, rfl, by rw [← unhide HT]; exact Ow.base (unhide HO) (by omega), unhide HB⟩
end Go.Proofs.YtdpaocikmijioabGreat

namespace Go.Proofs.YtdpaocikmijioabGreat
open Go.RowKit

end Go.Proofs.YtdpaocikmijioabGreat
