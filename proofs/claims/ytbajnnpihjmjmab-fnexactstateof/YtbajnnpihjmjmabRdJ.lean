/-
  The program's reader: a floor, a mark, an entry, an item. No statement is proved here.
-/
import Derived.Test.YtbajnnpihjmjmabRdI
import Derived.Test.YtbajnnpihjmjmabMsX
import Derived.Test.YtbajnnpihjmjmabPrt
import Derived.Test.YtbajnnpihjmjmabApp2
namespace Go.Proofs.Ytbajnnpihjmjmab
open Go.RowKit

theorem Ri.of {w X : World} {g : Nat} {v : Value} {xs : List Int} {c0 c : Cu} (h0 : Ri w g v xs c0) (hg : w.grownBy X (some g)) (hb : X.heap[g]? = some (.cells #[v, .int .i64 c.1, .bool c.2] 69 (0, 0))) (hw : Win xs c) : Ri X g v xs c :=
  ⟨hb, seg_grown h0.seg hg h0.ne, h0.ne, hw⟩
theorem grown_farR {w X : World} {r : Option Nat} (h : w.grownBy X r) {q o : Nat} (hq : w.heap.size ≤ q) (u : Value) : w.grownBy (X.setCell ⟨q, o, none⟩ u) r :=
  ⟨h.os, h.tape, h.output, by simpa using h.size, fun i hi hne => (heap_setCell_other _ ⟨q, o, none⟩ _ _ (by show i ≠ q; omega)).trans (h.block i hi hne)⟩
/-- Another variable of this call is written. -/
theorem Ri.far {w X : World} {g : Nat} {v : Value} {xs : List Int} {c0 c : Cu} (h0 : Ri w g v xs c0) (h : Ri X g v xs c) (hg : w.grownBy X (some g)) {q o : Nat} (hq : w.heap.size ≤ q) (u : Value) : Ri (X.setCell ⟨q, o, none⟩ u) g v xs c ∧ w.grownBy (X.setCell ⟨q, o, none⟩ u) (some g) := by
  have hl := h0.lt
  have G := grown_farR hg (o := o) hq u
  exact ⟨h0.of G ((heap_setCell_other _ ⟨q, o, none⟩ _ _ (by show g ≠ q; omega)).trans h.blk) h.win, G⟩
theorem al_below (w : World) (o : Obj) : Below w.heap.size w (w.alloc o) := (Below.refl _ _).alloc (Nat.le_refl _) o
theorem al_kept {w X : World} {o : Obj} {g : Nat} (hg : g < w.heap.size) (h : (w.alloc o).grownBy X (some g)) : X.heap[w.heap.size]? = some o :=
  (h.block _ (by simp) (by simp; omega)).trans (heap_alloc_new w o)
theorem kept_on {w X Y : World} {o : Obj} {g : Nat} (hg : g < w.heap.size) (k : X.heap[w.heap.size]? = some o) (h : X.grownBy Y (some g)) : Y.heap[w.heap.size]? = some o :=
  (h.block _ (Array.getElem?_eq_some_iff.1 k).1 (by simp; omega)).trans k
set_option maxHeartbeats 4000000 in
set_option maxRecDepth 100000 in
theorem rfloor_any (g : Nat) (v : Value) (xs : List Int) (c : Cu) (w : World) (hlen : xs.length ≤ 140737488351232) (hbd : ∀ z ∈ xs, 0 ≤ z ∧ z ≤ 255) (h : Ri w g v xs c) :
    Calls Try.prog 61 #[.pointer (some ⟨g, 0, none⟩)] w fun e w' => e = .returned (.agg #[.int .i64 (riF xs c).1.1, .int .i64 (riF xs c).1.2]) ∧ Ri w' g v xs (riF xs c).2 ∧ w.grownBy w' (some g) := by
  have H0 := hide h
  have HD := hide hbd
  have hgl := h.lt
  clear h hbd
  go_enter Try.func61, Try.ntmps61
  have R0 := hide ((unhide H0).later (al_below w (.cells #[.int .i64 0, .int .i64 0] 65)))
  go_wp2_with fail
  refine (rnum_any g v xs c _ hlen (unhide HD) (unhide R0)).mono ?_
  rintro e w1 ⟨rfl, r1, g1⟩
  have K0 := hide (al_kept hgl g1)
  have G0 := hide (grown_lowR (al_below w _) g1)
  clear R0
  have R0 := hide r1
  clear r1 g1
  go_wp2_with fail
  refine (rnum_any g v xs (riN xs c).2 _ hlen (unhide HD) (unhide R0)).mono ?_
  rintro e w1 ⟨rfl, r1, g1⟩
  have K1 := hide (kept_on hgl (unhide K0) g1)
  have G1 := hide (grown_all (unhide G0) g1)
  clear R0 K0 G0
  have R0 := hide r1
  have K0 := K1
  have G0 := G1
  clear r1 g1 K1 G1
  obtain ⟨r0, r1, rf⟩ := blk_cells2 (unhide K0)
  have hr : w.heap.size < w1.heap.size := (Array.getElem?_eq_some_iff.1 (unhide K0)).1
  have F0 := hide ((unhide H0).far (unhide R0) (unhide G0) (q := w.heap.size) (o := 0) (Nat.le_refl _) (.int .i64 (riF xs c).1.1))
  have F1 := hide ((unhide H0).far (unhide F0).1 (unhide F0).2 (q := w.heap.size) (o := 1) (Nat.le_refl _) (.int .i64 (riF xs c).1.2))
  clear R0 K0 G0
  go_wp2
  exact bodyPost_ret (v := .agg #[.int .i64 (riF xs c).1.1, .int .i64 (riF xs c).1.2]) (by simp [results, Try.results61, go_sem, r0, r1]; repeat' (first | rfl | apply And.intro)) rfl ⟨rfl, (unhide F1).1, (unhide F1).2⟩
set_option maxHeartbeats 4000000 in
set_option maxRecDepth 100000 in
theorem rentry_any (g : Nat) (v : Value) (xs : List Int) (c : Cu) (w : World) (hlen : xs.length ≤ 140737488351232) (hbd : ∀ z ∈ xs, 0 ≤ z ∧ z ≤ 255) (h : Ri w g v xs c) :
    Calls Try.prog 78 #[.pointer (some ⟨g, 0, none⟩)] w fun e w' => e = .returned (.agg #[.int .i64 (riE xs c).1.1, .int .i64 (riE xs c).1.2.1, .int .i64 (riE xs c).1.2.2.1, .int .i64 (riE xs c).1.2.2.2.1, .string (riE xs c).1.2.2.2.2]) ∧ Ri w' g v xs (riE xs c).2 ∧ w.grownBy w' (some g) := by
  have H0 := hide h
  have HD := hide hbd
  have hgl := h.lt
  clear h hbd
  go_enter Try.func78, Try.ntmps78
  have R0 := hide ((unhide H0).later (al_below w (.cells #[.int .i64 0, .int .i64 0, .int .i64 0, .int .i64 0, .string ⟨#[]⟩] 58)))
  go_wp2_with fail
  refine (rnum_any g v xs c _ hlen (unhide HD) (unhide R0)).mono ?_
  rintro e w1 ⟨rfl, r1, g1⟩
  have K0 := hide (al_kept hgl g1)
  have G0 := hide (grown_lowR (al_below w _) g1)
  clear R0
  have R0 := hide r1
  clear r1 g1
  go_wp2_with fail
  refine (rnum_any g v xs (riN xs c).2 _ hlen (unhide HD) (unhide R0)).mono ?_
  rintro e w1 ⟨rfl, r1, g1⟩
  have K1 := hide (kept_on hgl (unhide K0) g1)
  have G1 := hide (grown_all (unhide G0) g1)
  clear R0 K0 G0
  have R0 := hide r1
  have K0 := K1
  have G0 := G1
  clear r1 g1 K1 G1
  go_wp2_with fail
  refine (rnum_any g v xs (riN xs (riN xs c).2).2 _ hlen (unhide HD) (unhide R0)).mono ?_
  rintro e w1 ⟨rfl, r1, g1⟩
  have K1 := hide (kept_on hgl (unhide K0) g1)
  have G1 := hide (grown_all (unhide G0) g1)
  clear R0 K0 G0
  have R0 := hide r1
  have K0 := K1
  have G0 := G1
  clear r1 g1 K1 G1
  go_wp2_with fail
  refine (rnum_any g v xs (riN xs (riN xs (riN xs c).2).2).2 _ hlen (unhide HD) (unhide R0)).mono ?_
  rintro e w1 ⟨rfl, r1, g1⟩
  have K1 := hide (kept_on hgl (unhide K0) g1)
  have G1 := hide (grown_all (unhide G0) g1)
  clear R0 K0 G0
  have R0 := hide r1
  have K0 := K1
  have G0 := G1
  clear r1 g1 K1 G1
  go_wp2_with fail
  refine (rtext_any g v xs (riN xs (riN xs (riN xs (riN xs c).2).2).2).2 _ hlen (unhide HD) (unhide R0)).mono ?_
  rintro e w1 ⟨rfl, r1, g1⟩
  have K1 := hide (kept_on hgl (unhide K0) g1)
  have G1 := hide (grown_all (unhide G0) g1)
  clear R0 K0 G0
  have R0 := hide r1
  have K0 := K1
  have G0 := G1
  clear r1 g1 K1 G1
  obtain ⟨r0, r1, r2, r3, r4, rf⟩ := blk_cells5 (unhide K0)
  have hr : w.heap.size < w1.heap.size := (Array.getElem?_eq_some_iff.1 (unhide K0)).1
  have F0 := hide ((unhide H0).far (unhide R0) (unhide G0) (q := w.heap.size) (o := 0) (Nat.le_refl _) (.int .i64 (riE xs c).1.1))
  have F1 := hide ((unhide H0).far (unhide F0).1 (unhide F0).2 (q := w.heap.size) (o := 1) (Nat.le_refl _) (.int .i64 (riE xs c).1.2.1))
  have F2 := hide ((unhide H0).far (unhide F1).1 (unhide F1).2 (q := w.heap.size) (o := 2) (Nat.le_refl _) (.int .i64 (riE xs c).1.2.2.1))
  have F3 := hide ((unhide H0).far (unhide F2).1 (unhide F2).2 (q := w.heap.size) (o := 3) (Nat.le_refl _) (.int .i64 (riE xs c).1.2.2.2.1))
  have F4 := hide ((unhide H0).far (unhide F3).1 (unhide F3).2 (q := w.heap.size) (o := 4) (Nat.le_refl _) (.string (riE xs c).1.2.2.2.2))
  clear R0 K0 G0
  go_wp2
  exact bodyPost_ret (v := .agg #[.int .i64 (riE xs c).1.1, .int .i64 (riE xs c).1.2.1, .int .i64 (riE xs c).1.2.2.1, .int .i64 (riE xs c).1.2.2.2.1, .string (riE xs c).1.2.2.2.2]) (by simp [results, Try.results78, go_sem, r0, r1, r2, r3, r4]; repeat' (first | rfl | apply And.intro)) rfl ⟨rfl, (unhide F4).1, (unhide F4).2⟩
set_option maxHeartbeats 4000000 in
set_option maxRecDepth 100000 in
theorem ritem_any (g : Nat) (v : Value) (xs : List Int) (c : Cu) (w : World) (hlen : xs.length ≤ 140737488351232) (hbd : ∀ z ∈ xs, 0 ≤ z ∧ z ≤ 255) (h : Ri w g v xs c) :
    Calls Try.prog 59 #[.pointer (some ⟨g, 0, none⟩)] w fun e w' => e = .returned (.agg #[.int .i64 (riI xs c).1.1, .int .i64 (riI xs c).1.2.1, .int .i64 (riI xs c).1.2.2.1, .int .i64 (riI xs c).1.2.2.2.1, .int .i64 (riI xs c).1.2.2.2.2.1, .string (riI xs c).1.2.2.2.2.2]) ∧ Ri w' g v xs (riI xs c).2 ∧ w.grownBy w' (some g) := by
  have H0 := hide h
  have HD := hide hbd
  have hgl := h.lt
  clear h hbd
  go_enter Try.func59, Try.ntmps59
  have R0 := hide ((unhide H0).later (al_below w (.cells #[.int .i64 0, .int .i64 0, .int .i64 0, .int .i64 0, .int .i64 0, .string ⟨#[]⟩] 60)))
  go_wp2_with fail
  refine (rnum_any g v xs c _ hlen (unhide HD) (unhide R0)).mono ?_
  rintro e w1 ⟨rfl, r1, g1⟩
  have K0 := hide (al_kept hgl g1)
  have G0 := hide (grown_lowR (al_below w _) g1)
  clear R0
  have R0 := hide r1
  clear r1 g1
  go_wp2_with fail
  refine (rentry_any g v xs (riN xs c).2 _ hlen (unhide HD) (unhide R0)).mono ?_
  rintro e w1 ⟨rfl, r1, g1⟩
  have K1 := hide (kept_on hgl (unhide K0) g1)
  have G1 := hide (grown_all (unhide G0) g1)
  clear R0 K0 G0
  have R0 := hide r1
  have K0 := K1
  have G0 := G1
  clear r1 g1 K1 G1
  obtain ⟨r0, r1, r2, r3, r4, r5, rf⟩ := blk_cells6 (unhide K0)
  have hr : w.heap.size < w1.heap.size := (Array.getElem?_eq_some_iff.1 (unhide K0)).1
  have F0 := hide ((unhide H0).far (unhide R0) (unhide G0) (q := w.heap.size) (o := 0) (Nat.le_refl _) (.int .i64 (riI xs c).1.1))
  have F1 := hide ((unhide H0).far (unhide F0).1 (unhide F0).2 (q := w.heap.size) (o := 1) (Nat.le_refl _) (.int .i64 (riI xs c).1.2.1))
  have F2 := hide ((unhide H0).far (unhide F1).1 (unhide F1).2 (q := w.heap.size) (o := 2) (Nat.le_refl _) (.int .i64 (riI xs c).1.2.2.1))
  have F3 := hide ((unhide H0).far (unhide F2).1 (unhide F2).2 (q := w.heap.size) (o := 3) (Nat.le_refl _) (.int .i64 (riI xs c).1.2.2.2.1))
  have F4 := hide ((unhide H0).far (unhide F3).1 (unhide F3).2 (q := w.heap.size) (o := 4) (Nat.le_refl _) (.int .i64 (riI xs c).1.2.2.2.2.1))
  have F5 := hide ((unhide H0).far (unhide F4).1 (unhide F4).2 (q := w.heap.size) (o := 5) (Nat.le_refl _) (.string (riI xs c).1.2.2.2.2.2))
  clear R0 K0 G0
  go_wp2
  exact bodyPost_ret (v := .agg #[.int .i64 (riI xs c).1.1, .int .i64 (riI xs c).1.2.1, .int .i64 (riI xs c).1.2.2.1, .int .i64 (riI xs c).1.2.2.2.1, .int .i64 (riI xs c).1.2.2.2.2.1, .string (riI xs c).1.2.2.2.2.2]) (by simp [results, Try.results59, go_sem, r0, r1, r2, r3, r4, r5]; repeat' (first | rfl | apply And.intro)) rfl ⟨rfl, (unhide F5).1, (unhide F5).2⟩
end Go.Proofs.Ytbajnnpihjmjmab
