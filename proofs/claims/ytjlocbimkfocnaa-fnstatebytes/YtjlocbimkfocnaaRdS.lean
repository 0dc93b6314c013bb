/-
  The program's reader of bytes in memory: a number, a text, an entry, an item, a floor, a mark. No statement is proved here.
  The program's reader: a floor, a mark, an entry, an item. No statement is proved here.
  The program's reader: lists. No statement is proved here.
  The program's reader: a state; whether all was read; StateOf. No statement is proved here.
-/
import Derived.Test.YtjlocbimkfocnaaMsX
import Derived.Test.YtjlocbimkfocnaaIGetText
import Derived.Test.YtjlocbimkfocnaaTrn
import Derived.Test.YtjlocbimkfocnaaApp2
import Derived.Test.YtjlocbimkfocnaaPrt
import Derived.Test.YtjlocbimkfocnaaStA
import Derived.Test.YtjlocbimkfocnaaStT
import Derived.Test.YtjlocbimkfocnaaIntS
import Derived.ScopeJumps
import Derived.WalkMore
import Derived.Laws.EntriesVeiled
import Derived.Test.YtjlocbimkfocnaaIStOk
import Derived.Deep.DeepCutAuto
namespace Go.Proofs.Ytjlocbimkfocnaa
open Go.RowKit

/-- The reader's variable lies in block g; what it reads is a row of bytes. -/
structure Ri (W : World) (g : Nat) (v : Value) (xs : List Int) (c : Cu) : Prop where
  blk : W.heap[g]? = some (.cells #[v, .int .i64 c.1, .bool c.2] 69 (0, 0))
  seg : Seg W v xs
  ne : xs = [] ∨ ∀ a n cc, v = .slice (some a) n cc → a.block ≠ g
  win : Win xs c
theorem grown_all {a b c : World} {g : Option Nat} (h : a.grownBy b g) (k : b.grownBy c g) : a.grownBy c g :=
  ⟨k.os.trans h.os, k.tape.trans h.tape, k.output.trans h.output, Nat.le_trans h.size k.size, fun i hi hne => (k.block i (Nat.lt_of_lt_of_le hi h.size) hne).trans (h.block i hi hne)⟩
theorem grown_lowR {w X Y : World} {g : Nat} (b : Below w.heap.size w X) (h : X.grownBy Y (some g)) : w.grownBy Y (some g) :=
  grown_all ⟨b.os, b.tape, b.output, b.size, fun k hk _ => b.block k hk⟩ h
theorem grown_setR (w : World) (g o : Nat) (u : Value) : w.grownBy (w.setCell ⟨g, o, none⟩ u) (some g) :=
  ⟨rfl, rfl, rfl, by simp, fun i _ hne => heap_setCell_other _ ⟨g, o, none⟩ _ _ (fun e => hne (by rw [e]))⟩
theorem seg_grown {w w' : World} {v : Value} {xs : List Int} {g : Nat} (h : Seg w v xs) (hg : w.grownBy w' (some g)) (hne : xs = [] ∨ ∀ a n cc, v = .slice (some a) n cc → a.block ≠ g) : Seg w' v xs := by
  obtain ⟨a, cap, rfl, hcap, h⟩ := h
  refine ⟨a, cap, rfl, hcap, ?_⟩
  rcases h with h | ⟨b, off, rfl, hlt, hc⟩
  · exact .inl h
  · rcases hne with h | hne
    · exact .inl h
    · have hb := hne _ _ _ rfl
      refine .inr ⟨b, off, rfl, Nat.lt_of_lt_of_le hlt hg.size, fun i hi => ?_⟩
      rw [← hc i hi]
      exact World.cell?_of_block (w := w) (a := ⟨b, off + i, none⟩) (hg.block b hlt (fun e => hb (by simpa using e)))
section
variable {w W X : World} {g : Nat} {v : Value} {xs : List Int} {c d : Cu}
theorem Ri.lt (h : Ri W g v xs c) : g < W.heap.size := (Array.getElem?_eq_some_iff.1 h.blk).1
theorem Ri.cells (h : Ri W g v xs c) : W.cell? ⟨g, 0, none⟩ = some v ∧ W.cell? ⟨g, 1, none⟩ = some (.int .i64 c.1) ∧ W.cell? ⟨g, 2, none⟩ = some (.bool c.2) ∧ ∀ o, W.frozen? ⟨g, o, none⟩ = false := by
  simp [World.cell?, World.frozen?, h.blk]
theorem Ri.later (h : Ri W g v xs c) (b : Below W.heap.size W X) : Ri X g v xs c :=
  ⟨(b.block g h.lt).trans h.blk, h.seg.below b (Nat.le_refl _), h.ne, h.win⟩
theorem Ri.set (h : Ri W g v xs c) (hw : Win xs d) : Ri ((W.setCell ⟨g, 1, none⟩ (.int .i64 d.1)).setCell ⟨g, 2, none⟩ (.bool d.2)) g v xs d ∧ W.grownBy ((W.setCell ⟨g, 1, none⟩ (.int .i64 d.1)).setCell ⟨g, 2, none⟩ (.bool d.2)) (some g) := by
  have G1 := grown_setR W g 1 (.int .i64 d.1)
  have G2 := grown_setR (W.setCell ⟨g, 1, none⟩ (.int .i64 d.1)) g 2 (.bool d.2)
  have b1 := heap_setCell_same _ g 1 _ _ (.int .i64 d.1) h.blk
  have b2 := heap_setCell_same _ g 2 _ _ (.bool d.2) b1
  exact ⟨⟨b2, seg_grown h.seg (grown_all G1 G2) h.ne, h.ne, hw⟩, grown_all G1 G2⟩
theorem Ri.fit (h : Ri W g v xs c) (b : Bool) : Ri (W.setCell ⟨g, 2, none⟩ (.bool b)) g v xs (c.1, b) ∧ W.grownBy (W.setCell ⟨g, 2, none⟩ (.bool b)) (some g) := by
  have G2 := grown_setR W g 2 (.bool b)
  exact ⟨⟨heap_setCell_same _ g 2 _ _ _ h.blk, seg_grown h.seg G2 h.ne, h.ne, h.win⟩, G2⟩
theorem Ri.step (h : Ri W g v xs c) {q : Int} (h0 : 0 ≤ q) (h1 : q ≤ xs.length) : Ri (W.setCell ⟨g, 1, none⟩ (.int .i64 q)) g v xs (q, c.2) ∧ W.grownBy (W.setCell ⟨g, 1, none⟩ (.int .i64 q)) (some g) := by
  have G1 := grown_setR W g 1 (.int .i64 q)
  exact ⟨⟨heap_setCell_same _ g 1 _ _ _ h.blk, seg_grown h.seg G1 h.ne, h.ne, ⟨h0, h1⟩⟩, G1⟩
end
set_option maxHeartbeats 2000000 in
set_option maxRecDepth 100000 in
theorem rfit_any (g : Nat) (v : Value) (xs : List Int) (c : Cu) (ok : Bool) (w : World) (h : Ri w g v xs c) :
    Calls Try.prog 107 #[.pointer (some ⟨g, 0, none⟩), .bool ok] w fun e w' => e = .returned (.tuple #[]) ∧ Ri w' g v xs (c.1, c.2 || !ok) ∧ w.grownBy w' (some g) := by
  obtain ⟨p, b⟩ := c
  have HP := hide (h.fit (b || !ok))
  obtain ⟨c0, c1, c2, cf⟩ := h.cells
  simp only at c1 c2
  have hgl := h.lt
  clear h
  cases b <;> cases ok
  all_goals
    go_enter Try.func107, Try.ntmps107
    go_wp2
    go_end0
    exact ⟨rfl, (unhide HP).1, (unhide HP).2⟩
set_option maxHeartbeats 2000000 in
set_option maxRecDepth 100000 in
theorem rstep_any (g : Nat) (v : Value) (xs : List Int) (c : Cu) (q : Int) (ok : Bool) (w : World) (h0 : 0 ≤ q) (h1 : q ≤ xs.length) (h : Ri w g v xs c) :
    Calls Try.prog 125 #[.pointer (some ⟨g, 0, none⟩), .int .i64 q, .bool ok] w fun e w' => e = .returned (.tuple #[]) ∧ Ri w' g v xs (q, c.2 || !ok) ∧ w.grownBy w' (some g) := by
  have HP := hide (h.step h0 h1)
  obtain ⟨c0, c1, c2, cf⟩ := h.cells
  have hgl := h.lt
  clear h
  go_enter Try.func125, Try.ntmps125
  go_wp2_with fail
  refine (rfit_any g v xs (q, c.2) ok _ (unhide HP).1).mono ?_
  rintro e w1 ⟨rfl, r1, g1⟩
  have HR := hide r1
  have HG := hide (grown_all (unhide HP).2 g1)
  clear r1 g1
  go_wp2
  go_end0
  exact ⟨rfl, unhide HR, unhide HG⟩
set_option maxHeartbeats 2000000 in
set_option maxRecDepth 100000 in
theorem rnum_any (g : Nat) (v : Value) (xs : List Int) (c : Cu) (w : World) (hlen : xs.length ≤ 140737488351232) (hbd : ∀ z ∈ xs, 0 ≤ z ∧ z ≤ 255) (h : Ri w g v xs c) :
    Calls Try.prog 106 #[.pointer (some ⟨g, 0, none⟩)] w fun e w' => e = .returned (.int .i64 (riN xs c).1) ∧ Ri w' g v xs (riN xs c).2 ∧ w.grownBy w' (some g) := by
  obtain ⟨p, b⟩ := c
  have HR := hide h
  have hW := (reads_num hbd).win (p, b) h.win
  obtain ⟨c0, c1, c2, cf⟩ := h.cells
  have hlo : 0 ≤ p := h.win.1
  have hhi : p ≤ xs.length := h.win.2
  simp only at c1 c2
  have hgl := h.lt
  have l0 := later_some (w := w) hgl c0
  have l1 := later_some (w := w) hgl c1
  have l2 := later_some (w := w) hgl c2
  have HC : Hid (∀ W, Seg W v xs → Calls Try.prog 124 #[v, .int .i64 p] W fun e w' => e = .returned (gres (getN xs p)) ∧ W = w') := hide (fun W hs => igetnum_any v xs p W hlen hbd hs (by omega) (by omega))
  obtain ⟨gx, hgx⟩ : ∃ gx, getN xs p = gx := ⟨_, rfl⟩
  rw [hgx] at HC
  clear h hbd c0 c1 c2 cf
  rcases gx with _ | ⟨n, q⟩
  · have HRN := hide (show riN xs (p, b) = _ from by unfold riN; rw [show ((p, b) : Cu).1 = p from rfl, hgx])
    clear hgx
    simp only [gres] at HC
    rw [unhide HRN] at hW ⊢
    simp only at hW ⊢
    have hW0 := hW.1
    have hW1 := hW.2
    simp only at hW0 hW1
    clear hW
    go_enter Try.func106, Try.ntmps106
    go_wp2_with fail
    refine wp_region_later (by kernel_rfl) (by kernel_rfl) ?_
    repeat (go_big_quiet_step (first
      | (go_at_call 124; exact Calls.later_same (unhide HC _ ((unhide HR).seg.below (later_below _ _ _) (Nat.le_refl _))))))
    refine wpQuiet_nil ?_
    intro w1 b1
    have HB := hide b1
    have HR1 := hide ((unhide HR).later b1)
    clear b1 l0 l1 l2
    go_wp2_with fail
    refine (rstep_any g v xs (p, b) 0 false w1 (by omega) (by omega) (unhide HR1)).mono ?_
    rintro e w2 ⟨rfl, r2, g2⟩
    have HR2 := hide r2
    have HG2 := hide (grown_lowR (unhide HB) g2)
    clear r2 g2
    go_wp2
    go_ret
    exact ⟨rfl, by have h := unhide HR2; simpa using h, unhide HG2⟩
  · have HRN := hide (show riN xs (p, b) = _ from by unfold riN; rw [show ((p, b) : Cu).1 = p from rfl, hgx])
    clear hgx
    simp only [gres] at HC
    rw [unhide HRN] at hW ⊢
    simp only at hW ⊢
    have hW0 := hW.1
    have hW1 := hW.2
    simp only at hW0 hW1
    clear hW
    go_enter Try.func106, Try.ntmps106
    go_wp2_with fail
    refine wp_region_later (by kernel_rfl) (by kernel_rfl) ?_
    repeat (go_big_quiet_step (first
      | (go_at_call 124; exact Calls.later_same (unhide HC _ ((unhide HR).seg.below (later_below _ _ _) (Nat.le_refl _))))))
    refine wpQuiet_nil ?_
    intro w1 b1
    have HB := hide b1
    have HR1 := hide ((unhide HR).later b1)
    clear b1 l0 l1 l2
    go_wp2_with fail
    refine (rstep_any g v xs (p, b) q true w1 (by omega) (by omega) (unhide HR1)).mono ?_
    rintro e w2 ⟨rfl, r2, g2⟩
    have HR2 := hide r2
    have HG2 := hide (grown_lowR (unhide HB) g2)
    clear r2 g2
    go_wp2
    go_ret
    exact ⟨rfl, by have h := unhide HR2; simpa using h, unhide HG2⟩
set_option maxHeartbeats 2000000 in
set_option maxRecDepth 100000 in
theorem rtext_any (g : Nat) (v : Value) (xs : List Int) (c : Cu) (w : World) (hlen : xs.length ≤ 140737488351232) (hbd : ∀ z ∈ xs, 0 ≤ z ∧ z ≤ 255) (h : Ri w g v xs c) :
    Calls Try.prog 126 #[.pointer (some ⟨g, 0, none⟩)] w fun e w' => e = .returned (.string (strOfNums (riT xs c).1)) ∧ Ri w' g v xs (riT xs c).2 ∧ w.grownBy w' (some g) := by
  obtain ⟨p, b⟩ := c
  have HR := hide h
  have hW := (reads_text hbd).win (p, b) h.win
  obtain ⟨c0, c1, c2, cf⟩ := h.cells
  have hlo : 0 ≤ p := h.win.1
  have hhi : p ≤ xs.length := h.win.2
  simp only at c1 c2
  have hgl := h.lt
  have l0 := later_some (w := w) hgl c0
  have l1 := later_some (w := w) hgl c1
  have l2 := later_some (w := w) hgl c2
  have HC : Hid (∀ W, Seg W v xs → Calls Try.prog 135 #[v, .int .i64 p] W fun e w' => e = .returned (tres (getT xs p)) ∧ W = w') := hide (fun W hs => igettext_any v xs p W hlen hbd hs (by omega) (by omega))
  obtain ⟨gx, hgx⟩ : ∃ gx, getT xs p = gx := ⟨_, rfl⟩
  rw [hgx] at HC
  clear h hbd c0 c1 c2 cf
  rcases gx with _ | ⟨n, q⟩
  · have HRN := hide (show riT xs (p, b) = _ from by unfold riT; rw [show ((p, b) : Cu).1 = p from rfl, hgx])
    clear hgx
    simp only [tres] at HC
    rw [unhide HRN] at hW ⊢
    simp only at hW ⊢
    have hW0 := hW.1
    have hW1 := hW.2
    simp only at hW0 hW1
    clear hW
    go_enter Try.func126, Try.ntmps126
    go_wp2_with fail
    refine wp_region_later (by kernel_rfl) (by kernel_rfl) ?_
    repeat (go_big_quiet_step (first
      | (go_at_call 135; exact Calls.later_same (unhide HC _ ((unhide HR).seg.below (later_below _ _ _) (Nat.le_refl _))))))
    refine wpQuiet_nil ?_
    intro w1 b1
    have HB := hide b1
    have HR1 := hide ((unhide HR).later b1)
    clear b1 l0 l1 l2
    go_wp2_with fail
    refine (rstep_any g v xs (p, b) 0 false w1 (by omega) (by omega) (unhide HR1)).mono ?_
    rintro e w2 ⟨rfl, r2, g2⟩
    have HR2 := hide r2
    have HG2 := hide (grown_lowR (unhide HB) g2)
    clear r2 g2
    go_wp2
    go_ret
    exact ⟨rfl, by have h := unhide HR2; simpa using h, unhide HG2⟩
  · have HRN := hide (show riT xs (p, b) = _ from by unfold riT; rw [show ((p, b) : Cu).1 = p from rfl, hgx])
    clear hgx
    simp only [tres] at HC
    rw [unhide HRN] at hW ⊢
    simp only at hW ⊢
    have hW0 := hW.1
    have hW1 := hW.2
    simp only at hW0 hW1
    clear hW
    go_enter Try.func126, Try.ntmps126
    go_wp2_with fail
    refine wp_region_later (by kernel_rfl) (by kernel_rfl) ?_
    repeat (go_big_quiet_step (first
      | (go_at_call 135; exact Calls.later_same (unhide HC _ ((unhide HR).seg.below (later_below _ _ _) (Nat.le_refl _))))))
    refine wpQuiet_nil ?_
    intro w1 b1
    have HB := hide b1
    have HR1 := hide ((unhide HR).later b1)
    clear b1 l0 l1 l2
    go_wp2_with fail
    refine (rstep_any g v xs (p, b) q true w1 (by omega) (by omega) (unhide HR1)).mono ?_
    rintro e w2 ⟨rfl, r2, g2⟩
    have HR2 := hide r2
    have HG2 := hide (grown_lowR (unhide HB) g2)
    clear r2 g2
    go_wp2
    go_ret
    exact ⟨rfl, by have h := unhide HR2; simpa using h, unhide HG2⟩
end Go.Proofs.Ytjlocbimkfocnaa

namespace Go.Proofs.Ytjlocbimkfocnaa
open Go.RowKit

theorem Ri.of {w X : World} {g : Nat} {v : Value} {xs : List Int} {c0 c : Cu} (h0 : Ri w g v xs c0) (hg : w.grownBy X (some g)) (hb : X.heap[g]? = some (.cells #[v, .int .i64 c.1, .bool c.2] 69 (0, 0))) (hw : Win xs c) : Ri X g v xs c :=
  ⟨hb, seg_grown h0.seg hg h0.ne, h0.ne, hw⟩
theorem grown_farR {w X : World} {r : Option Nat} (h : w.grownBy X r) {q o : Nat} (hq : w.heap.size ≤ q) (u : Value) : w.grownBy (X.setCell ⟨q, o, none⟩ u) r :=
  ⟨h.os, h.tape, h.output, by simpa using h.size, fun i hi hne => (heap_setCell_other _ ⟨q, o, none⟩ _ _ (by show i ≠ q; omega)).trans (h.block i hi hne)⟩
/-- Another variable of this call is written. -/
theorem Ri.far {w X : World} {g : Nat} {v : Value} {xs : List Int} {c0 c : Cu} (h0 : Ri w g v xs c0) (h : Ri X g v xs c) (hg : w.grownBy X (some g)) {q o : Nat} (hq : w.heap.size ≤ q) (u : Value) : Ri (X.setCell ⟨q, o, none⟩ u) g v xs c ∧ w.grownBy (X.setCell ⟨q, o, none⟩ u) (some g) := by
  have hl := h0.lt
  have G := grown_farR hg (o := o) hq u
  exact ⟨h0.of G ((heap_setCell_other _ ⟨q, o, none⟩ _ _ (by show g ≠ q; omega)).trans h.blk) h.win, G⟩
theorem al_below (w : World) (o : Obj) : Below w.heap.size w (w.alloc o) := (Below.refl _ _).alloc (Nat.le_refl _) o
theorem al_kept {w X : World} {o : Obj} {g : Nat} (hg : g < w.heap.size) (h : (w.alloc o).grownBy X (some g)) : X.heap[w.heap.size]? = some o :=
  (h.block _ (by simp) (by simp; omega)).trans (heap_alloc_new w o)
theorem kept_on {w X Y : World} {o : Obj} {g : Nat} (hg : g < w.heap.size) (k : X.heap[w.heap.size]? = some o) (h : X.grownBy Y (some g)) : Y.heap[w.heap.size]? = some o :=
  (h.block _ (Array.getElem?_eq_some_iff.1 k).1 (by simp; omega)).trans k
set_option maxHeartbeats 4000000 in
set_option maxRecDepth 100000 in
theorem rfloor_any (g : Nat) (v : Value) (xs : List Int) (c : Cu) (w : World) (hlen : xs.length ≤ 140737488351232) (hbd : ∀ z ∈ xs, 0 ≤ z ∧ z ≤ 255) (h : Ri w g v xs c) :
    Calls Try.prog 75 #[.pointer (some ⟨g, 0, none⟩)] w fun e w' => e = .returned (.agg #[.int .i64 (riF xs c).1.1, .int .i64 (riF xs c).1.2]) ∧ Ri w' g v xs (riF xs c).2 ∧ w.grownBy w' (some g) := by
  have H0 := hide h
  have HD := hide hbd
  have hgl := h.lt
  clear h hbd
  go_enter Try.func75, Try.ntmps75
  have R0 := hide ((unhide H0).later (al_below w (.cells #[.int .i64 0, .int .i64 0] 67)))
  go_wp2_with fail
  refine (rnum_any g v xs c _ hlen (unhide HD) (unhide R0)).mono ?_
  rintro e w1 ⟨rfl, r1, g1⟩
  have K0 := hide (al_kept hgl g1)
  have G0 := hide (grown_lowR (al_below w _) g1)
  clear R0
  have R0 := hide r1
  clear r1 g1
  go_wp2_with fail
  refine (rnum_any g v xs (riN xs c).2 _ hlen (unhide HD) (unhide R0)).mono ?_
  rintro e w1 ⟨rfl, r1, g1⟩
  have K1 := hide (kept_on hgl (unhide K0) g1)
  have G1 := hide (grown_all (unhide G0) g1)
  clear R0 K0 G0
  have R0 := hide r1
  have K0 := K1
  have G0 := G1
  clear r1 g1 K1 G1
  obtain ⟨r0, r1, rf⟩ := blk_cells2 (unhide K0)
  have hr : w.heap.size < w1.heap.size := (Array.getElem?_eq_some_iff.1 (unhide K0)).1
  have F0 := hide ((unhide H0).far (unhide R0) (unhide G0) (q := w.heap.size) (o := 0) (Nat.le_refl _) (.int .i64 (riF xs c).1.1))
  have F1 := hide ((unhide H0).far (unhide F0).1 (unhide F0).2 (q := w.heap.size) (o := 1) (Nat.le_refl _) (.int .i64 (riF xs c).1.2))
  clear R0 K0 G0
  go_wp2
  exact bodyPost_ret (v := .agg #[.int .i64 (riF xs c).1.1, .int .i64 (riF xs c).1.2]) (by simp [results, Try.results75, go_sem, r0, r1]; repeat' (first | rfl | apply And.intro)) rfl ⟨rfl, (unhide F1).1, (unhide F1).2⟩
set_option maxHeartbeats 4000000 in
set_option maxRecDepth 100000 in
theorem rentry_any (g : Nat) (v : Value) (xs : List Int) (c : Cu) (w : World) (hlen : xs.length ≤ 140737488351232) (hbd : ∀ z ∈ xs, 0 ≤ z ∧ z ≤ 255) (h : Ri w g v xs c) :
    Calls Try.prog 108 #[.pointer (some ⟨g, 0, none⟩)] w fun e w' => e = .returned (.agg #[.int .i64 (riE xs c).1.1, .int .i64 (riE xs c).1.2.1, .int .i64 (riE xs c).1.2.2.1, .int .i64 (riE xs c).1.2.2.2.1, .string (riE xs c).1.2.2.2.2]) ∧ Ri w' g v xs (riE xs c).2 ∧ w.grownBy w' (some g) := by
  have H0 := hide h
  have HD := hide hbd
  have hgl := h.lt
  clear h hbd
  go_enter Try.func108, Try.ntmps108
  have R0 := hide ((unhide H0).later (al_below w (.cells #[.int .i64 0, .int .i64 0, .int .i64 0, .int .i64 0, .string ⟨#[]⟩] 62)))
  go_wp2_with fail
  refine (rnum_any g v xs c _ hlen (unhide HD) (unhide R0)).mono ?_
  rintro e w1 ⟨rfl, r1, g1⟩
  have K0 := hide (al_kept hgl g1)
  have G0 := hide (grown_lowR (al_below w _) g1)
  clear R0
  have R0 := hide r1
  clear r1 g1
  go_wp2_with fail
  refine (rnum_any g v xs (riN xs c).2 _ hlen (unhide HD) (unhide R0)).mono ?_
  rintro e w1 ⟨rfl, r1, g1⟩
  have K1 := hide (kept_on hgl (unhide K0) g1)
  have G1 := hide (grown_all (unhide G0) g1)
  clear R0 K0 G0
  have R0 := hide r1
  have K0 := K1
  have G0 := G1
  clear r1 g1 K1 G1
  go_wp2_with fail
  refine (rnum_any g v xs (riN xs (riN xs c).2).2 _ hlen (unhide HD) (unhide R0)).mono ?_
  rintro e w1 ⟨rfl, r1, g1⟩
  have K1 := hide (kept_on hgl (unhide K0) g1)
  have G1 := hide (grown_all (unhide G0) g1)
  clear R0 K0 G0
  have R0 := hide r1
  have K0 := K1
  have G0 := G1
  clear r1 g1 K1 G1
  go_wp2_with fail
  refine (rnum_any g v xs (riN xs (riN xs (riN xs c).2).2).2 _ hlen (unhide HD) (unhide R0)).mono ?_
  rintro e w1 ⟨rfl, r1, g1⟩
  have K1 := hide (kept_on hgl (unhide K0) g1)
  have G1 := hide (grown_all (unhide G0) g1)
  clear R0 K0 G0
  have R0 := hide r1
  have K0 := K1
  have G0 := G1
  clear r1 g1 K1 G1
  go_wp2_with fail
  refine (rtext_any g v xs (riN xs (riN xs (riN xs (riN xs c).2).2).2).2 _ hlen (unhide HD) (unhide R0)).mono ?_
  rintro e w1 ⟨rfl, r1, g1⟩
  have K1 := hide (kept_on hgl (unhide K0) g1)
  have G1 := hide (grown_all (unhide G0) g1)
  clear R0 K0 G0
  have R0 := hide r1
  have K0 := K1
  have G0 := G1
  clear r1 g1 K1 G1
  obtain ⟨r0, r1, r2, r3, r4, rf⟩ := blk_cells5 (unhide K0)
  have hr : w.heap.size < w1.heap.size := (Array.getElem?_eq_some_iff.1 (unhide K0)).1
  have F0 := hide ((unhide H0).far (unhide R0) (unhide G0) (q := w.heap.size) (o := 0) (Nat.le_refl _) (.int .i64 (riE xs c).1.1))
  have F1 := hide ((unhide H0).far (unhide F0).1 (unhide F0).2 (q := w.heap.size) (o := 1) (Nat.le_refl _) (.int .i64 (riE xs c).1.2.1))
  have F2 := hide ((unhide H0).far (unhide F1).1 (unhide F1).2 (q := w.heap.size) (o := 2) (Nat.le_refl _) (.int .i64 (riE xs c).1.2.2.1))
  have F3 := hide ((unhide H0).far (unhide F2).1 (unhide F2).2 (q := w.heap.size) (o := 3) (Nat.le_refl _) (.int .i64 (riE xs c).1.2.2.2.1))
  have F4 := hide ((unhide H0).far (unhide F3).1 (unhide F3).2 (q := w.heap.size) (o := 4) (Nat.le_refl _) (.string (riE xs c).1.2.2.2.2))
  clear R0 K0 G0
  go_wp2
  exact bodyPost_ret (v := .agg #[.int .i64 (riE xs c).1.1, .int .i64 (riE xs c).1.2.1, .int .i64 (riE xs c).1.2.2.1, .int .i64 (riE xs c).1.2.2.2.1, .string (riE xs c).1.2.2.2.2]) (by simp [results, Try.results108, go_sem, r0, r1, r2, r3, r4]; repeat' (first | rfl | apply And.intro)) rfl ⟨rfl, (unhide F4).1, (unhide F4).2⟩
set_option maxHeartbeats 4000000 in
set_option maxRecDepth 100000 in
theorem ritem_any (g : Nat) (v : Value) (xs : List Int) (c : Cu) (w : World) (hlen : xs.length ≤ 140737488351232) (hbd : ∀ z ∈ xs, 0 ≤ z ∧ z ≤ 255) (h : Ri w g v xs c) :
    Calls Try.prog 73 #[.pointer (some ⟨g, 0, none⟩)] w fun e w' => e = .returned (.agg #[.int .i64 (riI xs c).1.1, .int .i64 (riI xs c).1.2.1, .int .i64 (riI xs c).1.2.2.1, .int .i64 (riI xs c).1.2.2.2.1, .int .i64 (riI xs c).1.2.2.2.2.1, .string (riI xs c).1.2.2.2.2.2]) ∧ Ri w' g v xs (riI xs c).2 ∧ w.grownBy w' (some g) := by
  have H0 := hide h
  have HD := hide hbd
  have hgl := h.lt
  clear h hbd
  go_enter Try.func73, Try.ntmps73
  have R0 := hide ((unhide H0).later (al_below w (.cells #[.int .i64 0, .int .i64 0, .int .i64 0, .int .i64 0, .int .i64 0, .string ⟨#[]⟩] 64)))
  go_wp2_with fail
  refine (rnum_any g v xs c _ hlen (unhide HD) (unhide R0)).mono ?_
  rintro e w1 ⟨rfl, r1, g1⟩
  have K0 := hide (al_kept hgl g1)
  have G0 := hide (grown_lowR (al_below w _) g1)
  clear R0
  have R0 := hide r1
  clear r1 g1
  go_wp2_with fail
  refine (rentry_any g v xs (riN xs c).2 _ hlen (unhide HD) (unhide R0)).mono ?_
  rintro e w1 ⟨rfl, r1, g1⟩
  have K1 := hide (kept_on hgl (unhide K0) g1)
  have G1 := hide (grown_all (unhide G0) g1)
  clear R0 K0 G0
  have R0 := hide r1
  have K0 := K1
  have G0 := G1
  clear r1 g1 K1 G1
  obtain ⟨r0, r1, r2, r3, r4, r5, rf⟩ := blk_cells6 (unhide K0)
  have hr : w.heap.size < w1.heap.size := (Array.getElem?_eq_some_iff.1 (unhide K0)).1
  have F0 := hide ((unhide H0).far (unhide R0) (unhide G0) (q := w.heap.size) (o := 0) (Nat.le_refl _) (.int .i64 (riI xs c).1.1))
  have F1 := hide ((unhide H0).far (unhide F0).1 (unhide F0).2 (q := w.heap.size) (o := 1) (Nat.le_refl _) (.int .i64 (riI xs c).1.2.1))
  have F2 := hide ((unhide H0).far (unhide F1).1 (unhide F1).2 (q := w.heap.size) (o := 2) (Nat.le_refl _) (.int .i64 (riI xs c).1.2.2.1))
  have F3 := hide ((unhide H0).far (unhide F2).1 (unhide F2).2 (q := w.heap.size) (o := 3) (Nat.le_refl _) (.int .i64 (riI xs c).1.2.2.2.1))
  have F4 := hide ((unhide H0).far (unhide F3).1 (unhide F3).2 (q := w.heap.size) (o := 4) (Nat.le_refl _) (.int .i64 (riI xs c).1.2.2.2.2.1))
  have F5 := hide ((unhide H0).far (unhide F4).1 (unhide F4).2 (q := w.heap.size) (o := 5) (Nat.le_refl _) (.string (riI xs c).1.2.2.2.2.2))
  clear R0 K0 G0
  go_wp2
  exact bodyPost_ret (v := .agg #[.int .i64 (riI xs c).1.1, .int .i64 (riI xs c).1.2.1, .int .i64 (riI xs c).1.2.2.1, .int .i64 (riI xs c).1.2.2.2.1, .int .i64 (riI xs c).1.2.2.2.2.1, .string (riI xs c).1.2.2.2.2.2]) (by simp [results, Try.results73, go_sem, r0, r1, r2, r3, r4, r5]; repeat' (first | rfl | apply And.intro)) rfl ⟨rfl, (unhide F5).1, (unhide F5).2⟩
end Go.Proofs.Ytjlocbimkfocnaa

namespace Go.Proofs.Ytjlocbimkfocnaa
open Go.RowKit

theorem riN_bd {xs : List Int} {c : Cu} (hbd : ∀ z ∈ xs, 0 ≤ z ∧ z ≤ 255) : 0 ≤ (riN xs c).1 ∧ (riN xs c).1 ≤ 2147483647 := by
  unfold riN
  split
  · rename_i n q h
    have := getN_bd _ _ _ _ hbd h
    exact ⟨this.1, this.2.1⟩
  · exact ⟨by simp, by simp⟩
theorem owF_far {base g : Nat} {w W : World} {E : TypeId} {k : Nat} {α : Type} {enc : α → List Value} {v : Value} {ms : List α} (h : Ow enc k E base w v ms) (hg : w.grownBy W (some g)) (hb : g < base) : Ow enc k E base W v ms :=
  (Trn.of_grown hg).own h (fun i q e => by cases e; have := (World.ownsRow.lt h _ q).1; omega)
theorem Ri.row {w X Y : World} {g : Nat} {v u : Value} {xs : List Int} {c0 c : Cu} {E : TypeId} {k : Nat} {α : Type} {enc : α → List Value} {ms : List α} (h0 : Ri w g v xs c0) (hg : w.grownBy X (some g)) (h : Ri X g v xs c) (ho : Ow enc k E w.heap.size X u ms) (hG : X.grownBy Y u.ownBlock) : Ri Y g v xs c ∧ w.grownBy Y (some g) := by
  have hY : w.grownBy Y (some g) := ⟨hG.os.trans hg.os, hG.tape.trans hg.tape, hG.output.trans hg.output, Nat.le_trans hg.size hG.size, fun i hi hne => (hG.block i (Nat.lt_of_lt_of_le hi hg.size) (fun q => by have := (World.ownsRow.lt ho i q.symm).1; omega)).trans (hg.block i hi hne)⟩
  have hl := h0.lt
  exact ⟨h0.of hY ((hG.block g h.lt (fun q => by have := (World.ownsRow.lt ho g q.symm).1; omega)).trans h.blk) h.win, hY⟩
def sliceLen : Value → Nat
  | .slice _ n _ => n
  | _ => 0
set_option maxHeartbeats 4000000 in
set_option maxRecDepth 100000 in
theorem rlistI_any (g : Nat) (v : Value) (xs : List Int) (c : Cu) (w : World) (hlen : xs.length ≤ 140737488351232) (hbd : ∀ z ∈ xs, 0 ≤ z ∧ z ≤ 255) (h : Ri w g v xs c) :
    Calls Try.prog 72 #[.pointer (some ⟨g, 0, none⟩), .int .i64 5, .func (.func 73) #[] #[]] w fun e w' => ∃ a n cap, e = .returned (.slice a n cap) ∧ Ow encI 6 64 w.heap.size w' (.slice a n cap) (lsR xs 5 (riI xs) c).1 ∧ Ri w' g v xs (lsR xs 5 (riI xs) c).2 ∧ w.grownBy w' (some g) := by
  obtain ⟨i0, hi, hz0, hz1, hz2⟩ := info_parts Try.infoItem
  have HZ2 := hide hz2
  have H0 := hide h
  have HD := hide hbd
  have hgl := h.lt
  obtain ⟨m, d, hmd⟩ : ∃ m d, riN xs c = (m, d) := ⟨_, _, rfl⟩
  have HL : Hid (lsR xs 5 (riI xs) c = if (5 : Int) < m then ([], (d.1, true)) else if (rpt (riI xs) m.toNat d).2.2 = true then ([], ((rpt (riI xs) m.toNat d).2.1, true)) else rpt (riI xs) m.toNat d) := hide (by unfold lsR; rw [hmd]; rfl)
  have HMD := hide hmd
  clear h hbd hmd hz2
  go_enter Try.func72, Try.ntmps72
  go_wp2_with fail
  refine wp_scope_jumps 0 (fun a' w' => ∃ (e : Cu) (u1 u2 u3 u4 u5 u6 u7 u8 u9 u10 u11 u12 u13 u14 u15 u16 u17 u18 u19 u20 u21 u22 u23 u24 u25 u26 u27 u28 u29 u30 u31 u32 : Value), a' = { tmps := #[.pointer (some ⟨g, 0, none⟩), u1, u2, u3, u4, u5, u6, u7, u8, u9, u10, u11, u12, u13, u14, u15, u16, u17, u18, u19, u20, u21, u22, u23, u24, u25, u26, u27, u28, u29, u30, u31, u32], defers := [] } ∧ Hid (Ri w' g v xs e ∧ w.grownBy w' (some g) ∧ lsR xs 5 (riI xs) c = ([], (e.1, true)))) (fun _ _ => 0) rfl ?_ ?_
  rotate_left
  · rintro a' w' ⟨e, u1, u2, u3, u4, u5, u6, u7, u8, u9, u10, u11, u12, u13, u14, u15, u16, u17, u18, u19, u20, u21, u22, u23, u24, u25, u26, u27, u28, u29, u30, u31, u32, rfl, HJ⟩
    go_wp2_with fail
    refine (rfit_any g v xs e false w' (unhide HJ).1).mono ?_
    rintro e2 w2 ⟨rfl, r2, g2⟩
    have HR2 := hide r2
    have G2 := hide (grown_all (unhide HJ).2.1 g2)
    clear r2 g2
    go_wp2
    simp only [Exit.jump]
    go_ret
    refine ⟨none, 0, 0, rfl, ?_, ?_, unhide G2⟩
    · rw [(unhide HJ).2.2]; exact World.ownsRow_nil _ _ _ _
    · rw [(unhide HJ).2.2]
      have h := unhide HR2
      simpa using h
  · go_wp2_with fail
    refine (rnum_any g v xs c w hlen (unhide HD) (unhide H0)).mono ?_
    rintro e w1 ⟨rfl, r1, g1⟩
    rw [unhide HMD] at r1
    rw [unhide HMD]
    simp only at r1
    have HR1 := hide r1
    have G1 := hide g1
    have hs1 := g1.size
    clear r1 g1
    by_cases hm : 5 < m
    · have hd1 : decide (5 < m) = true := by simpa using hm
      have HE : Hid (lsR xs 5 (riI xs) c = ([], (d.1, true))) := hide (by rw [unhide HL, if_pos hm])
      go_wp2_with fail
      go_step3
      exact ⟨rfl, ⟨d, _, _, _, _, _, _, _, _, _, _, _, _, _, _, _, _, _, _, _, _, _, _, _, _, _, _, _, _, _, _, _, _, rfl, hide ⟨unhide HR1, unhide G1, unhide HE⟩⟩⟩
    · have hd1 : decide (5 < m) = false := by simpa using hm
      have hm0 : 0 ≤ m := by
        have h := (riN_bd (c := c) (unhide HD)).1
        rw [unhide HMD] at h
        exact h
      obtain ⟨m, rfl⟩ := Int.eq_ofNat_of_zero_le hm0
      have HL2 : Hid (lsR xs 5 (riI xs) c = if (rpt (riI xs) m d).2.2 = true then ([], ((rpt (riI xs) m d).2.1, true)) else rpt (riI xs) m d) := hide (by rw [unhide HL, if_neg hm, Int.toNat_natCast])
      clear HL HMD
      go_wp2_with fail
      go_step3
      go_wp2_with fail
      go_loopw [7] (fun u wr => ∃ (k : Nat) (a : Option Addr) (n cap : Nat), u = .slice a n cap ∧ n = (rpt (riI xs) k d).1.length ∧ ((rpt (riI xs) k d).2.2 = false → n = k) ∧ k ≤ m ∧ Ow encI 6 64 w.heap.size wr (.slice a n cap) (rpt (riI xs) k d).1 ∧ Ri wr g v xs (rpt (riI xs) k d).2 ∧ w.grownBy wr (some g)) (fun u _ => m - sliceLen u)
      case atStart => exact ⟨0, _, _, _, rfl, rfl, fun _ => rfl, Nat.zero_le _, World.ownsRow_nil _ _ _ _, unhide HR1, unhide G1⟩
      case round =>
        obtain ⟨k, a, n, cap, rfl, hn, hnk, hkm, hown, hrd, hgr⟩ := hrel
        have HO := hide hown
        have HR := hide hrd
        have HG := hide hgr
        have hsz := hgr.size
        have hgw := hrd.lt
        have HNL := hide hn
        obtain ⟨c0, c1, c2, cf⟩ := hrd.cells
        obtain ⟨bd, hbd2⟩ : ∃ b, (rpt (riI xs) k d).2.2 = b := ⟨_, rfl⟩
        rw [hbd2] at c2 hnk
        have HBD := hide hbd2
        clear hown hrd hgr hbd2 c0 c1 hn HR1 G1
        cases bd
        · obtain rfl : n = k := hnk rfl
          by_cases hlt : n < m
          · have hd2 : ((n : Int) == (m : Int)) = false := by simp; omega
            have e1 : Hid (rpt (riI xs) (n + 1) d = ((rpt (riI xs) n d).1 ++ [(riI xs (rpt (riI xs) n d).2).1], (riI xs (rpt (riI xs) n d).2).2)) := hide (rpt_next (unhide HBD))
            go_wp2_with fail
            refine (ritem_any g v xs _ wr hlen (unhide HD) (unhide HR)).mono ?_
            rintro e w2 ⟨rfl, r2, g2⟩
            have O2 := hide (owF_far (unhide HO) g2 hgl)
            have HR2 := hide r2
            have G2 := hide (grown_all (unhide HG) g2)
            have hs2 : w.heap.size ≤ w2.heap.size := (unhide G2).size
            clear r2 g2 HO HR HG c2 cf
            go_wp2_with (first | (at_builtin; refine wpList_app1 encI_len (by omega) oneI 64 24 i0 _ 56 Try.underlying24 hi hz0 hz1 (unhide HZ2) rfl (by omega) w2 (riI xs (rpt (riI xs) n d).2).1 rfl _ _ rfl w.heap.size _ _ n HNL rfl (unhide O2) rfl (by omega) hs2 ?_; intro a8 c8 w4 hO hG; have HO4 := hide hO; have R4 := hide ((unhide H0).row (unhide G2) (unhide HR2) (unhide O2) hG); clear hO hG))
            go_roundw
            case rel => exact ⟨n + 1, a8, n + 1, c8, rfl, by rw [unhide e1, List.length_append, ← unhide HNL]; rfl, fun _ => rfl, by omega, by rw [unhide e1]; exact unhide HO4, by rw [unhide e1]; exact (unhide R4).1, (unhide R4).2⟩
            case measure => simp [sliceLen]; omega
          · obtain rfl : n = m := by omega
            have hd2 : ((n : Int) == (n : Int)) = true := by simp
            have HE : Hid (lsR xs 5 (riI xs) c = rpt (riI xs) n d) := hide (by rw [unhide HL2, if_neg (by rw [unhide HBD]; simp)])
            go_wp2
            simp only [Exit.jump]
            go_ret
            exact ⟨a, n, cap, rfl, by rw [unhide HE]; exact unhide HO, by rw [unhide HE]; exact unhide HR, unhide HG⟩
        · have HE : Hid (lsR xs 5 (riI xs) c = ([], ((rpt (riI xs) k d).2.1, true))) := hide (by rw [unhide HL2, rpt_stop (unhide HBD) m hkm, if_pos (unhide HBD)])
          go_wp2_with fail
          go_step3
          exact ⟨rfl, ⟨(rpt (riI xs) k d).2, _, _, _, _, _, _, _, _, _, _, _, _, _, _, _, _, _, _, _, _, _, _, _, _, _, _, _, _, _, _, _, _, rfl, hide ⟨unhide HR, unhide HG, unhide HE⟩⟩⟩
set_option maxHeartbeats 4000000 in
set_option maxRecDepth 100000 in
theorem rlistF_any (g : Nat) (v : Value) (xs : List Int) (c : Cu) (w : World) (hlen : xs.length ≤ 140737488351232) (hbd : ∀ z ∈ xs, 0 ≤ z ∧ z ≤ 255) (h : Ri w g v xs c) :
    Calls Try.prog 74 #[.pointer (some ⟨g, 0, none⟩), .int .i64 5, .func (.func 75) #[] #[]] w fun e w' => ∃ a n cap, e = .returned (.slice a n cap) ∧ Ow encF 2 67 w.heap.size w' (.slice a n cap) (lsR xs 5 (riF xs) c).1 ∧ Ri w' g v xs (lsR xs 5 (riF xs) c).2 ∧ w.grownBy w' (some g) := by
  obtain ⟨i0, hi, hz0, hz1, hz2⟩ := info_parts Try.infoFloor
  have HZ2 := hide hz2
  have H0 := hide h
  have HD := hide hbd
  have hgl := h.lt
  obtain ⟨m, d, hmd⟩ : ∃ m d, riN xs c = (m, d) := ⟨_, _, rfl⟩
  have HL : Hid (lsR xs 5 (riF xs) c = if (5 : Int) < m then ([], (d.1, true)) else if (rpt (riF xs) m.toNat d).2.2 = true then ([], ((rpt (riF xs) m.toNat d).2.1, true)) else rpt (riF xs) m.toNat d) := hide (by unfold lsR; rw [hmd]; rfl)
  have HMD := hide hmd
  clear h hbd hmd hz2
  go_enter Try.func74, Try.ntmps74
  go_wp2_with fail
  refine wp_scope_jumps 0 (fun a' w' => ∃ (e : Cu) (u1 u2 u3 u4 u5 u6 u7 u8 u9 u10 u11 u12 u13 u14 u15 u16 u17 u18 u19 u20 u21 u22 u23 u24 u25 u26 u27 u28 u29 u30 u31 u32 : Value), a' = { tmps := #[.pointer (some ⟨g, 0, none⟩), u1, u2, u3, u4, u5, u6, u7, u8, u9, u10, u11, u12, u13, u14, u15, u16, u17, u18, u19, u20, u21, u22, u23, u24, u25, u26, u27, u28, u29, u30, u31, u32], defers := [] } ∧ Hid (Ri w' g v xs e ∧ w.grownBy w' (some g) ∧ lsR xs 5 (riF xs) c = ([], (e.1, true)))) (fun _ _ => 0) rfl ?_ ?_
  rotate_left
  · rintro a' w' ⟨e, u1, u2, u3, u4, u5, u6, u7, u8, u9, u10, u11, u12, u13, u14, u15, u16, u17, u18, u19, u20, u21, u22, u23, u24, u25, u26, u27, u28, u29, u30, u31, u32, rfl, HJ⟩
    go_wp2_with fail
    refine (rfit_any g v xs e false w' (unhide HJ).1).mono ?_
    rintro e2 w2 ⟨rfl, r2, g2⟩
    have HR2 := hide r2
    have G2 := hide (grown_all (unhide HJ).2.1 g2)
    clear r2 g2
    go_wp2
    simp only [Exit.jump]
    go_ret
    refine ⟨none, 0, 0, rfl, ?_, ?_, unhide G2⟩
    · rw [(unhide HJ).2.2]; exact World.ownsRow_nil _ _ _ _
    · rw [(unhide HJ).2.2]
      have h := unhide HR2
      simpa using h
  · go_wp2_with fail
    refine (rnum_any g v xs c w hlen (unhide HD) (unhide H0)).mono ?_
    rintro e w1 ⟨rfl, r1, g1⟩
    rw [unhide HMD] at r1
    rw [unhide HMD]
    simp only at r1
    have HR1 := hide r1
    have G1 := hide g1
    have hs1 := g1.size
    clear r1 g1
    by_cases hm : 5 < m
    · have hd1 : decide (5 < m) = true := by simpa using hm
      have HE : Hid (lsR xs 5 (riF xs) c = ([], (d.1, true))) := hide (by rw [unhide HL, if_pos hm])
      go_wp2_with fail
      go_step3
      exact ⟨rfl, ⟨d, _, _, _, _, _, _, _, _, _, _, _, _, _, _, _, _, _, _, _, _, _, _, _, _, _, _, _, _, _, _, _, _, rfl, hide ⟨unhide HR1, unhide G1, unhide HE⟩⟩⟩
    · have hd1 : decide (5 < m) = false := by simpa using hm
      have hm0 : 0 ≤ m := by
        have h := (riN_bd (c := c) (unhide HD)).1
        rw [unhide HMD] at h
        exact h
      obtain ⟨m, rfl⟩ := Int.eq_ofNat_of_zero_le hm0
      have HL2 : Hid (lsR xs 5 (riF xs) c = if (rpt (riF xs) m d).2.2 = true then ([], ((rpt (riF xs) m d).2.1, true)) else rpt (riF xs) m d) := hide (by rw [unhide HL, if_neg hm, Int.toNat_natCast])
      clear HL HMD
      go_wp2_with fail
      go_step3
      go_wp2_with fail
      go_loopw [7] (fun u wr => ∃ (k : Nat) (a : Option Addr) (n cap : Nat), u = .slice a n cap ∧ n = (rpt (riF xs) k d).1.length ∧ ((rpt (riF xs) k d).2.2 = false → n = k) ∧ k ≤ m ∧ Ow encF 2 67 w.heap.size wr (.slice a n cap) (rpt (riF xs) k d).1 ∧ Ri wr g v xs (rpt (riF xs) k d).2 ∧ w.grownBy wr (some g)) (fun u _ => m - sliceLen u)
      case atStart => exact ⟨0, _, _, _, rfl, rfl, fun _ => rfl, Nat.zero_le _, World.ownsRow_nil _ _ _ _, unhide HR1, unhide G1⟩
      case round =>
        obtain ⟨k, a, n, cap, rfl, hn, hnk, hkm, hown, hrd, hgr⟩ := hrel
        have HO := hide hown
        have HR := hide hrd
        have HG := hide hgr
        have hsz := hgr.size
        have hgw := hrd.lt
        have HNL := hide hn
        obtain ⟨c0, c1, c2, cf⟩ := hrd.cells
        obtain ⟨bd, hbd2⟩ : ∃ b, (rpt (riF xs) k d).2.2 = b := ⟨_, rfl⟩
        rw [hbd2] at c2 hnk
        have HBD := hide hbd2
        clear hown hrd hgr hbd2 c0 c1 hn HR1 G1
        cases bd
        · obtain rfl : n = k := hnk rfl
          by_cases hlt : n < m
          · have hd2 : ((n : Int) == (m : Int)) = false := by simp; omega
            have e1 : Hid (rpt (riF xs) (n + 1) d = ((rpt (riF xs) n d).1 ++ [(riF xs (rpt (riF xs) n d).2).1], (riF xs (rpt (riF xs) n d).2).2)) := hide (rpt_next (unhide HBD))
            go_wp2_with fail
            refine (rfloor_any g v xs _ wr hlen (unhide HD) (unhide HR)).mono ?_
            rintro e w2 ⟨rfl, r2, g2⟩
            have O2 := hide (owF_far (unhide HO) g2 hgl)
            have HR2 := hide r2
            have G2 := hide (grown_all (unhide HG) g2)
            have hs2 : w.heap.size ≤ w2.heap.size := (unhide G2).size
            clear r2 g2 HO HR HG c2 cf
            go_wp2_with (first | (at_builtin; refine wpList_app1 encF_len (by omega) oneF 67 25 i0 _ 16 Try.underlying25 hi hz0 hz1 (unhide HZ2) rfl (by omega) w2 (riF xs (rpt (riF xs) n d).2).1 rfl _ _ rfl w.heap.size _ _ n HNL rfl (unhide O2) rfl (by omega) hs2 ?_; intro a8 c8 w4 hO hG; have HO4 := hide hO; have R4 := hide ((unhide H0).row (unhide G2) (unhide HR2) (unhide O2) hG); clear hO hG))
            go_roundw
            case rel => exact ⟨n + 1, a8, n + 1, c8, rfl, by rw [unhide e1, List.length_append, ← unhide HNL]; rfl, fun _ => rfl, by omega, by rw [unhide e1]; exact unhide HO4, by rw [unhide e1]; exact (unhide R4).1, (unhide R4).2⟩
            case measure => simp [sliceLen]; omega
          · obtain rfl : n = m := by omega
            have hd2 : ((n : Int) == (n : Int)) = true := by simp
            have HE : Hid (lsR xs 5 (riF xs) c = rpt (riF xs) n d) := hide (by rw [unhide HL2, if_neg (by rw [unhide HBD]; simp)])
            go_wp2
            simp only [Exit.jump]
            go_ret
            exact ⟨a, n, cap, rfl, by rw [unhide HE]; exact unhide HO, by rw [unhide HE]; exact unhide HR, unhide HG⟩
        · have HE : Hid (lsR xs 5 (riF xs) c = ([], ((rpt (riF xs) k d).2.1, true))) := hide (by rw [unhide HL2, rpt_stop (unhide HBD) m hkm, if_pos (unhide HBD)])
          go_wp2_with fail
          go_step3
          exact ⟨rfl, ⟨(rpt (riF xs) k d).2, _, _, _, _, _, _, _, _, _, _, _, _, _, _, _, _, _, _, _, _, _, _, _, _, _, _, _, _, _, _, _, _, rfl, hide ⟨unhide HR, unhide HG, unhide HE⟩⟩⟩
end Go.Proofs.Ytjlocbimkfocnaa

namespace Go.Proofs.Ytjlocbimkfocnaa
open Go.RowKit

abbrev SttB (v1 v2 : Value) : Obj := .cells #[v1, v2] 27 (0, 0)
set_option maxHeartbeats 4000000 in
set_option maxRecDepth 100000 in
theorem rstate_any (g : Nat) (v : Value) (xs : List Int) (c : Cu) (w : World) (hlen : xs.length ≤ 140737488351232) (hbd : ∀ z ∈ xs, 0 ≤ z ∧ z ≤ 255) (h : Ri w g v xs c) :
    Calls Try.prog 27 #[.pointer (some ⟨g, 0, none⟩)] w fun e w' => ∃ a1 n1 c1 a2 n2 c2, e = .returned (.agg #[.slice a1 n1 c1, .slice a2 n2 c2]) ∧ OwI w.heap.size w' (.slice a1 n1 c1) (riS xs c).1.1 ∧ OwF w.heap.size w' (.slice a2 n2 c2) (riS xs c).1.2 ∧ Ri w' g v xs (riS xs c).2 ∧ w.grownBy w' (some g) := by
  have H0 := hide h
  have HD := hide hbd
  have hgl := h.lt
  clear h hbd
  go_enter Try.func27, Try.ntmps27
  have R0 := hide ((unhide H0).later (al_below w (SttB (.slice none 0 0) (.slice none 0 0))))
  go_wp2_with fail
  refine (rlistI_any g v xs c _ hlen (unhide HD) (unhide R0)).mono ?_
  rintro e w1 ⟨a1, n1, c1, rfl, o1, r1, g1⟩
  have K1 := hide (al_kept hgl g1)
  have G1 := hide (grown_lowR (al_below w _) g1)
  have R1 := hide r1
  have O1 := hide (Ow.base (base' := w.heap.size + 1) o1 (by simp))
  have hs1 : w.heap.size + 1 ≤ w1.heap.size := (Array.getElem?_eq_some_iff.1 (unhide K1)).1
  clear o1 r1 g1 R0
  go_wp2_with fail
  refine (rlistF_any g v xs (lsR xs 5 (riI xs) c).2 w1 hlen (unhide HD) (unhide R1)).mono ?_
  rintro e w2 ⟨a2, n2, c2, rfl, o2, r2, g2⟩
  have K2 := hide (kept_on hgl (unhide K1) g2)
  have G2 := hide (grown_all (unhide G1) g2)
  have R2 := hide r2
  have O2 := hide (Ow.base (base' := w.heap.size + 1) o2 hs1)
  have O1' := hide (owF_far (unhide O1) g2 (by omega))
  clear o2 r2 g2 R1 G1 K1 O1
  obtain ⟨r0, r1, rf⟩ := blk_cells2 (unhide K2)
  have hr : w.heap.size < w2.heap.size := (Array.getElem?_eq_some_iff.1 (unhide K2)).1
  have F0 := hide ((unhide H0).far (unhide R2) (unhide G2) (q := w.heap.size) (o := 0) (Nat.le_refl _) (.slice a1 n1 c1))
  have F1 := hide ((unhide H0).far (unhide F0).1 (unhide F0).2 (q := w.heap.size) (o := 1) (Nat.le_refl _) (.slice a2 n2 c2))
  have P1 := hide (Ow.base (((unhide O1').set ⟨w.heap.size, 0, none⟩ (by show w.heap.size < _; omega) (.slice a1 n1 c1)).set ⟨w.heap.size, 1, none⟩ (by show w.heap.size < _; omega) (.slice a2 n2 c2)) (show w.heap.size ≤ w.heap.size + 1 by omega))
  have P2 := hide (Ow.base (((unhide O2).set ⟨w.heap.size, 0, none⟩ (by show w.heap.size < _; omega) (.slice a1 n1 c1)).set ⟨w.heap.size, 1, none⟩ (by show w.heap.size < _; omega) (.slice a2 n2 c2)) (show w.heap.size ≤ w.heap.size + 1 by omega))
  clear R2 K2 G2 O1' O2
  go_wp2
  exact bodyPost_ret (v := .agg #[.slice a1 n1 c1, .slice a2 n2 c2]) (by simp [results, Try.results27, go_sem, r0, r1]) rfl ⟨a1, n1, c1, a2, n2, c2, rfl, unhide P1, unhide P2, (unhide F1).1, (unhide F1).2⟩
set_option maxHeartbeats 4000000 in
set_option maxRecDepth 100000 in
theorem rwhole_any (g : Nat) (v : Value) (xs : List Int) (c : Cu) (b : Bool) (hb : Hid ((!c.2 && (c.1 == (xs.length : Int))) = b)) (w : World) (h : Ri w g v xs c) :
    Calls Try.prog 28 #[.pointer (some ⟨g, 0, none⟩)] w fun e w' => e = .returned (.bool b) ∧ Below w.heap.size w w' := by
  obtain ⟨p, k⟩ := c
  obtain ⟨c0, c1, c2, cf⟩ := h.cells
  have hgl := h.lt
  obtain ⟨a, cap, rfl, hcap, -⟩ := h.seg
  simp only at c1 c2
  have hB := unhide hb
  simp only at hB
  clear h hb
  obtain ⟨q, hq⟩ : ∃ q, (p == (xs.length : Int)) = q := ⟨_, rfl⟩
  rw [hq] at hB
  subst hB
  have l0 := later_some (w := w) hgl c0
  have l1 := later_some (w := w) hgl c1
  have l2 := later_some (w := w) hgl c2
  clear c0 c1 c2 cf
  cases k <;> cases q
  all_goals
    go_enter Try.func28, Try.ntmps28
    go_wp2_with fail
    refine wp_region_later (by kernel_rfl) (by kernel_rfl) ?_
    repeat (go_big_quiet_step (fail))
    refine wpQuiet_nil ?_
    intro w1 b1
    have HB := hide b1
    clear b1 l0 l1 l2
    go_wp2
    go_ret
    exact ⟨rfl, unhide HB⟩
set_option maxHeartbeats 4000000 in
set_option maxRecDepth 100000 in
theorem istateof_any (v : Value) (xs : List Int) (w : World) (hlen : xs.length ≤ 140737488351232) (hbd : ∀ z ∈ xs, 0 ≤ z ∧ z ≤ 255) (hv : Seg w v xs) :
    Calls Try.prog 8 #[v] w fun e w' => ∃ a1 n1 c1 a2 n2 c2, e = .returned (.tuple #[.agg #[.slice a1 n1 c1, .slice a2 n2 c2], .bool (sof xs).isSome]) ∧ OwI w.heap.size w' (.slice a1 n1 c1) (sofI xs) ∧ OwF w.heap.size w' (.slice a2 n2 c2) (sofF xs) ∧ Below w.heap.size w w' := by
  have HD := hide hbd
  have HS := hide hv
  have HSO := hide (sof_rd hbd)
  obtain ⟨a, cap, rfl, hcap, hr0⟩ := hv
  have HNE : Hid (xs = [] ∨ ∀ (x : Addr) n cc, Value.slice a xs.length cap = .slice (some x) n cc → x.block < w.heap.size) := hide (by
    rcases hr0 with h | ⟨bb, off, rfl, hlt, -⟩
    · exact .inl h
    · exact .inr (fun x n cc e => by simp only [Value.slice.injEq, Option.some.injEq] at e; rw [← e.1]; exact hlt))
  clear hbd hcap hr0
  obtain ⟨wA, hwA⟩ : ∃ W, W = (w.alloc (SttB (.slice none 0 0) (.slice none 0 0))).alloc (.cells #[.slice a xs.length cap, .int .i64 0, .bool false] 69) := ⟨_, rfl⟩
  have BA := hide (show Below w.heap.size w wA by rw [hwA]; exact ((Below.refl _ _).alloc (Nat.le_refl _) _).alloc (by simp) _)
  have KA := hide (show wA.heap[w.heap.size]? = some (SttB (.slice none 0 0) (.slice none 0 0)) by rw [hwA]; exact lowB2 w _ _)
  have R0 := hide (show Ri wA (w.heap.size + 1) (.slice a xs.length cap) xs (0, false) from ⟨by rw [hwA]; exact newB2 w _ _, (unhide HS).below (unhide BA) (Nat.le_refl _), (unhide HNE).imp id (fun h x n cc e => by have := h x n cc e; omega), by simp [Win]⟩)
  have zA : w.heap.size + 1 < wA.heap.size := (unhide R0).lt
  go_enter Try.func8, Try.ntmps8
  go_wp2_with fail
  rw [← hwA]
  clear hwA
  refine (rstate_any (w.heap.size + 1) (.slice a xs.length cap) xs (0, false) wA hlen (unhide HD) (unhide R0)).mono ?_
  rintro e w1 ⟨a1, n1, c1, a2, n2, c2, rfl, o1, o2, r1, g1⟩
  have bB := al_below w1 (SttB (.slice a1 n1 c1) (.slice a2 n2 c2))
  have KR := hide ((bB.block _ (Nat.lt_of_lt_of_le (by omega : w.heap.size < wA.heap.size) g1.size)).trans ((g1.block w.heap.size (by omega) (by simp)).trans (unhide KA)))
  have KS := hide (heap_alloc_new w1 (SttB (.slice a1 n1 c1) (.slice a2 n2 c2)))
  have BL := hide (((unhide BA).grown g1 (unhide BA).size (fun k hk => by simp at hk; omega)).trans (bB.mono (Nat.le_trans (unhide BA).size g1.size)))
  have R1 := hide (r1.later bB)
  have O1 := hide (o1.later bB)
  have O2 := hide (o2.later bB)
  have hs1 := g1.size
  obtain ⟨its, hits⟩ : ∃ l, (riS xs (0, false)).1.1 = l := ⟨_, rfl⟩
  obtain ⟨fls, hfls⟩ : ∃ l, (riS xs (0, false)).1.2 = l := ⟨_, rfl⟩
  rw [hits] at O1
  rw [hfls] at O2
  have HS1 := hide (show (riS xs (0, false)).1 = (its, fls) from by rw [← hits, ← hfls])
  have hl1 : n1 ≤ 5 := by rw [((unhide O1).rw encI_len).len.1, ← hits]; exact lsR_len
  have hl2 : n2 ≤ 5 := by rw [((unhide O2).rw encF_len).len.1, ← hfls]; exact lsR_len
  clear o1 o2 r1 g1 R0 KA BA bB hits hfls
  obtain ⟨b, hb⟩ : ∃ b, Hid ((!(riS xs (0, false)).2.2 && ((riS xs (0, false)).2.1 == (xs.length : Int))) = b) := ⟨_, hide rfl⟩
  go_wp2_with fail
  refine (rwhole_any (w.heap.size + 1) (.slice a xs.length cap) xs (riS xs (0, false)).2 b hb _ (unhide R1)).mono ?_
  rintro e w2 ⟨rfl, b2⟩
  have KR2 := hide ((b2.block _ (by simp; omega)).trans (unhide KR))
  have KS2 := hide ((b2.block w1.heap.size (by simp)).trans (unhide KS))
  have BL2 := hide ((unhide BL).trans (b2.mono (unhide BL).size))
  have O12 := hide ((unhide O1).later b2)
  have O22 := hide ((unhide O2).later b2)
  clear b2 KR KS BL O1 O2 R1
  obtain ⟨s0, s1, sf⟩ := blk_cells2 (unhide KS2)
  obtain ⟨r0, r1, rf⟩ := blk_cells2 (unhide KR2)
  have hz1 : w1.heap.size < w2.heap.size := (Array.getElem?_eq_some_iff.1 (unhide KS2)).1
  have hz2 : w.heap.size < w2.heap.size := by omega
  cases b
  · have hno : Hid (sof xs = none) := hide (by
      rw [unhide HSO, if_neg]
      rintro ⟨⟨h1, h2⟩, -⟩
      have h := unhide hb
      rw [h1, h2] at h
      simp at h)
    have BW := hide (((unhide BL2).setCell (p := ⟨w.heap.size, 0, none⟩) (Nat.le_refl _) (.slice none 0 0)).setCell (p := ⟨w.heap.size, 1, none⟩) (Nat.le_refl _) (.slice none 0 0))
    go_wp2_with fail
    exact bodyPost_ret (v := .tuple #[.agg #[.slice none 0 0, .slice none 0 0], .bool false]) (by simp [results, Try.results8, go_sem, r0, r1]) rfl ⟨_, _, _, _, _, _, by rw [unhide hno]; rfl, by rw [sofI, unhide hno]; exact World.ownsRow_nil _ _ _ _, by rw [sofF, unhide hno]; exact World.ownsRow_nil _ _ _ _, unhide BW⟩
  · have hw : Hid ((riS xs (0, false)).2.2 = false ∧ (riS xs (0, false)).2.1 = (xs.length : Int)) := hide (by
      have h := unhide hb
      simp only [Bool.and_eq_true, Bool.not_eq_true', beq_iff_eq] at h
      exact h)
    obtain ⟨ok, hok⟩ : ∃ ok, Hid (okS its fls = ok) := ⟨_, hide rfl⟩
    go_wp2_with fail
    refine (istateok_any a1 n1 c1 its a2 n2 c2 fls ok hok w2 (by omega) (by omega) ((unhide O12).rw encI_len) ((unhide O22).rw encF_len)).mono ?_
    rintro e w3 ⟨rfl, b3⟩
    have KR3 := hide ((b3.block _ hz2).trans (unhide KR2))
    have KS3 := hide ((b3.block _ hz1).trans (unhide KS2))
    have BL3 := hide ((unhide BL2).trans (b3.mono (unhide BL2).size))
    have O13 := hide ((unhide O12).later b3)
    have O23 := hide ((unhide O22).later b3)
    have hz3 : w1.heap.size < w3.heap.size := Nat.lt_of_lt_of_le hz1 b3.size
    have hz4 : w.heap.size < w3.heap.size := by omega
    clear b3 KR2 KS2 BL2 O12 O22 s0 s1 sf r0 r1 rf
    obtain ⟨s0, s1, sf⟩ := blk_cells2 (unhide KS3)
    obtain ⟨r0, r1, rf⟩ := blk_cells2 (unhide KR3)
    cases ok
    · have hno : Hid (sof xs = none) := hide (by
        rw [unhide HSO, if_neg]
        rintro ⟨-, h⟩
        rw [unhide HS1] at h
        simp only at h
        rw [unhide hok] at h
        cases h)
      have BW := hide (((unhide BL3).setCell (p := ⟨w.heap.size, 0, none⟩) (Nat.le_refl _) (.slice none 0 0)).setCell (p := ⟨w.heap.size, 1, none⟩) (Nat.le_refl _) (.slice none 0 0))
      go_wp2_with fail
      exact bodyPost_ret (v := .tuple #[.agg #[.slice none 0 0, .slice none 0 0], .bool false]) (by simp [results, Try.results8, go_sem, r0, r1]) rfl ⟨_, _, _, _, _, _, by rw [unhide hno]; rfl, by rw [sofI, unhide hno]; exact World.ownsRow_nil _ _ _ _, by rw [sofF, unhide hno]; exact World.ownsRow_nil _ _ _ _, unhide BW⟩
    · have hso : Hid (sof xs = some (its, fls)) := hide (by
        rw [unhide HSO, if_pos ⟨unhide hw, by rw [unhide HS1]; exact unhide hok⟩, unhide HS1])
      have BW := hide (((unhide BL3).setCell (p := ⟨w.heap.size, 0, none⟩) (Nat.le_refl _) (.slice a1 n1 c1)).setCell (p := ⟨w.heap.size, 1, none⟩) (Nat.le_refl _) (.slice a2 n2 c2))
      have P1 := hide (Ow.base (((unhide O13).set ⟨w.heap.size, 0, none⟩ (by show w.heap.size < _; omega) (.slice a1 n1 c1)).set ⟨w.heap.size, 1, none⟩ (by show w.heap.size < _; omega) (.slice a2 n2 c2)) (show w.heap.size ≤ wA.heap.size by omega))
      have P2 := hide (Ow.base (((unhide O23).set ⟨w.heap.size, 0, none⟩ (by show w.heap.size < _; omega) (.slice a1 n1 c1)).set ⟨w.heap.size, 1, none⟩ (by show w.heap.size < _; omega) (.slice a2 n2 c2)) (show w.heap.size ≤ wA.heap.size by omega))
      go_wp2_with fail
      exact bodyPost_ret (v := .tuple #[.agg #[.slice a1 n1 c1, .slice a2 n2 c2], .bool true]) (by simp [results, Try.results8, go_sem, r0, r1]) rfl ⟨_, _, _, _, _, _, by rw [unhide hso]; rfl, by rw [sofI, unhide hso]; exact unhide P1, by rw [sofF, unhide hso]; exact unhide P2, unhide BW⟩
end Go.Proofs.Ytjlocbimkfocnaa
