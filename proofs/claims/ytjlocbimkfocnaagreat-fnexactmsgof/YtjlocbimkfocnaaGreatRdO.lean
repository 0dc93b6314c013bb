/-
  The program's reader of bytes in memory: a number, a text, an entry, an item, a floor, a mark. No statement is proved here.
  The program's reader: a floor, a mark, an entry, an item. No statement is proved here.
  The program's reader: lists. No statement is proved here.
  The program's reader: a state; whether all was read; StateOf. No statement is proved here.
  The program's reader: a part, and a message. No statement is proved here.
  What stands between a message's sign and its seal. No statement is proved here.
  The program's MsgOf: the message of which these are the bytes. No statement is proved here.
-/
import Derived.Test.YtjlocbimkfocnaaGreatMsZ
import Derived.Test.YtjlocbimkfocnaaGreatIGetText
import Derived.Test.YtjlocbimkfocnaaGreatTrn
import Derived.Test.YtjlocbimkfocnaaGreatApp2
import Derived.Test.YtjlocbimkfocnaaGreatStA
import Derived.Test.YtjlocbimkfocnaaGreatStT
import Derived.Test.YtjlocbimkfocnaaGreatIntS
import Derived.Test.YtjlocbimkfocnaaGreatMkA
import Derived.ScopeJumps
import Derived.WalkMore
import Derived.Laws.EntriesVeiled
import Derived.Test.YtjlocbimkfocnaaGreatIStOk
import Derived.Deep.DeepCutAuto
import Derived.Test.YtjlocbimkfocnaaGreatMsM
import Derived.Lib.ConvBytes
import Derived.Test.YtjlocbimkfocnaaGreatMsBx
import Derived.Test.YtjlocbimkfocnaaGreatMsL
namespace Go.Proofs.YtjlocbimkfocnaaGreat
open Go.RowKit

/-- The reader's variable lies in block g; what it reads is a row of bytes. -/
structure Ri (W : World) (g : Nat) (v : Value) (xs : List Int) (c : Cu) : Prop where
  blk : W.heap[g]? = some (.cells #[v, .int .i64 c.1, .bool c.2] 58 (0, 0))
  seg : Seg W v xs
  ne : xs = [] ∨ ∀ a n cc, v = .slice (some a) n cc → a.block ≠ g
  win : Win xs c
theorem grown_all {a b c : World} {g : Option Nat} (h : a.grownBy b g) (k : b.grownBy c g) : a.grownBy c g :=
  ⟨k.os.trans h.os, k.tape.trans h.tape, k.output.trans h.output, Nat.le_trans h.size k.size, fun i hi hne => (k.block i (Nat.lt_of_lt_of_le hi h.size) hne).trans (h.block i hi hne)⟩
theorem grown_lowR {w X Y : World} {g : Nat} (b : Below w.heap.size w X) (h : X.grownBy Y (some g)) : w.grownBy Y (some g) :=
  grown_all ⟨b.os, b.tape, b.output, b.size, fun k hk _ => b.block k hk⟩ h
theorem grown_setR (w : World) (g o : Nat) (u : Value) : w.grownBy (w.setCell ⟨g, o, none⟩ u) (some g) :=
  ⟨rfl, rfl, rfl, by simp, fun i _ hne => heap_setCell_other _ ⟨g, o, none⟩ _ _ (fun e => hne (by rw [e]))⟩
theorem seg_grown {w w' : World} {v : Value} {xs : List Int} {g : Nat} (h : Seg w v xs) (hg : w.grownBy w' (some g)) (hne : xs = [] ∨ ∀ a n cc, v = .slice (some a) n cc → a.block ≠ g) : Seg w' v xs := by
  obtain ⟨a, cap, rfl, hcap, h⟩ := h
  refine ⟨a, cap, rfl, hcap, ?_⟩
  rcases h with h | ⟨b, off, rfl, hlt, hc⟩
  · exact .inl h
  · rcases hne with h | hne
    · exact .inl h
    · have hb := hne _ _ _ rfl
      refine .inr ⟨b, off, rfl, Nat.lt_of_lt_of_le hlt hg.size, fun i hi => ?_⟩
      rw [← hc i hi]
      exact World.cell?_of_block (w := w) (a := ⟨b, off + i, none⟩) (hg.block b hlt (fun e => hb (by simpa using e)))
section
variable {w W X : World} {g : Nat} {v : Value} {xs : List Int} {c d : Cu}
theorem Ri.lt (h : Ri W g v xs c) : g < W.heap.size := (Array.getElem?_eq_some_iff.1 h.blk).1
theorem Ri.cells (h : Ri W g v xs c) : W.cell? ⟨g, 0, none⟩ = some v ∧ W.cell? ⟨g, 1, none⟩ = some (.int .i64 c.1) ∧ W.cell? ⟨g, 2, none⟩ = some (.bool c.2) ∧ ∀ o, W.frozen? ⟨g, o, none⟩ = false := by
  simp [World.cell?, World.frozen?, h.blk]
theorem Ri.later (h : Ri W g v xs c) (b : Below W.heap.size W X) : Ri X g v xs c :=
  ⟨(b.block g h.lt).trans h.blk, h.seg.below b (Nat.le_refl _), h.ne, h.win⟩
theorem Ri.set (h : Ri W g v xs c) (hw : Win xs d) : Ri ((W.setCell ⟨g, 1, none⟩ (.int .i64 d.1)).setCell ⟨g, 2, none⟩ (.bool d.2)) g v xs d ∧ W.grownBy ((W.setCell ⟨g, 1, none⟩ (.int .i64 d.1)).setCell ⟨g, 2, none⟩ (.bool d.2)) (some g) := by
  have G1 := grown_setR W g 1 (.int .i64 d.1)
  have G2 := grown_setR (W.setCell ⟨g, 1, none⟩ (.int .i64 d.1)) g 2 (.bool d.2)
  have b1 := heap_setCell_same _ g 1 _ _ (.int .i64 d.1) h.blk
  have b2 := heap_setCell_same _ g 2 _ _ (.bool d.2) b1
  exact ⟨⟨b2, seg_grown h.seg (grown_all G1 G2) h.ne, h.ne, hw⟩, grown_all G1 G2⟩
theorem Ri.fit (h : Ri W g v xs c) (b : Bool) : Ri (W.setCell ⟨g, 2, none⟩ (.bool b)) g v xs (c.1, b) ∧ W.grownBy (W.setCell ⟨g, 2, none⟩ (.bool b)) (some g) := by
  have G2 := grown_setR W g 2 (.bool b)
  exact ⟨⟨heap_setCell_same _ g 2 _ _ _ h.blk, seg_grown h.seg G2 h.ne, h.ne, h.win⟩, G2⟩
theorem Ri.step (h : Ri W g v xs c) {q : Int} (h0 : 0 ≤ q) (h1 : q ≤ xs.length) : Ri (W.setCell ⟨g, 1, none⟩ (.int .i64 q)) g v xs (q, c.2) ∧ W.grownBy (W.setCell ⟨g, 1, none⟩ (.int .i64 q)) (some g) := by
  have G1 := grown_setR W g 1 (.int .i64 q)
  exact ⟨⟨heap_setCell_same _ g 1 _ _ _ h.blk, seg_grown h.seg G1 h.ne, h.ne, ⟨h0, h1⟩⟩, G1⟩
end
set_option maxHeartbeats 2000000 in
set_option maxRecDepth 100000 in
theorem rfit_any (g : Nat) (v : Value) (xs : List Int) (c : Cu) (ok : Bool) (w : World) (h : Ri w g v xs c) :
    Calls Tryz.prog 116 #[.pointer (some ⟨g, 0, none⟩), .bool ok] w fun e w' => e = .returned (.tuple #[]) ∧ Ri w' g v xs (c.1, c.2 || !ok) ∧ w.grownBy w' (some g) := by
  obtain ⟨p, b⟩ := c
  have HP := hide (h.fit (b || !ok))
  obtain ⟨c0, c1, c2, cf⟩ := h.cells
  simp only at c1 c2
  have hgl := h.lt
  clear h
  cases b <;> cases ok
  all_goals
    go_enter Tryz.func116, Tryz.ntmps116
    go_wp2
    go_end0
    exact ⟨rfl, (unhide HP).1, (unhide HP).2⟩
set_option maxHeartbeats 2000000 in
set_option maxRecDepth 100000 in
theorem rstep_any (g : Nat) (v : Value) (xs : List Int) (c : Cu) (q : Int) (ok : Bool) (w : World) (h0 : 0 ≤ q) (h1 : q ≤ xs.length) (h : Ri w g v xs c) :
    Calls Tryz.prog 115 #[.pointer (some ⟨g, 0, none⟩), .int .i64 q, .bool ok] w fun e w' => e = .returned (.tuple #[]) ∧ Ri w' g v xs (q, c.2 || !ok) ∧ w.grownBy w' (some g) := by
  have HP := hide (h.step h0 h1)
  obtain ⟨c0, c1, c2, cf⟩ := h.cells
  have hgl := h.lt
  clear h
  go_enter Tryz.func115, Tryz.ntmps115
  go_wp2_with fail
  refine (rfit_any g v xs (q, c.2) ok _ (unhide HP).1).mono ?_
  rintro e w1 ⟨rfl, r1, g1⟩
  have HR := hide r1
  have HG := hide (grown_all (unhide HP).2 g1)
  clear r1 g1
  go_wp2
  go_end0
  exact ⟨rfl, unhide HR, unhide HG⟩
set_option maxHeartbeats 2000000 in
set_option maxRecDepth 100000 in
theorem rnum_any (g : Nat) (v : Value) (xs : List Int) (c : Cu) (w : World) (hlen : xs.length ≤ 140737488351232) (hbd : ∀ z ∈ xs, 0 ≤ z ∧ z ≤ 255) (h : Ri w g v xs c) :
    Calls Tryz.prog 80 #[.pointer (some ⟨g, 0, none⟩)] w fun e w' => e = .returned (.int .i64 (riN xs c).1) ∧ Ri w' g v xs (riN xs c).2 ∧ w.grownBy w' (some g) := by
  obtain ⟨p, b⟩ := c
  have HR := hide h
  have hW := (reads_num hbd).win (p, b) h.win
  obtain ⟨c0, c1, c2, cf⟩ := h.cells
  have hlo : 0 ≤ p := h.win.1
  have hhi : p ≤ xs.length := h.win.2
  simp only at c1 c2
  have hgl := h.lt
  have l0 := later_some (w := w) hgl c0
  have l1 := later_some (w := w) hgl c1
  have l2 := later_some (w := w) hgl c2
  have HC : Hid (∀ W, Seg W v xs → Calls Tryz.prog 114 #[v, .int .i64 p] W fun e w' => e = .returned (gres (getN xs p)) ∧ W = w') := hide (fun W hs => igetnum_any v xs p W hlen hbd hs (by omega) (by omega))
  obtain ⟨gx, hgx⟩ : ∃ gx, getN xs p = gx := ⟨_, rfl⟩
  rw [hgx] at HC
  clear h hbd c0 c1 c2 cf
  rcases gx with _ | ⟨n, q⟩
  · have HRN := hide (show riN xs (p, b) = _ from by unfold riN; rw [show ((p, b) : Cu).1 = p from rfl, hgx])
    clear hgx
    simp only [gres] at HC
    rw [unhide HRN] at hW ⊢
    simp only at hW ⊢
    have hW0 := hW.1
    have hW1 := hW.2
    simp only at hW0 hW1
    clear hW
    go_enter Tryz.func80, Tryz.ntmps80
    go_wp2_with fail
    refine wp_region_later (by kernel_rfl) (by kernel_rfl) ?_
    repeat (go_big_quiet_step (first
      | (go_at_call 114; exact Calls.later_same (unhide HC _ ((unhide HR).seg.below (later_below _ _ _) (Nat.le_refl _))))))
    refine wpQuiet_nil ?_
    intro w1 b1
    have HB := hide b1
    have HR1 := hide ((unhide HR).later b1)
    clear b1 l0 l1 l2
    go_wp2_with fail
    refine (rstep_any g v xs (p, b) 0 false w1 (by omega) (by omega) (unhide HR1)).mono ?_
    rintro e w2 ⟨rfl, r2, g2⟩
    have HR2 := hide r2
    have HG2 := hide (grown_lowR (unhide HB) g2)
    clear r2 g2
    go_wp2
    go_ret
    exact ⟨rfl, by have h := unhide HR2; simpa using h, unhide HG2⟩
  · have HRN := hide (show riN xs (p, b) = _ from by unfold riN; rw [show ((p, b) : Cu).1 = p from rfl, hgx])
    clear hgx
    simp only [gres] at HC
    rw [unhide HRN] at hW ⊢
    simp only at hW ⊢
    have hW0 := hW.1
    have hW1 := hW.2
    simp only at hW0 hW1
    clear hW
    go_enter Tryz.func80, Tryz.ntmps80
    go_wp2_with fail
    refine wp_region_later (by kernel_rfl) (by kernel_rfl) ?_
    repeat (go_big_quiet_step (first
      | (go_at_call 114; exact Calls.later_same (unhide HC _ ((unhide HR).seg.below (later_below _ _ _) (Nat.le_refl _))))))
    refine wpQuiet_nil ?_
    intro w1 b1
    have HB := hide b1
    have HR1 := hide ((unhide HR).later b1)
    clear b1 l0 l1 l2
    go_wp2_with fail
    refine (rstep_any g v xs (p, b) q true w1 (by omega) (by omega) (unhide HR1)).mono ?_
    rintro e w2 ⟨rfl, r2, g2⟩
    have HR2 := hide r2
    have HG2 := hide (grown_lowR (unhide HB) g2)
    clear r2 g2
    go_wp2
    go_ret
    exact ⟨rfl, by have h := unhide HR2; simpa using h, unhide HG2⟩
set_option maxHeartbeats 2000000 in
set_option maxRecDepth 100000 in
theorem rtext_any (g : Nat) (v : Value) (xs : List Int) (c : Cu) (w : World) (hlen : xs.length ≤ 140737488351232) (hbd : ∀ z ∈ xs, 0 ≤ z ∧ z ≤ 255) (h : Ri w g v xs c) :
    Calls Tryz.prog 118 #[.pointer (some ⟨g, 0, none⟩)] w fun e w' => e = .returned (.string (strOfNums (riT xs c).1)) ∧ Ri w' g v xs (riT xs c).2 ∧ w.grownBy w' (some g) := by
  obtain ⟨p, b⟩ := c
  have HR := hide h
  have hW := (reads_text hbd).win (p, b) h.win
  obtain ⟨c0, c1, c2, cf⟩ := h.cells
  have hlo : 0 ≤ p := h.win.1
  have hhi : p ≤ xs.length := h.win.2
  simp only at c1 c2
  have hgl := h.lt
  have l0 := later_some (w := w) hgl c0
  have l1 := later_some (w := w) hgl c1
  have l2 := later_some (w := w) hgl c2
  have HC : Hid (∀ W, Seg W v xs → Calls Tryz.prog 138 #[v, .int .i64 p] W fun e w' => e = .returned (tres (getT xs p)) ∧ W = w') := hide (fun W hs => igettext_any v xs p W hlen hbd hs (by omega) (by omega))
  obtain ⟨gx, hgx⟩ : ∃ gx, getT xs p = gx := ⟨_, rfl⟩
  rw [hgx] at HC
  clear h hbd c0 c1 c2 cf
  rcases gx with _ | ⟨n, q⟩
  · have HRN := hide (show riT xs (p, b) = _ from by unfold riT; rw [show ((p, b) : Cu).1 = p from rfl, hgx])
    clear hgx
    simp only [tres] at HC
    rw [unhide HRN] at hW ⊢
    simp only at hW ⊢
    have hW0 := hW.1
    have hW1 := hW.2
    simp only at hW0 hW1
    clear hW
    go_enter Tryz.func118, Tryz.ntmps118
    go_wp2_with fail
    refine wp_region_later (by kernel_rfl) (by kernel_rfl) ?_
    repeat (go_big_quiet_step (first
      | (go_at_call 138; exact Calls.later_same (unhide HC _ ((unhide HR).seg.below (later_below _ _ _) (Nat.le_refl _))))))
    refine wpQuiet_nil ?_
    intro w1 b1
    have HB := hide b1
    have HR1 := hide ((unhide HR).later b1)
    clear b1 l0 l1 l2
    go_wp2_with fail
    refine (rstep_any g v xs (p, b) 0 false w1 (by omega) (by omega) (unhide HR1)).mono ?_
    rintro e w2 ⟨rfl, r2, g2⟩
    have HR2 := hide r2
    have HG2 := hide (grown_lowR (unhide HB) g2)
    clear r2 g2
    go_wp2
    go_ret
    exact ⟨rfl, by have h := unhide HR2; simpa using h, unhide HG2⟩
  · have HRN := hide (show riT xs (p, b) = _ from by unfold riT; rw [show ((p, b) : Cu).1 = p from rfl, hgx])
    clear hgx
    simp only [tres] at HC
    rw [unhide HRN] at hW ⊢
    simp only at hW ⊢
    have hW0 := hW.1
    have hW1 := hW.2
    simp only at hW0 hW1
    clear hW
    go_enter Tryz.func118, Tryz.ntmps118
    go_wp2_with fail
    refine wp_region_later (by kernel_rfl) (by kernel_rfl) ?_
    repeat (go_big_quiet_step (first
      | (go_at_call 138; exact Calls.later_same (unhide HC _ ((unhide HR).seg.below (later_below _ _ _) (Nat.le_refl _))))))
    refine wpQuiet_nil ?_
    intro w1 b1
    have HB := hide b1
    have HR1 := hide ((unhide HR).later b1)
    clear b1 l0 l1 l2
    go_wp2_with fail
    refine (rstep_any g v xs (p, b) q true w1 (by omega) (by omega) (unhide HR1)).mono ?_
    rintro e w2 ⟨rfl, r2, g2⟩
    have HR2 := hide r2
    have HG2 := hide (grown_lowR (unhide HB) g2)
    clear r2 g2
    go_wp2
    go_ret
    exact ⟨rfl, by have h := unhide HR2; simpa using h, unhide HG2⟩
end Go.Proofs.YtjlocbimkfocnaaGreat

namespace Go.Proofs.YtjlocbimkfocnaaGreat
open Go.RowKit

theorem Ri.of {w X : World} {g : Nat} {v : Value} {xs : List Int} {c0 c : Cu} (h0 : Ri w g v xs c0) (hg : w.grownBy X (some g)) (hb : X.heap[g]? = some (.cells #[v, .int .i64 c.1, .bool c.2] 58 (0, 0))) (hw : Win xs c) : Ri X g v xs c :=
  ⟨hb, seg_grown h0.seg hg h0.ne, h0.ne, hw⟩
theorem grown_farR {w X : World} {r : Option Nat} (h : w.grownBy X r) {q o : Nat} (hq : w.heap.size ≤ q) (u : Value) : w.grownBy (X.setCell ⟨q, o, none⟩ u) r :=
  ⟨h.os, h.tape, h.output, by simpa using h.size, fun i hi hne => (heap_setCell_other _ ⟨q, o, none⟩ _ _ (by show i ≠ q; omega)).trans (h.block i hi hne)⟩
/-- Another variable of this call is written. -/
theorem Ri.far {w X : World} {g : Nat} {v : Value} {xs : List Int} {c0 c : Cu} (h0 : Ri w g v xs c0) (h : Ri X g v xs c) (hg : w.grownBy X (some g)) {q o : Nat} (hq : w.heap.size ≤ q) (u : Value) : Ri (X.setCell ⟨q, o, none⟩ u) g v xs c ∧ w.grownBy (X.setCell ⟨q, o, none⟩ u) (some g) := by
  have hl := h0.lt
  have G := grown_farR hg (o := o) hq u
  exact ⟨h0.of G ((heap_setCell_other _ ⟨q, o, none⟩ _ _ (by show g ≠ q; omega)).trans h.blk) h.win, G⟩
theorem al_below (w : World) (o : Obj) : Below w.heap.size w (w.alloc o) := (Below.refl _ _).alloc (Nat.le_refl _) o
theorem al_kept {w X : World} {o : Obj} {g : Nat} (hg : g < w.heap.size) (h : (w.alloc o).grownBy X (some g)) : X.heap[w.heap.size]? = some o :=
  (h.block _ (by simp) (by simp; omega)).trans (heap_alloc_new w o)
theorem kept_on {w X Y : World} {o : Obj} {g : Nat} (hg : g < w.heap.size) (k : X.heap[w.heap.size]? = some o) (h : X.grownBy Y (some g)) : Y.heap[w.heap.size]? = some o :=
  (h.block _ (Array.getElem?_eq_some_iff.1 k).1 (by simp; omega)).trans k
set_option maxHeartbeats 4000000 in
set_option maxRecDepth 100000 in
theorem rfloor_any (g : Nat) (v : Value) (xs : List Int) (c : Cu) (w : World) (hlen : xs.length ≤ 140737488351232) (hbd : ∀ z ∈ xs, 0 ≤ z ∧ z ≤ 255) (h : Ri w g v xs c) :
    Calls Tryz.prog 147 #[.pointer (some ⟨g, 0, none⟩)] w fun e w' => e = .returned (.agg #[.int .i64 (riF xs c).1.1, .int .i64 (riF xs c).1.2]) ∧ Ri w' g v xs (riF xs c).2 ∧ w.grownBy w' (some g) := by
  have H0 := hide h
  have HD := hide hbd
  have hgl := h.lt
  clear h hbd
  go_enter Tryz.func147, Tryz.ntmps147
  have R0 := hide ((unhide H0).later (al_below w (.cells #[.int .i64 0, .int .i64 0] 100)))
  go_wp2_with fail
  refine (rnum_any g v xs c _ hlen (unhide HD) (unhide R0)).mono ?_
  rintro e w1 ⟨rfl, r1, g1⟩
  have K0 := hide (al_kept hgl g1)
  have G0 := hide (grown_lowR (al_below w _) g1)
  clear R0
  have R0 := hide r1
  clear r1 g1
  go_wp2_with fail
  refine (rnum_any g v xs (riN xs c).2 _ hlen (unhide HD) (unhide R0)).mono ?_
  rintro e w1 ⟨rfl, r1, g1⟩
  have K1 := hide (kept_on hgl (unhide K0) g1)
  have G1 := hide (grown_all (unhide G0) g1)
  clear R0 K0 G0
  have R0 := hide r1
  have K0 := K1
  have G0 := G1
  clear r1 g1 K1 G1
  obtain ⟨r0, r1, rf⟩ := blk_cells2 (unhide K0)
  have hr : w.heap.size < w1.heap.size := (Array.getElem?_eq_some_iff.1 (unhide K0)).1
  have F0 := hide ((unhide H0).far (unhide R0) (unhide G0) (q := w.heap.size) (o := 0) (Nat.le_refl _) (.int .i64 (riF xs c).1.1))
  have F1 := hide ((unhide H0).far (unhide F0).1 (unhide F0).2 (q := w.heap.size) (o := 1) (Nat.le_refl _) (.int .i64 (riF xs c).1.2))
  clear R0 K0 G0
  go_wp2
  exact bodyPost_ret (v := .agg #[.int .i64 (riF xs c).1.1, .int .i64 (riF xs c).1.2]) (by simp [results, Tryz.results147, go_sem, r0, r1]; repeat' (first | rfl | apply And.intro)) rfl ⟨rfl, (unhide F1).1, (unhide F1).2⟩
set_option maxHeartbeats 4000000 in
set_option maxRecDepth 100000 in
theorem rmark_any (g : Nat) (v : Value) (xs : List Int) (c : Cu) (w : World) (hlen : xs.length ≤ 140737488351232) (hbd : ∀ z ∈ xs, 0 ≤ z ∧ z ≤ 255) (h : Ri w g v xs c) :
    Calls Tryz.prog 84 #[.pointer (some ⟨g, 0, none⟩)] w fun e w' => e = .returned (.agg #[.int .i64 (riF xs c).1.1, .int .i64 (riF xs c).1.2]) ∧ Ri w' g v xs (riF xs c).2 ∧ w.grownBy w' (some g) := by
  have H0 := hide h
  have HD := hide hbd
  have hgl := h.lt
  clear h hbd
  go_enter Tryz.func84, Tryz.ntmps84
  have R0 := hide ((unhide H0).later (al_below w (.cells #[.int .i64 0, .int .i64 0] 80)))
  go_wp2_with fail
  refine (rnum_any g v xs c _ hlen (unhide HD) (unhide R0)).mono ?_
  rintro e w1 ⟨rfl, r1, g1⟩
  have K0 := hide (al_kept hgl g1)
  have G0 := hide (grown_lowR (al_below w _) g1)
  clear R0
  have R0 := hide r1
  clear r1 g1
  go_wp2_with fail
  refine (rnum_any g v xs (riN xs c).2 _ hlen (unhide HD) (unhide R0)).mono ?_
  rintro e w1 ⟨rfl, r1, g1⟩
  have K1 := hide (kept_on hgl (unhide K0) g1)
  have G1 := hide (grown_all (unhide G0) g1)
  clear R0 K0 G0
  have R0 := hide r1
  have K0 := K1
  have G0 := G1
  clear r1 g1 K1 G1
  obtain ⟨r0, r1, rf⟩ := blk_cells2 (unhide K0)
  have hr : w.heap.size < w1.heap.size := (Array.getElem?_eq_some_iff.1 (unhide K0)).1
  have F0 := hide ((unhide H0).far (unhide R0) (unhide G0) (q := w.heap.size) (o := 0) (Nat.le_refl _) (.int .i64 (riF xs c).1.1))
  have F1 := hide ((unhide H0).far (unhide F0).1 (unhide F0).2 (q := w.heap.size) (o := 1) (Nat.le_refl _) (.int .i64 (riF xs c).1.2))
  clear R0 K0 G0
  go_wp2
  exact bodyPost_ret (v := .agg #[.int .i64 (riF xs c).1.1, .int .i64 (riF xs c).1.2]) (by simp [results, Tryz.results84, go_sem, r0, r1]; repeat' (first | rfl | apply And.intro)) rfl ⟨rfl, (unhide F1).1, (unhide F1).2⟩
set_option maxHeartbeats 4000000 in
set_option maxRecDepth 100000 in
theorem rentry_any (g : Nat) (v : Value) (xs : List Int) (c : Cu) (w : World) (hlen : xs.length ≤ 140737488351232) (hbd : ∀ z ∈ xs, 0 ≤ z ∧ z ≤ 255) (h : Ri w g v xs c) :
    Calls Tryz.prog 152 #[.pointer (some ⟨g, 0, none⟩)] w fun e w' => e = .returned (.agg #[.int .i64 (riE xs c).1.1, .int .i64 (riE xs c).1.2.1, .int .i64 (riE xs c).1.2.2.1, .int .i64 (riE xs c).1.2.2.2.1, .string (riE xs c).1.2.2.2.2]) ∧ Ri w' g v xs (riE xs c).2 ∧ w.grownBy w' (some g) := by
  have H0 := hide h
  have HD := hide hbd
  have hgl := h.lt
  clear h hbd
  go_enter Tryz.func152, Tryz.ntmps152
  have R0 := hide ((unhide H0).later (al_below w (.cells #[.int .i64 0, .int .i64 0, .int .i64 0, .int .i64 0, .string ⟨#[]⟩] 97)))
  go_wp2_with fail
  refine (rnum_any g v xs c _ hlen (unhide HD) (unhide R0)).mono ?_
  rintro e w1 ⟨rfl, r1, g1⟩
  have K0 := hide (al_kept hgl g1)
  have G0 := hide (grown_lowR (al_below w _) g1)
  clear R0
  have R0 := hide r1
  clear r1 g1
  go_wp2_with fail
  refine (rnum_any g v xs (riN xs c).2 _ hlen (unhide HD) (unhide R0)).mono ?_
  rintro e w1 ⟨rfl, r1, g1⟩
  have K1 := hide (kept_on hgl (unhide K0) g1)
  have G1 := hide (grown_all (unhide G0) g1)
  clear R0 K0 G0
  have R0 := hide r1
  have K0 := K1
  have G0 := G1
  clear r1 g1 K1 G1
  go_wp2_with fail
  refine (rnum_any g v xs (riN xs (riN xs c).2).2 _ hlen (unhide HD) (unhide R0)).mono ?_
  rintro e w1 ⟨rfl, r1, g1⟩
  have K1 := hide (kept_on hgl (unhide K0) g1)
  have G1 := hide (grown_all (unhide G0) g1)
  clear R0 K0 G0
  have R0 := hide r1
  have K0 := K1
  have G0 := G1
  clear r1 g1 K1 G1
  go_wp2_with fail
  refine (rnum_any g v xs (riN xs (riN xs (riN xs c).2).2).2 _ hlen (unhide HD) (unhide R0)).mono ?_
  rintro e w1 ⟨rfl, r1, g1⟩
  have K1 := hide (kept_on hgl (unhide K0) g1)
  have G1 := hide (grown_all (unhide G0) g1)
  clear R0 K0 G0
  have R0 := hide r1
  have K0 := K1
  have G0 := G1
  clear r1 g1 K1 G1
  go_wp2_with fail
  refine (rtext_any g v xs (riN xs (riN xs (riN xs (riN xs c).2).2).2).2 _ hlen (unhide HD) (unhide R0)).mono ?_
  rintro e w1 ⟨rfl, r1, g1⟩
  have K1 := hide (kept_on hgl (unhide K0) g1)
  have G1 := hide (grown_all (unhide G0) g1)
  clear R0 K0 G0
  have R0 := hide r1
  have K0 := K1
  have G0 := G1
  clear r1 g1 K1 G1
  obtain ⟨r0, r1, r2, r3, r4, rf⟩ := blk_cells5 (unhide K0)
  have hr : w.heap.size < w1.heap.size := (Array.getElem?_eq_some_iff.1 (unhide K0)).1
  have F0 := hide ((unhide H0).far (unhide R0) (unhide G0) (q := w.heap.size) (o := 0) (Nat.le_refl _) (.int .i64 (riE xs c).1.1))
  have F1 := hide ((unhide H0).far (unhide F0).1 (unhide F0).2 (q := w.heap.size) (o := 1) (Nat.le_refl _) (.int .i64 (riE xs c).1.2.1))
  have F2 := hide ((unhide H0).far (unhide F1).1 (unhide F1).2 (q := w.heap.size) (o := 2) (Nat.le_refl _) (.int .i64 (riE xs c).1.2.2.1))
  have F3 := hide ((unhide H0).far (unhide F2).1 (unhide F2).2 (q := w.heap.size) (o := 3) (Nat.le_refl _) (.int .i64 (riE xs c).1.2.2.2.1))
  have F4 := hide ((unhide H0).far (unhide F3).1 (unhide F3).2 (q := w.heap.size) (o := 4) (Nat.le_refl _) (.string (riE xs c).1.2.2.2.2))
  clear R0 K0 G0
  go_wp2
  exact bodyPost_ret (v := .agg #[.int .i64 (riE xs c).1.1, .int .i64 (riE xs c).1.2.1, .int .i64 (riE xs c).1.2.2.1, .int .i64 (riE xs c).1.2.2.2.1, .string (riE xs c).1.2.2.2.2]) (by simp [results, Tryz.results152, go_sem, r0, r1, r2, r3, r4]; repeat' (first | rfl | apply And.intro)) rfl ⟨rfl, (unhide F4).1, (unhide F4).2⟩
set_option maxHeartbeats 4000000 in
set_option maxRecDepth 100000 in
theorem ritem_any (g : Nat) (v : Value) (xs : List Int) (c : Cu) (w : World) (hlen : xs.length ≤ 140737488351232) (hbd : ∀ z ∈ xs, 0 ≤ z ∧ z ≤ 255) (h : Ri w g v xs c) :
    Calls Tryz.prog 145 #[.pointer (some ⟨g, 0, none⟩)] w fun e w' => e = .returned (.agg #[.int .i64 (riI xs c).1.1, .int .i64 (riI xs c).1.2.1, .int .i64 (riI xs c).1.2.2.1, .int .i64 (riI xs c).1.2.2.2.1, .int .i64 (riI xs c).1.2.2.2.2.1, .string (riI xs c).1.2.2.2.2.2]) ∧ Ri w' g v xs (riI xs c).2 ∧ w.grownBy w' (some g) := by
  have H0 := hide h
  have HD := hide hbd
  have hgl := h.lt
  clear h hbd
  go_enter Tryz.func145, Tryz.ntmps145
  have R0 := hide ((unhide H0).later (al_below w (.cells #[.int .i64 0, .int .i64 0, .int .i64 0, .int .i64 0, .int .i64 0, .string ⟨#[]⟩] 99)))
  go_wp2_with fail
  refine (rnum_any g v xs c _ hlen (unhide HD) (unhide R0)).mono ?_
  rintro e w1 ⟨rfl, r1, g1⟩
  have K0 := hide (al_kept hgl g1)
  have G0 := hide (grown_lowR (al_below w _) g1)
  clear R0
  have R0 := hide r1
  clear r1 g1
  go_wp2_with fail
  refine (rentry_any g v xs (riN xs c).2 _ hlen (unhide HD) (unhide R0)).mono ?_
  rintro e w1 ⟨rfl, r1, g1⟩
  have K1 := hide (kept_on hgl (unhide K0) g1)
  have G1 := hide (grown_all (unhide G0) g1)
  clear R0 K0 G0
  have R0 := hide r1
  have K0 := K1
  have G0 := G1
  clear r1 g1 K1 G1
  obtain ⟨r0, r1, r2, r3, r4, r5, rf⟩ := blk_cells6 (unhide K0)
  have hr : w.heap.size < w1.heap.size := (Array.getElem?_eq_some_iff.1 (unhide K0)).1
  have F0 := hide ((unhide H0).far (unhide R0) (unhide G0) (q := w.heap.size) (o := 0) (Nat.le_refl _) (.int .i64 (riI xs c).1.1))
  have F1 := hide ((unhide H0).far (unhide F0).1 (unhide F0).2 (q := w.heap.size) (o := 1) (Nat.le_refl _) (.int .i64 (riI xs c).1.2.1))
  have F2 := hide ((unhide H0).far (unhide F1).1 (unhide F1).2 (q := w.heap.size) (o := 2) (Nat.le_refl _) (.int .i64 (riI xs c).1.2.2.1))
  have F3 := hide ((unhide H0).far (unhide F2).1 (unhide F2).2 (q := w.heap.size) (o := 3) (Nat.le_refl _) (.int .i64 (riI xs c).1.2.2.2.1))
  have F4 := hide ((unhide H0).far (unhide F3).1 (unhide F3).2 (q := w.heap.size) (o := 4) (Nat.le_refl _) (.int .i64 (riI xs c).1.2.2.2.2.1))
  have F5 := hide ((unhide H0).far (unhide F4).1 (unhide F4).2 (q := w.heap.size) (o := 5) (Nat.le_refl _) (.string (riI xs c).1.2.2.2.2.2))
  clear R0 K0 G0
  go_wp2
  exact bodyPost_ret (v := .agg #[.int .i64 (riI xs c).1.1, .int .i64 (riI xs c).1.2.1, .int .i64 (riI xs c).1.2.2.1, .int .i64 (riI xs c).1.2.2.2.1, .int .i64 (riI xs c).1.2.2.2.2.1, .string (riI xs c).1.2.2.2.2.2]) (by simp [results, Tryz.results145, go_sem, r0, r1, r2, r3, r4, r5]; repeat' (first | rfl | apply And.intro)) rfl ⟨rfl, (unhide F5).1, (unhide F5).2⟩
end Go.Proofs.YtjlocbimkfocnaaGreat

namespace Go.Proofs.YtjlocbimkfocnaaGreat
open Go.RowKit

theorem riN_bd {xs : List Int} {c : Cu} (hbd : ∀ z ∈ xs, 0 ≤ z ∧ z ≤ 255) : 0 ≤ (riN xs c).1 ∧ (riN xs c).1 ≤ 2147483647 := by
  unfold riN
  split
  · rename_i n q h
    have := getN_bd _ _ _ _ hbd h
    exact ⟨this.1, this.2.1⟩
  · exact ⟨by simp, by simp⟩
theorem owF_far {base g : Nat} {w W : World} {E : TypeId} {k : Nat} {α : Type} {enc : α → List Value} {v : Value} {ms : List α} (h : Ow enc k E base w v ms) (hg : w.grownBy W (some g)) (hb : g < base) : Ow enc k E base W v ms :=
  (Trn.of_grown hg).own h (fun i q e => by cases e; have := (World.ownsRow.lt h _ q).1; omega)
theorem Ri.row {w X Y : World} {g : Nat} {v u : Value} {xs : List Int} {c0 c : Cu} {E : TypeId} {k : Nat} {α : Type} {enc : α → List Value} {ms : List α} (h0 : Ri w g v xs c0) (hg : w.grownBy X (some g)) (h : Ri X g v xs c) (ho : Ow enc k E w.heap.size X u ms) (hG : X.grownBy Y u.ownBlock) : Ri Y g v xs c ∧ w.grownBy Y (some g) := by
  have hY : w.grownBy Y (some g) := ⟨hG.os.trans hg.os, hG.tape.trans hg.tape, hG.output.trans hg.output, Nat.le_trans hg.size hG.size, fun i hi hne => (hG.block i (Nat.lt_of_lt_of_le hi hg.size) (fun q => by have := (World.ownsRow.lt ho i q.symm).1; omega)).trans (hg.block i hi hne)⟩
  have hl := h0.lt
  exact ⟨h0.of hY ((hG.block g h.lt (fun q => by have := (World.ownsRow.lt ho g q.symm).1; omega)).trans h.blk) h.win, hY⟩
def sliceLen : Value → Nat
  | .slice _ n _ => n
  | _ => 0
set_option maxHeartbeats 4000000 in
set_option maxRecDepth 100000 in
theorem rlistI_any (g : Nat) (v : Value) (xs : List Int) (c : Cu) (w : World) (hlen : xs.length ≤ 140737488351232) (hbd : ∀ z ∈ xs, 0 ≤ z ∧ z ≤ 255) (h : Ri w g v xs c) :
    Calls Tryz.prog 144 #[.pointer (some ⟨g, 0, none⟩), .int .i64 5, .func (.func 145) #[] #[]] w fun e w' => ∃ a n cap, e = .returned (.slice a n cap) ∧ Ow encI 6 99 w.heap.size w' (.slice a n cap) (lsR xs 5 (riI xs) c).1 ∧ Ri w' g v xs (lsR xs 5 (riI xs) c).2 ∧ w.grownBy w' (some g) := by
  obtain ⟨i0, hi, hz0, hz1, hz2⟩ := info_parts Tryz.infoItem
  have HZ2 := hide hz2
  have H0 := hide h
  have HD := hide hbd
  have hgl := h.lt
  obtain ⟨m, d, hmd⟩ : ∃ m d, riN xs c = (m, d) := ⟨_, _, rfl⟩
  have HL : Hid (lsR xs 5 (riI xs) c = if (5 : Int) < m then ([], (d.1, true)) else if (rpt (riI xs) m.toNat d).2.2 = true then ([], ((rpt (riI xs) m.toNat d).2.1, true)) else rpt (riI xs) m.toNat d) := hide (by unfold lsR; rw [hmd]; rfl)
  have HMD := hide hmd
  clear h hbd hmd hz2
  go_enter Tryz.func144, Tryz.ntmps144
  go_wp2_with fail
  refine wp_scope_jumps 0 (fun a' w' => ∃ (e : Cu) (u1 u2 u3 u4 u5 u6 u7 u8 u9 u10 u11 u12 u13 u14 u15 u16 u17 u18 u19 u20 u21 u22 u23 u24 u25 u26 u27 u28 u29 u30 u31 u32 : Value), a' = { tmps := #[.pointer (some ⟨g, 0, none⟩), u1, u2, u3, u4, u5, u6, u7, u8, u9, u10, u11, u12, u13, u14, u15, u16, u17, u18, u19, u20, u21, u22, u23, u24, u25, u26, u27, u28, u29, u30, u31, u32], defers := [] } ∧ Hid (Ri w' g v xs e ∧ w.grownBy w' (some g) ∧ lsR xs 5 (riI xs) c = ([], (e.1, true)))) (fun _ _ => 0) rfl ?_ ?_
  rotate_left
  · rintro a' w' ⟨e, u1, u2, u3, u4, u5, u6, u7, u8, u9, u10, u11, u12, u13, u14, u15, u16, u17, u18, u19, u20, u21, u22, u23, u24, u25, u26, u27, u28, u29, u30, u31, u32, rfl, HJ⟩
    go_wp2_with fail
    refine (rfit_any g v xs e false w' (unhide HJ).1).mono ?_
    rintro e2 w2 ⟨rfl, r2, g2⟩
    have HR2 := hide r2
    have G2 := hide (grown_all (unhide HJ).2.1 g2)
    clear r2 g2
    go_wp2
    simp only [Exit.jump]
    go_ret
    refine ⟨none, 0, 0, rfl, ?_, ?_, unhide G2⟩
    · rw [(unhide HJ).2.2]; exact World.ownsRow_nil _ _ _ _
    · rw [(unhide HJ).2.2]
      have h := unhide HR2
      simpa using h
  · go_wp2_with fail
    refine (rnum_any g v xs c w hlen (unhide HD) (unhide H0)).mono ?_
    rintro e w1 ⟨rfl, r1, g1⟩
    rw [unhide HMD] at r1
    rw [unhide HMD]
    simp only at r1
    have HR1 := hide r1
    have G1 := hide g1
    have hs1 := g1.size
    clear r1 g1
    by_cases hm : 5 < m
    · have hd1 : decide (5 < m) = true := by simpa using hm
      have HE : Hid (lsR xs 5 (riI xs) c = ([], (d.1, true))) := hide (by rw [unhide HL, if_pos hm])
      go_wp2_with fail
      go_step3
      exact ⟨rfl, ⟨d, _, _, _, _, _, _, _, _, _, _, _, _, _, _, _, _, _, _, _, _, _, _, _, _, _, _, _, _, _, _, _, _, rfl, hide ⟨unhide HR1, unhide G1, unhide HE⟩⟩⟩
    · have hd1 : decide (5 < m) = false := by simpa using hm
      have hm0 : 0 ≤ m := by
        have h := (riN_bd (c := c) (unhide HD)).1
        rw [unhide HMD] at h
        exact h
      obtain ⟨m, rfl⟩ := Int.eq_ofNat_of_zero_le hm0
      have HL2 : Hid (lsR xs 5 (riI xs) c = if (rpt (riI xs) m d).2.2 = true then ([], ((rpt (riI xs) m d).2.1, true)) else rpt (riI xs) m d) := hide (by rw [unhide HL, if_neg hm, Int.toNat_natCast])
      clear HL HMD
      go_wp2_with fail
      go_step3
      go_wp2_with fail
      go_loopw [7] (fun u wr => ∃ (k : Nat) (a : Option Addr) (n cap : Nat), u = .slice a n cap ∧ n = (rpt (riI xs) k d).1.length ∧ ((rpt (riI xs) k d).2.2 = false → n = k) ∧ k ≤ m ∧ Ow encI 6 99 w.heap.size wr (.slice a n cap) (rpt (riI xs) k d).1 ∧ Ri wr g v xs (rpt (riI xs) k d).2 ∧ w.grownBy wr (some g)) (fun u _ => m - sliceLen u)
      case atStart => exact ⟨0, _, _, _, rfl, rfl, fun _ => rfl, Nat.zero_le _, World.ownsRow_nil _ _ _ _, unhide HR1, unhide G1⟩
      case round =>
        obtain ⟨k, a, n, cap, rfl, hn, hnk, hkm, hown, hrd, hgr⟩ := hrel
        have HO := hide hown
        have HR := hide hrd
        have HG := hide hgr
        have hsz := hgr.size
        have hgw := hrd.lt
        have HNL := hide hn
        obtain ⟨c0, c1, c2, cf⟩ := hrd.cells
        obtain ⟨bd, hbd2⟩ : ∃ b, (rpt (riI xs) k d).2.2 = b := ⟨_, rfl⟩
        rw [hbd2] at c2 hnk
        have HBD := hide hbd2
        clear hown hrd hgr hbd2 c0 c1 hn HR1 G1
        cases bd
        · obtain rfl : n = k := hnk rfl
          by_cases hlt : n < m
          · have hd2 : ((n : Int) == (m : Int)) = false := by simp; omega
            have e1 : Hid (rpt (riI xs) (n + 1) d = ((rpt (riI xs) n d).1 ++ [(riI xs (rpt (riI xs) n d).2).1], (riI xs (rpt (riI xs) n d).2).2)) := hide (rpt_next (unhide HBD))
            go_wp2_with fail
            refine (ritem_any g v xs _ wr hlen (unhide HD) (unhide HR)).mono ?_
            rintro e w2 ⟨rfl, r2, g2⟩
            have O2 := hide (owF_far (unhide HO) g2 hgl)
            have HR2 := hide r2
            have G2 := hide (grown_all (unhide HG) g2)
            have hs2 : w.heap.size ≤ w2.heap.size := (unhide G2).size
            clear r2 g2 HO HR HG c2 cf
            go_wp2_with (first | (at_builtin; refine wpList_app1 encI_len (by omega) oneI 99 27 i0 _ 56 Tryz.underlying27 hi hz0 hz1 (unhide HZ2) rfl (by omega) w2 (riI xs (rpt (riI xs) n d).2).1 rfl _ _ rfl w.heap.size _ _ n HNL rfl (unhide O2) rfl (by omega) hs2 ?_; intro a8 c8 w4 hO hG; have HO4 := hide hO; have R4 := hide ((unhide H0).row (unhide G2) (unhide HR2) (unhide O2) hG); clear hO hG))
            go_roundw
            case rel => exact ⟨n + 1, a8, n + 1, c8, rfl, by rw [unhide e1, List.length_append, ← unhide HNL]; rfl, fun _ => rfl, by omega, by rw [unhide e1]; exact unhide HO4, by rw [unhide e1]; exact (unhide R4).1, (unhide R4).2⟩
            case measure => simp [sliceLen]; omega
          · obtain rfl : n = m := by omega
            have hd2 : ((n : Int) == (n : Int)) = true := by simp
            have HE : Hid (lsR xs 5 (riI xs) c = rpt (riI xs) n d) := hide (by rw [unhide HL2, if_neg (by rw [unhide HBD]; simp)])
            go_wp2
            simp only [Exit.jump]
            go_ret
            exact ⟨a, n, cap, rfl, by rw [unhide HE]; exact unhide HO, by rw [unhide HE]; exact unhide HR, unhide HG⟩
        · have HE : Hid (lsR xs 5 (riI xs) c = ([], ((rpt (riI xs) k d).2.1, true))) := hide (by rw [unhide HL2, rpt_stop (unhide HBD) m hkm, if_pos (unhide HBD)])
          go_wp2_with fail
          go_step3
          exact ⟨rfl, ⟨(rpt (riI xs) k d).2, _, _, _, _, _, _, _, _, _, _, _, _, _, _, _, _, _, _, _, _, _, _, _, _, _, _, _, _, _, _, _, _, rfl, hide ⟨unhide HR, unhide HG, unhide HE⟩⟩⟩
set_option maxHeartbeats 4000000 in
set_option maxRecDepth 100000 in
theorem rlistF_any (g : Nat) (v : Value) (xs : List Int) (c : Cu) (w : World) (hlen : xs.length ≤ 140737488351232) (hbd : ∀ z ∈ xs, 0 ≤ z ∧ z ≤ 255) (h : Ri w g v xs c) :
    Calls Tryz.prog 146 #[.pointer (some ⟨g, 0, none⟩), .int .i64 5, .func (.func 147) #[] #[]] w fun e w' => ∃ a n cap, e = .returned (.slice a n cap) ∧ Ow encF 2 100 w.heap.size w' (.slice a n cap) (lsR xs 5 (riF xs) c).1 ∧ Ri w' g v xs (lsR xs 5 (riF xs) c).2 ∧ w.grownBy w' (some g) := by
  obtain ⟨i0, hi, hz0, hz1, hz2⟩ := info_parts Tryz.infoFloor
  have HZ2 := hide hz2
  have H0 := hide h
  have HD := hide hbd
  have hgl := h.lt
  obtain ⟨m, d, hmd⟩ : ∃ m d, riN xs c = (m, d) := ⟨_, _, rfl⟩
  have HL : Hid (lsR xs 5 (riF xs) c = if (5 : Int) < m then ([], (d.1, true)) else if (rpt (riF xs) m.toNat d).2.2 = true then ([], ((rpt (riF xs) m.toNat d).2.1, true)) else rpt (riF xs) m.toNat d) := hide (by unfold lsR; rw [hmd]; rfl)
  have HMD := hide hmd
  clear h hbd hmd hz2
  go_enter Tryz.func146, Tryz.ntmps146
  go_wp2_with fail
  refine wp_scope_jumps 0 (fun a' w' => ∃ (e : Cu) (u1 u2 u3 u4 u5 u6 u7 u8 u9 u10 u11 u12 u13 u14 u15 u16 u17 u18 u19 u20 u21 u22 u23 u24 u25 u26 u27 u28 u29 u30 u31 u32 : Value), a' = { tmps := #[.pointer (some ⟨g, 0, none⟩), u1, u2, u3, u4, u5, u6, u7, u8, u9, u10, u11, u12, u13, u14, u15, u16, u17, u18, u19, u20, u21, u22, u23, u24, u25, u26, u27, u28, u29, u30, u31, u32], defers := [] } ∧ Hid (Ri w' g v xs e ∧ w.grownBy w' (some g) ∧ lsR xs 5 (riF xs) c = ([], (e.1, true)))) (fun _ _ => 0) rfl ?_ ?_
  rotate_left
  · rintro a' w' ⟨e, u1, u2, u3, u4, u5, u6, u7, u8, u9, u10, u11, u12, u13, u14, u15, u16, u17, u18, u19, u20, u21, u22, u23, u24, u25, u26, u27, u28, u29, u30, u31, u32, rfl, HJ⟩
    go_wp2_with fail
    refine (rfit_any g v xs e false w' (unhide HJ).1).mono ?_
    rintro e2 w2 ⟨rfl, r2, g2⟩
    have HR2 := hide r2
    have G2 := hide (grown_all (unhide HJ).2.1 g2)
    clear r2 g2
    go_wp2
    simp only [Exit.jump]
    go_ret
    refine ⟨none, 0, 0, rfl, ?_, ?_, unhide G2⟩
    · rw [(unhide HJ).2.2]; exact World.ownsRow_nil _ _ _ _
    · rw [(unhide HJ).2.2]
      have h := unhide HR2
      simpa using h
  · go_wp2_with fail
    refine (rnum_any g v xs c w hlen (unhide HD) (unhide H0)).mono ?_
    rintro e w1 ⟨rfl, r1, g1⟩
    rw [unhide HMD] at r1
    rw [unhide HMD]
    simp only at r1
    have HR1 := hide r1
    have G1 := hide g1
    have hs1 := g1.size
    clear r1 g1
    by_cases hm : 5 < m
    · have hd1 : decide (5 < m) = true := by simpa using hm
      have HE : Hid (lsR xs 5 (riF xs) c = ([], (d.1, true))) := hide (by rw [unhide HL, if_pos hm])
      go_wp2_with fail
      go_step3
      exact ⟨rfl, ⟨d, _, _, _, _, _, _, _, _, _, _, _, _, _, _, _, _, _, _, _, _, _, _, _, _, _, _, _, _, _, _, _, _, rfl, hide ⟨unhide HR1, unhide G1, unhide HE⟩⟩⟩
    · have hd1 : decide (5 < m) = false := by simpa using hm
      have hm0 : 0 ≤ m := by
        have h := (riN_bd (c := c) (unhide HD)).1
        rw [unhide HMD] at h
        exact h
      obtain ⟨m, rfl⟩ := Int.eq_ofNat_of_zero_le hm0
      have HL2 : Hid (lsR xs 5 (riF xs) c = if (rpt (riF xs) m d).2.2 = true then ([], ((rpt (riF xs) m d).2.1, true)) else rpt (riF xs) m d) := hide (by rw [unhide HL, if_neg hm, Int.toNat_natCast])
      clear HL HMD
      go_wp2_with fail
      go_step3
      go_wp2_with fail
      go_loopw [7] (fun u wr => ∃ (k : Nat) (a : Option Addr) (n cap : Nat), u = .slice a n cap ∧ n = (rpt (riF xs) k d).1.length ∧ ((rpt (riF xs) k d).2.2 = false → n = k) ∧ k ≤ m ∧ Ow encF 2 100 w.heap.size wr (.slice a n cap) (rpt (riF xs) k d).1 ∧ Ri wr g v xs (rpt (riF xs) k d).2 ∧ w.grownBy wr (some g)) (fun u _ => m - sliceLen u)
      case atStart => exact ⟨0, _, _, _, rfl, rfl, fun _ => rfl, Nat.zero_le _, World.ownsRow_nil _ _ _ _, unhide HR1, unhide G1⟩
      case round =>
        obtain ⟨k, a, n, cap, rfl, hn, hnk, hkm, hown, hrd, hgr⟩ := hrel
        have HO := hide hown
        have HR := hide hrd
        have HG := hide hgr
        have hsz := hgr.size
        have hgw := hrd.lt
        have HNL := hide hn
        obtain ⟨c0, c1, c2, cf⟩ := hrd.cells
        obtain ⟨bd, hbd2⟩ : ∃ b, (rpt (riF xs) k d).2.2 = b := ⟨_, rfl⟩
        rw [hbd2] at c2 hnk
        have HBD := hide hbd2
        clear hown hrd hgr hbd2 c0 c1 hn HR1 G1
        cases bd
        · obtain rfl : n = k := hnk rfl
          by_cases hlt : n < m
          · have hd2 : ((n : Int) == (m : Int)) = false := by simp; omega
            have e1 : Hid (rpt (riF xs) (n + 1) d = ((rpt (riF xs) n d).1 ++ [(riF xs (rpt (riF xs) n d).2).1], (riF xs (rpt (riF xs) n d).2).2)) := hide (rpt_next (unhide HBD))
            go_wp2_with fail
            refine (rfloor_any g v xs _ wr hlen (unhide HD) (unhide HR)).mono ?_
            rintro e w2 ⟨rfl, r2, g2⟩
            have O2 := hide (owF_far (unhide HO) g2 hgl)
            have HR2 := hide r2
            have G2 := hide (grown_all (unhide HG) g2)
            have hs2 : w.heap.size ≤ w2.heap.size := (unhide G2).size
            clear r2 g2 HO HR HG c2 cf
            go_wp2_with (first | (at_builtin; refine wpList_app1 encF_len (by omega) oneF 100 28 i0 _ 16 Tryz.underlying28 hi hz0 hz1 (unhide HZ2) rfl (by omega) w2 (riF xs (rpt (riF xs) n d).2).1 rfl _ _ rfl w.heap.size _ _ n HNL rfl (unhide O2) rfl (by omega) hs2 ?_; intro a8 c8 w4 hO hG; have HO4 := hide hO; have R4 := hide ((unhide H0).row (unhide G2) (unhide HR2) (unhide O2) hG); clear hO hG))
            go_roundw
            case rel => exact ⟨n + 1, a8, n + 1, c8, rfl, by rw [unhide e1, List.length_append, ← unhide HNL]; rfl, fun _ => rfl, by omega, by rw [unhide e1]; exact unhide HO4, by rw [unhide e1]; exact (unhide R4).1, (unhide R4).2⟩
            case measure => simp [sliceLen]; omega
          · obtain rfl : n = m := by omega
            have hd2 : ((n : Int) == (n : Int)) = true := by simp
            have HE : Hid (lsR xs 5 (riF xs) c = rpt (riF xs) n d) := hide (by rw [unhide HL2, if_neg (by rw [unhide HBD]; simp)])
            go_wp2
            simp only [Exit.jump]
            go_ret
            exact ⟨a, n, cap, rfl, by rw [unhide HE]; exact unhide HO, by rw [unhide HE]; exact unhide HR, unhide HG⟩
        · have HE : Hid (lsR xs 5 (riF xs) c = ([], ((rpt (riF xs) k d).2.1, true))) := hide (by rw [unhide HL2, rpt_stop (unhide HBD) m hkm, if_pos (unhide HBD)])
          go_wp2_with fail
          go_step3
          exact ⟨rfl, ⟨(rpt (riF xs) k d).2, _, _, _, _, _, _, _, _, _, _, _, _, _, _, _, _, _, _, _, _, _, _, _, _, _, _, _, _, _, _, _, _, rfl, hide ⟨unhide HR, unhide HG, unhide HE⟩⟩⟩
set_option maxHeartbeats 4000000 in
set_option maxRecDepth 100000 in
theorem rlistM_any (g : Nat) (v : Value) (xs : List Int) (c : Cu) (w : World) (hlen : xs.length ≤ 140737488351232) (hbd : ∀ z ∈ xs, 0 ≤ z ∧ z ≤ 255) (h : Ri w g v xs c) :
    Calls Tryz.prog 83 #[.pointer (some ⟨g, 0, none⟩), .int .i64 5, .func (.func 84) #[] #[]] w fun e w' => ∃ a n cap, e = .returned (.slice a n cap) ∧ Ow encF 2 80 w.heap.size w' (.slice a n cap) (lsR xs 5 (riF xs) c).1 ∧ Ri w' g v xs (lsR xs 5 (riF xs) c).2 ∧ w.grownBy w' (some g) := by
  obtain ⟨i0, hi, hz0, hz1, hz2⟩ := info_parts Tryz.infoMark
  have HZ2 := hide hz2
  have H0 := hide h
  have HD := hide hbd
  have hgl := h.lt
  obtain ⟨m, d, hmd⟩ : ∃ m d, riN xs c = (m, d) := ⟨_, _, rfl⟩
  have HL : Hid (lsR xs 5 (riF xs) c = if (5 : Int) < m then ([], (d.1, true)) else if (rpt (riF xs) m.toNat d).2.2 = true then ([], ((rpt (riF xs) m.toNat d).2.1, true)) else rpt (riF xs) m.toNat d) := hide (by unfold lsR; rw [hmd]; rfl)
  have HMD := hide hmd
  clear h hbd hmd hz2
  go_enter Tryz.func83, Tryz.ntmps83
  go_wp2_with fail
  refine wp_scope_jumps 0 (fun a' w' => ∃ (e : Cu) (u1 u2 u3 u4 u5 u6 u7 u8 u9 u10 u11 u12 u13 u14 u15 u16 u17 u18 u19 u20 u21 u22 u23 u24 u25 u26 u27 u28 u29 u30 u31 u32 : Value), a' = { tmps := #[.pointer (some ⟨g, 0, none⟩), u1, u2, u3, u4, u5, u6, u7, u8, u9, u10, u11, u12, u13, u14, u15, u16, u17, u18, u19, u20, u21, u22, u23, u24, u25, u26, u27, u28, u29, u30, u31, u32], defers := [] } ∧ Hid (Ri w' g v xs e ∧ w.grownBy w' (some g) ∧ lsR xs 5 (riF xs) c = ([], (e.1, true)))) (fun _ _ => 0) rfl ?_ ?_
  rotate_left
  · rintro a' w' ⟨e, u1, u2, u3, u4, u5, u6, u7, u8, u9, u10, u11, u12, u13, u14, u15, u16, u17, u18, u19, u20, u21, u22, u23, u24, u25, u26, u27, u28, u29, u30, u31, u32, rfl, HJ⟩
    go_wp2_with fail
    refine (rfit_any g v xs e false w' (unhide HJ).1).mono ?_
    rintro e2 w2 ⟨rfl, r2, g2⟩
    have HR2 := hide r2
    have G2 := hide (grown_all (unhide HJ).2.1 g2)
    clear r2 g2
    go_wp2
    simp only [Exit.jump]
    go_ret
    refine ⟨none, 0, 0, rfl, ?_, ?_, unhide G2⟩
    · rw [(unhide HJ).2.2]; exact World.ownsRow_nil _ _ _ _
    · rw [(unhide HJ).2.2]
      have h := unhide HR2
      simpa using h
  · go_wp2_with fail
    refine (rnum_any g v xs c w hlen (unhide HD) (unhide H0)).mono ?_
    rintro e w1 ⟨rfl, r1, g1⟩
    rw [unhide HMD] at r1
    rw [unhide HMD]
    simp only at r1
    have HR1 := hide r1
    have G1 := hide g1
    have hs1 := g1.size
    clear r1 g1
    by_cases hm : 5 < m
    · have hd1 : decide (5 < m) = true := by simpa using hm
      have HE : Hid (lsR xs 5 (riF xs) c = ([], (d.1, true))) := hide (by rw [unhide HL, if_pos hm])
      go_wp2_with fail
      go_step3
      exact ⟨rfl, ⟨d, _, _, _, _, _, _, _, _, _, _, _, _, _, _, _, _, _, _, _, _, _, _, _, _, _, _, _, _, _, _, _, _, rfl, hide ⟨unhide HR1, unhide G1, unhide HE⟩⟩⟩
    · have hd1 : decide (5 < m) = false := by simpa using hm
      have hm0 : 0 ≤ m := by
        have h := (riN_bd (c := c) (unhide HD)).1
        rw [unhide HMD] at h
        exact h
      obtain ⟨m, rfl⟩ := Int.eq_ofNat_of_zero_le hm0
      have HL2 : Hid (lsR xs 5 (riF xs) c = if (rpt (riF xs) m d).2.2 = true then ([], ((rpt (riF xs) m d).2.1, true)) else rpt (riF xs) m d) := hide (by rw [unhide HL, if_neg hm, Int.toNat_natCast])
      clear HL HMD
      go_wp2_with fail
      go_step3
      go_wp2_with fail
      go_loopw [7] (fun u wr => ∃ (k : Nat) (a : Option Addr) (n cap : Nat), u = .slice a n cap ∧ n = (rpt (riF xs) k d).1.length ∧ ((rpt (riF xs) k d).2.2 = false → n = k) ∧ k ≤ m ∧ Ow encF 2 80 w.heap.size wr (.slice a n cap) (rpt (riF xs) k d).1 ∧ Ri wr g v xs (rpt (riF xs) k d).2 ∧ w.grownBy wr (some g)) (fun u _ => m - sliceLen u)
      case atStart => exact ⟨0, _, _, _, rfl, rfl, fun _ => rfl, Nat.zero_le _, World.ownsRow_nil _ _ _ _, unhide HR1, unhide G1⟩
      case round =>
        obtain ⟨k, a, n, cap, rfl, hn, hnk, hkm, hown, hrd, hgr⟩ := hrel
        have HO := hide hown
        have HR := hide hrd
        have HG := hide hgr
        have hsz := hgr.size
        have hgw := hrd.lt
        have HNL := hide hn
        obtain ⟨c0, c1, c2, cf⟩ := hrd.cells
        obtain ⟨bd, hbd2⟩ : ∃ b, (rpt (riF xs) k d).2.2 = b := ⟨_, rfl⟩
        rw [hbd2] at c2 hnk
        have HBD := hide hbd2
        clear hown hrd hgr hbd2 c0 c1 hn HR1 G1
        cases bd
        · obtain rfl : n = k := hnk rfl
          by_cases hlt : n < m
          · have hd2 : ((n : Int) == (m : Int)) = false := by simp; omega
            have e1 : Hid (rpt (riF xs) (n + 1) d = ((rpt (riF xs) n d).1 ++ [(riF xs (rpt (riF xs) n d).2).1], (riF xs (rpt (riF xs) n d).2).2)) := hide (rpt_next (unhide HBD))
            go_wp2_with fail
            refine (rmark_any g v xs _ wr hlen (unhide HD) (unhide HR)).mono ?_
            rintro e w2 ⟨rfl, r2, g2⟩
            have O2 := hide (owF_far (unhide HO) g2 hgl)
            have HR2 := hide r2
            have G2 := hide (grown_all (unhide HG) g2)
            have hs2 : w.heap.size ≤ w2.heap.size := (unhide G2).size
            clear r2 g2 HO HR HG c2 cf
            go_wp2_with (first | (at_builtin; refine wpList_app1 encF_len (by omega) oneF 80 31 i0 _ 16 Tryz.underlying31 hi hz0 hz1 (unhide HZ2) rfl (by omega) w2 (riF xs (rpt (riF xs) n d).2).1 rfl _ _ rfl w.heap.size _ _ n HNL rfl (unhide O2) rfl (by omega) hs2 ?_; intro a8 c8 w4 hO hG; have HO4 := hide hO; have R4 := hide ((unhide H0).row (unhide G2) (unhide HR2) (unhide O2) hG); clear hO hG))
            go_roundw
            case rel => exact ⟨n + 1, a8, n + 1, c8, rfl, by rw [unhide e1, List.length_append, ← unhide HNL]; rfl, fun _ => rfl, by omega, by rw [unhide e1]; exact unhide HO4, by rw [unhide e1]; exact (unhide R4).1, (unhide R4).2⟩
            case measure => simp [sliceLen]; omega
          · obtain rfl : n = m := by omega
            have hd2 : ((n : Int) == (n : Int)) = true := by simp
            have HE : Hid (lsR xs 5 (riF xs) c = rpt (riF xs) n d) := hide (by rw [unhide HL2, if_neg (by rw [unhide HBD]; simp)])
            go_wp2
            simp only [Exit.jump]
            go_ret
            exact ⟨a, n, cap, rfl, by rw [unhide HE]; exact unhide HO, by rw [unhide HE]; exact unhide HR, unhide HG⟩
        · have HE : Hid (lsR xs 5 (riF xs) c = ([], ((rpt (riF xs) k d).2.1, true))) := hide (by rw [unhide HL2, rpt_stop (unhide HBD) m hkm, if_pos (unhide HBD)])
          go_wp2_with fail
          go_step3
          exact ⟨rfl, ⟨(rpt (riF xs) k d).2, _, _, _, _, _, _, _, _, _, _, _, _, _, _, _, _, _, _, _, _, _, _, _, _, _, _, _, _, _, _, _, _, rfl, hide ⟨unhide HR, unhide HG, unhide HE⟩⟩⟩
set_option maxHeartbeats 4000000 in
set_option maxRecDepth 100000 in
theorem rlist4_any (g : Nat) (v : Value) (xs : List Int) (c : Cu) (w : World) (hlen : xs.length ≤ 140737488351232) (hbd : ∀ z ∈ xs, 0 ≤ z ∧ z ≤ 255) (h : Ri w g v xs c) :
    Calls Tryz.prog 81 #[.pointer (some ⟨g, 0, none⟩), .int .i64 4, .func (.func 80) #[] #[]] w fun e w' => ∃ a n cap, e = .returned (.slice a n cap) ∧ Ow encN 1 3 w.heap.size w' (.slice a n cap) (lsR xs 4 (riN xs) c).1 ∧ Ri w' g v xs (lsR xs 4 (riN xs) c).2 ∧ w.grownBy w' (some g) := by
  obtain ⟨i0, hi, hz0, hz1, hz2⟩ := info_parts Tryz.infoInt
  have HZ2 := hide hz2
  have H0 := hide h
  have HD := hide hbd
  have hgl := h.lt
  obtain ⟨m, d, hmd⟩ : ∃ m d, riN xs c = (m, d) := ⟨_, _, rfl⟩
  have HL : Hid (lsR xs 4 (riN xs) c = if (4 : Int) < m then ([], (d.1, true)) else if (rpt (riN xs) m.toNat d).2.2 = true then ([], ((rpt (riN xs) m.toNat d).2.1, true)) else rpt (riN xs) m.toNat d) := hide (by unfold lsR; rw [hmd]; rfl)
  have HMD := hide hmd
  clear h hbd hmd hz2
  go_enter Tryz.func81, Tryz.ntmps81
  go_wp2_with fail
  refine wp_scope_jumps 0 (fun a' w' => ∃ (e : Cu) (u1 u2 u3 u4 u5 u6 u7 u8 u9 u10 u11 u12 u13 u14 u15 u16 u17 u18 u19 u20 u21 u22 u23 u24 u25 u26 u27 u28 u29 u30 u31 u32 : Value), a' = { tmps := #[.pointer (some ⟨g, 0, none⟩), u1, u2, u3, u4, u5, u6, u7, u8, u9, u10, u11, u12, u13, u14, u15, u16, u17, u18, u19, u20, u21, u22, u23, u24, u25, u26, u27, u28, u29, u30, u31, u32], defers := [] } ∧ Hid (Ri w' g v xs e ∧ w.grownBy w' (some g) ∧ lsR xs 4 (riN xs) c = ([], (e.1, true)))) (fun _ _ => 0) rfl ?_ ?_
  rotate_left
  · rintro a' w' ⟨e, u1, u2, u3, u4, u5, u6, u7, u8, u9, u10, u11, u12, u13, u14, u15, u16, u17, u18, u19, u20, u21, u22, u23, u24, u25, u26, u27, u28, u29, u30, u31, u32, rfl, HJ⟩
    go_wp2_with fail
    refine (rfit_any g v xs e false w' (unhide HJ).1).mono ?_
    rintro e2 w2 ⟨rfl, r2, g2⟩
    have HR2 := hide r2
    have G2 := hide (grown_all (unhide HJ).2.1 g2)
    clear r2 g2
    go_wp2
    simp only [Exit.jump]
    go_ret
    refine ⟨none, 0, 0, rfl, ?_, ?_, unhide G2⟩
    · rw [(unhide HJ).2.2]; exact World.ownsRow_nil _ _ _ _
    · rw [(unhide HJ).2.2]
      have h := unhide HR2
      simpa using h
  · go_wp2_with fail
    refine (rnum_any g v xs c w hlen (unhide HD) (unhide H0)).mono ?_
    rintro e w1 ⟨rfl, r1, g1⟩
    rw [unhide HMD] at r1
    rw [unhide HMD]
    simp only at r1
    have HR1 := hide r1
    have G1 := hide g1
    have hs1 := g1.size
    clear r1 g1
    by_cases hm : 4 < m
    · have hd1 : decide (4 < m) = true := by simpa using hm
      have HE : Hid (lsR xs 4 (riN xs) c = ([], (d.1, true))) := hide (by rw [unhide HL, if_pos hm])
      go_wp2_with fail
      go_step3
      exact ⟨rfl, ⟨d, _, _, _, _, _, _, _, _, _, _, _, _, _, _, _, _, _, _, _, _, _, _, _, _, _, _, _, _, _, _, _, _, rfl, hide ⟨unhide HR1, unhide G1, unhide HE⟩⟩⟩
    · have hd1 : decide (4 < m) = false := by simpa using hm
      have hm0 : 0 ≤ m := by
        have h := (riN_bd (c := c) (unhide HD)).1
        rw [unhide HMD] at h
        exact h
      obtain ⟨m, rfl⟩ := Int.eq_ofNat_of_zero_le hm0
      have HL2 : Hid (lsR xs 4 (riN xs) c = if (rpt (riN xs) m d).2.2 = true then ([], ((rpt (riN xs) m d).2.1, true)) else rpt (riN xs) m d) := hide (by rw [unhide HL, if_neg hm, Int.toNat_natCast])
      clear HL HMD
      go_wp2_with fail
      go_step3
      go_wp2_with fail
      go_loopw [7] (fun u wr => ∃ (k : Nat) (a : Option Addr) (n cap : Nat), u = .slice a n cap ∧ n = (rpt (riN xs) k d).1.length ∧ ((rpt (riN xs) k d).2.2 = false → n = k) ∧ k ≤ m ∧ Ow encN 1 3 w.heap.size wr (.slice a n cap) (rpt (riN xs) k d).1 ∧ Ri wr g v xs (rpt (riN xs) k d).2 ∧ w.grownBy wr (some g)) (fun u _ => m - sliceLen u)
      case atStart => exact ⟨0, _, _, _, rfl, rfl, fun _ => rfl, Nat.zero_le _, World.ownsRow_nil _ _ _ _, unhide HR1, unhide G1⟩
      case round =>
        obtain ⟨k, a, n, cap, rfl, hn, hnk, hkm, hown, hrd, hgr⟩ := hrel
        have HO := hide hown
        have HR := hide hrd
        have HG := hide hgr
        have hsz := hgr.size
        have hgw := hrd.lt
        have HNL := hide hn
        obtain ⟨c0, c1, c2, cf⟩ := hrd.cells
        obtain ⟨bd, hbd2⟩ : ∃ b, (rpt (riN xs) k d).2.2 = b := ⟨_, rfl⟩
        rw [hbd2] at c2 hnk
        have HBD := hide hbd2
        clear hown hrd hgr hbd2 c0 c1 hn HR1 G1
        cases bd
        · obtain rfl : n = k := hnk rfl
          by_cases hlt : n < m
          · have hd2 : ((n : Int) == (m : Int)) = false := by simp; omega
            have e1 : Hid (rpt (riN xs) (n + 1) d = ((rpt (riN xs) n d).1 ++ [(riN xs (rpt (riN xs) n d).2).1], (riN xs (rpt (riN xs) n d).2).2)) := hide (rpt_next (unhide HBD))
            go_wp2_with fail
            refine (rnum_any g v xs _ wr hlen (unhide HD) (unhide HR)).mono ?_
            rintro e w2 ⟨rfl, r2, g2⟩
            have O2 := hide (owF_far (unhide HO) g2 hgl)
            have HR2 := hide r2
            have G2 := hide (grown_all (unhide HG) g2)
            have hs2 : w.heap.size ≤ w2.heap.size := (unhide G2).size
            clear r2 g2 HO HR HG c2 cf
            go_wp2_with (first | (at_builtin; refine wpList_app1 encN_len (by omega) oneN 3 24 i0 _ 8 Tryz.underlying24 hi hz0 hz1 (unhide HZ2) rfl (by omega) w2 (riN xs (rpt (riN xs) n d).2).1 rfl _ _ rfl w.heap.size _ _ n HNL rfl (unhide O2) rfl (by omega) hs2 ?_; intro a8 c8 w4 hO hG; have HO4 := hide hO; have R4 := hide ((unhide H0).row (unhide G2) (unhide HR2) (unhide O2) hG); clear hO hG))
            go_roundw
            case rel => exact ⟨n + 1, a8, n + 1, c8, rfl, by rw [unhide e1, List.length_append, ← unhide HNL]; rfl, fun _ => rfl, by omega, by rw [unhide e1]; exact unhide HO4, by rw [unhide e1]; exact (unhide R4).1, (unhide R4).2⟩
            case measure => simp [sliceLen]; omega
          · obtain rfl : n = m := by omega
            have hd2 : ((n : Int) == (n : Int)) = true := by simp
            have HE : Hid (lsR xs 4 (riN xs) c = rpt (riN xs) n d) := hide (by rw [unhide HL2, if_neg (by rw [unhide HBD]; simp)])
            go_wp2
            simp only [Exit.jump]
            go_ret
            exact ⟨a, n, cap, rfl, by rw [unhide HE]; exact unhide HO, by rw [unhide HE]; exact unhide HR, unhide HG⟩
        · have HE : Hid (lsR xs 4 (riN xs) c = ([], ((rpt (riN xs) k d).2.1, true))) := hide (by rw [unhide HL2, rpt_stop (unhide HBD) m hkm, if_pos (unhide HBD)])
          go_wp2_with fail
          go_step3
          exact ⟨rfl, ⟨(rpt (riN xs) k d).2, _, _, _, _, _, _, _, _, _, _, _, _, _, _, _, _, _, _, _, _, _, _, _, _, _, _, _, _, _, _, _, _, rfl, hide ⟨unhide HR, unhide HG, unhide HE⟩⟩⟩
set_option maxHeartbeats 4000000 in
set_option maxRecDepth 100000 in
theorem rlist5_any (g : Nat) (v : Value) (xs : List Int) (c : Cu) (w : World) (hlen : xs.length ≤ 140737488351232) (hbd : ∀ z ∈ xs, 0 ≤ z ∧ z ≤ 255) (h : Ri w g v xs c) :
    Calls Tryz.prog 81 #[.pointer (some ⟨g, 0, none⟩), .int .i64 5, .func (.func 80) #[] #[]] w fun e w' => ∃ a n cap, e = .returned (.slice a n cap) ∧ Ow encN 1 3 w.heap.size w' (.slice a n cap) (lsR xs 5 (riN xs) c).1 ∧ Ri w' g v xs (lsR xs 5 (riN xs) c).2 ∧ w.grownBy w' (some g) := by
  obtain ⟨i0, hi, hz0, hz1, hz2⟩ := info_parts Tryz.infoInt
  have HZ2 := hide hz2
  have H0 := hide h
  have HD := hide hbd
  have hgl := h.lt
  obtain ⟨m, d, hmd⟩ : ∃ m d, riN xs c = (m, d) := ⟨_, _, rfl⟩
  have HL : Hid (lsR xs 5 (riN xs) c = if (5 : Int) < m then ([], (d.1, true)) else if (rpt (riN xs) m.toNat d).2.2 = true then ([], ((rpt (riN xs) m.toNat d).2.1, true)) else rpt (riN xs) m.toNat d) := hide (by unfold lsR; rw [hmd]; rfl)
  have HMD := hide hmd
  clear h hbd hmd hz2
  go_enter Tryz.func81, Tryz.ntmps81
  go_wp2_with fail
  refine wp_scope_jumps 0 (fun a' w' => ∃ (e : Cu) (u1 u2 u3 u4 u5 u6 u7 u8 u9 u10 u11 u12 u13 u14 u15 u16 u17 u18 u19 u20 u21 u22 u23 u24 u25 u26 u27 u28 u29 u30 u31 u32 : Value), a' = { tmps := #[.pointer (some ⟨g, 0, none⟩), u1, u2, u3, u4, u5, u6, u7, u8, u9, u10, u11, u12, u13, u14, u15, u16, u17, u18, u19, u20, u21, u22, u23, u24, u25, u26, u27, u28, u29, u30, u31, u32], defers := [] } ∧ Hid (Ri w' g v xs e ∧ w.grownBy w' (some g) ∧ lsR xs 5 (riN xs) c = ([], (e.1, true)))) (fun _ _ => 0) rfl ?_ ?_
  rotate_left
  · rintro a' w' ⟨e, u1, u2, u3, u4, u5, u6, u7, u8, u9, u10, u11, u12, u13, u14, u15, u16, u17, u18, u19, u20, u21, u22, u23, u24, u25, u26, u27, u28, u29, u30, u31, u32, rfl, HJ⟩
    go_wp2_with fail
    refine (rfit_any g v xs e false w' (unhide HJ).1).mono ?_
    rintro e2 w2 ⟨rfl, r2, g2⟩
    have HR2 := hide r2
    have G2 := hide (grown_all (unhide HJ).2.1 g2)
    clear r2 g2
    go_wp2
    simp only [Exit.jump]
    go_ret
    refine ⟨none, 0, 0, rfl, ?_, ?_, unhide G2⟩
    · rw [(unhide HJ).2.2]; exact World.ownsRow_nil _ _ _ _
    · rw [(unhide HJ).2.2]
      have h := unhide HR2
      simpa using h
  · go_wp2_with fail
    refine (rnum_any g v xs c w hlen (unhide HD) (unhide H0)).mono ?_
    rintro e w1 ⟨rfl, r1, g1⟩
    rw [unhide HMD] at r1
    rw [unhide HMD]
    simp only at r1
    have HR1 := hide r1
    have G1 := hide g1
    have hs1 := g1.size
    clear r1 g1
    by_cases hm : 5 < m
    · have hd1 : decide (5 < m) = true := by simpa using hm
      have HE : Hid (lsR xs 5 (riN xs) c = ([], (d.1, true))) := hide (by rw [unhide HL, if_pos hm])
      go_wp2_with fail
      go_step3
      exact ⟨rfl, ⟨d, _, _, _, _, _, _, _, _, _, _, _, _, _, _, _, _, _, _, _, _, _, _, _, _, _, _, _, _, _, _, _, _, rfl, hide ⟨unhide HR1, unhide G1, unhide HE⟩⟩⟩
    · have hd1 : decide (5 < m) = false := by simpa using hm
      have hm0 : 0 ≤ m := by
        have h := (riN_bd (c := c) (unhide HD)).1
        rw [unhide HMD] at h
        exact h
      obtain ⟨m, rfl⟩ := Int.eq_ofNat_of_zero_le hm0
      have HL2 : Hid (lsR xs 5 (riN xs) c = if (rpt (riN xs) m d).2.2 = true then ([], ((rpt (riN xs) m d).2.1, true)) else rpt (riN xs) m d) := hide (by rw [unhide HL, if_neg hm, Int.toNat_natCast])
      clear HL HMD
      go_wp2_with fail
      go_step3
      go_wp2_with fail
      go_loopw [7] (fun u wr => ∃ (k : Nat) (a : Option Addr) (n cap : Nat), u = .slice a n cap ∧ n = (rpt (riN xs) k d).1.length ∧ ((rpt (riN xs) k d).2.2 = false → n = k) ∧ k ≤ m ∧ Ow encN 1 3 w.heap.size wr (.slice a n cap) (rpt (riN xs) k d).1 ∧ Ri wr g v xs (rpt (riN xs) k d).2 ∧ w.grownBy wr (some g)) (fun u _ => m - sliceLen u)
      case atStart => exact ⟨0, _, _, _, rfl, rfl, fun _ => rfl, Nat.zero_le _, World.ownsRow_nil _ _ _ _, unhide HR1, unhide G1⟩
      case round =>
        obtain ⟨k, a, n, cap, rfl, hn, hnk, hkm, hown, hrd, hgr⟩ := hrel
        have HO := hide hown
        have HR := hide hrd
        have HG := hide hgr
        have hsz := hgr.size
        have hgw := hrd.lt
        have HNL := hide hn
        obtain ⟨c0, c1, c2, cf⟩ := hrd.cells
        obtain ⟨bd, hbd2⟩ : ∃ b, (rpt (riN xs) k d).2.2 = b := ⟨_, rfl⟩
        rw [hbd2] at c2 hnk
        have HBD := hide hbd2
        clear hown hrd hgr hbd2 c0 c1 hn HR1 G1
        cases bd
        · obtain rfl : n = k := hnk rfl
          by_cases hlt : n < m
          · have hd2 : ((n : Int) == (m : Int)) = false := by simp; omega
            have e1 : Hid (rpt (riN xs) (n + 1) d = ((rpt (riN xs) n d).1 ++ [(riN xs (rpt (riN xs) n d).2).1], (riN xs (rpt (riN xs) n d).2).2)) := hide (rpt_next (unhide HBD))
            go_wp2_with fail
            refine (rnum_any g v xs _ wr hlen (unhide HD) (unhide HR)).mono ?_
            rintro e w2 ⟨rfl, r2, g2⟩
            have O2 := hide (owF_far (unhide HO) g2 hgl)
            have HR2 := hide r2
            have G2 := hide (grown_all (unhide HG) g2)
            have hs2 : w.heap.size ≤ w2.heap.size := (unhide G2).size
            clear r2 g2 HO HR HG c2 cf
            go_wp2_with (first | (at_builtin; refine wpList_app1 encN_len (by omega) oneN 3 24 i0 _ 8 Tryz.underlying24 hi hz0 hz1 (unhide HZ2) rfl (by omega) w2 (riN xs (rpt (riN xs) n d).2).1 rfl _ _ rfl w.heap.size _ _ n HNL rfl (unhide O2) rfl (by omega) hs2 ?_; intro a8 c8 w4 hO hG; have HO4 := hide hO; have R4 := hide ((unhide H0).row (unhide G2) (unhide HR2) (unhide O2) hG); clear hO hG))
            go_roundw
            case rel => exact ⟨n + 1, a8, n + 1, c8, rfl, by rw [unhide e1, List.length_append, ← unhide HNL]; rfl, fun _ => rfl, by omega, by rw [unhide e1]; exact unhide HO4, by rw [unhide e1]; exact (unhide R4).1, (unhide R4).2⟩
            case measure => simp [sliceLen]; omega
          · obtain rfl : n = m := by omega
            have hd2 : ((n : Int) == (n : Int)) = true := by simp
            have HE : Hid (lsR xs 5 (riN xs) c = rpt (riN xs) n d) := hide (by rw [unhide HL2, if_neg (by rw [unhide HBD]; simp)])
            go_wp2
            simp only [Exit.jump]
            go_ret
            exact ⟨a, n, cap, rfl, by rw [unhide HE]; exact unhide HO, by rw [unhide HE]; exact unhide HR, unhide HG⟩
        · have HE : Hid (lsR xs 5 (riN xs) c = ([], ((rpt (riN xs) k d).2.1, true))) := hide (by rw [unhide HL2, rpt_stop (unhide HBD) m hkm, if_pos (unhide HBD)])
          go_wp2_with fail
          go_step3
          exact ⟨rfl, ⟨(rpt (riN xs) k d).2, _, _, _, _, _, _, _, _, _, _, _, _, _, _, _, _, _, _, _, _, _, _, _, _, _, _, _, _, _, _, _, _, rfl, hide ⟨unhide HR, unhide HG, unhide HE⟩⟩⟩
end Go.Proofs.YtjlocbimkfocnaaGreat

namespace Go.Proofs.YtjlocbimkfocnaaGreat
open Go.RowKit

abbrev SttB (v1 v2 : Value) : Obj := .cells #[v1, v2] 30 (0, 0)
set_option maxHeartbeats 4000000 in
set_option maxRecDepth 100000 in
theorem rstate_any (g : Nat) (v : Value) (xs : List Int) (c : Cu) (w : World) (hlen : xs.length ≤ 140737488351232) (hbd : ∀ z ∈ xs, 0 ≤ z ∧ z ≤ 255) (h : Ri w g v xs c) :
    Calls Tryz.prog 137 #[.pointer (some ⟨g, 0, none⟩)] w fun e w' => ∃ a1 n1 c1 a2 n2 c2, e = .returned (.agg #[.slice a1 n1 c1, .slice a2 n2 c2]) ∧ OwI w.heap.size w' (.slice a1 n1 c1) (riS xs c).1.1 ∧ OwF w.heap.size w' (.slice a2 n2 c2) (riS xs c).1.2 ∧ Ri w' g v xs (riS xs c).2 ∧ w.grownBy w' (some g) := by
  have H0 := hide h
  have HD := hide hbd
  have hgl := h.lt
  clear h hbd
  go_enter Tryz.func137, Tryz.ntmps137
  have R0 := hide ((unhide H0).later (al_below w (SttB (.slice none 0 0) (.slice none 0 0))))
  go_wp2_with fail
  refine (rlistI_any g v xs c _ hlen (unhide HD) (unhide R0)).mono ?_
  rintro e w1 ⟨a1, n1, c1, rfl, o1, r1, g1⟩
  have K1 := hide (al_kept hgl g1)
  have G1 := hide (grown_lowR (al_below w _) g1)
  have R1 := hide r1
  have O1 := hide (Ow.base (base' := w.heap.size + 1) o1 (by simp))
  have hs1 : w.heap.size + 1 ≤ w1.heap.size := (Array.getElem?_eq_some_iff.1 (unhide K1)).1
  clear o1 r1 g1 R0
  go_wp2_with fail
  refine (rlistF_any g v xs (lsR xs 5 (riI xs) c).2 w1 hlen (unhide HD) (unhide R1)).mono ?_
  rintro e w2 ⟨a2, n2, c2, rfl, o2, r2, g2⟩
  have K2 := hide (kept_on hgl (unhide K1) g2)
  have G2 := hide (grown_all (unhide G1) g2)
  have R2 := hide r2
  have O2 := hide (Ow.base (base' := w.heap.size + 1) o2 hs1)
  have O1' := hide (owF_far (unhide O1) g2 (by omega))
  clear o2 r2 g2 R1 G1 K1 O1
  obtain ⟨r0, r1, rf⟩ := blk_cells2 (unhide K2)
  have hr : w.heap.size < w2.heap.size := (Array.getElem?_eq_some_iff.1 (unhide K2)).1
  have F0 := hide ((unhide H0).far (unhide R2) (unhide G2) (q := w.heap.size) (o := 0) (Nat.le_refl _) (.slice a1 n1 c1))
  have F1 := hide ((unhide H0).far (unhide F0).1 (unhide F0).2 (q := w.heap.size) (o := 1) (Nat.le_refl _) (.slice a2 n2 c2))
  have P1 := hide (Ow.base (((unhide O1').set ⟨w.heap.size, 0, none⟩ (by show w.heap.size < _; omega) (.slice a1 n1 c1)).set ⟨w.heap.size, 1, none⟩ (by show w.heap.size < _; omega) (.slice a2 n2 c2)) (show w.heap.size ≤ w.heap.size + 1 by omega))
  have P2 := hide (Ow.base (((unhide O2).set ⟨w.heap.size, 0, none⟩ (by show w.heap.size < _; omega) (.slice a1 n1 c1)).set ⟨w.heap.size, 1, none⟩ (by show w.heap.size < _; omega) (.slice a2 n2 c2)) (show w.heap.size ≤ w.heap.size + 1 by omega))
  clear R2 K2 G2 O1' O2
  go_wp2
  exact bodyPost_ret (v := .agg #[.slice a1 n1 c1, .slice a2 n2 c2]) (by simp [results, Tryz.results137, go_sem, r0, r1]) rfl ⟨a1, n1, c1, a2, n2, c2, rfl, unhide P1, unhide P2, (unhide F1).1, (unhide F1).2⟩
set_option maxHeartbeats 4000000 in
set_option maxRecDepth 100000 in
theorem rwhole_any (g : Nat) (v : Value) (xs : List Int) (c : Cu) (b : Bool) (hb : Hid ((!c.2 && (c.1 == (xs.length : Int))) = b)) (w : World) (h : Ri w g v xs c) :
    Calls Tryz.prog 34 #[.pointer (some ⟨g, 0, none⟩)] w fun e w' => e = .returned (.bool b) ∧ Below w.heap.size w w' := by
  obtain ⟨p, k⟩ := c
  obtain ⟨c0, c1, c2, cf⟩ := h.cells
  have hgl := h.lt
  obtain ⟨a, cap, rfl, hcap, -⟩ := h.seg
  simp only at c1 c2
  have hB := unhide hb
  simp only at hB
  clear h hb
  obtain ⟨q, hq⟩ : ∃ q, (p == (xs.length : Int)) = q := ⟨_, rfl⟩
  rw [hq] at hB
  subst hB
  have l0 := later_some (w := w) hgl c0
  have l1 := later_some (w := w) hgl c1
  have l2 := later_some (w := w) hgl c2
  clear c0 c1 c2 cf
  cases k <;> cases q
  all_goals
    go_enter Tryz.func34, Tryz.ntmps34
    go_wp2_with fail
    refine wp_region_later (by kernel_rfl) (by kernel_rfl) ?_
    repeat (go_big_quiet_step (fail))
    refine wpQuiet_nil ?_
    intro w1 b1
    have HB := hide b1
    clear b1 l0 l1 l2
    go_wp2
    go_ret
    exact ⟨rfl, unhide HB⟩
set_option maxHeartbeats 4000000 in
set_option maxRecDepth 100000 in
theorem istateof_any (v : Value) (xs : List Int) (w : World) (hlen : xs.length ≤ 140737488351232) (hbd : ∀ z ∈ xs, 0 ≤ z ∧ z ≤ 255) (hv : Seg w v xs) :
    Calls Tryz.prog 117 #[v] w fun e w' => ∃ a1 n1 c1 a2 n2 c2, e = .returned (.tuple #[.agg #[.slice a1 n1 c1, .slice a2 n2 c2], .bool (sof xs).isSome]) ∧ OwI w.heap.size w' (.slice a1 n1 c1) (sofI xs) ∧ OwF w.heap.size w' (.slice a2 n2 c2) (sofF xs) ∧ Below w.heap.size w w' := by
  have HD := hide hbd
  have HS := hide hv
  have HSO := hide (sof_rd hbd)
  obtain ⟨a, cap, rfl, hcap, hr0⟩ := hv
  have HNE : Hid (xs = [] ∨ ∀ (x : Addr) n cc, Value.slice a xs.length cap = .slice (some x) n cc → x.block < w.heap.size) := hide (by
    rcases hr0 with h | ⟨bb, off, rfl, hlt, -⟩
    · exact .inl h
    · exact .inr (fun x n cc e => by simp only [Value.slice.injEq, Option.some.injEq] at e; rw [← e.1]; exact hlt))
  clear hbd hcap hr0
  obtain ⟨wA, hwA⟩ : ∃ W, W = (w.alloc (SttB (.slice none 0 0) (.slice none 0 0))).alloc (.cells #[.slice a xs.length cap, .int .i64 0, .bool false] 58) := ⟨_, rfl⟩
  have BA := hide (show Below w.heap.size w wA by rw [hwA]; exact ((Below.refl _ _).alloc (Nat.le_refl _) _).alloc (by simp) _)
  have KA := hide (show wA.heap[w.heap.size]? = some (SttB (.slice none 0 0) (.slice none 0 0)) by rw [hwA]; exact lowB2 w _ _)
  have R0 := hide (show Ri wA (w.heap.size + 1) (.slice a xs.length cap) xs (0, false) from ⟨by rw [hwA]; exact newB2 w _ _, (unhide HS).below (unhide BA) (Nat.le_refl _), (unhide HNE).imp id (fun h x n cc e => by have := h x n cc e; omega), by simp [Win]⟩)
  have zA : w.heap.size + 1 < wA.heap.size := (unhide R0).lt
  go_enter Tryz.func117, Tryz.ntmps117
  go_wp2_with fail
  rw [← hwA]
  clear hwA
  refine (rstate_any (w.heap.size + 1) (.slice a xs.length cap) xs (0, false) wA hlen (unhide HD) (unhide R0)).mono ?_
  rintro e w1 ⟨a1, n1, c1, a2, n2, c2, rfl, o1, o2, r1, g1⟩
  have bB := al_below w1 (SttB (.slice a1 n1 c1) (.slice a2 n2 c2))
  have KR := hide ((bB.block _ (Nat.lt_of_lt_of_le (by omega : w.heap.size < wA.heap.size) g1.size)).trans ((g1.block w.heap.size (by omega) (by simp)).trans (unhide KA)))
  have KS := hide (heap_alloc_new w1 (SttB (.slice a1 n1 c1) (.slice a2 n2 c2)))
  have BL := hide (((unhide BA).grown g1 (unhide BA).size (fun k hk => by simp at hk; omega)).trans (bB.mono (Nat.le_trans (unhide BA).size g1.size)))
  have R1 := hide (r1.later bB)
  have O1 := hide (o1.later bB)
  have O2 := hide (o2.later bB)
  have hs1 := g1.size
  obtain ⟨its, hits⟩ : ∃ l, (riS xs (0, false)).1.1 = l := ⟨_, rfl⟩
  obtain ⟨fls, hfls⟩ : ∃ l, (riS xs (0, false)).1.2 = l := ⟨_, rfl⟩
  rw [hits] at O1
  rw [hfls] at O2
  have HS1 := hide (show (riS xs (0, false)).1 = (its, fls) from by rw [← hits, ← hfls])
  have hl1 : n1 ≤ 5 := by rw [((unhide O1).rw encI_len).len.1, ← hits]; exact lsR_len
  have hl2 : n2 ≤ 5 := by rw [((unhide O2).rw encF_len).len.1, ← hfls]; exact lsR_len
  clear o1 o2 r1 g1 R0 KA BA bB hits hfls
  obtain ⟨b, hb⟩ : ∃ b, Hid ((!(riS xs (0, false)).2.2 && ((riS xs (0, false)).2.1 == (xs.length : Int))) = b) := ⟨_, hide rfl⟩
  go_wp2_with fail
  refine (rwhole_any (w.heap.size + 1) (.slice a xs.length cap) xs (riS xs (0, false)).2 b hb _ (unhide R1)).mono ?_
  rintro e w2 ⟨rfl, b2⟩
  have KR2 := hide ((b2.block _ (by simp; omega)).trans (unhide KR))
  have KS2 := hide ((b2.block w1.heap.size (by simp)).trans (unhide KS))
  have BL2 := hide ((unhide BL).trans (b2.mono (unhide BL).size))
  have O12 := hide ((unhide O1).later b2)
  have O22 := hide ((unhide O2).later b2)
  clear b2 KR KS BL O1 O2 R1
  obtain ⟨s0, s1, sf⟩ := blk_cells2 (unhide KS2)
  obtain ⟨r0, r1, rf⟩ := blk_cells2 (unhide KR2)
  have hz1 : w1.heap.size < w2.heap.size := (Array.getElem?_eq_some_iff.1 (unhide KS2)).1
  have hz2 : w.heap.size < w2.heap.size := by omega
  cases b
  · have hno : Hid (sof xs = none) := hide (by
      rw [unhide HSO, if_neg]
      rintro ⟨⟨h1, h2⟩, -⟩
      have h := unhide hb
      rw [h1, h2] at h
      simp at h)
    have BW := hide (((unhide BL2).setCell (p := ⟨w.heap.size, 0, none⟩) (Nat.le_refl _) (.slice none 0 0)).setCell (p := ⟨w.heap.size, 1, none⟩) (Nat.le_refl _) (.slice none 0 0))
    go_wp2_with fail
    exact bodyPost_ret (v := .tuple #[.agg #[.slice none 0 0, .slice none 0 0], .bool false]) (by simp [results, Tryz.results117, go_sem, r0, r1]) rfl ⟨_, _, _, _, _, _, by rw [unhide hno]; rfl, by rw [sofI, unhide hno]; exact World.ownsRow_nil _ _ _ _, by rw [sofF, unhide hno]; exact World.ownsRow_nil _ _ _ _, unhide BW⟩
  · have hw : Hid ((riS xs (0, false)).2.2 = false ∧ (riS xs (0, false)).2.1 = (xs.length : Int)) := hide (by
      have h := unhide hb
      simp only [Bool.and_eq_true, Bool.not_eq_true', beq_iff_eq] at h
      exact h)
    obtain ⟨ok, hok⟩ : ∃ ok, Hid (okS its fls = ok) := ⟨_, hide rfl⟩
    go_wp2_with fail
    refine (istateok_any a1 n1 c1 its a2 n2 c2 fls ok hok w2 (by omega) (by omega) ((unhide O12).rw encI_len) ((unhide O22).rw encF_len)).mono ?_
    rintro e w3 ⟨rfl, b3⟩
    have KR3 := hide ((b3.block _ hz2).trans (unhide KR2))
    have KS3 := hide ((b3.block _ hz1).trans (unhide KS2))
    have BL3 := hide ((unhide BL2).trans (b3.mono (unhide BL2).size))
    have O13 := hide ((unhide O12).later b3)
    have O23 := hide ((unhide O22).later b3)
    have hz3 : w1.heap.size < w3.heap.size := Nat.lt_of_lt_of_le hz1 b3.size
    have hz4 : w.heap.size < w3.heap.size := by omega
    clear b3 KR2 KS2 BL2 O12 O22 s0 s1 sf r0 r1 rf
    obtain ⟨s0, s1, sf⟩ := blk_cells2 (unhide KS3)
    obtain ⟨r0, r1, rf⟩ := blk_cells2 (unhide KR3)
    cases ok
    · have hno : Hid (sof xs = none) := hide (by
        rw [unhide HSO, if_neg]
        rintro ⟨-, h⟩
        rw [unhide HS1] at h
        simp only at h
        rw [unhide hok] at h
        cases h)
      have BW := hide (((unhide BL3).setCell (p := ⟨w.heap.size, 0, none⟩) (Nat.le_refl _) (.slice none 0 0)).setCell (p := ⟨w.heap.size, 1, none⟩) (Nat.le_refl _) (.slice none 0 0))
      go_wp2_with fail
      exact bodyPost_ret (v := .tuple #[.agg #[.slice none 0 0, .slice none 0 0], .bool false]) (by simp [results, Tryz.results117, go_sem, r0, r1]) rfl ⟨_, _, _, _, _, _, by rw [unhide hno]; rfl, by rw [sofI, unhide hno]; exact World.ownsRow_nil _ _ _ _, by rw [sofF, unhide hno]; exact World.ownsRow_nil _ _ _ _, unhide BW⟩
    · have hso : Hid (sof xs = some (its, fls)) := hide (by
        rw [unhide HSO, if_pos ⟨unhide hw, by rw [unhide HS1]; exact unhide hok⟩, unhide HS1])
      have BW := hide (((unhide BL3).setCell (p := ⟨w.heap.size, 0, none⟩) (Nat.le_refl _) (.slice a1 n1 c1)).setCell (p := ⟨w.heap.size, 1, none⟩) (Nat.le_refl _) (.slice a2 n2 c2))
      have P1 := hide (Ow.base (((unhide O13).set ⟨w.heap.size, 0, none⟩ (by show w.heap.size < _; omega) (.slice a1 n1 c1)).set ⟨w.heap.size, 1, none⟩ (by show w.heap.size < _; omega) (.slice a2 n2 c2)) (show w.heap.size ≤ wA.heap.size by omega))
      have P2 := hide (Ow.base (((unhide O23).set ⟨w.heap.size, 0, none⟩ (by show w.heap.size < _; omega) (.slice a1 n1 c1)).set ⟨w.heap.size, 1, none⟩ (by show w.heap.size < _; omega) (.slice a2 n2 c2)) (show w.heap.size ≤ wA.heap.size by omega))
      go_wp2_with fail
      exact bodyPost_ret (v := .tuple #[.agg #[.slice a1 n1 c1, .slice a2 n2 c2], .bool true]) (by simp [results, Tryz.results117, go_sem, r0, r1]) rfl ⟨_, _, _, _, _, _, by rw [unhide hso]; rfl, by rw [sofI, unhide hso]; exact unhide P1, by rw [sofF, unhide hso]; exact unhide P2, unhide BW⟩
end Go.Proofs.YtjlocbimkfocnaaGreat

namespace Go.Proofs.YtjlocbimkfocnaaGreat
open Go.RowKit

theorem strOf_bd (l : List Int) : (strOfNums l).size = l.length := strOfNums_size l
/-- The bytes of a text, made anew. -/
theorem convB (l : List Int) (hb : ∀ z ∈ l, 0 ≤ z ∧ z ≤ 255) (w : World) :
    ∃ c w', (convert 9 22 (.string (strOfNums l))).run Tryz.prog w = .ok (.slice (some ⟨w.heap.size, 0, none⟩) (strOfNums l).size c) w' ∧ Seg w' (.slice (some ⟨w.heap.size, 0, none⟩) (strOfNums l).size c) l ∧ Below w.heap.size w w' := by
  refine ⟨_, _, Lib.run_convert_string_bytes (P := Tryz.prog) w 9 22 5 (strOfNums l) Tryz.underlying9 Tryz.underlying22 Tryz.underlying5, ?_, ?_⟩
  · refine Seg.mk (strOf_bd l) (grownCap_ge w _ 0 _) (.inr ⟨w.heap.size, 0, rfl, by rw [Lib.bytesWorld_size]; omega, fun i hi => ?_⟩)
    rw [Nat.zero_add, Lib.bytesWorld_cell _ _ _ _ (by rw [strOf_bd]; exact hi)]
    have e := bl_str l hb
    have : (bl (strOfNums l)).getD i 0 = l.getD i 0 := by rw [e]
    rw [← this]
    unfold bl
    simp only [List.getD, List.getElem?_map]
    cases (strOfNums l).data.toList[i]? <;> rfl
  · refine ⟨rfl, rfl, rfl, by rw [Lib.bytesWorld_size]; omega, fun k hk => Lib.bytesWorld_at_old _ _ _ k hk⟩
/-! ### What the readers give, the values as letters -/
theorem rnum_at (g : Nat) (v : Value) (xs : List Int) (c : Cu) {n : Int} {d : Cu} (hq : Hid (riN xs c = (n, d))) (w : World) (hlen : xs.length ≤ 140737488351232) (hbd : ∀ z ∈ xs, 0 ≤ z ∧ z ≤ 255) (h : Ri w g v xs c) :
    Calls Tryz.prog 80 #[.pointer (some ⟨g, 0, none⟩)] w fun e w' => e = .returned (.int .i64 n) ∧ Ri w' g v xs d ∧ w.grownBy w' (some g) := by
  have q := rnum_any g v xs c w hlen hbd h
  rw [unhide hq] at q
  exact q
theorem rlist4_at (g : Nat) (v : Value) (xs : List Int) (c : Cu) {l : List Int} {d : Cu} (hq : Hid (lsR xs 4 (riN xs) c = (l, d))) (w : World) (hlen : xs.length ≤ 140737488351232) (hbd : ∀ z ∈ xs, 0 ≤ z ∧ z ≤ 255) (h : Ri w g v xs c) :
    Calls Tryz.prog 81 #[.pointer (some ⟨g, 0, none⟩), .int .i64 4, .func (.func 80) #[] #[]] w fun e w' => ∃ a n cap, e = .returned (.slice a n cap) ∧ n ≤ 4 ∧ Ow encN 1 3 w.heap.size w' (.slice a n cap) l ∧ Ri w' g v xs d ∧ w.grownBy w' (some g) := by
  have q := rlist4_any g v xs c w hlen hbd h
  refine q.mono ?_
  rintro e w1 ⟨a, n, cap, rfl, o1, r1, g1⟩
  have hl : n ≤ 4 := by
    rw [(o1.rw encN_len).len.1]
    exact lsR_len
  rw [unhide hq] at o1 r1
  exact ⟨a, n, cap, rfl, hl, o1, r1, g1⟩
theorem rlist5_at (g : Nat) (v : Value) (xs : List Int) (c : Cu) {l : List Int} {d : Cu} (hq : Hid (lsR xs 5 (riN xs) c = (l, d))) (w : World) (hlen : xs.length ≤ 140737488351232) (hbd : ∀ z ∈ xs, 0 ≤ z ∧ z ≤ 255) (h : Ri w g v xs c) :
    Calls Tryz.prog 81 #[.pointer (some ⟨g, 0, none⟩), .int .i64 5, .func (.func 80) #[] #[]] w fun e w' => ∃ a n cap, e = .returned (.slice a n cap) ∧ n ≤ 5 ∧ Ow encN 1 3 w.heap.size w' (.slice a n cap) l ∧ Ri w' g v xs d ∧ w.grownBy w' (some g) := by
  have q := rlist5_any g v xs c w hlen hbd h
  refine q.mono ?_
  rintro e w1 ⟨a, n, cap, rfl, o1, r1, g1⟩
  have hl : n ≤ 5 := by
    rw [(o1.rw encN_len).len.1]
    exact lsR_len
  rw [unhide hq] at o1 r1
  exact ⟨a, n, cap, rfl, hl, o1, r1, g1⟩
theorem rlistM_at (g : Nat) (v : Value) (xs : List Int) (c : Cu) {l : List Flr} {d : Cu} (hq : Hid (lsR xs 5 (riF xs) c = (l, d))) (w : World) (hlen : xs.length ≤ 140737488351232) (hbd : ∀ z ∈ xs, 0 ≤ z ∧ z ≤ 255) (h : Ri w g v xs c) :
    Calls Tryz.prog 83 #[.pointer (some ⟨g, 0, none⟩), .int .i64 5, .func (.func 84) #[] #[]] w fun e w' => ∃ a n cap, e = .returned (.slice a n cap) ∧ n ≤ 5 ∧ Ow encF 2 80 w.heap.size w' (.slice a n cap) l ∧ Ri w' g v xs d ∧ w.grownBy w' (some g) := by
  have q := rlistM_any g v xs c w hlen hbd h
  refine q.mono ?_
  rintro e w1 ⟨a, n, cap, rfl, o1, r1, g1⟩
  have hl : n ≤ 5 := by
    rw [(o1.rw encF_len).len.1]
    exact lsR_len
  rw [unhide hq] at o1 r1
  exact ⟨a, n, cap, rfl, hl, o1, r1, g1⟩
theorem riT_bd {xs : List Int} {c : Cu} (hbd : ∀ z ∈ xs, 0 ≤ z ∧ z ≤ 255) : (riT xs c).1.length ≤ 2147483647 ∧ ∀ z ∈ (riT xs c).1, 0 ≤ z ∧ z ≤ 255 := by
  unfold riT
  split
  · rename_i l q e
    have := getT_canon hbd e
    exact this.2
  · exact ⟨by simp, fun z hz => by simp at hz⟩
set_option maxHeartbeats 4000000 in
set_option maxRecDepth 100000 in
theorem rpart_any (g : Nat) (v : Value) (xs : List Int) (c : Cu) (w : World) (hlen : xs.length ≤ 140737488351232) (hbd : ∀ z ∈ xs, 0 ≤ z ∧ z ≤ 255) (h : Ri w g v xs c) :
    Calls Tryz.prog 82 #[.pointer (some ⟨g, 0, none⟩)] w fun e w' => ∃ a1 n1 c1 a2 n2 c2, e = .returned (.agg #[.slice a1 n1 c1, .slice a2 n2 c2]) ∧ OwI w.heap.size w' (.slice a1 n1 c1) (riPt xs c).1.1 ∧ OwF w.heap.size w' (.slice a2 n2 c2) (riPt xs c).1.2 ∧ Ri w' g v xs (riPt xs c).2 ∧ w.grownBy w' (some g) := by
  have H0 := hide h
  have HD := hide hbd
  have hgl := h.lt
  have hW := (reads_text hbd).win c h.win
  clear h hbd
  go_enter Tryz.func82, Tryz.ntmps82
  have R0 := hide ((unhide H0).later (al_below w (SttB (.slice none 0 0) (.slice none 0 0))))
  go_wp2_with fail
  refine (rtext_any g v xs c _ hlen (unhide HD) (unhide R0)).mono ?_
  rintro e w1 ⟨rfl, r1, g1⟩
  have K1 := hide (al_kept hgl g1)
  have G1 := hide (grown_lowR (al_below w _) g1)
  have R1 := hide r1
  have hs1 : w.heap.size < w1.heap.size := (Array.getElem?_eq_some_iff.1 (unhide K1)).1
  obtain ⟨hl1, hl2⟩ := riT_bd (c := c) (unhide HD)
  obtain ⟨l, d, hld⟩ : ∃ l d, riT xs c = (l, d) := ⟨_, _, rfl⟩
  rw [hld] at R1 hl1 hl2
  have HP : Hid (riPt xs c = ((sof l).getD ([], []), (d.1, d.2 || !(sof l).isSome))) := hide (by unfold riPt; rw [hld])
  rw [hld]
  have HL2 := hide hl2
  clear r1 g1 R0 hld hl2
  simp only at R1 hl1
  obtain ⟨cc, u, hcv, hsg, hbu⟩ := convB l (unhide HL2) w1
  have HSG := hide hsg
  have HBU := hide hbu
  clear hsg hbu
  go_wp2_with fail
  refine (istateof_any _ l u (by omega) (unhide HL2) (unhide HSG)).mono ?_
  rintro e w2 ⟨a1, n1, c1, a2, n2, c2, rfl, o1, o2, b2⟩
  have bX : Below w1.heap.size w1 w2 := (unhide HBU).trans (b2.mono (unhide HBU).size)
  have bB := al_below w2 (SttB (.slice a1 n1 c1) (.slice a2 n2 c2))
  have bXB : Below w1.heap.size w1 (w2.alloc (SttB (.slice a1 n1 c1) (.slice a2 n2 c2))) := bX.trans (bB.mono bX.size)
  have KR := hide ((bXB.block _ hs1).trans (unhide K1))
  have KS := hide (heap_alloc_new w2 (SttB (.slice a1 n1 c1) (.slice a2 n2 c2)))
  have GG := hide (grown_all (unhide G1) (grown_below (some g) bXB))
  have RR := hide ((unhide R1).later bXB)
  have O1 := hide (Ow.base (base' := w.heap.size + 1) (o1.later bB) (by have := (unhide HBU).size; omega))
  have O2 := hide (Ow.base (base' := w.heap.size + 1) (o2.later bB) (by have := (unhide HBU).size; omega))
  have hs2 : w.heap.size < w2.heap.size := Nat.lt_of_lt_of_le hs1 bX.size
  obtain ⟨ok, hok⟩ : ∃ ok, Hid ((sof l).isSome = ok) := ⟨_, hide rfl⟩
  rw [unhide hok]
  clear o1 o2 b2 bX bB bXB K1 G1 R1 HSG HBU hcv
  go_wp2_with fail
  refine (rfit_any g v xs d ok _ (unhide RR)).mono ?_
  rintro e w3 ⟨rfl, r3, g3⟩
  have gB := g3.size
  have hgR : g ≠ w.heap.size := by omega
  have hgS : g ≠ w2.heap.size := by omega
  have KR3 := hide ((g3.block _ (by simp; omega) (by simp; omega)).trans (unhide KR))
  have KS3 := hide ((g3.block _ (by simp) (by simp; omega)).trans (unhide KS))
  have GG3 := hide (grown_all (unhide GG) g3)
  have R3 := hide r3
  have O13 := hide (owF_far (unhide O1) g3 (by omega))
  have O23 := hide (owF_far (unhide O2) g3 (by omega))
  have hs3 : w2.heap.size < w3.heap.size := (Array.getElem?_eq_some_iff.1 (unhide KS3)).1
  clear r3 g3 gB KR KS GG RR O1 O2
  obtain ⟨s0, s1, sf⟩ := blk_cells2 (unhide KS3)
  obtain ⟨r0, r1, rf⟩ := blk_cells2 (unhide KR3)
  have hr3 : w.heap.size < w3.heap.size := by omega
  have F0 := hide ((unhide H0).far (unhide R3) (unhide GG3) (q := w.heap.size) (o := 0) (Nat.le_refl _) (.slice a1 n1 c1))
  have F1 := hide ((unhide H0).far (unhide F0).1 (unhide F0).2 (q := w.heap.size) (o := 1) (Nat.le_refl _) (.slice a2 n2 c2))
  have P1 := hide (Ow.base (((unhide O13).set ⟨w.heap.size, 0, none⟩ (by show w.heap.size < _; omega) (.slice a1 n1 c1)).set ⟨w.heap.size, 1, none⟩ (by show w.heap.size < _; omega) (.slice a2 n2 c2)) (show w.heap.size ≤ w.heap.size + 1 by omega))
  have P2 := hide (Ow.base (((unhide O23).set ⟨w.heap.size, 0, none⟩ (by show w.heap.size < _; omega) (.slice a1 n1 c1)).set ⟨w.heap.size, 1, none⟩ (by show w.heap.size < _; omega) (.slice a2 n2 c2)) (show w.heap.size ≤ w.heap.size + 1 by omega))
  clear R3 GG3 O13 O23
  go_wp2
  have HF1 := unhide F1
  rw [← unhide hok] at HF1
  exact bodyPost_ret (v := .agg #[.slice a1 n1 c1, .slice a2 n2 c2]) (by simp [results, Tryz.results82, go_sem, r0, r1]) rfl ⟨a1, n1, c1, a2, n2, c2, rfl, by rw [unhide HP]; exact unhide P1, by rw [unhide HP]; exact unhide P2, by rw [unhide HP]; exact HF1.1, HF1.2⟩
theorem riPt5 {xs : List Int} {c : Cu} : (riPt xs c).1.1.length ≤ 5 ∧ (riPt xs c).1.2.length ≤ 5 := by
  unfold riPt
  cases h : sof (riT xs c).1 with
  | none => simp
  | some p => exact (sof_is (xs := p.1) (fs := p.2) h).1.len5
set_option maxHeartbeats 8000000 in
set_option maxRecDepth 100000 in
theorem rmsg_any (g : Nat) (v : Value) (xs : List Int) (c : Cu) (w : World) (hlen : xs.length ≤ 140737488351232) (hbd : ∀ z ∈ xs, 0 ≤ z ∧ z ≤ 255) (h : Ri w g v xs c) :
    Calls Tryz.prog 33 #[.pointer (some ⟨g, 0, none⟩)] w fun e w' => ∃ m p, m = (riM xs c).1 ∧ e = .returned (.agg #[.int .i64 m.k, .int .i64 m.f, .int .i64 m.t, .int .i64 m.n, .int .i64 m.h, .slice p.ta p.tn p.tc, .int .i64 m.tr, .slice p.va p.vn p.vc, .slice p.la p.ln p.lc, .slice p.xa p.xn p.xc, .slice p.ya p.yn p.yc, .slice p.ka p.kn p.kc]) ∧ SzM p 5 ∧ OwMg w.heap.size w' m p ∧ Ri w' g v xs (riM xs c).2 ∧ w.grownBy w' (some g) := by
  have H0 := hide h
  have HD := hide hbd
  have hgl := h.lt
  have hgw : g ≠ w.heap.size := by omega
  obtain ⟨xk, d0, q0⟩ : ∃ x d, riN xs c = (x, d) := ⟨_, _, rfl⟩
  obtain ⟨xf, d1, q1⟩ : ∃ x d, riN xs d0 = (x, d) := ⟨_, _, rfl⟩
  obtain ⟨xt, d2, q2⟩ : ∃ x d, riN xs d1 = (x, d) := ⟨_, _, rfl⟩
  obtain ⟨xn, d3, q3⟩ : ∃ x d, riN xs d2 = (x, d) := ⟨_, _, rfl⟩
  obtain ⟨xh, d4, q4⟩ : ∃ x d, riN xs d3 = (x, d) := ⟨_, _, rfl⟩
  obtain ⟨xtl, d5, q5⟩ : ∃ x d, lsR xs 4 (riN xs) d4 = (x, d) := ⟨_, _, rfl⟩
  obtain ⟨xtr, d6, q6⟩ : ∃ x d, riN xs d5 = (x, d) := ⟨_, _, rfl⟩
  obtain ⟨xve, d7, q7⟩ : ∃ x d, lsR xs 5 (riN xs) d6 = (x, d) := ⟨_, _, rfl⟩
  obtain ⟨xle, d8, q8⟩ : ∃ x d, lsR xs 4 (riN xs) d7 = (x, d) := ⟨_, _, rfl⟩
  obtain ⟨xs_, d9, q9⟩ : ∃ x d, riPt xs d8 = (x, d) := ⟨_, _, rfl⟩
  obtain ⟨xma, d10, q10⟩ : ∃ x d, lsR xs 5 (riF xs) d9 = (x, d) := ⟨_, _, rfl⟩
  have HM : Hid (riM xs c = (⟨xk, xf, xt, xn, xh, xtl, xtr, xve, xle, xs_.1, xs_.2, xma⟩, d10)) := hide (by simp only [riM, q0, q1, q2, q3, q4, q5, q6, q7, q8, q9, q10])
  have Q0 := hide q0
  have Q1 := hide q1
  have Q2 := hide q2
  have Q3 := hide q3
  have Q4 := hide q4
  have Q5 := hide q5
  have Q6 := hide q6
  have Q7 := hide q7
  have Q8 := hide q8
  have Q9 := hide q9
  have Q10 := hide q10
  clear h hbd q0 q1 q2 q3 q4 q5 q6 q7 q8 q9 q10
  go_enter Tryz.func33, Tryz.ntmps33
  have R := hide ((unhide H0).later (al_below w (.cells #[.int .i64 0, .int .i64 0, .int .i64 0, .int .i64 0, .int .i64 0, .slice none 0 0, .int .i64 0, .slice none 0 0, .slice none 0 0, .slice none 0 0, .slice none 0 0, .slice none 0 0] 33)))
  have K : Hid ((w.alloc (.cells #[.int .i64 0, .int .i64 0, .int .i64 0, .int .i64 0, .int .i64 0, .slice none 0 0, .int .i64 0, .slice none 0 0, .slice none 0 0, .slice none 0 0, .slice none 0 0, .slice none 0 0] 33)).heap[w.heap.size]? = some (.cells #[.int .i64 0, .int .i64 0, .int .i64 0, .int .i64 0, .int .i64 0, .slice none 0 0, .int .i64 0, .slice none 0 0, .slice none 0 0, .slice none 0 0, .slice none 0 0, .slice none 0 0] 33)) := hide (heap_alloc_new w _)
  have G : Hid (w.grownBy (w.alloc (.cells #[.int .i64 0, .int .i64 0, .int .i64 0, .int .i64 0, .int .i64 0, .slice none 0 0, .int .i64 0, .slice none 0 0, .slice none 0 0, .slice none 0 0, .slice none 0 0, .slice none 0 0] 33)) (some g)) := hide (grown_below (some g) (al_below w _))
  have hs0 : w.heap.size < (w.alloc (.cells #[.int .i64 0, .int .i64 0, .int .i64 0, .int .i64 0, .int .i64 0, .slice none 0 0, .int .i64 0, .slice none 0 0, .slice none 0 0, .slice none 0 0, .slice none 0 0, .slice none 0 0] 33)).heap.size := by simp
  go_wp2_with fail
  refine (rnum_at g v xs c Q0 _ hlen (unhide HD) (unhide R)).mono ?_
  rintro e w1 ⟨rfl, r1, g1⟩
  have z1 := g1.size
  have K := hide ((g1.block w.heap.size hs0 (fun e => hgw (by simpa using e.symm))).trans (unhide K))
  have hs0 : w.heap.size < w1.heap.size := Nat.lt_of_lt_of_le hs0 z1
  have G := hide (grown_all (unhide G) g1)
  have R := hide r1
  clear r1 g1
  go_wp2_with fail
  refine (rnum_at g v xs d0 Q1 _ hlen (unhide HD) (unhide R)).mono ?_
  rintro e w2 ⟨rfl, r1, g1⟩
  have z2 := g1.size
  have K := hide ((g1.block w.heap.size hs0 (fun e => hgw (by simpa using e.symm))).trans (unhide K))
  have hs0 : w.heap.size < w2.heap.size := Nat.lt_of_lt_of_le hs0 z2
  have G := hide (grown_all (unhide G) g1)
  have R := hide r1
  clear r1 g1
  go_wp2_with fail
  refine (rnum_at g v xs d1 Q2 _ hlen (unhide HD) (unhide R)).mono ?_
  rintro e w3 ⟨rfl, r1, g1⟩
  have z3 := g1.size
  have K := hide ((g1.block w.heap.size hs0 (fun e => hgw (by simpa using e.symm))).trans (unhide K))
  have hs0 : w.heap.size < w3.heap.size := Nat.lt_of_lt_of_le hs0 z3
  have G := hide (grown_all (unhide G) g1)
  have R := hide r1
  clear r1 g1
  go_wp2_with fail
  refine (rnum_at g v xs d2 Q3 _ hlen (unhide HD) (unhide R)).mono ?_
  rintro e w4 ⟨rfl, r1, g1⟩
  have z4 := g1.size
  have K := hide ((g1.block w.heap.size hs0 (fun e => hgw (by simpa using e.symm))).trans (unhide K))
  have hs0 : w.heap.size < w4.heap.size := Nat.lt_of_lt_of_le hs0 z4
  have G := hide (grown_all (unhide G) g1)
  have R := hide r1
  clear r1 g1
  go_wp2_with fail
  refine (rnum_at g v xs d3 Q4 _ hlen (unhide HD) (unhide R)).mono ?_
  rintro e w5 ⟨rfl, r1, g1⟩
  have z5 := g1.size
  have K := hide ((g1.block w.heap.size hs0 (fun e => hgw (by simpa using e.symm))).trans (unhide K))
  have hs0 : w.heap.size < w5.heap.size := Nat.lt_of_lt_of_le hs0 z5
  have G := hide (grown_all (unhide G) g1)
  have R := hide r1
  clear r1 g1
  go_wp2_with fail
  refine (rlist4_at g v xs d4 Q5 _ hlen (unhide HD) (unhide R)).mono ?_
  rintro e w6 ⟨at_, nt, ct, rfl, hnt, o1, r1, g1⟩
  have z6 := g1.size
  have K := hide ((g1.block w.heap.size hs0 (fun e => hgw (by simpa using e.symm))).trans (unhide K))
  have hs0 : w.heap.size < w6.heap.size := Nat.lt_of_lt_of_le hs0 z6
  have G := hide (grown_all (unhide G) g1)
  have R := hide r1
  have Ot := hide o1
  clear o1
  have Lt := hide (World.ownsRow.lt (unhide Ot))
  clear r1 g1
  go_wp2_with fail
  refine (rnum_at g v xs d5 Q6 _ hlen (unhide HD) (unhide R)).mono ?_
  rintro e w7 ⟨rfl, r1, g1⟩
  have z7 := g1.size
  have K := hide ((g1.block w.heap.size hs0 (fun e => hgw (by simpa using e.symm))).trans (unhide K))
  have hs0 : w.heap.size < w7.heap.size := Nat.lt_of_lt_of_le hs0 z7
  have G := hide (grown_all (unhide G) g1)
  have R := hide r1
  have Ot := hide (owF_far (unhide Ot) g1 (by omega))
  clear r1 g1
  go_wp2_with fail
  refine (rlist5_at g v xs d6 Q7 _ hlen (unhide HD) (unhide R)).mono ?_
  rintro e w8 ⟨av, nv, cv, rfl, hnv, o1, r1, g1⟩
  have z8 := g1.size
  have K := hide ((g1.block w.heap.size hs0 (fun e => hgw (by simpa using e.symm))).trans (unhide K))
  have hs0 : w.heap.size < w8.heap.size := Nat.lt_of_lt_of_le hs0 z8
  have G := hide (grown_all (unhide G) g1)
  have R := hide r1
  have Ot := hide (owF_far (unhide Ot) g1 (by omega))
  have Ov := hide o1
  clear o1
  have Lv := hide (World.ownsRow.lt (unhide Ov))
  clear r1 g1
  go_wp2_with fail
  refine (rlist4_at g v xs d7 Q8 _ hlen (unhide HD) (unhide R)).mono ?_
  rintro e w9 ⟨al, nl, cl, rfl, hnl, o1, r1, g1⟩
  have z9 := g1.size
  have K := hide ((g1.block w.heap.size hs0 (fun e => hgw (by simpa using e.symm))).trans (unhide K))
  have hs0 : w.heap.size < w9.heap.size := Nat.lt_of_lt_of_le hs0 z9
  have G := hide (grown_all (unhide G) g1)
  have R := hide r1
  have Ot := hide (owF_far (unhide Ot) g1 (by omega))
  have Ov := hide (owF_far (unhide Ov) g1 (by omega))
  have Ol := hide o1
  clear o1
  have Ll := hide (World.ownsRow.lt (unhide Ol))
  clear r1 g1
  go_wp2_with fail
  refine (rpart_any g v xs d8 _ hlen (unhide HD) (unhide R)).mono ?_
  rintro e w10 ⟨ax, nx, cx, ay, ny, cy, rfl, o1, o2, r1, g1⟩
  have hnx : nx ≤ 5 := by rw [(o1.rw encI_len).len.1]; exact riPt5.1
  have hny : ny ≤ 5 := by rw [(o2.rw encF_len).len.1]; exact riPt5.2
  rw [unhide Q9] at o1 o2 r1
  have z10 := g1.size
  have K := hide ((g1.block w.heap.size hs0 (fun e => hgw (by simpa using e.symm))).trans (unhide K))
  have hs0 : w.heap.size < w10.heap.size := Nat.lt_of_lt_of_le hs0 z10
  have G := hide (grown_all (unhide G) g1)
  have R := hide r1
  have Ot := hide (owF_far (unhide Ot) g1 (by omega))
  have Ov := hide (owF_far (unhide Ov) g1 (by omega))
  have Ol := hide (owF_far (unhide Ol) g1 (by omega))
  have Ox := hide o1
  have Oy := hide o2
  clear o1 o2
  have Lx := hide (World.ownsRow.lt (unhide Ox))
  have Ly := hide (World.ownsRow.lt (unhide Oy))
  clear r1 g1
  go_wp2_with fail
  refine (rlistM_at g v xs d9 Q10 _ hlen (unhide HD) (unhide R)).mono ?_
  rintro e w11 ⟨ak, nk, ck, rfl, hnk, o1, r1, g1⟩
  have z11 := g1.size
  have K := hide ((g1.block w.heap.size hs0 (fun e => hgw (by simpa using e.symm))).trans (unhide K))
  have hs0 : w.heap.size < w11.heap.size := Nat.lt_of_lt_of_le hs0 z11
  have G := hide (grown_all (unhide G) g1)
  have R := hide r1
  have Ot := hide (owF_far (unhide Ot) g1 (by omega))
  have Ov := hide (owF_far (unhide Ov) g1 (by omega))
  have Ol := hide (owF_far (unhide Ol) g1 (by omega))
  have Ox := hide (owF_far (unhide Ox) g1 (by omega))
  have Oy := hide (owF_far (unhide Oy) g1 (by omega))
  have Ok := hide o1
  clear o1
  have Lk := hide (World.ownsRow.lt (unhide Ok))
  clear r1 g1
  have M := hide (show OwMg (w.heap.size + 1) w11 ⟨xk, xf, xt, xn, xh, xtl, xtr, xve, xle, xs_.1, xs_.2, xma⟩ ⟨at_, nt, ct, av, nv, cv, al, nl, cl, ax, nx, cx, ay, ny, cy, ak, nk, ck⟩ from ⟨Ow.base (unhide Ot) (by omega), Ow.base (unhide Ov) (by omega), Ow.base (unhide Ol) (by omega), Ow.base (unhide Ox) (by omega), Ow.base (unhide Oy) (by omega), Ow.base (unhide Ok) (by omega), fun i h1 h2 => by have := unhide Lt i h1; have := unhide Lv i h2; omega, fun i h1 h2 => by have := unhide Lt i h1; have := unhide Ll i h2; omega, fun i h1 h2 => by have := unhide Lv i h1; have := unhide Ll i h2; omega⟩)
  clear Ot Lt Ov Lv Ol Ll Ox Lx Oy Ly Ok Lk
  obtain ⟨r0, r1, r2, r3, r4, r5, r6, r7, r8, r9, ra, rb, rf⟩ := msg_cells (unhide K)
  have F0 := hide ((unhide H0).far (unhide R) (unhide G) (q := w.heap.size) (o := 0) (Nat.le_refl _) (.int .i64 xk))
  have M := hide ((unhide M).set ⟨w.heap.size, 0, none⟩ (by show w.heap.size < _; omega) (.int .i64 xk))
  have F1 := hide ((unhide H0).far (unhide F0).1 (unhide F0).2 (q := w.heap.size) (o := 1) (Nat.le_refl _) (.int .i64 xf))
  have M := hide ((unhide M).set ⟨w.heap.size, 1, none⟩ (by show w.heap.size < _; omega) (.int .i64 xf))
  have F2 := hide ((unhide H0).far (unhide F1).1 (unhide F1).2 (q := w.heap.size) (o := 2) (Nat.le_refl _) (.int .i64 xt))
  have M := hide ((unhide M).set ⟨w.heap.size, 2, none⟩ (by show w.heap.size < _; omega) (.int .i64 xt))
  have F3 := hide ((unhide H0).far (unhide F2).1 (unhide F2).2 (q := w.heap.size) (o := 3) (Nat.le_refl _) (.int .i64 xn))
  have M := hide ((unhide M).set ⟨w.heap.size, 3, none⟩ (by show w.heap.size < _; omega) (.int .i64 xn))
  have F4 := hide ((unhide H0).far (unhide F3).1 (unhide F3).2 (q := w.heap.size) (o := 4) (Nat.le_refl _) (.int .i64 xh))
  have M := hide ((unhide M).set ⟨w.heap.size, 4, none⟩ (by show w.heap.size < _; omega) (.int .i64 xh))
  have F5 := hide ((unhide H0).far (unhide F4).1 (unhide F4).2 (q := w.heap.size) (o := 5) (Nat.le_refl _) (.slice at_ nt ct))
  have M := hide ((unhide M).set ⟨w.heap.size, 5, none⟩ (by show w.heap.size < _; omega) (.slice at_ nt ct))
  have F6 := hide ((unhide H0).far (unhide F5).1 (unhide F5).2 (q := w.heap.size) (o := 6) (Nat.le_refl _) (.int .i64 xtr))
  have M := hide ((unhide M).set ⟨w.heap.size, 6, none⟩ (by show w.heap.size < _; omega) (.int .i64 xtr))
  have F7 := hide ((unhide H0).far (unhide F6).1 (unhide F6).2 (q := w.heap.size) (o := 7) (Nat.le_refl _) (.slice av nv cv))
  have M := hide ((unhide M).set ⟨w.heap.size, 7, none⟩ (by show w.heap.size < _; omega) (.slice av nv cv))
  have F8 := hide ((unhide H0).far (unhide F7).1 (unhide F7).2 (q := w.heap.size) (o := 8) (Nat.le_refl _) (.slice al nl cl))
  have M := hide ((unhide M).set ⟨w.heap.size, 8, none⟩ (by show w.heap.size < _; omega) (.slice al nl cl))
  have F9 := hide ((unhide H0).far (unhide F8).1 (unhide F8).2 (q := w.heap.size) (o := 9) (Nat.le_refl _) (.slice ax nx cx))
  have M := hide ((unhide M).set ⟨w.heap.size, 9, none⟩ (by show w.heap.size < _; omega) (.slice ax nx cx))
  have F10 := hide ((unhide H0).far (unhide F9).1 (unhide F9).2 (q := w.heap.size) (o := 10) (Nat.le_refl _) (.slice ay ny cy))
  have M := hide ((unhide M).set ⟨w.heap.size, 10, none⟩ (by show w.heap.size < _; omega) (.slice ay ny cy))
  have F11 := hide ((unhide H0).far (unhide F10).1 (unhide F10).2 (q := w.heap.size) (o := 11) (Nat.le_refl _) (.slice ak nk ck))
  have M := hide ((unhide M).set ⟨w.heap.size, 11, none⟩ (by show w.heap.size < _; omega) (.slice ak nk ck))
  clear R K G F0 F1 F2 F3 F4 F5 F6 F7 F8 F9 F10
  go_wp2
  exact bodyPost_ret (v := .agg #[.int .i64 xk, .int .i64 xf, .int .i64 xt, .int .i64 xn, .int .i64 xh, .slice at_ nt ct, .int .i64 xtr, .slice av nv cv, .slice al nl cl, .slice ax nx cx, .slice ay ny cy, .slice ak nk ck]) (by simp [results, Tryz.results33, go_sem, r0, r1, r2, r3, r4, r5, r6, r7, r8, r9, ra, rb]) rfl ⟨⟨xk, xf, xt, xn, xh, xtl, xtr, xve, xle, xs_.1, xs_.2, xma⟩, ⟨at_, nt, ct, av, nv, cv, al, nl, cl, ax, nx, cx, ay, ny, cy, ak, nk, ck⟩, by rw [unhide HM], rfl, ⟨by show nt ≤ 5; omega, hnv, by show nl ≤ 5; omega, hnx, hny, hnk⟩, (unhide M).base (by omega), by rw [unhide HM]; exact (unhide F11).1, (unhide F11).2⟩
end Go.Proofs.YtjlocbimkfocnaaGreat

namespace Go.Proofs.YtjlocbimkfocnaaGreat
open Go.RowKit

theorem str_same {xs ys : List Int} (hx : ∀ z ∈ xs, 0 ≤ z ∧ z ≤ 255) (hy : ∀ z ∈ ys, 0 ≤ z ∧ z ≤ 255) : ((strOfNums xs).toList == (strOfNums ys).toList) = decide (xs = ys) := by
  rw [str_eq xs (strOfNums ys) hx, bl_str ys hy]
set_option maxHeartbeats 4000000 in
set_option maxRecDepth 100000 in
theorem ibeq_any (u v : Value) (xs ys : List Int) (r : Bool) (hr : Hid (decide (xs = ys) = r)) (w : World) (hx : ∀ z ∈ xs, 0 ≤ z ∧ z ≤ 255) (hy : ∀ z ∈ ys, 0 ≤ z ∧ z ≤ 255) (hu : RdB w u xs) (hv : RdB w v ys) :
    Calls Tryz.prog 78 #[u, v] w fun e w' => e = .returned (.bool r) ∧ w = w' := by
  have hsame := str_same hx hy
  rw [unhide hr] at hsame
  obtain ⟨s1, h1⟩ : ∃ s, Hid (strOfNums xs = s) := ⟨_, hide rfl⟩
  obtain ⟨s2, h2⟩ : ∃ s, Hid (strOfNums ys = s) := ⟨_, hide rfl⟩
  rw [unhide h1, unhide h2] at hsame
  have H1 := hide hu
  have H2 := hide hv
  clear hx hy hu hv
  have c1 := convR h1 (unhide H1)
  have c2 := convR h2 (unhide H2)
  go_enter Tryz.func78, Tryz.ntmps78
  go_wp2_with fail
  go_ret
  exact ⟨rfl, rfl⟩
/-- A row of bytes in one block, which may be cut. -/
structure RdC (w : World) (g off n c : Nat) (xs : List Int) : Prop where
  len : n = xs.length
  cap : n ≤ c
  blk : g < w.heap.size
  cel : ∀ j, j < xs.length → w.cell? ⟨g, off + j, none⟩ = some (.int .u8 (xs.getD j 0))
theorem RdC.later {w w' : World} {g off n c : Nat} {xs : List Int} (h : RdC w g off n c xs) (b : Below w.heap.size w w') : RdC w' g off n c xs :=
  ⟨h.len, h.cap, Nat.lt_of_lt_of_le h.blk b.size, fun j hj => (b.cell (p := ⟨g, off + j, none⟩) h.blk).trans (h.cel j hj)⟩
theorem RdC.rdb {w : World} {g off n c : Nat} {xs : List Int} (h : RdC w g off n c xs) : RdB w (.slice (some ⟨g, off, none⟩) n c) xs := by
  obtain ⟨rfl, _, h1, h2⟩ := h
  exact .inr ⟨g, off, c, rfl, h1, h2⟩
theorem RdC.take {w : World} {g off n c : Nat} {xs : List Int} (h : RdC w g off n c xs) {k : Nat} (hk : k ≤ n) : RdC w g off k c (xs.take k) := by
  have := h.len
  have := h.cap
  refine ⟨by simp; omega, by omega, h.blk, fun j hj => ?_⟩
  simp only [List.length_take] at hj
  rw [h.cel j (by omega)]
  simp only [List.getD, List.getElem?_take]
  rw [if_pos (by omega)]
theorem RdC.drop {w : World} {g off n c : Nat} {xs : List Int} (h : RdC w g off n c xs) {k : Nat} (hk : k ≤ n) : RdC w g (off + k) (n - k) (c - k) (xs.drop k) := by
  have := h.len
  have := h.cap
  refine ⟨by simp; omega, by omega, h.blk, fun j hj => ?_⟩
  simp only [List.length_drop] at hj
  rw [Nat.add_assoc, h.cel (k + j) (by omega)]
  simp only [List.getD, List.getElem?_drop]
theorem RdC.seg {w : World} {g off n c : Nat} {xs : List Int} (h : RdC w g off n c xs) : Seg w (.slice (some ⟨g, off, none⟩) n c) xs :=
  Seg.mk h.len h.cap (.inr ⟨g, off, rfl, h.blk, h.cel⟩)
set_option maxHeartbeats 4000000 in
set_option maxRecDepth 100000 in
theorem ihasp_any (g off n c g2 : Nat) (xs : List Int) (r : Bool) (hr : Hid (decide (xs.take 2 = [82, 75]) = r)) (w : World) (hx : ∀ z ∈ xs, 0 ≤ z ∧ z ≤ 255) (hn : n ≤ 1048576) (hu : RdC w g off n c xs) (hv : RdC w g2 0 2 2 [82, 75]) :
    Calls Tryz.prog 113 #[.slice (some ⟨g, off, none⟩) n c, .slice (some ⟨g2, 0, none⟩) 2 2] w fun e w' => e = .returned (.bool r) ∧ Below w.heap.size w w' := by
  have hnl := hu.len
  have hc := hu.cap
  have HX := hide hx
  have HU := hide hu
  have HV := hide hv
  clear hx hu hv
  by_cases h2 : n < 2
  · obtain rfl : r = false := by
      rw [← unhide hr]
      simp only [decide_eq_false_iff_not]
      intro e
      have := congrArg List.length e
      simp at this
      omega
    have hd : decide ((2 : Int) ≤ (n : Int)) = false := by simp; omega
    go_enter Tryz.func113, Tryz.ntmps113
    go_wp2_with fail
    go_ret
    exact ⟨rfl, Below.refl _ _⟩
  · have hd : decide ((2 : Int) ≤ (n : Int)) = true := by simp; omega
    have HT := hide ((unhide HU).take (k := 2) (by omega))
    go_enter Tryz.func113, Tryz.ntmps113
    go_wp2_with fail
    refine (ibeq_any _ _ (xs.take 2) [82, 75] r hr w (fun z hz => unhide HX z (List.mem_of_mem_take hz)) (fun z hz => by simp at hz; omega) (unhide HT).rdb (unhide HV).rdb).mono ?_
    rintro e _ ⟨rfl, rfl⟩
    go_wp2
    go_ret
    exact ⟨rfl, Below.refl _ _⟩
set_option maxHeartbeats 4000000 in
set_option maxRecDepth 100000 in
theorem icut_any (g off n c g2 : Nat) (xs : List Int) (r : Bool) (hr : Hid (decide (xs.take 2 = [82, 75]) = r)) (w : World) (hx : ∀ z ∈ xs, 0 ≤ z ∧ z ≤ 255) (hn : n ≤ 1048576) (hu : RdC w g off n c xs) (hv : RdC w g2 0 2 2 [82, 75]) :
    Calls Tryz.prog 79 #[.slice (some ⟨g, off, none⟩) n c, .slice (some ⟨g2, 0, none⟩) 2 2] w fun e w' => ∃ u, e = .returned (.tuple #[u, .bool r]) ∧ Seg w' u (if r = true then xs.drop 2 else xs) ∧ Below w.heap.size w w' := by
  obtain rfl := hu.len
  have hc := hu.cap
  have HU := hide hu
  have hq := ihasp_any g off xs.length c g2 xs r hr w hx hn hu hv
  clear hx hu hv
  cases r
  · go_enter Tryz.func79, Tryz.ntmps79
    go_wp2_with fail
    refine hq.mono ?_
    rintro e w1 ⟨rfl, b1⟩
    have HB := hide b1
    clear hq b1
    go_wp2
    go_ret2
    refine ⟨_, rfl, ?_, unhide HB⟩
    exact ((unhide HU).later (unhide HB)).seg
  · have h2 : 2 ≤ xs.length := by
      have := unhide hr
      simp only [decide_eq_true_eq] at this
      have := congrArg List.length this
      simp at this
      omega
    have hi1 : (2 : Int) ≤ (xs.length : Int) := by omega
    have HT := hide ((unhide HU).drop h2)
    go_enter Tryz.func79, Tryz.ntmps79
    go_wp2_with fail
    refine hq.mono ?_
    rintro e w1 ⟨rfl, b1⟩
    have HB := hide b1
    clear hq b1
    go_wp2
    · have e2 : xs.drop 2 = [] := List.drop_eq_nil_of_le (by omega)
      go_ret2
      refine ⟨_, rfl, ?_, unhide HB⟩
      rw [e2]
      exact Seg.mk (by simp; omega) (by omega) (.inl rfl)
    · go_ret2
      refine ⟨_, rfl, ?_, unhide HB⟩
      exact ((unhide HT).later (unhide HB)).seg
set_option maxHeartbeats 4000000 in
set_option maxRecDepth 100000 in
theorem ibody_any (v : Value) (xs : List Int) (w : World) (hlen : xs.length ≤ 1048576) (hbd : ∀ z ∈ xs, 0 ≤ z ∧ z ≤ 255) (hv : Seg w v xs) :
    Calls Tryz.prog 32 #[v] w fun e w' => ∃ u ys, e = .returned (.tuple #[u, .bool (bdy xs).isSome]) ∧ Seg w' u ys ∧ (∀ zs, bdy xs = some zs → zs = ys) ∧ ys.length ≤ xs.length ∧ (∀ z ∈ ys, 0 ≤ z ∧ z ≤ 255) ∧ Below w.heap.size w w' := by
  obtain ⟨a, cap, rfl, hcap, hr⟩ := hv
  by_cases h4 : xs.length < 4
  · have hd : decide ((xs.length : Int) - 4 < 0) = true := by simp; omega
    have hb : bdy xs = none := by unfold bdy; rw [if_neg (by omega)]
    rw [hb]
    clear hr hbd hb
    go_enter Tryz.func32, Tryz.ntmps32
    go_wp2_with fail
    refine wp_region_later (by kernel_rfl) (by kernel_rfl) ?_
    repeat (go_big_quiet_step (fail))
    refine wpQuiet_nil ?_
    intro w1 b1
    have HB := hide b1
    clear b1
    go_wp2
    go_ret2
    exact ⟨_, [], rfl, Seg.mk rfl (Nat.le_refl _) (.inl rfl), fun zs h => by simp at h, by simp, fun z hz => by simp at hz, unhide HB⟩
  · obtain ⟨n, hn⟩ : ∃ n, xs.length = n + 4 := ⟨xs.length - 4, by omega⟩
    obtain ⟨g, off, rfl, hg, hc⟩ : ∃ g off, a = some ⟨g, off, none⟩ ∧ g < w.heap.size ∧ ∀ i, i < xs.length → w.cell? ⟨g, off + i, none⟩ = some (.int .u8 (xs.getD i 0)) := by
      rcases hr with h | ⟨g, off, h1, h2, h3⟩
      · rw [h] at h4; simp at h4
      · exact ⟨g, off, h1, h2, h3⟩
    have HC := hide (show RdC w g off (n + 4) cap xs from ⟨by omega, by omega, hg, hc⟩)
    have HB := hide hbd
    have HT := hide ((unhide HC).take (k := n) (by omega))
    have HD := hide (show RdC w g (off + n) 4 (cap - n) (xs.drop n) from by have h := (unhide HC).drop (k := n) (by omega); rwa [show n + 4 - n = 4 by omega] at h)
    have hcn : ¬ cap = n := by omega
    have hcn2 : ¬ (cap : Int) = (n : Int) := by omega
    have hcn3 : ¬ (cap : Int) - (n : Int) = 0 := by omega
    have hcn4 : ¬ cap ≤ n := by omega
    have hcn5 : (n : Int) ≤ (n : Int) + 4 := by omega
    have hcn6 : ¬ cap - n = 0 := by omega
    have hcn7 : ((n + 4 : Nat) : Int) ≤ (cap : Int) := by omega
    have hcn8 : (n : Int) + 4 ≤ (cap : Int) := by omega
    rw [hn] at hcap
    clear hr hbd hc
    have hi0 : ((n + 4 : Nat) : Int) - 4 = (n : Int) := by omega
    have hd : decide ((n : Int) < 0) = false := by simp
    have hi1 : (0 : Int) ≤ (n : Int) := by omega
    have hi2 : (n : Int) ≤ ((n + 4 : Nat) : Int) := by omega
    have hi3 : (n : Int) ≤ (cap : Int) := by omega
    rw [hn]
    go_enter Tryz.func32, Tryz.ntmps32
    go_wp2_with fail
    obtain ⟨rr, hrr⟩ : ∃ r, Hid (decide (xs.drop n = sumB (crcOf (xs.take n))) = r) := ⟨_, hide rfl⟩
    have hb1 : ∀ z ∈ xs.take n, 0 ≤ z ∧ z ≤ 255 := fun z hz => unhide HB z (List.mem_of_mem_take hz)
    have hb2 : ∀ z ∈ xs.drop n, 0 ≤ z ∧ z ≤ 255 := fun z hz => unhide HB z (List.mem_of_mem_drop hz)
    have HB1 := hide hb1
    have HB2 := hide hb2
    have HB3 := hide (sumB_bytes (crcOf_nonneg _ hb1) (crcOf_range _ hb1))
    have hl1 : (xs.take n).length ≤ 281474976710656 := by simp; omega
    clear hb1 hb2
    go_region_held3 (fun W => Below w.heap.size w W)
      (first | (with_reducible exact (Below.refl _ _).drew) | (with_reducible exact Below.refl _ _) | (with_reducible assumption))
      (first
        | (go_at_call 31; refine (iseal_any _ (xs.take n) _ hl1 (unhide HB1) ((unhide HT).later (by assumption)).seg).mono ?_; rintro e w1 ⟨u1, rfl, o1, b1⟩; have R1 := hide (OwB.rdb o1); have q1 : Below w.heap.size w w1 := Below.trans (by assumption) (b1.mono (Below.size (by assumption))); clear o1 b1)
        | (go_at_call 78; refine (ibeq_any _ _ (xs.drop n) _ rr hrr _ (unhide HB2) (unhide HB3) ((unhide HD).later (by assumption)).rdb (unhide R1)).mono ?_; rintro e _ ⟨rfl, rfl⟩))
    have Q1 := hide q1
    have hgB := q1.size
    clear q1 R1 HD hi0 hcn hcn2 hcn3 hcn4 hcn5 hcn6 hcn7 hcn8
    have hx4 : xs.length - 4 = n := by omega
    cases rr
    · have hb : bdy xs = none := by
        have h := unhide hrr
        simp only [decide_eq_false_iff_not] at h
        unfold bdy
        rw [hx4, if_neg (fun q => h q.2.1)]
      go_wp2
      go_ret2
      refine ⟨_, [], by rw [hb]; rfl, Seg.mk rfl (Nat.le_refl _) (.inl rfl), fun zs h => (by rw [hb] at h; cases h), by simp, fun z hz => (by simp at hz), unhide Q1⟩
    · obtain ⟨r2, hr2⟩ : ∃ r, Hid (decide ((xs.take n).take 2 = [82, 75]) = r) := ⟨_, hide rfl⟩
      have hb : bdy xs = if r2 = true then some ((xs.take n).drop 2) else none := by
        have h := unhide hrr
        have h2 := unhide hr2
        simp only [decide_eq_true_eq] at h
        unfold bdy
        rw [hx4]
        have hiff : [82, 75] <+: xs.take n ↔ r2 = true := by
          rw [← h2]
          simp only [decide_eq_true_eq, List.prefix_iff_eq_take]
          exact ⟨fun e => e.symm, fun e => e.symm⟩
        by_cases q : r2 = true
        · rw [if_pos ⟨by omega, h, hiff.2 q⟩, if_pos q]
        · rw [if_neg (fun z => q (hiff.1 z.2.2)), if_neg q]
      have HBD := hide hb
      have hcv := Go.Joins.run_convert_bytes_const_at (P := Tryz.prog) w1 22 5 #[.int .u8 82, .int .u8 75] 2 2 w1.heap.size rfl Tryz.underlying22 Tryz.underlying5
      have bS : Below w1.heap.size w1 (w1.alloc (.cells #[.int .u8 82, .int .u8 75] 5 (2, 3))) := (Below.refl _ _).alloc (Nat.le_refl _) _
      have HV : Hid (RdC (w1.alloc (.cells #[.int .u8 82, .int .u8 75] 5 (2, 3))) w1.heap.size 0 2 2 [82, 75]) := hide ⟨rfl, Nat.le_refl _, by simp, fun j hj => by
        have hbk := heap_alloc_new w1 (.cells #[.int .u8 82, .int .u8 75] 5 (2, 3))
        rw [Lib.cell_of_heap hbk]
        have : j = 0 ∨ j = 1 := by simp at hj; omega
        rcases this with rfl | rfl <;> rfl⟩
      have BS := hide bS
      clear bS hb
      go_wp2_with fail
      refine (icut_any g off n cap w1.heap.size (xs.take n) r2 hr2 _ (unhide HB1) (by omega) ((unhide HT).later ((unhide Q1).trans ((unhide BS).mono (unhide Q1).size))) (unhide HV)).mono ?_
      rintro e w2 ⟨u, rfl, sg, b2⟩
      have HS2 := hide sg
      have HB4 := hide (((unhide Q1).trans ((unhide BS).mono (unhide Q1).size)).trans (b2.mono (by have := (unhide BS).size; omega)))
      clear sg b2
      go_wp2
      go_ret2
      have hb := unhide HBD
      cases r2
      · rw [if_neg (by simp)] at hb
        exact ⟨_, xs.take n, by rw [hb]; rfl, unhide HS2, fun zs h => (by rw [hb] at h; cases h), by simp; omega, unhide HB1, unhide HB4⟩
      · rw [if_pos rfl] at hb
        exact ⟨_, (xs.take n).drop 2, by rw [hb]; rfl, unhide HS2, fun zs h => (by rw [hb] at h; exact (Option.some.inj h).symm), by simp; omega, fun z hz => unhide HB1 z (List.mem_of_mem_drop hz), unhide HB4⟩
end Go.Proofs.YtjlocbimkfocnaaGreat

namespace Go.Proofs.YtjlocbimkfocnaaGreat
open Go.RowKit

def zM : Mg := ⟨0, 0, 0, 0, 0, [], 0, [], [], [], [], []⟩
def zP : Mp := ⟨none, 0, 0, none, 0, 0, none, 0, 0, none, 0, 0, none, 0, 0, none, 0, 0⟩
theorem owMg_nil (B : Nat) (w : World) : OwMg B w zM zP :=
  ⟨World.ownsRow_nil _ _ _ _, World.ownsRow_nil _ _ _ _, World.ownsRow_nil _ _ _ _, World.ownsRow_nil _ _ _ _, World.ownsRow_nil _ _ _ _, World.ownsRow_nil _ _ _ _, fun g h => (by cases h), fun g h => (by cases h), fun g h => (by cases h)⟩
noncomputable def mofM (xs : List Int) : Mg := (mof xs).getD zM
set_option maxHeartbeats 8000000 in
set_option maxRecDepth 100000 in
theorem imsgof_any (v : Value) (xs : List Int) (w : World) (hlen : xs.length ≤ 1048576) (hbd : ∀ z ∈ xs, 0 ≤ z ∧ z ≤ 255) (hv : Seg w v xs) :
    Calls Tryz.prog 9 #[v] w fun e w' => ∃ m p, m = mofM xs ∧ e = .returned (.tuple #[.agg #[.int .i64 m.k, .int .i64 m.f, .int .i64 m.t, .int .i64 m.n, .int .i64 m.h, .slice p.ta p.tn p.tc, .int .i64 m.tr, .slice p.va p.vn p.vc, .slice p.la p.ln p.lc, .slice p.xa p.xn p.xc, .slice p.ya p.yn p.yc, .slice p.ka p.kn p.kc], .bool (mof xs).isSome]) ∧ SzM p 5 ∧ OwMg w.heap.size w' m p ∧ Below w.heap.size w w' := by
  have HD := hide hbd
  have HS := hide hv
  clear hbd hv
  have BA := hide (show Below w.heap.size w (w.alloc (.cells #[.int .i64 0, .int .i64 0, .int .i64 0, .int .i64 0, .int .i64 0, .slice none 0 0, .int .i64 0, .slice none 0 0, .slice none 0 0, .slice none 0 0, .slice none 0 0, .slice none 0 0] 33)) from (Below.refl _ _).alloc (Nat.le_refl _) _)
  have KA := hide (heap_alloc_new w (.cells #[.int .i64 0, .int .i64 0, .int .i64 0, .int .i64 0, .int .i64 0, .slice none 0 0, .int .i64 0, .slice none 0 0, .slice none 0 0, .slice none 0 0, .slice none 0 0, .slice none 0 0] 33))
  go_enter Tryz.func9, Tryz.ntmps9
  go_wp2_with fail
  refine (ibody_any v xs _ hlen (unhide HD) ((unhide HS).below (unhide BA) (Nat.le_refl _))).mono ?_
  rintro e w1 ⟨u, ys, rfl, sg, hy, hyl, hyb, b1⟩
  obtain ⟨sl, hsl⟩ : ∃ sl, Hid ((bdy xs).isSome = sl) := ⟨_, hide rfl⟩
  rw [unhide hsl]
  have HY := hide hy
  have HYB := hide hyb
  have HSG := hide sg
  obtain ⟨a1, c1, rfl, -, hr1⟩ := sg
  have HNE : Hid (ys = [] ∨ ∀ (x : Addr) n cc, Value.slice a1 ys.length c1 = .slice (some x) n cc → x.block < w1.heap.size) := hide (by
    rcases hr1 with h | ⟨bb, off, rfl, hlt, -⟩
    · exact .inl h
    · exact .inr (fun x n cc e => by simp only [Value.slice.injEq, Option.some.injEq] at e; rw [← e.1]; exact hlt))
  clear hy hyb hr1
  go_wp2_with fail
  have hs1 : w.heap.size < w1.heap.size := Nat.lt_of_lt_of_le (by simp) b1.size
  have bR := al_below w1 (.cells #[.slice a1 ys.length c1, .int .i64 0, .bool (!sl)] 58)
  have R0 := hide (show Ri (w1.alloc (.cells #[.slice a1 ys.length c1, .int .i64 0, .bool (!sl)] 58)) w1.heap.size (.slice a1 ys.length c1) ys (0, !sl) from ⟨heap_alloc_new w1 _, (unhide HSG).below bR (Nat.le_refl _), (unhide HNE).imp id (fun h x n cc e => by have := h x n cc e; omega), by simp [Win]⟩)
  have KA := hide ((bR.block w.heap.size hs1).trans ((b1.block w.heap.size (by simp)).trans (unhide KA)))
  have hsA : w.heap.size + 1 ≤ w1.heap.size := by omega
  have BA := hide (((unhide BA).trans (b1.mono (by simp))).trans (bR.mono (by omega)))
  have hlb : ys.length ≤ 140737488351232 := by omega
  have HRD := hide (reads_msg (unhide HYB))
  clear b1 bR HSG HNE
  refine (rmsg_any w1.heap.size _ ys (0, !sl) _ hlb (unhide HYB) (unhide R0)).mono ?_
  rintro e w2 ⟨m, p, hm, rfl, sp, om, r2, g2⟩
  have HM := hide hm
  have bB := al_below w2 (.cells #[.int .i64 m.k, .int .i64 m.f, .int .i64 m.t, .int .i64 m.n, .int .i64 m.h, .slice p.ta p.tn p.tc, .int .i64 m.tr, .slice p.va p.vn p.vc, .slice p.la p.ln p.lc, .slice p.xa p.xn p.xc, .slice p.ya p.yn p.yc, .slice p.ka p.kn p.kc] 33)
  have hs2 := g2.size
  have hs2' : w1.heap.size < w2.heap.size := Nat.lt_of_lt_of_le (by simp) hs2
  have KR := hide ((bB.block w.heap.size (by omega)).trans ((g2.block w.heap.size (by simp; omega) (by simp; omega)).trans (unhide KA)))
  have KS := hide (heap_alloc_new w2 (.cells #[.int .i64 m.k, .int .i64 m.f, .int .i64 m.t, .int .i64 m.n, .int .i64 m.h, .slice p.ta p.tn p.tc, .int .i64 m.tr, .slice p.va p.vn p.vc, .slice p.la p.ln p.lc, .slice p.xa p.xn p.xc, .slice p.ya p.yn p.yc, .slice p.ka p.kn p.kc] 33))
  have BL := hide (((unhide BA).grown g2 (unhide BA).size (fun k hk => by simp at hk; omega)).trans (bB.mono (Nat.le_trans (unhide BA).size g2.size)))
  have R1 := hide (r2.later bB)
  have OM := hide ((om.later bB).base (show w.heap.size + 1 ≤ _ by simp; omega))
  have HSP := hide sp
  have s1 := sp.t; have s2 := sp.v; have s3 := sp.l; have s4 := sp.x; have s5 := sp.y; have s6 := sp.k
  have hSz : SzM p 140737488351232 := ⟨by omega, by omega, by omega, by omega, by omega, by omega⟩
  clear hm om r2 g2 R0 KA BA bB sp s1 s2 s3 s4 s5 s6
  obtain ⟨b, hb⟩ : ∃ b, Hid ((!(riM ys (0, !sl)).2.2 && ((riM ys (0, !sl)).2.1 == (ys.length : Int))) = b) := ⟨_, hide rfl⟩
  go_wp2_with fail
  refine (rwhole_any w1.heap.size _ ys (riM ys (0, !sl)).2 b hb _ (unhide R1)).mono ?_
  rintro e w3 ⟨rfl, b2⟩
  have KR2 := hide ((b2.block _ (by simp; omega)).trans (unhide KR))
  have KS2 := hide ((b2.block w2.heap.size (by simp)).trans (unhide KS))
  have BL2 := hide ((unhide BL).trans (b2.mono (unhide BL).size))
  have OM2 := hide ((unhide OM).later b2)
  clear b2 KR KS BL OM R1
  have hz1 : w2.heap.size < w3.heap.size := (Array.getElem?_eq_some_iff.1 (unhide KS2)).1
  have hz2 : w.heap.size < w3.heap.size := by omega
  cases b
  · have hno : Hid (mof xs = none) := hide (by
      cases sl
      · exact mof_none_of (by have := unhide hsl; simpa using this)
      · obtain ⟨zs, hzs⟩ := Option.isSome_iff_exists.1 (unhide hsl)
        obtain rfl := unhide HY zs hzs
        rw [mof_rd (unhide HD) hzs, if_neg]
        rintro ⟨⟨h1, h2⟩, -⟩
        have h := unhide hb
        simp only [Bool.not_true] at h
        rw [h1, h2] at h
        simp at h)
    obtain ⟨r0, r1, r2, r3, r4, r5, r6, r7, r8, r9, ra, rb, rf⟩ := msg_cells (unhide KR2)
    have BW := hide (unhide BL2)
    have BW := hide ((unhide BW).setCell (p := ⟨w.heap.size, 0, none⟩) (Nat.le_refl _) (.int .i64 0))
    have BW := hide ((unhide BW).setCell (p := ⟨w.heap.size, 1, none⟩) (Nat.le_refl _) (.int .i64 0))
    have BW := hide ((unhide BW).setCell (p := ⟨w.heap.size, 2, none⟩) (Nat.le_refl _) (.int .i64 0))
    have BW := hide ((unhide BW).setCell (p := ⟨w.heap.size, 3, none⟩) (Nat.le_refl _) (.int .i64 0))
    have BW := hide ((unhide BW).setCell (p := ⟨w.heap.size, 4, none⟩) (Nat.le_refl _) (.int .i64 0))
    have BW := hide ((unhide BW).setCell (p := ⟨w.heap.size, 5, none⟩) (Nat.le_refl _) (.slice none 0 0))
    have BW := hide ((unhide BW).setCell (p := ⟨w.heap.size, 6, none⟩) (Nat.le_refl _) (.int .i64 0))
    have BW := hide ((unhide BW).setCell (p := ⟨w.heap.size, 7, none⟩) (Nat.le_refl _) (.slice none 0 0))
    have BW := hide ((unhide BW).setCell (p := ⟨w.heap.size, 8, none⟩) (Nat.le_refl _) (.slice none 0 0))
    have BW := hide ((unhide BW).setCell (p := ⟨w.heap.size, 9, none⟩) (Nat.le_refl _) (.slice none 0 0))
    have BW := hide ((unhide BW).setCell (p := ⟨w.heap.size, 10, none⟩) (Nat.le_refl _) (.slice none 0 0))
    have BW := hide ((unhide BW).setCell (p := ⟨w.heap.size, 11, none⟩) (Nat.le_refl _) (.slice none 0 0))
    go_wp2_with fail
    exact bodyPost_ret (v := .tuple #[.agg #[.int .i64 0, .int .i64 0, .int .i64 0, .int .i64 0, .int .i64 0, .slice none 0 0, .int .i64 0, .slice none 0 0, .slice none 0 0, .slice none 0 0, .slice none 0 0, .slice none 0 0], .bool false]) (by simp [results, Tryz.results9, go_sem, r0, r1, r2, r3, r4, r5, r6, r7, r8, r9, ra, rb]) rfl ⟨zM, zP, by rw [mofM, unhide hno]; rfl, by rw [unhide hno]; rfl, ⟨Nat.zero_le _, Nat.zero_le _, Nat.zero_le _, Nat.zero_le _, Nat.zero_le _, Nat.zero_le _⟩, owMg_nil _ _, unhide BW⟩
  · have hw : Hid (sl = true ∧ (riM ys (0, !sl)).2.2 = false ∧ (riM ys (0, !sl)).2.1 = (ys.length : Int)) := hide (by
      have h := unhide hb
      simp only [Bool.and_eq_true, Bool.not_eq_true', beq_iff_eq] at h
      have := ((unhide HRD).snd (0, !sl) ⟨by simp, by simp⟩ h.1).1
      exact ⟨by simpa using this, h.1, h.2⟩)
    have hsome : Hid (mof xs = if okM m = true then some m else none) := hide (by
      obtain ⟨q0, q1, q2⟩ := unhide hw
      subst q0
      obtain ⟨zs, hzs⟩ := Option.isSome_iff_exists.1 (unhide hsl)
      obtain rfl := unhide HY zs hzs
      have e := mof_rd (unhide HD) hzs
      rw [unhide HM]
      simp only [Bool.not_true] at q1 q2 ⊢
      rw [e]
      by_cases q : okM (riM zs (0, false)).1 = true
      · rw [if_pos ⟨⟨q1, q2⟩, q⟩, if_pos q]
      · rw [if_neg (fun z => q z.2), if_neg q])
    obtain ⟨ok, hok⟩ : ∃ ok, Hid (okM m = ok) := ⟨_, hide rfl⟩
    obtain ⟨c0, c1', c2, c3, c4, c5, c6, c7, c8, c9, ca, cb, cf⟩ := msg_cells (unhide KS2)
    go_wp2_with fail
    refine (imsgok_any m p ok hok w3 hSz (unhide OM2).rw).mono ?_
    rintro e w4 ⟨rfl, b3⟩
    have KR3 := hide ((b3.block _ hz2).trans (unhide KR2))
    have KS3 := hide ((b3.block _ hz1).trans (unhide KS2))
    have BL3 := hide ((unhide BL2).trans (b3.mono (unhide BL2).size))
    have OM3 := hide ((unhide OM2).later b3)
    have hz3 : w2.heap.size < w4.heap.size := Nat.lt_of_lt_of_le hz1 b3.size
    have hz4 : w.heap.size < w4.heap.size := by omega
    clear b3 KR2 KS2 BL2 OM2 c0 c1' c2 c3 c4 c5 c6 c7 c8 c9 ca cb cf
    obtain ⟨c0, c1', c2, c3, c4, c5, c6, c7, c8, c9, ca, cb, cf⟩ := msg_cells (unhide KS3)
    obtain ⟨r0, r1, r2, r3, r4, r5, r6, r7, r8, r9, ra, rb, rf⟩ := msg_cells (unhide KR3)
    cases ok
    · have hno : Hid (mof xs = none) := hide (by rw [unhide hsome, if_neg (by rw [unhide hok]; simp)])
      have BW := hide (unhide BL3)
      have BW := hide ((unhide BW).setCell (p := ⟨w.heap.size, 0, none⟩) (Nat.le_refl _) (.int .i64 0))
      have BW := hide ((unhide BW).setCell (p := ⟨w.heap.size, 1, none⟩) (Nat.le_refl _) (.int .i64 0))
      have BW := hide ((unhide BW).setCell (p := ⟨w.heap.size, 2, none⟩) (Nat.le_refl _) (.int .i64 0))
      have BW := hide ((unhide BW).setCell (p := ⟨w.heap.size, 3, none⟩) (Nat.le_refl _) (.int .i64 0))
      have BW := hide ((unhide BW).setCell (p := ⟨w.heap.size, 4, none⟩) (Nat.le_refl _) (.int .i64 0))
      have BW := hide ((unhide BW).setCell (p := ⟨w.heap.size, 5, none⟩) (Nat.le_refl _) (.slice none 0 0))
      have BW := hide ((unhide BW).setCell (p := ⟨w.heap.size, 6, none⟩) (Nat.le_refl _) (.int .i64 0))
      have BW := hide ((unhide BW).setCell (p := ⟨w.heap.size, 7, none⟩) (Nat.le_refl _) (.slice none 0 0))
      have BW := hide ((unhide BW).setCell (p := ⟨w.heap.size, 8, none⟩) (Nat.le_refl _) (.slice none 0 0))
      have BW := hide ((unhide BW).setCell (p := ⟨w.heap.size, 9, none⟩) (Nat.le_refl _) (.slice none 0 0))
      have BW := hide ((unhide BW).setCell (p := ⟨w.heap.size, 10, none⟩) (Nat.le_refl _) (.slice none 0 0))
      have BW := hide ((unhide BW).setCell (p := ⟨w.heap.size, 11, none⟩) (Nat.le_refl _) (.slice none 0 0))
      go_wp2_with fail
      exact bodyPost_ret (v := .tuple #[.agg #[.int .i64 0, .int .i64 0, .int .i64 0, .int .i64 0, .int .i64 0, .slice none 0 0, .int .i64 0, .slice none 0 0, .slice none 0 0, .slice none 0 0, .slice none 0 0, .slice none 0 0], .bool false]) (by simp [results, Tryz.results9, go_sem, r0, r1, r2, r3, r4, r5, r6, r7, r8, r9, ra, rb]) rfl ⟨zM, zP, by rw [mofM, unhide hno]; rfl, by rw [unhide hno]; rfl, ⟨Nat.zero_le _, Nat.zero_le _, Nat.zero_le _, Nat.zero_le _, Nat.zero_le _, Nat.zero_le _⟩, owMg_nil _ _, unhide BW⟩
    · have hso : Hid (mof xs = some m) := hide (by rw [unhide hsome, if_pos (unhide hok)])
      have BW := BL3
      have MW := OM3
      have BW := hide ((unhide BW).setCell (p := ⟨w.heap.size, 0, none⟩) (Nat.le_refl _) (.int .i64 m.k))
      have MW := hide ((unhide MW).set ⟨w.heap.size, 0, none⟩ (by show w.heap.size < _; omega) (.int .i64 m.k))
      have BW := hide ((unhide BW).setCell (p := ⟨w.heap.size, 1, none⟩) (Nat.le_refl _) (.int .i64 m.f))
      have MW := hide ((unhide MW).set ⟨w.heap.size, 1, none⟩ (by show w.heap.size < _; omega) (.int .i64 m.f))
      have BW := hide ((unhide BW).setCell (p := ⟨w.heap.size, 2, none⟩) (Nat.le_refl _) (.int .i64 m.t))
      have MW := hide ((unhide MW).set ⟨w.heap.size, 2, none⟩ (by show w.heap.size < _; omega) (.int .i64 m.t))
      have BW := hide ((unhide BW).setCell (p := ⟨w.heap.size, 3, none⟩) (Nat.le_refl _) (.int .i64 m.n))
      have MW := hide ((unhide MW).set ⟨w.heap.size, 3, none⟩ (by show w.heap.size < _; omega) (.int .i64 m.n))
      have BW := hide ((unhide BW).setCell (p := ⟨w.heap.size, 4, none⟩) (Nat.le_refl _) (.int .i64 m.h))
      have MW := hide ((unhide MW).set ⟨w.heap.size, 4, none⟩ (by show w.heap.size < _; omega) (.int .i64 m.h))
      have BW := hide ((unhide BW).setCell (p := ⟨w.heap.size, 5, none⟩) (Nat.le_refl _) (.slice p.ta p.tn p.tc))
      have MW := hide ((unhide MW).set ⟨w.heap.size, 5, none⟩ (by show w.heap.size < _; omega) (.slice p.ta p.tn p.tc))
      have BW := hide ((unhide BW).setCell (p := ⟨w.heap.size, 6, none⟩) (Nat.le_refl _) (.int .i64 m.tr))
      have MW := hide ((unhide MW).set ⟨w.heap.size, 6, none⟩ (by show w.heap.size < _; omega) (.int .i64 m.tr))
      have BW := hide ((unhide BW).setCell (p := ⟨w.heap.size, 7, none⟩) (Nat.le_refl _) (.slice p.va p.vn p.vc))
      have MW := hide ((unhide MW).set ⟨w.heap.size, 7, none⟩ (by show w.heap.size < _; omega) (.slice p.va p.vn p.vc))
      have BW := hide ((unhide BW).setCell (p := ⟨w.heap.size, 8, none⟩) (Nat.le_refl _) (.slice p.la p.ln p.lc))
      have MW := hide ((unhide MW).set ⟨w.heap.size, 8, none⟩ (by show w.heap.size < _; omega) (.slice p.la p.ln p.lc))
      have BW := hide ((unhide BW).setCell (p := ⟨w.heap.size, 9, none⟩) (Nat.le_refl _) (.slice p.xa p.xn p.xc))
      have MW := hide ((unhide MW).set ⟨w.heap.size, 9, none⟩ (by show w.heap.size < _; omega) (.slice p.xa p.xn p.xc))
      have BW := hide ((unhide BW).setCell (p := ⟨w.heap.size, 10, none⟩) (Nat.le_refl _) (.slice p.ya p.yn p.yc))
      have MW := hide ((unhide MW).set ⟨w.heap.size, 10, none⟩ (by show w.heap.size < _; omega) (.slice p.ya p.yn p.yc))
      have BW := hide ((unhide BW).setCell (p := ⟨w.heap.size, 11, none⟩) (Nat.le_refl _) (.slice p.ka p.kn p.kc))
      have MW := hide ((unhide MW).set ⟨w.heap.size, 11, none⟩ (by show w.heap.size < _; omega) (.slice p.ka p.kn p.kc))
      go_wp2_with fail
      exact bodyPost_ret (v := .tuple #[.agg #[.int .i64 m.k, .int .i64 m.f, .int .i64 m.t, .int .i64 m.n, .int .i64 m.h, .slice p.ta p.tn p.tc, .int .i64 m.tr, .slice p.va p.vn p.vc, .slice p.la p.ln p.lc, .slice p.xa p.xn p.xc, .slice p.ya p.yn p.yc, .slice p.ka p.kn p.kc], .bool true]) (by simp [results, Tryz.results9, go_sem, r0, r1, r2, r3, r4, r5, r6, r7, r8, r9, ra, rb]) rfl ⟨m, p, by rw [mofM, unhide hso]; rfl, by rw [unhide hso]; rfl, unhide HSP, (unhide MW).base (by omega), unhide BW⟩
end Go.Proofs.YtjlocbimkfocnaaGreat
