/-
  The program's reader of bytes in memory: a number, a text, an entry, an item, a floor, a mark. No statement is proved here.
-/
import Derived.Test.YtbajnnpihjmjmabMsX
import Derived.Test.YtbajnnpihjmjmabIGet
import Derived.Test.YtbajnnpihjmjmabIGetText
import Derived.Test.YtbajnnpihjmjmabTrn
import Derived.Test.YtbajnnpihjmjmabApp2
namespace Go.Proofs.Ytbajnnpihjmjmab
open Go.RowKit

/-- The reader's variable lies in block g; what it reads is a row of bytes. -/
structure Ri (W : World) (g : Nat) (v : Value) (xs : List Int) (c : Cu) : Prop where
  blk : W.heap[g]? = some (.cells #[v, .int .i64 c.1, .bool c.2] 69 (0, 0))
  seg : Seg W v xs
  ne : xs = [] ∨ ∀ a n cc, v = .slice (some a) n cc → a.block ≠ g
  win : Win xs c
theorem grown_all {a b c : World} {g : Option Nat} (h : a.grownBy b g) (k : b.grownBy c g) : a.grownBy c g :=
  ⟨k.os.trans h.os, k.tape.trans h.tape, k.output.trans h.output, Nat.le_trans h.size k.size, fun i hi hne => (k.block i (Nat.lt_of_lt_of_le hi h.size) hne).trans (h.block i hi hne)⟩
theorem grown_lowR {w X Y : World} {g : Nat} (b : Below w.heap.size w X) (h : X.grownBy Y (some g)) : w.grownBy Y (some g) :=
  grown_all ⟨b.os, b.tape, b.output, b.size, fun k hk _ => b.block k hk⟩ h
theorem grown_setR (w : World) (g o : Nat) (u : Value) : w.grownBy (w.setCell ⟨g, o, none⟩ u) (some g) :=
  ⟨rfl, rfl, rfl, by simp, fun i _ hne => heap_setCell_other _ ⟨g, o, none⟩ _ _ (fun e => hne (by rw [e]))⟩
theorem seg_grown {w w' : World} {v : Value} {xs : List Int} {g : Nat} (h : Seg w v xs) (hg : w.grownBy w' (some g)) (hne : xs = [] ∨ ∀ a n cc, v = .slice (some a) n cc → a.block ≠ g) : Seg w' v xs := by
  obtain ⟨a, cap, rfl, hcap, h⟩ := h
  refine ⟨a, cap, rfl, hcap, ?_⟩
  rcases h with h | ⟨b, off, rfl, hlt, hc⟩
  · exact .inl h
  · rcases hne with h | hne
    · exact .inl h
    · have hb := hne _ _ _ rfl
      refine .inr ⟨b, off, rfl, Nat.lt_of_lt_of_le hlt hg.size, fun i hi => ?_⟩
      rw [← hc i hi]
      exact World.cell?_of_block (w := w) (a := ⟨b, off + i, none⟩) (hg.block b hlt (fun e => hb (by simpa using e)))
section
variable {w W X : World} {g : Nat} {v : Value} {xs : List Int} {c d : Cu}
theorem Ri.lt (h : Ri W g v xs c) : g < W.heap.size := (Array.getElem?_eq_some_iff.1 h.blk).1
theorem Ri.cells (h : Ri W g v xs c) : W.cell? ⟨g, 0, none⟩ = some v ∧ W.cell? ⟨g, 1, none⟩ = some (.int .i64 c.1) ∧ W.cell? ⟨g, 2, none⟩ = some (.bool c.2) ∧ ∀ o, W.frozen? ⟨g, o, none⟩ = false := by
  simp [World.cell?, World.frozen?, h.blk]
theorem Ri.later (h : Ri W g v xs c) (b : Below W.heap.size W X) : Ri X g v xs c :=
  ⟨(b.block g h.lt).trans h.blk, h.seg.below b (Nat.le_refl _), h.ne, h.win⟩
theorem Ri.set (h : Ri W g v xs c) (hw : Win xs d) : Ri ((W.setCell ⟨g, 1, none⟩ (.int .i64 d.1)).setCell ⟨g, 2, none⟩ (.bool d.2)) g v xs d ∧ W.grownBy ((W.setCell ⟨g, 1, none⟩ (.int .i64 d.1)).setCell ⟨g, 2, none⟩ (.bool d.2)) (some g) := by
  have G1 := grown_setR W g 1 (.int .i64 d.1)
  have G2 := grown_setR (W.setCell ⟨g, 1, none⟩ (.int .i64 d.1)) g 2 (.bool d.2)
  have b1 := heap_setCell_same _ g 1 _ _ (.int .i64 d.1) h.blk
  have b2 := heap_setCell_same _ g 2 _ _ (.bool d.2) b1
  exact ⟨⟨b2, seg_grown h.seg (grown_all G1 G2) h.ne, h.ne, hw⟩, grown_all G1 G2⟩
theorem Ri.fit (h : Ri W g v xs c) (b : Bool) : Ri (W.setCell ⟨g, 2, none⟩ (.bool b)) g v xs (c.1, b) ∧ W.grownBy (W.setCell ⟨g, 2, none⟩ (.bool b)) (some g) := by
  have G2 := grown_setR W g 2 (.bool b)
  exact ⟨⟨heap_setCell_same _ g 2 _ _ _ h.blk, seg_grown h.seg G2 h.ne, h.ne, h.win⟩, G2⟩
theorem Ri.step (h : Ri W g v xs c) {q : Int} (h0 : 0 ≤ q) (h1 : q ≤ xs.length) : Ri (W.setCell ⟨g, 1, none⟩ (.int .i64 q)) g v xs (q, c.2) ∧ W.grownBy (W.setCell ⟨g, 1, none⟩ (.int .i64 q)) (some g) := by
  have G1 := grown_setR W g 1 (.int .i64 q)
  exact ⟨⟨heap_setCell_same _ g 1 _ _ _ h.blk, seg_grown h.seg G1 h.ne, h.ne, ⟨h0, h1⟩⟩, G1⟩
end
set_option maxHeartbeats 2000000 in
set_option maxRecDepth 100000 in
theorem rfit_any (g : Nat) (v : Value) (xs : List Int) (c : Cu) (ok : Bool) (w : World) (h : Ri w g v xs c) :
    Calls Try.prog 77 #[.pointer (some ⟨g, 0, none⟩), .bool ok] w fun e w' => e = .returned (.tuple #[]) ∧ Ri w' g v xs (c.1, c.2 || !ok) ∧ w.grownBy w' (some g) := by
  obtain ⟨p, b⟩ := c
  have HP := hide (h.fit (b || !ok))
  obtain ⟨c0, c1, c2, cf⟩ := h.cells
  simp only at c1 c2
  have hgl := h.lt
  clear h
  cases b <;> cases ok
  all_goals
    go_enter Try.func77, Try.ntmps77
    go_wp2
    go_end0
    exact ⟨rfl, (unhide HP).1, (unhide HP).2⟩
set_option maxHeartbeats 2000000 in
set_option maxRecDepth 100000 in
theorem rstep_any (g : Nat) (v : Value) (xs : List Int) (c : Cu) (q : Int) (ok : Bool) (w : World) (h0 : 0 ≤ q) (h1 : q ≤ xs.length) (h : Ri w g v xs c) :
    Calls Try.prog 86 #[.pointer (some ⟨g, 0, none⟩), .int .i64 q, .bool ok] w fun e w' => e = .returned (.tuple #[]) ∧ Ri w' g v xs (q, c.2 || !ok) ∧ w.grownBy w' (some g) := by
  have HP := hide (h.step h0 h1)
  obtain ⟨c0, c1, c2, cf⟩ := h.cells
  have hgl := h.lt
  clear h
  go_enter Try.func86, Try.ntmps86
  go_wp2_with fail
  refine (rfit_any g v xs (q, c.2) ok _ (unhide HP).1).mono ?_
  rintro e w1 ⟨rfl, r1, g1⟩
  have HR := hide r1
  have HG := hide (grown_all (unhide HP).2 g1)
  clear r1 g1
  go_wp2
  go_end0
  exact ⟨rfl, unhide HR, unhide HG⟩
set_option maxHeartbeats 2000000 in
set_option maxRecDepth 100000 in
theorem rnum_any (g : Nat) (v : Value) (xs : List Int) (c : Cu) (w : World) (hlen : xs.length ≤ 140737488351232) (hbd : ∀ z ∈ xs, 0 ≤ z ∧ z ≤ 255) (h : Ri w g v xs c) :
    Calls Try.prog 76 #[.pointer (some ⟨g, 0, none⟩)] w fun e w' => e = .returned (.int .i64 (riN xs c).1) ∧ Ri w' g v xs (riN xs c).2 ∧ w.grownBy w' (some g) := by
  obtain ⟨p, b⟩ := c
  have HR := hide h
  have hW := (reads_num hbd).win (p, b) h.win
  obtain ⟨c0, c1, c2, cf⟩ := h.cells
  have hlo : 0 ≤ p := h.win.1
  have hhi : p ≤ xs.length := h.win.2
  simp only at c1 c2
  have hgl := h.lt
  have l0 := later_some (w := w) hgl c0
  have l1 := later_some (w := w) hgl c1
  have l2 := later_some (w := w) hgl c2
  have HC : Hid (∀ W, Seg W v xs → Calls Try.prog 85 #[v, .int .i64 p] W fun e w' => e = .returned (gres (getN xs p)) ∧ W = w') := hide (fun W hs => igetnum_any v xs p W hlen hbd hs (by omega) (by omega))
  obtain ⟨gx, hgx⟩ : ∃ gx, getN xs p = gx := ⟨_, rfl⟩
  rw [hgx] at HC
  clear h hbd c0 c1 c2 cf
  rcases gx with _ | ⟨n, q⟩
  · have HRN := hide (show riN xs (p, b) = _ from by unfold riN; rw [show ((p, b) : Cu).1 = p from rfl, hgx])
    clear hgx
    simp only [gres] at HC
    rw [unhide HRN] at hW ⊢
    simp only at hW ⊢
    have hW0 := hW.1
    have hW1 := hW.2
    simp only at hW0 hW1
    clear hW
    go_enter Try.func76, Try.ntmps76
    go_wp2_with fail
    refine wp_region_later (by kernel_rfl) (by kernel_rfl) ?_
    repeat (go_big_quiet_step (first
      | (go_at_call 85; exact Calls.later_same (unhide HC _ ((unhide HR).seg.below (later_below _ _ _) (Nat.le_refl _))))))
    refine wpQuiet_nil ?_
    intro w1 b1
    have HB := hide b1
    have HR1 := hide ((unhide HR).later b1)
    clear b1 l0 l1 l2
    go_wp2_with fail
    refine (rstep_any g v xs (p, b) 0 false w1 (by omega) (by omega) (unhide HR1)).mono ?_
    rintro e w2 ⟨rfl, r2, g2⟩
    have HR2 := hide r2
    have HG2 := hide (grown_lowR (unhide HB) g2)
    clear r2 g2
    go_wp2
    go_ret
    exact ⟨rfl, by have h := unhide HR2; simpa using h, unhide HG2⟩
  · have HRN := hide (show riN xs (p, b) = _ from by unfold riN; rw [show ((p, b) : Cu).1 = p from rfl, hgx])
    clear hgx
    simp only [gres] at HC
    rw [unhide HRN] at hW ⊢
    simp only at hW ⊢
    have hW0 := hW.1
    have hW1 := hW.2
    simp only at hW0 hW1
    clear hW
    go_enter Try.func76, Try.ntmps76
    go_wp2_with fail
    refine wp_region_later (by kernel_rfl) (by kernel_rfl) ?_
    repeat (go_big_quiet_step (first
      | (go_at_call 85; exact Calls.later_same (unhide HC _ ((unhide HR).seg.below (later_below _ _ _) (Nat.le_refl _))))))
    refine wpQuiet_nil ?_
    intro w1 b1
    have HB := hide b1
    have HR1 := hide ((unhide HR).later b1)
    clear b1 l0 l1 l2
    go_wp2_with fail
    refine (rstep_any g v xs (p, b) q true w1 (by omega) (by omega) (unhide HR1)).mono ?_
    rintro e w2 ⟨rfl, r2, g2⟩
    have HR2 := hide r2
    have HG2 := hide (grown_lowR (unhide HB) g2)
    clear r2 g2
    go_wp2
    go_ret
    exact ⟨rfl, by have h := unhide HR2; simpa using h, unhide HG2⟩
set_option maxHeartbeats 2000000 in
set_option maxRecDepth 100000 in
theorem rtext_any (g : Nat) (v : Value) (xs : List Int) (c : Cu) (w : World) (hlen : xs.length ≤ 140737488351232) (hbd : ∀ z ∈ xs, 0 ≤ z ∧ z ≤ 255) (h : Ri w g v xs c) :
    Calls Try.prog 87 #[.pointer (some ⟨g, 0, none⟩)] w fun e w' => e = .returned (.string (strOfNums (riT xs c).1)) ∧ Ri w' g v xs (riT xs c).2 ∧ w.grownBy w' (some g) := by
  obtain ⟨p, b⟩ := c
  have HR := hide h
  have hW := (reads_text hbd).win (p, b) h.win
  obtain ⟨c0, c1, c2, cf⟩ := h.cells
  have hlo : 0 ≤ p := h.win.1
  have hhi : p ≤ xs.length := h.win.2
  simp only at c1 c2
  have hgl := h.lt
  have l0 := later_some (w := w) hgl c0
  have l1 := later_some (w := w) hgl c1
  have l2 := later_some (w := w) hgl c2
  have HC : Hid (∀ W, Seg W v xs → Calls Try.prog 93 #[v, .int .i64 p] W fun e w' => e = .returned (tres (getT xs p)) ∧ W = w') := hide (fun W hs => igettext_any v xs p W hlen hbd hs (by omega) (by omega))
  obtain ⟨gx, hgx⟩ : ∃ gx, getT xs p = gx := ⟨_, rfl⟩
  rw [hgx] at HC
  clear h hbd c0 c1 c2 cf
  rcases gx with _ | ⟨n, q⟩
  · have HRN := hide (show riT xs (p, b) = _ from by unfold riT; rw [show ((p, b) : Cu).1 = p from rfl, hgx])
    clear hgx
    simp only [tres] at HC
    rw [unhide HRN] at hW ⊢
    simp only at hW ⊢
    have hW0 := hW.1
    have hW1 := hW.2
    simp only at hW0 hW1
    clear hW
    go_enter Try.func87, Try.ntmps87
    go_wp2_with fail
    refine wp_region_later (by kernel_rfl) (by kernel_rfl) ?_
    repeat (go_big_quiet_step (first
      | (go_at_call 93; exact Calls.later_same (unhide HC _ ((unhide HR).seg.below (later_below _ _ _) (Nat.le_refl _))))))
    refine wpQuiet_nil ?_
    intro w1 b1
    have HB := hide b1
    have HR1 := hide ((unhide HR).later b1)
    clear b1 l0 l1 l2
    go_wp2_with fail
    refine (rstep_any g v xs (p, b) 0 false w1 (by omega) (by omega) (unhide HR1)).mono ?_
    rintro e w2 ⟨rfl, r2, g2⟩
    have HR2 := hide r2
    have HG2 := hide (grown_lowR (unhide HB) g2)
    clear r2 g2
    go_wp2
    go_ret
    exact ⟨rfl, by have h := unhide HR2; simpa using h, unhide HG2⟩
  · have HRN := hide (show riT xs (p, b) = _ from by unfold riT; rw [show ((p, b) : Cu).1 = p from rfl, hgx])
    clear hgx
    simp only [tres] at HC
    rw [unhide HRN] at hW ⊢
    simp only at hW ⊢
    have hW0 := hW.1
    have hW1 := hW.2
    simp only at hW0 hW1
    clear hW
    go_enter Try.func87, Try.ntmps87
    go_wp2_with fail
    refine wp_region_later (by kernel_rfl) (by kernel_rfl) ?_
    repeat (go_big_quiet_step (first
      | (go_at_call 93; exact Calls.later_same (unhide HC _ ((unhide HR).seg.below (later_below _ _ _) (Nat.le_refl _))))))
    refine wpQuiet_nil ?_
    intro w1 b1
    have HB := hide b1
    have HR1 := hide ((unhide HR).later b1)
    clear b1 l0 l1 l2
    go_wp2_with fail
    refine (rstep_any g v xs (p, b) q true w1 (by omega) (by omega) (unhide HR1)).mono ?_
    rintro e w2 ⟨rfl, r2, g2⟩
    have HR2 := hide r2
    have HG2 := hide (grown_lowR (unhide HB) g2)
    clear r2 g2
    go_wp2
    go_ret
    exact ⟨rfl, by have h := unhide HR2; simpa using h, unhide HG2⟩
end Go.Proofs.Ytbajnnpihjmjmab
