/-
  StateOk of the program: it answers by 'okS'. No statement is proved here.
-/
import Derived.Test.YtjlocbimkfocnaaApp2
import Derived.Test.YtjlocbimkfocnaaOrd
namespace Go.Proofs.Ytjlocbimkfocnaa
open Go.RowKit

theorem ifloor_v (vi : Value) (a : Option Addr) (n cap : Nat) (fs : List Flr) (id f : Int) (hid : Hid (flo fs id = f)) (w : World) (hn : n ≤ 140737488351232) (hf : Rw encF 2 w (.slice a n cap) fs) :
    Calls Try.prog 80 #[.agg #[vi, .slice a n cap], .int .i64 id] w fun e w' => e = .returned (.int .i64 f) ∧ Below w.heap.size w w' := by
  rw [← unhide hid]; exact ifloor_any vi a n cap fs id w hn hf

set_option maxHeartbeats 4000000 in
set_option maxRecDepth 100000 in
theorem inover_any (ai : Option Addr) (ni ci : Nat) (xs : List Itm) (af : Option Addr) (nf cf : Nat) (fs : List Flr) (ok : Bool) (h0 : Hid (novr fs xs = ok)) (w : World) (hni : ni ≤ 140737488351232) (hnf : nf ≤ 140737488351232) (hx : Rw encI 6 w (.slice ai ni ci) xs) (hf : Rw encF 2 w (.slice af nf cf) fs) :
    Calls Try.prog 42 #[.agg #[.slice ai ni ci, .slice af nf cf]] w fun e w' => e = .returned (.bool ok) ∧ Below w.heap.size w w' := by
  have HX := hide hx
  have HF := hide hf
  clear hx hf
  go_enter Try.func42, Try.ntmps42
  go_wp2
  go_loopw [8] (fun i wr => ∃ k : Nat, k ≤ ni ∧ i = .int .i64 k ∧ novr fs (xs.drop k) = ok ∧ Below w.heap.size w wr ∧ wr.heap[w.heap.size]? = some (.cells #[.slice ai ni ci, .slice af nf cf] 27 (0, 0))) (fun i _ => ni - (intOf i).toNat)
  case atStart => exact ⟨0, Nat.zero_le _, rfl, unhide h0, (Below.refl _ _).alloc (Nat.le_refl _) _, heap_alloc_new w _⟩
  case round =>
    obtain ⟨k, hk, rfl, hrec, hbel, hblk⟩ := hrel
    have HR := hide hrec
    have HB := hide hbel
    have HK := hide hblk
    have hsz := hbel.size
    have hz0 : w.heap.size < wr.heap.size := (Array.getElem?_eq_some_iff.mp hblk).1
    obtain ⟨p0, p1, p2⟩ := blk_cells2 hblk
    clear hrec hblk
    by_cases hlt : k < ni
    · obtain ⟨x, b, off, hx, rfl, hb, hcap, hc⟩ := (unhide HX).at hlt
      obtain ⟨c0, c1, c2, c3, c4, c5⟩ := item_cells (w := wr) (b := b) (off := off) (k := k) (x := x) (fun j hj => (hbel.cell (p := ⟨b, off + k * 6 + j, none⟩) hb).trans (hc j hj))
      have hEq := novr_at (fs := fs) hx
      rw [unhide HR] at hEq
      obtain ⟨fv, hfv⟩ : ∃ fv, flo fs x.1 = fv := ⟨_, rfl⟩
      rw [hfv] at hEq
      have HFV := hide hfv
      have HE := hide hEq
      clear hc hx hbel hEq hfv
      rcases Bool.eq_false_or_eq_true (decide (x.2.1 ≤ fv)) with hle | hle
      all_goals
        go_wp2_with fail
        obtain ⟨W, hW⟩ : ∃ W, W = wr.alloc (.cells #[.int .i64 x.1, .int .i64 x.2.1, .int .i64 x.2.2.1, .int .i64 x.2.2.2.1, .int .i64 x.2.2.2.2.1, .string x.2.2.2.2.2] 64) := ⟨_, rfl⟩
        rw [← hW]
        have hWB : Below wr.heap.size wr W := by rw [hW]; exact (Below.refl _ _).alloc (Nat.le_refl _) _
        have hWs : W.heap.size = wr.heap.size + 1 := by rw [hW]; simp
        have l0 := later_some (w := W) (b := w.heap.size) (o := 0) (by omega) ((hWB.cell (p := ⟨w.heap.size, 0, none⟩) hz0).trans p0)
        have l1 := later_some (w := W) (b := w.heap.size) (o := 1) (by omega) ((hWB.cell (p := ⟨w.heap.size, 1, none⟩) hz0).trans p1)
        have lx0 := later_some (w := W) (b := wr.heap.size) (o := 0) (v := .int .i64 x.1) (by omega) (by rw [hW]; simp)
        have lx1 := later_some (w := W) (b := wr.heap.size) (o := 1) (v := .int .i64 x.2.1) (by omega) (by rw [hW]; simp)
        have HFW := hide ((unhide HF).below (unhide HB |>.trans (hWB.mono hsz)) (Nat.le_refl _))
        have HW := hide (And.intro hWB hWs)
        clear hW hWB hWs
        refine wp_region_later (by kernel_rfl) (by kernel_rfl) ?_
        repeat (go_big_quiet_step (first | (go_at_call 80; exact Calls.later_of (ifloor_v _ _ _ _ _ _ _ HFV _ hnf ((unhide HFW).in_later _ _)))))
        refine wpQuiet_nil ?_
        intro w1 hb1
        obtain ⟨hWB, hWs⟩ := unhide HW
        have HB1 := hide (((unhide HB).trans (hWB.mono hsz)).trans (hb1.mono (by omega)))
        have HK1 := hide ((hb1.block _ (by omega)).trans ((hWB.block _ hz0).trans (unhide HK)))
        clear hb1 hWB hWs HW HB HK HFW
      · go_wp2
        go_ret
        exact ⟨by rw [unhide HE, le_lt hle]; rfl, unhide HB1⟩
      · go_wp2
        go_roundw
        case rel => exact ⟨k + 1, by omega, by go_num, by
          have h := unhide HE
          rw [le_lt hle] at h
          exact h.symm, unhide HB1, unhide HK1⟩
        case measure => simp [intOf]; omega
    · have hEq : ok = true := by
        have h := unhide HR
        rw [drop_end (unhide HX).len.1 hk hlt] at h
        rw [← h]; rfl
      subst hEq
      clear hbel
      go_wp2
      go_ret
      exact ⟨rfl, unhide HB⟩

set_option maxHeartbeats 4000000 in
theorem istateok_any (ai : Option Addr) (ni ci : Nat) (xs : List Itm) (af : Option Addr) (nf cf : Nat) (fs : List Flr) (ok : Bool) (h0 : Hid (okS xs fs = ok)) (w : World) (hni : ni ≤ 140737488351232) (hnf : nf ≤ 140737488351232) (hx : Rw encI 6 w (.slice ai ni ci) xs) (hf : Rw encF 2 w (.slice af nf cf) fs) :
    Calls Try.prog 13 #[.agg #[.slice ai ni ci, .slice af nf cf]] w fun e w' => e = .returned (.bool ok) ∧ Below w.heap.size w w' := by
  have HX := hide hx
  have HF := hide hf
  have hEq := unhide h0
  rw [okS_eq] at hEq
  have HE := hide hEq
  clear hx hf h0 hEq
  rcases Bool.eq_false_or_eq_true (hI (-1) xs) with h1 | h1
  rotate_left
  · have H1 := hide h1
    clear h1
    obtain rfl : ok = false := by rw [← unhide HE, unhide H1]; rfl
    go_enter Try.func13, Try.ntmps13
    go_wp2_with fail
    refine (iordX_any ai ni ci xs _ H1 _ hni ((unhide HX).alloc _)).mono ?_
    rintro e w1 ⟨rfl, b1⟩
    have HB1 := hide (((Below.refl w.heap.size w).alloc (Nat.le_refl _) _).trans (b1.mono (by simp)))
    clear b1
    go_wp2
    go_ret
    exact ⟨rfl, unhide HB1⟩
  have H1 := hide h1
  clear h1
  rcases Bool.eq_false_or_eq_true (gF (-1) fs) with h2 | h2
  rotate_left
  · have H2 := hide h2
    clear h2
    obtain rfl : ok = false := by rw [← unhide HE, unhide H1, unhide H2]; rfl
    go_enter Try.func13, Try.ntmps13
    go_wp2_with fail
    refine (iordX_any ai ni ci xs _ H1 _ hni ((unhide HX).alloc _)).mono ?_
    rintro e w1 ⟨rfl, b1⟩
    obtain ⟨hc1, hf1⟩ := bcell b1
    have hz1 : w.heap.size < w1.heap.size := by have := b1.size; simp at this; omega
    have HB1 := hide (((Below.refl w.heap.size w).alloc (Nat.le_refl _) _).trans (b1.mono (by simp)))
    clear b1
    go_wp2_with fail
    refine (iordF_any af nf cf fs _ H2 _ hnf ((unhide HF).later (unhide HB1))).mono ?_
    rintro e w2 ⟨rfl, b2⟩
    have HB2 := hide ((unhide HB1).trans (b2.mono (by omega)))
    clear b2
    go_wp2
    go_ret
    exact ⟨rfl, unhide HB2⟩
  have H2 := hide h2
  clear h2
  have H3 : Hid (novr fs xs = ok) := by
    have h := unhide HE
    rw [unhide H1, unhide H2] at h
    exact hide h
  go_enter Try.func13, Try.ntmps13
  go_wp2_with fail
  refine (iordX_any ai ni ci xs _ H1 _ hni ((unhide HX).alloc _)).mono ?_
  rintro e w1 ⟨rfl, b1⟩
  obtain ⟨p0, p1, p2⟩ := blk_cells2 ((b1.block w.heap.size (by simp)).trans (heap_alloc_new w _))
  have hz1 : w.heap.size < w1.heap.size := by have := b1.size; simp at this; omega
  have HB1 := hide (((Below.refl w.heap.size w).alloc (Nat.le_refl _) _).trans (b1.mono (by simp)))
  clear b1
  go_wp2_with fail
  refine (iordF_any af nf cf fs _ H2 _ hnf ((unhide HF).later (unhide HB1))).mono ?_
  rintro e w2 ⟨rfl, b2⟩
  have q0 := (b2.cell (p := ⟨w.heap.size, 0, none⟩) hz1).trans p0
  have q1 := (b2.cell (p := ⟨w.heap.size, 1, none⟩) hz1).trans p1
  have HB2 := hide ((unhide HB1).trans (b2.mono (by omega)))
  clear b2 p0 p1 p2
  go_wp2_with fail
  refine (inover_any ai ni ci xs af nf cf fs _ H3 _ hni hnf ((unhide HX).later (unhide HB2)) ((unhide HF).later (unhide HB2))).mono ?_
  rintro e w3 ⟨rfl, b3⟩
  have HB3 := hide ((unhide HB2).trans (b3.mono (unhide HB2).size))
  clear b3
  go_wp2
  go_ret
  exact ⟨rfl, unhide HB3⟩
end Go.Proofs.Ytjlocbimkfocnaa
