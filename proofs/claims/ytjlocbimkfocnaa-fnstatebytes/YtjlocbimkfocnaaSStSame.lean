/-
  StateSame of the specification: it answers whether both read the same. No statement is proved here.
-/
import Derived.Test.YtjlocbimkfocnaaStEqP
import Derived.Test.YtjlocbimkfocnaaApp2
namespace Go.Proofs.Ytjlocbimkfocnaa
open Go.RowKit

set_option maxHeartbeats 4000000 in
set_option maxRecDepth 100000 in
theorem ssame_any (ai : Option Addr) (ni ci : Nat) (xs : List Itm) (af : Option Addr) (nf cf : Nat) (fs : List Flr) (bi : Option Addr) (mi di : Nat) (ys : List Itm) (bf : Option Addr) (mf df : Nat) (gs : List Flr) (r : Bool) (hr : Hid ((decide (xs = ys) && decide (fs = gs)) = r)) (w : World)
    (hni : ni ≤ 140737488351232) (hnf : nf ≤ 140737488351232) (hmi : mi ≤ 140737488351232) (hmf : mf ≤ 140737488351232) (hx : Rw encI 6 w (.slice ai ni ci) xs) (hf : Rw encF 2 w (.slice af nf cf) fs) (hy : Rw encI 6 w (.slice bi mi di) ys) (hg : Rw encF 2 w (.slice bf mf df) gs) :
    Calls Try.prog 10 #[.agg #[.slice ai ni ci, .slice af nf cf], .agg #[.slice bi mi di, .slice bf mf df]] w fun e w' => e = .returned (.bool r) ∧ Below w.heap.size w w' := by
  have HX := hide hx
  have HY := hide hy
  have HF := hide hf
  have HG := hide hg
  clear hx hy hf hg
  by_cases h1 : ni = mi
  rotate_left
  · have d1 := nb_false h1
    obtain rfl : r = false := by
      rw [← unhide hr]
      have h := same_len (unhide HX).len.1 (unhide HY).len.1 h1
      simp [h]
    clear h1
    go_enter Try.func10, Try.ntmps10
    go_wp2
    go_ret
    exact ⟨rfl, ((Below.refl _ _).alloc (Nat.le_refl _) _).alloc (by simp) _⟩
  subst h1
  have d1 : ((ni : Int) != (ni : Int)) = false := by simp
  by_cases h2 : nf = mf
  rotate_left
  · have d2 := nb_false h2
    obtain rfl : r = false := by
      rw [← unhide hr]
      have h := same_len (unhide HF).len.1 (unhide HG).len.1 h2
      simp [h]
    clear h2
    go_enter Try.func10, Try.ntmps10
    go_wp2
    go_ret
    exact ⟨rfl, ((Below.refl _ _).alloc (Nat.le_refl _) _).alloc (by simp) _⟩
  subst h2
  have d2 : ((nf : Int) != (nf : Int)) = false := by simp
  go_enter Try.func10, Try.ntmps10
  go_wp2
  go_loopw [5] (fun i wr => ∃ k : Nat, k ≤ ni ∧ i = .int .i64 k ∧ (∀ j : Nat, j < k → xs[j]? = ys[j]?) ∧ Below w.heap.size w wr ∧ wr.heap[w.heap.size]? = some (.cells #[.slice ai ni ci, .slice af nf cf] 27 (0, 0)) ∧ wr.heap[w.heap.size + 1]? = some (.cells #[.slice bi ni di, .slice bf nf df] 27 (0, 0))) (fun i _ => ni - (intOf i).toNat)
  case atStart => exact ⟨0, Nat.zero_le _, rfl, fun j hj => absurd hj (Nat.not_lt_zero _), ((Below.refl _ _).alloc (Nat.le_refl _) _).alloc (by simp) _, lowB2 w _ _, newB2 w _ _⟩
  case round =>
    obtain ⟨k, hk, rfl, hno, hbel, ka, kb⟩ := hrel
    have HN := hide hno
    have HB := hide hbel
    have KA := hide ka
    have KB := hide kb
    have hsz := hbel.size
    have hz : w.heap.size + 1 < wr.heap.size := (Array.getElem?_eq_some_iff.mp kb).1
    obtain ⟨p0, p1, -⟩ := blk_cells2 ka
    obtain ⟨q0, q1, -⟩ := blk_cells2 kb
    clear hno ka kb
    by_cases hlt : k < ni
    · obtain ⟨x, b, off, hx, rfl, hb, hcap, hc⟩ := (unhide HX).at hlt
      obtain ⟨y, b2, off2, hy, rfl, hb2, hcap2, hc2⟩ := (unhide HY).at hlt
      have l0 := later_some (w := wr) (b := b) (o := off + k * 6) (v := .int .i64 x.1) (by omega) ((hbel.cell (p := ⟨b, off + k * 6, none⟩) hb).trans (hc 0 (by omega)))
      have l1 := later_some (w := wr) (b := b) (o := off + k * 6 + 1) (v := .int .i64 x.2.1) (by omega) ((hbel.cell (p := ⟨b, off + k * 6 + 1, none⟩) hb).trans (hc 1 (by omega)))
      have l2 := later_some (w := wr) (b := b) (o := off + k * 6 + 2) (v := .int .i64 x.2.2.1) (by omega) ((hbel.cell (p := ⟨b, off + k * 6 + 2, none⟩) hb).trans (hc 2 (by omega)))
      have l3 := later_some (w := wr) (b := b) (o := off + k * 6 + 3) (v := .int .i64 x.2.2.2.1) (by omega) ((hbel.cell (p := ⟨b, off + k * 6 + 3, none⟩) hb).trans (hc 3 (by omega)))
      have l4 := later_some (w := wr) (b := b) (o := off + k * 6 + 4) (v := .int .i64 x.2.2.2.2.1) (by omega) ((hbel.cell (p := ⟨b, off + k * 6 + 4, none⟩) hb).trans (hc 4 (by omega)))
      have l5 := later_some (w := wr) (b := b) (o := off + k * 6 + 5) (v := .string x.2.2.2.2.2) (by omega) ((hbel.cell (p := ⟨b, off + k * 6 + 5, none⟩) hb).trans (hc 5 (by omega)))
      have m0 := later_some (w := wr) (b := b2) (o := off2 + k * 6) (v := .int .i64 y.1) (by omega) ((hbel.cell (p := ⟨b2, off2 + k * 6, none⟩) hb2).trans (hc2 0 (by omega)))
      have m1 := later_some (w := wr) (b := b2) (o := off2 + k * 6 + 1) (v := .int .i64 y.2.1) (by omega) ((hbel.cell (p := ⟨b2, off2 + k * 6 + 1, none⟩) hb2).trans (hc2 1 (by omega)))
      have m2 := later_some (w := wr) (b := b2) (o := off2 + k * 6 + 2) (v := .int .i64 y.2.2.1) (by omega) ((hbel.cell (p := ⟨b2, off2 + k * 6 + 2, none⟩) hb2).trans (hc2 2 (by omega)))
      have m3 := later_some (w := wr) (b := b2) (o := off2 + k * 6 + 3) (v := .int .i64 y.2.2.2.1) (by omega) ((hbel.cell (p := ⟨b2, off2 + k * 6 + 3, none⟩) hb2).trans (hc2 3 (by omega)))
      have m4 := later_some (w := wr) (b := b2) (o := off2 + k * 6 + 4) (v := .int .i64 y.2.2.2.2.1) (by omega) ((hbel.cell (p := ⟨b2, off2 + k * 6 + 4, none⟩) hb2).trans (hc2 4 (by omega)))
      have m5 := later_some (w := wr) (b := b2) (o := off2 + k * 6 + 5) (v := .string y.2.2.2.2.2) (by omega) ((hbel.cell (p := ⟨b2, off2 + k * 6 + 5, none⟩) hb2).trans (hc2 5 (by omega)))
      have s0 := later_some (w := wr) (b := w.heap.size) (o := 0) (by omega) p0
      have s1 := later_some (w := wr) (b := w.heap.size) (o := 1) (by omega) p1
      have t0 := later_some (w := wr) (b := w.heap.size + 1) (o := 0) (by omega) q0
      have t1 := later_some (w := wr) (b := w.heap.size + 1) (o := 1) (by omega) q1
      have HX1 := hide hx
      have HY1 := hide hy
      clear hc hc2 hx hy hbel
      rcases Bool.eq_false_or_eq_true (decide (x = y)) with he | he
      · have hrun := eqI_run x y true he
        have HE := hide (same_step (unhide HX1) (unhide HY1) (of_decide_eq_true he) (unhide HN))
        clear he
        go_wp2_with fail
        refine wp_region_later (by kernel_rfl) (by kernel_rfl) ?_
        repeat (first | go_big_quiet_step (fail) | quiet_step (fail))
        refine wpQuiet_nil ?_
        intro w1 hb1
        have HB1 := hide ((unhide HB).trans (hb1.mono hsz))
        have KA1 := hide ((hb1.block _ (by omega)).trans (unhide KA))
        have KB1 := hide ((hb1.block _ (by omega)).trans (unhide KB))
        clear hb1 HB KA KB hrun p0 p1 q0 q1
        go_wp2
        go_roundw
        case rel => exact ⟨k + 1, by omega, by go_num, unhide HE, unhide HB1, unhide KA1, unhide KB1⟩
        case measure => simp [intOf]; omega
      · have hrun := eqI_run x y false he
        obtain rfl : r = false := by
          rw [← unhide hr]
          have h := same_not (unhide HX1) (unhide HY1) (of_decide_eq_false he)
          simp [h]
        clear he
        go_wp2_with fail
        refine wp_region_later (by kernel_rfl) (by kernel_rfl) ?_
        repeat (first | go_big_quiet_step (fail) | quiet_step (fail))
        refine wpQuiet_nil ?_
        intro w1 hb1
        have HB1 := hide ((unhide HB).trans (hb1.mono hsz))
        clear hb1 HB hrun
        go_wp2
        go_ret
        exact ⟨rfl, unhide HB1⟩
    · have HE := hide (same_all (unhide HX).len.1 (unhide HY).len.1 ((show k = ni by omega) ▸ unhide HN))
      clear hbel HN
      have HEI := HE
      clear HE hsz
      go_wp2
      clear p0 p1 q0 q1 hlt
      go_loopw [6] (fun i wr => ∃ k : Nat, k ≤ nf ∧ i = .int .i64 k ∧ (∀ j : Nat, j < k → fs[j]? = gs[j]?) ∧ Below w.heap.size w wr ∧ wr.heap[w.heap.size]? = some (.cells #[.slice ai ni ci, .slice af nf cf] 27 (0, 0)) ∧ wr.heap[w.heap.size + 1]? = some (.cells #[.slice bi ni di, .slice bf nf df] 27 (0, 0))) (fun i _ => nf - (intOf i).toNat)
      case atStart => exact ⟨0, Nat.zero_le _, rfl, fun j hj => absurd hj (Nat.not_lt_zero _), unhide HB, unhide KA, unhide KB⟩
      case round =>
        clear HB KA KB hz hk
        rename_i wr0 wr
        obtain ⟨k, hk, rfl, hno, hbel, ka, kb⟩ := hrel
        have HN := hide hno
        have HB := hide hbel
        have KA := hide ka
        have KB := hide kb
        have hsz := hbel.size
        have hz : w.heap.size + 1 < wr.heap.size := (Array.getElem?_eq_some_iff.mp kb).1
        obtain ⟨p0, p1, -⟩ := blk_cells2 ka
        obtain ⟨q0, q1, -⟩ := blk_cells2 kb
        clear hno ka kb
        by_cases hlt : k < nf
        · obtain ⟨x, b, off, hx, rfl, hb, hcap, hc⟩ := (unhide HF).at hlt
          obtain ⟨y, b2, off2, hy, rfl, hb2, hcap2, hc2⟩ := (unhide HG).at hlt
          have l0 := later_some (w := wr) (b := b) (o := off + k * 2) (v := .int .i64 x.1) (by omega) ((hbel.cell (p := ⟨b, off + k * 2, none⟩) hb).trans (hc 0 (by omega)))
          have l1 := later_some (w := wr) (b := b) (o := off + k * 2 + 1) (v := .int .i64 x.2) (by omega) ((hbel.cell (p := ⟨b, off + k * 2 + 1, none⟩) hb).trans (hc 1 (by omega)))
          have m0 := later_some (w := wr) (b := b2) (o := off2 + k * 2) (v := .int .i64 y.1) (by omega) ((hbel.cell (p := ⟨b2, off2 + k * 2, none⟩) hb2).trans (hc2 0 (by omega)))
          have m1 := later_some (w := wr) (b := b2) (o := off2 + k * 2 + 1) (v := .int .i64 y.2) (by omega) ((hbel.cell (p := ⟨b2, off2 + k * 2 + 1, none⟩) hb2).trans (hc2 1 (by omega)))
          have s0 := later_some (w := wr) (b := w.heap.size) (o := 0) (by omega) p0
          have s1 := later_some (w := wr) (b := w.heap.size) (o := 1) (by omega) p1
          have t0 := later_some (w := wr) (b := w.heap.size + 1) (o := 0) (by omega) q0
          have t1 := later_some (w := wr) (b := w.heap.size + 1) (o := 1) (by omega) q1
          have HX1 := hide hx
          have HY1 := hide hy
          clear hc hc2 hx hy hbel
          rcases Bool.eq_false_or_eq_true (decide (x = y)) with he | he
          · have hrun := eqF_run x y true he
            have HE := hide (same_step (unhide HX1) (unhide HY1) (of_decide_eq_true he) (unhide HN))
            clear he
            go_wp2_with fail
            refine wp_region_later (by kernel_rfl) (by kernel_rfl) ?_
            repeat (first | go_big_quiet_step (fail) | quiet_step (fail))
            refine wpQuiet_nil ?_
            intro w1 hb1
            have HB1 := hide ((unhide HB).trans (hb1.mono hsz))
            have KA1 := hide ((hb1.block _ (by omega)).trans (unhide KA))
            have KB1 := hide ((hb1.block _ (by omega)).trans (unhide KB))
            clear hb1 HB KA KB hrun p0 p1 q0 q1
            go_wp2
            go_roundw
            case rel => exact ⟨k + 1, by omega, by go_num, unhide HE, unhide HB1, unhide KA1, unhide KB1⟩
            case measure => simp [intOf]; omega
          · have hrun := eqF_run x y false he
            obtain rfl : r = false := by
              rw [← unhide hr]
              have h := same_not (unhide HX1) (unhide HY1) (of_decide_eq_false he)
              simp [h]
            clear he
            go_wp2_with fail
            refine wp_region_later (by kernel_rfl) (by kernel_rfl) ?_
            repeat (first | go_big_quiet_step (fail) | quiet_step (fail))
            refine wpQuiet_nil ?_
            intro w1 hb1
            have HB1 := hide ((unhide HB).trans (hb1.mono hsz))
            clear hb1 HB hrun
            go_wp2
            go_ret
            exact ⟨rfl, unhide HB1⟩
        · have HE := hide (same_all (unhide HF).len.1 (unhide HG).len.1 ((show k = nf by omega) ▸ unhide HN))
          clear hbel HN
          obtain rfl : r = true := by
            rw [← unhide hr, unhide HEI, unhide HE]
            simp
          go_wp2
          go_ret
          exact ⟨rfl, unhide HB⟩
end Go.Proofs.Ytjlocbimkfocnaa
