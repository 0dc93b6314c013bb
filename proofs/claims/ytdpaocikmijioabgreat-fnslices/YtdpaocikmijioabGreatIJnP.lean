/-
  StateSame of the specification: it answers whether both read the same. No statement is proved here.
  StateSame of the program: it answers whether both read the same. No statement is proved here.
  The program's joinFloors. No statement is proved here.
  A row that came in as an argument: what it reads as. No statement is proved here.
  A state that came in as an argument: its value written out, and what its rows read as. No statement is proved here.
  A map from nodes to entries, as a function. No statement is proved here.
  The program's joinItems and dropOver: what they do to the map. No statement is proved here.
  What the map holds behind both states' items and the floors: the joined items. No program here, no statement is proved here.
-/
import Derived.Test.YtdpaocikmijioabGreatStEqP
import Derived.Test.YtdpaocikmijioabGreatRegs6
import Derived.Test.YtdpaocikmijioabGreatStJP
import Derived.Test.YtdpaocikmijioabGreatApp2
import Derived.Test.YtdpaocikmijioabGreatIStOk
import Derived.Test.YtdpaocikmijioabGreatStT
import Derived.Test.YtdpaocikmijioabGreatStM
import Derived.Test.YtdpaocikmijioabGreatRw
import Derived.ProofKit
import Derived.ChangeArms
import Derived.Deep.Slices
import Derived.Test.YtdpaocikmijioabGreatStA
import Derived.Maps.RangeWalk
import Derived.Maps.OwnSet
import Derived.Maps.OwnOps
import Derived.Maps.Ext
import Derived.Test.YtdpaocikmijioabGreatSt3
import Derived.Deep.RegionHeld3
import Derived.Test.YtdpaocikmijioabGreatVwP
namespace Go.Proofs.YtdpaocikmijioabGreat
open Go.RowKit

set_option maxHeartbeats 4000000 in
set_option maxRecDepth 100000 in
theorem ssame_any (ai : Option Addr) (ni ci : Nat) (xs : List Itm) (af : Option Addr) (nf cf : Nat) (fs : List Flr) (bi : Option Addr) (mi di : Nat) (ys : List Itm) (bf : Option Addr) (mf df : Nat) (gs : List Flr) (r : Bool) (hr : Hid ((decide (xs = ys) && decide (fs = gs)) = r)) (w : World)
    (hni : ni ≤ 140737488351232) (hnf : nf ≤ 140737488351232) (hmi : mi ≤ 140737488351232) (hmf : mf ≤ 140737488351232) (hx : Rw encI 6 w (.slice ai ni ci) xs) (hf : Rw encF 2 w (.slice af nf cf) fs) (hy : Rw encI 6 w (.slice bi mi di) ys) (hg : Rw encF 2 w (.slice bf mf df) gs) :
    Calls Tryz.prog 24 #[.agg #[.slice ai ni ci, .slice af nf cf], .agg #[.slice bi mi di, .slice bf mf df]] w fun e w' => e = .returned (.bool r) ∧ Below w.heap.size w w' := by
  have HX := hide hx
  have HY := hide hy
  have HF := hide hf
  have HG := hide hg
  clear hx hy hf hg
  by_cases h1 : ni = mi
  rotate_left
  · have d1 := nb_false h1
    obtain rfl : r = false := by
      rw [← unhide hr]
      have h := same_len (unhide HX).len.1 (unhide HY).len.1 h1
      simp [h]
    clear h1
    go_enter Tryz.func24, Tryz.ntmps24
    go_wp2
    go_ret
    exact ⟨rfl, ((Below.refl _ _).alloc (Nat.le_refl _) _).alloc (by simp) _⟩
  subst h1
  have d1 : ((ni : Int) != (ni : Int)) = false := by simp
  by_cases h2 : nf = mf
  rotate_left
  · have d2 := nb_false h2
    obtain rfl : r = false := by
      rw [← unhide hr]
      have h := same_len (unhide HF).len.1 (unhide HG).len.1 h2
      simp [h]
    clear h2
    go_enter Tryz.func24, Tryz.ntmps24
    go_wp2
    go_ret
    exact ⟨rfl, ((Below.refl _ _).alloc (Nat.le_refl _) _).alloc (by simp) _⟩
  subst h2
  have d2 : ((nf : Int) != (nf : Int)) = false := by simp
  go_enter Tryz.func24, Tryz.ntmps24
  go_wp2
  go_loopw [5] (fun i wr => ∃ k : Nat, k ≤ ni ∧ i = .int .i64 k ∧ (∀ j : Nat, j < k → xs[j]? = ys[j]?) ∧ Below w.heap.size w wr ∧ wr.heap[w.heap.size]? = some (.cells #[.slice ai ni ci, .slice af nf cf] 27 (0, 0)) ∧ wr.heap[w.heap.size + 1]? = some (.cells #[.slice bi ni di, .slice bf nf df] 27 (0, 0))) (fun i _ => ni - (intOf i).toNat)
  case atStart => exact ⟨0, Nat.zero_le _, rfl, fun j hj => absurd hj (Nat.not_lt_zero _), ((Below.refl _ _).alloc (Nat.le_refl _) _).alloc (by simp) _, lowB2 w _ _, newB2 w _ _⟩
  case round =>
    obtain ⟨k, hk, rfl, hno, hbel, ka, kb⟩ := hrel
    have HN := hide hno
    have HB := hide hbel
    have KA := hide ka
    have KB := hide kb
    have hsz := hbel.size
    have hz : w.heap.size + 1 < wr.heap.size := (Array.getElem?_eq_some_iff.mp kb).1
    obtain ⟨p0, p1, -⟩ := blk_cells2 ka
    obtain ⟨q0, q1, -⟩ := blk_cells2 kb
    clear hno ka kb
    by_cases hlt : k < ni
    · obtain ⟨x, b, off, hx, rfl, hb, hcap, hc⟩ := (unhide HX).at hlt
      obtain ⟨y, b2, off2, hy, rfl, hb2, hcap2, hc2⟩ := (unhide HY).at hlt
      have l0 := later_some (w := wr) (b := b) (o := off + k * 6) (v := .int .i64 x.1) (by omega) ((hbel.cell (p := ⟨b, off + k * 6, none⟩) hb).trans (hc 0 (by omega)))
      have l1 := later_some (w := wr) (b := b) (o := off + k * 6 + 1) (v := .int .i64 x.2.1) (by omega) ((hbel.cell (p := ⟨b, off + k * 6 + 1, none⟩) hb).trans (hc 1 (by omega)))
      have l2 := later_some (w := wr) (b := b) (o := off + k * 6 + 2) (v := .int .i64 x.2.2.1) (by omega) ((hbel.cell (p := ⟨b, off + k * 6 + 2, none⟩) hb).trans (hc 2 (by omega)))
      have l3 := later_some (w := wr) (b := b) (o := off + k * 6 + 3) (v := .int .i64 x.2.2.2.1) (by omega) ((hbel.cell (p := ⟨b, off + k * 6 + 3, none⟩) hb).trans (hc 3 (by omega)))
      have l4 := later_some (w := wr) (b := b) (o := off + k * 6 + 4) (v := .int .i64 x.2.2.2.2.1) (by omega) ((hbel.cell (p := ⟨b, off + k * 6 + 4, none⟩) hb).trans (hc 4 (by omega)))
      have l5 := later_some (w := wr) (b := b) (o := off + k * 6 + 5) (v := .string x.2.2.2.2.2) (by omega) ((hbel.cell (p := ⟨b, off + k * 6 + 5, none⟩) hb).trans (hc 5 (by omega)))
      have m0 := later_some (w := wr) (b := b2) (o := off2 + k * 6) (v := .int .i64 y.1) (by omega) ((hbel.cell (p := ⟨b2, off2 + k * 6, none⟩) hb2).trans (hc2 0 (by omega)))
      have m1 := later_some (w := wr) (b := b2) (o := off2 + k * 6 + 1) (v := .int .i64 y.2.1) (by omega) ((hbel.cell (p := ⟨b2, off2 + k * 6 + 1, none⟩) hb2).trans (hc2 1 (by omega)))
      have m2 := later_some (w := wr) (b := b2) (o := off2 + k * 6 + 2) (v := .int .i64 y.2.2.1) (by omega) ((hbel.cell (p := ⟨b2, off2 + k * 6 + 2, none⟩) hb2).trans (hc2 2 (by omega)))
      have m3 := later_some (w := wr) (b := b2) (o := off2 + k * 6 + 3) (v := .int .i64 y.2.2.2.1) (by omega) ((hbel.cell (p := ⟨b2, off2 + k * 6 + 3, none⟩) hb2).trans (hc2 3 (by omega)))
      have m4 := later_some (w := wr) (b := b2) (o := off2 + k * 6 + 4) (v := .int .i64 y.2.2.2.2.1) (by omega) ((hbel.cell (p := ⟨b2, off2 + k * 6 + 4, none⟩) hb2).trans (hc2 4 (by omega)))
      have m5 := later_some (w := wr) (b := b2) (o := off2 + k * 6 + 5) (v := .string y.2.2.2.2.2) (by omega) ((hbel.cell (p := ⟨b2, off2 + k * 6 + 5, none⟩) hb2).trans (hc2 5 (by omega)))
      have s0 := later_some (w := wr) (b := w.heap.size) (o := 0) (by omega) p0
      have s1 := later_some (w := wr) (b := w.heap.size) (o := 1) (by omega) p1
      have t0 := later_some (w := wr) (b := w.heap.size + 1) (o := 0) (by omega) q0
      have t1 := later_some (w := wr) (b := w.heap.size + 1) (o := 1) (by omega) q1
      have HX1 := hide hx
      have HY1 := hide hy
      clear hc hc2 hx hy hbel
      rcases Bool.eq_false_or_eq_true (decide (x = y)) with he | he
      · have hrun := eqI_run x y true he
        have HE := hide (same_step (unhide HX1) (unhide HY1) (of_decide_eq_true he) (unhide HN))
        clear he
        go_wp2_with fail
        refine wp_region_later (by kernel_rfl) (by kernel_rfl) ?_
        repeat (first | go_big_quiet_step (fail) | quiet_step (fail))
        refine wpQuiet_nil ?_
        intro w1 hb1
        have HB1 := hide ((unhide HB).trans (hb1.mono hsz))
        have KA1 := hide ((hb1.block _ (by omega)).trans (unhide KA))
        have KB1 := hide ((hb1.block _ (by omega)).trans (unhide KB))
        clear hb1 HB KA KB hrun p0 p1 q0 q1
        go_wp2
        go_roundw
        case rel => exact ⟨k + 1, by omega, by go_num, unhide HE, unhide HB1, unhide KA1, unhide KB1⟩
        case measure => simp [intOf]; omega
      · have hrun := eqI_run x y false he
        obtain rfl : r = false := by
          rw [← unhide hr]
          have h := same_not (unhide HX1) (unhide HY1) (of_decide_eq_false he)
          simp [h]
        clear he
        go_wp2_with fail
        refine wp_region_later (by kernel_rfl) (by kernel_rfl) ?_
        repeat (first | go_big_quiet_step (fail) | quiet_step (fail))
        refine wpQuiet_nil ?_
        intro w1 hb1
        have HB1 := hide ((unhide HB).trans (hb1.mono hsz))
        clear hb1 HB hrun
        go_wp2
        go_ret
        exact ⟨rfl, unhide HB1⟩
    · have HE := hide (same_all (unhide HX).len.1 (unhide HY).len.1 ((show k = ni by omega) ▸ unhide HN))
      clear hbel HN
      have HEI := HE
      clear HE hsz
      go_wp2
      clear p0 p1 q0 q1 hlt
      go_loopw [6] (fun i wr => ∃ k : Nat, k ≤ nf ∧ i = .int .i64 k ∧ (∀ j : Nat, j < k → fs[j]? = gs[j]?) ∧ Below w.heap.size w wr ∧ wr.heap[w.heap.size]? = some (.cells #[.slice ai ni ci, .slice af nf cf] 27 (0, 0)) ∧ wr.heap[w.heap.size + 1]? = some (.cells #[.slice bi ni di, .slice bf nf df] 27 (0, 0))) (fun i _ => nf - (intOf i).toNat)
      case atStart => exact ⟨0, Nat.zero_le _, rfl, fun j hj => absurd hj (Nat.not_lt_zero _), unhide HB, unhide KA, unhide KB⟩
      case round =>
        clear HB KA KB hz hk
        rename_i wr0 wr
        obtain ⟨k, hk, rfl, hno, hbel, ka, kb⟩ := hrel
        have HN := hide hno
        have HB := hide hbel
        have KA := hide ka
        have KB := hide kb
        have hsz := hbel.size
        have hz : w.heap.size + 1 < wr.heap.size := (Array.getElem?_eq_some_iff.mp kb).1
        obtain ⟨p0, p1, -⟩ := blk_cells2 ka
        obtain ⟨q0, q1, -⟩ := blk_cells2 kb
        clear hno ka kb
        by_cases hlt : k < nf
        · obtain ⟨x, b, off, hx, rfl, hb, hcap, hc⟩ := (unhide HF).at hlt
          obtain ⟨y, b2, off2, hy, rfl, hb2, hcap2, hc2⟩ := (unhide HG).at hlt
          have l0 := later_some (w := wr) (b := b) (o := off + k * 2) (v := .int .i64 x.1) (by omega) ((hbel.cell (p := ⟨b, off + k * 2, none⟩) hb).trans (hc 0 (by omega)))
          have l1 := later_some (w := wr) (b := b) (o := off + k * 2 + 1) (v := .int .i64 x.2) (by omega) ((hbel.cell (p := ⟨b, off + k * 2 + 1, none⟩) hb).trans (hc 1 (by omega)))
          have m0 := later_some (w := wr) (b := b2) (o := off2 + k * 2) (v := .int .i64 y.1) (by omega) ((hbel.cell (p := ⟨b2, off2 + k * 2, none⟩) hb2).trans (hc2 0 (by omega)))
          have m1 := later_some (w := wr) (b := b2) (o := off2 + k * 2 + 1) (v := .int .i64 y.2) (by omega) ((hbel.cell (p := ⟨b2, off2 + k * 2 + 1, none⟩) hb2).trans (hc2 1 (by omega)))
          have s0 := later_some (w := wr) (b := w.heap.size) (o := 0) (by omega) p0
          have s1 := later_some (w := wr) (b := w.heap.size) (o := 1) (by omega) p1
          have t0 := later_some (w := wr) (b := w.heap.size + 1) (o := 0) (by omega) q0
          have t1 := later_some (w := wr) (b := w.heap.size + 1) (o := 1) (by omega) q1
          have HX1 := hide hx
          have HY1 := hide hy
          clear hc hc2 hx hy hbel
          rcases Bool.eq_false_or_eq_true (decide (x = y)) with he | he
          · have hrun := eqF_run x y true he
            have HE := hide (same_step (unhide HX1) (unhide HY1) (of_decide_eq_true he) (unhide HN))
            clear he
            go_wp2_with fail
            refine wp_region_later (by kernel_rfl) (by kernel_rfl) ?_
            repeat (first | go_big_quiet_step (fail) | quiet_step (fail))
            refine wpQuiet_nil ?_
            intro w1 hb1
            have HB1 := hide ((unhide HB).trans (hb1.mono hsz))
            have KA1 := hide ((hb1.block _ (by omega)).trans (unhide KA))
            have KB1 := hide ((hb1.block _ (by omega)).trans (unhide KB))
            clear hb1 HB KA KB hrun p0 p1 q0 q1
            go_wp2
            go_roundw
            case rel => exact ⟨k + 1, by omega, by go_num, unhide HE, unhide HB1, unhide KA1, unhide KB1⟩
            case measure => simp [intOf]; omega
          · have hrun := eqF_run x y false he
            obtain rfl : r = false := by
              rw [← unhide hr]
              have h := same_not (unhide HX1) (unhide HY1) (of_decide_eq_false he)
              simp [h]
            clear he
            go_wp2_with fail
            refine wp_region_later (by kernel_rfl) (by kernel_rfl) ?_
            repeat (first | go_big_quiet_step (fail) | quiet_step (fail))
            refine wpQuiet_nil ?_
            intro w1 hb1
            have HB1 := hide ((unhide HB).trans (hb1.mono hsz))
            clear hb1 HB hrun
            go_wp2
            go_ret
            exact ⟨rfl, unhide HB1⟩
        · have HE := hide (same_all (unhide HF).len.1 (unhide HG).len.1 ((show k = nf by omega) ▸ unhide HN))
          clear hbel HN
          obtain rfl : r = true := by
            rw [← unhide hr, unhide HEI, unhide HE]
            simp
          go_wp2
          go_ret
          exact ⟨rfl, unhide HB⟩
end Go.Proofs.YtdpaocikmijioabGreat

namespace Go.Proofs.YtdpaocikmijioabGreat
open Go.RowKit

set_option maxHeartbeats 2000000 in
theorem sleqi_any (a : Option Addr) (n cap : Nat) (a2 : Option Addr) (m cap2 : Nat) (xs ys : List Itm) (r : Bool) (hr : Hid (decide (xs = ys) = r)) (w : World) (hn : n ≤ 140737488351232) (hm : m ≤ 140737488351232) (hx : Rw encI 6 w (.slice a n cap) xs) (hy : Rw encI 6 w (.slice a2 m cap2) ys) :
    Calls Tryz.prog 68 #[.slice a n cap, .slice a2 m cap2] w fun e w' => e = .returned (.bool r) ∧ Below w.heap.size w w' := by
  have HX := hide hx
  have HY := hide hy
  clear hx hy
  by_cases hnm : n = m
  rotate_left
  · have d0 := nb_false hnm
    obtain rfl : r = false := by rw [← unhide hr]; simpa using same_len (unhide HX).len.1 (unhide HY).len.1 hnm
    go_enter Tryz.func68, Tryz.ntmps68
    go_wp2
    go_ret
    exact ⟨rfl, Below.refl _ _⟩
  subst hnm
  have d0 : ((n : Int) != (n : Int)) = false := by simp
  go_enter Tryz.func68, Tryz.ntmps68
  go_wp2
  go_loopw [13] (fun i wr => ∃ k : Nat, k ≤ n ∧ i = .int .i64 k ∧ (∀ j : Nat, j < k → xs[j]? = ys[j]?) ∧ Below w.heap.size w wr) (fun i _ => n - (intOf i).toNat)
  case atStart => exact ⟨0, Nat.zero_le _, rfl, fun j hj => absurd hj (Nat.not_lt_zero _), Below.refl _ _⟩
  case round =>
    obtain ⟨k, hk, rfl, hno, hbel⟩ := hrel
    have HN := hide hno
    have HB := hide hbel
    have hsz := hbel.size
    clear hno
    by_cases hlt : k < n
    · obtain ⟨x, b, off, hx, rfl, hb, hcap, hc⟩ := (unhide HX).at hlt
      obtain ⟨y, b2, off2, hy, rfl, hb2, hcap2, hc2⟩ := (unhide HY).at hlt
      have l0 := later_some (w := wr) (b := b) (o := off + k * 6) (v := .int .i64 x.1) (by omega) ((hbel.cell (p := ⟨b, off + k * 6, none⟩) hb).trans (hc 0 (by omega)))
      have l1 := later_some (w := wr) (b := b) (o := off + k * 6 + 1) (v := .int .i64 x.2.1) (by omega) ((hbel.cell (p := ⟨b, off + k * 6 + 1, none⟩) hb).trans (hc 1 (by omega)))
      have l2 := later_some (w := wr) (b := b) (o := off + k * 6 + 2) (v := .int .i64 x.2.2.1) (by omega) ((hbel.cell (p := ⟨b, off + k * 6 + 2, none⟩) hb).trans (hc 2 (by omega)))
      have l3 := later_some (w := wr) (b := b) (o := off + k * 6 + 3) (v := .int .i64 x.2.2.2.1) (by omega) ((hbel.cell (p := ⟨b, off + k * 6 + 3, none⟩) hb).trans (hc 3 (by omega)))
      have l4 := later_some (w := wr) (b := b) (o := off + k * 6 + 4) (v := .int .i64 x.2.2.2.2.1) (by omega) ((hbel.cell (p := ⟨b, off + k * 6 + 4, none⟩) hb).trans (hc 4 (by omega)))
      have l5 := later_some (w := wr) (b := b) (o := off + k * 6 + 5) (v := .string x.2.2.2.2.2) (by omega) ((hbel.cell (p := ⟨b, off + k * 6 + 5, none⟩) hb).trans (hc 5 (by omega)))
      have m0 := later_some (w := wr) (b := b2) (o := off2 + k * 6) (v := .int .i64 y.1) (by omega) ((hbel.cell (p := ⟨b2, off2 + k * 6, none⟩) hb2).trans (hc2 0 (by omega)))
      have m1 := later_some (w := wr) (b := b2) (o := off2 + k * 6 + 1) (v := .int .i64 y.2.1) (by omega) ((hbel.cell (p := ⟨b2, off2 + k * 6 + 1, none⟩) hb2).trans (hc2 1 (by omega)))
      have m2 := later_some (w := wr) (b := b2) (o := off2 + k * 6 + 2) (v := .int .i64 y.2.2.1) (by omega) ((hbel.cell (p := ⟨b2, off2 + k * 6 + 2, none⟩) hb2).trans (hc2 2 (by omega)))
      have m3 := later_some (w := wr) (b := b2) (o := off2 + k * 6 + 3) (v := .int .i64 y.2.2.2.1) (by omega) ((hbel.cell (p := ⟨b2, off2 + k * 6 + 3, none⟩) hb2).trans (hc2 3 (by omega)))
      have m4 := later_some (w := wr) (b := b2) (o := off2 + k * 6 + 4) (v := .int .i64 y.2.2.2.2.1) (by omega) ((hbel.cell (p := ⟨b2, off2 + k * 6 + 4, none⟩) hb2).trans (hc2 4 (by omega)))
      have m5 := later_some (w := wr) (b := b2) (o := off2 + k * 6 + 5) (v := .string y.2.2.2.2.2) (by omega) ((hbel.cell (p := ⟨b2, off2 + k * 6 + 5, none⟩) hb2).trans (hc2 5 (by omega)))
      have HX1 := hide hx
      have HY1 := hide hy
      clear hc hc2 hx hy hbel
      rcases Bool.eq_false_or_eq_true (decide (x = y)) with he | he
      · have hrun := eqI_run x y true he
        have HE := hide (same_step (unhide HX1) (unhide HY1) (of_decide_eq_true he) (unhide HN))
        clear he
        go_wp2_with fail
        refine wp_region_later (by kernel_rfl) (by kernel_rfl) ?_
        repeat (first | go_big_quiet_step (fail) | quiet_step (fail))
        refine wpQuiet_nil ?_
        intro w1 hb1
        have HB1 := hide ((unhide HB).trans (hb1.mono hsz))
        clear hb1 HB hrun
        go_wp2
        go_roundw
        case rel => exact ⟨k + 1, by omega, by go_num, unhide HE, unhide HB1⟩
        case measure => simp [intOf]; omega
      · have hrun := eqI_run x y false he
        obtain rfl : r = false := by rw [← unhide hr]; simpa using same_not (unhide HX1) (unhide HY1) (of_decide_eq_false he)
        clear he
        go_wp2_with fail
        refine wp_region_later (by kernel_rfl) (by kernel_rfl) ?_
        repeat (first | go_big_quiet_step (fail) | quiet_step (fail))
        refine wpQuiet_nil ?_
        intro w1 hb1
        have HB1 := hide ((unhide HB).trans (hb1.mono hsz))
        clear hb1 HB hrun
        go_wp2
        go_ret
        exact ⟨rfl, unhide HB1⟩
    · obtain rfl : r = true := by
        rw [← unhide hr]
        have e : k = n := by omega
        simpa using same_all (unhide HX).len.1 (unhide HY).len.1 (e ▸ unhide HN)
      clear hbel
      go_wp2
      go_ret
      exact ⟨rfl, unhide HB⟩

set_option maxHeartbeats 2000000 in
theorem sleqf_any (a : Option Addr) (n cap : Nat) (a2 : Option Addr) (m cap2 : Nat) (xs ys : List Flr) (r : Bool) (hr : Hid (decide (xs = ys) = r)) (w : World) (hn : n ≤ 140737488351232) (hm : m ≤ 140737488351232) (hx : Rw encF 2 w (.slice a n cap) xs) (hy : Rw encF 2 w (.slice a2 m cap2) ys) :
    Calls Tryz.prog 69 #[.slice a n cap, .slice a2 m cap2] w fun e w' => e = .returned (.bool r) ∧ Below w.heap.size w w' := by
  have HX := hide hx
  have HY := hide hy
  clear hx hy
  by_cases hnm : n = m
  rotate_left
  · have d0 := nb_false hnm
    obtain rfl : r = false := by rw [← unhide hr]; simpa using same_len (unhide HX).len.1 (unhide HY).len.1 hnm
    go_enter Tryz.func69, Tryz.ntmps69
    go_wp2
    go_ret
    exact ⟨rfl, Below.refl _ _⟩
  subst hnm
  have d0 : ((n : Int) != (n : Int)) = false := by simp
  go_enter Tryz.func69, Tryz.ntmps69
  go_wp2
  go_loopw [13] (fun i wr => ∃ k : Nat, k ≤ n ∧ i = .int .i64 k ∧ (∀ j : Nat, j < k → xs[j]? = ys[j]?) ∧ Below w.heap.size w wr) (fun i _ => n - (intOf i).toNat)
  case atStart => exact ⟨0, Nat.zero_le _, rfl, fun j hj => absurd hj (Nat.not_lt_zero _), Below.refl _ _⟩
  case round =>
    obtain ⟨k, hk, rfl, hno, hbel⟩ := hrel
    have HN := hide hno
    have HB := hide hbel
    have hsz := hbel.size
    clear hno
    by_cases hlt : k < n
    · obtain ⟨x, b, off, hx, rfl, hb, hcap, hc⟩ := (unhide HX).at hlt
      obtain ⟨y, b2, off2, hy, rfl, hb2, hcap2, hc2⟩ := (unhide HY).at hlt
      have l0 := later_some (w := wr) (b := b) (o := off + k * 2) (v := .int .i64 x.1) (by omega) ((hbel.cell (p := ⟨b, off + k * 2, none⟩) hb).trans (hc 0 (by omega)))
      have l1 := later_some (w := wr) (b := b) (o := off + k * 2 + 1) (v := .int .i64 x.2) (by omega) ((hbel.cell (p := ⟨b, off + k * 2 + 1, none⟩) hb).trans (hc 1 (by omega)))
      have m0 := later_some (w := wr) (b := b2) (o := off2 + k * 2) (v := .int .i64 y.1) (by omega) ((hbel.cell (p := ⟨b2, off2 + k * 2, none⟩) hb2).trans (hc2 0 (by omega)))
      have m1 := later_some (w := wr) (b := b2) (o := off2 + k * 2 + 1) (v := .int .i64 y.2) (by omega) ((hbel.cell (p := ⟨b2, off2 + k * 2 + 1, none⟩) hb2).trans (hc2 1 (by omega)))
      have HX1 := hide hx
      have HY1 := hide hy
      clear hc hc2 hx hy hbel
      rcases Bool.eq_false_or_eq_true (decide (x = y)) with he | he
      · have hrun := eqF_run x y true he
        have HE := hide (same_step (unhide HX1) (unhide HY1) (of_decide_eq_true he) (unhide HN))
        clear he
        go_wp2_with fail
        refine wp_region_later (by kernel_rfl) (by kernel_rfl) ?_
        repeat (first | go_big_quiet_step (fail) | quiet_step (fail))
        refine wpQuiet_nil ?_
        intro w1 hb1
        have HB1 := hide ((unhide HB).trans (hb1.mono hsz))
        clear hb1 HB hrun
        go_wp2
        go_roundw
        case rel => exact ⟨k + 1, by omega, by go_num, unhide HE, unhide HB1⟩
        case measure => simp [intOf]; omega
      · have hrun := eqF_run x y false he
        obtain rfl : r = false := by rw [← unhide hr]; simpa using same_not (unhide HX1) (unhide HY1) (of_decide_eq_false he)
        clear he
        go_wp2_with fail
        refine wp_region_later (by kernel_rfl) (by kernel_rfl) ?_
        repeat (first | go_big_quiet_step (fail) | quiet_step (fail))
        refine wpQuiet_nil ?_
        intro w1 hb1
        have HB1 := hide ((unhide HB).trans (hb1.mono hsz))
        clear hb1 HB hrun
        go_wp2
        go_ret
        exact ⟨rfl, unhide HB1⟩
    · obtain rfl : r = true := by
        rw [← unhide hr]
        have e : k = n := by omega
        simpa using same_all (unhide HX).len.1 (unhide HY).len.1 (e ▸ unhide HN)
      clear hbel
      go_wp2
      go_ret
      exact ⟨rfl, unhide HB⟩

set_option maxHeartbeats 2000000 in
theorem isame_any (ai : Option Addr) (ni ci : Nat) (xs : List Itm) (af : Option Addr) (nf cf : Nat) (fs : List Flr) (bi : Option Addr) (mi di : Nat) (ys : List Itm) (bf : Option Addr) (mf df : Nat) (gs : List Flr) (r : Bool) (hr : Hid ((decide (xs = ys) && decide (fs = gs)) = r)) (w : World)
    (hni : ni ≤ 140737488351232) (hnf : nf ≤ 140737488351232) (hmi : mi ≤ 140737488351232) (hmf : mf ≤ 140737488351232) (hx : Rw encI 6 w (.slice ai ni ci) xs) (hf : Rw encF 2 w (.slice af nf cf) fs) (hy : Rw encI 6 w (.slice bi mi di) ys) (hg : Rw encF 2 w (.slice bf mf df) gs) :
    Calls Tryz.prog 30 #[.agg #[.slice ai ni ci, .slice af nf cf], .agg #[.slice bi mi di, .slice bf mf df]] w fun e w' => e = .returned (.bool r) ∧ Below w.heap.size w w' := by
  have HX := hide hx
  have HY := hide hy
  have HF := hide hf
  have HG := hide hg
  clear hx hy hf hg
  obtain ⟨r1, hr1⟩ : ∃ r1, decide (xs = ys) = r1 := ⟨_, rfl⟩
  obtain ⟨r2, hr2⟩ : ∃ r2, decide (fs = gs) = r2 := ⟨_, rfl⟩
  have HR1 := hide hr1
  have HR2 := hide hr2
  have hrr := unhide hr
  rw [hr1, hr2] at hrr
  clear hr1 hr2 hr
  cases r1
  · obtain rfl : r = false := hrr.symm
    go_enter Tryz.func30, Tryz.ntmps30
    go_wp2_with fail
    refine (sleqi_any ai ni ci bi mi di xs ys _ HR1 _ hni hmi (((unhide HX).alloc _).alloc _) (((unhide HY).alloc _).alloc _)).mono ?_
    rintro e w1 ⟨rfl, b1⟩
    have HB := hide ((((Below.refl w.heap.size w).alloc (Nat.le_refl _) _).alloc (by simp) _).trans (b1.mono (by simp; omega)))
    clear b1
    go_wp2
    go_ret
    exact ⟨rfl, unhide HB⟩
  · obtain rfl : r = r2 := hrr.symm
    clear hrr
    go_enter Tryz.func30, Tryz.ntmps30
    go_wp2_with fail
    refine (sleqi_any ai ni ci bi mi di xs ys _ HR1 _ hni hmi (((unhide HX).alloc _).alloc _) (((unhide HY).alloc _).alloc _)).mono ?_
    rintro e w1 ⟨rfl, b1⟩
    obtain ⟨p0, p1, -⟩ := blk_cells2 ((b1.block w.heap.size (by simp; omega)).trans (lowB2 w _ _))
    obtain ⟨q0, q1, -⟩ := blk_cells2 ((b1.block (w.heap.size + 1) (by simp)).trans (newB2 w _ _))
    have HB := hide ((((Below.refl w.heap.size w).alloc (Nat.le_refl _) _).alloc (by simp) _).trans (b1.mono (by simp; omega)))
    clear b1
    go_wp2_with fail
    refine (sleqf_any af nf cf bf mf df fs gs _ HR2 _ hnf hmf ((unhide HF).later (unhide HB)) ((unhide HG).later (unhide HB))).mono ?_
    rintro e w2 ⟨rfl, b2⟩
    have HB2 := hide ((unhide HB).trans (b2.mono (unhide HB).size))
    clear b2
    go_wp2
    go_ret
    exact ⟨rfl, unhide HB2⟩
end Go.Proofs.YtdpaocikmijioabGreat

namespace Go.Proofs.YtdpaocikmijioabGreat
open Go.RowKit

set_option maxHeartbeats 8000000 in
set_option maxRecDepth 100000 in
theorem ijoinf_any (vi : Value) (af : Option Addr) (nf cf : Nat) (fs : List Flr) (vj : Value) (bf : Option Addr) (mf df : Nat) (gs : List Flr) (w : World)
    (hnf : nf ≤ 140737488351232) (hmf : mf ≤ 140737488351232) (hf : Rw encF 2 w (.slice af nf cf) fs) (hg : Rw encF 2 w (.slice bf mf df) gs) :
    Calls Tryz.prog 48 #[.agg #[vi, .slice af nf cf], .agg #[vj, .slice bf mf df]] w fun e w' => ∃ a2 n2 c2, e = .returned (.slice a2 n2 c2) ∧ OwF w.heap.size w' (.slice a2 n2 c2) (joinF fs gs) ∧ Below w.heap.size w w' := by
  obtain ⟨i1, gi, gz0, gz1, gz2⟩ := info_parts Tryz.infoFloor
  have HF := hide hf
  have HG := hide hg
  clear hf hg
  go_enter Tryz.func48, Tryz.ntmps48
  go_wp2
  go_loopw [5, 8] (fun v i wr => ∃ (k : Nat) (a2 : Option Addr) (n2 c2 : Nat), k ≤ 5 ∧ i = .int .i64 k ∧ v = .slice a2 n2 c2 ∧ OwF w.heap.size wr (.slice a2 n2 c2) (jF fs gs k) ∧ Below w.heap.size w wr ∧ wr.heap[w.heap.size]? = some (.cells #[vi, .slice af nf cf] 27 (0, 0)) ∧ wr.heap[w.heap.size + 1]? = some (.cells #[vj, .slice bf mf df] 27 (0, 0))) (fun _ i _ => 5 - (intOf i).toNat)
  case atStart => exact ⟨0, none, 0, 0, by omega, rfl, rfl, World.ownsRow_nil _ _ _ _, ((Below.refl _ _).alloc (Nat.le_refl _) _).alloc (by simp) _, lowB2 w _ _, newB2 w _ _⟩
  case round =>
    obtain ⟨k, a2, n2, c2, hk, rfl, rfl, hown, hbel, ka, kb⟩ := hrel
    have HO := hide hown
    have HB := hide hbel
    have KA := hide ka
    have KB := hide kb
    have hsz := hbel.size
    have hz : w.heap.size + 1 < wr.heap.size := (Array.getElem?_eq_some_iff.mp kb).1
    obtain ⟨pa0, pa1, -⟩ := blk_cells2 ka
    obtain ⟨pb0, pb1, -⟩ := blk_cells2 kb
    clear hown ka kb
    by_cases hlt : k < 5
    · obtain ⟨fa, hfa⟩ : ∃ fa, flo fs k = fa := ⟨_, rfl⟩
      obtain ⟨fb, hfb⟩ : ∃ fb, flo gs k = fb := ⟨_, rfl⟩
      have HFA := hide hfa
      have HFB := hide hfb
      have HF0 : Hid (fl2 fs gs k = max fa fb) := hide (by rw [fl2, hfa, hfb]; split <;> omega)
      have hdk : decide ((k : Int) < 5) = true := by simp; omega
      clear hfa hfb
      have la0 := later_some (w := wr) (b := w.heap.size) (o := 0) (by omega) pa0
      have la1 := later_some (w := wr) (b := w.heap.size) (o := 1) (by omega) pa1
      have lb0 := later_some (w := wr) (b := w.heap.size + 1) (o := 0) (by omega) pb0
      have lb1 := later_some (w := wr) (b := w.heap.size + 1) (o := 1) (by omega) pb1
      have RF := hide ((unhide HF).later hbel)
      have RG := hide ((unhide HG).later hbel)
      clear hbel
      go_wp2_with fail
      refine wp_region_later (by kernel_rfl) (by kernel_rfl) ?_
      repeat (go_big_quiet_step (first
        | (go_at_call_of 53 (Value.slice af nf cf); exact Calls.later_of (ifloor_v _ af nf cf fs _ fa HFA _ hnf ((unhide RF).in_later _ _)))
        | (go_at_call_of 53 (Value.slice bf mf df); exact Calls.later_of (ifloor_v _ bf mf df gs _ fb HFB _ hmf ((unhide RG).in_later _ _)))))
      refine wpQuiet_nil ?_
      intro w1 hb1
      generalize hm : max fa fb = f at HF0 ⊢
      have HO1 := hide ((unhide HO).later hb1)
      have HB1 := hide ((unhide HB).trans (hb1.mono hsz))
      have KA1 := hide ((hb1.block _ (by omega)).trans (unhide KA))
      have KB1 := hide ((hb1.block _ (by omega)).trans (unhide KB))
      have hz1 : w.heap.size + 1 < w1.heap.size := Nat.lt_of_lt_of_le hz hb1.size
      have hn2 : Hid (n2 = (jF fs gs k).length) := hide ((unhide HO1).rw encF_len).len.1
      have hn2l : n2 ≤ 5 := by have := unhide hn2; have := jF_len fs gs k; omega
      clear hm hb1 la0 la1 lb0 lb1 RF RG pa0 pa1 pb0 pb1 HO HB KA KB HFA HFB hsz hz
      have hw1 : w.heap.size ≤ w1.heap.size := by omega
      rcases Bool.eq_false_or_eq_true (decide (0 < f)) with hpos | hpos
      · go_wp2_with (first | (at_builtin; refine wpList_app1 encF_len (by omega) oneF 84 25 i1 _ 16 Tryz.underlying25 gi gz0 gz1 gz2 rfl (by omega) w1 ((k : Int), f) rfl _ _ rfl w.heap.size _ (jF fs gs k) n2 hn2 rfl (unhide HO1) rfl (by omega) hw1 ?_; intro a2' c2' w2 hO hG; have HO2 := hide hO; have HB2 := hide ((Trn.of_grown hG).below (unhide HB1) hw1 (fun i q => (World.ownsRow.lt (unhide HO1) i q).1)); have HG2 := hide hG; clear hO hG))
        go_roundw
        case rel =>
          have hnA := own_ne (unhide HO1) (unhide KA1) (by decide)
          have hnB := own_ne (unhide HO1) (unhide KB1) (by decide)
          exact ⟨k + 1, a2', n2 + 1, c2', by omega, by go_num, rfl, by rw [jF_pos (by rw [unhide HF0]; exact hpos), unhide HF0]; exact unhide HO2, unhide HB2, ((unhide HG2).block _ (by omega) (fun q => hnA q.symm)).trans (unhide KA1), ((unhide HG2).block _ (by omega) (fun q => hnB q.symm)).trans (unhide KB1)⟩
        case measure => simp [intOf]; omega
      · go_wp2
        go_roundw
        case rel => exact ⟨k + 1, a2, n2, c2, by omega, by go_num, rfl, by rw [jF_neg (by rw [unhide HF0]; exact hpos)]; exact unhide HO1, unhide HB1, unhide KA1, unhide KB1⟩
        case measure => simp [intOf]; omega
    · have hdk : decide ((k : Int) < 5) = false := by simp; omega
      have HE : Hid (OwF w.heap.size wr (.slice a2 n2 c2) (joinF fs gs)) := by
        have h := unhide HO
        have e : k = 5 := by omega
        rw [e] at h
        exact hide h
      clear hbel HO
      go_wp2
      go_ret
      exact ⟨a2, n2, c2, rfl, unhide HE, unhide HB⟩
end Go.Proofs.YtdpaocikmijioabGreat

namespace Go.Proofs.YtdpaocikmijioabGreat
open Go.ChangeShapes Go.WideShapes Go.ChangeAt Go.RowKit

def FitN (n : Int) : Prop := -9223372036854775808 ≤ n ∧ n ≤ 9223372036854775807
theorem list_of {α : Type} {p : Nat → α → Prop} : ∀ (n : Nat), (∀ i, i < n → ∃ y, p i y) → ∃ xs : List α, xs.length = n ∧ ∀ (i : Nat) (y : α), xs[i]? = some y → p i y
  | 0, _ => ⟨[], rfl, fun i y h => by simp at h⟩
  | n + 1, h => by
    obtain ⟨xs, hl, hx⟩ := list_of n (fun i hi => h i (by omega))
    obtain ⟨y, hy⟩ := h n (by omega)
    refine ⟨xs ++ [y], by simp [hl], fun i z hz => ?_⟩
    by_cases hi : i < n
    · rw [List.getElem?_append_left (by omega)] at hz; exact hx i z hz
    · have hlt := (List.getElem?_eq_some_iff.1 hz).1
      simp [hl] at hlt
      obtain rfl : i = n := by omega
      rw [List.getElem?_append_right (by omega)] at hz
      simp [hl] at hz
      subst hz; exact hy

theorem fit_of {n : Int} (h : (Lit.int .i64 n).wf = true) : FitN n := by
  simp [Lit.wf, IntKind.min, IntKind.max, IntKind.bits, IntKind.signed] at h
  unfold FitN
  omega

theorem addr_off (b off i : Nat) : (⟨b, off, none⟩ : Addr).add i = ⟨b, off + i, none⟩ := by
  unfold Addr.add
  split
  · rename_i e; rw [e]; rfl
  · rfl

section
variable {H : Type} {enc : TypeId × Value → H} {w : World} {base : Nat} {spare : Nat → Bool} {held : Bool}

/-- A slice whose elements are structs. -/
theorem rw_of_slice {α : Type} {ec : α → List Value} {k : Nat} {Q : α → Prop} {T E : TypeId} (hT : Tryz.prog.underlying T = some (.slice E)) (hE : Tryz.prog.cellsOf E = k) (h0 : 0 < k)
    (dec : ∀ (fuel : Nat) (cs : List Value) (x : DataW H × List MemPlace), DataW.trod enc Tryz.prog w base spare held fuel E cs = some x → ∃ y, cs = ec y ∧ Q y)
    {fuel : Nat} {c : Value} {x : DataW H × List MemPlace} (h : DataW.trod enc Tryz.prog w base spare held fuel T [c] = some x) :
    ∃ a n cap xs, c = .slice a n cap ∧ n ≤ maxLen ∧ Rw ec k w (.slice a n cap) xs ∧ ∀ (i : Nat) (y : α), xs[i]? = some y → Q y := by
  rcases Deep.open_slice hT h with ⟨h1, -⟩ | ⟨a, len, cap, m, n, D, Pl, h1, hb, hl, hm, hmm, -, hx⟩
  · simp only [List.cons.injEq, and_true] at h1
    exact ⟨none, 0, 0, [], h1, by unfold maxLen; omega, Rw.nil, fun i y hy => by simp at hy⟩
  · simp only [List.cons.injEq, and_true] at h1
    subst h1
    have hlm : len ≤ m := by rw [hmm]; split <;> omega
    obtain ⟨xs, hxl, hxs⟩ := list_of (p := fun i y => (w.cells? base (a.add (i * k)) k = some (ec y)) ∧ Q y) len (fun i hi => by
      obtain ⟨cs', e1, e2⟩ := hx i (by omega)
      obtain ⟨y, rfl, hq⟩ := dec _ _ _ e2
      rw [hE] at e1
      exact ⟨y, e1, hq⟩)
    refine ⟨some a, len, cap, xs, rfl, by omega, ?_, fun i y hy => (hxs i y hy).2⟩
    subst hxl
    refine ⟨some a, cap, rfl, hl, ?_⟩
    by_cases hz : xs = []
    · exact .inl hz
    · have hpos : 0 < xs.length := List.length_pos_iff.2 hz
      have hc0 := (hxs 0 xs[0] (by simp [hpos])).1
      obtain ⟨_, hlen0, hcell0⟩ := World.cells?_some hc0
      have hc00 := hcell0 0 h0
      rw [List.getElem?_eq_getElem (by omega)] at hc00
      obtain ⟨b, off, spot⟩ := a
      have hspot : spot = none := by
        have := World.cell?_spot hc00
        simpa [Addr.add] using this
      subst hspot
      refine .inr ⟨b, off, rfl, by simpa [Addr.add] using World.block_lt_of_cell? w _ hc00, fun i y hy j hj => ?_⟩
      obtain ⟨_, _, hcell⟩ := World.cells?_some (hxs i y hy).1
      have := hcell j hj
      rw [Deep.add_add, addr_off] at this
      rw [Nat.add_assoc]
      exact this
end
end Go.Proofs.YtdpaocikmijioabGreat

namespace Go.Proofs.YtdpaocikmijioabGreat
open Go.ChangeShapes Go.WideShapes Go.ChangeAt Go.RowKit

def FitK (e : Key) : Prop := FitN e.1 ∧ FitN e.2.1 ∧ FitN e.2.2.1 ∧ FitN e.2.2.2.1
/-- Each number is one of this machine. -/
def FitI (xs : List Itm) : Prop := ∀ (k : Nat) (x : Itm), xs[k]? = some x → FitN x.1 ∧ FitK x.2
def FitF (fs : List Flr) : Prop := ∀ (k : Nat) (x : Flr), fs[k]? = some x → FitN x.1 ∧ FitN x.2

section
variable {H : Type} {enc : TypeId × Value → H} {w : World} {base : Nat} {spare : Nat → Bool} {held : Bool}

end
end Go.Proofs.YtdpaocikmijioabGreat

namespace Go.Proofs.YtdpaocikmijioabGreat
open Go.RowKit Go.Maps

/-- How an element of the map reads: as the entry that it is. -/
def RK : Value → Option (DataW Key × List MemPlace)
  | .agg cs => match cs.toList with
    | [.int .i64 i, .int .i64 r, .int .i64 b, .int .i64 v, .string d] => some (.held (i, r, b, v, d), [])
    | _ => none
  | _ => none
theorem RK_mk (e : Key) : RK (.agg #[.int .i64 e.1, .int .i64 e.2.1, .int .i64 e.2.2.1, .int .i64 e.2.2.2.1, .string e.2.2.2.2]) = some (.held e, []) := rfl
theorem RK_inv {v : Value} {z : DataW Key × List MemPlace} (h : RK v = some z) : ∃ e : Key, v = .agg #[.int .i64 e.1, .int .i64 e.2.1, .int .i64 e.2.2.1, .int .i64 e.2.2.2.1, .string e.2.2.2.2] ∧ z = (.held e, []) := by
  unfold RK at h
  split at h
  · rename_i cs
    split at h
    · rename_i i r b v d hcs
      cases h
      refine ⟨(i, r, b, v, d), ?_, rfl⟩
      obtain ⟨l⟩ := cs
      simp only at hcs
      rw [hcs]
    · cases h
  · cases h

theorem klaw : Keyed Tryz.prog 3 := int_keyed Tryz.underlying3
theorem wf_fit {n : Int} (h : FitN n) : (Lit.int .i64 n).wf = true := by
  unfold FitN at h
  simp [Lit.wf, IntKind.min, IntKind.max, IntKind.bits, IntKind.signed]
  omega
theorem kof {n : Int} (h : FitN n) : keyOf Tryz.prog 3 (.int .i64 n) = some (.int .i64 n) := keyOf_int_mk Tryz.underlying3 (wf_fit h)

/-- The map reads as the function m. -/
def MapV (D : DataW Key) (m : Int → Option Key) : Prop := ∀ id, FitN id → ∀ z, D.atKey (.int .i64 id) z = (match m id with
  | some e => .held e
  | none => z)
def upd (m : Int → Option Key) (id : Int) (e : Key) : Int → Option Key := fun j => if j = id then some e else m j
def cut (m : Int → Option Key) (id : Int) : Int → Option Key := fun j => if j = id then none else m j
def mget (m : Int → Option Key) (id : Int) : Key := (m id).getD zeroK
theorem MapV.nil : MapV (.map []) (fun _ => none) := fun _ _ _ => rfl
theorem lit_ne {a b : Int} (h : a ≠ b) : (Lit.int .i64 a) ≠ Lit.int .i64 b := fun e => h (by injection e)
theorem MapV.put {D : DataW Key} {m : Int → Option Key} (h : MapV D m) (hm : IsMap D) {id : Int} (hk : WideAt.IsKeyLit (Lit.int .i64 id)) (e : Key) : MapV (D.put (.int .i64 id) (.held e)) (upd m id e) := by
  intro j hj z
  unfold upd
  by_cases c : j = id
  · subst c
    rw [atKey_put_same hm hk, if_pos rfl]
  · rw [atKey_put_other (lit_ne c), if_neg c]
    exact h j hj z
theorem MapV.del {D : DataW Key} {m : Int → Option Key} (h : MapV D m) (id : Int) : MapV (D.del (.int .i64 id)) (cut m id) := by
  intro j hj z
  unfold cut
  by_cases c : j = id
  · subst c
    rw [atKey_del_same, if_pos rfl]
  · rw [atKey_del_other (lit_ne c), if_neg c]
    exact h j hj z
theorem key_lit (id : Int) : WideAt.IsKeyLit (Lit.int .i64 id) := trivial

theorem zeroE (w : World) : (zeroValue 38).run Tryz.prog w = .ok (.agg #[.int .i64 zeroK.1, .int .i64 zeroK.2.1, .int .i64 zeroK.2.2.1, .int .i64 zeroK.2.2.2.1, .string zeroK.2.2.2.2]) w := by kernel_rfl
theorem field0 (e : Key) (w : World) : (Instr.field 38 (.agg #[.int .i64 e.1, .int .i64 e.2.1, .int .i64 e.2.2.1, .int .i64 e.2.2.2.1, .string e.2.2.2.2]) 0).run Tryz.prog w = .ok (.int .i64 e.1) w := by
  have h := Tryz.underlying38
  have h3 := Tryz.underlying3
  simp [Instr.field, run_underlying h, asAgg, part, isAgg, sizeOf, run_underlying h3, typeInfo]
abbrev OwM (w : World) (b n : Nat) (D : DataW Key) : Prop := w.ownsMap Tryz.prog 3 RK b n D
/-- 'm[id]'. -/
theorem look {w : World} {b n : Nat} {D : DataW Key} {m : Int → Option Key} (h : OwM w b n D) (hv : MapV D m) {id : Int} (hid : FitN id) :
    (Instr.lookup 69 (.map (some b)) (.int .i64 id) false).run Tryz.prog w = .ok (.agg #[.int .i64 (mget m id).1, .int .i64 (mget m id).2.1, .int .i64 (mget m id).2.2.1, .int .i64 (mget m id).2.2.2.1, .string (mget m id).2.2.2.2]) w := by
  obtain ⟨v, ps, hrun, hR⟩ := h.lookup klaw Tryz.underlying69 (zeroE w) (RK_mk zeroK) (kof hid)
  obtain ⟨e, rfl, he⟩ := RK_inv hR
  rw [hrun]
  simp only [Prod.mk.injEq] at he
  have h1 := hv id hid (.held zeroK)
  rw [h1] at he
  have : mget m id = e := by
    unfold mget
    cases hm : m id with
    | none => rw [hm] at he; simp only [DataW.held.injEq] at he; exact he.1
    | some x => rw [hm] at he; simp only [DataW.held.injEq] at he; exact he.1
  rw [this]
end Go.Proofs.YtdpaocikmijioabGreat

namespace Go.Proofs.YtdpaocikmijioabGreat
open Go.RowKit Go.Maps

theorem imaxK_any (a b r : Key) (hr : Hid (mx a b = r)) (ha : a.2.2.2.2.size ≤ 1048576) (hb : b.2.2.2.2.size ≤ 1048576) (w : World) : Calls Tryz.prog 87 #[.agg #[.int .i64 a.1, .int .i64 a.2.1, .int .i64 a.2.2.1, .int .i64 a.2.2.2.1, .string a.2.2.2.2], .agg #[.int .i64 b.1, .int .i64 b.2.1, .int .i64 b.2.2.1, .int .i64 b.2.2.2.1, .string b.2.2.2.2]] w fun e w' => e = .returned (.agg #[.int .i64 r.1, .int .i64 r.2.1, .int .i64 r.2.2.1, .int .i64 r.2.2.2.1, .string r.2.2.2.2]) ∧ Below w.heap.size w w' := by
  refine imax_is _ _ _ _ _ _ _ _ _ _ _ _ _ _ _ ?_ (by omega) (by omega) w
  rw [isMax_mx]
  exact (unhide hr).symm

/-- The items laid into the map, one behind the other. -/
def fm (m : Int → Option Key) : List Itm → Int → Option Key
  | [] => m
  | x :: r => fm (upd m x.1 (mx (mget m x.1) x.2)) r
theorem fm_at {m : Int → Option Key} {xs : List Itm} {k : Nat} {x : Itm} (h : xs[k]? = some x) : fm m (xs.drop k) = fm (upd m x.1 (mx (mget m x.1) x.2)) (xs.drop (k + 1)) := by
  rw [drop_at h, fm]
def SmlM (m : Int → Option Key) : Prop := ∀ id e, m id = some e → e.2.2.2.2.size ≤ 1048576
theorem mget_sml {m : Int → Option Key} (h : SmlM m) (id : Int) : (mget m id).2.2.2.2.size ≤ 1048576 := by
  unfold mget
  cases hm : m id with
  | none => show (zeroK.2.2.2.2.size) ≤ _; exact Nat.zero_le _
  | some e => exact h id e hm
theorem mx_sml {a b : Key} (ha : a.2.2.2.2.size ≤ 1048576) (hb : b.2.2.2.2.size ≤ 1048576) : (mx a b).2.2.2.2.size ≤ 1048576 := by
  unfold mx
  split
  · exact hb
  · exact ha
theorem upd_sml {m : Int → Option Key} (h : SmlM m) (id : Int) {e : Key} (he : e.2.2.2.2.size ≤ 1048576) : SmlM (upd m id e) := by
  intro j x hx
  unfold upd at hx
  split at hx
  · cases hx; exact he
  · exact h j x hx
theorem cut_sml {m : Int → Option Key} (h : SmlM m) (id : Int) : SmlM (cut m id) := by
  intro j x hx
  unfold cut at hx
  split at hx
  · cases hx
  · exact h j x hx

theorem owm_later {w w' : World} {b n : Nat} {D : DataW Key} (h : OwM w b n D) (hb : Below w.heap.size w w') : OwM w' b n D := h.kept (grown_below none hb) (by simp)
/-- A row of cells is no map. -/
theorem Rw.beside {α : Type} {enc : α → List Value} {k : Nat} (hk : ∀ x, (enc x).length = k) (h0 : 0 < k) {w w' : World} {v : Value} {xs : List α} (h : Rw enc k w v xs) {b n : Nat} {D : DataW Key} (hm : OwM w b n D) (hg : w.grownBy w' (some b)) : Rw enc k w' v xs := by
  obtain ⟨a, cap, rfl, hcap, h⟩ := h
  refine ⟨a, cap, rfl, hcap, ?_⟩
  rcases h with h | ⟨g, off, rfl, hlt, hc⟩
  · exact .inl h
  · by_cases hz : xs = []
    · exact .inl hz
    · refine .inr ⟨g, off, rfl, Nat.lt_of_lt_of_le hlt hg.size, fun i x hx j hj => ?_⟩
      have hne : g ≠ b := by
        intro e
        subst e
        have hpos : 0 < xs.length := List.length_pos_iff.2 hz
        have := hc 0 xs[0] (by simp [hpos]) 0 h0
        obtain ⟨es, clock, hh, _⟩ := hm
        have e0 : (enc xs[0])[0]? = some ((enc xs[0])[0]'(by rw [hk]; exact h0)) := List.getElem?_eq_getElem _
        rw [e0] at this
        simp [World.cell?, hh] at this
      exact (World.cell?_of_block (w := w) (hg.block g hlt (by simp [hne]))).trans (hc i x hx j hj)

theorem keepX {W : World} {g : Nat} {T : TypeId} {c0 c1 c2 c3 c4 c5 : Value} (h : W.heap[g]? = some (.cells #[c0, c1, c2, c3, c4, c5] T (0, 0))) : W.cell? ⟨g, 0, none⟩ = some c0 ∧ W.cell? ⟨g, 1, none⟩ = some c1 ∧ W.cell? ⟨g, 2, none⟩ = some c2 ∧ W.cell? ⟨g, 3, none⟩ = some c3 ∧ W.cell? ⟨g, 4, none⟩ = some c4 ∧ W.cell? ⟨g, 5, none⟩ = some c5 := by
  obtain ⟨h0, h1, h2, h3, h4, h5, -⟩ := blk_cells6 h
  exact ⟨h0, h1, h2, h3, h4, h5⟩
set_option maxHeartbeats 8000000 in
set_option maxRecDepth 100000 in
theorem ijoini_any (bm n : Nat) (D : DataW Key) (m : Int → Option Key) (ai : Option Addr) (ni ci : Nat) (xs : List Itm) (hfit : ∀ (k : Nat) (x : Itm), xs[k]? = some x → FitN x.1 ∧ x.2.2.2.2.2.size ≤ 1048576) (hsm : SmlM m) (w : World) (hni : ni ≤ 1000000) (hn : n ≤ 1000000)
    (hm : OwM w bm n D) (hv : MapV D m) (hx : Rw encI 6 w (.slice ai ni ci) xs) :
    Calls Tryz.prog 49 #[.map (some bm), .slice ai ni ci] w fun e w' => e = .returned (.tuple #[]) ∧ (∃ n' D', OwM w' bm n' D' ∧ n' ≤ n + ni ∧ MapV D' (fm m xs) ∧ SmlM (fm m xs)) ∧ w.grownBy w' (some bm) := by
  have HX := hide hx
  have HM := hide hm
  have HV := hide hv
  have HS := hide hsm
  have HFT := hide hfit
  clear hx hm hv hsm hfit
  go_enter Tryz.func49, Tryz.ntmps49
  go_wp2
  go_loopw [8] (fun i wr => ∃ (k n' : Nat) (D' : DataW Key) (m' : Int → Option Key), k ≤ ni ∧ i = .int .i64 k ∧ n' ≤ n + k ∧ OwM wr bm n' D' ∧ MapV D' m' ∧ SmlM m' ∧ fm m' (xs.drop k) = fm m xs ∧ w.grownBy wr (some bm)) (fun i _ => ni - (intOf i).toNat)
  case atStart => exact ⟨0, n, D, m, Nat.zero_le _, rfl, by omega, unhide HM, unhide HV, unhide HS, rfl, grown_refl _ _⟩
  case round =>
    obtain ⟨k, n', D', m', hk, rfl, hn', hM, hV, hS, hrec, hgr⟩ := hrel
    have HM1 := hide hM
    have HV1 := hide hV
    have HS1 := hide hS
    have HR := hide hrec
    have HG := hide hgr
    have RX := hide ((unhide HX).beside encI_len (by omega) (unhide HM) hgr)
    clear hM hV hS hrec hgr
    by_cases hlt : k < ni
    · obtain ⟨x, b, off, hx, rfl, hb, hcap, hc⟩ := (unhide RX).at hlt
      obtain ⟨c0, c1, c2, c3, c4, c5⟩ := item_cells hc
      obtain ⟨hid, hxs⟩ := unhide HFT k x hx
      obtain ⟨g, hg⟩ : ∃ g, mget m' x.1 = g := ⟨_, rfl⟩
      obtain ⟨r, hr⟩ : ∃ r, mx g x.2 = r := ⟨_, rfl⟩
      have hgs : g.2.2.2.2.size ≤ 1048576 := by rw [← hg]; exact mget_sml (unhide HS1) _
      have hrs : r.2.2.2.2.size ≤ 1048576 := by rw [← hr]; exact mx_sml hgs hxs
      have HE := hide (fm_at (m := m') hx)
      rw [unhide HR, hg, hr] at HE
      have HRR := hide hr
      have HID := hide hid
      have hlk := look (unhide HM1) (unhide HV1) hid
      rw [hg] at hlk
      have HLK := hide hlk
      clear hc hx hg hr hlk hid
      go_wp2_with fail
      obtain ⟨W, hW⟩ : ∃ W, W = wr.alloc (.cells #[.int .i64 x.1, .int .i64 x.2.1, .int .i64 x.2.2.1, .int .i64 x.2.2.2.1, .int .i64 x.2.2.2.2.1, .string x.2.2.2.2.2] 40) := ⟨_, rfl⟩
      rw [← hW]
      have hWB : Below wr.heap.size wr W := by rw [hW]; exact (Below.refl _ _).alloc (Nat.le_refl _) _
      have KX : Hid (W.heap[wr.heap.size]? = some (.cells #[.int .i64 x.1, .int .i64 x.2.1, .int .i64 x.2.2.1, .int .i64 x.2.2.2.1, .int .i64 x.2.2.2.2.1, .string x.2.2.2.2.2] 40 (0, 0)) ∧ wr.heap.size < W.heap.size) := by rw [hW]; exact hide ⟨newB1 wr _, by simp⟩
      have KXD : Hid (W.drew.heap[wr.heap.size]? = some (.cells #[.int .i64 x.1, .int .i64 x.2.1, .int .i64 x.2.2.1, .int .i64 x.2.2.2.1, .int .i64 x.2.2.2.2.1, .string x.2.2.2.2.2] 40 (0, 0)) ∧ wr.heap.size < W.drew.heap.size) := KX
      have HMW := hide (owm_later (unhide HM1) hWB)
      have hlk : (Instr.lookup 69 (.map (some bm)) (.int .i64 x.1) false).run Tryz.prog W.drew = .ok (.agg #[.int .i64 g.1, .int .i64 g.2.1, .int .i64 g.2.2.1, .int .i64 g.2.2.2.1, .string g.2.2.2.2]) W.drew := by
        have h := look (show OwM W.drew bm n' D' from unhide HMW) (unhide HV1) (unhide HID)
        have h2 := unhide HLK
        rw [look (unhide HM1) (unhide HV1) (unhide HID)] at h2
        simp only [Result.ok.injEq, and_true] at h2
        rw [h2] at h
        exact h
      have HWB := hide hWB
      clear hW hWB HLK c0 c1 c2 c3 c4 c5
      have hbmne : bm ≠ wr.heap.size := fun e => by have := (unhide HM1).lt; omega
      go_region_held3 (fun V => V.cell? ⟨wr.heap.size, 0, none⟩ = some (.int .i64 x.1) ∧ V.cell? ⟨wr.heap.size, 1, none⟩ = some (.int .i64 x.2.1) ∧ V.cell? ⟨wr.heap.size, 2, none⟩ = some (.int .i64 x.2.2.1) ∧ V.cell? ⟨wr.heap.size, 3, none⟩ = some (.int .i64 x.2.2.2.1) ∧ V.cell? ⟨wr.heap.size, 4, none⟩ = some (.int .i64 x.2.2.2.2.1) ∧ V.cell? ⟨wr.heap.size, 5, none⟩ = some (.string x.2.2.2.2.2))
        (first | (with_reducible exact keepX (unhide KX).1) | (with_reducible exact keepX (unhide KXD).1) | (with_reducible exact keepX (unhide KX1).1) | (with_reducible exact keepX (unhide KX2).1))
        (first | (go_at_call 87; refine (imaxK_any g x.2 r HRR hgs hxs _).mono ?_; rintro e w1 ⟨rfl, b1⟩; have b1' : Below W.heap.size W w1 := ⟨b1.os, b1.tape, b1.output, b1.size, b1.block⟩; have KX1 := hide (keptblk b1' KX); obtain ⟨w2, hrun, hM2, hG2⟩ := (owm_later (unhide HMW) b1').update klaw Tryz.underlying69 (by unfold maxLen; omega) (kof (unhide HID)) (RK_mk r); have KX2 := hide (And.intro ((hG2.block _ (unhide KX1).2 (by simp; exact fun e => hbmne e.symm)).trans (unhide KX1).1) (Nat.lt_of_lt_of_le (unhide KX1).2 hG2.size)); have HM2 := hide hM2; have HG2 := hide hG2; have HB1 := hide b1'; clear b1 b1' hM2 hG2))
      have HG3 := hide (grown_trans2 (unhide HG) (grown_trans2 (grown_below _ ((unhide HWB).trans ((unhide HB1).mono (unhide HWB).size))) (unhide HG2)))
      clear HG HWB HB1 HG2 hrun hlk KX KXD KX1 KX2
      go_wp2
      go_roundw
      case rel => exact ⟨k + 1, n' + 1, _, upd m' x.1 r, by omega, by go_num, by omega, unhide HM2, (unhide HV1).put (unhide HM1).isMap (key_lit _) r, upd_sml (unhide HS1) _ hrs, (unhide HE).symm, unhide HG3⟩
      case measure => simp [intOf]; omega
    · have HE : Hid (m' = fm m xs) := by
        have h := unhide HR
        rw [drop_end (unhide HX).len.1 hk hlt] at h
        exact hide h
      go_wp2
      go_end0
      exact ⟨rfl, ⟨n', D', unhide HM1, by omega, unhide HE ▸ unhide HV1, unhide HE ▸ unhide HS1⟩, unhide HG⟩

/-- What is over is dropped, floor by floor. -/
def fd (m : Int → Option Key) : List Flr → Int → Option Key
  | [] => m
  | f :: r => fd (if (mget m f.1).1 ≤ f.2 then cut m f.1 else m) r
theorem fd_hit {m : Int → Option Key} {fs : List Flr} {k : Nat} {f : Flr} {g : Key} (h : fs[k]? = some f) (hg : mget m f.1 = g) (hd : decide (g.1 ≤ f.2) = true) : fd m (fs.drop k) = fd (cut m f.1) (fs.drop (k + 1)) := by
  rw [drop_at h, fd, hg, if_pos (of_decide_eq_true hd)]
theorem fd_miss {m : Int → Option Key} {fs : List Flr} {k : Nat} {f : Flr} {g : Key} (h : fs[k]? = some f) (hg : mget m f.1 = g) (hd : decide (g.1 ≤ f.2) = false) : fd m (fs.drop k) = fd m (fs.drop (k + 1)) := by
  rw [drop_at h, fd, hg, if_neg (of_decide_eq_false hd)]

set_option maxHeartbeats 8000000 in
set_option maxRecDepth 100000 in
theorem idrop_any (bm n : Nat) (D : DataW Key) (m : Int → Option Key) (af : Option Addr) (nf cf : Nat) (fs : List Flr) (hfit : ∀ (k : Nat) (x : Flr), fs[k]? = some x → FitN x.1) (hsm : SmlM m) (w : World) (hnf : nf ≤ 1000000)
    (hm : OwM w bm n D) (hv : MapV D m) (hx : Rw encF 2 w (.slice af nf cf) fs) :
    Calls Tryz.prog 50 #[.map (some bm), .slice af nf cf] w fun e w' => e = .returned (.tuple #[]) ∧ (∃ D', OwM w' bm n D' ∧ MapV D' (fd m fs) ∧ SmlM (fd m fs)) ∧ w.grownBy w' (some bm) := by
  have HX := hide hx
  have HM := hide hm
  have HV := hide hv
  have HS := hide hsm
  have HFT := hide hfit
  clear hx hm hv hsm hfit
  go_enter Tryz.func50, Tryz.ntmps50
  go_wp2
  go_loopw [8] (fun i wr => ∃ (k : Nat) (D' : DataW Key) (m' : Int → Option Key), k ≤ nf ∧ i = .int .i64 k ∧ OwM wr bm n D' ∧ MapV D' m' ∧ SmlM m' ∧ fd m' (fs.drop k) = fd m fs ∧ w.grownBy wr (some bm)) (fun i _ => nf - (intOf i).toNat)
  case atStart => exact ⟨0, D, m, Nat.zero_le _, rfl, unhide HM, unhide HV, unhide HS, rfl, grown_refl _ _⟩
  case round =>
    obtain ⟨k, D', m', hk, rfl, hM, hV, hS, hrec, hgr⟩ := hrel
    have HM1 := hide hM
    have HV1 := hide hV
    have HS1 := hide hS
    have HR := hide hrec
    have HG := hide hgr
    have RX := hide ((unhide HX).beside encF_len (by omega) (unhide HM) hgr)
    clear hM hV hS hrec hgr
    by_cases hlt : k < nf
    · obtain ⟨x, b, off, hx, rfl, hb, hcap, hc⟩ := (unhide RX).at hlt
      have c0 : wr.cell? ⟨b, off + k * 2, none⟩ = some (.int .i64 x.1) := hc 0 (by omega)
      have c1 : wr.cell? ⟨b, off + k * 2 + 1, none⟩ = some (.int .i64 x.2) := hc 1 (by omega)
      have hid := unhide HFT k x hx
      obtain ⟨g, hg⟩ : ∃ g, mget m' x.1 = g := ⟨_, rfl⟩
      have HMW := hide (owm_later (unhide HM1) ((Below.refl wr.heap.size wr).alloc (Nat.le_refl _) (.cells #[.int .i64 x.1, .int .i64 x.2] 84)))
      have hlk := look (unhide HMW) (unhide HV1) hid
      rw [hg] at hlk
      have HK := hide (kof hid)
      have hf0 := field0 g
      rcases Bool.eq_false_or_eq_true (decide (g.1 ≤ x.2)) with hle | hle
      · have HE := hide (fd_hit hx hg hle)
        rw [unhide HR] at HE
        clear hc hx hg hid
        go_wp2_with (first | (at_delete; refine wpList_delete_own _ rfl _ _ 69 3 rfl 38 klaw Tryz.underlying69 RK bm n D' rfl (unhide HMW) _ _ rfl (unhide HK) ?_; intro w1 hM2 ht2; have HM2 := hide hM2; have HT2 := hide ht2.grown; clear hM2 ht2))
        go_roundw
        case rel => exact ⟨k + 1, _, cut m' x.1, by omega, by go_num, unhide HM2, (unhide HV1).del _, cut_sml (unhide HS1) _, (unhide HE).symm, grown_trans2 (unhide HG) (grown_trans2 (World.grownBy_alloc _ _ _) (unhide HT2))⟩
        case measure => simp [intOf]; omega
      · have HE := hide (fd_miss hx hg hle)
        rw [unhide HR] at HE
        clear hc hx hg hid
        go_wp2
        go_roundw
        case rel => exact ⟨k + 1, D', m', by omega, by go_num, unhide HMW, unhide HV1, unhide HS1, (unhide HE).symm, grown_trans2 (unhide HG) (World.grownBy_alloc _ _ _)⟩
        case measure => simp [intOf]; omega
    · have HE : Hid (m' = fd m fs) := by
        have h := unhide HR
        rw [drop_end (unhide HX).len.1 hk hlt] at h
        exact hide h
      go_wp2
      go_end0
      exact ⟨rfl, ⟨D', unhide HM1, unhide HE ▸ unhide HV1, unhide HE ▸ unhide HS1⟩, unhide HG⟩
end Go.Proofs.YtdpaocikmijioabGreat

namespace Go.Proofs.YtdpaocikmijioabGreat
open Go.RowKit Go.Maps

theorem ent_cons (x : Itm) (r : List Itm) (id : Int) : ent (x :: r) id = if x.1 = id then some x.2 else ent r id := by
  unfold ent
  rw [List.find?_cons]
  by_cases h : x.1 = id
  · simp [h]
  · rw [show (x.1 == id) = false by simpa using h, if_neg h]
theorem fm_ent : ∀ (xs : List Itm) (m : Int → Option Key), xs.Pairwise (fun a b => a.1 < b.1) → ∀ id, fm m xs id = (match ent xs id with
    | some e => some (mx (mget m id) e)
    | none => m id)
  | [], m, _, id => rfl
  | x :: r, m, h, id => by
    obtain ⟨h1, h2⟩ := List.pairwise_cons.1 h
    rw [fm, fm_ent r _ h2 id, ent_cons]
    by_cases hx : x.1 = id
    · subst hx
      have : ent r x.1 = none := by
        cases hq : ent r x.1 with
        | none => rfl
        | some e => have := h1 _ ((ent_iff h2).1 hq); simp at this
      rw [this]
      simp [upd]
    · rw [if_neg hx]
      have hu : upd m x.1 (mx (mget m x.1) x.2) id = m id := by rw [upd, if_neg (Ne.symm hx)]
      have hg : mget (upd m x.1 (mx (mget m x.1) x.2)) id = mget m id := by rw [mget, hu, mget]
      rw [hu, hg]
theorem mx_zero {e : Key} (h : 1 ≤ e.1) : mx zeroK e = e := by
  have : keyC zeroK e < 0 := by
    have : cmpI 0 e.1 = -1 := by unfold cmpI; rw [if_pos (by omega)]
    unfold keyC lexC
    rw [show zeroK.1 = 0 from rfl, this]
    simp
  rw [mx, if_pos this]
theorem fd_none : ∀ (fs : List Flr) (m : Int → Option Key) (id : Int), m id = none → fd m fs id = none
  | [], _, _, h => h
  | f :: r, m, id, h => by
    rw [fd]
    refine fd_none r _ id ?_
    split
    · rw [cut]; split
      · rfl
      · exact h
    · exact h
theorem fd_at : ∀ (fs : List Flr) (m : Int → Option Key), fs.Pairwise (fun a b => a.1 < b.1) → (∀ f ∈ fs, 1 ≤ f.2) → ∀ (id : Int) (e : Key), m id = some e → 1 ≤ e.1 → fd m fs id = if e.1 ≤ flo fs id then none else some e
  | [], m, _, _, id, e, h, he => by rw [fd, h, if_neg (by show ¬ e.1 ≤ 0; omega)]
  | f :: r, m, hp, h1, id, e, h, he => by
    obtain ⟨p1, p2⟩ := List.pairwise_cons.1 hp
    rw [fd]
    by_cases hf : f.1 = id
    · have hfl : flo (f :: r) id = f.2 := flo_mem hp (by rw [← hf]; simp)
      have hg : mget m f.1 = e := by rw [mget, hf, h]; rfl
      rw [hfl, hg]
      by_cases hle : e.1 ≤ f.2
      · rw [if_pos hle, if_pos hle]
        exact fd_none r _ id (by rw [cut, if_pos hf.symm])
      · rw [if_neg hle, if_neg hle, fd_at r m p2 (fun g hg => h1 g (by simp [hg])) id e h he]
        have : flo r id = 0 := by
          by_cases hc : flo r id = 0
          · exact hc
          · have := p1 _ ((flo_pos p2 hc).1 rfl)
            simp only at this; omega
        rw [this, if_neg (by omega)]
    · have hfl : flo (f :: r) id = flo r id := by
        unfold flo
        rw [List.find?_cons, show (f.1 == id) = false by simpa using hf]
      rw [hfl]
      refine fd_at r _ p2 (fun g hg => h1 g (by simp [hg])) id e ?_ he
      split
      · rw [cut, if_neg (Ne.symm hf)]; exact h
      · exact h
section
variable {xs ys : List Itm} {fs gs : List Flr}
theorem map_join (hx : OkS xs fs) (hy : OkS ys gs) (id : Int) : fm (fm (fun _ => none) xs) ys id = jE (ent xs id) (ent ys id) := by
  have h1 : fm (fun _ => none) xs id = ent xs id := by
    rw [fm_ent xs _ hx.px]
    cases hq : ent xs id with
    | none => rfl
    | some e =>
      show some (mx zeroK e) = _
      rw [mx_zero (okE_inc (hx.ent_in hq).2.2.1).1]
  rw [fm_ent ys _ hy.px]
  cases hq : ent ys id with
  | none =>
    rw [h1]
    cases ent xs id <;> rfl
  | some e =>
    show some (mx (mget (fm (fun _ => none) xs) id) e) = _
    rw [mget, h1]
    cases ent xs id with
    | none => show some (mx zeroK e) = some e; rw [mx_zero (okE_inc (hy.ent_in hq).2.2.1).1]
    | some d => rfl
theorem map_end (hx : OkS xs fs) (hy : OkS ys gs) (x : Itm) : x ∈ joinI xs fs ys gs ↔ FitN x.1 ∧ fd (fm (fm (fun _ => none) xs) ys) (joinF fs gs) x.1 = some x.2 := by
  have hm := map_join hx hy x.1
  rw [joinI, mem_jI]
  cases hj : jE (ent xs x.1) (ent ys x.1) with
  | none =>
    rw [hj] at hm
    rw [fd_none _ _ _ hm]
    simp
  | some e =>
    rw [hj] at hm
    have hin := hx.jE_in hy hj
    have he := okE_inc hin.2.2
    rw [fd_at (joinF fs gs) _ (jF_pair 5) (fun f hf => (mem_jF.1 hf).2.2.1) x.1 e hm he.1, join_flo hx hy]
    constructor
    · rintro ⟨_, _, h3, h4⟩
      cases h3
      rw [if_neg (by omega)]
      exact ⟨by unfold FitN; omega, rfl⟩
    · rintro ⟨_, h⟩
      split at h
      · cases h
      · cases h
        exact ⟨hin.1, by omega, rfl, by omega⟩
end
end Go.Proofs.YtdpaocikmijioabGreat
