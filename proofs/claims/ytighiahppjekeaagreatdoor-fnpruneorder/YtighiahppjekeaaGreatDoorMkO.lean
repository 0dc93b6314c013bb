/-
  Equality of items and of floors, as the model reckons it. No statement is proved here.
  StateSame of the program: it answers whether both read the same. No statement is proved here.
  Beneath, and how far one is over: the program's and the specification's. No statement is proved here.
  What is right is put behind a list of one's own: the program does it at a generic type. No statement is proved here.
  The marks of a state: the specification's and the program's. No statement is proved here.
-/
import Derived.Test.YtighiahppjekeaaGreatDoorApp2
import Derived.Laws.StructEq
import Derived.Lib.Strings
import Derived.Test.YtighiahppjekeaaGreatDoorVwP
import Derived.Test.YtighiahppjekeaaGreatDoorIJoin
import Derived.Test.YtighiahppjekeaaGreatDoorStBx
import Derived.Test.YtighiahppjekeaaGreatDoorSStOk
import Derived.Test.YtighiahppjekeaaGreatDoorOrd
import Derived.Test.YtighiahppjekeaaGreatDoorStM
import Derived.Deep.DeepCutAuto
import Derived.Test.YtighiahppjekeaaGreatDoorMkP
namespace Go.Proofs.YtighiahppjekeaaGreatDoor
open Go.RowKit

theorem bytes_eq (x y : ByteArray) : x.toList = y.toList ↔ x = y := by
  refine ⟨fun h => ?_, fun h => by rw [h]⟩
  rw [Lib.toList_data, Lib.toList_data] at h
  obtain ⟨⟨x⟩⟩ := x
  obtain ⟨⟨y⟩⟩ := y
  simp at h
  rw [h]
theorem eqI_iff (x y : Itm) : x = y ↔ x.1 = y.1 ∧ x.2.1 = y.2.1 ∧ x.2.2.1 = y.2.2.1 ∧ x.2.2.2.1 = y.2.2.2.1 ∧ x.2.2.2.2.1 = y.2.2.2.2.1 ∧ x.2.2.2.2.2.toList = y.2.2.2.2.2.toList := by
  rw [bytes_eq]
  obtain ⟨a0, a1, a2, a3, a4, a5⟩ := x
  obtain ⟨b0, b1, b2, b3, b4, b5⟩ := y
  simp only [Prod.mk.injEq]
set_option maxHeartbeats 1000000 in
theorem eqI_run (x y : Itm) (b : Bool) (hb : decide (x = y) = b) (W : World) : (Op.equalIn 10000 62 (.agg #[.int .i64 x.1, .int .i64 x.2.1, .int .i64 x.2.2.1, .int .i64 x.2.2.2.1, .int .i64 x.2.2.2.2.1, .string x.2.2.2.2.2]) (.agg #[.int .i64 y.1, .int .i64 y.2.1, .int .i64 y.2.2.1, .int .i64 y.2.2.2.1, .int .i64 y.2.2.2.2.1, .string y.2.2.2.2.2])).run Tryz.prog W = .ok b W := by
  subst hb
  have e : decide (x = y) = decide (x.1 = y.1 ∧ x.2.1 = y.2.1 ∧ x.2.2.1 = y.2.2.1 ∧ x.2.2.2.1 = y.2.2.2.1 ∧ x.2.2.2.2.1 = y.2.2.2.2.1 ∧ x.2.2.2.2.2.toList = y.2.2.2.2.2.toList) := decide_eq_decide.mpr (eqI_iff x y)
  rw [e]
  clear e
  generalize x.1 = a0
  generalize y.1 = b0
  obtain ⟨a1, a2, a3, a4, a5⟩ := x.2
  obtain ⟨b1, b2, b3, b4, b5⟩ := y.2
  go_simp
  repeat' split
  all_goals simp_all
set_option maxHeartbeats 1000000 in
theorem eqF_run (x y : Flr) (b : Bool) (hb : decide (x = y) = b) (W : World) : (Op.equalIn 10000 59 (.agg #[.int .i64 x.1, .int .i64 x.2]) (.agg #[.int .i64 y.1, .int .i64 y.2])).run Tryz.prog W = .ok b W := by
  subst hb
  obtain ⟨a0, a1⟩ := x
  obtain ⟨b0, b1⟩ := y
  have e : decide ((a0, a1) = (b0, b1)) = decide (a0 = b0 ∧ a1 = b1) := decide_eq_decide.mpr (by simp)
  rw [e]
  clear e
  go_simp
  repeat' split
  all_goals simp_all

theorem same_all {α : Type} {xs ys : List α} {n : Nat} (h1 : n = xs.length) (h2 : n = ys.length) (h : ∀ j : Nat, j < n → xs[j]? = ys[j]?) : xs = ys := by
  apply List.ext_getElem?
  intro i
  by_cases hi : i < n
  · exact h i hi
  · rw [List.getElem?_eq_none (by omega), List.getElem?_eq_none (by omega)]
theorem same_step {α : Type} {xs ys : List α} {k : Nat} {x y : α} (hx : xs[k]? = some x) (hy : ys[k]? = some y) (e : x = y) (h : ∀ j : Nat, j < k → xs[j]? = ys[j]?) : ∀ j : Nat, j < k + 1 → xs[j]? = ys[j]? := by
  intro j hj
  by_cases c : j = k
  · subst c; rw [hx, hy, e]
  · exact h j (by omega)
theorem same_not {α : Type} {xs ys : List α} {k : Nat} {x y : α} (hx : xs[k]? = some x) (hy : ys[k]? = some y) (e : x ≠ y) : xs ≠ ys := by
  intro h
  subst h
  rw [hx] at hy
  exact e (Option.some.inj hy)
theorem same_len {α : Type} {xs ys : List α} {n m : Nat} (h1 : n = xs.length) (h2 : m = ys.length) (h : n ≠ m) : xs ≠ ys := by
  intro e; subst e; omega
theorem nb_false {a b : Nat} (h : a ≠ b) : ((a : Int) != (b : Int)) = true := by
  simp; omega
end Go.Proofs.YtighiahppjekeaaGreatDoor

namespace Go.Proofs.YtighiahppjekeaaGreatDoor
open Go.RowKit

set_option maxHeartbeats 2000000 in
theorem sleqi_any (a : Option Addr) (n cap : Nat) (a2 : Option Addr) (m cap2 : Nat) (xs ys : List Itm) (r : Bool) (hr : Hid (decide (xs = ys) = r)) (w : World) (hn : n ≤ 140737488351232) (hm : m ≤ 140737488351232) (hx : Rw encI 6 w (.slice a n cap) xs) (hy : Rw encI 6 w (.slice a2 m cap2) ys) :
    Calls Tryz.prog 79 #[.slice a n cap, .slice a2 m cap2] w fun e w' => e = .returned (.bool r) ∧ Below w.heap.size w w' := by
  have HX := hide hx
  have HY := hide hy
  clear hx hy
  by_cases hnm : n = m
  rotate_left
  · have d0 := nb_false hnm
    obtain rfl : r = false := by rw [← unhide hr]; simpa using same_len (unhide HX).len.1 (unhide HY).len.1 hnm
    go_enter Tryz.func79, Tryz.ntmps79
    go_wp2
    go_ret
    exact ⟨rfl, Below.refl _ _⟩
  subst hnm
  have d0 : ((n : Int) != (n : Int)) = false := by simp
  go_enter Tryz.func79, Tryz.ntmps79
  go_wp2
  go_loopw [13] (fun i wr => ∃ k : Nat, k ≤ n ∧ i = .int .i64 k ∧ (∀ j : Nat, j < k → xs[j]? = ys[j]?) ∧ Below w.heap.size w wr) (fun i _ => n - (intOf i).toNat)
  case atStart => exact ⟨0, Nat.zero_le _, rfl, fun j hj => absurd hj (Nat.not_lt_zero _), Below.refl _ _⟩
  case round =>
    obtain ⟨k, hk, rfl, hno, hbel⟩ := hrel
    have HN := hide hno
    have HB := hide hbel
    have hsz := hbel.size
    clear hno
    by_cases hlt : k < n
    · obtain ⟨x, b, off, hx, rfl, hb, hcap, hc⟩ := (unhide HX).at hlt
      obtain ⟨y, b2, off2, hy, rfl, hb2, hcap2, hc2⟩ := (unhide HY).at hlt
      have l0 := later_some (w := wr) (b := b) (o := off + k * 6) (v := .int .i64 x.1) (by omega) ((hbel.cell (p := ⟨b, off + k * 6, none⟩) hb).trans (hc 0 (by omega)))
      have l1 := later_some (w := wr) (b := b) (o := off + k * 6 + 1) (v := .int .i64 x.2.1) (by omega) ((hbel.cell (p := ⟨b, off + k * 6 + 1, none⟩) hb).trans (hc 1 (by omega)))
      have l2 := later_some (w := wr) (b := b) (o := off + k * 6 + 2) (v := .int .i64 x.2.2.1) (by omega) ((hbel.cell (p := ⟨b, off + k * 6 + 2, none⟩) hb).trans (hc 2 (by omega)))
      have l3 := later_some (w := wr) (b := b) (o := off + k * 6 + 3) (v := .int .i64 x.2.2.2.1) (by omega) ((hbel.cell (p := ⟨b, off + k * 6 + 3, none⟩) hb).trans (hc 3 (by omega)))
      have l4 := later_some (w := wr) (b := b) (o := off + k * 6 + 4) (v := .int .i64 x.2.2.2.2.1) (by omega) ((hbel.cell (p := ⟨b, off + k * 6 + 4, none⟩) hb).trans (hc 4 (by omega)))
      have l5 := later_some (w := wr) (b := b) (o := off + k * 6 + 5) (v := .string x.2.2.2.2.2) (by omega) ((hbel.cell (p := ⟨b, off + k * 6 + 5, none⟩) hb).trans (hc 5 (by omega)))
      have m0 := later_some (w := wr) (b := b2) (o := off2 + k * 6) (v := .int .i64 y.1) (by omega) ((hbel.cell (p := ⟨b2, off2 + k * 6, none⟩) hb2).trans (hc2 0 (by omega)))
      have m1 := later_some (w := wr) (b := b2) (o := off2 + k * 6 + 1) (v := .int .i64 y.2.1) (by omega) ((hbel.cell (p := ⟨b2, off2 + k * 6 + 1, none⟩) hb2).trans (hc2 1 (by omega)))
      have m2 := later_some (w := wr) (b := b2) (o := off2 + k * 6 + 2) (v := .int .i64 y.2.2.1) (by omega) ((hbel.cell (p := ⟨b2, off2 + k * 6 + 2, none⟩) hb2).trans (hc2 2 (by omega)))
      have m3 := later_some (w := wr) (b := b2) (o := off2 + k * 6 + 3) (v := .int .i64 y.2.2.2.1) (by omega) ((hbel.cell (p := ⟨b2, off2 + k * 6 + 3, none⟩) hb2).trans (hc2 3 (by omega)))
      have m4 := later_some (w := wr) (b := b2) (o := off2 + k * 6 + 4) (v := .int .i64 y.2.2.2.2.1) (by omega) ((hbel.cell (p := ⟨b2, off2 + k * 6 + 4, none⟩) hb2).trans (hc2 4 (by omega)))
      have m5 := later_some (w := wr) (b := b2) (o := off2 + k * 6 + 5) (v := .string y.2.2.2.2.2) (by omega) ((hbel.cell (p := ⟨b2, off2 + k * 6 + 5, none⟩) hb2).trans (hc2 5 (by omega)))
      have HX1 := hide hx
      have HY1 := hide hy
      clear hc hc2 hx hy hbel
      rcases Bool.eq_false_or_eq_true (decide (x = y)) with he | he
      · have hrun := eqI_run x y true he
        have HE := hide (same_step (unhide HX1) (unhide HY1) (of_decide_eq_true he) (unhide HN))
        clear he
        go_wp2_with fail
        refine wp_region_later (by kernel_rfl) (by kernel_rfl) ?_
        repeat (first | go_big_quiet_step (fail) | quiet_step (fail))
        refine wpQuiet_nil ?_
        intro w1 hb1
        have HB1 := hide ((unhide HB).trans (hb1.mono hsz))
        clear hb1 HB hrun
        go_wp2
        go_roundw
        case rel => exact ⟨k + 1, by omega, by go_num, unhide HE, unhide HB1⟩
        case measure => simp [intOf]; omega
      · have hrun := eqI_run x y false he
        obtain rfl : r = false := by rw [← unhide hr]; simpa using same_not (unhide HX1) (unhide HY1) (of_decide_eq_false he)
        clear he
        go_wp2_with fail
        refine wp_region_later (by kernel_rfl) (by kernel_rfl) ?_
        repeat (first | go_big_quiet_step (fail) | quiet_step (fail))
        refine wpQuiet_nil ?_
        intro w1 hb1
        have HB1 := hide ((unhide HB).trans (hb1.mono hsz))
        clear hb1 HB hrun
        go_wp2
        go_ret
        exact ⟨rfl, unhide HB1⟩
    · obtain rfl : r = true := by
        rw [← unhide hr]
        have e : k = n := by omega
        simpa using same_all (unhide HX).len.1 (unhide HY).len.1 (e ▸ unhide HN)
      clear hbel
      go_wp2
      go_ret
      exact ⟨rfl, unhide HB⟩

set_option maxHeartbeats 2000000 in
theorem sleqf_any (a : Option Addr) (n cap : Nat) (a2 : Option Addr) (m cap2 : Nat) (xs ys : List Flr) (r : Bool) (hr : Hid (decide (xs = ys) = r)) (w : World) (hn : n ≤ 140737488351232) (hm : m ≤ 140737488351232) (hx : Rw encF 2 w (.slice a n cap) xs) (hy : Rw encF 2 w (.slice a2 m cap2) ys) :
    Calls Tryz.prog 80 #[.slice a n cap, .slice a2 m cap2] w fun e w' => e = .returned (.bool r) ∧ Below w.heap.size w w' := by
  have HX := hide hx
  have HY := hide hy
  clear hx hy
  by_cases hnm : n = m
  rotate_left
  · have d0 := nb_false hnm
    obtain rfl : r = false := by rw [← unhide hr]; simpa using same_len (unhide HX).len.1 (unhide HY).len.1 hnm
    go_enter Tryz.func80, Tryz.ntmps80
    go_wp2
    go_ret
    exact ⟨rfl, Below.refl _ _⟩
  subst hnm
  have d0 : ((n : Int) != (n : Int)) = false := by simp
  go_enter Tryz.func80, Tryz.ntmps80
  go_wp2
  go_loopw [13] (fun i wr => ∃ k : Nat, k ≤ n ∧ i = .int .i64 k ∧ (∀ j : Nat, j < k → xs[j]? = ys[j]?) ∧ Below w.heap.size w wr) (fun i _ => n - (intOf i).toNat)
  case atStart => exact ⟨0, Nat.zero_le _, rfl, fun j hj => absurd hj (Nat.not_lt_zero _), Below.refl _ _⟩
  case round =>
    obtain ⟨k, hk, rfl, hno, hbel⟩ := hrel
    have HN := hide hno
    have HB := hide hbel
    have hsz := hbel.size
    clear hno
    by_cases hlt : k < n
    · obtain ⟨x, b, off, hx, rfl, hb, hcap, hc⟩ := (unhide HX).at hlt
      obtain ⟨y, b2, off2, hy, rfl, hb2, hcap2, hc2⟩ := (unhide HY).at hlt
      have l0 := later_some (w := wr) (b := b) (o := off + k * 2) (v := .int .i64 x.1) (by omega) ((hbel.cell (p := ⟨b, off + k * 2, none⟩) hb).trans (hc 0 (by omega)))
      have l1 := later_some (w := wr) (b := b) (o := off + k * 2 + 1) (v := .int .i64 x.2) (by omega) ((hbel.cell (p := ⟨b, off + k * 2 + 1, none⟩) hb).trans (hc 1 (by omega)))
      have m0 := later_some (w := wr) (b := b2) (o := off2 + k * 2) (v := .int .i64 y.1) (by omega) ((hbel.cell (p := ⟨b2, off2 + k * 2, none⟩) hb2).trans (hc2 0 (by omega)))
      have m1 := later_some (w := wr) (b := b2) (o := off2 + k * 2 + 1) (v := .int .i64 y.2) (by omega) ((hbel.cell (p := ⟨b2, off2 + k * 2 + 1, none⟩) hb2).trans (hc2 1 (by omega)))
      have HX1 := hide hx
      have HY1 := hide hy
      clear hc hc2 hx hy hbel
      rcases Bool.eq_false_or_eq_true (decide (x = y)) with he | he
      · have hrun := eqF_run x y true he
        have HE := hide (same_step (unhide HX1) (unhide HY1) (of_decide_eq_true he) (unhide HN))
        clear he
        go_wp2_with fail
        refine wp_region_later (by kernel_rfl) (by kernel_rfl) ?_
        repeat (first | go_big_quiet_step (fail) | quiet_step (fail))
        refine wpQuiet_nil ?_
        intro w1 hb1
        have HB1 := hide ((unhide HB).trans (hb1.mono hsz))
        clear hb1 HB hrun
        go_wp2
        go_roundw
        case rel => exact ⟨k + 1, by omega, by go_num, unhide HE, unhide HB1⟩
        case measure => simp [intOf]; omega
      · have hrun := eqF_run x y false he
        obtain rfl : r = false := by rw [← unhide hr]; simpa using same_not (unhide HX1) (unhide HY1) (of_decide_eq_false he)
        clear he
        go_wp2_with fail
        refine wp_region_later (by kernel_rfl) (by kernel_rfl) ?_
        repeat (first | go_big_quiet_step (fail) | quiet_step (fail))
        refine wpQuiet_nil ?_
        intro w1 hb1
        have HB1 := hide ((unhide HB).trans (hb1.mono hsz))
        clear hb1 HB hrun
        go_wp2
        go_ret
        exact ⟨rfl, unhide HB1⟩
    · obtain rfl : r = true := by
        rw [← unhide hr]
        have e : k = n := by omega
        simpa using same_all (unhide HX).len.1 (unhide HY).len.1 (e ▸ unhide HN)
      clear hbel
      go_wp2
      go_ret
      exact ⟨rfl, unhide HB⟩

set_option maxHeartbeats 2000000 in
theorem isame_any (ai : Option Addr) (ni ci : Nat) (xs : List Itm) (af : Option Addr) (nf cf : Nat) (fs : List Flr) (bi : Option Addr) (mi di : Nat) (ys : List Itm) (bf : Option Addr) (mf df : Nat) (gs : List Flr) (r : Bool) (hr : Hid ((decide (xs = ys) && decide (fs = gs)) = r)) (w : World)
    (hni : ni ≤ 140737488351232) (hnf : nf ≤ 140737488351232) (hmi : mi ≤ 140737488351232) (hmf : mf ≤ 140737488351232) (hx : Rw encI 6 w (.slice ai ni ci) xs) (hf : Rw encF 2 w (.slice af nf cf) fs) (hy : Rw encI 6 w (.slice bi mi di) ys) (hg : Rw encF 2 w (.slice bf mf df) gs) :
    Calls Tryz.prog 49 #[.agg #[.slice ai ni ci, .slice af nf cf], .agg #[.slice bi mi di, .slice bf mf df]] w fun e w' => e = .returned (.bool r) ∧ Below w.heap.size w w' := by
  have HX := hide hx
  have HY := hide hy
  have HF := hide hf
  have HG := hide hg
  clear hx hy hf hg
  obtain ⟨r1, hr1⟩ : ∃ r1, decide (xs = ys) = r1 := ⟨_, rfl⟩
  obtain ⟨r2, hr2⟩ : ∃ r2, decide (fs = gs) = r2 := ⟨_, rfl⟩
  have HR1 := hide hr1
  have HR2 := hide hr2
  have hrr := unhide hr
  rw [hr1, hr2] at hrr
  clear hr1 hr2 hr
  cases r1
  · obtain rfl : r = false := hrr.symm
    go_enter Tryz.func49, Tryz.ntmps49
    go_wp2_with fail
    refine (sleqi_any ai ni ci bi mi di xs ys _ HR1 _ hni hmi (((unhide HX).alloc _).alloc _) (((unhide HY).alloc _).alloc _)).mono ?_
    rintro e w1 ⟨rfl, b1⟩
    have HB := hide ((((Below.refl w.heap.size w).alloc (Nat.le_refl _) _).alloc (by simp) _).trans (b1.mono (by simp; omega)))
    clear b1
    go_wp2
    go_ret
    exact ⟨rfl, unhide HB⟩
  · obtain rfl : r = r2 := hrr.symm
    clear hrr
    go_enter Tryz.func49, Tryz.ntmps49
    go_wp2_with fail
    refine (sleqi_any ai ni ci bi mi di xs ys _ HR1 _ hni hmi (((unhide HX).alloc _).alloc _) (((unhide HY).alloc _).alloc _)).mono ?_
    rintro e w1 ⟨rfl, b1⟩
    obtain ⟨p0, p1, -⟩ := blk_cells2 ((b1.block w.heap.size (by simp; omega)).trans (lowB2 w _ _))
    obtain ⟨q0, q1, -⟩ := blk_cells2 ((b1.block (w.heap.size + 1) (by simp)).trans (newB2 w _ _))
    have HB := hide ((((Below.refl w.heap.size w).alloc (Nat.le_refl _) _).alloc (by simp) _).trans (b1.mono (by simp; omega)))
    clear b1
    go_wp2_with fail
    refine (sleqf_any af nf cf bf mf df fs gs _ HR2 _ hnf hmf ((unhide HF).later (unhide HB)) ((unhide HG).later (unhide HB))).mono ?_
    rintro e w2 ⟨rfl, b2⟩
    have HB2 := hide ((unhide HB).trans (b2.mono (unhide HB).size))
    clear b2
    go_wp2
    go_ret
    exact ⟨rfl, unhide HB2⟩
end Go.Proofs.YtighiahppjekeaaGreatDoor

namespace Go.Proofs.YtighiahppjekeaaGreatDoor
open Go.RowKit

set_option maxHeartbeats 4000000 in
set_option maxRecDepth 100000 in
theorem ileq_any (ai : Option Addr) (ni ci : Nat) (xs : List Itm) (af : Option Addr) (nf cf : Nat) (fs : List Flr) (bi : Option Addr) (mi di : Nat) (ys : List Itm) (bf : Option Addr) (mf df : Nat) (gs : List Flr) (r : Bool) (hr : Hid (leqS xs fs ys gs = r)) (w : World)
    (hni : ni ≤ 140737488351232) (hnf : nf ≤ 140737488351232) (hmi : mi ≤ 140737488351232) (hmf : mf ≤ 140737488351232) (hx : Rw encI 6 w (.slice ai ni ci) xs) (hf : Rw encF 2 w (.slice af nf cf) fs) (hy : Rw encI 6 w (.slice bi mi di) ys) (hg : Rw encF 2 w (.slice bf mf df) gs) :
    Calls Tryz.prog 18 #[.agg #[.slice ai ni ci, .slice af nf cf], .agg #[.slice bi mi di, .slice bf mf df]] w fun e w' => e = .returned (.bool r) ∧ Below w.heap.size w w' := by
  have HX := hide hx
  have HY := hide hy
  have HF := hide hf
  have HG := hide hg
  obtain ⟨ok, h0⟩ : ∃ ok, (okS xs fs && okS ys gs) = ok := ⟨_, rfl⟩
  have hE := unhide hr
  rw [leqS, h0] at hE
  have H0 := hide h0
  have HE := hide hE
  obtain ⟨n1, hn1⟩ : ∃ z, Hid ((jnI ok xs fs ys gs).length = z) := ⟨_, hide rfl⟩
  obtain ⟨n2, hn2⟩ : ∃ z, Hid ((jnF ok fs gs).length = z) := ⟨_, hide rfl⟩
  have k1 : n1 ≤ 5 := by rw [← unhide hn1]; exact jnI_len _ _ _ _ _
  have k2 : n2 ≤ 5 := by rw [← unhide hn2]; exact jnF_len _ _ _
  clear hx hy hf hg h0 hE hr
  go_enter Tryz.func18, Tryz.ntmps18
  go_wp2_with fail
  refine (ijoin_any ai ni ci xs af nf cf fs bi mi di ys bf mf df gs ok H0 n1 n2 hn1 hn2 _ hni hnf hmi hmf (((unhide HX).alloc _).alloc _) (((unhide HF).alloc _).alloc _) (((unhide HY).alloc _).alloc _) (((unhide HG).alloc _).alloc _)).mono ?_
  rintro e w1 ⟨a1, c1, a2, c2, rfl, o1, o2, b1⟩
  have HB1 := hide ((((Below.refl w.heap.size w).alloc (Nat.le_refl _) _).alloc (by simp) _).trans (b1.mono (by simp; omega)))
  have MB := hide ((b1.block _ (by simp)).trans (newB2 w _ _))
  have hz1 : w.heap.size + 1 < w1.heap.size := (Array.getElem?_eq_some_iff.mp (unhide MB)).1
  obtain ⟨q0, q1, -⟩ := blk_cells2 (unhide MB)
  have O1 := hide (o1.rw encI_len)
  have O2 := hide (o2.rw encF_len)
  clear b1 o1 o2 MB
  cases ok
  · obtain rfl : r = false := (unhide HE).symm
    go_wp2
    go_ret
    exact ⟨rfl, (unhide HB1).alloc (unhide HB1).size _⟩
  · go_wp2_with fail
    have HR : Hid ((decide (joinI xs fs ys gs = ys) && decide (joinF fs gs = gs)) = r) := hide (unhide HE)
    refine (isame_any a1 n1 c1 (joinI xs fs ys gs) a2 n2 c2 (joinF fs gs) bi mi di ys bf mf df gs r HR _ (by omega) (by omega) hmi hmf ((unhide O1).alloc _) ((unhide O2).alloc _) (((unhide HY).later (unhide HB1)).alloc _) (((unhide HG).later (unhide HB1)).alloc _)).mono ?_
    rintro e w2 ⟨rfl, b2⟩
    have HB2 := hide (((unhide HB1).alloc (unhide HB1).size _).trans (b2.mono (by have := (unhide HB1).size; simp; omega)))
    clear b2
    go_wp2
    go_ret
    exact ⟨rfl, unhide HB2⟩

set_option maxHeartbeats 4000000 in
set_option maxRecDepth 100000 in
theorem igone_any (ai : Option Addr) (ni ci : Nat) (xs : List Itm) (af : Option Addr) (nf cf : Nat) (fs : List Flr) (id r : Int) (hr : Hid (gone xs fs id = r)) (w : World)
    (hni : ni ≤ 140737488351232) (hnf : nf ≤ 140737488351232) (hx : Rw encI 6 w (.slice ai ni ci) xs) (hf : Rw encF 2 w (.slice af nf cf) fs) :
    Calls Tryz.prog 12 #[.agg #[.slice ai ni ci, .slice af nf cf], .int .i64 id] w fun e w' => e = .returned (.int .i64 r) ∧ Below w.heap.size w w' := by
  have HX := hide hx
  have HF := hide hf
  obtain ⟨okA, hA⟩ : ∃ okA, okS xs fs = okA := ⟨_, rfl⟩
  have hE := unhide hr
  rw [gone, hA] at hE
  have HA := hide hA
  have HE := hide hE
  clear hx hf hA hE hr
  go_enter Tryz.func12, Tryz.ntmps12
  go_wp2_with fail
  refine (istateok_any ai ni ci xs af nf cf fs _ HA _ hni hnf ((unhide HX).alloc _) ((unhide HF).alloc _)).mono ?_
  rintro e w1 ⟨rfl, b1⟩
  have HB1 := hide (((Below.refl w.heap.size w).alloc (Nat.le_refl _) _).trans (b1.mono (by simp)))
  have MA := hide ((b1.block _ (by simp)).trans (newB1 w _))
  have hz1 : w.heap.size < w1.heap.size := (Array.getElem?_eq_some_iff.mp (unhide MA)).1
  obtain ⟨q0, q1, -⟩ := blk_cells2 (unhide MA)
  clear b1
  cases okA
  · obtain rfl : (0 : Int) = r := by simpa using unhide HE
    go_wp2
    go_ret
    exact ⟨rfl, unhide HB1⟩
  · have OA := hide ((okS_iff _ _).1 (unhide HA))
    have SM : Sml xs := fun k x hk => by
      have := okE_size ((unhide OA).ix x (List.mem_of_getElem? hk)).2.2.1
      omega
    obtain ⟨x, a, hxa⟩ : ∃ x a, entR xs id = (x, a) := ⟨_, _, rfl⟩
    have HXA := hide hxa
    have HV : Hid ((match (if a then some x else none : Option Key) with
      | none => flo fs id
      | some e => if e.2.1 = 0 then e.1 - 1 else e.1) = r) := hide (by rw [← entR_ent hxa]; exact unhide HE)
    clear hxa HE
    go_wp2_with fail
    refine (ientry_any _ ai ni ci xs SM id x a HXA _ hni ((unhide HX).later (unhide HB1))).mono ?_
    rintro e w2 ⟨rfl, b2⟩
    have HB2 := hide ((unhide HB1).trans (b2.mono (unhide HB1).size))
    have MA2 := hide ((b2.block _ hz1).trans (unhide MA))
    have hz2 : w.heap.size < w2.heap.size := Nat.lt_of_lt_of_le hz1 b2.size
    have s2 := (unhide HB2).size
    clear q0 q1 b2 MA
    obtain ⟨q0, q1, -⟩ := blk_cells2 (unhide MA2)
    cases a
    · have HV' := hide (show flo fs id = r from unhide HV)
      go_wp2_with fail
      refine (ifloor_v _ af nf cf fs id r HV' _ hnf (((unhide HF).later (unhide HB2)).alloc _)).mono ?_
      rintro e w3 ⟨rfl, b3⟩
      have HB3 := hide (((unhide HB2).alloc s2 _).trans (b3.mono (by simp; omega)))
      clear b3
      go_wp2
      go_ret
      exact ⟨rfl, unhide HB3⟩
    · replace HV := hide (show (if x.2.1 = 0 then x.1 - 1 else x.1) = r from unhide HV)
      have he := (unhide OA).ent_in (entR_ent (unhide HXA))
      have hi := okE_inc he.2.2.1
      have hk := okE_rank he.2.2.1
      clear he
      obtain ⟨i1, i2⟩ := hi
      rcases Bool.eq_false_or_eq_true (x.2.1 == 1) with hu | hu
      · have hu' : x.2.1 = 1 := by simpa using hu
        obtain rfl : x.1 = r := by rw [← unhide HV, if_neg (by omega)]
        clear hk hu' HV
        go_wp2
        go_ret
        exact ⟨ret_int (by go_num), (unhide HB2).alloc s2 _⟩
      · have hu' : x.2.1 ≠ 1 := by simpa using hu
        obtain rfl : x.1 - 1 = r := by rw [← unhide HV, if_pos (by omega)]
        clear hk hu' HV
        go_wp2
        go_ret
        exact ⟨ret_int (by go_num), (unhide HB2).alloc s2 _⟩
set_option maxHeartbeats 4000000 in
set_option maxRecDepth 100000 in
theorem sgone_any (ai : Option Addr) (ni ci : Nat) (xs : List Itm) (af : Option Addr) (nf cf : Nat) (fs : List Flr) (id r : Int) (hr : Hid (gone xs fs id = r)) (w : World)
    (hni : ni ≤ 140737488351232) (hnf : nf ≤ 140737488351232) (hx : Rw encI 6 w (.slice ai ni ci) xs) (hf : Rw encF 2 w (.slice af nf cf) fs) :
    Calls Tryz.prog 35 #[.agg #[.slice ai ni ci, .slice af nf cf], .int .i64 id] w fun e w' => e = .returned (.int .i64 r) ∧ Below w.heap.size w w' := by
  have HX := hide hx
  have HF := hide hf
  obtain ⟨okA, hA⟩ : ∃ okA, okS xs fs = okA := ⟨_, rfl⟩
  have hE := unhide hr
  rw [gone, hA] at hE
  have HA := hide hA
  have HE := hide hE
  clear hx hf hA hE hr
  go_enter Tryz.func35, Tryz.ntmps35
  go_wp2_with fail
  refine (sstateok_any ai ni ci xs af nf cf fs _ HA _ hni hnf ((unhide HX).alloc _) ((unhide HF).alloc _)).mono ?_
  rintro e w1 ⟨rfl, b1⟩
  have HB1 := hide (((Below.refl w.heap.size w).alloc (Nat.le_refl _) _).trans (b1.mono (by simp)))
  have MA := hide ((b1.block _ (by simp)).trans (newB1 w _))
  have hz1 : w.heap.size < w1.heap.size := (Array.getElem?_eq_some_iff.mp (unhide MA)).1
  obtain ⟨q0, q1, -⟩ := blk_cells2 (unhide MA)
  clear b1
  cases okA
  · obtain rfl : (0 : Int) = r := by simpa using unhide HE
    go_wp2
    go_ret
    exact ⟨rfl, unhide HB1⟩
  · have OA := hide ((okS_iff _ _).1 (unhide HA))
    have SM : Sml xs := fun k x hk => by
      have := okE_size ((unhide OA).ix x (List.mem_of_getElem? hk)).2.2.1
      omega
    obtain ⟨x, a, hxa⟩ : ∃ x a, entR xs id = (x, a) := ⟨_, _, rfl⟩
    have HXA := hide hxa
    have HV : Hid ((match (if a then some x else none : Option Key) with
      | none => flo fs id
      | some e => if e.2.1 = 0 then e.1 - 1 else e.1) = r) := hide (by rw [← entR_ent hxa]; exact unhide HE)
    clear hxa HE
    go_wp2_with fail
    refine (sentry_any _ ai ni ci xs id x a HXA _ hni ((unhide HX).later (unhide HB1))).mono ?_
    rintro e w2 ⟨rfl, b2⟩
    have HB2 := hide ((unhide HB1).trans (b2.mono (unhide HB1).size))
    have MA2 := hide ((b2.block _ hz1).trans (unhide MA))
    have hz2 : w.heap.size < w2.heap.size := Nat.lt_of_lt_of_le hz1 b2.size
    have s2 := (unhide HB2).size
    clear q0 q1 b2 MA
    obtain ⟨q0, q1, -⟩ := blk_cells2 (unhide MA2)
    cases a
    · have HV' := hide (show flo fs id = r from unhide HV)
      go_wp2_with fail
      refine (sfloor_v _ af nf cf fs id r HV' _ hnf (((unhide HF).later (unhide HB2)).alloc _)).mono ?_
      rintro e w3 ⟨rfl, b3⟩
      have HB3 := hide (((unhide HB2).alloc s2 _).trans (b3.mono (by simp; omega)))
      clear b3
      go_wp2
      go_ret
      exact ⟨rfl, unhide HB3⟩
    · replace HV := hide (show (if x.2.1 = 0 then x.1 - 1 else x.1) = r from unhide HV)
      have he := (unhide OA).ent_in (entR_ent (unhide HXA))
      have hi := okE_inc he.2.2.1
      have hk := okE_rank he.2.2.1
      clear he
      obtain ⟨i1, i2⟩ := hi
      rcases Bool.eq_false_or_eq_true (x.2.1 == 0) with hu | hu
      · have hu' : x.2.1 = 0 := by simpa using hu
        obtain rfl : x.1 - 1 = r := by rw [← unhide HV, if_pos (by omega)]
        clear hk hu' HV
        go_wp2
        go_ret
        exact ⟨ret_int (by go_num), (unhide HB2).alloc s2 _⟩
      · have hu' : x.2.1 ≠ 0 := by simpa using hu
        obtain rfl : x.1 = r := by rw [← unhide HV, if_neg (by omega)]
        clear hk hu' HV
        go_wp2
        go_ret
        exact ⟨ret_int (by go_num), (unhide HB2).alloc s2 _⟩
end Go.Proofs.YtighiahppjekeaaGreatDoor

namespace Go.Proofs.YtighiahppjekeaaGreatDoor
open Go.RowKit

theorem grown_below9 {w w' : World} (row : Option Nat) (h : Below w.heap.size w w') : w.grownBy w' row := ⟨h.os, h.tape, h.output, h.size, fun i hi _ => h.block i hi⟩
theorem grown_set9 (w : World) (g o : Nat) (u : Value) : w.grownBy (w.setCell ⟨g, o, none⟩ u) (some g) :=
  ⟨rfl, rfl, rfl, by simp, fun i _ hne => heap_setCell_other _ _ _ _ (fun e => hne (by simp [e]))⟩
theorem grown_trans9 {w w1 w2 : World} {row : Option Nat} (h1 : w.grownBy w1 row) (h2 : w1.grownBy w2 row) : w.grownBy w2 row :=
  ⟨h2.os.trans h1.os, h2.tape.trans h1.tape, h2.output.trans h1.output, Nat.le_trans h1.size h2.size, fun i hi hne => (h2.block i (Nat.lt_of_lt_of_le hi h1.size) hne).trans (h1.block i hi hne)⟩
theorem Tryz.infoMk9 : (Tryz.prog.info? 37).map (fun i => (i.zero, i.size, i.bytes)) = some (some (.agg #[.int .i64 0, .int .i64 0]), 2, 16) := by kernel_rfl
set_option maxHeartbeats 2000000 in
set_option maxRecDepth 100000 in
theorem iwithM_any (base : Nat) (a : Option Addr) (n c : Nat) (fs : List Flr) (x : Flr) (q : Bool) (hq : Hid (inB x.2 1 1000 = q)) (w : World) (hn : n ≤ 100000) (hb : base ≤ w.heap.size) (h : Ow encF 2 37 base w (.slice a n c) fs) :
    Calls Tryz.prog 41 #[.slice a n c, .agg #[.int .i64 x.1, .int .i64 x.2]] w fun e w' => ∃ a' n' c', e = .returned (.slice a' n' c') ∧ Ow encF 2 37 base w' (.slice a' n' c') (fs ++ if q then [x] else []) ∧ w.grownBy w' (Value.slice a n c).ownBlock := by
  obtain ⟨i0, hi, hz0, hz1, hz2⟩ := info_parts Tryz.infoMk9
  have HZ2 := hide hz2
  have HO := hide h
  have HL := hide (h.rw encF_len).len.1
  have hm2 := mright_m (.int .i64 x.1) (.int .i64 x.2)
  clear h hz2
  go_enter Tryz.func41, Tryz.ntmps41
  go_wp2_with fail
  refine (mright_any x q hq _).mono ?_
  rintro e w1 ⟨rfl, b1⟩
  have hg1 := grown_below9 (Value.slice a n c).ownBlock (((Below.refl w.heap.size w).alloc (Nat.le_refl _) (.cells #[.int .i64 x.1, .int .i64 x.2] 37)).trans (b1.mono (by simp)))
  have HO1 := hide (((unhide HO).later (((Below.refl w.heap.size w).alloc (Nat.le_refl _) (.cells #[.int .i64 x.1, .int .i64 x.2] 37)).trans (b1.mono (by simp)))))
  have k1 := (b1.block _ (by simp)).trans (heap_alloc_new w _)
  have s1 : w.heap.size < w1.heap.size := by have := b1.size; simp at this; omega
  obtain ⟨p0, p1⟩ := blk_get2 k1
  have HG1 := hide hg1
  clear b1 k1 hg1 HO
  cases q
  · go_wp2
    go_ret
    exact ⟨_, _, _, rfl, by simpa using unhide HO1, unhide HG1⟩
  go_wp2_with (first | (at_builtin; refine wpList_app1 encF_len (by omega) oneF 37 68 i0 _ 16 Tryz.underlying68 hi hz0 hz1 (unhide HZ2) rfl (by omega) w1 x rfl _ _ rfl base _ _ n HL rfl (unhide HO1) rfl (by omega) (by omega) ?_))
  intro a' c' w2 hO hG
  have HO2 := hide hO
  have HG2 := hide (grown_trans9 (unhide HG1) hG)
  clear hO hG HO1 HG1 p0 p1
  go_wp2
  go_ret
  exact ⟨_, _, _, rfl, by simpa using unhide HO2, unhide HG2⟩
theorem Tryz.infoFl9 : (Tryz.prog.info? 59).map (fun i => (i.zero, i.size, i.bytes)) = some (some (.agg #[.int .i64 0, .int .i64 0]), 2, 16) := by kernel_rfl
set_option maxHeartbeats 2000000 in
set_option maxRecDepth 100000 in
theorem iwithF_any (base : Nat) (a : Option Addr) (n c : Nat) (fs : List Flr) (x : Flr) (q : Bool) (hq : Hid (inB x.2 1 1000 = q)) (w : World) (hn : n ≤ 100000) (hb : base ≤ w.heap.size) (h : Ow encF 2 59 base w (.slice a n c) fs) :
    Calls Tryz.prog 30 #[.slice a n c, .agg #[.int .i64 x.1, .int .i64 x.2]] w fun e w' => ∃ a' n' c', e = .returned (.slice a' n' c') ∧ Ow encF 2 59 base w' (.slice a' n' c') (fs ++ if q then [x] else []) ∧ w.grownBy w' (Value.slice a n c).ownBlock := by
  obtain ⟨i0, hi, hz0, hz1, hz2⟩ := info_parts Tryz.infoFl9
  have HZ2 := hide hz2
  have HO := hide h
  have HL := hide (h.rw encF_len).len.1
  have hm2 := fright_m (.int .i64 x.1) (.int .i64 x.2)
  clear h hz2
  go_enter Tryz.func30, Tryz.ntmps30
  go_wp2_with fail
  refine (fright_any x q hq _).mono ?_
  rintro e w1 ⟨rfl, b1⟩
  have hg1 := grown_below9 (Value.slice a n c).ownBlock (((Below.refl w.heap.size w).alloc (Nat.le_refl _) (.cells #[.int .i64 x.1, .int .i64 x.2] 59)).trans (b1.mono (by simp)))
  have HO1 := hide (((unhide HO).later (((Below.refl w.heap.size w).alloc (Nat.le_refl _) (.cells #[.int .i64 x.1, .int .i64 x.2] 59)).trans (b1.mono (by simp)))))
  have k1 := (b1.block _ (by simp)).trans (heap_alloc_new w _)
  have s1 : w.heap.size < w1.heap.size := by have := b1.size; simp at this; omega
  obtain ⟨p0, p1⟩ := blk_get2 k1
  have HG1 := hide hg1
  clear b1 k1 hg1 HO
  cases q
  · go_wp2
    go_ret
    exact ⟨_, _, _, rfl, by simpa using unhide HO1, unhide HG1⟩
  go_wp2_with (first | (at_builtin; refine wpList_app1 encF_len (by omega) oneF 59 57 i0 _ 16 Tryz.underlying57 hi hz0 hz1 (unhide HZ2) rfl (by omega) w1 x rfl _ _ rfl base _ _ n HL rfl (unhide HO1) rfl (by omega) (by omega) ?_))
  intro a' c' w2 hO hG
  have HO2 := hide hO
  have HG2 := hide (grown_trans9 (unhide HG1) hG)
  clear hO hG HO1 HG1 p0 p1
  go_wp2
  go_ret
  exact ⟨_, _, _, rfl, by simpa using unhide HO2, unhide HG2⟩
end Go.Proofs.YtighiahppjekeaaGreatDoor

namespace Go.Proofs.YtighiahppjekeaaGreatDoor
open Go.RowKit

abbrev OwK (base : Nat) (w : World) (v : Value) (fs : List Flr) : Prop := Ow encF 2 37 base w v fs
theorem Tryz.infoMrk : (Tryz.prog.info? 37).map (fun i => (i.zero, i.size, i.bytes)) = some (some (.agg #[.int .i64 0, .int .i64 0]), 2, 16) := by kernel_rfl
theorem madeK {w : World} {g base : Nat} (hb : base ≤ g) (h : w.heap[g]? = some (.cells #[] 37 (0, 0))) : OwK base w (.slice (some ⟨g, 0, none⟩) 0 0) [] :=
  ⟨by simp, .inr ⟨g, 0, #[], rfl, hb, h, by simp, by simp⟩⟩
set_option maxHeartbeats 4000000 in
set_option maxRecDepth 100000 in
theorem smarksof_any (ai : Option Addr) (ni ci : Nat) (xs : List Itm) (af : Option Addr) (nf cf : Nat) (fs : List Flr) (w : World)
    (hni : ni ≤ 140737488351232) (hnf : nf ≤ 140737488351232) (hx : Rw encI 6 w (.slice ai ni ci) xs) (hf : Rw encF 2 w (.slice af nf cf) fs) :
    Calls Tryz.prog 29 #[.agg #[.slice ai ni ci, .slice af nf cf]] w fun e w' => ∃ a c, e = .returned (.slice a (mks xs fs).length c) ∧ OwK w.heap.size w' (.slice a (mks xs fs).length c) (mks xs fs) ∧ Below w.heap.size w w' := by
  obtain ⟨i0, hi, hz0, hz1, hz2⟩ := info_parts Tryz.infoMrk
  have HZ2 := hide hz2
  have HX := hide hx
  have HF := hide hf
  clear hx hf hz2
  go_enter Tryz.func29, Tryz.ntmps29
  go_wp2
  go_loopw [3, 4] (fun v i wr => ∃ (k : Nat) (b : Option Addr) (n d : Nat), k ≤ 5 ∧ i = .int .i64 k ∧ v = .slice b n d ∧ OwK (w.heap.size + 1) wr (.slice b n d) (mkK (gone xs fs) k) ∧ Below w.heap.size w wr ∧ wr.heap[w.heap.size]? = some (.cells #[.slice ai ni ci, .slice af nf cf] 27 (0, 0)) ∧ w.heap.size + 1 < wr.heap.size) (fun _ i _ => 5 - (intOf i).toNat)
  case atStart => exact ⟨0, _, _, _, Nat.zero_le _, rfl, rfl, madeK (Nat.le_refl _) (newB2 w _ _), ((Below.refl _ _).alloc (Nat.le_refl _) _).alloc (by simp) _, lowB2 w _ _, by simp⟩
  case round =>
    obtain ⟨k, b, n, d, hk, rfl, rfl, hown, hbel, hblk, hsw⟩ := hrel
    have HO := hide hown
    have HB := hide hbel
    have HK := hide hblk
    have hsz := hbel.size
    have hlen := (hown.rw encF_len).len.1
    have hl5 := mkK_len (gone xs fs) k
    have hn5 : n ≤ 5 := by omega
    have HL := hide hlen
    by_cases hlt : k < 5
    · obtain ⟨p0, p1, -⟩ := blk_cells2 hblk
      obtain ⟨r, hr⟩ : ∃ r, Hid (gone xs fs (k : Int) = r) := ⟨_, hide rfl⟩
      have HKK : Hid (mkK (gone xs fs) (k + 1) = mkK (gone xs fs) k ++ if 0 < r then [((k : Int), r)] else []) := hide (by rw [mkK, mk1, unhide hr])
      clear hown hbel hblk hl5 hlen
      go_wp2_with fail
      refine (sgone_any ai ni ci xs af nf cf fs k r hr _ hni hnf ((unhide HX).later (unhide HB)) ((unhide HF).later (unhide HB))).mono ?_
      rintro e w1 ⟨rfl, b1⟩
      have HB1 := hide ((unhide HB).trans (b1.mono hsz))
      have HK1 := hide ((b1.block _ (by omega)).trans (unhide HK))
      have HO1 := hide ((unhide HO).later b1)
      have hs1 : w.heap.size + 1 < w1.heap.size := Nat.lt_of_lt_of_le hsw b1.size
      clear b1 HB HK HO p0 p1
      by_cases hr0 : 0 < r
      · have hd : decide (0 < r) = true := by simpa using hr0
        have HN : Hid (mkK (gone xs fs) (k + 1) = mkK (gone xs fs) k ++ [((k : Int), r)]) := hide (by rw [unhide HKK, if_pos hr0])
        go_wp2_with (first | (at_builtin; refine wpList_app1 encF_len (by omega) oneF 37 34 i0 _ 16 Tryz.underlying34 hi hz0 hz1 (unhide HZ2) rfl (by omega) w1 ((k : Int), r) rfl _ _ rfl (w.heap.size + 1) _ _ n HL rfl (unhide HO1) rfl (by omega) (by omega) ?_))
        intro a' c' w2 hO hG
        have HO2 := hide hO
        have HB2 := hide ((unhide HB1).grown hG (by omega) (fun g hg => by have := (World.ownsRow.lt (unhide HO1) g hg).1; omega))
        have HK2 := hide ((hG.block _ (by omega) (fun e => by have := (World.ownsRow.lt (unhide HO1) _ e.symm).1; omega)).trans (unhide HK1))
        have hs2 : w.heap.size + 1 < w2.heap.size := Nat.lt_of_lt_of_le hs1 hG.size
        clear hO hG HO1 HB1 HK1
        go_wp2
        go_roundw
        case rel => exact ⟨k + 1, _, _, _, by omega, by go_num, rfl, by rw [unhide HN]; exact unhide HO2, unhide HB2, unhide HK2, hs2⟩
        case measure => simp [intOf]; omega
      · have hd : decide (0 < r) = false := by simpa using hr0
        have HN : Hid (mkK (gone xs fs) (k + 1) = mkK (gone xs fs) k) := hide (by rw [unhide HKK, if_neg hr0, List.append_nil])
        go_wp2
        go_roundw
        case rel => exact ⟨k + 1, _, _, _, by omega, by go_num, rfl, by rw [unhide HN]; exact unhide HO1, unhide HB1, unhide HK1, hs1⟩
        case measure => simp [intOf]; omega
    · obtain rfl : k = 5 := by omega
      clear hbel hblk hown
      go_wp2
      go_ret
      refine ⟨b, d, ?_, ?_, unhide HB⟩
      · rw [unhide HL]; rfl
      · have h := unhide HO
        rw [unhide HL] at h
        exact h.base (by omega)
set_option maxHeartbeats 4000000 in
set_option maxRecDepth 100000 in
theorem imarksof_any (ai : Option Addr) (ni ci : Nat) (xs : List Itm) (af : Option Addr) (nf cf : Nat) (fs : List Flr) (w : World)
    (hni : ni ≤ 140737488351232) (hnf : nf ≤ 140737488351232) (hx : Rw encI 6 w (.slice ai ni ci) xs) (hf : Rw encF 2 w (.slice af nf cf) fs) :
    Calls Tryz.prog 11 #[.agg #[.slice ai ni ci, .slice af nf cf]] w fun e w' => ∃ a c, e = .returned (.slice a (mks xs fs).length c) ∧ OwK w.heap.size w' (.slice a (mks xs fs).length c) (mks xs fs) ∧ Below w.heap.size w w' := by
  have HX := hide hx
  have HF := hide hf
  clear hx hf
  go_enter Tryz.func11, Tryz.ntmps11
  go_wp2
  go_loopw [3, 5] (fun v i wr => ∃ (k : Nat) (b : Option Addr) (n d : Nat), k ≤ 5 ∧ i = .int .i64 k ∧ v = .slice b n d ∧ OwK (w.heap.size + 1) wr (.slice b n d) (mkK (gone xs fs) k) ∧ Below w.heap.size w wr ∧ wr.heap[w.heap.size]? = some (.cells #[.slice ai ni ci, .slice af nf cf] 27 (0, 0)) ∧ w.heap.size + 1 ≤ wr.heap.size) (fun _ i _ => 5 - (intOf i).toNat)
  case atStart => exact ⟨0, none, 0, 0, Nat.zero_le _, rfl, rfl, World.ownsRow_nil _ _ _ _, (Below.refl _ _).alloc (Nat.le_refl _) _, heap_alloc_new w _, by simp⟩
  case round =>
    obtain ⟨k, b, n, d, hk, rfl, rfl, hown, hbel, hblk, hsw⟩ := hrel
    have HO := hide hown
    have HB := hide hbel
    have HK := hide hblk
    have hsz := hbel.size
    have hlen := (hown.rw encF_len).len.1
    have hl5 := mkK_len (gone xs fs) k
    have hn5 : n ≤ 5 := by omega
    have HL := hide hlen
    by_cases hlt : k < 5
    · obtain ⟨p0, p1, -⟩ := blk_cells2 hblk
      obtain ⟨r, hr⟩ : ∃ r, Hid (gone xs fs (k : Int) = r) := ⟨_, hide rfl⟩
      have hr3 := gone_le xs fs (k : Int)
      rw [unhide hr] at hr3
      obtain ⟨q, hq⟩ : ∃ q, Hid (inB r 1 1000 = q) := ⟨_, hide rfl⟩
      have HKK : Hid (mkK (gone xs fs) (k + 1) = mkK (gone xs fs) k ++ if q then [((k : Int), r)] else []) := hide (by
        rw [mkK, mk1, unhide hr, ← unhide hq]
        by_cases h : 0 < r
        · rw [if_pos h, if_pos (by simp [inB]; omega)]
        · rw [if_neg h, if_neg (by simp [inB]; omega)])
      clear hown hbel hblk hl5 hlen hr3
      go_wp2_with fail
      refine (igone_any ai ni ci xs af nf cf fs k r hr _ hni hnf ((unhide HX).later (unhide HB)) ((unhide HF).later (unhide HB))).mono ?_
      rintro e w1 ⟨rfl, b1⟩
      have HB1 := hide ((unhide HB).trans (b1.mono hsz))
      have HK1 := hide ((b1.block _ (by omega)).trans (unhide HK))
      have HO1 := hide ((unhide HO).later b1)
      have hs1 : w.heap.size + 1 ≤ w1.heap.size := Nat.le_trans hsw b1.size
      clear b1 HB HK HO p0 p1
      go_wp2_with fail
      refine (iwithM_any (w.heap.size + 1) b n d _ ((k : Int), r) q hq _ (by omega) hs1 (unhide HO1)).mono ?_
      rintro e w2 ⟨a', n', c', rfl, hO, hG⟩
      have HO2 := hide hO
      have HB2 := hide ((unhide HB1).grown hG (by omega) (fun g hg => by have := (World.ownsRow.lt (unhide HO1) g hg).1; omega))
      have HK2 := hide ((hG.block _ (by omega) (fun e => by have := (World.ownsRow.lt (unhide HO1) _ e.symm).1; omega)).trans (unhide HK1))
      have hs2 : w.heap.size + 1 ≤ w2.heap.size := Nat.le_trans hs1 hG.size
      clear hO hG HO1 HB1 HK1
      go_wp2
      go_roundw
      case rel => exact ⟨k + 1, _, _, _, by omega, by go_num, rfl, by rw [unhide HKK]; exact unhide HO2, unhide HB2, unhide HK2, hs2⟩
      case measure => simp [intOf]; omega
    · obtain rfl : k = 5 := by omega
      clear hbel hblk hown
      go_wp2
      go_ret
      refine ⟨b, d, ?_, ?_, unhide HB⟩
      · rw [unhide HL]; rfl
      · have h := unhide HO
        rw [unhide HL] at h
        exact h.base (by omega)
end Go.Proofs.YtighiahppjekeaaGreatDoor
