/-
  Equality of items and of floors, as the model reckons it. No statement is proved here.
  StateSame of the program: it answers whether both read the same. No statement is proved here.
  StateSame of the specification: it answers whether both read the same. No statement is proved here.
  Beneath, and how far one is over: the program's and the specification's. No statement is proved here.
-/
import Derived.Test.YtdpaocikmijioaaEntOf
import Derived.Laws.StructEq
import Derived.Lib.Strings
import Derived.Test.YtdpaocikmijioaaRegs6
import Derived.Test.YtdpaocikmijioaaVwP
import Derived.Test.YtdpaocikmijioaaSt3
import Derived.Test.YtdpaocikmijioaaIJoin
import Derived.Test.YtdpaocikmijioaaSJoin2
namespace Go.Proofs.Ytdpaocikmijioaa
open Go.RowKit

theorem bytes_eq (x y : ByteArray) : x.toList = y.toList ↔ x = y := by
  refine ⟨fun h => ?_, fun h => by rw [h]⟩
  rw [Lib.toList_data, Lib.toList_data] at h
  obtain ⟨⟨x⟩⟩ := x
  obtain ⟨⟨y⟩⟩ := y
  simp at h
  rw [h]
theorem eqI_iff (x y : Itm) : x = y ↔ x.1 = y.1 ∧ x.2.1 = y.2.1 ∧ x.2.2.1 = y.2.2.1 ∧ x.2.2.2.1 = y.2.2.2.1 ∧ x.2.2.2.2.1 = y.2.2.2.2.1 ∧ x.2.2.2.2.2.toList = y.2.2.2.2.2.toList := by
  rw [bytes_eq]
  obtain ⟨a0, a1, a2, a3, a4, a5⟩ := x
  obtain ⟨b0, b1, b2, b3, b4, b5⟩ := y
  simp only [Prod.mk.injEq]
set_option maxHeartbeats 1000000 in
theorem eqI_run (x y : Itm) (b : Bool) (hb : decide (x = y) = b) (W : World) : (Op.equalIn 10000 44 (.agg #[.int .i64 x.1, .int .i64 x.2.1, .int .i64 x.2.2.1, .int .i64 x.2.2.2.1, .int .i64 x.2.2.2.2.1, .string x.2.2.2.2.2]) (.agg #[.int .i64 y.1, .int .i64 y.2.1, .int .i64 y.2.2.1, .int .i64 y.2.2.2.1, .int .i64 y.2.2.2.2.1, .string y.2.2.2.2.2])).run Try.prog W = .ok b W := by
  subst hb
  have e : decide (x = y) = decide (x.1 = y.1 ∧ x.2.1 = y.2.1 ∧ x.2.2.1 = y.2.2.1 ∧ x.2.2.2.1 = y.2.2.2.1 ∧ x.2.2.2.2.1 = y.2.2.2.2.1 ∧ x.2.2.2.2.2.toList = y.2.2.2.2.2.toList) := decide_eq_decide.mpr (eqI_iff x y)
  rw [e]
  clear e
  generalize x.1 = a0
  generalize y.1 = b0
  obtain ⟨a1, a2, a3, a4, a5⟩ := x.2
  obtain ⟨b1, b2, b3, b4, b5⟩ := y.2
  go_simp
  repeat' split
  all_goals simp_all
set_option maxHeartbeats 1000000 in
theorem eqF_run (x y : Flr) (b : Bool) (hb : decide (x = y) = b) (W : World) : (Op.equalIn 10000 56 (.agg #[.int .i64 x.1, .int .i64 x.2]) (.agg #[.int .i64 y.1, .int .i64 y.2])).run Try.prog W = .ok b W := by
  subst hb
  obtain ⟨a0, a1⟩ := x
  obtain ⟨b0, b1⟩ := y
  have e : decide ((a0, a1) = (b0, b1)) = decide (a0 = b0 ∧ a1 = b1) := decide_eq_decide.mpr (by simp)
  rw [e]
  clear e
  go_simp
  repeat' split
  all_goals simp_all

theorem same_all {α : Type} {xs ys : List α} {n : Nat} (h1 : n = xs.length) (h2 : n = ys.length) (h : ∀ j : Nat, j < n → xs[j]? = ys[j]?) : xs = ys := by
  apply List.ext_getElem?
  intro i
  by_cases hi : i < n
  · exact h i hi
  · rw [List.getElem?_eq_none (by omega), List.getElem?_eq_none (by omega)]
theorem same_step {α : Type} {xs ys : List α} {k : Nat} {x y : α} (hx : xs[k]? = some x) (hy : ys[k]? = some y) (e : x = y) (h : ∀ j : Nat, j < k → xs[j]? = ys[j]?) : ∀ j : Nat, j < k + 1 → xs[j]? = ys[j]? := by
  intro j hj
  by_cases c : j = k
  · subst c; rw [hx, hy, e]
  · exact h j (by omega)
theorem same_not {α : Type} {xs ys : List α} {k : Nat} {x y : α} (hx : xs[k]? = some x) (hy : ys[k]? = some y) (e : x ≠ y) : xs ≠ ys := by
  intro h
  subst h
  rw [hx] at hy
  exact e (Option.some.inj hy)
theorem same_len {α : Type} {xs ys : List α} {n m : Nat} (h1 : n = xs.length) (h2 : m = ys.length) (h : n ≠ m) : xs ≠ ys := by
  intro e; subst e; omega
theorem nb_false {a b : Nat} (h : a ≠ b) : ((a : Int) != (b : Int)) = true := by
  simp; omega
end Go.Proofs.Ytdpaocikmijioaa

namespace Go.Proofs.Ytdpaocikmijioaa
open Go.RowKit

set_option maxHeartbeats 2000000 in
theorem sleqi_any (a : Option Addr) (n cap : Nat) (a2 : Option Addr) (m cap2 : Nat) (xs ys : List Itm) (r : Bool) (hr : Hid (decide (xs = ys) = r)) (w : World) (hn : n ≤ 140737488351232) (hm : m ≤ 140737488351232) (hx : Rw encI 6 w (.slice a n cap) xs) (hy : Rw encI 6 w (.slice a2 m cap2) ys) :
    Calls Try.prog 36 #[.slice a n cap, .slice a2 m cap2] w fun e w' => e = .returned (.bool r) ∧ Below w.heap.size w w' := by
  have HX := hide hx
  have HY := hide hy
  clear hx hy
  by_cases hnm : n = m
  rotate_left
  · have d0 := nb_false hnm
    obtain rfl : r = false := by rw [← unhide hr]; simpa using same_len (unhide HX).len.1 (unhide HY).len.1 hnm
    go_enter Try.func36, Try.ntmps36
    go_wp2
    go_ret
    exact ⟨rfl, Below.refl _ _⟩
  subst hnm
  have d0 : ((n : Int) != (n : Int)) = false := by simp
  go_enter Try.func36, Try.ntmps36
  go_wp2
  go_loopw [13] (fun i wr => ∃ k : Nat, k ≤ n ∧ i = .int .i64 k ∧ (∀ j : Nat, j < k → xs[j]? = ys[j]?) ∧ Below w.heap.size w wr) (fun i _ => n - (intOf i).toNat)
  case atStart => exact ⟨0, Nat.zero_le _, rfl, fun j hj => absurd hj (Nat.not_lt_zero _), Below.refl _ _⟩
  case round =>
    obtain ⟨k, hk, rfl, hno, hbel⟩ := hrel
    have HN := hide hno
    have HB := hide hbel
    have hsz := hbel.size
    clear hno
    by_cases hlt : k < n
    · obtain ⟨x, b, off, hx, rfl, hb, hcap, hc⟩ := (unhide HX).at hlt
      obtain ⟨y, b2, off2, hy, rfl, hb2, hcap2, hc2⟩ := (unhide HY).at hlt
      have l0 := later_some (w := wr) (b := b) (o := off + k * 6) (v := .int .i64 x.1) (by omega) ((hbel.cell (p := ⟨b, off + k * 6, none⟩) hb).trans (hc 0 (by omega)))
      have l1 := later_some (w := wr) (b := b) (o := off + k * 6 + 1) (v := .int .i64 x.2.1) (by omega) ((hbel.cell (p := ⟨b, off + k * 6 + 1, none⟩) hb).trans (hc 1 (by omega)))
      have l2 := later_some (w := wr) (b := b) (o := off + k * 6 + 2) (v := .int .i64 x.2.2.1) (by omega) ((hbel.cell (p := ⟨b, off + k * 6 + 2, none⟩) hb).trans (hc 2 (by omega)))
      have l3 := later_some (w := wr) (b := b) (o := off + k * 6 + 3) (v := .int .i64 x.2.2.2.1) (by omega) ((hbel.cell (p := ⟨b, off + k * 6 + 3, none⟩) hb).trans (hc 3 (by omega)))
      have l4 := later_some (w := wr) (b := b) (o := off + k * 6 + 4) (v := .int .i64 x.2.2.2.2.1) (by omega) ((hbel.cell (p := ⟨b, off + k * 6 + 4, none⟩) hb).trans (hc 4 (by omega)))
      have l5 := later_some (w := wr) (b := b) (o := off + k * 6 + 5) (v := .string x.2.2.2.2.2) (by omega) ((hbel.cell (p := ⟨b, off + k * 6 + 5, none⟩) hb).trans (hc 5 (by omega)))
      have m0 := later_some (w := wr) (b := b2) (o := off2 + k * 6) (v := .int .i64 y.1) (by omega) ((hbel.cell (p := ⟨b2, off2 + k * 6, none⟩) hb2).trans (hc2 0 (by omega)))
      have m1 := later_some (w := wr) (b := b2) (o := off2 + k * 6 + 1) (v := .int .i64 y.2.1) (by omega) ((hbel.cell (p := ⟨b2, off2 + k * 6 + 1, none⟩) hb2).trans (hc2 1 (by omega)))
      have m2 := later_some (w := wr) (b := b2) (o := off2 + k * 6 + 2) (v := .int .i64 y.2.2.1) (by omega) ((hbel.cell (p := ⟨b2, off2 + k * 6 + 2, none⟩) hb2).trans (hc2 2 (by omega)))
      have m3 := later_some (w := wr) (b := b2) (o := off2 + k * 6 + 3) (v := .int .i64 y.2.2.2.1) (by omega) ((hbel.cell (p := ⟨b2, off2 + k * 6 + 3, none⟩) hb2).trans (hc2 3 (by omega)))
      have m4 := later_some (w := wr) (b := b2) (o := off2 + k * 6 + 4) (v := .int .i64 y.2.2.2.2.1) (by omega) ((hbel.cell (p := ⟨b2, off2 + k * 6 + 4, none⟩) hb2).trans (hc2 4 (by omega)))
      have m5 := later_some (w := wr) (b := b2) (o := off2 + k * 6 + 5) (v := .string y.2.2.2.2.2) (by omega) ((hbel.cell (p := ⟨b2, off2 + k * 6 + 5, none⟩) hb2).trans (hc2 5 (by omega)))
      have HX1 := hide hx
      have HY1 := hide hy
      clear hc hc2 hx hy hbel
      rcases Bool.eq_false_or_eq_true (decide (x = y)) with he | he
      · have hrun := eqI_run x y true he
        have HE := hide (same_step (unhide HX1) (unhide HY1) (of_decide_eq_true he) (unhide HN))
        clear he
        go_wp2_with fail
        refine wp_region_later (by kernel_rfl) (by kernel_rfl) ?_
        repeat (first | go_big_quiet_step (fail) | quiet_step (fail))
        refine wpQuiet_nil ?_
        intro w1 hb1
        have HB1 := hide ((unhide HB).trans (hb1.mono hsz))
        clear hb1 HB hrun
        go_wp2
        go_roundw
        case rel => exact ⟨k + 1, by omega, by go_num, unhide HE, unhide HB1⟩
        case measure => simp [intOf]; omega
      · have hrun := eqI_run x y false he
        obtain rfl : r = false := by rw [← unhide hr]; simpa using same_not (unhide HX1) (unhide HY1) (of_decide_eq_false he)
        clear he
        go_wp2_with fail
        refine wp_region_later (by kernel_rfl) (by kernel_rfl) ?_
        repeat (first | go_big_quiet_step (fail) | quiet_step (fail))
        refine wpQuiet_nil ?_
        intro w1 hb1
        have HB1 := hide ((unhide HB).trans (hb1.mono hsz))
        clear hb1 HB hrun
        go_wp2
        go_ret
        exact ⟨rfl, unhide HB1⟩
    · obtain rfl : r = true := by
        rw [← unhide hr]
        have e : k = n := by omega
        simpa using same_all (unhide HX).len.1 (unhide HY).len.1 (e ▸ unhide HN)
      clear hbel
      go_wp2
      go_ret
      exact ⟨rfl, unhide HB⟩

set_option maxHeartbeats 2000000 in
theorem sleqf_any (a : Option Addr) (n cap : Nat) (a2 : Option Addr) (m cap2 : Nat) (xs ys : List Flr) (r : Bool) (hr : Hid (decide (xs = ys) = r)) (w : World) (hn : n ≤ 140737488351232) (hm : m ≤ 140737488351232) (hx : Rw encF 2 w (.slice a n cap) xs) (hy : Rw encF 2 w (.slice a2 m cap2) ys) :
    Calls Try.prog 37 #[.slice a n cap, .slice a2 m cap2] w fun e w' => e = .returned (.bool r) ∧ Below w.heap.size w w' := by
  have HX := hide hx
  have HY := hide hy
  clear hx hy
  by_cases hnm : n = m
  rotate_left
  · have d0 := nb_false hnm
    obtain rfl : r = false := by rw [← unhide hr]; simpa using same_len (unhide HX).len.1 (unhide HY).len.1 hnm
    go_enter Try.func37, Try.ntmps37
    go_wp2
    go_ret
    exact ⟨rfl, Below.refl _ _⟩
  subst hnm
  have d0 : ((n : Int) != (n : Int)) = false := by simp
  go_enter Try.func37, Try.ntmps37
  go_wp2
  go_loopw [13] (fun i wr => ∃ k : Nat, k ≤ n ∧ i = .int .i64 k ∧ (∀ j : Nat, j < k → xs[j]? = ys[j]?) ∧ Below w.heap.size w wr) (fun i _ => n - (intOf i).toNat)
  case atStart => exact ⟨0, Nat.zero_le _, rfl, fun j hj => absurd hj (Nat.not_lt_zero _), Below.refl _ _⟩
  case round =>
    obtain ⟨k, hk, rfl, hno, hbel⟩ := hrel
    have HN := hide hno
    have HB := hide hbel
    have hsz := hbel.size
    clear hno
    by_cases hlt : k < n
    · obtain ⟨x, b, off, hx, rfl, hb, hcap, hc⟩ := (unhide HX).at hlt
      obtain ⟨y, b2, off2, hy, rfl, hb2, hcap2, hc2⟩ := (unhide HY).at hlt
      have l0 := later_some (w := wr) (b := b) (o := off + k * 2) (v := .int .i64 x.1) (by omega) ((hbel.cell (p := ⟨b, off + k * 2, none⟩) hb).trans (hc 0 (by omega)))
      have l1 := later_some (w := wr) (b := b) (o := off + k * 2 + 1) (v := .int .i64 x.2) (by omega) ((hbel.cell (p := ⟨b, off + k * 2 + 1, none⟩) hb).trans (hc 1 (by omega)))
      have m0 := later_some (w := wr) (b := b2) (o := off2 + k * 2) (v := .int .i64 y.1) (by omega) ((hbel.cell (p := ⟨b2, off2 + k * 2, none⟩) hb2).trans (hc2 0 (by omega)))
      have m1 := later_some (w := wr) (b := b2) (o := off2 + k * 2 + 1) (v := .int .i64 y.2) (by omega) ((hbel.cell (p := ⟨b2, off2 + k * 2 + 1, none⟩) hb2).trans (hc2 1 (by omega)))
      have HX1 := hide hx
      have HY1 := hide hy
      clear hc hc2 hx hy hbel
      rcases Bool.eq_false_or_eq_true (decide (x = y)) with he | he
      · have hrun := eqF_run x y true he
        have HE := hide (same_step (unhide HX1) (unhide HY1) (of_decide_eq_true he) (unhide HN))
        clear he
        go_wp2_with fail
        refine wp_region_later (by kernel_rfl) (by kernel_rfl) ?_
        repeat (first | go_big_quiet_step (fail) | quiet_step (fail))
        refine wpQuiet_nil ?_
        intro w1 hb1
        have HB1 := hide ((unhide HB).trans (hb1.mono hsz))
        clear hb1 HB hrun
        go_wp2
        go_roundw
        case rel => exact ⟨k + 1, by omega, by go_num, unhide HE, unhide HB1⟩
        case measure => simp [intOf]; omega
      · have hrun := eqF_run x y false he
        obtain rfl : r = false := by rw [← unhide hr]; simpa using same_not (unhide HX1) (unhide HY1) (of_decide_eq_false he)
        clear he
        go_wp2_with fail
        refine wp_region_later (by kernel_rfl) (by kernel_rfl) ?_
        repeat (first | go_big_quiet_step (fail) | quiet_step (fail))
        refine wpQuiet_nil ?_
        intro w1 hb1
        have HB1 := hide ((unhide HB).trans (hb1.mono hsz))
        clear hb1 HB hrun
        go_wp2
        go_ret
        exact ⟨rfl, unhide HB1⟩
    · obtain rfl : r = true := by
        rw [← unhide hr]
        have e : k = n := by omega
        simpa using same_all (unhide HX).len.1 (unhide HY).len.1 (e ▸ unhide HN)
      clear hbel
      go_wp2
      go_ret
      exact ⟨rfl, unhide HB⟩

set_option maxHeartbeats 2000000 in
theorem isame_any (ai : Option Addr) (ni ci : Nat) (xs : List Itm) (af : Option Addr) (nf cf : Nat) (fs : List Flr) (bi : Option Addr) (mi di : Nat) (ys : List Itm) (bf : Option Addr) (mf df : Nat) (gs : List Flr) (r : Bool) (hr : Hid ((decide (xs = ys) && decide (fs = gs)) = r)) (w : World)
    (hni : ni ≤ 140737488351232) (hnf : nf ≤ 140737488351232) (hmi : mi ≤ 140737488351232) (hmf : mf ≤ 140737488351232) (hx : Rw encI 6 w (.slice ai ni ci) xs) (hf : Rw encF 2 w (.slice af nf cf) fs) (hy : Rw encI 6 w (.slice bi mi di) ys) (hg : Rw encF 2 w (.slice bf mf df) gs) :
    Calls Try.prog 13 #[.agg #[.slice ai ni ci, .slice af nf cf], .agg #[.slice bi mi di, .slice bf mf df]] w fun e w' => e = .returned (.bool r) ∧ Below w.heap.size w w' := by
  have HX := hide hx
  have HY := hide hy
  have HF := hide hf
  have HG := hide hg
  clear hx hy hf hg
  obtain ⟨r1, hr1⟩ : ∃ r1, decide (xs = ys) = r1 := ⟨_, rfl⟩
  obtain ⟨r2, hr2⟩ : ∃ r2, decide (fs = gs) = r2 := ⟨_, rfl⟩
  have HR1 := hide hr1
  have HR2 := hide hr2
  have hrr := unhide hr
  rw [hr1, hr2] at hrr
  clear hr1 hr2 hr
  cases r1
  · obtain rfl : r = false := hrr.symm
    go_enter Try.func13, Try.ntmps13
    go_wp2_with fail
    refine (sleqi_any ai ni ci bi mi di xs ys _ HR1 _ hni hmi (((unhide HX).alloc _).alloc _) (((unhide HY).alloc _).alloc _)).mono ?_
    rintro e w1 ⟨rfl, b1⟩
    have HB := hide ((((Below.refl w.heap.size w).alloc (Nat.le_refl _) _).alloc (by simp) _).trans (b1.mono (by simp; omega)))
    clear b1
    go_wp2
    go_ret
    exact ⟨rfl, unhide HB⟩
  · obtain rfl : r = r2 := hrr.symm
    clear hrr
    go_enter Try.func13, Try.ntmps13
    go_wp2_with fail
    refine (sleqi_any ai ni ci bi mi di xs ys _ HR1 _ hni hmi (((unhide HX).alloc _).alloc _) (((unhide HY).alloc _).alloc _)).mono ?_
    rintro e w1 ⟨rfl, b1⟩
    obtain ⟨p0, p1, -⟩ := blk_cells2 ((b1.block w.heap.size (by simp; omega)).trans (lowB2 w _ _))
    obtain ⟨q0, q1, -⟩ := blk_cells2 ((b1.block (w.heap.size + 1) (by simp)).trans (newB2 w _ _))
    have HB := hide ((((Below.refl w.heap.size w).alloc (Nat.le_refl _) _).alloc (by simp) _).trans (b1.mono (by simp; omega)))
    clear b1
    go_wp2_with fail
    refine (sleqf_any af nf cf bf mf df fs gs _ HR2 _ hnf hmf ((unhide HF).later (unhide HB)) ((unhide HG).later (unhide HB))).mono ?_
    rintro e w2 ⟨rfl, b2⟩
    have HB2 := hide ((unhide HB).trans (b2.mono (unhide HB).size))
    clear b2
    go_wp2
    go_ret
    exact ⟨rfl, unhide HB2⟩
end Go.Proofs.Ytdpaocikmijioaa

namespace Go.Proofs.Ytdpaocikmijioaa
open Go.RowKit

set_option maxHeartbeats 4000000 in
set_option maxRecDepth 100000 in
theorem ssame_any (ai : Option Addr) (ni ci : Nat) (xs : List Itm) (af : Option Addr) (nf cf : Nat) (fs : List Flr) (bi : Option Addr) (mi di : Nat) (ys : List Itm) (bf : Option Addr) (mf df : Nat) (gs : List Flr) (r : Bool) (hr : Hid ((decide (xs = ys) && decide (fs = gs)) = r)) (w : World)
    (hni : ni ≤ 140737488351232) (hnf : nf ≤ 140737488351232) (hmi : mi ≤ 140737488351232) (hmf : mf ≤ 140737488351232) (hx : Rw encI 6 w (.slice ai ni ci) xs) (hf : Rw encF 2 w (.slice af nf cf) fs) (hy : Rw encI 6 w (.slice bi mi di) ys) (hg : Rw encF 2 w (.slice bf mf df) gs) :
    Calls Try.prog 25 #[.agg #[.slice ai ni ci, .slice af nf cf], .agg #[.slice bi mi di, .slice bf mf df]] w fun e w' => e = .returned (.bool r) ∧ Below w.heap.size w w' := by
  have HX := hide hx
  have HY := hide hy
  have HF := hide hf
  have HG := hide hg
  clear hx hy hf hg
  by_cases h1 : ni = mi
  rotate_left
  · have d1 := nb_false h1
    obtain rfl : r = false := by
      rw [← unhide hr]
      have h := same_len (unhide HX).len.1 (unhide HY).len.1 h1
      simp [h]
    clear h1
    go_enter Try.func25, Try.ntmps25
    go_wp2
    go_ret
    exact ⟨rfl, ((Below.refl _ _).alloc (Nat.le_refl _) _).alloc (by simp) _⟩
  subst h1
  have d1 : ((ni : Int) != (ni : Int)) = false := by simp
  by_cases h2 : nf = mf
  rotate_left
  · have d2 := nb_false h2
    obtain rfl : r = false := by
      rw [← unhide hr]
      have h := same_len (unhide HF).len.1 (unhide HG).len.1 h2
      simp [h]
    clear h2
    go_enter Try.func25, Try.ntmps25
    go_wp2
    go_ret
    exact ⟨rfl, ((Below.refl _ _).alloc (Nat.le_refl _) _).alloc (by simp) _⟩
  subst h2
  have d2 : ((nf : Int) != (nf : Int)) = false := by simp
  go_enter Try.func25, Try.ntmps25
  go_wp2
  go_loopw [5] (fun i wr => ∃ k : Nat, k ≤ ni ∧ i = .int .i64 k ∧ (∀ j : Nat, j < k → xs[j]? = ys[j]?) ∧ Below w.heap.size w wr ∧ wr.heap[w.heap.size]? = some (.cells #[.slice ai ni ci, .slice af nf cf] 27 (0, 0)) ∧ wr.heap[w.heap.size + 1]? = some (.cells #[.slice bi ni di, .slice bf nf df] 27 (0, 0))) (fun i _ => ni - (intOf i).toNat)
  case atStart => exact ⟨0, Nat.zero_le _, rfl, fun j hj => absurd hj (Nat.not_lt_zero _), ((Below.refl _ _).alloc (Nat.le_refl _) _).alloc (by simp) _, lowB2 w _ _, newB2 w _ _⟩
  case round =>
    obtain ⟨k, hk, rfl, hno, hbel, ka, kb⟩ := hrel
    have HN := hide hno
    have HB := hide hbel
    have KA := hide ka
    have KB := hide kb
    have hsz := hbel.size
    have hz : w.heap.size + 1 < wr.heap.size := (Array.getElem?_eq_some_iff.mp kb).1
    obtain ⟨p0, p1, -⟩ := blk_cells2 ka
    obtain ⟨q0, q1, -⟩ := blk_cells2 kb
    clear hno ka kb
    by_cases hlt : k < ni
    · obtain ⟨x, b, off, hx, rfl, hb, hcap, hc⟩ := (unhide HX).at hlt
      obtain ⟨y, b2, off2, hy, rfl, hb2, hcap2, hc2⟩ := (unhide HY).at hlt
      have l0 := later_some (w := wr) (b := b) (o := off + k * 6) (v := .int .i64 x.1) (by omega) ((hbel.cell (p := ⟨b, off + k * 6, none⟩) hb).trans (hc 0 (by omega)))
      have l1 := later_some (w := wr) (b := b) (o := off + k * 6 + 1) (v := .int .i64 x.2.1) (by omega) ((hbel.cell (p := ⟨b, off + k * 6 + 1, none⟩) hb).trans (hc 1 (by omega)))
      have l2 := later_some (w := wr) (b := b) (o := off + k * 6 + 2) (v := .int .i64 x.2.2.1) (by omega) ((hbel.cell (p := ⟨b, off + k * 6 + 2, none⟩) hb).trans (hc 2 (by omega)))
      have l3 := later_some (w := wr) (b := b) (o := off + k * 6 + 3) (v := .int .i64 x.2.2.2.1) (by omega) ((hbel.cell (p := ⟨b, off + k * 6 + 3, none⟩) hb).trans (hc 3 (by omega)))
      have l4 := later_some (w := wr) (b := b) (o := off + k * 6 + 4) (v := .int .i64 x.2.2.2.2.1) (by omega) ((hbel.cell (p := ⟨b, off + k * 6 + 4, none⟩) hb).trans (hc 4 (by omega)))
      have l5 := later_some (w := wr) (b := b) (o := off + k * 6 + 5) (v := .string x.2.2.2.2.2) (by omega) ((hbel.cell (p := ⟨b, off + k * 6 + 5, none⟩) hb).trans (hc 5 (by omega)))
      have m0 := later_some (w := wr) (b := b2) (o := off2 + k * 6) (v := .int .i64 y.1) (by omega) ((hbel.cell (p := ⟨b2, off2 + k * 6, none⟩) hb2).trans (hc2 0 (by omega)))
      have m1 := later_some (w := wr) (b := b2) (o := off2 + k * 6 + 1) (v := .int .i64 y.2.1) (by omega) ((hbel.cell (p := ⟨b2, off2 + k * 6 + 1, none⟩) hb2).trans (hc2 1 (by omega)))
      have m2 := later_some (w := wr) (b := b2) (o := off2 + k * 6 + 2) (v := .int .i64 y.2.2.1) (by omega) ((hbel.cell (p := ⟨b2, off2 + k * 6 + 2, none⟩) hb2).trans (hc2 2 (by omega)))
      have m3 := later_some (w := wr) (b := b2) (o := off2 + k * 6 + 3) (v := .int .i64 y.2.2.2.1) (by omega) ((hbel.cell (p := ⟨b2, off2 + k * 6 + 3, none⟩) hb2).trans (hc2 3 (by omega)))
      have m4 := later_some (w := wr) (b := b2) (o := off2 + k * 6 + 4) (v := .int .i64 y.2.2.2.2.1) (by omega) ((hbel.cell (p := ⟨b2, off2 + k * 6 + 4, none⟩) hb2).trans (hc2 4 (by omega)))
      have m5 := later_some (w := wr) (b := b2) (o := off2 + k * 6 + 5) (v := .string y.2.2.2.2.2) (by omega) ((hbel.cell (p := ⟨b2, off2 + k * 6 + 5, none⟩) hb2).trans (hc2 5 (by omega)))
      have s0 := later_some (w := wr) (b := w.heap.size) (o := 0) (by omega) p0
      have s1 := later_some (w := wr) (b := w.heap.size) (o := 1) (by omega) p1
      have t0 := later_some (w := wr) (b := w.heap.size + 1) (o := 0) (by omega) q0
      have t1 := later_some (w := wr) (b := w.heap.size + 1) (o := 1) (by omega) q1
      have HX1 := hide hx
      have HY1 := hide hy
      clear hc hc2 hx hy hbel
      rcases Bool.eq_false_or_eq_true (decide (x = y)) with he | he
      · have hrun := eqI_run x y true he
        have HE := hide (same_step (unhide HX1) (unhide HY1) (of_decide_eq_true he) (unhide HN))
        clear he
        go_wp2_with fail
        refine wp_region_later (by kernel_rfl) (by kernel_rfl) ?_
        repeat (first | go_big_quiet_step (fail) | quiet_step (fail))
        refine wpQuiet_nil ?_
        intro w1 hb1
        have HB1 := hide ((unhide HB).trans (hb1.mono hsz))
        have KA1 := hide ((hb1.block _ (by omega)).trans (unhide KA))
        have KB1 := hide ((hb1.block _ (by omega)).trans (unhide KB))
        clear hb1 HB KA KB hrun p0 p1 q0 q1
        go_wp2
        go_roundw
        case rel => exact ⟨k + 1, by omega, by go_num, unhide HE, unhide HB1, unhide KA1, unhide KB1⟩
        case measure => simp [intOf]; omega
      · have hrun := eqI_run x y false he
        obtain rfl : r = false := by
          rw [← unhide hr]
          have h := same_not (unhide HX1) (unhide HY1) (of_decide_eq_false he)
          simp [h]
        clear he
        go_wp2_with fail
        refine wp_region_later (by kernel_rfl) (by kernel_rfl) ?_
        repeat (first | go_big_quiet_step (fail) | quiet_step (fail))
        refine wpQuiet_nil ?_
        intro w1 hb1
        have HB1 := hide ((unhide HB).trans (hb1.mono hsz))
        clear hb1 HB hrun
        go_wp2
        go_ret
        exact ⟨rfl, unhide HB1⟩
    · have HE := hide (same_all (unhide HX).len.1 (unhide HY).len.1 ((show k = ni by omega) ▸ unhide HN))
      clear hbel HN
      have HEI := HE
      clear HE hsz
      go_wp2
      clear p0 p1 q0 q1 hlt
      go_loopw [6] (fun i wr => ∃ k : Nat, k ≤ nf ∧ i = .int .i64 k ∧ (∀ j : Nat, j < k → fs[j]? = gs[j]?) ∧ Below w.heap.size w wr ∧ wr.heap[w.heap.size]? = some (.cells #[.slice ai ni ci, .slice af nf cf] 27 (0, 0)) ∧ wr.heap[w.heap.size + 1]? = some (.cells #[.slice bi ni di, .slice bf nf df] 27 (0, 0))) (fun i _ => nf - (intOf i).toNat)
      case atStart => exact ⟨0, Nat.zero_le _, rfl, fun j hj => absurd hj (Nat.not_lt_zero _), unhide HB, unhide KA, unhide KB⟩
      case round =>
        clear HB KA KB hz hk
        rename_i wr0 wr
        obtain ⟨k, hk, rfl, hno, hbel, ka, kb⟩ := hrel
        have HN := hide hno
        have HB := hide hbel
        have KA := hide ka
        have KB := hide kb
        have hsz := hbel.size
        have hz : w.heap.size + 1 < wr.heap.size := (Array.getElem?_eq_some_iff.mp kb).1
        obtain ⟨p0, p1, -⟩ := blk_cells2 ka
        obtain ⟨q0, q1, -⟩ := blk_cells2 kb
        clear hno ka kb
        by_cases hlt : k < nf
        · obtain ⟨x, b, off, hx, rfl, hb, hcap, hc⟩ := (unhide HF).at hlt
          obtain ⟨y, b2, off2, hy, rfl, hb2, hcap2, hc2⟩ := (unhide HG).at hlt
          have l0 := later_some (w := wr) (b := b) (o := off + k * 2) (v := .int .i64 x.1) (by omega) ((hbel.cell (p := ⟨b, off + k * 2, none⟩) hb).trans (hc 0 (by omega)))
          have l1 := later_some (w := wr) (b := b) (o := off + k * 2 + 1) (v := .int .i64 x.2) (by omega) ((hbel.cell (p := ⟨b, off + k * 2 + 1, none⟩) hb).trans (hc 1 (by omega)))
          have m0 := later_some (w := wr) (b := b2) (o := off2 + k * 2) (v := .int .i64 y.1) (by omega) ((hbel.cell (p := ⟨b2, off2 + k * 2, none⟩) hb2).trans (hc2 0 (by omega)))
          have m1 := later_some (w := wr) (b := b2) (o := off2 + k * 2 + 1) (v := .int .i64 y.2) (by omega) ((hbel.cell (p := ⟨b2, off2 + k * 2 + 1, none⟩) hb2).trans (hc2 1 (by omega)))
          have s0 := later_some (w := wr) (b := w.heap.size) (o := 0) (by omega) p0
          have s1 := later_some (w := wr) (b := w.heap.size) (o := 1) (by omega) p1
          have t0 := later_some (w := wr) (b := w.heap.size + 1) (o := 0) (by omega) q0
          have t1 := later_some (w := wr) (b := w.heap.size + 1) (o := 1) (by omega) q1
          have HX1 := hide hx
          have HY1 := hide hy
          clear hc hc2 hx hy hbel
          rcases Bool.eq_false_or_eq_true (decide (x = y)) with he | he
          · have hrun := eqF_run x y true he
            have HE := hide (same_step (unhide HX1) (unhide HY1) (of_decide_eq_true he) (unhide HN))
            clear he
            go_wp2_with fail
            refine wp_region_later (by kernel_rfl) (by kernel_rfl) ?_
            repeat (first | go_big_quiet_step (fail) | quiet_step (fail))
            refine wpQuiet_nil ?_
            intro w1 hb1
            have HB1 := hide ((unhide HB).trans (hb1.mono hsz))
            have KA1 := hide ((hb1.block _ (by omega)).trans (unhide KA))
            have KB1 := hide ((hb1.block _ (by omega)).trans (unhide KB))
            clear hb1 HB KA KB hrun p0 p1 q0 q1
            go_wp2
            go_roundw
            case rel => exact ⟨k + 1, by omega, by go_num, unhide HE, unhide HB1, unhide KA1, unhide KB1⟩
            case measure => simp [intOf]; omega
          · have hrun := eqF_run x y false he
            obtain rfl : r = false := by
              rw [← unhide hr]
              have h := same_not (unhide HX1) (unhide HY1) (of_decide_eq_false he)
              simp [h]
            clear he
            go_wp2_with fail
            refine wp_region_later (by kernel_rfl) (by kernel_rfl) ?_
            repeat (first | go_big_quiet_step (fail) | quiet_step (fail))
            refine wpQuiet_nil ?_
            intro w1 hb1
            have HB1 := hide ((unhide HB).trans (hb1.mono hsz))
            clear hb1 HB hrun
            go_wp2
            go_ret
            exact ⟨rfl, unhide HB1⟩
        · have HE := hide (same_all (unhide HF).len.1 (unhide HG).len.1 ((show k = nf by omega) ▸ unhide HN))
          clear hbel HN
          obtain rfl : r = true := by
            rw [← unhide hr, unhide HEI, unhide HE]
            simp
          go_wp2
          go_ret
          exact ⟨rfl, unhide HB⟩
end Go.Proofs.Ytdpaocikmijioaa

namespace Go.Proofs.Ytdpaocikmijioaa
open Go.RowKit

set_option maxHeartbeats 4000000 in
set_option maxRecDepth 100000 in
theorem ileq_any (ai : Option Addr) (ni ci : Nat) (xs : List Itm) (af : Option Addr) (nf cf : Nat) (fs : List Flr) (bi : Option Addr) (mi di : Nat) (ys : List Itm) (bf : Option Addr) (mf df : Nat) (gs : List Flr) (r : Bool) (hr : Hid (leqS xs fs ys gs = r)) (w : World)
    (hni : ni ≤ 140737488351232) (hnf : nf ≤ 140737488351232) (hmi : mi ≤ 140737488351232) (hmf : mf ≤ 140737488351232) (hx : Rw encI 6 w (.slice ai ni ci) xs) (hf : Rw encF 2 w (.slice af nf cf) fs) (hy : Rw encI 6 w (.slice bi mi di) ys) (hg : Rw encF 2 w (.slice bf mf df) gs) :
    Calls Try.prog 27 #[.agg #[.slice ai ni ci, .slice af nf cf], .agg #[.slice bi mi di, .slice bf mf df]] w fun e w' => e = .returned (.bool r) ∧ Below w.heap.size w w' := by
  have HX := hide hx
  have HY := hide hy
  have HF := hide hf
  have HG := hide hg
  obtain ⟨ok, h0⟩ : ∃ ok, (okS xs fs && okS ys gs) = ok := ⟨_, rfl⟩
  have hE := unhide hr
  rw [leqS, h0] at hE
  have H0 := hide h0
  have HE := hide hE
  obtain ⟨n1, hn1⟩ : ∃ z, Hid ((jnI ok xs fs ys gs).length = z) := ⟨_, hide rfl⟩
  obtain ⟨n2, hn2⟩ : ∃ z, Hid ((jnF ok fs gs).length = z) := ⟨_, hide rfl⟩
  have k1 : n1 ≤ 5 := by rw [← unhide hn1]; exact jnI_len _ _ _ _ _
  have k2 : n2 ≤ 5 := by rw [← unhide hn2]; exact jnF_len _ _ _
  clear hx hy hf hg h0 hE hr
  go_enter Try.func27, Try.ntmps27
  go_wp2_with fail
  refine (ijoin_any ai ni ci xs af nf cf fs bi mi di ys bf mf df gs ok H0 n1 n2 hn1 hn2 _ hni hnf hmi hmf (((unhide HX).alloc _).alloc _) (((unhide HF).alloc _).alloc _) (((unhide HY).alloc _).alloc _) (((unhide HG).alloc _).alloc _)).mono ?_
  rintro e w1 ⟨a1, c1, a2, c2, rfl, o1, o2, b1⟩
  have HB1 := hide ((((Below.refl w.heap.size w).alloc (Nat.le_refl _) _).alloc (by simp) _).trans (b1.mono (by simp; omega)))
  have MB := hide ((b1.block _ (by simp)).trans (newB2 w _ _))
  have hz1 : w.heap.size + 1 < w1.heap.size := (Array.getElem?_eq_some_iff.mp (unhide MB)).1
  obtain ⟨q0, q1, -⟩ := blk_cells2 (unhide MB)
  have O1 := hide (o1.rw encI_len)
  have O2 := hide (o2.rw encF_len)
  clear b1 o1 o2 MB
  cases ok
  · obtain rfl : r = false := (unhide HE).symm
    go_wp2
    go_ret
    exact ⟨rfl, (unhide HB1).alloc (unhide HB1).size _⟩
  · go_wp2_with fail
    have HR : Hid ((decide (joinI xs fs ys gs = ys) && decide (joinF fs gs = gs)) = r) := hide (unhide HE)
    refine (isame_any a1 n1 c1 (joinI xs fs ys gs) a2 n2 c2 (joinF fs gs) bi mi di ys bf mf df gs r HR _ (by omega) (by omega) hmi hmf ((unhide O1).alloc _) ((unhide O2).alloc _) (((unhide HY).later (unhide HB1)).alloc _) (((unhide HG).later (unhide HB1)).alloc _)).mono ?_
    rintro e w2 ⟨rfl, b2⟩
    have HB2 := hide (((unhide HB1).alloc (unhide HB1).size _).trans (b2.mono (by have := (unhide HB1).size; simp; omega)))
    clear b2
    go_wp2
    go_ret
    exact ⟨rfl, unhide HB2⟩

set_option maxHeartbeats 8000000 in
set_option maxRecDepth 100000 in
theorem sleq_any (ai : Option Addr) (ni ci : Nat) (xs : List Itm) (af : Option Addr) (nf cf : Nat) (fs : List Flr) (bi : Option Addr) (mi di : Nat) (ys : List Itm) (bf : Option Addr) (mf df : Nat) (gs : List Flr) (r : Bool) (hr : Hid (leqS xs fs ys gs = r)) (w : World)
    (hni : ni ≤ 140737488351232) (hnf : nf ≤ 140737488351232) (hmi : mi ≤ 140737488351232) (hmf : mf ≤ 140737488351232) (hx : Rw encI 6 w (.slice ai ni ci) xs) (hf : Rw encF 2 w (.slice af nf cf) fs) (hy : Rw encI 6 w (.slice bi mi di) ys) (hg : Rw encF 2 w (.slice bf mf df) gs) :
    Calls Try.prog 29 #[.agg #[.slice ai ni ci, .slice af nf cf], .agg #[.slice bi mi di, .slice bf mf df]] w fun e w' => e = .returned (.bool r) ∧ Below w.heap.size w w' := by
  obtain ⟨okA, hA⟩ : ∃ okA, okS xs fs = okA := ⟨_, rfl⟩
  obtain ⟨okB, hB⟩ : ∃ okB, okS ys gs = okB := ⟨_, rfl⟩
  have hE := unhide hr
  rw [leqS, hA, hB] at hE
  have HA := hide hA
  have HB := hide hB
  have HE := hide hE
  go_enter Try.func29, Try.ntmps29
  go_upto_region 1 with fail
  obtain ⟨V, hV⟩ : ∃ V, V = (w.alloc (.cells #[.slice ai ni ci, .slice af nf cf] 27)).alloc (.cells #[.slice bi mi di, .slice bf mf df] 27) := ⟨_, rfl⟩
  rw [← hV]
  have ka : V.heap[w.heap.size]? = some (.cells #[.slice ai ni ci, .slice af nf cf] 27 (0, 0)) := by rw [hV]; exact lowB2 w _ _
  have kb : V.heap[w.heap.size + 1]? = some (.cells #[.slice bi mi di, .slice bf mf df] 27 (0, 0)) := by rw [hV]; exact newB2 w _ _
  have BV : Below w.heap.size w V := by rw [hV]; exact ((Below.refl w.heap.size w).alloc (Nat.le_refl _) _).alloc (by simp) _
  have HBV := hide BV
  have HX := hide (hx.later BV)
  have HF := hide (hf.later BV)
  have HY := hide (hy.later BV)
  have HG := hide (hg.later BV)
  have hzb : w.heap.size + 1 < V.heap.size := (Array.getElem?_eq_some_iff.mp kb).1
  have hza : w.heap.size < V.heap.size := by omega
  obtain ⟨pa0, pa1, -⟩ := blk_cells2 ka
  obtain ⟨pb0, pb1, -⟩ := blk_cells2 kb
  clear hx hf hy hg hA hB hE hr BV hV ka kb
  cases okA
  · obtain rfl : r = false := (unhide HE).symm
    have la0 := later_some (w := V) hza pa0
    have la1 := later_some (w := V) hza pa1
    have lb0 := later_some (w := V) hzb pb0
    have lb1 := later_some (w := V) hzb pb1
    clear pa0 pa1 pb0 pb1
    refine wp_region_later (by kernel_rfl) (by kernel_rfl) ?_
    repeat (go_big_quiet_step (first
      | (go_at_call_of 19 (Value.slice ai ni ci); exact Calls.later_of (sstateok_any ai ni ci xs af nf cf fs _ HA _ hni hnf ((unhide HX).in_later _ _) ((unhide HF).in_later _ _)))))
    refine wpQuiet_nil ?_
    intro w1 hb1
    have HB1 := hide ((unhide HBV).trans (hb1.mono (unhide HBV).size))
    clear hb1 la0 la1 lb0 lb1
    go_wp2
    go_ret
    exact ⟨rfl, unhide HB1⟩
  · cases okB
    · obtain rfl : r = false := (unhide HE).symm
      have la0 := later_some (w := V) hza pa0
      have la1 := later_some (w := V) hza pa1
      have lb0 := later_some (w := V) hzb pb0
      have lb1 := later_some (w := V) hzb pb1
      clear pa0 pa1 pb0 pb1
      refine wp_region_later (by kernel_rfl) (by kernel_rfl) ?_
      repeat (go_big_quiet_step (first
        | (go_at_call_of 19 (Value.slice ai ni ci); exact Calls.later_of (sstateok_any ai ni ci xs af nf cf fs _ HA _ hni hnf ((unhide HX).in_later _ _) ((unhide HF).in_later _ _)))
        | (go_at_call_of 19 (Value.slice bi mi di); exact Calls.later_of (sstateok_any bi mi di ys bf mf df gs _ HB _ hmi hmf ((unhide HY).in_later _ _) ((unhide HG).in_later _ _)))))
      refine wpQuiet_nil ?_
      intro w1 hb1
      have HB1 := hide ((unhide HBV).trans (hb1.mono (unhide HBV).size))
      clear hb1 la0 la1 lb0 lb1
      go_wp2
      go_ret
      exact ⟨rfl, unhide HB1⟩
    · have HR : Hid ((decide (joinI xs fs ys gs = ys) && decide (joinF fs gs = gs)) = r) := hide (unhide HE)
      have PA0 := hide pa0; have PA1 := hide pa1; have PB0 := hide pb0; have PB1 := hide pb1
      clear HE pa0 pa1 pb0 pb1
      go_region_held3 (fun W => Below V.heap.size V W ∧ W.cell? ⟨w.heap.size, 0, none⟩ = some (.slice ai ni ci) ∧ W.cell? ⟨w.heap.size, 1, none⟩ = some (.slice af nf cf) ∧ W.cell? ⟨w.heap.size + 1, 0, none⟩ = some (.slice bi mi di) ∧ W.cell? ⟨w.heap.size + 1, 1, none⟩ = some (.slice bf mf df))
        (first | (with_reducible exact keep4 hza hza hzb hzb (unhide PA0) (unhide PA1) (unhide PB0) (unhide PB1) (Below.refl _ _)) | (with_reducible exact keep4 hza hza hzb hzb (unhide PA0) (unhide PA1) (unhide PB0) (unhide PB1) ((Below.refl _ _).drew)) | (with_reducible exact keep4 hza hza hzb hzb (unhide PA0) (unhide PA1) (unhide PB0) (unhide PB1) (by assumption)))
        (first
          | (go_at_call_of 19 (Value.agg #[Value.slice ai ni ci, Value.slice af nf cf]); refine (sstateok_any ai ni ci xs af nf cf fs _ HA _ hni hnf ?_ ?_).mono ?_; exact (unhide HX).later (kb1 (by assumption)); exact (unhide HF).later (kb1 (by assumption)); rintro e w3 ⟨rfl, b6⟩; have bw3 := kb2 (by assumption) b6; clear b6)
          | (go_at_call_of 19 (Value.agg #[Value.slice bi mi di, Value.slice bf mf df]); refine (sstateok_any bi mi di ys bf mf df gs _ HB _ hmi hmf ?_ ?_).mono ?_; exact (unhide HY).later (kb1 (by assumption)); exact (unhide HG).later (kb1 (by assumption)); rintro e w4 ⟨rfl, b6⟩; have bw4 := kb2 (by assumption) b6; clear b6)
          | (go_at_call 35; refine (l3join_any ai ni ci xs af nf cf fs bi mi di ys bf mf df gs _ hni hnf hmi hmf ?_ ?_ ?_ ?_).mono ?_; exact (unhide HX).later (kb1 (by assumption)); exact (unhide HF).later (kb1 (by assumption)); exact (unhide HY).later (kb1 (by assumption)); exact (unhide HG).later (kb1 (by assumption)); rintro e w5 ⟨a1, n1, c1, a2, n2, c2, rfl, o1, o2, b6⟩; have L1 := Nat.le_trans (Nat.le_of_eq (o1.rw encI_len).len.1) (jI_len xs fs ys gs 5); have L2 := Nat.le_trans (Nat.le_of_eq (o2.rw encF_len).len.1) (jF_len fs gs 5); have R1 := hide (o1.rw encI_len); have R2 := hide (o2.rw encF_len); have bw5 := kb2 (by assumption) b6; clear o1 o2 b6)
          | (go_at_call 25; refine (ssame_any a1 n1 c1 (joinI xs fs ys gs) a2 n2 c2 (joinF fs gs) bi mi di ys bf mf df gs r HR _ (by omega) (by omega) hmi hmf (unhide R1) (unhide R2) ?_ ?_).mono ?_; exact (unhide HY).later (kb1 (by assumption)); exact (unhide HG).later (kb1 (by assumption)); rintro e w6 ⟨rfl, b6⟩; have bw6 := kb2 (by assumption) b6; clear b6))
      all_goals go_wp2
      all_goals go_ret
      all_goals exact ⟨rfl, (unhide HBV).trans (bw6.mono (unhide HBV).size)⟩
end Go.Proofs.Ytdpaocikmijioaa
