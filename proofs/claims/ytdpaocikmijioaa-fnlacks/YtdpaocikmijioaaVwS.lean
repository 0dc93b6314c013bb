/-
  Equality of items and of floors, as the model reckons it. No statement is proved here.
  StateSame of the program: it answers whether both read the same. No statement is proved here.
  StateSame of the specification: it answers whether both read the same. No statement is proved here.
  Beneath, and how far one is over: the program's and the specification's. No statement is proved here.
  What a state lacks of another one: the program's. No statement is proved here.
  What a state lacks of another one: the specification's. No statement is proved here.
-/
import Derived.Test.YtdpaocikmijioaaEntOf
import Derived.Laws.StructEq
import Derived.Lib.Strings
import Derived.Test.YtdpaocikmijioaaRegs6
import Derived.Test.YtdpaocikmijioaaVwP
import Derived.Test.YtdpaocikmijioaaSt3
import Derived.Test.YtdpaocikmijioaaIJoin
import Derived.Test.YtdpaocikmijioaaSJoin2
import Derived.Test.YtdpaocikmijioaaStBx
import Derived.Test.YtdpaocikmijioaaApp2
import Derived.Test.YtdpaocikmijioaaIStOk
import Derived.Test.YtdpaocikmijioaaStT
import Derived.Test.YtdpaocikmijioaaStM
namespace Go.Proofs.Ytdpaocikmijioaa
open Go.RowKit

theorem bytes_eq (x y : ByteArray) : x.toList = y.toList ↔ x = y := by
  refine ⟨fun h => ?_, fun h => by rw [h]⟩
  rw [Lib.toList_data, Lib.toList_data] at h
  obtain ⟨⟨x⟩⟩ := x
  obtain ⟨⟨y⟩⟩ := y
  simp at h
  rw [h]
theorem eqI_iff (x y : Itm) : x = y ↔ x.1 = y.1 ∧ x.2.1 = y.2.1 ∧ x.2.2.1 = y.2.2.1 ∧ x.2.2.2.1 = y.2.2.2.1 ∧ x.2.2.2.2.1 = y.2.2.2.2.1 ∧ x.2.2.2.2.2.toList = y.2.2.2.2.2.toList := by
  rw [bytes_eq]
  obtain ⟨a0, a1, a2, a3, a4, a5⟩ := x
  obtain ⟨b0, b1, b2, b3, b4, b5⟩ := y
  simp only [Prod.mk.injEq]
set_option maxHeartbeats 1000000 in
theorem eqI_run (x y : Itm) (b : Bool) (hb : decide (x = y) = b) (W : World) : (Op.equalIn 10000 44 (.agg #[.int .i64 x.1, .int .i64 x.2.1, .int .i64 x.2.2.1, .int .i64 x.2.2.2.1, .int .i64 x.2.2.2.2.1, .string x.2.2.2.2.2]) (.agg #[.int .i64 y.1, .int .i64 y.2.1, .int .i64 y.2.2.1, .int .i64 y.2.2.2.1, .int .i64 y.2.2.2.2.1, .string y.2.2.2.2.2])).run Try.prog W = .ok b W := by
  subst hb
  have e : decide (x = y) = decide (x.1 = y.1 ∧ x.2.1 = y.2.1 ∧ x.2.2.1 = y.2.2.1 ∧ x.2.2.2.1 = y.2.2.2.1 ∧ x.2.2.2.2.1 = y.2.2.2.2.1 ∧ x.2.2.2.2.2.toList = y.2.2.2.2.2.toList) := decide_eq_decide.mpr (eqI_iff x y)
  rw [e]
  clear e
  generalize x.1 = a0
  generalize y.1 = b0
  obtain ⟨a1, a2, a3, a4, a5⟩ := x.2
  obtain ⟨b1, b2, b3, b4, b5⟩ := y.2
  go_simp
  repeat' split
  all_goals simp_all
set_option maxHeartbeats 1000000 in
theorem eqF_run (x y : Flr) (b : Bool) (hb : decide (x = y) = b) (W : World) : (Op.equalIn 10000 56 (.agg #[.int .i64 x.1, .int .i64 x.2]) (.agg #[.int .i64 y.1, .int .i64 y.2])).run Try.prog W = .ok b W := by
  subst hb
  obtain ⟨a0, a1⟩ := x
  obtain ⟨b0, b1⟩ := y
  have e : decide ((a0, a1) = (b0, b1)) = decide (a0 = b0 ∧ a1 = b1) := decide_eq_decide.mpr (by simp)
  rw [e]
  clear e
  go_simp
  repeat' split
  all_goals simp_all

theorem same_all {α : Type} {xs ys : List α} {n : Nat} (h1 : n = xs.length) (h2 : n = ys.length) (h : ∀ j : Nat, j < n → xs[j]? = ys[j]?) : xs = ys := by
  apply List.ext_getElem?
  intro i
  by_cases hi : i < n
  · exact h i hi
  · rw [List.getElem?_eq_none (by omega), List.getElem?_eq_none (by omega)]
theorem same_step {α : Type} {xs ys : List α} {k : Nat} {x y : α} (hx : xs[k]? = some x) (hy : ys[k]? = some y) (e : x = y) (h : ∀ j : Nat, j < k → xs[j]? = ys[j]?) : ∀ j : Nat, j < k + 1 → xs[j]? = ys[j]? := by
  intro j hj
  by_cases c : j = k
  · subst c; rw [hx, hy, e]
  · exact h j (by omega)
theorem same_not {α : Type} {xs ys : List α} {k : Nat} {x y : α} (hx : xs[k]? = some x) (hy : ys[k]? = some y) (e : x ≠ y) : xs ≠ ys := by
  intro h
  subst h
  rw [hx] at hy
  exact e (Option.some.inj hy)
theorem same_len {α : Type} {xs ys : List α} {n m : Nat} (h1 : n = xs.length) (h2 : m = ys.length) (h : n ≠ m) : xs ≠ ys := by
  intro e; subst e; omega
theorem nb_false {a b : Nat} (h : a ≠ b) : ((a : Int) != (b : Int)) = true := by
  simp; omega
end Go.Proofs.Ytdpaocikmijioaa

namespace Go.Proofs.Ytdpaocikmijioaa
open Go.RowKit

set_option maxHeartbeats 2000000 in
theorem sleqi_any (a : Option Addr) (n cap : Nat) (a2 : Option Addr) (m cap2 : Nat) (xs ys : List Itm) (r : Bool) (hr : Hid (decide (xs = ys) = r)) (w : World) (hn : n ≤ 140737488351232) (hm : m ≤ 140737488351232) (hx : Rw encI 6 w (.slice a n cap) xs) (hy : Rw encI 6 w (.slice a2 m cap2) ys) :
    Calls Try.prog 36 #[.slice a n cap, .slice a2 m cap2] w fun e w' => e = .returned (.bool r) ∧ Below w.heap.size w w' := by
  have HX := hide hx
  have HY := hide hy
  clear hx hy
  by_cases hnm : n = m
  rotate_left
  · have d0 := nb_false hnm
    obtain rfl : r = false := by rw [← unhide hr]; simpa using same_len (unhide HX).len.1 (unhide HY).len.1 hnm
    go_enter Try.func36, Try.ntmps36
    go_wp2
    go_ret
    exact ⟨rfl, Below.refl _ _⟩
  subst hnm
  have d0 : ((n : Int) != (n : Int)) = false := by simp
  go_enter Try.func36, Try.ntmps36
  go_wp2
  go_loopw [13] (fun i wr => ∃ k : Nat, k ≤ n ∧ i = .int .i64 k ∧ (∀ j : Nat, j < k → xs[j]? = ys[j]?) ∧ Below w.heap.size w wr) (fun i _ => n - (intOf i).toNat)
  case atStart => exact ⟨0, Nat.zero_le _, rfl, fun j hj => absurd hj (Nat.not_lt_zero _), Below.refl _ _⟩
  case round =>
    obtain ⟨k, hk, rfl, hno, hbel⟩ := hrel
    have HN := hide hno
    have HB := hide hbel
    have hsz := hbel.size
    clear hno
    by_cases hlt : k < n
    · obtain ⟨x, b, off, hx, rfl, hb, hcap, hc⟩ := (unhide HX).at hlt
      obtain ⟨y, b2, off2, hy, rfl, hb2, hcap2, hc2⟩ := (unhide HY).at hlt
      have l0 := later_some (w := wr) (b := b) (o := off + k * 6) (v := .int .i64 x.1) (by omega) ((hbel.cell (p := ⟨b, off + k * 6, none⟩) hb).trans (hc 0 (by omega)))
      have l1 := later_some (w := wr) (b := b) (o := off + k * 6 + 1) (v := .int .i64 x.2.1) (by omega) ((hbel.cell (p := ⟨b, off + k * 6 + 1, none⟩) hb).trans (hc 1 (by omega)))
      have l2 := later_some (w := wr) (b := b) (o := off + k * 6 + 2) (v := .int .i64 x.2.2.1) (by omega) ((hbel.cell (p := ⟨b, off + k * 6 + 2, none⟩) hb).trans (hc 2 (by omega)))
      have l3 := later_some (w := wr) (b := b) (o := off + k * 6 + 3) (v := .int .i64 x.2.2.2.1) (by omega) ((hbel.cell (p := ⟨b, off + k * 6 + 3, none⟩) hb).trans (hc 3 (by omega)))
      have l4 := later_some (w := wr) (b := b) (o := off + k * 6 + 4) (v := .int .i64 x.2.2.2.2.1) (by omega) ((hbel.cell (p := ⟨b, off + k * 6 + 4, none⟩) hb).trans (hc 4 (by omega)))
      have l5 := later_some (w := wr) (b := b) (o := off + k * 6 + 5) (v := .string x.2.2.2.2.2) (by omega) ((hbel.cell (p := ⟨b, off + k * 6 + 5, none⟩) hb).trans (hc 5 (by omega)))
      have m0 := later_some (w := wr) (b := b2) (o := off2 + k * 6) (v := .int .i64 y.1) (by omega) ((hbel.cell (p := ⟨b2, off2 + k * 6, none⟩) hb2).trans (hc2 0 (by omega)))
      have m1 := later_some (w := wr) (b := b2) (o := off2 + k * 6 + 1) (v := .int .i64 y.2.1) (by omega) ((hbel.cell (p := ⟨b2, off2 + k * 6 + 1, none⟩) hb2).trans (hc2 1 (by omega)))
      have m2 := later_some (w := wr) (b := b2) (o := off2 + k * 6 + 2) (v := .int .i64 y.2.2.1) (by omega) ((hbel.cell (p := ⟨b2, off2 + k * 6 + 2, none⟩) hb2).trans (hc2 2 (by omega)))
      have m3 := later_some (w := wr) (b := b2) (o := off2 + k * 6 + 3) (v := .int .i64 y.2.2.2.1) (by omega) ((hbel.cell (p := ⟨b2, off2 + k * 6 + 3, none⟩) hb2).trans (hc2 3 (by omega)))
      have m4 := later_some (w := wr) (b := b2) (o := off2 + k * 6 + 4) (v := .int .i64 y.2.2.2.2.1) (by omega) ((hbel.cell (p := ⟨b2, off2 + k * 6 + 4, none⟩) hb2).trans (hc2 4 (by omega)))
      have m5 := later_some (w := wr) (b := b2) (o := off2 + k * 6 + 5) (v := .string y.2.2.2.2.2) (by omega) ((hbel.cell (p := ⟨b2, off2 + k * 6 + 5, none⟩) hb2).trans (hc2 5 (by omega)))
      have HX1 := hide hx
      have HY1 := hide hy
      clear hc hc2 hx hy hbel
      rcases Bool.eq_false_or_eq_true (decide (x = y)) with he | he
      · have hrun := eqI_run x y true he
        have HE := hide (same_step (unhide HX1) (unhide HY1) (of_decide_eq_true he) (unhide HN))
        clear he
        go_wp2_with fail
        refine wp_region_later (by kernel_rfl) (by kernel_rfl) ?_
        repeat (first | go_big_quiet_step (fail) | quiet_step (fail))
        refine wpQuiet_nil ?_
        intro w1 hb1
        have HB1 := hide ((unhide HB).trans (hb1.mono hsz))
        clear hb1 HB hrun
        go_wp2
        go_roundw
        case rel => exact ⟨k + 1, by omega, by go_num, unhide HE, unhide HB1⟩
        case measure => simp [intOf]; omega
      · have hrun := eqI_run x y false he
        obtain rfl : r = false := by rw [← unhide hr]; simpa using same_not (unhide HX1) (unhide HY1) (of_decide_eq_false he)
        clear he
        go_wp2_with fail
        refine wp_region_later (by kernel_rfl) (by kernel_rfl) ?_
        repeat (first | go_big_quiet_step (fail) | quiet_step (fail))
        refine wpQuiet_nil ?_
        intro w1 hb1
        have HB1 := hide ((unhide HB).trans (hb1.mono hsz))
        clear hb1 HB hrun
        go_wp2
        go_ret
        exact ⟨rfl, unhide HB1⟩
    · obtain rfl : r = true := by
        rw [← unhide hr]
        have e : k = n := by omega
        simpa using same_all (unhide HX).len.1 (unhide HY).len.1 (e ▸ unhide HN)
      clear hbel
      go_wp2
      go_ret
      exact ⟨rfl, unhide HB⟩

set_option maxHeartbeats 2000000 in
theorem sleqf_any (a : Option Addr) (n cap : Nat) (a2 : Option Addr) (m cap2 : Nat) (xs ys : List Flr) (r : Bool) (hr : Hid (decide (xs = ys) = r)) (w : World) (hn : n ≤ 140737488351232) (hm : m ≤ 140737488351232) (hx : Rw encF 2 w (.slice a n cap) xs) (hy : Rw encF 2 w (.slice a2 m cap2) ys) :
    Calls Try.prog 37 #[.slice a n cap, .slice a2 m cap2] w fun e w' => e = .returned (.bool r) ∧ Below w.heap.size w w' := by
  have HX := hide hx
  have HY := hide hy
  clear hx hy
  by_cases hnm : n = m
  rotate_left
  · have d0 := nb_false hnm
    obtain rfl : r = false := by rw [← unhide hr]; simpa using same_len (unhide HX).len.1 (unhide HY).len.1 hnm
    go_enter Try.func37, Try.ntmps37
    go_wp2
    go_ret
    exact ⟨rfl, Below.refl _ _⟩
  subst hnm
  have d0 : ((n : Int) != (n : Int)) = false := by simp
  go_enter Try.func37, Try.ntmps37
  go_wp2
  go_loopw [13] (fun i wr => ∃ k : Nat, k ≤ n ∧ i = .int .i64 k ∧ (∀ j : Nat, j < k → xs[j]? = ys[j]?) ∧ Below w.heap.size w wr) (fun i _ => n - (intOf i).toNat)
  case atStart => exact ⟨0, Nat.zero_le _, rfl, fun j hj => absurd hj (Nat.not_lt_zero _), Below.refl _ _⟩
  case round =>
    obtain ⟨k, hk, rfl, hno, hbel⟩ := hrel
    have HN := hide hno
    have HB := hide hbel
    have hsz := hbel.size
    clear hno
    by_cases hlt : k < n
    · obtain ⟨x, b, off, hx, rfl, hb, hcap, hc⟩ := (unhide HX).at hlt
      obtain ⟨y, b2, off2, hy, rfl, hb2, hcap2, hc2⟩ := (unhide HY).at hlt
      have l0 := later_some (w := wr) (b := b) (o := off + k * 2) (v := .int .i64 x.1) (by omega) ((hbel.cell (p := ⟨b, off + k * 2, none⟩) hb).trans (hc 0 (by omega)))
      have l1 := later_some (w := wr) (b := b) (o := off + k * 2 + 1) (v := .int .i64 x.2) (by omega) ((hbel.cell (p := ⟨b, off + k * 2 + 1, none⟩) hb).trans (hc 1 (by omega)))
      have m0 := later_some (w := wr) (b := b2) (o := off2 + k * 2) (v := .int .i64 y.1) (by omega) ((hbel.cell (p := ⟨b2, off2 + k * 2, none⟩) hb2).trans (hc2 0 (by omega)))
      have m1 := later_some (w := wr) (b := b2) (o := off2 + k * 2 + 1) (v := .int .i64 y.2) (by omega) ((hbel.cell (p := ⟨b2, off2 + k * 2 + 1, none⟩) hb2).trans (hc2 1 (by omega)))
      have HX1 := hide hx
      have HY1 := hide hy
      clear hc hc2 hx hy hbel
      rcases Bool.eq_false_or_eq_true (decide (x = y)) with he | he
      · have hrun := eqF_run x y true he
        have HE := hide (same_step (unhide HX1) (unhide HY1) (of_decide_eq_true he) (unhide HN))
        clear he
        go_wp2_with fail
        refine wp_region_later (by kernel_rfl) (by kernel_rfl) ?_
        repeat (first | go_big_quiet_step (fail) | quiet_step (fail))
        refine wpQuiet_nil ?_
        intro w1 hb1
        have HB1 := hide ((unhide HB).trans (hb1.mono hsz))
        clear hb1 HB hrun
        go_wp2
        go_roundw
        case rel => exact ⟨k + 1, by omega, by go_num, unhide HE, unhide HB1⟩
        case measure => simp [intOf]; omega
      · have hrun := eqF_run x y false he
        obtain rfl : r = false := by rw [← unhide hr]; simpa using same_not (unhide HX1) (unhide HY1) (of_decide_eq_false he)
        clear he
        go_wp2_with fail
        refine wp_region_later (by kernel_rfl) (by kernel_rfl) ?_
        repeat (first | go_big_quiet_step (fail) | quiet_step (fail))
        refine wpQuiet_nil ?_
        intro w1 hb1
        have HB1 := hide ((unhide HB).trans (hb1.mono hsz))
        clear hb1 HB hrun
        go_wp2
        go_ret
        exact ⟨rfl, unhide HB1⟩
    · obtain rfl : r = true := by
        rw [← unhide hr]
        have e : k = n := by omega
        simpa using same_all (unhide HX).len.1 (unhide HY).len.1 (e ▸ unhide HN)
      clear hbel
      go_wp2
      go_ret
      exact ⟨rfl, unhide HB⟩

set_option maxHeartbeats 2000000 in
theorem isame_any (ai : Option Addr) (ni ci : Nat) (xs : List Itm) (af : Option Addr) (nf cf : Nat) (fs : List Flr) (bi : Option Addr) (mi di : Nat) (ys : List Itm) (bf : Option Addr) (mf df : Nat) (gs : List Flr) (r : Bool) (hr : Hid ((decide (xs = ys) && decide (fs = gs)) = r)) (w : World)
    (hni : ni ≤ 140737488351232) (hnf : nf ≤ 140737488351232) (hmi : mi ≤ 140737488351232) (hmf : mf ≤ 140737488351232) (hx : Rw encI 6 w (.slice ai ni ci) xs) (hf : Rw encF 2 w (.slice af nf cf) fs) (hy : Rw encI 6 w (.slice bi mi di) ys) (hg : Rw encF 2 w (.slice bf mf df) gs) :
    Calls Try.prog 13 #[.agg #[.slice ai ni ci, .slice af nf cf], .agg #[.slice bi mi di, .slice bf mf df]] w fun e w' => e = .returned (.bool r) ∧ Below w.heap.size w w' := by
  have HX := hide hx
  have HY := hide hy
  have HF := hide hf
  have HG := hide hg
  clear hx hy hf hg
  obtain ⟨r1, hr1⟩ : ∃ r1, decide (xs = ys) = r1 := ⟨_, rfl⟩
  obtain ⟨r2, hr2⟩ : ∃ r2, decide (fs = gs) = r2 := ⟨_, rfl⟩
  have HR1 := hide hr1
  have HR2 := hide hr2
  have hrr := unhide hr
  rw [hr1, hr2] at hrr
  clear hr1 hr2 hr
  cases r1
  · obtain rfl : r = false := hrr.symm
    go_enter Try.func13, Try.ntmps13
    go_wp2_with fail
    refine (sleqi_any ai ni ci bi mi di xs ys _ HR1 _ hni hmi (((unhide HX).alloc _).alloc _) (((unhide HY).alloc _).alloc _)).mono ?_
    rintro e w1 ⟨rfl, b1⟩
    have HB := hide ((((Below.refl w.heap.size w).alloc (Nat.le_refl _) _).alloc (by simp) _).trans (b1.mono (by simp; omega)))
    clear b1
    go_wp2
    go_ret
    exact ⟨rfl, unhide HB⟩
  · obtain rfl : r = r2 := hrr.symm
    clear hrr
    go_enter Try.func13, Try.ntmps13
    go_wp2_with fail
    refine (sleqi_any ai ni ci bi mi di xs ys _ HR1 _ hni hmi (((unhide HX).alloc _).alloc _) (((unhide HY).alloc _).alloc _)).mono ?_
    rintro e w1 ⟨rfl, b1⟩
    obtain ⟨p0, p1, -⟩ := blk_cells2 ((b1.block w.heap.size (by simp; omega)).trans (lowB2 w _ _))
    obtain ⟨q0, q1, -⟩ := blk_cells2 ((b1.block (w.heap.size + 1) (by simp)).trans (newB2 w _ _))
    have HB := hide ((((Below.refl w.heap.size w).alloc (Nat.le_refl _) _).alloc (by simp) _).trans (b1.mono (by simp; omega)))
    clear b1
    go_wp2_with fail
    refine (sleqf_any af nf cf bf mf df fs gs _ HR2 _ hnf hmf ((unhide HF).later (unhide HB)) ((unhide HG).later (unhide HB))).mono ?_
    rintro e w2 ⟨rfl, b2⟩
    have HB2 := hide ((unhide HB).trans (b2.mono (unhide HB).size))
    clear b2
    go_wp2
    go_ret
    exact ⟨rfl, unhide HB2⟩
end Go.Proofs.Ytdpaocikmijioaa

namespace Go.Proofs.Ytdpaocikmijioaa
open Go.RowKit

set_option maxHeartbeats 4000000 in
set_option maxRecDepth 100000 in
theorem ssame_any (ai : Option Addr) (ni ci : Nat) (xs : List Itm) (af : Option Addr) (nf cf : Nat) (fs : List Flr) (bi : Option Addr) (mi di : Nat) (ys : List Itm) (bf : Option Addr) (mf df : Nat) (gs : List Flr) (r : Bool) (hr : Hid ((decide (xs = ys) && decide (fs = gs)) = r)) (w : World)
    (hni : ni ≤ 140737488351232) (hnf : nf ≤ 140737488351232) (hmi : mi ≤ 140737488351232) (hmf : mf ≤ 140737488351232) (hx : Rw encI 6 w (.slice ai ni ci) xs) (hf : Rw encF 2 w (.slice af nf cf) fs) (hy : Rw encI 6 w (.slice bi mi di) ys) (hg : Rw encF 2 w (.slice bf mf df) gs) :
    Calls Try.prog 25 #[.agg #[.slice ai ni ci, .slice af nf cf], .agg #[.slice bi mi di, .slice bf mf df]] w fun e w' => e = .returned (.bool r) ∧ Below w.heap.size w w' := by
  have HX := hide hx
  have HY := hide hy
  have HF := hide hf
  have HG := hide hg
  clear hx hy hf hg
  by_cases h1 : ni = mi
  rotate_left
  · have d1 := nb_false h1
    obtain rfl : r = false := by
      rw [← unhide hr]
      have h := same_len (unhide HX).len.1 (unhide HY).len.1 h1
      simp [h]
    clear h1
    go_enter Try.func25, Try.ntmps25
    go_wp2
    go_ret
    exact ⟨rfl, ((Below.refl _ _).alloc (Nat.le_refl _) _).alloc (by simp) _⟩
  subst h1
  have d1 : ((ni : Int) != (ni : Int)) = false := by simp
  by_cases h2 : nf = mf
  rotate_left
  · have d2 := nb_false h2
    obtain rfl : r = false := by
      rw [← unhide hr]
      have h := same_len (unhide HF).len.1 (unhide HG).len.1 h2
      simp [h]
    clear h2
    go_enter Try.func25, Try.ntmps25
    go_wp2
    go_ret
    exact ⟨rfl, ((Below.refl _ _).alloc (Nat.le_refl _) _).alloc (by simp) _⟩
  subst h2
  have d2 : ((nf : Int) != (nf : Int)) = false := by simp
  go_enter Try.func25, Try.ntmps25
  go_wp2
  go_loopw [5] (fun i wr => ∃ k : Nat, k ≤ ni ∧ i = .int .i64 k ∧ (∀ j : Nat, j < k → xs[j]? = ys[j]?) ∧ Below w.heap.size w wr ∧ wr.heap[w.heap.size]? = some (.cells #[.slice ai ni ci, .slice af nf cf] 27 (0, 0)) ∧ wr.heap[w.heap.size + 1]? = some (.cells #[.slice bi ni di, .slice bf nf df] 27 (0, 0))) (fun i _ => ni - (intOf i).toNat)
  case atStart => exact ⟨0, Nat.zero_le _, rfl, fun j hj => absurd hj (Nat.not_lt_zero _), ((Below.refl _ _).alloc (Nat.le_refl _) _).alloc (by simp) _, lowB2 w _ _, newB2 w _ _⟩
  case round =>
    obtain ⟨k, hk, rfl, hno, hbel, ka, kb⟩ := hrel
    have HN := hide hno
    have HB := hide hbel
    have KA := hide ka
    have KB := hide kb
    have hsz := hbel.size
    have hz : w.heap.size + 1 < wr.heap.size := (Array.getElem?_eq_some_iff.mp kb).1
    obtain ⟨p0, p1, -⟩ := blk_cells2 ka
    obtain ⟨q0, q1, -⟩ := blk_cells2 kb
    clear hno ka kb
    by_cases hlt : k < ni
    · obtain ⟨x, b, off, hx, rfl, hb, hcap, hc⟩ := (unhide HX).at hlt
      obtain ⟨y, b2, off2, hy, rfl, hb2, hcap2, hc2⟩ := (unhide HY).at hlt
      have l0 := later_some (w := wr) (b := b) (o := off + k * 6) (v := .int .i64 x.1) (by omega) ((hbel.cell (p := ⟨b, off + k * 6, none⟩) hb).trans (hc 0 (by omega)))
      have l1 := later_some (w := wr) (b := b) (o := off + k * 6 + 1) (v := .int .i64 x.2.1) (by omega) ((hbel.cell (p := ⟨b, off + k * 6 + 1, none⟩) hb).trans (hc 1 (by omega)))
      have l2 := later_some (w := wr) (b := b) (o := off + k * 6 + 2) (v := .int .i64 x.2.2.1) (by omega) ((hbel.cell (p := ⟨b, off + k * 6 + 2, none⟩) hb).trans (hc 2 (by omega)))
      have l3 := later_some (w := wr) (b := b) (o := off + k * 6 + 3) (v := .int .i64 x.2.2.2.1) (by omega) ((hbel.cell (p := ⟨b, off + k * 6 + 3, none⟩) hb).trans (hc 3 (by omega)))
      have l4 := later_some (w := wr) (b := b) (o := off + k * 6 + 4) (v := .int .i64 x.2.2.2.2.1) (by omega) ((hbel.cell (p := ⟨b, off + k * 6 + 4, none⟩) hb).trans (hc 4 (by omega)))
      have l5 := later_some (w := wr) (b := b) (o := off + k * 6 + 5) (v := .string x.2.2.2.2.2) (by omega) ((hbel.cell (p := ⟨b, off + k * 6 + 5, none⟩) hb).trans (hc 5 (by omega)))
      have m0 := later_some (w := wr) (b := b2) (o := off2 + k * 6) (v := .int .i64 y.1) (by omega) ((hbel.cell (p := ⟨b2, off2 + k * 6, none⟩) hb2).trans (hc2 0 (by omega)))
      have m1 := later_some (w := wr) (b := b2) (o := off2 + k * 6 + 1) (v := .int .i64 y.2.1) (by omega) ((hbel.cell (p := ⟨b2, off2 + k * 6 + 1, none⟩) hb2).trans (hc2 1 (by omega)))
      have m2 := later_some (w := wr) (b := b2) (o := off2 + k * 6 + 2) (v := .int .i64 y.2.2.1) (by omega) ((hbel.cell (p := ⟨b2, off2 + k * 6 + 2, none⟩) hb2).trans (hc2 2 (by omega)))
      have m3 := later_some (w := wr) (b := b2) (o := off2 + k * 6 + 3) (v := .int .i64 y.2.2.2.1) (by omega) ((hbel.cell (p := ⟨b2, off2 + k * 6 + 3, none⟩) hb2).trans (hc2 3 (by omega)))
      have m4 := later_some (w := wr) (b := b2) (o := off2 + k * 6 + 4) (v := .int .i64 y.2.2.2.2.1) (by omega) ((hbel.cell (p := ⟨b2, off2 + k * 6 + 4, none⟩) hb2).trans (hc2 4 (by omega)))
      have m5 := later_some (w := wr) (b := b2) (o := off2 + k * 6 + 5) (v := .string y.2.2.2.2.2) (by omega) ((hbel.cell (p := ⟨b2, off2 + k * 6 + 5, none⟩) hb2).trans (hc2 5 (by omega)))
      have s0 := later_some (w := wr) (b := w.heap.size) (o := 0) (by omega) p0
      have s1 := later_some (w := wr) (b := w.heap.size) (o := 1) (by omega) p1
      have t0 := later_some (w := wr) (b := w.heap.size + 1) (o := 0) (by omega) q0
      have t1 := later_some (w := wr) (b := w.heap.size + 1) (o := 1) (by omega) q1
      have HX1 := hide hx
      have HY1 := hide hy
      clear hc hc2 hx hy hbel
      rcases Bool.eq_false_or_eq_true (decide (x = y)) with he | he
      · have hrun := eqI_run x y true he
        have HE := hide (same_step (unhide HX1) (unhide HY1) (of_decide_eq_true he) (unhide HN))
        clear he
        go_wp2_with fail
        refine wp_region_later (by kernel_rfl) (by kernel_rfl) ?_
        repeat (first | go_big_quiet_step (fail) | quiet_step (fail))
        refine wpQuiet_nil ?_
        intro w1 hb1
        have HB1 := hide ((unhide HB).trans (hb1.mono hsz))
        have KA1 := hide ((hb1.block _ (by omega)).trans (unhide KA))
        have KB1 := hide ((hb1.block _ (by omega)).trans (unhide KB))
        clear hb1 HB KA KB hrun p0 p1 q0 q1
        go_wp2
        go_roundw
        case rel => exact ⟨k + 1, by omega, by go_num, unhide HE, unhide HB1, unhide KA1, unhide KB1⟩
        case measure => simp [intOf]; omega
      · have hrun := eqI_run x y false he
        obtain rfl : r = false := by
          rw [← unhide hr]
          have h := same_not (unhide HX1) (unhide HY1) (of_decide_eq_false he)
          simp [h]
        clear he
        go_wp2_with fail
        refine wp_region_later (by kernel_rfl) (by kernel_rfl) ?_
        repeat (first | go_big_quiet_step (fail) | quiet_step (fail))
        refine wpQuiet_nil ?_
        intro w1 hb1
        have HB1 := hide ((unhide HB).trans (hb1.mono hsz))
        clear hb1 HB hrun
        go_wp2
        go_ret
        exact ⟨rfl, unhide HB1⟩
    · have HE := hide (same_all (unhide HX).len.1 (unhide HY).len.1 ((show k = ni by omega) ▸ unhide HN))
      clear hbel HN
      have HEI := HE
      clear HE hsz
      go_wp2
      clear p0 p1 q0 q1 hlt
      go_loopw [6] (fun i wr => ∃ k : Nat, k ≤ nf ∧ i = .int .i64 k ∧ (∀ j : Nat, j < k → fs[j]? = gs[j]?) ∧ Below w.heap.size w wr ∧ wr.heap[w.heap.size]? = some (.cells #[.slice ai ni ci, .slice af nf cf] 27 (0, 0)) ∧ wr.heap[w.heap.size + 1]? = some (.cells #[.slice bi ni di, .slice bf nf df] 27 (0, 0))) (fun i _ => nf - (intOf i).toNat)
      case atStart => exact ⟨0, Nat.zero_le _, rfl, fun j hj => absurd hj (Nat.not_lt_zero _), unhide HB, unhide KA, unhide KB⟩
      case round =>
        clear HB KA KB hz hk
        rename_i wr0 wr
        obtain ⟨k, hk, rfl, hno, hbel, ka, kb⟩ := hrel
        have HN := hide hno
        have HB := hide hbel
        have KA := hide ka
        have KB := hide kb
        have hsz := hbel.size
        have hz : w.heap.size + 1 < wr.heap.size := (Array.getElem?_eq_some_iff.mp kb).1
        obtain ⟨p0, p1, -⟩ := blk_cells2 ka
        obtain ⟨q0, q1, -⟩ := blk_cells2 kb
        clear hno ka kb
        by_cases hlt : k < nf
        · obtain ⟨x, b, off, hx, rfl, hb, hcap, hc⟩ := (unhide HF).at hlt
          obtain ⟨y, b2, off2, hy, rfl, hb2, hcap2, hc2⟩ := (unhide HG).at hlt
          have l0 := later_some (w := wr) (b := b) (o := off + k * 2) (v := .int .i64 x.1) (by omega) ((hbel.cell (p := ⟨b, off + k * 2, none⟩) hb).trans (hc 0 (by omega)))
          have l1 := later_some (w := wr) (b := b) (o := off + k * 2 + 1) (v := .int .i64 x.2) (by omega) ((hbel.cell (p := ⟨b, off + k * 2 + 1, none⟩) hb).trans (hc 1 (by omega)))
          have m0 := later_some (w := wr) (b := b2) (o := off2 + k * 2) (v := .int .i64 y.1) (by omega) ((hbel.cell (p := ⟨b2, off2 + k * 2, none⟩) hb2).trans (hc2 0 (by omega)))
          have m1 := later_some (w := wr) (b := b2) (o := off2 + k * 2 + 1) (v := .int .i64 y.2) (by omega) ((hbel.cell (p := ⟨b2, off2 + k * 2 + 1, none⟩) hb2).trans (hc2 1 (by omega)))
          have s0 := later_some (w := wr) (b := w.heap.size) (o := 0) (by omega) p0
          have s1 := later_some (w := wr) (b := w.heap.size) (o := 1) (by omega) p1
          have t0 := later_some (w := wr) (b := w.heap.size + 1) (o := 0) (by omega) q0
          have t1 := later_some (w := wr) (b := w.heap.size + 1) (o := 1) (by omega) q1
          have HX1 := hide hx
          have HY1 := hide hy
          clear hc hc2 hx hy hbel
          rcases Bool.eq_false_or_eq_true (decide (x = y)) with he | he
          · have hrun := eqF_run x y true he
            have HE := hide (same_step (unhide HX1) (unhide HY1) (of_decide_eq_true he) (unhide HN))
            clear he
            go_wp2_with fail
            refine wp_region_later (by kernel_rfl) (by kernel_rfl) ?_
            repeat (first | go_big_quiet_step (fail) | quiet_step (fail))
            refine wpQuiet_nil ?_
            intro w1 hb1
            have HB1 := hide ((unhide HB).trans (hb1.mono hsz))
            have KA1 := hide ((hb1.block _ (by omega)).trans (unhide KA))
            have KB1 := hide ((hb1.block _ (by omega)).trans (unhide KB))
            clear hb1 HB KA KB hrun p0 p1 q0 q1
            go_wp2
            go_roundw
            case rel => exact ⟨k + 1, by omega, by go_num, unhide HE, unhide HB1, unhide KA1, unhide KB1⟩
            case measure => simp [intOf]; omega
          · have hrun := eqF_run x y false he
            obtain rfl : r = false := by
              rw [← unhide hr]
              have h := same_not (unhide HX1) (unhide HY1) (of_decide_eq_false he)
              simp [h]
            clear he
            go_wp2_with fail
            refine wp_region_later (by kernel_rfl) (by kernel_rfl) ?_
            repeat (first | go_big_quiet_step (fail) | quiet_step (fail))
            refine wpQuiet_nil ?_
            intro w1 hb1
            have HB1 := hide ((unhide HB).trans (hb1.mono hsz))
            clear hb1 HB hrun
            go_wp2
            go_ret
            exact ⟨rfl, unhide HB1⟩
        · have HE := hide (same_all (unhide HF).len.1 (unhide HG).len.1 ((show k = nf by omega) ▸ unhide HN))
          clear hbel HN
          obtain rfl : r = true := by
            rw [← unhide hr, unhide HEI, unhide HE]
            simp
          go_wp2
          go_ret
          exact ⟨rfl, unhide HB⟩
end Go.Proofs.Ytdpaocikmijioaa

namespace Go.Proofs.Ytdpaocikmijioaa
open Go.RowKit

set_option maxHeartbeats 4000000 in
set_option maxRecDepth 100000 in
theorem ileq_any (ai : Option Addr) (ni ci : Nat) (xs : List Itm) (af : Option Addr) (nf cf : Nat) (fs : List Flr) (bi : Option Addr) (mi di : Nat) (ys : List Itm) (bf : Option Addr) (mf df : Nat) (gs : List Flr) (r : Bool) (hr : Hid (leqS xs fs ys gs = r)) (w : World)
    (hni : ni ≤ 140737488351232) (hnf : nf ≤ 140737488351232) (hmi : mi ≤ 140737488351232) (hmf : mf ≤ 140737488351232) (hx : Rw encI 6 w (.slice ai ni ci) xs) (hf : Rw encF 2 w (.slice af nf cf) fs) (hy : Rw encI 6 w (.slice bi mi di) ys) (hg : Rw encF 2 w (.slice bf mf df) gs) :
    Calls Try.prog 27 #[.agg #[.slice ai ni ci, .slice af nf cf], .agg #[.slice bi mi di, .slice bf mf df]] w fun e w' => e = .returned (.bool r) ∧ Below w.heap.size w w' := by
  have HX := hide hx
  have HY := hide hy
  have HF := hide hf
  have HG := hide hg
  obtain ⟨ok, h0⟩ : ∃ ok, (okS xs fs && okS ys gs) = ok := ⟨_, rfl⟩
  have hE := unhide hr
  rw [leqS, h0] at hE
  have H0 := hide h0
  have HE := hide hE
  obtain ⟨n1, hn1⟩ : ∃ z, Hid ((jnI ok xs fs ys gs).length = z) := ⟨_, hide rfl⟩
  obtain ⟨n2, hn2⟩ : ∃ z, Hid ((jnF ok fs gs).length = z) := ⟨_, hide rfl⟩
  have k1 : n1 ≤ 5 := by rw [← unhide hn1]; exact jnI_len _ _ _ _ _
  have k2 : n2 ≤ 5 := by rw [← unhide hn2]; exact jnF_len _ _ _
  clear hx hy hf hg h0 hE hr
  go_enter Try.func27, Try.ntmps27
  go_wp2_with fail
  refine (ijoin_any ai ni ci xs af nf cf fs bi mi di ys bf mf df gs ok H0 n1 n2 hn1 hn2 _ hni hnf hmi hmf (((unhide HX).alloc _).alloc _) (((unhide HF).alloc _).alloc _) (((unhide HY).alloc _).alloc _) (((unhide HG).alloc _).alloc _)).mono ?_
  rintro e w1 ⟨a1, c1, a2, c2, rfl, o1, o2, b1⟩
  have HB1 := hide ((((Below.refl w.heap.size w).alloc (Nat.le_refl _) _).alloc (by simp) _).trans (b1.mono (by simp; omega)))
  have MB := hide ((b1.block _ (by simp)).trans (newB2 w _ _))
  have hz1 : w.heap.size + 1 < w1.heap.size := (Array.getElem?_eq_some_iff.mp (unhide MB)).1
  obtain ⟨q0, q1, -⟩ := blk_cells2 (unhide MB)
  have O1 := hide (o1.rw encI_len)
  have O2 := hide (o2.rw encF_len)
  clear b1 o1 o2 MB
  cases ok
  · obtain rfl : r = false := (unhide HE).symm
    go_wp2
    go_ret
    exact ⟨rfl, (unhide HB1).alloc (unhide HB1).size _⟩
  · go_wp2_with fail
    have HR : Hid ((decide (joinI xs fs ys gs = ys) && decide (joinF fs gs = gs)) = r) := hide (unhide HE)
    refine (isame_any a1 n1 c1 (joinI xs fs ys gs) a2 n2 c2 (joinF fs gs) bi mi di ys bf mf df gs r HR _ (by omega) (by omega) hmi hmf ((unhide O1).alloc _) ((unhide O2).alloc _) (((unhide HY).later (unhide HB1)).alloc _) (((unhide HG).later (unhide HB1)).alloc _)).mono ?_
    rintro e w2 ⟨rfl, b2⟩
    have HB2 := hide (((unhide HB1).alloc (unhide HB1).size _).trans (b2.mono (by have := (unhide HB1).size; simp; omega)))
    clear b2
    go_wp2
    go_ret
    exact ⟨rfl, unhide HB2⟩

set_option maxHeartbeats 8000000 in
set_option maxRecDepth 100000 in
theorem sleq_any (ai : Option Addr) (ni ci : Nat) (xs : List Itm) (af : Option Addr) (nf cf : Nat) (fs : List Flr) (bi : Option Addr) (mi di : Nat) (ys : List Itm) (bf : Option Addr) (mf df : Nat) (gs : List Flr) (r : Bool) (hr : Hid (leqS xs fs ys gs = r)) (w : World)
    (hni : ni ≤ 140737488351232) (hnf : nf ≤ 140737488351232) (hmi : mi ≤ 140737488351232) (hmf : mf ≤ 140737488351232) (hx : Rw encI 6 w (.slice ai ni ci) xs) (hf : Rw encF 2 w (.slice af nf cf) fs) (hy : Rw encI 6 w (.slice bi mi di) ys) (hg : Rw encF 2 w (.slice bf mf df) gs) :
    Calls Try.prog 29 #[.agg #[.slice ai ni ci, .slice af nf cf], .agg #[.slice bi mi di, .slice bf mf df]] w fun e w' => e = .returned (.bool r) ∧ Below w.heap.size w w' := by
  obtain ⟨okA, hA⟩ : ∃ okA, okS xs fs = okA := ⟨_, rfl⟩
  obtain ⟨okB, hB⟩ : ∃ okB, okS ys gs = okB := ⟨_, rfl⟩
  have hE := unhide hr
  rw [leqS, hA, hB] at hE
  have HA := hide hA
  have HB := hide hB
  have HE := hide hE
  go_enter Try.func29, Try.ntmps29
  go_upto_region 1 with fail
  obtain ⟨V, hV⟩ : ∃ V, V = (w.alloc (.cells #[.slice ai ni ci, .slice af nf cf] 27)).alloc (.cells #[.slice bi mi di, .slice bf mf df] 27) := ⟨_, rfl⟩
  rw [← hV]
  have ka : V.heap[w.heap.size]? = some (.cells #[.slice ai ni ci, .slice af nf cf] 27 (0, 0)) := by rw [hV]; exact lowB2 w _ _
  have kb : V.heap[w.heap.size + 1]? = some (.cells #[.slice bi mi di, .slice bf mf df] 27 (0, 0)) := by rw [hV]; exact newB2 w _ _
  have BV : Below w.heap.size w V := by rw [hV]; exact ((Below.refl w.heap.size w).alloc (Nat.le_refl _) _).alloc (by simp) _
  have HBV := hide BV
  have HX := hide (hx.later BV)
  have HF := hide (hf.later BV)
  have HY := hide (hy.later BV)
  have HG := hide (hg.later BV)
  have hzb : w.heap.size + 1 < V.heap.size := (Array.getElem?_eq_some_iff.mp kb).1
  have hza : w.heap.size < V.heap.size := by omega
  obtain ⟨pa0, pa1, -⟩ := blk_cells2 ka
  obtain ⟨pb0, pb1, -⟩ := blk_cells2 kb
  clear hx hf hy hg hA hB hE hr BV hV ka kb
  cases okA
  · obtain rfl : r = false := (unhide HE).symm
    have la0 := later_some (w := V) hza pa0
    have la1 := later_some (w := V) hza pa1
    have lb0 := later_some (w := V) hzb pb0
    have lb1 := later_some (w := V) hzb pb1
    clear pa0 pa1 pb0 pb1
    refine wp_region_later (by kernel_rfl) (by kernel_rfl) ?_
    repeat (go_big_quiet_step (first
      | (go_at_call_of 19 (Value.slice ai ni ci); exact Calls.later_of (sstateok_any ai ni ci xs af nf cf fs _ HA _ hni hnf ((unhide HX).in_later _ _) ((unhide HF).in_later _ _)))))
    refine wpQuiet_nil ?_
    intro w1 hb1
    have HB1 := hide ((unhide HBV).trans (hb1.mono (unhide HBV).size))
    clear hb1 la0 la1 lb0 lb1
    go_wp2
    go_ret
    exact ⟨rfl, unhide HB1⟩
  · cases okB
    · obtain rfl : r = false := (unhide HE).symm
      have la0 := later_some (w := V) hza pa0
      have la1 := later_some (w := V) hza pa1
      have lb0 := later_some (w := V) hzb pb0
      have lb1 := later_some (w := V) hzb pb1
      clear pa0 pa1 pb0 pb1
      refine wp_region_later (by kernel_rfl) (by kernel_rfl) ?_
      repeat (go_big_quiet_step (first
        | (go_at_call_of 19 (Value.slice ai ni ci); exact Calls.later_of (sstateok_any ai ni ci xs af nf cf fs _ HA _ hni hnf ((unhide HX).in_later _ _) ((unhide HF).in_later _ _)))
        | (go_at_call_of 19 (Value.slice bi mi di); exact Calls.later_of (sstateok_any bi mi di ys bf mf df gs _ HB _ hmi hmf ((unhide HY).in_later _ _) ((unhide HG).in_later _ _)))))
      refine wpQuiet_nil ?_
      intro w1 hb1
      have HB1 := hide ((unhide HBV).trans (hb1.mono (unhide HBV).size))
      clear hb1 la0 la1 lb0 lb1
      go_wp2
      go_ret
      exact ⟨rfl, unhide HB1⟩
    · have HR : Hid ((decide (joinI xs fs ys gs = ys) && decide (joinF fs gs = gs)) = r) := hide (unhide HE)
      have PA0 := hide pa0; have PA1 := hide pa1; have PB0 := hide pb0; have PB1 := hide pb1
      clear HE pa0 pa1 pb0 pb1
      go_region_held3 (fun W => Below V.heap.size V W ∧ W.cell? ⟨w.heap.size, 0, none⟩ = some (.slice ai ni ci) ∧ W.cell? ⟨w.heap.size, 1, none⟩ = some (.slice af nf cf) ∧ W.cell? ⟨w.heap.size + 1, 0, none⟩ = some (.slice bi mi di) ∧ W.cell? ⟨w.heap.size + 1, 1, none⟩ = some (.slice bf mf df))
        (first | (with_reducible exact keep4 hza hza hzb hzb (unhide PA0) (unhide PA1) (unhide PB0) (unhide PB1) (Below.refl _ _)) | (with_reducible exact keep4 hza hza hzb hzb (unhide PA0) (unhide PA1) (unhide PB0) (unhide PB1) ((Below.refl _ _).drew)) | (with_reducible exact keep4 hza hza hzb hzb (unhide PA0) (unhide PA1) (unhide PB0) (unhide PB1) (by assumption)))
        (first
          | (go_at_call_of 19 (Value.agg #[Value.slice ai ni ci, Value.slice af nf cf]); refine (sstateok_any ai ni ci xs af nf cf fs _ HA _ hni hnf ?_ ?_).mono ?_; exact (unhide HX).later (kb1 (by assumption)); exact (unhide HF).later (kb1 (by assumption)); rintro e w3 ⟨rfl, b6⟩; have bw3 := kb2 (by assumption) b6; clear b6)
          | (go_at_call_of 19 (Value.agg #[Value.slice bi mi di, Value.slice bf mf df]); refine (sstateok_any bi mi di ys bf mf df gs _ HB _ hmi hmf ?_ ?_).mono ?_; exact (unhide HY).later (kb1 (by assumption)); exact (unhide HG).later (kb1 (by assumption)); rintro e w4 ⟨rfl, b6⟩; have bw4 := kb2 (by assumption) b6; clear b6)
          | (go_at_call 35; refine (l3join_any ai ni ci xs af nf cf fs bi mi di ys bf mf df gs _ hni hnf hmi hmf ?_ ?_ ?_ ?_).mono ?_; exact (unhide HX).later (kb1 (by assumption)); exact (unhide HF).later (kb1 (by assumption)); exact (unhide HY).later (kb1 (by assumption)); exact (unhide HG).later (kb1 (by assumption)); rintro e w5 ⟨a1, n1, c1, a2, n2, c2, rfl, o1, o2, b6⟩; have L1 := Nat.le_trans (Nat.le_of_eq (o1.rw encI_len).len.1) (jI_len xs fs ys gs 5); have L2 := Nat.le_trans (Nat.le_of_eq (o2.rw encF_len).len.1) (jF_len fs gs 5); have R1 := hide (o1.rw encI_len); have R2 := hide (o2.rw encF_len); have bw5 := kb2 (by assumption) b6; clear o1 o2 b6)
          | (go_at_call 25; refine (ssame_any a1 n1 c1 (joinI xs fs ys gs) a2 n2 c2 (joinF fs gs) bi mi di ys bf mf df gs r HR _ (by omega) (by omega) hmi hmf (unhide R1) (unhide R2) ?_ ?_).mono ?_; exact (unhide HY).later (kb1 (by assumption)); exact (unhide HG).later (kb1 (by assumption)); rintro e w6 ⟨rfl, b6⟩; have bw6 := kb2 (by assumption) b6; clear b6))
      all_goals go_wp2
      all_goals go_ret
      all_goals exact ⟨rfl, (unhide HBV).trans (bw6.mono (unhide HBV).size)⟩
end Go.Proofs.Ytdpaocikmijioaa

namespace Go.Proofs.Ytdpaocikmijioaa
open Go.RowKit

/-- While an item is copied: the argument, the result's variable. -/
structure C6 (w W : World) (x : Itm) : Prop where
  bel : Below w.heap.size w W
  k1 : W.heap[w.heap.size]? = some (.cells #[.int .i64 x.1, .int .i64 x.2.1, .int .i64 x.2.2.1, .int .i64 x.2.2.2.1, .int .i64 x.2.2.2.2.1, .string x.2.2.2.2.2] 44 (0, 0))
  k2 : W.heap[w.heap.size + 1]? = some (.cells #[.int .i64 0, .int .i64 0, .int .i64 0, .int .i64 0, .int .i64 0, .string ⟨#[]⟩] 44 (0, 0))
theorem C6.lt {w W : World} {x : Itm} (h : C6 w W x) : w.heap.size + 1 < W.heap.size := (Array.getElem?_eq_some_iff.1 h.k2).1
theorem C6.later {w W Y : World} {x : Itm} (h : C6 w W x) (b : Below W.heap.size W Y) : C6 w Y x := by
  have := h.lt
  exact ⟨h.bel.trans (b.mono h.bel.size), (b.block _ (by omega)).trans h.k1, (b.block _ h.lt).trans h.k2⟩
theorem C6.drewH {w W : World} {x : Itm} (h : Hid (C6 w W x)) : Hid (C6 w W.drew x) := hide ⟨(unhide h).bel.drew, (unhide h).k1, (unhide h).k2⟩
theorem kC6 {w W : World} {x : Itm} (h : Hid (C6 w W x)) : Below w.heap.size w W ∧ W.cell? ⟨w.heap.size, 0, none⟩ = some (.int .i64 x.1) ∧ W.cell? ⟨w.heap.size, 1, none⟩ = some (.int .i64 x.2.1) ∧ W.cell? ⟨w.heap.size, 2, none⟩ = some (.int .i64 x.2.2.1) ∧ W.cell? ⟨w.heap.size, 3, none⟩ = some (.int .i64 x.2.2.2.1) ∧ W.cell? ⟨w.heap.size, 4, none⟩ = some (.int .i64 x.2.2.2.2.1) ∧ W.cell? ⟨w.heap.size, 5, none⟩ = some (.string x.2.2.2.2.2) := by
  obtain ⟨h0, h1, h2, h3, h4, h5, -⟩ := blk_cells6 (unhide h).k1
  exact ⟨(unhide h).bel, h0, h1, h2, h3, h4, h5⟩
theorem kC6s {w W : World} {x : Itm} (h : Hid (C6 w W x)) (v0 v1 v2 v3 v4 v5 : Value) : Below w.heap.size w ((((((W.setCell ⟨w.heap.size + 1, 0, none⟩ v0).setCell ⟨w.heap.size + 1, 1, none⟩ v1).setCell ⟨w.heap.size + 1, 2, none⟩ v2).setCell ⟨w.heap.size + 1, 3, none⟩ v3).setCell ⟨w.heap.size + 1, 4, none⟩ v4).setCell ⟨w.heap.size + 1, 5, none⟩ v5) ∧ ((((((W.setCell ⟨w.heap.size + 1, 0, none⟩ v0).setCell ⟨w.heap.size + 1, 1, none⟩ v1).setCell ⟨w.heap.size + 1, 2, none⟩ v2).setCell ⟨w.heap.size + 1, 3, none⟩ v3).setCell ⟨w.heap.size + 1, 4, none⟩ v4).setCell ⟨w.heap.size + 1, 5, none⟩ v5).cell? ⟨w.heap.size, 0, none⟩ = some (.int .i64 x.1) ∧ ((((((W.setCell ⟨w.heap.size + 1, 0, none⟩ v0).setCell ⟨w.heap.size + 1, 1, none⟩ v1).setCell ⟨w.heap.size + 1, 2, none⟩ v2).setCell ⟨w.heap.size + 1, 3, none⟩ v3).setCell ⟨w.heap.size + 1, 4, none⟩ v4).setCell ⟨w.heap.size + 1, 5, none⟩ v5).cell? ⟨w.heap.size, 1, none⟩ = some (.int .i64 x.2.1) ∧ ((((((W.setCell ⟨w.heap.size + 1, 0, none⟩ v0).setCell ⟨w.heap.size + 1, 1, none⟩ v1).setCell ⟨w.heap.size + 1, 2, none⟩ v2).setCell ⟨w.heap.size + 1, 3, none⟩ v3).setCell ⟨w.heap.size + 1, 4, none⟩ v4).setCell ⟨w.heap.size + 1, 5, none⟩ v5).cell? ⟨w.heap.size, 2, none⟩ = some (.int .i64 x.2.2.1) ∧ ((((((W.setCell ⟨w.heap.size + 1, 0, none⟩ v0).setCell ⟨w.heap.size + 1, 1, none⟩ v1).setCell ⟨w.heap.size + 1, 2, none⟩ v2).setCell ⟨w.heap.size + 1, 3, none⟩ v3).setCell ⟨w.heap.size + 1, 4, none⟩ v4).setCell ⟨w.heap.size + 1, 5, none⟩ v5).cell? ⟨w.heap.size, 3, none⟩ = some (.int .i64 x.2.2.2.1) ∧ ((((((W.setCell ⟨w.heap.size + 1, 0, none⟩ v0).setCell ⟨w.heap.size + 1, 1, none⟩ v1).setCell ⟨w.heap.size + 1, 2, none⟩ v2).setCell ⟨w.heap.size + 1, 3, none⟩ v3).setCell ⟨w.heap.size + 1, 4, none⟩ v4).setCell ⟨w.heap.size + 1, 5, none⟩ v5).cell? ⟨w.heap.size, 4, none⟩ = some (.int .i64 x.2.2.2.2.1) ∧ ((((((W.setCell ⟨w.heap.size + 1, 0, none⟩ v0).setCell ⟨w.heap.size + 1, 1, none⟩ v1).setCell ⟨w.heap.size + 1, 2, none⟩ v2).setCell ⟨w.heap.size + 1, 3, none⟩ v3).setCell ⟨w.heap.size + 1, 4, none⟩ v4).setCell ⟨w.heap.size + 1, 5, none⟩ v5).cell? ⟨w.heap.size, 5, none⟩ = some (.string x.2.2.2.2.2) := by
  obtain ⟨hb, h0, h1, h2, h3, h4, h5⟩ := kC6 h
  have ne : w.heap.size ≠ w.heap.size + 1 := by omega
  exact ⟨below_set6 (by omega) hb, blk_far6 ne h0, blk_far6 ne h1, blk_far6 ne h2, blk_far6 ne h3, blk_far6 ne h4, blk_far6 ne h5⟩

set_option maxHeartbeats 4000000 in
set_option maxRecDepth 100000 in
theorem icopyI_any (x : Itm) (hd : x.2.2.2.2.2.size ≤ 281474976710656) (w : World) :
    Calls Try.prog 67 #[.agg #[.int .i64 x.1, .int .i64 x.2.1, .int .i64 x.2.2.1, .int .i64 x.2.2.2.1, .int .i64 x.2.2.2.2.1, .string x.2.2.2.2.2]] w fun e w' => e = .returned (.agg #[.int .i64 x.1, .int .i64 x.2.1, .int .i64 x.2.2.1, .int .i64 x.2.2.2.1, .int .i64 x.2.2.2.2.1, .string x.2.2.2.2.2]) ∧ Below w.heap.size w w' := by
  go_enter Try.func67, Try.ntmps67
  go_upto_region 1 with fail
  obtain ⟨V, hV⟩ : ∃ V, V = (w.alloc (.cells #[.int .i64 x.1, .int .i64 x.2.1, .int .i64 x.2.2.1, .int .i64 x.2.2.2.1, .int .i64 x.2.2.2.2.1, .string x.2.2.2.2.2] 44)).alloc (.cells #[.int .i64 0, .int .i64 0, .int .i64 0, .int .i64 0, .int .i64 0, .string ⟨#[]⟩] 44) := ⟨_, rfl⟩
  have CV := hide (show C6 w V x from by rw [hV]; exact ⟨((Below.refl w.heap.size w).alloc (Nat.le_refl _) _).alloc (by simp) _, lowB2 w _ _, newB2 w _ _⟩)
  rw [← hV]
  clear hV
  have CD := C6.drewH CV
  have z1 := (unhide CV).lt
  have z0 : w.heap.size < V.heap.size := by omega
  go_region_held3 (fun W => Below w.heap.size w W ∧ W.cell? ⟨w.heap.size, 0, none⟩ = some (.int .i64 x.1) ∧ W.cell? ⟨w.heap.size, 1, none⟩ = some (.int .i64 x.2.1) ∧ W.cell? ⟨w.heap.size, 2, none⟩ = some (.int .i64 x.2.2.1) ∧ W.cell? ⟨w.heap.size, 3, none⟩ = some (.int .i64 x.2.2.2.1) ∧ W.cell? ⟨w.heap.size, 4, none⟩ = some (.int .i64 x.2.2.2.2.1) ∧ W.cell? ⟨w.heap.size, 5, none⟩ = some (.string x.2.2.2.2.2))
    (first | (with_reducible exact kC6 CV) | (with_reducible exact kC6 CD) | (with_reducible exact kC6 CA) | (with_reducible exact kC6s CA _ _ _ _ _ _))
    (first | (go_at_call 41; refine (icopy_any x.2.1 x.2.2.1 x.2.2.2.1 x.2.2.2.2.1 x.2.2.2.2.2 hd _).mono ?_; rintro e w6 ⟨rfl, b6⟩; (first | (with_reducible have CA := hide ((unhide CD).later b6)) | (with_reducible have CA := hide ((unhide CV).later b6))); obtain ⟨q0, q1, q2, q3, q4, q5, qf⟩ := blk_cells6 (unhide CA).k2; have zA := (unhide CA).lt; clear b6))
  all_goals go_wp2
  all_goals exact bodyPost_ret (v := .agg #[.int .i64 x.1, .int .i64 x.2.1, .int .i64 x.2.2.1, .int .i64 x.2.2.2.1, .int .i64 x.2.2.2.2.1, .string x.2.2.2.2.2]) (by simp [results, Try.results67, go_sem, q0, q1, q2, q3, q4, q5]) rfl ⟨rfl, (kC6s CA _ _ _ _ _ _).1⟩
theorem lkF_pos {fs gs : List Flr} {k : Nat} {x : Flr} (hx : gs[k]? = some x) (h : lkF1 fs x = true) : lkF fs (gs.take (k + 1)) = lkF fs (gs.take k) ++ [x] := by
  rw [lkF, take_filter hx, if_pos h]; rfl
theorem lkF_neg {fs gs : List Flr} {k : Nat} {x : Flr} (hx : gs[k]? = some x) (h : lkF1 fs x = false) : lkF fs (gs.take (k + 1)) = lkF fs (gs.take k) := by
  rw [lkF, take_filter hx, if_neg (by simp [h]), List.append_nil]; rfl
theorem lkI_pos {xs ys : List Itm} {fs : List Flr} {k : Nat} {x : Itm} (hx : ys[k]? = some x) (h : lkI1 xs fs x = true) : lkI xs fs (ys.take (k + 1)) = lkI xs fs (ys.take k) ++ [x] := by
  rw [lkI, take_filter hx, if_pos h]; rfl
theorem lkI_neg {xs ys : List Itm} {fs : List Flr} {k : Nat} {x : Itm} (hx : ys[k]? = some x) (h : lkI1 xs fs x = false) : lkI xs fs (ys.take (k + 1)) = lkI xs fs (ys.take k) := by
  rw [lkI, take_filter hx, if_neg (by simp [h]), List.append_nil]; rfl
theorem lkF_k {fs gs : List Flr} {k : Nat} : (lkF fs (gs.take k)).length ≤ k := Nat.le_trans (lkF_len _ _) (by simp; omega)
theorem lkI_k {xs ys : List Itm} {fs : List Flr} {k : Nat} : (lkI xs fs (ys.take k)).length ≤ k := Nat.le_trans (lkI_len _ _ _) (by simp; omega)
theorem inewerK_v (a b : Key) (r : Bool) (h : Hid (decide (0 < cmpE a.1 a.2.1 a.2.2.1 a.2.2.2.1 a.2.2.2.2 b.1 b.2.1 b.2.2.1 b.2.2.2.1 b.2.2.2.2) = r)) (w : World) : Calls Try.prog 42 #[.agg #[.int .i64 a.1, .int .i64 a.2.1, .int .i64 a.2.2.1, .int .i64 a.2.2.2.1, .string a.2.2.2.2], .agg #[.int .i64 b.1, .int .i64 b.2.1, .int .i64 b.2.2.1, .int .i64 b.2.2.2.1, .string b.2.2.2.2]] w fun e w' => e = .returned (.bool r) ∧ Below w.heap.size w w' := by
  rw [← unhide h]; exact inewer_any _ _ _ _ _ _ _ _ _ _ w

set_option maxHeartbeats 8000000 in
set_option maxRecDepth 100000 in
theorem ilackf_any (vi : Value) (af : Option Addr) (nf cf : Nat) (fs : List Flr) (vj : Value) (bf : Option Addr) (mf df : Nat) (gs : List Flr) (w : World)
    (hnf : nf ≤ 140737488351232) (hmf : mf ≤ 1000) (hf : Rw encF 2 w (.slice af nf cf) fs) (hg : Rw encF 2 w (.slice bf mf df) gs) :
    Calls Try.prog 52 #[.agg #[vi, .slice af nf cf], .agg #[vj, .slice bf mf df]] w fun e w' => ∃ a2 n2 c2, e = .returned (.slice a2 n2 c2) ∧ OwF w.heap.size w' (.slice a2 n2 c2) (lkF fs gs) ∧ Below w.heap.size w w' := by
  obtain ⟨i1, gi, gz0, gz1, gz2⟩ := info_parts Try.infoFloor
  have HF := hide hf
  have HG := hide hg
  clear hf hg
  go_enter Try.func52, Try.ntmps52
  go_wp2
  go_loopw [5, 11] (fun v i wr => ∃ (k : Nat) (a2 : Option Addr) (n2 c2 : Nat), k ≤ mf ∧ i = .int .i64 k ∧ v = .slice a2 n2 c2 ∧ OwF w.heap.size wr (.slice a2 n2 c2) (lkF fs (gs.take k)) ∧ Below w.heap.size w wr ∧ wr.heap[w.heap.size]? = some (.cells #[vi, .slice af nf cf] 27 (0, 0))) (fun _ i _ => mf - (intOf i).toNat)
  case atStart => exact ⟨0, none, 0, 0, by omega, rfl, rfl, World.ownsRow_nil _ _ _ _, ((Below.refl _ _).alloc (Nat.le_refl _) _).alloc (by simp) _, lowB2 w _ _⟩
  case round =>
    obtain ⟨k, a2, n2, c2, hk, rfl, rfl, hown, hbel, ka⟩ := hrel
    have HO := hide hown
    have HB := hide hbel
    have KA := hide ka
    have hsz := hbel.size
    have hz : w.heap.size < wr.heap.size := (Array.getElem?_eq_some_iff.mp ka).1
    obtain ⟨pa0, pa1, -⟩ := blk_cells2 ka
    clear hown ka
    by_cases hlt : k < mf
    · obtain ⟨x, b, off, hx, rfl, hb, hcap, hc⟩ := ((unhide HG).later hbel).at hlt
      have c0 : wr.cell? ⟨b, off + k * 2, none⟩ = some (.int .i64 x.1) := hc 0 (by omega)
      have c1 : wr.cell? ⟨b, off + k * 2 + 1, none⟩ = some (.int .i64 x.2) := hc 1 (by omega)
      obtain ⟨fa, hfa⟩ : ∃ fa, flo fs x.1 = fa := ⟨_, rfl⟩
      have HX := hide hx
      have HFA := hide hfa
      clear hx hfa hc hbel
      go_upto_region 5 with fail
      obtain ⟨V, hV⟩ : ∃ V, V = wr.alloc (.cells #[.int .i64 x.1, .int .i64 x.2] 56) := ⟨_, rfl⟩
      rw [← hV]
      have bV : Below wr.heap.size wr V := by rw [hV]; exact (Below.refl _ _).alloc (Nat.le_refl _) _
      have kx : V.heap[wr.heap.size]? = some (.cells #[.int .i64 x.1, .int .i64 x.2] 56 (0, 0)) := by rw [hV]; exact newB1 wr _
      have hzx : wr.heap.size < V.heap.size := (Array.getElem?_eq_some_iff.mp kx).1
      have hzV : w.heap.size < V.heap.size := by omega
      obtain ⟨px0, px1, -⟩ := blk_cells2 kx
      have KX := hide kx
      have HBV := hide ((unhide HB).trans (bV.mono hsz))
      have KAV := hide ((bV.block _ hz).trans (unhide KA))
      have HOV := hide ((unhide HO).later bV)
      clear pa0 pa1 hV bV c0 c1 HB KA HO kx
      obtain ⟨pa0, pa1, -⟩ := blk_cells2 (unhide KAV)
      have la0 := later_some (w := V) (b := w.heap.size) (o := 0) hzV pa0
      have la1 := later_some (w := V) (b := w.heap.size) (o := 1) hzV pa1
      have lx0 := later_some (w := V) (b := wr.heap.size) (o := 0) hzx px0
      have lx1 := later_some (w := V) (b := wr.heap.size) (o := 1) hzx px1
      have RF := hide ((unhide HF).later (unhide HBV))
      clear pa0 pa1 px0 px1
      refine wp_region_later (by kernel_rfl) (by kernel_rfl) ?_
      repeat (go_big_quiet_step (first
        | (go_at_call 16; exact Calls.later_of (ifloor_v _ af nf cf fs _ fa HFA _ hnf ((unhide RF).in_later _ _)))))
      refine wpQuiet_nil ?_
      intro w1 hb1
      have HO1 := hide ((unhide HOV).later hb1)
      have HB1 := hide ((unhide HBV).trans (hb1.mono (unhide HBV).size))
      have KA1 := hide ((hb1.block _ hzV).trans (unhide KAV))
      obtain ⟨px0, px1, -⟩ := blk_cells2 ((hb1.block _ hzx).trans (unhide KX))
      have hy1 : w.heap.size < w1.heap.size := Nat.lt_of_lt_of_le hzV hb1.size
      have hzx1 : wr.heap.size < w1.heap.size := Nat.lt_of_lt_of_le hzx hb1.size
      have hn2 : Hid (n2 = (lkF fs (gs.take k)).length) := hide ((unhide HO1).rw encF_len).len.1
      have hn2l : n2 ≤ k := by have := unhide hn2; have := lkF_k (fs := fs) (gs := gs) (k := k); omega
      clear hb1 la0 la1 lx0 lx1 RF HOV HBV KAV KX
      have hw1 : w.heap.size ≤ w1.heap.size := by omega
      generalize hpos : decide (fa < x.2) = q
      cases q
      rotate_left
      · have HP := hide (lkF_pos (fs := fs) (unhide HX) (by rw [lkF1, unhide HFA]; exact hpos))
        clear HFA
        go_wp2_with (first | (at_builtin; refine wpList_app1 encF_len (by omega) oneF 56 25 i1 _ 16 Try.underlying25 gi gz0 gz1 gz2 rfl (by omega) w1 x rfl _ _ rfl w.heap.size _ (lkF fs (gs.take k)) n2 hn2 rfl (unhide HO1) rfl (by omega) hw1 ?_; intro a2' c2' w2 hO hG; have HO2 := hide hO; have HB2 := hide ((Trn.of_grown hG).below (unhide HB1) hw1 (fun i q => (World.ownsRow.lt (unhide HO1) i q).1)); have HG2 := hide hG; clear hO hG))
        go_roundw
        case rel =>
          have hnA := own_ne (unhide HO1) (unhide KA1) (by decide)
          exact ⟨k + 1, a2', n2 + 1, c2', by omega, by go_num, rfl, by rw [unhide HP]; exact unhide HO2, unhide HB2, ((unhide HG2).block _ hy1 (fun q => hnA q.symm)).trans (unhide KA1)⟩
        case measure => simp [intOf]; omega
      · have HP := hide (lkF_neg (fs := fs) (unhide HX) (by rw [lkF1, unhide HFA]; exact hpos))
        clear HFA
        go_wp2
        go_roundw
        case rel => exact ⟨k + 1, a2, n2, c2, by omega, by go_num, rfl, by rw [unhide HP]; exact unhide HO1, unhide HB1, unhide KA1⟩
        case measure => simp [intOf]; omega
    · have HT : Hid (lkF fs (gs.take k) = lkF fs gs) := hide (by rw [List.take_of_length_le (by have := (unhide HG).len.1; omega)])
      clear hbel pa0 pa1
      go_wp2
      go_ret
      exact ⟨a2, n2, c2, rfl, by rw [← unhide HT]; exact unhide HO, unhide HB⟩

set_option maxHeartbeats 8000000 in
set_option maxRecDepth 100000 in
theorem ilacki_any (ai : Option Addr) (ni ci : Nat) (xs : List Itm) (hsm : Sml xs) (af : Option Addr) (nf cf : Nat) (fs : List Flr) (bi : Option Addr) (mi di : Nat) (ys : List Itm) (hys : Sml ys) (hpo : ∀ (k : Nat) (y : Itm), ys[k]? = some y → 1 ≤ y.2.1) (vj : Value) (w : World)
    (hni : ni ≤ 140737488351232) (hnf : nf ≤ 140737488351232) (hmi : mi ≤ 1000) (hx : Rw encI 6 w (.slice ai ni ci) xs) (hf : Rw encF 2 w (.slice af nf cf) fs) (hy : Rw encI 6 w (.slice bi mi di) ys) :
    Calls Try.prog 51 #[.agg #[.slice ai ni ci, .slice af nf cf], .agg #[.slice bi mi di, vj]] w fun e w' => ∃ a2 n2 c2, e = .returned (.slice a2 n2 c2) ∧ OwI w.heap.size w' (.slice a2 n2 c2) (lkI xs fs ys) ∧ Below w.heap.size w w' := by
  obtain ⟨i0, hi, hz0, hz1, hz2⟩ := info_parts Try.infoItem
  have HX := hide hx
  have HF := hide hf
  have HY := hide hy
  have HYS := hide hys
  have HPO := hide hpo
  have SM := hide hsm
  clear hx hf hy hys hpo hsm
  go_enter Try.func51, Try.ntmps51
  go_wp2
  go_loopw [5, 13] (fun v i wr => ∃ (k : Nat) (a2 : Option Addr) (n2 c2 : Nat), k ≤ mi ∧ i = .int .i64 k ∧ v = .slice a2 n2 c2 ∧ OwI w.heap.size wr (.slice a2 n2 c2) (lkI xs fs (ys.take k)) ∧ Below w.heap.size w wr ∧ wr.heap[w.heap.size]? = some (.cells #[.slice ai ni ci, .slice af nf cf] 27 (0, 0))) (fun _ i _ => mi - (intOf i).toNat)
  case atStart => exact ⟨0, none, 0, 0, by omega, rfl, rfl, World.ownsRow_nil _ _ _ _, ((Below.refl _ _).alloc (Nat.le_refl _) _).alloc (by simp) _, lowB2 w _ _⟩
  case round =>
    obtain ⟨k, a2, n2, c2, hk, rfl, rfl, hown, hbel, ka⟩ := hrel
    have HO := hide hown
    have HB := hide hbel
    have KA := hide ka
    have hsz := hbel.size
    have hz : w.heap.size < wr.heap.size := (Array.getElem?_eq_some_iff.mp ka).1
    obtain ⟨pa0, pa1, -⟩ := blk_cells2 ka
    clear hown ka
    by_cases hlt : k < mi
    · obtain ⟨x, b, off, hx, rfl, hb, hcap, hc⟩ := ((unhide HY).later hbel).at hlt
      obtain ⟨c0, c1, c2', c3, c4, c5⟩ := item_cells hc
      obtain ⟨fa, hfa⟩ : ∃ fa, flo fs x.1 = fa := ⟨_, rfl⟩
      obtain ⟨rA, okA, hrA⟩ : ∃ rA okA, entR xs x.1 = (rA, okA) := ⟨_, _, rfl⟩
      obtain ⟨cb, hcb⟩ : ∃ cb, decide (0 < cmpE x.2.1 x.2.2.1 x.2.2.2.1 x.2.2.2.2.1 x.2.2.2.2.2 rA.1 rA.2.1 rA.2.2.1 rA.2.2.2.1 rA.2.2.2.2) = cb := ⟨_, rfl⟩
      have HLK : Hid (lkI1 xs fs x = (cb && decide (fa < x.2.1))) := hide (by rw [lkI1, newr_R hrA (unhide HPO k x hx), show keyC x.2 rA = cmpE x.2.1 x.2.2.1 x.2.2.2.1 x.2.2.2.2.1 x.2.2.2.2.2 rA.1 rA.2.1 rA.2.2.1 rA.2.2.2.1 rA.2.2.2.2 from (cmpE_key _ _ _ _ _ _ _ _ _ _).symm, hcb, hfa])
      have hxs := unhide HYS k x hx
      have HX1 := hide hx
      have HFA := hide hfa
      have HRA := hide hrA
      have HCB := hide hcb
      clear hx hfa hrA hcb hc hbel
      go_wp2_with fail
      have bX : Below wr.heap.size wr (wr.alloc (.cells #[.int .i64 x.1, .int .i64 x.2.1, .int .i64 x.2.2.1, .int .i64 x.2.2.2.1, .int .i64 x.2.2.2.2.1, .string x.2.2.2.2.2] 44)) := (Below.refl _ _).alloc (Nat.le_refl _) _
      refine (ientry_any _ ai ni ci xs (unhide SM) x.1 rA okA HRA _ hni ((unhide HX).later ((unhide HB).trans (bX.mono hsz)))).mono ?_
      rintro e w2 ⟨rfl, b2⟩
      have b2' := bX.trans (b2.mono (by simp))
      have kx := (b2.block wr.heap.size (by simp)).trans (newB1 wr _)
      have HB2 := hide ((unhide HB).trans (b2'.mono hsz))
      have KA2 := hide ((b2'.block _ hz).trans (unhide KA))
      have HO2 := hide ((unhide HO).later b2')
      have hzx2 : wr.heap.size < w2.heap.size := (Array.getElem?_eq_some_iff.mp kx).1
      have KX2 := hide kx
      clear c0 c1 c2' c3 c4 c5 pa0 pa1 bX b2 b2' kx HB KA HO
      go_upto_region 6 with fail
      obtain ⟨V, hV⟩ : ∃ V, V = w2.alloc (.cells #[.int .i64 rA.1, .int .i64 rA.2.1, .int .i64 rA.2.2.1, .int .i64 rA.2.2.2.1, .string rA.2.2.2.2] 36) := ⟨_, rfl⟩
      rw [← hV]
      have bV : Below w2.heap.size w2 V := by rw [hV]; exact (Below.refl _ _).alloc (Nat.le_refl _) _
      have ke : V.heap[w2.heap.size]? = some (.cells #[.int .i64 rA.1, .int .i64 rA.2.1, .int .i64 rA.2.2.1, .int .i64 rA.2.2.2.1, .string rA.2.2.2.2] 36 (0, 0)) := by rw [hV]; exact newB1 w2 _
      have hze : w2.heap.size < V.heap.size := (Array.getElem?_eq_some_iff.mp ke).1
      have hzx : wr.heap.size < V.heap.size := by omega
      have hzV : w.heap.size < V.heap.size := by omega
      have KX := hide ((bV.block _ hzx2).trans (unhide KX2))
      have HBV := hide ((unhide HB2).trans (bV.mono (unhide HB2).size))
      have KAV := hide ((bV.block _ (by omega)).trans (unhide KA2))
      have HOV := hide ((unhide HO2).later bV)
      obtain ⟨pa0, pa1, -⟩ := blk_cells2 (unhide KAV)
      obtain ⟨pe0, pe1, pe2, pe3, pe4, -⟩ := ent_cells ke
      obtain ⟨px0, px1, px2, px3, px4, px5, -⟩ := blk_cells6 (unhide KX)
      have la0 := later_some (w := V) hzV pa0
      have la1 := later_some (w := V) hzV pa1
      have le0 := later_some (w := V) hze pe0
      have le1 := later_some (w := V) hze pe1
      have le2 := later_some (w := V) hze pe2
      have le3 := later_some (w := V) hze pe3
      have le4 := later_some (w := V) hze pe4
      have lx0 := later_some (w := V) hzx px0
      have lx1 := later_some (w := V) hzx px1
      have lx2 := later_some (w := V) hzx px2
      have lx3 := later_some (w := V) hzx px3
      have lx4 := later_some (w := V) hzx px4
      have lx5 := later_some (w := V) hzx px5
      have RF := hide ((unhide HF).later (unhide HBV))
      clear pa0 pa1 pe0 pe1 pe2 pe3 pe4 px0 px1 px2 px3 px4 px5 ke bV hV KX2 HB2 KA2 HO2
      cases cb
      · have HP := hide (lkI_neg (unhide HX1) (by rw [unhide HLK]; rfl))
        refine wp_region_later (by kernel_rfl) (by kernel_rfl) ?_
        repeat (go_big_quiet_step (first
          | (go_at_call 42; exact Calls.later_of (inewerK_v _ _ _ HCB _))))
        refine wpQuiet_nil ?_
        intro w1 hb1
        have HO1 := hide ((unhide HOV).later hb1)
        have HB1 := hide ((unhide HBV).trans (hb1.mono (unhide HBV).size))
        have KA1 := hide ((hb1.block _ hzV).trans (unhide KAV))
        clear hb1 la0 la1 le0 le1 le2 le3 le4 lx0 lx1 lx2 lx3 lx4 lx5 RF HOV HBV KAV KX
        go_wp2
        go_roundw
        case rel => exact ⟨k + 1, a2, n2, c2, by omega, by go_num, rfl, by rw [unhide HP]; exact unhide HO1, unhide HB1, unhide KA1⟩
        case measure => simp [intOf]; omega
      · refine wp_region_later (by kernel_rfl) (by kernel_rfl) ?_
        repeat (go_big_quiet_step (first
          | (go_at_call 42; exact Calls.later_of (inewerK_v _ _ _ HCB _))
          | (go_at_call 16; exact Calls.later_of (ifloor_v _ af nf cf fs _ fa HFA _ hnf ((unhide RF).in_later _ _)))))
        refine wpQuiet_nil ?_
        intro w1 hb1
        have HO1 := hide ((unhide HOV).later hb1)
        have HB1 := hide ((unhide HBV).trans (hb1.mono (unhide HBV).size))
        have KA1 := hide ((hb1.block _ hzV).trans (unhide KAV))
        obtain ⟨px0, px1, px2, px3, px4, px5, -⟩ := blk_cells6 ((hb1.block _ hzx).trans (unhide KX))
        have hy1 : w.heap.size < w1.heap.size := Nat.lt_of_lt_of_le hzV hb1.size
        have hzx1 : wr.heap.size < w1.heap.size := Nat.lt_of_lt_of_le hzx hb1.size
        clear hb1 la0 la1 le0 le1 le2 le3 le4 lx0 lx1 lx2 lx3 lx4 lx5 RF HOV HBV KAV KX
        have hw1 : w.heap.size ≤ w1.heap.size := by omega
        generalize hpos : decide (fa < x.2.1) = q at HLK ⊢
        cases q
        rotate_left
        · have HP := hide (lkI_pos (unhide HX1) (by rw [unhide HLK]; rfl))
          go_wp2_with fail
          refine (icopyI_any x (by omega) _).mono ?_
          rintro e w3 ⟨rfl, b3⟩
          have HO3 := hide ((unhide HO1).later b3)
          have HB3 := hide ((unhide HB1).trans (b3.mono (unhide HB1).size))
          have KA3 := hide ((b3.block _ hy1).trans (unhide KA1))
          have hz3 : w.heap.size < w3.heap.size := Nat.lt_of_lt_of_le hy1 b3.size
          have hw3 : w.heap.size ≤ w3.heap.size := by omega
          have hn2 : Hid (n2 = (lkI xs fs (ys.take k)).length) := hide ((unhide HO3).rw encI_len).len.1
          have hn2l : n2 ≤ k := by have := unhide hn2; have := lkI_k (xs := xs) (fs := fs) (ys := ys) (k := k); omega
          clear b3 px0 px1 px2 px3 px4 px5 HO1 HB1 KA1
          go_wp2_with (first | (at_builtin; refine wpList_app1 encI_len (by omega) oneI 44 24 i0 _ 56 Try.underlying24 hi hz0 hz1 hz2 rfl (by omega) w3 x rfl _ _ rfl w.heap.size _ (lkI xs fs (ys.take k)) n2 hn2 rfl (unhide HO3) rfl (by omega) hw3 ?_; intro a2' c2' w4 hO hG; have HO4 := hide hO; have HB4 := hide ((Trn.of_grown hG).below (unhide HB3) hw3 (fun i q => (World.ownsRow.lt (unhide HO3) i q).1)); have HG4 := hide hG; clear hO hG))
          go_roundw
          case rel =>
            have hnA := own_ne (unhide HO3) (unhide KA3) (by decide)
            exact ⟨k + 1, a2', n2 + 1, c2', by omega, by go_num, rfl, by rw [unhide HP]; exact unhide HO4, unhide HB4, ((unhide HG4).block _ hz3 (fun q => hnA q.symm)).trans (unhide KA3)⟩
          case measure => simp [intOf]; omega
        · have HP := hide (lkI_neg (unhide HX1) (by rw [unhide HLK]; rfl))
          clear px0 px1 px2 px3 px4 px5
          go_wp2
          go_roundw
          case rel => exact ⟨k + 1, a2, n2, c2, by omega, by go_num, rfl, by rw [unhide HP]; exact unhide HO1, unhide HB1, unhide KA1⟩
          case measure => simp [intOf]; omega
    · have HT : Hid (lkI xs fs (ys.take k) = lkI xs fs ys) := hide (by rw [List.take_of_length_le (by have := (unhide HY).len.1; omega)])
      clear hbel pa0 pa1
      go_wp2
      go_ret
      exact ⟨a2, n2, c2, rfl, by rw [← unhide HT]; exact unhide HO, unhide HB⟩

def lcI (ok : Bool) (xs : List Itm) (fs : List Flr) (ys : List Itm) : List Itm := match ok with
  | true => lkI xs fs ys
  | false => []
def lcF (ok : Bool) (fs gs : List Flr) : List Flr := match ok with
  | true => lkF fs gs
  | false => []
/-- While two states are held against each other: both arguments, the result's variable. -/
structure C4 (w W : World) (v1 v2 u1 u2 : Value) : Prop where
  bel : Below w.heap.size w W
  ka : W.heap[w.heap.size]? = some (.cells #[v1, v2] 27 (0, 0))
  kb : W.heap[w.heap.size + 1]? = some (.cells #[u1, u2] 27 (0, 0))
  kr : W.heap[w.heap.size + 1 + 1]? = some (.cells #[.slice none 0 0, .slice none 0 0] 27 (0, 0))
theorem C4.lt {w W : World} {v1 v2 u1 u2 : Value} (h : C4 w W v1 v2 u1 u2) : w.heap.size + 1 + 1 < W.heap.size := (Array.getElem?_eq_some_iff.1 h.kr).1
theorem C4.later {w W Y : World} {v1 v2 u1 u2 : Value} (h : C4 w W v1 v2 u1 u2) (b : Below W.heap.size W Y) : C4 w Y v1 v2 u1 u2 := by
  have := h.lt
  exact ⟨h.bel.trans (b.mono h.bel.size), (b.block _ (by omega)).trans h.ka, (b.block _ (by omega)).trans h.kb, (b.block _ h.lt).trans h.kr⟩
theorem C4.drewH {w W : World} {v1 v2 u1 u2 : Value} (h : Hid (C4 w W v1 v2 u1 u2)) : Hid (C4 w W.drew v1 v2 u1 u2) := hide ⟨(unhide h).bel.drew, (unhide h).ka, (unhide h).kb, (unhide h).kr⟩
theorem kC4 {w W : World} {v1 v2 u1 u2 : Value} (h : Hid (C4 w W v1 v2 u1 u2)) : Below w.heap.size w W ∧ W.cell? ⟨w.heap.size, 0, none⟩ = some v1 ∧ W.cell? ⟨w.heap.size, 1, none⟩ = some v2 ∧ W.cell? ⟨w.heap.size + 1, 0, none⟩ = some u1 ∧ W.cell? ⟨w.heap.size + 1, 1, none⟩ = some u2 := by
  obtain ⟨h0, h1, -⟩ := blk_cells2 (unhide h).ka
  obtain ⟨h2, h3, -⟩ := blk_cells2 (unhide h).kb
  exact ⟨(unhide h).bel, h0, h1, h2, h3⟩
theorem far2 {W : World} {g k o : Nat} {v v0 v1 : Value} (hg : k ≠ g) (c : W.cell? ⟨k, o, none⟩ = some v) : ((W.setCell ⟨g, 0, none⟩ v0).setCell ⟨g, 1, none⟩ v1).cell? ⟨k, o, none⟩ = some v := by
  have hn : ∀ j, (⟨g, j, none⟩ : Addr) ≠ ⟨k, o, none⟩ := fun j e => hg (congrArg Addr.block e).symm
  rw [World.cell?_setCell_other _ _ _ _ (hn 1), World.cell?_setCell_other _ _ _ _ (hn 0)]
  exact c
theorem kC4s {w W : World} {v1 v2 u1 u2 : Value} (h : Hid (C4 w W v1 v2 u1 u2)) (x y : Value) : Below w.heap.size w ((W.setCell ⟨w.heap.size + 1 + 1, 0, none⟩ x).setCell ⟨w.heap.size + 1 + 1, 1, none⟩ y) ∧ ((W.setCell ⟨w.heap.size + 1 + 1, 0, none⟩ x).setCell ⟨w.heap.size + 1 + 1, 1, none⟩ y).cell? ⟨w.heap.size, 0, none⟩ = some v1 ∧ ((W.setCell ⟨w.heap.size + 1 + 1, 0, none⟩ x).setCell ⟨w.heap.size + 1 + 1, 1, none⟩ y).cell? ⟨w.heap.size, 1, none⟩ = some v2 ∧ ((W.setCell ⟨w.heap.size + 1 + 1, 0, none⟩ x).setCell ⟨w.heap.size + 1 + 1, 1, none⟩ y).cell? ⟨w.heap.size + 1, 0, none⟩ = some u1 ∧ ((W.setCell ⟨w.heap.size + 1 + 1, 0, none⟩ x).setCell ⟨w.heap.size + 1 + 1, 1, none⟩ y).cell? ⟨w.heap.size + 1, 1, none⟩ = some u2 := by
  obtain ⟨hb, h0, h1, h2, h3⟩ := kC4 h
  exact ⟨(hb.setCell (p := ⟨w.heap.size + 1 + 1, 0, none⟩) (by simp; omega) _).setCell (p := ⟨w.heap.size + 1 + 1, 1, none⟩) (by simp; omega) _, far2 (by omega) h0, far2 (by omega) h1, far2 (by omega) h2, far2 (by omega) h3⟩
theorem C4.new (w : World) (v1 v2 u1 u2 : Value) : C4 w (((w.alloc (.cells #[v1, v2] 27)).alloc (.cells #[u1, u2] 27)).alloc (.cells #[.slice none 0 0, .slice none 0 0] 27)) v1 v2 u1 u2 :=
  ⟨(((Below.refl w.heap.size w).alloc (Nat.le_refl _) _).alloc (by simp) _).alloc (by simp; omega) _, lowB3 w _ _ _, midB3 w _ _ _, newB3 w _ _ _⟩

set_option maxHeartbeats 8000000 in
set_option maxRecDepth 100000 in
theorem ilacks_any (ai : Option Addr) (ni ci : Nat) (xs : List Itm) (af : Option Addr) (nf cf : Nat) (fs : List Flr) (bi : Option Addr) (mi di : Nat) (ys : List Itm) (bf : Option Addr) (mf df : Nat) (gs : List Flr) (ok : Bool) (h0 : Hid ((okS xs fs && okS ys gs) = ok)) (n1 n2 : Nat) (hn1 : Hid ((lcI ok xs fs ys).length = n1)) (hn2 : Hid ((lcF ok fs gs).length = n2)) (w : World)
    (hni : ni ≤ 140737488351232) (hnf : nf ≤ 140737488351232) (hmi : mi ≤ 140737488351232) (hmf : mf ≤ 140737488351232) (hx : Rw encI 6 w (.slice ai ni ci) xs) (hf : Rw encF 2 w (.slice af nf cf) fs) (hy : Rw encI 6 w (.slice bi mi di) ys) (hg : Rw encF 2 w (.slice bf mf df) gs) :
    Calls Try.prog 24 #[.agg #[.slice ai ni ci, .slice af nf cf], .agg #[.slice bi mi di, .slice bf mf df]] w fun e w' => ∃ a1 c1 a2 c2, e = .returned (.agg #[.slice a1 n1 c1, .slice a2 n2 c2]) ∧ OwI w.heap.size w' (.slice a1 n1 c1) (lcI ok xs fs ys) ∧ OwF w.heap.size w' (.slice a2 n2 c2) (lcF ok fs gs) ∧ Below w.heap.size w w' := by
  have HX := hide hx
  have HY := hide hy
  have HF := hide hf
  have HG := hide hg
  obtain ⟨okA, hA⟩ : ∃ okA, okS xs fs = okA := ⟨_, rfl⟩
  obtain ⟨okB, hB⟩ : ∃ okB, okS ys gs = okB := ⟨_, rfl⟩
  have hk := unhide h0
  rw [hA, hB] at hk
  have HA := hide hA
  have HB := hide hB
  clear hx hy hf hg hA hB h0
  go_enter Try.func24, Try.ntmps24
  go_wp2_with fail
  refine (istateok_any ai ni ci xs af nf cf fs _ HA _ hni hnf ((unhide HX).later (C4.new w _ _ _ _).bel) ((unhide HF).later (C4.new w _ _ _ _).bel)).mono ?_
  rintro e w1 ⟨rfl, b1⟩
  have CV := hide ((C4.new w (.slice ai ni ci) (.slice af nf cf) (.slice bi mi di) (.slice bf mf df)).later b1)
  have z1 := (unhide CV).lt
  clear b1
  cases okA
  · obtain rfl : ok = false := hk.symm
    clear hk
    obtain rfl := unhide hn1
    obtain rfl := unhide hn2
    obtain ⟨p0, p1, pf⟩ := blk_cells2 (unhide CV).kr
    go_wp2
    exact bodyPost_ret (v := .agg #[.slice none 0 0, .slice none 0 0]) (by simp [results, Try.results24, go_sem, p0, p1]) rfl ⟨none, 0, none, 0, rfl, World.ownsRow_nil _ _ _ _, World.ownsRow_nil _ _ _ _, (kC4s CV _ _).1⟩
  · obtain ⟨r0, r1, -⟩ := blk_cells2 (unhide CV).kb
    have zb : w.heap.size + 1 < w1.heap.size := by omega
    go_wp2_with fail
    refine (istateok_any bi mi di ys bf mf df gs _ HB _ hmi hmf ((unhide HY).later (unhide CV).bel) ((unhide HG).later (unhide CV).bel)).mono ?_
    rintro e w2 ⟨rfl, b2⟩
    have CW := hide ((unhide CV).later b2)
    clear b2 CV r0 r1 z1 zb
    have z2 := (unhide CW).lt
    obtain ⟨p0, p1, pf⟩ := blk_cells2 (unhide CW).kr
    cases okB
    · obtain rfl : ok = false := hk.symm
      clear hk
      obtain rfl := unhide hn1
      obtain rfl := unhide hn2
      go_wp2
      exact bodyPost_ret (v := .agg #[.slice none 0 0, .slice none 0 0]) (by simp [results, Try.results24, go_sem, p0, p1]) rfl ⟨none, 0, none, 0, rfl, World.ownsRow_nil _ _ _ _, World.ownsRow_nil _ _ _ _, (kC4s CW _ _).1⟩
    · obtain rfl : ok = true := hk.symm
      have OA := (okS_iff _ _).1 (unhide HA)
      have OB := (okS_iff _ _).1 (unhide HB)
      have SMX := hide OA.sml
      have SMY := hide OB.sml
      have POS : Hid (∀ (k : Nat) (y : Itm), ys[k]? = some y → 1 ≤ y.2.1) := hide (fun k y hq => (okE_inc (OB.ix y (List.mem_of_getElem? hq)).2.2.1).1)
      have m5 : mi ≤ 5 := by have := (unhide HY).len.1; have := OB.len5.1; omega
      have f5 : mf ≤ 5 := by have := (unhide HG).len.1; have := OB.len5.2; omega
      clear hk OA OB p0 p1 pf HA HB
      have CD := C4.drewH CW
      have za : w.heap.size < w2.heap.size := by omega
      have zb : w.heap.size + 1 < w2.heap.size := by omega
      go_upto_region 3 with fail
      go_region_held3 (fun W => Below w.heap.size w W ∧ W.cell? ⟨w.heap.size, 0, none⟩ = some (.slice ai ni ci) ∧ W.cell? ⟨w.heap.size, 1, none⟩ = some (.slice af nf cf) ∧ W.cell? ⟨w.heap.size + 1, 0, none⟩ = some (.slice bi mi di) ∧ W.cell? ⟨w.heap.size + 1, 1, none⟩ = some (.slice bf mf df))
        (first | (with_reducible exact kC4 CW) | (with_reducible exact kC4 CD) | (with_reducible exact kC4 CA) | (with_reducible exact kC4 CB) | (with_reducible exact kC4s CB _ _))
        (first
          | (go_at_call 51; refine (ilacki_any ai ni ci xs (unhide SMX) af nf cf fs bi mi di ys (unhide SMY) (unhide POS) _ _ hni hnf (by omega) ((unhide HX).later (unhide CD).bel) ((unhide HF).later (unhide CD).bel) ((unhide HY).later (unhide CD).bel)).mono ?_; rintro e w3 ⟨a1, m1, c1, rfl, o1, b3⟩; have CA := hide ((unhide CD).later b3); have OI := hide (o1.base (base' := w.heap.size + 1 + 1 + 1) (unhide CD).lt); clear o1 b3)
          | (go_at_call 52; refine (ilackf_any _ af nf cf fs _ bf mf df gs _ hnf (by omega) ((unhide HF).later (unhide CA).bel) ((unhide HG).later (unhide CA).bel)).mono ?_; rintro e w4 ⟨a2, m2, c2, rfl, o2, b4⟩; have CB := hide ((unhide CA).later b4); have OJ := hide ((unhide OI).later b4); have OF := hide (o2.base (base' := w.heap.size + 1 + 1 + 1) (unhide CA).lt); obtain ⟨p0, p1, pf⟩ := blk_cells2 (unhide CB).kr; have zB := (unhide CB).lt; clear o2 b4))
      all_goals go_wp2
      all_goals
        obtain rfl : m1 = n1 := (((unhide OJ).rw encI_len).len.1).trans (unhide hn1)
        obtain rfl : m2 = n2 := (((unhide OF).rw encF_len).len.1).trans (unhide hn2)
        exact bodyPost_ret (v := .agg #[.slice a1 m1 c1, .slice a2 m2 c2]) (by simp [results, Try.results24, go_sem, p0, p1]) rfl ⟨a1, c1, a2, c2, rfl, Ow.base (((unhide OJ).set ⟨w.heap.size + 1 + 1, 0, none⟩ (by simp) _).set ⟨w.heap.size + 1 + 1, 1, none⟩ (by simp) _) (by omega), Ow.base (((unhide OF).set ⟨w.heap.size + 1 + 1, 0, none⟩ (by simp) _).set ⟨w.heap.size + 1 + 1, 1, none⟩ (by simp) _) (by omega), (kC4s CB _ _).1⟩
end Go.Proofs.Ytdpaocikmijioaa

namespace Go.Proofs.Ytdpaocikmijioaa
open Go.RowKit

theorem newr_ok {xs : List Itm} {id : Int} {x : Key} {a : Bool} (h : entR xs id = (x, a)) (e : Key) : newr e (ent xs id) = (!a || decide (0 < keyC e x)) := by
  rw [entR_ent h]
  cases a <;> rfl
theorem keep6 {w5 W : World} {b0 o0 b1 o1 b2 o2 b3 o3 b4 o4 b5 o5 : Nat} {v0 v1 v2 v3 v4 v5 : Value} (h0 : b0 < w5.heap.size) (h2 : b2 < w5.heap.size) (h4 : b4 < w5.heap.size) (e1 : b1 = b0) (e3 : b3 = b2) (e5 : b5 = b4)
    (c0 : w5.cell? ⟨b0, o0, none⟩ = some v0) (c1 : w5.cell? ⟨b1, o1, none⟩ = some v1) (c2 : w5.cell? ⟨b2, o2, none⟩ = some v2) (c3 : w5.cell? ⟨b3, o3, none⟩ = some v3) (c4 : w5.cell? ⟨b4, o4, none⟩ = some v4) (c5 : w5.cell? ⟨b5, o5, none⟩ = some v5) (hb : Below w5.heap.size w5 W) :
    Below w5.heap.size w5 W ∧ W.cell? ⟨b0, o0, none⟩ = some v0 ∧ W.cell? ⟨b1, o1, none⟩ = some v1 ∧ W.cell? ⟨b2, o2, none⟩ = some v2 ∧ W.cell? ⟨b3, o3, none⟩ = some v3 ∧ W.cell? ⟨b4, o4, none⟩ = some v4 ∧ W.cell? ⟨b5, o5, none⟩ = some v5 := by
  subst e1 e3 e5
  exact ⟨hb, (hb.cell (p := ⟨_, o0, none⟩) h0).trans c0, (hb.cell (p := ⟨_, o1, none⟩) h0).trans c1, (hb.cell (p := ⟨_, o2, none⟩) h2).trans c2, (hb.cell (p := ⟨_, o3, none⟩) h2).trans c3, (hb.cell (p := ⟨_, o4, none⟩) h4).trans c4, (hb.cell (p := ⟨_, o5, none⟩) h4).trans c5⟩
theorem lcI_len (ok : Bool) (xs : List Itm) (fs : List Flr) (ys : List Itm) : (lcI ok xs fs ys).length ≤ ys.length := by
  cases ok
  · simp [lcI]
  · exact lkI_len _ _ _
theorem lcF_len (ok : Bool) (fs gs : List Flr) : (lcF ok fs gs).length ≤ gs.length := by
  cases ok
  · simp [lcF]
  · exact lkF_len _ _
theorem J3.drew {w X : World} {A B : Obj} {a1 : Option Addr} {n1 c1 : Nat} {a2 : Option Addr} {n2 c2 : Nat} {its : List Itm} {fls : List Flr} (h : J3 w X A B a1 n1 c1 a2 n2 c2 its fls) : J3 w X.drew A B a1 n1 c1 a2 n2 c2 its fls := h.later ((Below.refl _ _).drew)
theorem J3.new (w : World) (v1 v2 u1 u2 : Value) : J3 w ((((w.alloc (StB v1 v2)).alloc (StB u1 u2)).alloc (StB (.slice none 0 0) (.slice none 0 0))).alloc (StB (.slice none 0 0) (.slice none 0 0))) (StB v1 v2) (StB u1 u2) none 0 0 none 0 0 [] [] := by
  obtain ⟨m1, m2, m3⟩ := new4 w (StB v1 v2) (StB u1 u2) (StB (.slice none 0 0) (.slice none 0 0)) (StB (.slice none 0 0) (.slice none 0 0))
  exact ⟨(((((Below.refl w.heap.size w).alloc (Nat.le_refl _) _).alloc (by simp) _).alloc (by simp; omega) _).alloc (by simp; omega) _), (Below.heap_alloc _ _ _ (by simp; omega)).trans (lowB3 w _ _ _), m1, m2, m3, World.ownsRow_nil _ _ _ _, World.ownsRow_nil _ _ _ _⟩

set_option maxHeartbeats 16000000 in
set_option maxRecDepth 100000 in
theorem slacks_any (ai : Option Addr) (ni ci : Nat) (xs : List Itm) (af : Option Addr) (nf cf : Nat) (fs : List Flr) (bi : Option Addr) (mi di : Nat) (ys : List Itm) (bf : Option Addr) (mf df : Nat) (gs : List Flr) (ok : Bool) (h0 : Hid ((okS xs fs && okS ys gs) = ok)) (n1 n2 : Nat) (hn1 : Hid ((lcI ok xs fs ys).length = n1)) (hn2 : Hid ((lcF ok fs gs).length = n2)) (w : World)
    (hni : ni ≤ 140737488351232) (hnf : nf ≤ 140737488351232) (hmi : mi ≤ 140737488351232) (hmf : mf ≤ 140737488351232) (hx : Rw encI 6 w (.slice ai ni ci) xs) (hf : Rw encF 2 w (.slice af nf cf) fs) (hy : Rw encI 6 w (.slice bi mi di) ys) (hg : Rw encF 2 w (.slice bf mf df) gs) :
    Calls Try.prog 26 #[.agg #[.slice ai ni ci, .slice af nf cf], .agg #[.slice bi mi di, .slice bf mf df]] w fun e w' => ∃ a1 c1 a2 c2, e = .returned (.agg #[.slice a1 n1 c1, .slice a2 n2 c2]) ∧ OwI w.heap.size w' (.slice a1 n1 c1) (lcI ok xs fs ys) ∧ OwF w.heap.size w' (.slice a2 n2 c2) (lcF ok fs gs) ∧ Below w.heap.size w w' := by
  obtain ⟨i0, hi, hz0, hz1, hz2⟩ := info_parts Try.infoItem
  obtain ⟨i1, gi, gz0, gz1, gz2⟩ := info_parts Try.infoFloor
  have HX := hide hx
  have HY := hide hy
  have HF := hide hf
  have HG := hide hg
  obtain ⟨okA, hA⟩ : ∃ okA, okS xs fs = okA := ⟨_, rfl⟩
  obtain ⟨okB, hB⟩ : ∃ okB, okS ys gs = okB := ⟨_, rfl⟩
  have hk := unhide h0
  rw [hA, hB] at hk
  have HA := hide hA
  have HB := hide hB
  clear hx hy hf hg hA hB h0
  go_enter Try.func26, Try.ntmps26
  go_wp2_with fail
  refine (sstateok_any ai ni ci xs af nf cf fs _ HA _ hni hnf ((unhide HX).later (J3.new w _ _ _ _).bel) ((unhide HF).later (J3.new w _ _ _ _).bel)).mono ?_
  rintro e w1 ⟨rfl, b1⟩
  have CV := hide ((J3.new w (.slice ai ni ci) (.slice af nf cf) (.slice bi mi di) (.slice bf mf df)).later b1)
  have z1 := (unhide CV).sz
  clear b1
  cases okA
  · obtain rfl : ok = false := hk.symm
    clear hk
    obtain rfl := unhide hn1
    obtain rfl := unhide hn2
    obtain ⟨p0, p1, pf⟩ := blk_cells2 (unhide CV).kr
    obtain ⟨o0, o1, -⟩ := blk_cells2 (unhide CV).ko
    go_wp2
    exact bodyPost_ret (v := .agg #[.slice none 0 0, .slice none 0 0]) (by simp [results, Try.results26, go_sem, p0, p1]) rfl ⟨none, 0, none, 0, rfl, World.ownsRow_nil _ _ _ _, World.ownsRow_nil _ _ _ _, ((unhide CV).bel.setCell (p := ⟨w.heap.size + 1 + 1, 0, none⟩) (by simp <;> omega) _).setCell (p := ⟨w.heap.size + 1 + 1, 1, none⟩) (by simp <;> omega) _⟩
  obtain ⟨r0, r1, -⟩ := blk_cells2 (unhide CV).kb
  have zb : w.heap.size + 1 < w1.heap.size := by omega
  go_wp2_with fail
  refine (sstateok_any bi mi di ys bf mf df gs _ HB _ hmi hmf ((unhide HY).later (unhide CV).bel) ((unhide HG).later (unhide CV).bel)).mono ?_
  rintro e w2 ⟨rfl, b2⟩
  have CW := hide ((unhide CV).later b2)
  clear b2 CV r0 r1 z1 zb
  have z2 := (unhide CW).sz
  cases okB
  · obtain rfl : ok = false := hk.symm
    clear hk
    obtain rfl := unhide hn1
    obtain rfl := unhide hn2
    obtain ⟨p0, p1, pf⟩ := blk_cells2 (unhide CW).kr
    obtain ⟨o0, o1, -⟩ := blk_cells2 (unhide CW).ko
    go_wp2
    exact bodyPost_ret (v := .agg #[.slice none 0 0, .slice none 0 0]) (by simp [results, Try.results26, go_sem, p0, p1]) rfl ⟨none, 0, none, 0, rfl, World.ownsRow_nil _ _ _ _, World.ownsRow_nil _ _ _ _, ((unhide CW).bel.setCell (p := ⟨w.heap.size + 1 + 1, 0, none⟩) (by simp <;> omega) _).setCell (p := ⟨w.heap.size + 1 + 1, 1, none⟩) (by simp <;> omega) _⟩
  obtain rfl : ok = true := hk.symm
  have OB := (okS_iff _ _).1 (unhide HB)
  have m5 : mi ≤ 5 := by have := (unhide HY).len.1; have := OB.len5.1; omega
  have f5 : mf ≤ 5 := by have := (unhide HG).len.1; have := OB.len5.2; omega
  clear hk OB HA HB
  go_wp2
  go_loopw [6] (fun i wr => ∃ (k : Nat) (a1 : Option Addr) (n1 c1 : Nat), k ≤ mi ∧ i = .int .i64 k ∧ J3 w wr (StB (.slice ai ni ci) (.slice af nf cf)) (StB (.slice bi mi di) (.slice bf mf df)) a1 n1 c1 none 0 0 (lkI xs fs (ys.take k)) []) (fun i _ => mi - (intOf i).toNat)
  case atStart => exact ⟨0, none, 0, 0, by omega, rfl, unhide CW⟩
  case round =>
    obtain ⟨k, a1, m1, c1, hk, rfl, hJ⟩ := hrel
    have HJ := hide hJ
    have hsz := hJ.sz
    obtain ⟨pb0, pb1, -⟩ := blk_cells2 hJ.kb
    obtain ⟨pa0, pa1, -⟩ := blk_cells2 hJ.ka
    have zb : w.heap.size + 1 < wr.heap.size := by omega
    have za : w.heap.size < wr.heap.size := by omega
    clear hJ CW z2
    by_cases hlt : k < mi
    · obtain ⟨x, b, off, hx, rfl, hb, hcap, hc⟩ := ((unhide HY).later (unhide HJ).bel).at hlt
      obtain ⟨c0, c1', c2', c3, c4, c5⟩ := item_cells hc
      obtain ⟨fa, hfa⟩ : ∃ fa, flo fs x.1 = fa := ⟨_, rfl⟩
      obtain ⟨rA, okE, hrA⟩ : ∃ rA okE, entR xs x.1 = (rA, okE) := ⟨_, _, rfl⟩
      obtain ⟨c, hcb⟩ : ∃ c, cmpE x.2.1 x.2.2.1 x.2.2.2.1 x.2.2.2.2.1 x.2.2.2.2.2 rA.1 rA.2.1 rA.2.2.1 rA.2.2.2.1 rA.2.2.2.2 = c := ⟨_, rfl⟩
      have HLK : Hid (lkI1 xs fs x = ((!okE || decide (0 < c)) && decide (fa < x.2.1))) := hide (by rw [lkI1, newr_ok hrA, ← cmpK_key, hcb, hfa])
      have HX1 := hide hx
      have HFA := hide hfa
      have HRA := hide hrA
      have HCB := hide hcb
      clear hx hfa hrA hcb hc
      go_wp2_with fail
      have bX : Below wr.heap.size wr (wr.alloc (.cells #[.int .i64 x.1, .int .i64 x.2.1, .int .i64 x.2.2.1, .int .i64 x.2.2.2.1, .int .i64 x.2.2.2.2.1, .string x.2.2.2.2.2] 44)) := (Below.refl _ _).alloc (Nat.le_refl _) _
      refine (sentry_any _ ai ni ci xs x.1 rA okE HRA _ hni ((unhide HX).later ((unhide HJ).bel.trans (bX.mono (by omega))))).mono ?_
      rintro e w3 ⟨rfl, b3⟩
      have b3' := bX.trans (b3.mono (by simp))
      have kx := (b3.block wr.heap.size (by simp)).trans (newB1 wr _)
      have J3' := hide ((unhide HJ).later b3')
      have hzx3 : wr.heap.size < w3.heap.size := (Array.getElem?_eq_some_iff.mp kx).1
      have KX3 := hide kx
      clear c0 c1' c2' c3 c4 c5 pa0 pa1 pb0 pb1 bX b3 b3' kx HJ
      go_upto_region 9 with fail
      obtain ⟨V, hV⟩ : ∃ V, V = w3.alloc (.cells #[.int .i64 rA.1, .int .i64 rA.2.1, .int .i64 rA.2.2.1, .int .i64 rA.2.2.2.1, .string rA.2.2.2.2] 36) := ⟨_, rfl⟩
      rw [← hV]
      have bV : Below w3.heap.size w3 V := by rw [hV]; exact (Below.refl _ _).alloc (Nat.le_refl _) _
      have ke : V.heap[w3.heap.size]? = some (.cells #[.int .i64 rA.1, .int .i64 rA.2.1, .int .i64 rA.2.2.1, .int .i64 rA.2.2.2.1, .string rA.2.2.2.2] 36 (0, 0)) := by rw [hV]; exact newB1 w3 _
      have hze : w3.heap.size < V.heap.size := (Array.getElem?_eq_some_iff.mp ke).1
      have hzx : wr.heap.size < V.heap.size := by omega
      have hzV : w.heap.size < V.heap.size := by omega
      have KX := hide ((bV.block _ hzx3).trans (unhide KX3))
      have JV := hide ((unhide J3').later bV)
      obtain ⟨pa0, pa1, -⟩ := blk_cells2 (unhide JV).ka
      obtain ⟨pe0, pe1, pe2, pe3, pe4, -⟩ := ent_cells ke
      obtain ⟨px0, px1, px2, px3, px4, px5, -⟩ := blk_cells6 (unhide KX)
      have la0 := later_some (w := V) hzV pa0
      have la1 := later_some (w := V) hzV pa1
      have le0 := later_some (w := V) hze pe0
      have le1 := later_some (w := V) hze pe1
      have le2 := later_some (w := V) hze pe2
      have le3 := later_some (w := V) hze pe3
      have le4 := later_some (w := V) hze pe4
      have lx0 := later_some (w := V) hzx px0
      have lx1 := later_some (w := V) hzx px1
      have lx2 := later_some (w := V) hzx px2
      have lx3 := later_some (w := V) hzx px3
      have lx4 := later_some (w := V) hzx px4
      have lx5 := later_some (w := V) hzx px5
      have RF := hide ((unhide HF).later (unhide JV).bel)
      clear pa0 pa1 pe0 pe1 pe2 pe3 pe4 px0 px1 px2 px3 px4 px5 ke bV hV KX3 J3'
      cases okE
      · replace HLK := hide (show lkI1 xs fs x = decide (fa < x.2.1) from unhide HLK)
        refine wp_region_later (by kernel_rfl) (by kernel_rfl) ?_
        repeat (go_big_quiet_step (first
          | (go_at_call 47; exact Calls.later_of (sfloor_v _ af nf cf fs _ fa HFA _ hnf ((unhide RF).in_later _ _)))))
        refine wpQuiet_nil ?_
        intro w4 hb4
        have J4 := hide ((unhide JV).later hb4)
        obtain ⟨px0, px1, px2, px3, px4, px5, -⟩ := blk_cells6 ((hb4.block _ hzx).trans (unhide KX))
        have hzx4 : wr.heap.size < w4.heap.size := Nat.lt_of_lt_of_le hzx hb4.size
        clear hb4 la0 la1 le0 le1 le2 le3 le4 lx0 lx1 lx2 lx3 lx4 lx5 RF JV KX HCB HFA
        have hsz4 := (unhide J4).sz
        generalize hpos : decide (fa < x.2.1) = q at HLK ⊢
        cases q
        · have HP := hide (lkI_neg (unhide HX1) (unhide HLK))
          clear px0 px1 px2 px3 px4 px5 hpos
          go_wp2
          go_roundw
          case rel => exact ⟨k + 1, a1, m1, c1, by omega, by go_num, by rw [unhide HP]; exact unhide J4⟩
          case measure => simp [intOf]; omega
        · have HP := hide (lkI_pos (unhide HX1) (unhide HLK))
          have hm1 : Hid (m1 = (lkI xs fs (ys.take k)).length) := hide ((unhide J4).oi.rw encI_len).len.1
          have hm1l : m1 ≤ k := by have := unhide hm1; have := lkI_k (xs := xs) (fs := fs) (ys := ys) (k := k); omega
          obtain ⟨po0, po1, pof⟩ := blk_cells2 (unhide J4).ko
          clear hpos
          go_wp2_with (first | (at_builtin; refine wpList_app1 encI_len (by omega) oneI 44 24 i0 _ 56 Try.underlying24 hi hz0 hz1 hz2 rfl (by omega) w4 x rfl _ _ rfl (w.heap.size + 4) _ (lkI xs fs (ys.take k)) m1 hm1 rfl (unhide J4).oi rfl (by omega) hsz4 ?_; intro a1' c1' w6 hO hG; have po0' := (hG.block _ (by omega) (fun q => by have := World.ownsRow.lt (unhide J4).oi _ q.symm; omega)).trans (unhide J4).ko; obtain ⟨pq0, pq1, pqf⟩ := blk_cells2 po0'; have HJ6 := hide ((unhide J4).appI hO hG); clear hO hG po0' po0 po1 pof))
          go_roundw
          case rel => exact ⟨k + 1, a1', m1 + 1, c1', by omega, by go_num, by rw [unhide HP]; exact unhide HJ6⟩
          case measure => simp [intOf]; omega
      · rcases Bool.eq_false_or_eq_true (decide (0 < c)) with hd | hd
        · replace HLK := hide (show lkI1 xs fs x = decide (fa < x.2.1) from by rw [unhide HLK, hd]; rfl)
          refine wp_region_later (by kernel_rfl) (by kernel_rfl) ?_
          repeat (go_big_quiet_step (first
            | (go_at_call 54; exact Calls.later_of (scmpK_any _ _ c HCB _))
            | (go_at_call 47; exact Calls.later_of (sfloor_v _ af nf cf fs _ fa HFA _ hnf ((unhide RF).in_later _ _)))))
          refine wpQuiet_nil ?_
          intro w4 hb4
          have J4 := hide ((unhide JV).later hb4)
          obtain ⟨px0, px1, px2, px3, px4, px5, -⟩ := blk_cells6 ((hb4.block _ hzx).trans (unhide KX))
          have hzx4 : wr.heap.size < w4.heap.size := Nat.lt_of_lt_of_le hzx hb4.size
          clear hb4 la0 la1 le0 le1 le2 le3 le4 lx0 lx1 lx2 lx3 lx4 lx5 RF JV KX HCB HFA
          have hsz4 := (unhide J4).sz
          generalize hpos : decide (fa < x.2.1) = q at HLK ⊢
          cases q
          · have HP := hide (lkI_neg (unhide HX1) (unhide HLK))
            clear px0 px1 px2 px3 px4 px5 hpos
            go_wp2
            go_roundw
            case rel => exact ⟨k + 1, a1, m1, c1, by omega, by go_num, by rw [unhide HP]; exact unhide J4⟩
            case measure => simp [intOf]; omega
          · have HP := hide (lkI_pos (unhide HX1) (unhide HLK))
            have hm1 : Hid (m1 = (lkI xs fs (ys.take k)).length) := hide ((unhide J4).oi.rw encI_len).len.1
            have hm1l : m1 ≤ k := by have := unhide hm1; have := lkI_k (xs := xs) (fs := fs) (ys := ys) (k := k); omega
            obtain ⟨po0, po1, pof⟩ := blk_cells2 (unhide J4).ko
            clear hpos
            go_wp2_with (first | (at_builtin; refine wpList_app1 encI_len (by omega) oneI 44 24 i0 _ 56 Try.underlying24 hi hz0 hz1 hz2 rfl (by omega) w4 x rfl _ _ rfl (w.heap.size + 4) _ (lkI xs fs (ys.take k)) m1 hm1 rfl (unhide J4).oi rfl (by omega) hsz4 ?_; intro a1' c1' w6 hO hG; have po0' := (hG.block _ (by omega) (fun q => by have := World.ownsRow.lt (unhide J4).oi _ q.symm; omega)).trans (unhide J4).ko; obtain ⟨pq0, pq1, pqf⟩ := blk_cells2 po0'; have HJ6 := hide ((unhide J4).appI hO hG); clear hO hG po0' po0 po1 pof))
            go_roundw
            case rel => exact ⟨k + 1, a1', m1 + 1, c1', by omega, by go_num, by rw [unhide HP]; exact unhide HJ6⟩
            case measure => simp [intOf]; omega
        · have HP := hide (lkI_neg (unhide HX1) (by rw [unhide HLK, hd]; rfl))
          refine wp_region_later (by kernel_rfl) (by kernel_rfl) ?_
          repeat (go_big_quiet_step (first
            | (go_at_call 54; exact Calls.later_of (scmpK_any _ _ c HCB _))))
          refine wpQuiet_nil ?_
          intro w4 hb4
          have J4 := hide ((unhide JV).later hb4)
          clear hb4 la0 la1 le0 le1 le2 le3 le4 lx0 lx1 lx2 lx3 lx4 lx5 RF JV KX hd
          go_wp2
          go_roundw
          case rel => exact ⟨k + 1, a1, m1, c1, by omega, by go_num, by rw [unhide HP]; exact unhide J4⟩
          case measure => simp [intOf]; omega
    · replace HJ := hide (show J3 w wr (StB (.slice ai ni ci) (.slice af nf cf)) (StB (.slice bi mi di) (.slice bf mf df)) a1 m1 c1 none 0 0 (lkI xs fs ys) [] from by have h := unhide HJ; rwa [List.take_of_length_le (by have := (unhide HY).len.1; omega)] at h)
      obtain rfl : m1 = n1 := (((unhide HJ).oi.rw encI_len).len.1).trans (unhide hn1)
      clear pa0 pa1
      go_wp2
      go_loopw [10] (fun i wr => ∃ (k : Nat) (a2 : Option Addr) (n2 c2 : Nat), k ≤ mf ∧ i = .int .i64 k ∧ J3 w wr (StB (.slice ai ni ci) (.slice af nf cf)) (StB (.slice bi mi di) (.slice bf mf df)) a1 m1 c1 a2 n2 c2 (lkI xs fs ys) (lkF fs (gs.take k))) (fun i _ => mf - (intOf i).toNat)
      case atStart => exact ⟨0, none, 0, 0, by omega, rfl, unhide HJ⟩
      case round =>
        clear HJ pb0 pb1 zb za hsz
        rename_i wo _
        obtain ⟨j, a2, m2, c2, hj, rfl, hJ⟩ := hrel
        have HJ := hide hJ
        have hsz := hJ.sz
        obtain ⟨pb0, pb1, -⟩ := blk_cells2 hJ.kb
        obtain ⟨pa0, pa1, -⟩ := blk_cells2 hJ.ka
        have zb : w.heap.size + 1 < wr.heap.size := by omega
        have za : w.heap.size < wr.heap.size := by omega
        clear hJ
        by_cases hlt : j < mf
        · obtain ⟨x, b, off, hx, rfl, hb, hcap, hc⟩ := ((unhide HG).later (unhide HJ).bel).at hlt
          have c0 : wr.cell? ⟨b, off + j * 2, none⟩ = some (.int .i64 x.1) := hc 0 (by omega)
          have c1' : wr.cell? ⟨b, off + j * 2 + 1, none⟩ = some (.int .i64 x.2) := hc 1 (by omega)
          obtain ⟨fa, hfa⟩ : ∃ fa, flo fs x.1 = fa := ⟨_, rfl⟩
          have HX1 := hide hx
          have HFA := hide hfa
          clear hx hfa hc
          go_upto_region 14 with fail
          have la0 := later_some (w := wr) za pa0
          have la1 := later_some (w := wr) za pa1
          have lb0 := later_some (w := wr) zb pb0
          have lb1 := later_some (w := wr) zb pb1
          have lc0 := later_some (w := wr) hb c0
          have lc1 := later_some (w := wr) hb c1'
          have RF := hide ((unhide HF).later (unhide HJ).bel)
          have C0 := hide c0; have C1 := hide c1'
          clear pa0 pa1 pb0 pb1 c0 c1'
          refine wp_region_later (by kernel_rfl) (by kernel_rfl) ?_
          repeat (go_big_quiet_step (first
            | (go_at_call 47; exact Calls.later_of (sfloor_v _ af nf cf fs _ fa HFA _ hnf ((unhide RF).in_later _ _)))))
          refine wpQuiet_nil ?_
          intro w4 hb4
          have J4 := hide ((unhide HJ).later hb4)
          have hb' : b < w4.heap.size := Nat.lt_of_lt_of_le hb hb4.size
          have d0 : w4.cell? ⟨b, off + j * 2, none⟩ = some (.int .i64 x.1) := (hb4.cell (p := ⟨b, off + j * 2, none⟩) hb).trans (unhide C0)
          have d1 : w4.cell? ⟨b, off + j * 2 + 1, none⟩ = some (.int .i64 x.2) := (hb4.cell (p := ⟨b, off + j * 2 + 1, none⟩) hb).trans (unhide C1)
          clear hb4 la0 la1 lb0 lb1 lc0 lc1 RF C0 C1 HJ hsz zb za
          have hsz := (unhide J4).sz
          generalize hpos : decide (fa < x.2) = q
          cases q
          · have HP := hide (lkF_neg (fs := fs) (unhide HX1) (by rw [lkF1, unhide HFA]; exact hpos))
            clear d0 d1 hpos
            go_wp2
            go_roundw
            case rel => exact ⟨j + 1, a2, m2, c2, by omega, by go_num, by rw [unhide HP]; exact unhide J4⟩
            case measure => simp [intOf]; omega
          · have HP := hide (lkF_pos (fs := fs) (unhide HX1) (by rw [lkF1, unhide HFA]; exact hpos))
            clear hpos HFA
            have JD := hide (unhide J4).drew
            have hm2 : Hid (m2 = (lkF fs (gs.take j)).length) := hide ((unhide J4).of.rw encF_len).len.1
            have hm2l : m2 ≤ j := by have := unhide hm2; have := lkF_k (fs := fs) (gs := gs) (k := j); omega
            obtain ⟨pb0, pb1, -⟩ := blk_cells2 (unhide J4).kb
            obtain ⟨po0, po1, pof⟩ := blk_cells2 (unhide J4).ko
            have zb : w.heap.size + 1 < w4.heap.size := by omega
            have zo : w.heap.size + 1 + 1 + 1 < w4.heap.size := by omega
            go_upto_region 15 with fail
            go_region_law (first
              | (refine step_app1 encF_len (by omega) oneF 56 25 i1 _ 16 Try.underlying25 gi gz0 gz1 gz2 rfl (by omega) w4.drew x rfl _ _ rfl (w.heap.size + 4) _ (lkF fs (gs.take j)) m2 hm2 rfl (unhide JD).of rfl (by omega) (unhide JD).sz ?_; intro a2' c2' w6 hO hG; have po0' := (hG.block _ zo (fun q => by have := World.ownsRow.lt (unhide JD).of _ q.symm; omega)).trans (unhide JD).ko; obtain ⟨pq0, pq1, pqf⟩ := blk_cells2 po0'; have J6 := hide ((unhide JD).appF hO hG); clear hO hG po0'))
            all_goals clear po0 po1 pof d0 d1 pb0 pb1
            all_goals
              go_wp2
              go_roundw
              case rel => exact ⟨j + 1, a2', m2 + 1, c2', by omega, by go_num, by rw [unhide HP]; exact unhide J6⟩
              case measure => simp [intOf]; omega
        · replace HJ := hide (show J3 w wr (StB (.slice ai ni ci) (.slice af nf cf)) (StB (.slice bi mi di) (.slice bf mf df)) a1 m1 c1 a2 m2 c2 (lkI xs fs ys) (lkF fs gs) from by have h := unhide HJ; rwa [List.take_of_length_le (by have := (unhide HG).len.1; omega)] at h)
          obtain rfl : m2 = n2 := (((unhide HJ).of.rw encF_len).len.1).trans (unhide hn2)
          obtain ⟨pr0, pr1, prf⟩ := blk_cells2 (unhide HJ).kr
          obtain ⟨po0, po1, -⟩ := blk_cells2 (unhide HJ).ko
          clear pa0 pa1
          go_wp2
          exact bodyPost_ret (v := .agg #[.slice a1 m1 c1, .slice a2 m2 c2]) (by simp [results, Try.results26, go_sem, pr0, pr1]) rfl ⟨a1, c1, a2, c2, rfl, Ow.base (((unhide HJ).oi.set ⟨w.heap.size + 1 + 1, 0, none⟩ (by simp <;> omega) _).set ⟨w.heap.size + 1 + 1, 1, none⟩ (by simp <;> omega) _) (by omega), Ow.base (((unhide HJ).of.set ⟨w.heap.size + 1 + 1, 0, none⟩ (by simp <;> omega) _).set ⟨w.heap.size + 1 + 1, 1, none⟩ (by simp <;> omega) _) (by omega), ((unhide HJ).bel.setCell (p := ⟨w.heap.size + 1 + 1, 0, none⟩) (by simp <;> omega) _).setCell (p := ⟨w.heap.size + 1 + 1, 1, none⟩) (by simp <;> omega) _⟩
end Go.Proofs.Ytdpaocikmijioaa
