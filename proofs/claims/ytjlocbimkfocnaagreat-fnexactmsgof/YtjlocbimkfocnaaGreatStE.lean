/-
  The laws' 'eqState' says yes to two that read the same. No statement is proved here.
-/
import Derived.Test.YtjlocbimkfocnaaGreatStA
import Derived.Test.YtjlocbimkfocnaaGreatApp2
namespace Go.Proofs.YtjlocbimkfocnaaGreat
open Go.RowKit

set_option maxHeartbeats 1000000 in
theorem eqitem_same (x : Itm) (w : World) :
    Calls Tryz.prog 124 #[.agg #[.int .i64 x.1, .int .i64 x.2.1, .int .i64 x.2.2.1, .int .i64 x.2.2.2.1, .int .i64 x.2.2.2.2.1, .string x.2.2.2.2.2], .agg #[.int .i64 x.1, .int .i64 x.2.1, .int .i64 x.2.2.1, .int .i64 x.2.2.2.1, .int .i64 x.2.2.2.2.1, .string x.2.2.2.2.2]] w fun e w' => e = .returned (.bool true) ∧ Below w.heap.size w w' := by
  have d0 : (x.1 != x.1) = false := by simp
  go_enter Tryz.func124, Tryz.ntmps124
  go_wp2_with fail
  refine (eqentry_same x.2.1 x.2.2.1 x.2.2.2.1 x.2.2.2.2.1 x.2.2.2.2.2 _).mono ?_
  rintro e w1 ⟨rfl, b1⟩
  have HB := hide ((((Below.refl w.heap.size w).alloc (Nat.le_refl _) _).alloc (by simp) _).trans (b1.mono (by simp; omega)))
  clear b1
  go_wp2
  go_ret
  exact ⟨rfl, unhide HB⟩
set_option maxHeartbeats 1000000 in
theorem eqfloor_same (x : Flr) (w : World) :
    Calls Tryz.prog 125 #[.agg #[.int .i64 x.1, .int .i64 x.2], .agg #[.int .i64 x.1, .int .i64 x.2]] w fun e w' => e = .returned (.bool true) ∧ Below w.heap.size w w' := by
  have d0 : (x.1 != x.1) = false := by simp
  have d1 : (x.2 != x.2) = false := by simp
  go_enter Tryz.func125, Tryz.ntmps125
  go_wp2
  go_ret
  exact ⟨rfl, ((Below.refl w.heap.size w).alloc (Nat.le_refl _) _).alloc (by simp) _⟩
set_option maxHeartbeats 2000000 in
theorem eqitems_same (a : Option Addr) (n cap : Nat) (a2 : Option Addr) (cap2 : Nat) (xs : List Itm) (w : World) (hn : n ≤ 140737488351232) (hx : Rw encI 6 w (.slice a n cap) xs) (hy : Rw encI 6 w (.slice a2 n cap2) xs) :
    Calls Tryz.prog 100 #[.slice a n cap, .slice a2 n cap2] w fun e w' => e = .returned (.bool true) ∧ Below w.heap.size w w' := by
  have d0 : ((n : Int) != (n : Int)) = false := by simp
  have HX := hide hx
  have HY := hide hy
  clear hx hy
  go_enter Tryz.func100, Tryz.ntmps100
  go_wp2
  go_loopw [5] (fun i wr => ∃ k : Nat, k ≤ n ∧ i = .int .i64 k ∧ Below w.heap.size w wr) (fun i _ => n - (intOf i).toNat)
  case atStart => exact ⟨0, Nat.zero_le _, rfl, Below.refl _ _⟩
  case round =>
    obtain ⟨k, hk, rfl, hbel⟩ := hrel
    have HB := hide hbel
    have hsz := hbel.size
    by_cases hlt : k < n
    · obtain ⟨x, b, off, hx, rfl, hb, hcap, hc⟩ := (unhide HX).at hlt
      obtain ⟨y, b2, off2, hy, rfl, hb2, hcap2, hc2⟩ := (unhide HY).at hlt
      obtain rfl : x = y := by rw [hx] at hy; exact Option.some.inj hy
      have l0 := later_some (w := wr) (b := b) (o := off + k * 6) (v := .int .i64 x.1) (by omega) ((hbel.cell (p := ⟨b, off + k * 6, none⟩) hb).trans (hc 0 (by omega)))
      have l1 := later_some (w := wr) (b := b) (o := off + k * 6 + 1) (v := .int .i64 x.2.1) (by omega) ((hbel.cell (p := ⟨b, off + k * 6 + 1, none⟩) hb).trans (hc 1 (by omega)))
      have l2 := later_some (w := wr) (b := b) (o := off + k * 6 + 2) (v := .int .i64 x.2.2.1) (by omega) ((hbel.cell (p := ⟨b, off + k * 6 + 2, none⟩) hb).trans (hc 2 (by omega)))
      have l3 := later_some (w := wr) (b := b) (o := off + k * 6 + 3) (v := .int .i64 x.2.2.2.1) (by omega) ((hbel.cell (p := ⟨b, off + k * 6 + 3, none⟩) hb).trans (hc 3 (by omega)))
      have l4 := later_some (w := wr) (b := b) (o := off + k * 6 + 4) (v := .int .i64 x.2.2.2.2.1) (by omega) ((hbel.cell (p := ⟨b, off + k * 6 + 4, none⟩) hb).trans (hc 4 (by omega)))
      have l5 := later_some (w := wr) (b := b) (o := off + k * 6 + 5) (v := .string x.2.2.2.2.2) (by omega) ((hbel.cell (p := ⟨b, off + k * 6 + 5, none⟩) hb).trans (hc 5 (by omega)))
      have m0 := later_some (w := wr) (b := b2) (o := off2 + k * 6) (v := .int .i64 x.1) (by omega) ((hbel.cell (p := ⟨b2, off2 + k * 6, none⟩) hb2).trans (hc2 0 (by omega)))
      have m1 := later_some (w := wr) (b := b2) (o := off2 + k * 6 + 1) (v := .int .i64 x.2.1) (by omega) ((hbel.cell (p := ⟨b2, off2 + k * 6 + 1, none⟩) hb2).trans (hc2 1 (by omega)))
      have m2 := later_some (w := wr) (b := b2) (o := off2 + k * 6 + 2) (v := .int .i64 x.2.2.1) (by omega) ((hbel.cell (p := ⟨b2, off2 + k * 6 + 2, none⟩) hb2).trans (hc2 2 (by omega)))
      have m3 := later_some (w := wr) (b := b2) (o := off2 + k * 6 + 3) (v := .int .i64 x.2.2.2.1) (by omega) ((hbel.cell (p := ⟨b2, off2 + k * 6 + 3, none⟩) hb2).trans (hc2 3 (by omega)))
      have m4 := later_some (w := wr) (b := b2) (o := off2 + k * 6 + 4) (v := .int .i64 x.2.2.2.2.1) (by omega) ((hbel.cell (p := ⟨b2, off2 + k * 6 + 4, none⟩) hb2).trans (hc2 4 (by omega)))
      have m5 := later_some (w := wr) (b := b2) (o := off2 + k * 6 + 5) (v := .string x.2.2.2.2.2) (by omega) ((hbel.cell (p := ⟨b2, off2 + k * 6 + 5, none⟩) hb2).trans (hc2 5 (by omega)))
      clear hc hc2 hx hy hbel
      go_wp2_with fail
      refine wp_region_later (by kernel_rfl) (by kernel_rfl) ?_
      repeat (go_big_quiet_step (first | (go_at_call 124; exact Calls.later_of (eqitem_same x _))))
      refine wpQuiet_nil ?_
      intro w1 hb1
      have HB1 := hide ((unhide HB).trans (hb1.mono hsz))
      clear hb1 HB
      go_wp2
      go_roundw
      case rel => exact ⟨k + 1, by omega, by go_num, unhide HB1⟩
      case measure => simp [intOf]; omega
    · clear hbel
      go_wp2
      go_ret
      exact ⟨rfl, unhide HB⟩
set_option maxHeartbeats 2000000 in
theorem eqfloors_same (a : Option Addr) (n cap : Nat) (a2 : Option Addr) (cap2 : Nat) (xs : List Flr) (w : World) (hn : n ≤ 140737488351232) (hx : Rw encF 2 w (.slice a n cap) xs) (hy : Rw encF 2 w (.slice a2 n cap2) xs) :
    Calls Tryz.prog 101 #[.slice a n cap, .slice a2 n cap2] w fun e w' => e = .returned (.bool true) ∧ Below w.heap.size w w' := by
  have d0 : ((n : Int) != (n : Int)) = false := by simp
  have HX := hide hx
  have HY := hide hy
  clear hx hy
  go_enter Tryz.func101, Tryz.ntmps101
  go_wp2
  go_loopw [5] (fun i wr => ∃ k : Nat, k ≤ n ∧ i = .int .i64 k ∧ Below w.heap.size w wr) (fun i _ => n - (intOf i).toNat)
  case atStart => exact ⟨0, Nat.zero_le _, rfl, Below.refl _ _⟩
  case round =>
    obtain ⟨k, hk, rfl, hbel⟩ := hrel
    have HB := hide hbel
    have hsz := hbel.size
    by_cases hlt : k < n
    · obtain ⟨x, b, off, hx, rfl, hb, hcap, hc⟩ := (unhide HX).at hlt
      obtain ⟨y, b2, off2, hy, rfl, hb2, hcap2, hc2⟩ := (unhide HY).at hlt
      obtain rfl : x = y := by rw [hx] at hy; exact Option.some.inj hy
      have l0 := later_some (w := wr) (b := b) (o := off + k * 2) (v := .int .i64 x.1) (by omega) ((hbel.cell (p := ⟨b, off + k * 2, none⟩) hb).trans (hc 0 (by omega)))
      have l1 := later_some (w := wr) (b := b) (o := off + k * 2 + 1) (v := .int .i64 x.2) (by omega) ((hbel.cell (p := ⟨b, off + k * 2 + 1, none⟩) hb).trans (hc 1 (by omega)))
      have m0 := later_some (w := wr) (b := b2) (o := off2 + k * 2) (v := .int .i64 x.1) (by omega) ((hbel.cell (p := ⟨b2, off2 + k * 2, none⟩) hb2).trans (hc2 0 (by omega)))
      have m1 := later_some (w := wr) (b := b2) (o := off2 + k * 2 + 1) (v := .int .i64 x.2) (by omega) ((hbel.cell (p := ⟨b2, off2 + k * 2 + 1, none⟩) hb2).trans (hc2 1 (by omega)))
      clear hc hc2 hx hy hbel
      go_wp2_with fail
      refine wp_region_later (by kernel_rfl) (by kernel_rfl) ?_
      repeat (go_big_quiet_step (first | (go_at_call 125; exact Calls.later_of (eqfloor_same x _))))
      refine wpQuiet_nil ?_
      intro w1 hb1
      have HB1 := hide ((unhide HB).trans (hb1.mono hsz))
      clear hb1 HB
      go_wp2
      go_roundw
      case rel => exact ⟨k + 1, by omega, by go_num, unhide HB1⟩
      case measure => simp [intOf]; omega
    · clear hbel
      go_wp2
      go_ret
      exact ⟨rfl, unhide HB⟩
set_option maxHeartbeats 2000000 in
theorem eqstate_same (ai : Option Addr) (ni ci : Nat) (bi : Option Addr) (di : Nat) (xs : List Itm) (af : Option Addr) (nf cf : Nat) (bf : Option Addr) (df : Nat) (fs : List Flr) (w : World) (hni : ni ≤ 140737488351232) (hnf : nf ≤ 140737488351232)
    (hx : Rw encI 6 w (.slice ai ni ci) xs) (hy : Rw encI 6 w (.slice bi ni di) xs) (hf : Rw encF 2 w (.slice af nf cf) fs) (hg : Rw encF 2 w (.slice bf nf df) fs) :
    Calls Tryz.prog 60 #[.agg #[.slice ai ni ci, .slice af nf cf], .agg #[.slice bi ni di, .slice bf nf df]] w fun e w' => e = .returned (.bool true) ∧ Below w.heap.size w w' := by
  have HX := hide hx
  have HY := hide hy
  have HF := hide hf
  have HG := hide hg
  clear hx hy hf hg
  go_enter Tryz.func60, Tryz.ntmps60
  go_wp2_with fail
  refine (eqitems_same ai ni ci bi di xs _ hni (((unhide HX).alloc _).alloc _) (((unhide HY).alloc _).alloc _)).mono ?_
  rintro e w1 ⟨rfl, b1⟩
  obtain ⟨p0, p1, p2⟩ := blk_cells2 ((b1.block w.heap.size (by simp; omega)).trans (lowB2 w _ _))
  obtain ⟨q0, q1, q2⟩ := blk_cells2 ((b1.block (w.heap.size + 1) (by simp)).trans (newB2 w _ _))
  have HB := hide ((((Below.refl w.heap.size w).alloc (Nat.le_refl _) _).alloc (by simp) _).trans (b1.mono (by simp; omega)))
  have hz1 : w.heap.size + 1 < w1.heap.size := by have := b1.size; simp at this; omega
  clear b1
  go_wp2_with fail
  refine (eqfloors_same af nf cf bf df fs _ hnf ((unhide HF).later (unhide HB)) ((unhide HG).later (unhide HB))).mono ?_
  rintro e w2 ⟨rfl, b2⟩
  have HB2 := hide ((unhide HB).trans (b2.mono (by omega)))
  clear b2
  go_wp2
  go_ret
  exact ⟨rfl, unhide HB2⟩
end Go.Proofs.YtjlocbimkfocnaaGreat
