/-
  The laws' 'heldState': what is marked is held. No statement is proved here.
-/
import Derived.Test.YtbajnnpihjmjmabStM
namespace Go.Proofs.Ytbajnnpihjmjmab
open Go.RowKit

set_option maxHeartbeats 4000000 in
set_option maxRecDepth 100000 in
theorem heldI_any (a : Option Addr) (n cap : Nat) (k : Int) (h1 : 0 ≤ k) (h2 : k ≤ 100000000) (w : World) (hn : n ≤ 2000000) (hx : Rw encI 6 w (.slice a n cap) (mkIs k n)) :
    Calls Try.prog 30 #[.slice a n cap, .int .i64 k] w fun e w' => e = .returned (.int .i64 (k + 6 * n)) ∧ Below w.heap.size w w' := by
  have HX := hide hx
  clear hx
  go_enter Try.func30, Try.ntmps30
  go_wp2
  go_loopw [1, 5] (fun q i wr => ∃ j : Nat, j ≤ n ∧ i = .int .i64 j ∧ q = .int .i64 (k + 6 * j) ∧ Below w.heap.size w wr) (fun _ i _ => n - (intOf i).toNat)
  case atStart => exact ⟨0, Nat.zero_le _, rfl, by simp, Below.refl _ _⟩
  case round =>
    obtain ⟨j, hj, rfl, rfl, hbel⟩ := hrel
    have HB := hide hbel
    have hsz := hbel.size
    by_cases hlt : j < n
    · obtain ⟨x, b, off, hx, rfl, hb, hcap, hc⟩ := (unhide HX).at hlt
      obtain rfl : x = mkI (k + 6 * (j : Int)) := by rw [mkIs_at k n j hlt] at hx; exact (Option.some.inj hx).symm
      obtain ⟨c0, c1, c2, c3, c4, c5⟩ := item_cells (w := wr) (b := b) (off := off) (k := j) (x := mkI (k + 6 * (j : Int))) (fun i hi => (hbel.cell (p := ⟨b, off + j * 6 + i, none⟩) hb).trans (hc i hi))
      simp only [mkI] at c0 c1 c2 c3 c4 c5
      have hj0 : (0 : Int) ≤ (j : Int) := by omega
      have hbw : b < wr.heap.size := by omega
      have l5 := later_some (w := wr) hbw c5
      generalize hz : mtx (k + 6 * (j : Int) + 1 + 1 + 1 + 1 + 1) = z at c5 l5
      have hzz : (z.toList == z.toList) = true := by simp
      have HT := hide (fun wx => hz ▸ marktext_v (k + 6 * (j : Int) + 1 + 1 + 1 + 1 + 1) (by omega) (by omega) wx)
      have e0 : (k + 6 * (j : Int) != k + 6 * (j : Int)) = false := by simp
      have e1 : (k + 6 * (j : Int) + 1 != k + 6 * (j : Int) + 1) = false := by simp
      have e2 : (k + 6 * (j : Int) + 1 + 1 != k + 6 * (j : Int) + 1 + 1) = false := by simp
      have e3 : (k + 6 * (j : Int) + 1 + 1 + 1 != k + 6 * (j : Int) + 1 + 1 + 1) = false := by simp
      have e4 : (k + 6 * (j : Int) + 1 + 1 + 1 + 1 != k + 6 * (j : Int) + 1 + 1 + 1 + 1) = false := by simp
      clear hc hx hbel hz
      go_wp2_with fail
      refine wp_region_later (by kernel_rfl) (by kernel_rfl) ?_
      repeat (first | go_big_quiet_step (first | (go_at_call 67; exact Calls.later_of (unhide HT _))) | quiet_step (first | (go_at_call 67; exact Calls.later_of (unhide HT _))))
      refine wpQuiet_nil ?_
      intro w1 hb1
      have HB1 := hide ((unhide HB).trans (hb1.mono hsz))
      clear hb1 HB
      go_wp2
      go_roundw
      case rel => exact ⟨j + 1, by omega, by go_num, by go_num, unhide HB1⟩
      case measure => simp [intOf]; omega
    · have e : j = n := by omega
      subst e
      clear hbel
      go_wp2
      go_ret
      exact ⟨rfl, unhide HB⟩
set_option maxHeartbeats 4000000 in
set_option maxRecDepth 100000 in
theorem heldF_any (a : Option Addr) (n cap : Nat) (k : Int) (h1 : 0 ≤ k) (h2 : k ≤ 100000000) (w : World) (hn : n ≤ 2000000) (hx : Rw encF 2 w (.slice a n cap) (mkFs k n)) :
    Calls Try.prog 31 #[.slice a n cap, .int .i64 k] w fun e w' => e = .returned (.int .i64 (k + 2 * n)) ∧ Below w.heap.size w w' := by
  have HX := hide hx
  clear hx
  go_enter Try.func31, Try.ntmps31
  go_wp2
  go_loop [1, 5] (fun q i => ∃ j : Nat, j ≤ n ∧ i = .int .i64 j ∧ q = .int .i64 (k + 2 * j)) (fun _ i => n - (intOf i).toNat)
  case atStart => exact ⟨0, Nat.zero_le _, rfl, by simp⟩
  case round =>
    obtain ⟨j, hj, rfl, rfl⟩ := hrel
    by_cases hlt : j < n
    · obtain ⟨x, b, off, hx, rfl, hb, hcap, hc⟩ := (unhide HX).at hlt
      obtain rfl : x = mkF (k + 2 * (j : Int)) := by rw [mkFs_at k n j hlt] at hx; exact (Option.some.inj hx).symm
      have c0 : w.cell? ⟨b, off + j * 2, none⟩ = some (.int .i64 (k + 2 * (j : Int))) := hc 0 (by omega)
      have c1 : w.cell? ⟨b, off + j * 2 + 1, none⟩ = some (.int .i64 (k + 2 * (j : Int) + 1)) := hc 1 (by omega)
      have hj0 : (0 : Int) ≤ (j : Int) := by omega
      have e0 : (k + 2 * (j : Int) != k + 2 * (j : Int)) = false := by simp
      have e1 : (k + 2 * (j : Int) + 1 != k + 2 * (j : Int) + 1) = false := by simp
      clear hc hx
      go_wp2
      go_round
      case rel => exact ⟨j + 1, by omega, by go_num, by go_num⟩
      case measure => simp [intOf]; omega
    · have e : j = n := by omega
      subst e
      go_wp2
      go_ret
      exact ⟨rfl, Below.refl _ _⟩

set_option maxHeartbeats 1000000 in
theorem heldS_any (ai : Option Addr) (ni ci : Nat) (af : Option Addr) (nf cf : Nat) (k : Int) (h1 : 0 ≤ k) (h2 : k ≤ 50000000) (w : World) (hni : ni ≤ 2000000) (hnf : nf ≤ 2000000) (hx : Rw encI 6 w (.slice ai ni ci) (mkIs k ni)) (hf : Rw encF 2 w (.slice af nf cf) (mkFs (k + 6 * ni) nf)) :
    Calls Try.prog 12 #[.agg #[.slice ai ni ci, .slice af nf cf], .int .i64 k] w fun e w' => e = .returned (.int .i64 (k + 6 * ni + 2 * nf)) ∧ Below w.heap.size w w' := by
  have HX := hide hx
  have HF := hide hf
  clear hx hf
  go_enter Try.func12, Try.ntmps12
  go_wp2_with fail
  refine (heldI_any ai ni ci k h1 (by omega) _ hni ((unhide HX).alloc _)).mono ?_
  rintro e w1 ⟨rfl, b1⟩
  obtain ⟨p0, p1, -⟩ := blk_cells2 ((b1.block w.heap.size (by simp)).trans (heap_alloc_new w _))
  have HB := hide (((Below.refl w.heap.size w).alloc (Nat.le_refl _) _).trans (b1.mono (by simp)))
  have hd : decide (k + 6 * (ni : Int) < 0) = false := by simp; omega
  clear b1
  go_wp2_with fail
  refine (heldF_any af nf cf (k + 6 * ni) (by omega) (by omega) _ hnf ((unhide HF).later (unhide HB))).mono ?_
  rintro e w2 ⟨rfl, b2⟩
  have HB2 := hide ((unhide HB).trans (b2.mono (unhide HB).size))
  have hd2 : decide (k + 6 * (ni : Int) + 2 * (nf : Int) < 0) = false := by simp; omega
  clear b2
  go_wp2
  go_ret
  exact ⟨rfl, unhide HB2⟩
end Go.Proofs.Ytbajnnpihjmjmab
