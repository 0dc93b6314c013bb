/-
  What the laws do with a list of marks: its size is taken off, it is turned into the program's own, two are compared, it is marked and held; such a list as an argument. No statement is proved here.
-/
import Derived.Test.YtjlocbimkfocnaaGreatStA
import Derived.Test.YtjlocbimkfocnaaGreatTreL
import Derived.BigQuiet
import Derived.Deep.QuietTactic
import Derived.Deep.RegionWith
namespace Go.Proofs.YtjlocbimkfocnaaGreat
open Go.ChangeShapes Go.WideShapes Go.ChangeAt Go.RowKit

abbrev OwM (base : Nat) (w : World) (v : Value) (fs : List Flr) : Prop := Ow encF 2 80 base w v fs
theorem Tryz.infoMark : (Tryz.prog.info? 80).map (fun i => (i.zero, i.size, i.bytes)) = some (some (.agg #[.int .i64 0, .int .i64 0]), 2, 16) := by kernel_rfl
def zeroM : Flr := (0, 0)

set_option maxHeartbeats 1000000 in
theorem eqmark_same (x : Flr) (w : World) :
    Calls Tryz.prog 102 #[.agg #[.int .i64 x.1, .int .i64 x.2], .agg #[.int .i64 x.1, .int .i64 x.2]] w fun e w' => e = .returned (.bool true) ∧ Below w.heap.size w w' := by
  have d0 : (x.1 != x.1) = false := by simp
  have d1 : (x.2 != x.2) = false := by simp
  go_enter Tryz.func102, Tryz.ntmps102
  go_wp2
  go_ret
  exact ⟨rfl, ((Below.refl w.heap.size w).alloc (Nat.le_refl _) _).alloc (by simp) _⟩

set_option maxHeartbeats 2000000 in
theorem eqmarks_same (a : Option Addr) (n cap : Nat) (a2 : Option Addr) (cap2 : Nat) (xs : List Flr) (w : World) (hn : n ≤ 140737488351232) (hx : Rw encF 2 w (.slice a n cap) xs) (hy : Rw encF 2 w (.slice a2 n cap2) xs) :
    Calls Tryz.prog 61 #[.slice a n cap, .slice a2 n cap2] w fun e w' => e = .returned (.bool true) ∧ Below w.heap.size w w' := by
  have d0 : ((n : Int) != (n : Int)) = false := by simp
  have HX := hide hx
  have HY := hide hy
  clear hx hy
  go_enter Tryz.func61, Tryz.ntmps61
  go_wp2
  go_loopw [5] (fun i wr => ∃ k : Nat, k ≤ n ∧ i = .int .i64 k ∧ Below w.heap.size w wr) (fun i _ => n - (intOf i).toNat)
  case atStart => exact ⟨0, Nat.zero_le _, rfl, Below.refl _ _⟩
  case round =>
    obtain ⟨k, hk, rfl, hbel⟩ := hrel
    have HB := hide hbel
    have hsz := hbel.size
    by_cases hlt : k < n
    · obtain ⟨x, b, off, hx, rfl, hb, hcap, hc⟩ := (unhide HX).at hlt
      obtain ⟨y, b2, off2, hy, rfl, hb2, hcap2, hc2⟩ := (unhide HY).at hlt
      obtain rfl : x = y := by rw [hx] at hy; exact Option.some.inj hy
      have l0 := later_some (w := wr) (b := b) (o := off + k * 2) (v := .int .i64 x.1) (by omega) ((hbel.cell (p := ⟨b, off + k * 2, none⟩) hb).trans (hc 0 (by omega)))
      have l1 := later_some (w := wr) (b := b) (o := off + k * 2 + 1) (v := .int .i64 x.2) (by omega) ((hbel.cell (p := ⟨b, off + k * 2 + 1, none⟩) hb).trans (hc 1 (by omega)))
      have m0 := later_some (w := wr) (b := b2) (o := off2 + k * 2) (v := .int .i64 x.1) (by omega) ((hbel.cell (p := ⟨b2, off2 + k * 2, none⟩) hb2).trans (hc2 0 (by omega)))
      have m1 := later_some (w := wr) (b := b2) (o := off2 + k * 2 + 1) (v := .int .i64 x.2) (by omega) ((hbel.cell (p := ⟨b2, off2 + k * 2 + 1, none⟩) hb2).trans (hc2 1 (by omega)))
      clear hc hc2 hx hy hbel
      go_wp2_with fail
      refine wp_region_later (by kernel_rfl) (by kernel_rfl) ?_
      repeat (go_big_quiet_step (first | (go_at_call 102; exact Calls.later_of (eqmark_same x _))))
      refine wpQuiet_nil ?_
      intro w1 hb1
      have HB1 := hide ((unhide HB).trans (hb1.mono hsz))
      clear hb1 HB
      go_wp2
      go_roundw
      case rel => exact ⟨k + 1, by omega, by go_num, unhide HB1⟩
      case measure => simp [intOf]; omega
    · clear hbel
      go_wp2
      go_ret
      exact ⟨rfl, unhide HB⟩
set_option maxHeartbeats 4000000 in
set_option maxRecDepth 100000 in
theorem markM_any (base : Nat) (a : Option Addr) (n cap : Nat) (xs : List Flr) (k : Int) (h1 : 0 ≤ k) (h2 : k ≤ 100000000) (w : World) (hn : n ≤ 2000000) (hx : OwM base w (.slice a n cap) xs) :
    Calls Tryz.prog 65 #[.slice a n cap, .int .i64 k] w fun e w' => e = .returned (.int .i64 (k + 2 * n)) ∧ OwM base w' (.slice a n cap) (mkFs k n) ∧ w.grownBy w' (Value.slice a n cap).ownBlock := by
  have hlen := (hx.rw encF_len).len.1
  rcases hx.2 with ⟨hv, h0⟩ | ⟨g, cap', cur, hv, hb, hg, hnc, hcm, hcs, htake⟩
  · simp only [Value.slice.injEq] at hv
    obtain ⟨rfl, rfl, rfl⟩ := hv
    obtain rfl : xs = [] := List.eq_nil_of_length_eq_zero h0
    have HX := hide hx
    clear hx hlen h0
    go_enter Tryz.func65, Tryz.ntmps65
    go_wp2
    go_loop [1, 5] (fun q i => i = .int .i64 0 ∧ q = .int .i64 k) (fun _ i => 0)
    case atStart => exact ⟨rfl, rfl⟩
    case round =>
      obtain ⟨rfl, rfl⟩ := hrel
      go_wp2
      go_ret
      exact ⟨ret_int (by simp), unhide HX, grown_refl _ _⟩
  · simp only [Value.slice.injEq] at hv
    obtain ⟨rfl, -, rfl⟩ := hv
    clear hb hg hnc hcm hcs htake
    have HX := hide hx
    have HL := hide hlen
    clear hx hlen
    go_enter Tryz.func65, Tryz.ntmps65
    go_wp2
    go_loopw [1, 5] (fun q i wr => ∃ j : Nat, j ≤ n ∧ i = .int .i64 j ∧ q = .int .i64 (k + 2 * j) ∧ OwM base wr (.slice (some ⟨g, 0, none⟩) n cap) ((mkFs k n).take j ++ xs.drop j) ∧ w.grownBy wr (some g)) (fun _ i _ => n - (intOf i).toNat)
    case atStart => exact ⟨0, Nat.zero_le _, rfl, by simp, by simpa using unhide HX, grown_refl _ _⟩
    case round =>
      obtain ⟨j, hj, rfl, rfl, hown, hgr⟩ := hrel
      by_cases hlt : j < n
      · have hfl := part_len (mkFs k n) xs n j (mkFs_len k n) (unhide HL).symm (by omega)
        obtain ⟨y0, y1, z0, z1, zf⟩ := own_cells2 (show wr.ownsRow base 80 2 (.slice (some ⟨g, 0, none⟩) n cap) n _ from by have h := hown; unfold OwM Ow at h; rw [hfl] at h; exact h) hlt
        have HO := hide hown
        have HG := hide hgr
        have HFL := hide hfl
        have hj0 : (0 : Int) ≤ (j : Int) := by omega
        clear hown hgr hfl
        have R1 := (unhide HO).put (by omega) encF_len (unhide HFL).symm j hlt (mkF (k + 2 * (j : Int)))
        rw [part_set (mkFs k n) xs n j _ (mkFs_len k n) (unhide HL).symm hlt (mkFs_at k n j hlt)] at R1
        have R2 := (setW_own (encF (mkF (k + 2 * (j : Int)))) (show wr.ownsRow base 80 2 (.slice (some ⟨g, 0, none⟩) n cap) n _ from by have h := unhide HO; unfold OwM Ow at h; rw [unhide HFL] at h; exact h) (j * 2)).2
        have HR1 := hide R1
        have HR2 := hide (grown_trans2 (unhide HG) R2)
        clear R1 R2 HO HG HFL
        go_wp2
        go_roundw
        case rel => exact ⟨j + 1, by omega, by go_num, by go_num, unhide HR1, unhide HR2⟩
        case measure => simp [intOf]; omega
      · have HE : Hid (OwM base wr (.slice (some ⟨g, 0, none⟩) n cap) (mkFs k n)) := by
          have e : j = n := by omega
          subst e
          have h := hown
          rw [List.take_of_length_le (by rw [mkFs_len]; omega), List.drop_of_length_le (by have := unhide HL; omega), List.append_nil] at h
          exact hide h
        have HG := hide hgr
        have e : j = n := by omega
        clear hown hgr
        subst e
        go_wp2
        go_ret
        exact ⟨rfl, unhide HE, unhide HG⟩
set_option maxHeartbeats 4000000 in
set_option maxRecDepth 100000 in
theorem heldM_any (a : Option Addr) (n cap : Nat) (k : Int) (h1 : 0 ≤ k) (h2 : k ≤ 100000000) (w : World) (hn : n ≤ 2000000) (hx : Rw encF 2 w (.slice a n cap) (mkFs k n)) :
    Calls Tryz.prog 69 #[.slice a n cap, .int .i64 k] w fun e w' => e = .returned (.int .i64 (k + 2 * n)) ∧ Below w.heap.size w w' := by
  have HX := hide hx
  clear hx
  go_enter Tryz.func69, Tryz.ntmps69
  go_wp2
  go_loop [1, 5] (fun q i => ∃ j : Nat, j ≤ n ∧ i = .int .i64 j ∧ q = .int .i64 (k + 2 * j)) (fun _ i => n - (intOf i).toNat)
  case atStart => exact ⟨0, Nat.zero_le _, rfl, by simp⟩
  case round =>
    obtain ⟨j, hj, rfl, rfl⟩ := hrel
    by_cases hlt : j < n
    · obtain ⟨x, b, off, hx, rfl, hb, hcap, hc⟩ := (unhide HX).at hlt
      obtain rfl : x = mkF (k + 2 * (j : Int)) := by rw [mkFs_at k n j hlt] at hx; exact (Option.some.inj hx).symm
      have c0 : w.cell? ⟨b, off + j * 2, none⟩ = some (.int .i64 (k + 2 * (j : Int))) := hc 0 (by omega)
      have c1 : w.cell? ⟨b, off + j * 2 + 1, none⟩ = some (.int .i64 (k + 2 * (j : Int) + 1)) := hc 1 (by omega)
      have hj0 : (0 : Int) ≤ (j : Int) := by omega
      have e0 : (k + 2 * (j : Int) != k + 2 * (j : Int)) = false := by simp
      have e1 : (k + 2 * (j : Int) + 1 != k + 2 * (j : Int) + 1) = false := by simp
      clear hc hx
      go_wp2
      go_round
      case rel => exact ⟨j + 1, by omega, by go_num, by go_num⟩
      case measure => simp [intOf]; omega
    · have e : j = n := by omega
      subst e
      go_wp2
      go_ret
      exact ⟨rfl, Below.refl _ _⟩
end Go.Proofs.YtjlocbimkfocnaaGreat
