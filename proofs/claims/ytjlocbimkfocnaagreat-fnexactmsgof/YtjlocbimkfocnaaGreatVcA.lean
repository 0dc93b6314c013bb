/-
  The specification's word for the greater of two numbers. No statement is proved here.
  Small helpers of chapter 8: the greater of two numbers, what stands at a place, whether numbers are right. No statement is proved here.
-/
import Derived.Test.YtjlocbimkfocnaaGreatBase
import Derived.Test.YtjlocbimkfocnaaGreatGrM
import Derived.BigQuiet
import Derived.Deep.QuietTactic
namespace Go.Proofs.YtjlocbimkfocnaaGreat
open Go.RowKit

theorem l1max_any (a b m : Int) (h : Hid (max a b = m)) (w : World) : Calls Tryz.prog 141 #[.int .i64 a, .int .i64 b] w fun e w' => e = .returned (.int .i64 m) ∧ w = w' := by
  by_cases hl : b < a
  · have hd : decide (b < a) = true := by simpa using hl
    obtain rfl : m = a := by rw [← unhide h]; omega
    clear h hl
    go_enter Tryz.func141, Tryz.ntmps141
    go_wp2
    go_ret
    exact ⟨rfl, rfl⟩
  · have hd : decide (b < a) = false := by simpa using hl
    obtain rfl : m = b := by rw [← unhide h]; omega
    clear h hl
    go_enter Tryz.func141, Tryz.ntmps141
    go_wp2
    go_ret
    exact ⟨rfl, rfl⟩
end Go.Proofs.YtjlocbimkfocnaaGreat

namespace Go.Proofs.YtjlocbimkfocnaaGreat
open Go.RowKit

set_option maxHeartbeats 1000000 in
theorem numbersok_any (a : Option Addr) (n c : Nat) (ns : List Int) (r : Bool) (hr : Hid (okN ns = r)) (w : World) (hn : n ≤ 140737488351232) (h : RwN w (.slice a n c) ns) :
    Calls Tryz.prog 53 #[.slice a n c] w fun e w' => e = .returned (.bool r) ∧ w = w' := by
  have HR := hide h
  have HN := hide h.len.1
  clear h
  go_enter Tryz.func53, Tryz.ntmps53
  go_wp2
  go_loop [7] (fun i => ∃ k : Nat, k ≤ n ∧ i = .int .i64 k ∧ okNK ns k = true) (fun i => n - (intOf i).toNat)
  case atStart => exact ⟨0, Nat.zero_le _, rfl, rfl⟩
  case round =>
    obtain ⟨k, hk, rfl, hok⟩ := hrel
    have HO := hide hok
    clear hok
    by_cases hlt : k < n
    · obtain ⟨z, b, off, hz, rfl, hb, hc, cz⟩ := (unhide HR).atN hlt
      have HZ := hide hz
      clear hz
      obtain ⟨q, hq⟩ : ∃ q, Hid (inB z 0 100000 = q) := ⟨_, hide rfl⟩
      go_wp2_with fail
      refine (within_is z 0 100000 q (unhide hq) _).mono ?_
      rintro e _ ⟨rfl, rfl⟩
      cases q
      · obtain rfl : r = false := by rw [← unhide hr]; exact okN_no (unhide HZ) (unhide hq)
        go_wp2
        go_ret
        exact ⟨rfl, rfl⟩
      · have HS := hide (show okNK ns (k + 1) = true by rw [okNK_succ (unhide HZ), unhide HO, unhide hq]; rfl)
        go_wp2
        go_round
        case rel => exact ⟨k + 1, by omega, by go_num, unhide HS⟩
        case measure => simp [intOf]; omega
    · obtain rfl : r = true := by rw [← unhide hr, ← okNK_all (k := k) (by have := unhide HN; omega)]; exact unhide HO
      go_wp2
      go_ret
      exact ⟨rfl, rfl⟩
end Go.Proofs.YtjlocbimkfocnaaGreat
