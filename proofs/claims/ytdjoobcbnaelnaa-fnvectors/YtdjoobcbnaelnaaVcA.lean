/-
  Small helpers of chapter 8: the greater of two numbers, what stands at a place, whether numbers are right. No statement is proved here.
-/
import Derived.Test.YtdjoobcbnaelnaaVcP
import Derived.BigQuiet
import Derived.Deep.QuietTactic
namespace Go.Proofs.Ytdjoobcbnaelnaa
open Go.RowKit

theorem greater_any (a b m : Int) (h : Hid (max a b = m)) (w : World) : Calls Try.prog 24 #[.int .i64 a, .int .i64 b] w fun e w' => e = .returned (.int .i64 m) ∧ w = w' := by
  by_cases hl : a < b
  · have hd : decide (a < b) = true := by simpa using hl
    obtain rfl : m = b := by rw [← unhide h]; omega
    clear h hl
    go_enter Try.func24, Try.ntmps24
    go_wp2
    go_ret
    exact ⟨rfl, rfl⟩
  · have hd : decide (a < b) = false := by simpa using hl
    obtain rfl : m = a := by rw [← unhide h]; omega
    clear h hl
    go_enter Try.func24, Try.ntmps24
    go_wp2
    go_ret
    exact ⟨rfl, rfl⟩
theorem l1max_any (a b m : Int) (h : Hid (max a b = m)) (w : World) : Calls Try.prog 26 #[.int .i64 a, .int .i64 b] w fun e w' => e = .returned (.int .i64 m) ∧ w = w' := by
  by_cases hl : b < a
  · have hd : decide (b < a) = true := by simpa using hl
    obtain rfl : m = a := by rw [← unhide h]; omega
    clear h hl
    go_enter Try.func26, Try.ntmps26
    go_wp2
    go_ret
    exact ⟨rfl, rfl⟩
  · have hd : decide (b < a) = false := by simpa using hl
    obtain rfl : m = b := by rw [← unhide h]; omega
    clear h hl
    go_enter Try.func26, Try.ntmps26
    go_wp2
    go_ret
    exact ⟨rfl, rfl⟩
theorem hasplace_any (a : Option Addr) (n c : Nat) (at0 : Int) (b : Bool) (hb : inB at0 0 ((n : Int) - 1) = b) (w : World) (hn : n ≤ 140737488351232) :
    Calls Try.prog 32 #[.slice a n c, .int .i64 at0] w fun e w' => e = .returned (.bool b) ∧ w = w' := by
  have HB := hide hb
  clear hb
  go_enter Try.func32, Try.ntmps32
  go_wp2_with fail
  refine (within_is at0 0 ((n : Int) - 1) b (unhide HB) _).mono ?_
  rintro e _ ⟨rfl, rfl⟩
  go_wp2
  go_ret
  exact ⟨rfl, rfl⟩
theorem inumberat_any (a : Option Addr) (n c : Nat) (ns : List Int) (k : Nat) (z : Int) (hz : Hid (nAt ns k = z)) (w : World) (hn : n ≤ 140737488351232) (h : RwN w (.slice a n c) ns) :
    Calls Try.prog 25 #[.slice a n c, .int .i64 k] w fun e w' => e = .returned (.int .i64 z) ∧ w = w' := by
  have HN := hide h.len.1
  by_cases hk : k < n
  · obtain ⟨y, b, off, hy, rfl, hb, hc, cz⟩ := h.atN hk
    obtain rfl : y = z := by rw [← unhide hz, nAt_in hy]
    clear hz hy h
    go_enter Try.func25, Try.ntmps25
    go_wp2_with fail
    refine (hasplace_any _ n c k true (by simp [inB]; omega) _ hn).mono ?_
    rintro e _ ⟨rfl, rfl⟩
    go_wp2
    go_ret
    exact ⟨rfl, rfl⟩
  · obtain rfl : z = 0 := by rw [← unhide hz, nAt_out (by have := unhide HN; omega)]
    clear hz h
    go_enter Try.func25, Try.ntmps25
    go_wp2_with fail
    refine (hasplace_any a n c k false (by simp [inB]; omega) _ hn).mono ?_
    rintro e _ ⟨rfl, rfl⟩
    go_wp2
    go_ret
    exact ⟨rfl, rfl⟩
theorem l8at_any (a : Option Addr) (n c : Nat) (ns : List Int) (k : Nat) (z : Int) (hz : Hid (nAt ns k = z)) (w : World) (h : RwN w (.slice a n c) ns) :
    Calls Try.prog 27 #[.slice a n c, .int .i64 k] w fun e w' => e = .returned (.int .i64 z) ∧ w = w' := by
  have HN := hide h.len.1
  by_cases hk : k < n
  · obtain ⟨y, b, off, hy, rfl, hb, hc, cz⟩ := h.atN hk
    obtain rfl : y = z := by rw [← unhide hz, nAt_in hy]
    have hd : decide ((k : Int) < (n : Int)) = true := by simp; omega
    clear hz hy h
    go_enter Try.func27, Try.ntmps27
    go_wp2
    go_ret
    exact ⟨rfl, rfl⟩
  · obtain rfl : z = 0 := by rw [← unhide hz, nAt_out (by have := unhide HN; omega)]
    have hd : decide ((k : Int) < (n : Int)) = false := by simp; omega
    clear hz h
    go_enter Try.func27, Try.ntmps27
    go_wp2
    go_ret
    exact ⟨rfl, rfl⟩
set_option maxHeartbeats 1000000 in
theorem numbersok_any (a : Option Addr) (n c : Nat) (ns : List Int) (r : Bool) (hr : Hid (okN ns = r)) (w : World) (hn : n ≤ 140737488351232) (h : RwN w (.slice a n c) ns) :
    Calls Try.prog 35 #[.slice a n c] w fun e w' => e = .returned (.bool r) ∧ w = w' := by
  have HR := hide h
  have HN := hide h.len.1
  clear h
  go_enter Try.func35, Try.ntmps35
  go_wp2
  go_loop [7] (fun i => ∃ k : Nat, k ≤ n ∧ i = .int .i64 k ∧ okNK ns k = true) (fun i => n - (intOf i).toNat)
  case atStart => exact ⟨0, Nat.zero_le _, rfl, rfl⟩
  case round =>
    obtain ⟨k, hk, rfl, hok⟩ := hrel
    have HO := hide hok
    clear hok
    by_cases hlt : k < n
    · obtain ⟨z, b, off, hz, rfl, hb, hc, cz⟩ := (unhide HR).atN hlt
      have HZ := hide hz
      clear hz
      obtain ⟨q, hq⟩ : ∃ q, Hid (inB z 0 100000 = q) := ⟨_, hide rfl⟩
      go_wp2_with fail
      refine (within_is z 0 100000 q (unhide hq) _).mono ?_
      rintro e _ ⟨rfl, rfl⟩
      cases q
      · obtain rfl : r = false := by rw [← unhide hr]; exact okN_no (unhide HZ) (unhide hq)
        go_wp2
        go_ret
        exact ⟨rfl, rfl⟩
      · have HS := hide (show okNK ns (k + 1) = true by rw [okNK_succ (unhide HZ), unhide HO, unhide hq]; rfl)
        go_wp2
        go_round
        case rel => exact ⟨k + 1, by omega, by go_num, unhide HS⟩
        case measure => simp [intOf]; omega
    · obtain rfl : r = true := by rw [← unhide hr, ← okNK_all (k := k) (by have := unhide HN; omega)]; exact unhide HO
      go_wp2
      go_ret
      exact ⟨rfl, rfl⟩
end Go.Proofs.Ytdjoobcbnaelnaa
