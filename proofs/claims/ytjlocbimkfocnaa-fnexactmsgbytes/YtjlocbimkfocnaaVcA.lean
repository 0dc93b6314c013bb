/-
  Small helpers of chapter 8: the greater of two numbers, what stands at a place, whether numbers are right. No statement is proved here.
-/
import Derived.Test.YtjlocbimkfocnaaVcP
import Derived.Test.YtjlocbimkfocnaaMax
import Derived.BigQuiet
import Derived.Deep.QuietTactic
namespace Go.Proofs.Ytjlocbimkfocnaa
open Go.RowKit

set_option maxHeartbeats 1000000 in
theorem numbersok_any (a : Option Addr) (n c : Nat) (ns : List Int) (r : Bool) (hr : Hid (okN ns = r)) (w : World) (hn : n ≤ 140737488351232) (h : RwN w (.slice a n c) ns) :
    Calls Try.prog 92 #[.slice a n c] w fun e w' => e = .returned (.bool r) ∧ w = w' := by
  have HR := hide h
  have HN := hide h.len.1
  clear h
  go_enter Try.func92, Try.ntmps92
  go_wp2
  go_loop [7] (fun i => ∃ k : Nat, k ≤ n ∧ i = .int .i64 k ∧ okNK ns k = true) (fun i => n - (intOf i).toNat)
  case atStart => exact ⟨0, Nat.zero_le _, rfl, rfl⟩
  case round =>
    obtain ⟨k, hk, rfl, hok⟩ := hrel
    have HO := hide hok
    clear hok
    by_cases hlt : k < n
    · obtain ⟨z, b, off, hz, rfl, hb, hc, cz⟩ := (unhide HR).atN hlt
      have HZ := hide hz
      clear hz
      obtain ⟨q, hq⟩ : ∃ q, Hid (inB z 0 100000 = q) := ⟨_, hide rfl⟩
      go_wp2_with fail
      refine (within_is z 0 100000 q (unhide hq) _).mono ?_
      rintro e _ ⟨rfl, rfl⟩
      cases q
      · obtain rfl : r = false := by rw [← unhide hr]; exact okN_no (unhide HZ) (unhide hq)
        go_wp2
        go_ret
        exact ⟨rfl, rfl⟩
      · have HS := hide (show okNK ns (k + 1) = true by rw [okNK_succ (unhide HZ), unhide HO, unhide hq]; rfl)
        go_wp2
        go_round
        case rel => exact ⟨k + 1, by omega, by go_num, unhide HS⟩
        case measure => simp [intOf]; omega
    · obtain rfl : r = true := by rw [← unhide hr, ← okNK_all (k := k) (by have := unhide HN; omega)]; exact unhide HO
      go_wp2
      go_ret
      exact ⟨rfl, rfl⟩
end Go.Proofs.Ytjlocbimkfocnaa
