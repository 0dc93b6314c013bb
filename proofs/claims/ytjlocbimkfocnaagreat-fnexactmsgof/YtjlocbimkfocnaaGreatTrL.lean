/-
  A node's leaf, the program's and the specification's; whether a number stands in a list. No statement is proved here.
-/
import Derived.Test.YtjlocbimkfocnaaGreatMsZ
import Derived.Test.YtjlocbimkfocnaaGreatNm
import Derived.Test.YtjlocbimkfocnaaGreatIPutText
import Derived.Test.YtjlocbimkfocnaaGreatSPutText
import Derived.Test.YtjlocbimkfocnaaGreatSCrc
import Derived.Test.YtjlocbimkfocnaaGreatSStOk
import Derived.Test.YtjlocbimkfocnaaGreatIStOk
namespace Go.Proofs.YtjlocbimkfocnaaGreat
open Go.RowKit

theorem has_yes {ns : List Int} {k : Nat} {z x : Int} (h : ns[k]? = some z) (e : (z == x) = true) : hasN ns x = true := by
  rw [hasN_iff]
  have : z = x := by simpa using e
  subst this
  exact List.mem_of_getElem? h
theorem has_no {ns : List Int} {n : Nat} {x : Int} (hn : n = ns.length) (h : ∀ (j : Nat) (z : Int), j < n → ns[j]? = some z → (z == x) = false) : hasN ns x = false := by
  rw [hasN, List.any_eq_false]
  intro z hz
  obtain ⟨j, hj, e⟩ := List.mem_iff_getElem.1 hz
  have := h j z (by omega) (by rw [List.getElem?_eq_getElem hj, e])
  simpa using this

set_option maxHeartbeats 1000000 in
theorem sleaf_any (id l : Int) (hl : Hid (lf id = l)) (w : World) :
    Calls Tryz.prog 133 #[.int .i64 id] w fun e w' => e = .returned (.int .i64 l) ∧ Below w.heap.size w w' := by
  obtain ⟨k, HK⟩ : ∃ k, Hid (inB id 0 4 = k) := ⟨_, hide rfl⟩
  go_enter Tryz.func133, Tryz.ntmps133
  go_wp2_with fail
  refine (l3node_any id k HK _).mono ?_
  rintro e _ ⟨rfl, rfl⟩
  cases k
  · obtain rfl : l = -1 := by rw [← unhide hl, lf_out (unhide HK)]
    go_wp2
    go_ret
    exact ⟨rfl, Below.refl _ _⟩
  · have hlf := (lf_in (unhide HK)).1
    obtain ⟨i1, i2⟩ := inB_iff.1 (unhide HK)
    go_wp2_with fail
    refine (sputnum_any id _ (by omega) (by omega)).mono ?_
    rintro e w1 ⟨v1, rfl, o1, b1⟩
    have S1 := hide (seg_of_owns o1)
    have B1 := hide b1
    clear o1 b1
    go_wp2_with fail
    refine (scrc_any v1 (putN id) _ (by have := putN_length id; omega) (unhide S1)).mono ?_
    rintro e _ ⟨rfl, rfl⟩
    have c0 := crcOf_nonneg _ (putN_bytes id)
    have c1 := crcOf_range _ (putN_bytes id)
    have HL := hide ((hlf.symm.trans (unhide hl)))
    clear hlf hl S1
    generalize crcOf (putN id) = c at c0 c1 HL ⊢
    go_wp2
    go_ret
    exact ⟨ret_int (unhide HL), unhide B1⟩
set_option maxHeartbeats 1000000 in
theorem l1has_any (a : Option Addr) (n c : Nat) (ns : List Int) (x : Int) (r : Bool) (hr : Hid (hasN ns x = r)) (w : World) (hn : n ≤ 140737488351232) (h : RwN w (.slice a n c) ns) :
    Calls Tryz.prog 132 #[.slice a n c, .int .i64 x] w fun e w' => e = .returned (.bool r) ∧ w = w' := by
  have HR := hide h
  have HN := hide h.len.1
  clear h
  go_enter Tryz.func132, Tryz.ntmps132
  go_wp2
  go_loop [5] (fun i => ∃ k : Nat, k ≤ n ∧ i = .int .i64 k ∧ ∀ (j : Nat) (z : Int), j < k → ns[j]? = some z → (z == x) = false) (fun i => n - (intOf i).toNat)
  case atStart => exact ⟨0, Nat.zero_le _, rfl, fun j z h => by omega⟩
  case round =>
    obtain ⟨k, hk, rfl, hno⟩ := hrel
    have HO := hide hno
    clear hno
    by_cases hlt : k < n
    · obtain ⟨z, b, off, hz, rfl, hb, hc, cz⟩ := (unhide HR).atN hlt
      have HZ := hide hz
      clear hz
      rcases Bool.eq_false_or_eq_true (z == x) with he | he
      · obtain rfl : r = true := by rw [← unhide hr]; exact has_yes (unhide HZ) he
        go_wp2
        go_ret
        exact ⟨rfl, rfl⟩
      · go_wp2
        go_round
        case rel => exact ⟨k + 1, by omega, by go_num, step_no (unhide HZ) he (unhide HO)⟩
        case measure => simp [intOf]; omega
    · obtain rfl : r = false := by rw [← unhide hr]; exact has_no (unhide HN) (fun j z hj hz => unhide HO j z (by omega) hz)
      go_wp2
      go_ret
      exact ⟨rfl, rfl⟩
end Go.Proofs.YtjlocbimkfocnaaGreat
