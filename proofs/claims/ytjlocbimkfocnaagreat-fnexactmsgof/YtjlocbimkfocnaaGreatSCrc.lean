/-
  The program's check sum returns the list function 'crcOf' of the bytes that it is handed, and turns nothing. No statement is proved here.
  The specification's check sum returns the list function 'crcOf' of the bytes that it is handed, and turns nothing. No statement is proved here.
-/
import Derived.Test.YtjlocbimkfocnaaGreatBase
namespace Go.Proofs.YtjlocbimkfocnaaGreat
open Go.RowKit

set_option maxHeartbeats 1000000 in
theorem icrc_any (v : Value) (xs : List Int) (w : World) (hlen : xs.length ≤ 281474976710656) (hv : Seg w v xs) :
    Calls Tryz.prog 77 #[v] w fun e w' => e = .returned (.int .i64 (crcOf xs)) ∧ w = w' := by
  obtain ⟨a, cap, rfl, hcap, h⟩ := hv
  rcases h with rfl | ⟨b, off, rfl, _, hc⟩
  · go_enter Tryz.func77, Tryz.ntmps77
    go_wp2
    go_loop [3, 9] (fun s i => i = .int .i64 0 ∧ s = .int .i64 4294967295) (fun _ i => 0)
    case atStart => exact ⟨rfl, rfl⟩
    case round =>
      obtain ⟨rfl, rfl⟩ := hrel
      go_wp2
      go_ret
      exact ⟨rfl, rfl⟩
  · have HC := hide hc
    clear hc
    go_enter Tryz.func77, Tryz.ntmps77
    go_wp2
    go_loop [3, 9] (fun s i => ∃ k : Nat, k ≤ xs.length ∧ i = .int .i64 k ∧ s = .int .i64 (crcRun (xs.take k))) (fun _ i => xs.length - (intOf i).toNat)
    case atStart => exact ⟨0, Nat.zero_le _, rfl, rfl⟩
    case round =>
      obtain ⟨k, hk, rfl, rfl⟩ := hrel
      by_cases hlt : k < xs.length
      · have hcx := unhide HC k hlt
        generalize hz : xs.getD k 0 = z at hcx
        have HS : Hid (crcRun (xs.take (k + 1)) = crcIt 8 (bits BinOp.xor IntKind.i64 (crcRun (xs.take k)) (wrap64 z))) := crcRun_snoc xs k z hlt hz
        clear hz
        go_wp2
        go_loop [3, 17] (fun s i => ∃ j : Nat, j ≤ 8 ∧ i = .int .i64 j ∧ s = .int .i64 (crcIt j (bits BinOp.xor IntKind.i64 (crcRun (xs.take k)) (wrap64 z)))) (fun _ i => 8 - (intOf i).toNat)
        case atStart => exact ⟨0, Nat.zero_le _, rfl, rfl⟩
        case round =>
          obtain ⟨j, hj, rfl, rfl⟩ := hrel
          by_cases hlt2 : j < 8
          · go_wp2
            · go_round
              case rel => exact ⟨j + 1, by omega, by go_num, int_eq (crcIt_odd j _ ‹_›)⟩
              case measure => simp [intOf]; omega
            · go_round
              case rel => exact ⟨j + 1, by omega, by go_num, int_eq (crcIt_even j _ ‹_›)⟩
              case measure => simp [intOf]; omega
          · have hj8 : j = 8 := by omega
            subst hj8
            go_wp2
            go_round
            case rel => exact ⟨k + 1, by omega, by go_num, int_eq HS.out.symm⟩
            case measure => simp [intOf]; omega
      · go_wp2
        go_ret
        exact ⟨ret_int (by rw [List.take_of_length_le (by omega)]; rfl), rfl⟩

end Go.Proofs.YtjlocbimkfocnaaGreat

namespace Go.Proofs.YtjlocbimkfocnaaGreat
open Go.RowKit

set_option maxHeartbeats 1000000 in
theorem scrc_any (v : Value) (xs : List Int) (w : World) (hlen : xs.length ≤ 281474976710656) (hv : Seg w v xs) :
    Calls Tryz.prog 88 #[v] w fun e w' => e = .returned (.int .i64 (crcOf xs)) ∧ w = w' := by
  obtain ⟨a, cap, rfl, hcap, h⟩ := hv
  rcases h with rfl | ⟨b, off, rfl, _, hc⟩
  · go_enter Tryz.func88, Tryz.ntmps88
    go_wp2
    go_loop [3, 4] (fun s i => i = .int .i64 0 ∧ s = .int .i64 4294967295) (fun _ i => 0)
    case atStart => exact ⟨rfl, rfl⟩
    case round =>
      obtain ⟨rfl, rfl⟩ := hrel
      go_wp2
      go_ret
      exact ⟨rfl, rfl⟩
  · have HC := hide hc
    clear hc
    go_enter Tryz.func88, Tryz.ntmps88
    go_wp2
    go_loop [3, 4] (fun s i => ∃ k : Nat, k ≤ xs.length ∧ i = .int .i64 k ∧ s = .int .i64 (crcRun (xs.take k))) (fun _ i => xs.length - (intOf i).toNat)
    case atStart => exact ⟨0, Nat.zero_le _, rfl, rfl⟩
    case round =>
      obtain ⟨k, hk, rfl, rfl⟩ := hrel
      by_cases hlt : k < xs.length
      · have hcx := unhide HC k hlt
        generalize hz : xs.getD k 0 = z at hcx
        have HS : Hid (crcRun (xs.take (k + 1)) = crcIt 8 (bits BinOp.xor IntKind.i64 (crcRun (xs.take k)) (wrap64 z))) := crcRun_snoc xs k z hlt hz
        clear hz
        go_wp2
        go_loop [3, 5] (fun s i => ∃ j : Nat, j ≤ 8 ∧ i = .int .i64 j ∧ s = .int .i64 (crcIt j (bits BinOp.xor IntKind.i64 (crcRun (xs.take k)) (wrap64 z)))) (fun _ i => 8 - (intOf i).toNat)
        case atStart => exact ⟨0, Nat.zero_le _, rfl, rfl⟩
        case round =>
          obtain ⟨j, hj, rfl, rfl⟩ := hrel
          by_cases hlt2 : j < 8
          · go_wp2
            · go_round
              case rel => exact ⟨j + 1, by omega, by go_num, int_eq (crcIt_odd j _ ‹_›)⟩
              case measure => simp [intOf]; omega
            · go_round
              case rel => exact ⟨j + 1, by omega, by go_num, int_eq (crcIt_even j _ ‹_›)⟩
              case measure => simp [intOf]; omega
          · have hj8 : j = 8 := by omega
            subst hj8
            go_wp2
            go_round
            case rel => exact ⟨k + 1, by omega, by go_num, int_eq HS.out.symm⟩
            case measure => simp [intOf]; omega
      · go_wp2
        go_ret
        exact ⟨ret_int (by rw [List.take_of_length_le (by omega)]; rfl), rfl⟩
end Go.Proofs.YtjlocbimkfocnaaGreat
