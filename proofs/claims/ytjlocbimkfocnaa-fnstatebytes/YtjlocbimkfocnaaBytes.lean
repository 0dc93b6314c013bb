/-
  The helpers of the laws on slices of bytes: 'toByteS' returns a copy of its own memory, 'eqByteS' says yes to two that read the same. No statement is proved here.
-/
import Derived.Test.YtjlocbimkfocnaaBase
import Derived.WalkLawsBesides
import Derived.BigQuiet
import Derived.Deep.QuietTactic
namespace Go.Proofs.Ytjlocbimkfocnaa
open Go.RowKit


set_option maxHeartbeats 1000000 in
theorem eqbytes_same (v u : Value) (xs : List Int) (w : World) (hlen : xs.length ≤ 140737488351232) (hv : Seg w v xs) (hu : Seg w u xs) :
    Calls Try.prog 18 #[v, u] w fun e w' => e = .returned (.bool true) ∧ ∀ B, Below B w w' := by
  obtain ⟨a, cap, rfl, hcap, h⟩ := hv
  obtain ⟨a', cap', rfl, hcap', h'⟩ := hu
  have hne : ((xs.length : Int) != (xs.length : Int)) = false := by simp
  rcases h with rfl | ⟨b, off, rfl, hbw, hc⟩
  · go_enter Try.func18, Try.ntmps18
    go_wp2
    go_loop [5] (fun i => i = .int .i64 0) (fun i => 0)
    case atStart => rfl
    case round =>
      subst hrel
      go_wp2
      go_ret
      exact ⟨rfl, fun B => Below.refl _ _⟩
  · rcases h' with rfl | ⟨b', off', rfl, hbw', hc'⟩
    · go_enter Try.func18, Try.ntmps18
      go_wp2
      go_loop [5] (fun i => i = .int .i64 0) (fun i => 0)
      case atStart => rfl
      case round =>
        subst hrel
        go_wp2
        go_ret
        exact ⟨rfl, fun B => Below.refl _ _⟩
    · have HC := hide hc
      have HC' := hide hc'
      clear hc hc'
      go_enter Try.func18, Try.ntmps18
      go_wp2
      go_loopw [5] (fun i wr => ∃ k : Nat, k ≤ xs.length ∧ i = .int .i64 k ∧ ∀ B, Below B w wr) (fun i _ => xs.length - (intOf i).toNat)
      case atStart => exact ⟨0, Nat.zero_le _, rfl, fun B => Below.refl _ _⟩
      case round =>
        obtain ⟨k, hk, rfl, hb⟩ := hrel
        by_cases hlt : k < xs.length
        · have hcx : wr.cell? ⟨b, off + k, none⟩ = some (.int .u8 (xs.getD k 0)) := ((hb (b + 1)).cell (p := ⟨b, off + k, none⟩) (Nat.lt_succ_self _)).trans (unhide HC k hlt)
          have hcy : wr.cell? ⟨b', off' + k, none⟩ = some (.int .u8 (xs.getD k 0)) := ((hb (b' + 1)).cell (p := ⟨b', off' + k, none⟩) (Nat.lt_succ_self _)).trans (unhide HC' k hlt)
          generalize hz : xs.getD k 0 = z at hcx hcy
          have hzz : (z != z) = false := by simp
          have HB := hide hb
          clear hz hb
          go_wp2
          go_quiet (fail)
          go_wp2
          go_roundw
          case rel => exact ⟨k + 1, by omega, by go_num, fun B => below_drewN (HB.out B) _⟩
          case measure => simp [intOf]; omega
        · go_wp2
          go_ret
          exact ⟨rfl, hb⟩

end Go.Proofs.Ytjlocbimkfocnaa
