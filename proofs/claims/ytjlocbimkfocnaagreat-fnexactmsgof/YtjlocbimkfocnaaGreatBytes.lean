/-
  The helpers of the laws on slices of bytes: 'toByteS' returns a copy of its own memory, 'eqByteS' says yes to two that read the same. No statement is proved here.
-/
import Derived.Test.YtjlocbimkfocnaaGreatBase
import Derived.WalkLawsBesides
import Derived.BigQuiet
import Derived.Deep.QuietTactic
namespace Go.Proofs.YtjlocbimkfocnaaGreat
open Go.RowKit

set_option maxHeartbeats 1000000 in
theorem tobytes_any (v : Value) (xs : List Int) (w : World) (hlen : xs.length ≤ 140737488351232) (hv : Seg w v xs) :
    Calls Tryz.prog 16 #[v] w fun e w' => ∃ u, e = .returned u ∧ w'.ownsRow w.heap.size 5 1 u xs.length (xs.map (Value.int .u8)) ∧ Below w.heap.size w w' := by
  obtain ⟨i0, hi, hz0, hz1, hz2⟩ := info_parts Tryz.infoByte
  have hb2 : i0.bytes * xs.length ≤ 281474976710656 := by rw [hz2]; omega
  have hml : xs.length ≤ maxLen := by unfold maxLen; omega
  have HZ2 := hide hz2
  clear hz2
  obtain ⟨a, cap, rfl, hcap, h⟩ := hv
  rcases h with rfl | ⟨b, off, rfl, hbw, hc⟩
  · go_enter Tryz.func16, Tryz.ntmps16
    go_wp2_with (first | (at_make; refine wpList_make_full _ rfl _ _ 22 rfl w.heap.size 5 i0 (.int .u8 0) 1 Tryz.underlying22 hi hz0 hz1 .i64 .i64 _ _ 0 rfl rfl rfl rfl hb2 hml (Nat.le_refl _) ?_))
    intro w1 hown hgrow
    have hbel : Below w.heap.size w w1 := (Below.refl _ _).grown hgrow (Nat.le_refl _) (fun k hk => by cases hk)
    go_wp2
    go_loop [4] (fun i => i = .int .i64 0) (fun i => 0)
    case atStart => rfl
    case round =>
      subst hrel
      go_wp2
      go_ret
      exact ⟨_, rfl, by have e := toList_madeCells_one (.int .u8 0) 0; rw [e] at hown; simpa using hown, hbel⟩
  · have HC := hide hc
    clear hc
    go_enter Tryz.func16, Tryz.ntmps16
    go_wp2_with (first | (at_make; refine wpList_make_full _ rfl _ _ 22 rfl w.heap.size 5 i0 (.int .u8 0) 1 Tryz.underlying22 hi hz0 hz1 .i64 .i64 _ _ xs.length rfl rfl rfl rfl hb2 hml (Nat.le_refl _) ?_))
    intro w1 hown hgrow
    have hbel : Below w.heap.size w w1 := (Below.refl _ _).grown hgrow (Nat.le_refl _) (fun k hk => by cases hk)
    have hsz : w.heap.size < w1.heap.size := (hown.lt w.heap.size rfl).2
    have hown0 : w1.ownsRow w.heap.size 5 1 (.slice (some ⟨w.heap.size, 0, none⟩) xs.length xs.length) xs.length ((xs.take 0 ++ List.replicate (xs.length - 0) 0).map (Value.int .u8)) := by
      have e := toList_madeCells_one (.int .u8 0) xs.length
      rw [e] at hown
      simpa using hown
    clear hown hgrow
    go_wp2
    go_loopw [4] (fun i wr => ∃ k : Nat, k ≤ xs.length ∧ i = .int .i64 k ∧ wr.ownsRow w.heap.size 5 1 (.slice (some ⟨w.heap.size, 0, none⟩) xs.length xs.length) xs.length ((xs.take k ++ List.replicate (xs.length - k) 0).map (Value.int .u8)) ∧ Below w.heap.size w wr) (fun i _ => xs.length - (intOf i).toNat)
    case atStart => exact ⟨0, Nat.zero_le _, rfl, hown0, hbel⟩
    case round =>
      obtain ⟨k, hk, rfl, hown, hb⟩ := hrel
      clear hown0 hbel hsz
      by_cases hlt : k < xs.length
      · have hcx : wr.cell? ⟨b, off + k, none⟩ = some (.int .u8 (xs.getD k 0)) := (hb.cell (p := ⟨b, off + k, none⟩) hbw).trans (unhide HC k hlt)
        have hst := set_take_drop xs xs.length k hlt rfl
        have hfz := hown.frozenAt k
        have hcy := hown.cellAt k (by omega)
        have hex : ∃ y, wr.cell? ⟨w.heap.size, k, none⟩ = some y := by
          rw [hcy]
          exact ⟨_, List.getElem?_eq_getElem (by simp; omega)⟩
        obtain ⟨y, hy⟩ := hex
        clear hcy
        rw [← List.getD_eq_getElem?_getD] at hst
        generalize hz : xs.getD k 0 = z at hcx hst
        have R1 := (hown.stored k (.int .u8 z)).1
        rw [hst] at R1
        have R2 := hb.setCell (p := ⟨w.heap.size, k, none⟩) (Nat.le_refl _) (.int .u8 z)
        have HR1 := hide R1
        have HR2 := hide R2
        clear hz hst R1 R2 hown hb
        go_wp2
        go_roundw
        case rel => exact ⟨k + 1, by omega, by go_num, HR1.out, HR2.out⟩
        case measure => simp [intOf]; omega
      · have hkl : k = xs.length := by omega
        subst hkl
        go_wp2
        go_ret
        exact ⟨_, rfl, by simpa using hown, hb⟩

set_option maxHeartbeats 1000000 in
theorem eqbytes_same (v u : Value) (xs : List Int) (w : World) (hlen : xs.length ≤ 140737488351232) (hv : Seg w v xs) (hu : Seg w u xs) :
    Calls Tryz.prog 18 #[v, u] w fun e w' => e = .returned (.bool true) ∧ ∀ B, Below B w w' := by
  obtain ⟨a, cap, rfl, hcap, h⟩ := hv
  obtain ⟨a', cap', rfl, hcap', h'⟩ := hu
  have hne : ((xs.length : Int) != (xs.length : Int)) = false := by simp
  rcases h with rfl | ⟨b, off, rfl, hbw, hc⟩
  · go_enter Tryz.func18, Tryz.ntmps18
    go_wp2
    go_loop [5] (fun i => i = .int .i64 0) (fun i => 0)
    case atStart => rfl
    case round =>
      subst hrel
      go_wp2
      go_ret
      exact ⟨rfl, fun B => Below.refl _ _⟩
  · rcases h' with rfl | ⟨b', off', rfl, hbw', hc'⟩
    · go_enter Tryz.func18, Tryz.ntmps18
      go_wp2
      go_loop [5] (fun i => i = .int .i64 0) (fun i => 0)
      case atStart => rfl
      case round =>
        subst hrel
        go_wp2
        go_ret
        exact ⟨rfl, fun B => Below.refl _ _⟩
    · have HC := hide hc
      have HC' := hide hc'
      clear hc hc'
      go_enter Tryz.func18, Tryz.ntmps18
      go_wp2
      go_loopw [5] (fun i wr => ∃ k : Nat, k ≤ xs.length ∧ i = .int .i64 k ∧ ∀ B, Below B w wr) (fun i _ => xs.length - (intOf i).toNat)
      case atStart => exact ⟨0, Nat.zero_le _, rfl, fun B => Below.refl _ _⟩
      case round =>
        obtain ⟨k, hk, rfl, hb⟩ := hrel
        by_cases hlt : k < xs.length
        · have hcx : wr.cell? ⟨b, off + k, none⟩ = some (.int .u8 (xs.getD k 0)) := ((hb (b + 1)).cell (p := ⟨b, off + k, none⟩) (Nat.lt_succ_self _)).trans (unhide HC k hlt)
          have hcy : wr.cell? ⟨b', off' + k, none⟩ = some (.int .u8 (xs.getD k 0)) := ((hb (b' + 1)).cell (p := ⟨b', off' + k, none⟩) (Nat.lt_succ_self _)).trans (unhide HC' k hlt)
          generalize hz : xs.getD k 0 = z at hcx hcy
          have hzz : (z != z) = false := by simp
          have HB := hide hb
          clear hz hb
          go_wp2
          go_quiet (fail)
          go_wp2
          go_roundw
          case rel => exact ⟨k + 1, by omega, by go_num, fun B => below_drewN (HB.out B) _⟩
          case measure => simp [intOf]; omega
        · go_wp2
          go_ret
          exact ⟨rfl, hb⟩

end Go.Proofs.YtjlocbimkfocnaaGreat
