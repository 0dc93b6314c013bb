/-
  The helpers of the laws that mark a slice of bytes and look whether the marks are held. No statement is proved here.
-/
import Derived.Test.YtjlocbimkfocnaaBytes
namespace Go.Proofs.Ytjlocbimkfocnaa
open Go.RowKit

/-- The marks: from k on, a byte each. -/
def markL (k : Int) (n : Nat) : List Int := (List.range n).map fun i : Nat => (k + (i : Int)) % 256

theorem markL_length (k : Int) (n : Nat) : (markL k n).length = n := by simp [markL]
theorem markL_succ (k : Int) (n : Nat) : markL k (n + 1) = markL k n ++ [(k + n) % 256] := by simp [markL, List.range_succ]
theorem markL_get (k : Int) (n i : Nat) (h : i < n) : (markL k n).getD i 0 = (k + i) % 256 := by simp [markL, h]

theorem mark_set (k : Int) (xs : List Int) (j : Nat) (hj : j < xs.length) :
    ((markL k j ++ xs.drop j).map (Value.int .u8)).set j (.int .u8 ((k + j) % 256)) = (markL k (j + 1) ++ xs.drop (j + 1)).map (Value.int .u8) := by
  rw [markL_succ, List.drop_eq_getElem_cons hj]
  simp only [List.map_append, List.map_cons, List.append_assoc, List.cons_append, List.nil_append]
  rw [List.set_append_right _ _ (by simp [markL_length])]
  simp [markL_length]

set_option maxHeartbeats 1000000 in
set_option maxRecDepth 100000 in
theorem mark_any (B : Nat) (v : Value) (xs : List Int) (k : Int) (n : Nat) (w : World) (hlen : n ≤ 140737488351232) (hk0 : 0 ≤ k) (hk1 : k ≤ 1000) (hv : w.ownsRow B 5 1 v n (xs.map (Value.int .u8))) :
    Calls Try.prog 21 #[v, .int .i64 k] w fun e w' => e = .returned (.int .i64 (k + n)) ∧ w'.ownsRow B 5 1 v n ((markL k n).map (Value.int .u8)) ∧ Below B w w' := by
  have hn : n = xs.length := by have := hv.1; simp at this; omega
  subst hn
  have HV := hide hv
  rcases hv.2 with ⟨rfl, h0⟩ | ⟨g, cap, cur, rfl, hb, hg, hnc, hcm, hcs, htake⟩
  · have hx : xs = [] := List.eq_nil_of_length_eq_zero h0
    subst hx
    clear hv h0
    go_enter Try.func21, Try.ntmps21
    go_wp2
    go_loop [1, 5] (fun q i => i = .int .i64 0 ∧ q = .int .i64 k) (fun _ i => 0)
    case atStart => exact ⟨rfl, rfl⟩
    case round =>
      obtain ⟨rfl, rfl⟩ := hrel
      go_wp2
      go_ret
      exact ⟨ret_int (by simp), (unhide HV : w.ownsRow B 5 1 (.slice none 0 0) 0 []), Below.refl _ _⟩
  · clear hv hg hnc hcm hcs htake
    go_enter Try.func21, Try.ntmps21
    go_wp2
    go_loopw [1, 5] (fun q i wr => ∃ j : Nat, j ≤ xs.length ∧ i = .int .i64 j ∧ q = .int .i64 (k + j) ∧ wr.ownsRow B 5 1 (.slice (some ⟨g, 0, none⟩) xs.length cap) xs.length ((markL k j ++ xs.drop j).map (Value.int .u8)) ∧ Below B w wr) (fun _ i _ => xs.length - (intOf i).toNat)
    case atStart => exact ⟨0, Nat.zero_le _, rfl, by simp, by simpa [markL] using unhide HV, Below.refl _ _⟩
    case round =>
      obtain ⟨j, hj, rfl, rfl, hown, hbel⟩ := hrel
      by_cases hlt : j < xs.length
      · have hst := mark_set k xs j hlt
        have hfz := hown.frozenAt j
        have hcy := hown.cellAt j (by omega)
        have hex : ∃ y, wr.cell? ⟨g, j, none⟩ = some y := by
          rw [hcy]
          exact ⟨_, List.getElem?_eq_getElem (by simp [markL_length]; omega)⟩
        obtain ⟨y, hy⟩ := hex
        have R1 := (hown.stored j (.int .u8 ((k + j) % 256))).1
        rw [hst] at R1
        have R2 := hbel.setCell (p := ⟨g, j, none⟩) hb (.int .u8 ((k + j) % 256))
        have HR1 := hide R1
        have HR2 := hide R2
        clear hst hcy R1 R2 hown hbel
        go_wp2
        go_roundw
        case rel => exact ⟨j + 1, by omega, by go_num, by go_num, HR1.out, HR2.out⟩
        case measure => simp [intOf]; omega
      · have hkl : j = xs.length := by omega
        subst hkl
        go_wp2
        go_ret
        exact ⟨rfl, by simpa using hown, hbel⟩
set_option maxHeartbeats 1000000 in
set_option maxRecDepth 100000 in
theorem held_any (v : Value) (k : Int) (n : Nat) (w : World) (hlen : n ≤ 140737488351232) (hk0 : 0 ≤ k) (hk1 : k ≤ 1000) (hv : Seg w v (markL k n)) :
    Calls Try.prog 22 #[v, .int .i64 k] w fun e w' => e = .returned (.int .i64 (k + n)) ∧ w = w' := by
  obtain ⟨a, cap, rfl, hcap, h⟩ := hv
  rw [markL_length]
  rcases h with h | ⟨b, off, rfl, _, hc⟩
  · have hn : n = 0 := by have := markL_length k n; rw [h] at this; simpa using this.symm
    subst hn
    clear h
    go_enter Try.func22, Try.ntmps22
    go_wp2
    go_loop [1, 5] (fun q i => i = .int .i64 0 ∧ q = .int .i64 k) (fun _ i => 0)
    case atStart => exact ⟨rfl, rfl⟩
    case round =>
      obtain ⟨rfl, rfl⟩ := hrel
      go_wp2
      go_ret
      exact ⟨ret_int (by simp), rfl⟩
  · rw [markL_length] at hc
    have HC := hide hc
    clear hc
    go_enter Try.func22, Try.ntmps22
    go_wp2
    go_loop [1, 5] (fun q i => ∃ j : Nat, j ≤ n ∧ i = .int .i64 j ∧ q = .int .i64 (k + j)) (fun _ i => n - (intOf i).toNat)
    case atStart => exact ⟨0, Nat.zero_le _, rfl, by simp⟩
    case round =>
      obtain ⟨j, hj, rfl, rfl⟩ := hrel
      by_cases hlt : j < n
      · have hcx := unhide HC j hlt
        rw [markL_get k n j hlt] at hcx
        have hne : ((k + j) % 256 != (k + j) % 256) = false := by simp
        go_wp2
        go_round
        case rel => exact ⟨j + 1, by omega, by go_num, by go_num⟩
        case measure => simp [intOf]; omega
      · have hkl : j = n := by omega
        subst hkl
        go_wp2
        go_ret
        exact ⟨rfl, rfl⟩
end Go.Proofs.Ytjlocbimkfocnaa
