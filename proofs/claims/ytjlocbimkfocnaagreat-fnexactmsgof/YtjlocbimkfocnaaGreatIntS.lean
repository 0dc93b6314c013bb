/-
  The helpers of the laws on slices of numbers: a copy of its own memory, two that read the same, marks and whether they are held. No statement is proved here.
-/
import Derived.Test.YtjlocbimkfocnaaGreatNm
import Derived.Test.YtjlocbimkfocnaaGreatTrL
import Derived.WalkLawsBesides
import Derived.BigQuiet
import Derived.Deep.QuietTactic
namespace Go.Proofs.YtjlocbimkfocnaaGreat
open Go.RowKit

theorem Tryz.infoInt : (Tryz.prog.info? 3).map (fun i => (i.zero, i.size, i.bytes)) = some (some (.int .i64 0), 1, 8) := by kernel_rfl
/-- The slice value v reads as the numbers xs. -/
def SegN (w : World) (v : Value) (xs : List Int) : Prop :=
  ∃ a cap, v = .slice a xs.length cap ∧ xs.length ≤ cap ∧ (xs = [] ∨ ∃ b off, a = some ⟨b, off, none⟩ ∧ b < w.heap.size ∧ ∀ i, i < xs.length → w.cell? ⟨b, off + i, none⟩ = some (.int .i64 (xs.getD i 0)))
theorem segN_of {w : World} {v : Value} {xs : List Int} (h : RwN w v xs) : SegN w v xs := by
  obtain ⟨a, cap, rfl, hcap, h⟩ := h
  refine ⟨a, cap, rfl, hcap, ?_⟩
  rcases h with h | ⟨b, off, rfl, hlt, hc⟩
  · exact .inl h
  · refine .inr ⟨b, off, rfl, hlt, fun i hi => ?_⟩
    have := hc i xs[i] (by simp [hi]) 0 (by omega)
    rw [Nat.mul_one, Nat.add_zero] at this
    rw [this]
    simp [encN, hi]
theorem flatN (xs : List Int) : xs.flatMap encN = xs.map (Value.int .i64) := by
  induction xs with
  | nil => rfl
  | cons x r ih => rw [List.flatMap_cons, ih]; rfl
/-- A row of numbers that the call itself owns. -/
abbrev OwN (base : Nat) (w : World) (v : Value) (ns : List Int) : Prop := Ow encN 1 3 base w v ns
theorem ownN_iff {w : World} {base : Nat} {E : TypeId} {v : Value} {ns : List Int} : Ow encN 1 E base w v ns ↔ w.ownsRow base E 1 v ns.length (ns.map (Value.int .i64)) := by
  unfold Ow; rw [flatN]
theorem oneN (x : Int) : ∀ u ∈ encN x, u.oneCell' = true := by
  intro u hu
  simp [encN] at hu
  subst hu; rfl
theorem setN_take_drop (xs : List Int) (n k : Nat) (hk : k < n) (hn : n = xs.length) :
    ((xs.take k ++ List.replicate (n - k) 0).map (Value.int .i64)).set k (.int .i64 (xs[k]?.getD 0)) = (xs.take (k + 1) ++ List.replicate (n - (k + 1)) 0).map (Value.int .i64) := by
  subst hn
  rw [← fill_set xs 0 k xs[k] (by simp [hk]), List.map_set]
  simp [hk]


set_option maxHeartbeats 1000000 in
theorem eqints_same (v u : Value) (xs : List Int) (w : World) (hlen : xs.length ≤ 140737488351232) (hv : SegN w v xs) (hu : SegN w u xs) :
    Calls Tryz.prog 59 #[v, u] w fun e w' => e = .returned (.bool true) ∧ ∀ B, Below B w w' := by
  obtain ⟨a, cap, rfl, hcap, h⟩ := hv
  obtain ⟨a', cap', rfl, hcap', h'⟩ := hu
  have hne : ((xs.length : Int) != (xs.length : Int)) = false := by simp
  rcases h with rfl | ⟨b, off, rfl, hbw, hc⟩
  · go_enter Tryz.func59, Tryz.ntmps59
    go_wp2
    go_loop [5] (fun i => i = .int .i64 0) (fun i => 0)
    case atStart => rfl
    case round =>
      subst hrel
      go_wp2
      go_ret
      exact ⟨rfl, fun B => Below.refl _ _⟩
  · rcases h' with rfl | ⟨b', off', rfl, hbw', hc'⟩
    · go_enter Tryz.func59, Tryz.ntmps59
      go_wp2
      go_loop [5] (fun i => i = .int .i64 0) (fun i => 0)
      case atStart => rfl
      case round =>
        subst hrel
        go_wp2
        go_ret
        exact ⟨rfl, fun B => Below.refl _ _⟩
    · have HC := hide hc
      have HC' := hide hc'
      clear hc hc'
      go_enter Tryz.func59, Tryz.ntmps59
      go_wp2
      go_loopw [5] (fun i wr => ∃ k : Nat, k ≤ xs.length ∧ i = .int .i64 k ∧ ∀ B, Below B w wr) (fun i _ => xs.length - (intOf i).toNat)
      case atStart => exact ⟨0, Nat.zero_le _, rfl, fun B => Below.refl _ _⟩
      case round =>
        obtain ⟨k, hk, rfl, hb⟩ := hrel
        by_cases hlt : k < xs.length
        · have hcx : wr.cell? ⟨b, off + k, none⟩ = some (.int .i64 (xs.getD k 0)) := ((hb (b + 1)).cell (p := ⟨b, off + k, none⟩) (Nat.lt_succ_self _)).trans (unhide HC k hlt)
          have hcy : wr.cell? ⟨b', off' + k, none⟩ = some (.int .i64 (xs.getD k 0)) := ((hb (b' + 1)).cell (p := ⟨b', off' + k, none⟩) (Nat.lt_succ_self _)).trans (unhide HC' k hlt)
          generalize hz : xs.getD k 0 = z at hcx hcy
          have hzz : (z != z) = false := by simp
          have HB := hide hb
          clear hz hb
          go_wp2
          go_quiet (fail)
          go_wp2
          go_roundw
          case rel => exact ⟨k + 1, by omega, by go_num, fun B => below_drewN (HB.out B) _⟩
          case measure => simp [intOf]; omega
        · go_wp2
          go_ret
          exact ⟨rfl, hb⟩

theorem grown_on {w w1 w2 : World} {g : Option Nat} (h : w.grownBy w1 g) (k : w1.grownBy w2 g) : w.grownBy w2 g :=
  ⟨k.os.trans h.os, k.tape.trans h.tape, k.output.trans h.output, Nat.le_trans h.size k.size, fun i hi hne => (k.block i (Nat.lt_of_lt_of_le hi h.size) hne).trans (h.block i hi hne)⟩
/-- The marks: from k on, a byte each. -/
def markN (k : Int) (n : Nat) : List Int := (List.range n).map fun i : Nat => k + (i : Int)

theorem markN_length (k : Int) (n : Nat) : (markN k n).length = n := by simp [markN]
theorem markN_succ (k : Int) (n : Nat) : markN k (n + 1) = markN k n ++ [(k + n)] := by simp [markN, List.range_succ]
theorem markN_get (k : Int) (n i : Nat) (h : i < n) : (markN k n).getD i 0 = (k + i) := by simp [markN, h]

theorem markN_set (k : Int) (xs : List Int) (j : Nat) (hj : j < xs.length) :
    ((markN k j ++ xs.drop j).map (Value.int .i64)).set j (.int .i64 ((k + j))) = (markN k (j + 1) ++ xs.drop (j + 1)).map (Value.int .i64) := by
  rw [markN_succ, List.drop_eq_getElem_cons hj]
  simp only [List.map_append, List.map_cons, List.append_assoc, List.cons_append, List.nil_append]
  rw [List.set_append_right _ _ (by simp [markN_length])]
  simp [markN_length]

set_option maxHeartbeats 1000000 in
set_option maxRecDepth 100000 in
theorem markN_any (E : TypeId) (B : Nat) (v : Value) (xs : List Int) (k : Int) (n : Nat) (w : World) (hlen : n ≤ 140737488351232) (hk0 : 0 ≤ k) (hk1 : k ≤ 140737488351232) (hv : w.ownsRow B E 1 v n (xs.map (Value.int .i64))) :
    Calls Tryz.prog 63 #[v, .int .i64 k] w fun e w' => e = .returned (.int .i64 (k + n)) ∧ w'.ownsRow B E 1 v n ((markN k n).map (Value.int .i64)) ∧ w.grownBy w' v.ownBlock := by
  have hn : n = xs.length := by have := hv.1; simp at this; omega
  subst hn
  have HV := hide hv
  rcases hv.2 with ⟨rfl, h0⟩ | ⟨g, cap, cur, rfl, hb, hg, hnc, hcm, hcs, htake⟩
  · have hx : xs = [] := List.eq_nil_of_length_eq_zero h0
    subst hx
    clear hv h0
    go_enter Tryz.func63, Tryz.ntmps63
    go_wp2
    go_loop [1, 5] (fun q i => i = .int .i64 0 ∧ q = .int .i64 k) (fun _ i => 0)
    case atStart => exact ⟨rfl, rfl⟩
    case round =>
      obtain ⟨rfl, rfl⟩ := hrel
      go_wp2
      go_ret
      exact ⟨ret_int (by simp), (unhide HV : w.ownsRow B E 1 (.slice none 0 0) 0 []), World.grownBy.refl _ _⟩
  · clear hv hg hnc hcm hcs htake
    go_enter Tryz.func63, Tryz.ntmps63
    go_wp2
    go_loopw [1, 5] (fun q i wr => ∃ j : Nat, j ≤ xs.length ∧ i = .int .i64 j ∧ q = .int .i64 (k + j) ∧ wr.ownsRow B E 1 (.slice (some ⟨g, 0, none⟩) xs.length cap) xs.length ((markN k j ++ xs.drop j).map (Value.int .i64)) ∧ w.grownBy wr (some g)) (fun _ i _ => xs.length - (intOf i).toNat)
    case atStart => exact ⟨0, Nat.zero_le _, rfl, by simp, by simpa [markN] using unhide HV, World.grownBy.refl _ _⟩
    case round =>
      obtain ⟨j, hj, rfl, rfl, hown, hbel⟩ := hrel
      by_cases hlt : j < xs.length
      · have hst := markN_set k xs j hlt
        have hfz := hown.frozenAt j
        have hcy := hown.cellAt j (by omega)
        have hex : ∃ y, wr.cell? ⟨g, j, none⟩ = some y := by
          rw [hcy]
          exact ⟨_, List.getElem?_eq_getElem (by simp [markN_length]; omega)⟩
        obtain ⟨y, hy⟩ := hex
        have R1 := (hown.stored j (.int .i64 ((k + j)))).1
        rw [hst] at R1
        have R2 := grown_on hbel (hown.stored j (.int .i64 ((k + j)))).2
        have HR1 := hide R1
        have HR2 := hide R2
        clear hst hcy R1 R2 hown hbel
        go_wp2
        go_roundw
        case rel => exact ⟨j + 1, by omega, by go_num, by go_num, HR1.out, HR2.out⟩
        case measure => simp [intOf]; omega
      · have hkl : j = xs.length := by omega
        subst hkl
        go_wp2
        go_ret
        exact ⟨rfl, by simpa using hown, hbel⟩

set_option maxHeartbeats 1000000 in
set_option maxRecDepth 100000 in
theorem heldN_any (v : Value) (k : Int) (n : Nat) (w : World) (hlen : n ≤ 140737488351232) (hk0 : 0 ≤ k) (hk1 : k ≤ 140737488351232) (hv : SegN w v (markN k n)) :
    Calls Tryz.prog 67 #[v, .int .i64 k] w fun e w' => e = .returned (.int .i64 (k + n)) ∧ w = w' := by
  obtain ⟨a, cap, rfl, hcap, h⟩ := hv
  rw [markN_length]
  rcases h with h | ⟨b, off, rfl, _, hc⟩
  · have hn : n = 0 := by have := markN_length k n; rw [h] at this; simpa using this.symm
    subst hn
    clear h
    go_enter Tryz.func67, Tryz.ntmps67
    go_wp2
    go_loop [1, 5] (fun q i => i = .int .i64 0 ∧ q = .int .i64 k) (fun _ i => 0)
    case atStart => exact ⟨rfl, rfl⟩
    case round =>
      obtain ⟨rfl, rfl⟩ := hrel
      go_wp2
      go_ret
      exact ⟨ret_int (by simp), rfl⟩
  · rw [markN_length] at hc
    have HC := hide hc
    clear hc
    go_enter Tryz.func67, Tryz.ntmps67
    go_wp2
    go_loop [1, 5] (fun q i => ∃ j : Nat, j ≤ n ∧ i = .int .i64 j ∧ q = .int .i64 (k + j)) (fun _ i => n - (intOf i).toNat)
    case atStart => exact ⟨0, Nat.zero_le _, rfl, by simp⟩
    case round =>
      obtain ⟨j, hj, rfl, rfl⟩ := hrel
      by_cases hlt : j < n
      · have hcx := unhide HC j hlt
        rw [markN_get k n j hlt] at hcx
        have hne : ((k + j) != (k + j)) = false := by simp
        go_wp2
        go_round
        case rel => exact ⟨j + 1, by omega, by go_num, by go_num⟩
        case measure => simp [intOf]; omega
      · have hkl : j = n := by omega
        subst hkl
        go_wp2
        go_ret
        exact ⟨rfl, rfl⟩
end Go.Proofs.YtjlocbimkfocnaaGreat
