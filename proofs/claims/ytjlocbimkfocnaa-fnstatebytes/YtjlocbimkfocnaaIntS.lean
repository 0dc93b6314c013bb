/-
  The helpers of the laws on slices of numbers: a copy of its own memory, two that read the same, marks and whether they are held. No statement is proved here.
-/
import Derived.Test.YtjlocbimkfocnaaNm
import Derived.WalkLawsBesides
import Derived.BigQuiet
import Derived.Deep.QuietTactic
namespace Go.Proofs.Ytjlocbimkfocnaa
open Go.RowKit

theorem Try.infoInt : (Try.prog.info? 3).map (fun i => (i.zero, i.size, i.bytes)) = some (some (.int .i64 0), 1, 8) := by kernel_rfl
/-- The slice value v reads as the numbers xs. -/
def SegN (w : World) (v : Value) (xs : List Int) : Prop :=
  ∃ a cap, v = .slice a xs.length cap ∧ xs.length ≤ cap ∧ (xs = [] ∨ ∃ b off, a = some ⟨b, off, none⟩ ∧ b < w.heap.size ∧ ∀ i, i < xs.length → w.cell? ⟨b, off + i, none⟩ = some (.int .i64 (xs.getD i 0)))
theorem segN_of {w : World} {v : Value} {xs : List Int} (h : RwN w v xs) : SegN w v xs := by
  obtain ⟨a, cap, rfl, hcap, h⟩ := h
  refine ⟨a, cap, rfl, hcap, ?_⟩
  rcases h with h | ⟨b, off, rfl, hlt, hc⟩
  · exact .inl h
  · refine .inr ⟨b, off, rfl, hlt, fun i hi => ?_⟩
    have := hc i xs[i] (by simp [hi]) 0 (by omega)
    rw [Nat.mul_one, Nat.add_zero] at this
    rw [this]
    simp [encN, hi]
theorem flatN (xs : List Int) : xs.flatMap encN = xs.map (Value.int .i64) := by
  induction xs with
  | nil => rfl
  | cons x r ih => rw [List.flatMap_cons, ih]; rfl
/-- A row of numbers that the call itself owns. -/
abbrev OwN (base : Nat) (w : World) (v : Value) (ns : List Int) : Prop := Ow encN 1 3 base w v ns
theorem ownN_iff {w : World} {base : Nat} {E : TypeId} {v : Value} {ns : List Int} : Ow encN 1 E base w v ns ↔ w.ownsRow base E 1 v ns.length (ns.map (Value.int .i64)) := by
  unfold Ow; rw [flatN]
theorem oneN (x : Int) : ∀ u ∈ encN x, u.oneCell' = true := by
  intro u hu
  simp [encN] at hu
  subst hu; rfl
theorem setN_take_drop (xs : List Int) (n k : Nat) (hk : k < n) (hn : n = xs.length) :
    ((xs.take k ++ List.replicate (n - k) 0).map (Value.int .i64)).set k (.int .i64 (xs[k]?.getD 0)) = (xs.take (k + 1) ++ List.replicate (n - (k + 1)) 0).map (Value.int .i64) := by
  subst hn
  rw [← fill_set xs 0 k xs[k] (by simp [hk]), List.map_set]
  simp [hk]

set_option maxHeartbeats 1000000 in
theorem toints_any (v : Value) (xs : List Int) (w : World) (hlen : xs.length ≤ 1073741824) (hv : SegN w v xs) :
    Calls Try.prog 51 #[v] w fun e w' => ∃ u, e = .returned u ∧ w'.ownsRow w.heap.size 3 1 u xs.length (xs.map (Value.int .i64)) ∧ Below w.heap.size w w' := by
  obtain ⟨i0, hi, hz0, hz1, hz2⟩ := info_parts Try.infoInt
  have hb2 : i0.bytes * xs.length ≤ 281474976710656 := by rw [hz2]; omega
  have hml : xs.length ≤ maxLen := by unfold maxLen; omega
  have HZ2 := hide hz2
  clear hz2
  obtain ⟨a, cap, rfl, hcap, h⟩ := hv
  rcases h with rfl | ⟨b, off, rfl, hbw, hc⟩
  · go_enter Try.func51, Try.ntmps51
    go_wp2_with (first | (at_make; refine wpList_make_full _ rfl _ _ 35 rfl w.heap.size 3 i0 (.int .i64 0) 1 Try.underlying35 hi hz0 hz1 .i64 .i64 _ _ 0 rfl rfl rfl rfl hb2 hml (Nat.le_refl _) ?_))
    intro w1 hown hgrow
    have hbel : Below w.heap.size w w1 := (Below.refl _ _).grown hgrow (Nat.le_refl _) (fun k hk => by cases hk)
    go_wp2
    go_loop [4] (fun i => i = .int .i64 0) (fun i => 0)
    case atStart => rfl
    case round =>
      subst hrel
      go_wp2
      go_ret
      exact ⟨_, rfl, by have e := toList_madeCells_one (.int .i64 0) 0; rw [e] at hown; simpa using hown, hbel⟩
  · have HC := hide hc
    clear hc
    go_enter Try.func51, Try.ntmps51
    go_wp2_with (first | (at_make; refine wpList_make_full _ rfl _ _ 35 rfl w.heap.size 3 i0 (.int .i64 0) 1 Try.underlying35 hi hz0 hz1 .i64 .i64 _ _ xs.length rfl rfl rfl rfl hb2 hml (Nat.le_refl _) ?_))
    intro w1 hown hgrow
    have hbel : Below w.heap.size w w1 := (Below.refl _ _).grown hgrow (Nat.le_refl _) (fun k hk => by cases hk)
    have hsz : w.heap.size < w1.heap.size := (hown.lt w.heap.size rfl).2
    have hown0 : w1.ownsRow w.heap.size 3 1 (.slice (some ⟨w.heap.size, 0, none⟩) xs.length xs.length) xs.length ((xs.take 0 ++ List.replicate (xs.length - 0) 0).map (Value.int .i64)) := by
      have e := toList_madeCells_one (.int .i64 0) xs.length
      rw [e] at hown
      simpa using hown
    clear hown hgrow
    go_wp2
    go_loopw [4] (fun i wr => ∃ k : Nat, k ≤ xs.length ∧ i = .int .i64 k ∧ wr.ownsRow w.heap.size 3 1 (.slice (some ⟨w.heap.size, 0, none⟩) xs.length xs.length) xs.length ((xs.take k ++ List.replicate (xs.length - k) 0).map (Value.int .i64)) ∧ Below w.heap.size w wr) (fun i _ => xs.length - (intOf i).toNat)
    case atStart => exact ⟨0, Nat.zero_le _, rfl, hown0, hbel⟩
    case round =>
      obtain ⟨k, hk, rfl, hown, hb⟩ := hrel
      clear hown0 hbel hsz
      by_cases hlt : k < xs.length
      · have hcx : wr.cell? ⟨b, off + k, none⟩ = some (.int .i64 (xs.getD k 0)) := (hb.cell (p := ⟨b, off + k, none⟩) hbw).trans (unhide HC k hlt)
        have hst := setN_take_drop xs xs.length k hlt rfl
        have hfz := hown.frozenAt k
        have hcy := hown.cellAt k (by omega)
        have hex : ∃ y, wr.cell? ⟨w.heap.size, k, none⟩ = some y := by
          rw [hcy]
          exact ⟨_, List.getElem?_eq_getElem (by simp; omega)⟩
        obtain ⟨y, hy⟩ := hex
        clear hcy
        rw [← List.getD_eq_getElem?_getD] at hst
        generalize hz : xs.getD k 0 = z at hcx hst
        have R1 := (hown.stored k (.int .i64 z)).1
        rw [hst] at R1
        have R2 := hb.setCell (p := ⟨w.heap.size, k, none⟩) (Nat.le_refl _) (.int .i64 z)
        have HR1 := hide R1
        have HR2 := hide R2
        clear hz hst R1 R2 hown hb
        go_wp2
        go_roundw
        case rel => exact ⟨k + 1, by omega, by go_num, HR1.out, HR2.out⟩
        case measure => simp [intOf]; omega
      · have hkl : k = xs.length := by omega
        subst hkl
        go_wp2
        go_ret
        exact ⟨_, rfl, by simpa using hown, hb⟩

set_option maxHeartbeats 1000000 in
theorem eqints_same (v u : Value) (xs : List Int) (w : World) (hlen : xs.length ≤ 140737488351232) (hv : SegN w v xs) (hu : SegN w u xs) :
    Calls Try.prog 61 #[v, u] w fun e w' => e = .returned (.bool true) ∧ ∀ B, Below B w w' := by
  obtain ⟨a, cap, rfl, hcap, h⟩ := hv
  obtain ⟨a', cap', rfl, hcap', h'⟩ := hu
  have hne : ((xs.length : Int) != (xs.length : Int)) = false := by simp
  rcases h with rfl | ⟨b, off, rfl, hbw, hc⟩
  · go_enter Try.func61, Try.ntmps61
    go_wp2
    go_loop [5] (fun i => i = .int .i64 0) (fun i => 0)
    case atStart => rfl
    case round =>
      subst hrel
      go_wp2
      go_ret
      exact ⟨rfl, fun B => Below.refl _ _⟩
  · rcases h' with rfl | ⟨b', off', rfl, hbw', hc'⟩
    · go_enter Try.func61, Try.ntmps61
      go_wp2
      go_loop [5] (fun i => i = .int .i64 0) (fun i => 0)
      case atStart => rfl
      case round =>
        subst hrel
        go_wp2
        go_ret
        exact ⟨rfl, fun B => Below.refl _ _⟩
    · have HC := hide hc
      have HC' := hide hc'
      clear hc hc'
      go_enter Try.func61, Try.ntmps61
      go_wp2
      go_loopw [5] (fun i wr => ∃ k : Nat, k ≤ xs.length ∧ i = .int .i64 k ∧ ∀ B, Below B w wr) (fun i _ => xs.length - (intOf i).toNat)
      case atStart => exact ⟨0, Nat.zero_le _, rfl, fun B => Below.refl _ _⟩
      case round =>
        obtain ⟨k, hk, rfl, hb⟩ := hrel
        by_cases hlt : k < xs.length
        · have hcx : wr.cell? ⟨b, off + k, none⟩ = some (.int .i64 (xs.getD k 0)) := ((hb (b + 1)).cell (p := ⟨b, off + k, none⟩) (Nat.lt_succ_self _)).trans (unhide HC k hlt)
          have hcy : wr.cell? ⟨b', off' + k, none⟩ = some (.int .i64 (xs.getD k 0)) := ((hb (b' + 1)).cell (p := ⟨b', off' + k, none⟩) (Nat.lt_succ_self _)).trans (unhide HC' k hlt)
          generalize hz : xs.getD k 0 = z at hcx hcy
          have hzz : (z != z) = false := by simp
          have HB := hide hb
          clear hz hb
          go_wp2
          go_quiet (fail)
          go_wp2
          go_roundw
          case rel => exact ⟨k + 1, by omega, by go_num, fun B => below_drewN (HB.out B) _⟩
          case measure => simp [intOf]; omega
        · go_wp2
          go_ret
          exact ⟨rfl, hb⟩

theorem grown_on {w w1 w2 : World} {g : Option Nat} (h : w.grownBy w1 g) (k : w1.grownBy w2 g) : w.grownBy w2 g :=
  ⟨k.os.trans h.os, k.tape.trans h.tape, k.output.trans h.output, Nat.le_trans h.size k.size, fun i hi hne => (k.block i (Nat.lt_of_lt_of_le hi h.size) hne).trans (h.block i hi hne)⟩
/-- The marks: from k on, a byte each. -/
def markN (k : Int) (n : Nat) : List Int := (List.range n).map fun i : Nat => k + (i : Int)

theorem markN_length (k : Int) (n : Nat) : (markN k n).length = n := by simp [markN]
theorem markN_succ (k : Int) (n : Nat) : markN k (n + 1) = markN k n ++ [(k + n)] := by simp [markN, List.range_succ]
theorem markN_get (k : Int) (n i : Nat) (h : i < n) : (markN k n).getD i 0 = (k + i) := by simp [markN, h]

theorem markN_set (k : Int) (xs : List Int) (j : Nat) (hj : j < xs.length) :
    ((markN k j ++ xs.drop j).map (Value.int .i64)).set j (.int .i64 ((k + j))) = (markN k (j + 1) ++ xs.drop (j + 1)).map (Value.int .i64) := by
  rw [markN_succ, List.drop_eq_getElem_cons hj]
  simp only [List.map_append, List.map_cons, List.append_assoc, List.cons_append, List.nil_append]
  rw [List.set_append_right _ _ (by simp [markN_length])]
  simp [markN_length]

set_option maxHeartbeats 1000000 in
set_option maxRecDepth 100000 in
theorem markN_any (E : TypeId) (B : Nat) (v : Value) (xs : List Int) (k : Int) (n : Nat) (w : World) (hlen : n ≤ 140737488351232) (hk0 : 0 ≤ k) (hk1 : k ≤ 140737488351232) (hv : w.ownsRow B E 1 v n (xs.map (Value.int .i64))) :
    Calls Try.prog 65 #[v, .int .i64 k] w fun e w' => e = .returned (.int .i64 (k + n)) ∧ w'.ownsRow B E 1 v n ((markN k n).map (Value.int .i64)) ∧ w.grownBy w' v.ownBlock := by
  have hn : n = xs.length := by have := hv.1; simp at this; omega
  subst hn
  have HV := hide hv
  rcases hv.2 with ⟨rfl, h0⟩ | ⟨g, cap, cur, rfl, hb, hg, hnc, hcm, hcs, htake⟩
  · have hx : xs = [] := List.eq_nil_of_length_eq_zero h0
    subst hx
    clear hv h0
    go_enter Try.func65, Try.ntmps65
    go_wp2
    go_loop [1, 5] (fun q i => i = .int .i64 0 ∧ q = .int .i64 k) (fun _ i => 0)
    case atStart => exact ⟨rfl, rfl⟩
    case round =>
      obtain ⟨rfl, rfl⟩ := hrel
      go_wp2
      go_ret
      exact ⟨ret_int (by simp), (unhide HV : w.ownsRow B E 1 (.slice none 0 0) 0 []), World.grownBy.refl _ _⟩
  · clear hv hg hnc hcm hcs htake
    go_enter Try.func65, Try.ntmps65
    go_wp2
    go_loopw [1, 5] (fun q i wr => ∃ j : Nat, j ≤ xs.length ∧ i = .int .i64 j ∧ q = .int .i64 (k + j) ∧ wr.ownsRow B E 1 (.slice (some ⟨g, 0, none⟩) xs.length cap) xs.length ((markN k j ++ xs.drop j).map (Value.int .i64)) ∧ w.grownBy wr (some g)) (fun _ i _ => xs.length - (intOf i).toNat)
    case atStart => exact ⟨0, Nat.zero_le _, rfl, by simp, by simpa [markN] using unhide HV, World.grownBy.refl _ _⟩
    case round =>
      obtain ⟨j, hj, rfl, rfl, hown, hbel⟩ := hrel
      by_cases hlt : j < xs.length
      · have hst := markN_set k xs j hlt
        have hfz := hown.frozenAt j
        have hcy := hown.cellAt j (by omega)
        have hex : ∃ y, wr.cell? ⟨g, j, none⟩ = some y := by
          rw [hcy]
          exact ⟨_, List.getElem?_eq_getElem (by simp [markN_length]; omega)⟩
        obtain ⟨y, hy⟩ := hex
        have R1 := (hown.stored j (.int .i64 ((k + j)))).1
        rw [hst] at R1
        have R2 := grown_on hbel (hown.stored j (.int .i64 ((k + j)))).2
        have HR1 := hide R1
        have HR2 := hide R2
        clear hst hcy R1 R2 hown hbel
        go_wp2
        go_roundw
        case rel => exact ⟨j + 1, by omega, by go_num, by go_num, HR1.out, HR2.out⟩
        case measure => simp [intOf]; omega
      · have hkl : j = xs.length := by omega
        subst hkl
        go_wp2
        go_ret
        exact ⟨rfl, by simpa using hown, hbel⟩

end Go.Proofs.Ytjlocbimkfocnaa
