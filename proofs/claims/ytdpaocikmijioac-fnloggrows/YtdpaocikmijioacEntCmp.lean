/-
  EntryCmp. No statement is proved here.
-/
import Derived.Test.YtdpaocikmijioacEntA
import Derived.Deep.RegionHeld3
import Derived.Laws.Cover1
namespace Go.Proofs.Ytdpaocikmijioac
open Go.RowKit

def cmpI (x y : Int) : Int := if x < y then -1 else if y < x then 1 else 0
def cmpS (x y : ByteArray) : Int := if Op.bytesLess x.toList y.toList = true then -1 else if (x.toList == y.toList) = true then 0 else 1

theorem nan_is (x : Int) (w : World) : Calls Try.prog 107 #[.int .i64 x] w fun e w' => e = .returned (.bool false) ∧ w = w' := by
  have hd : (x != x) = false := by simp
  go_enter Try.func107, Try.ntmps107
  go_wp2
  go_ret
  exact ⟨rfl, rfl⟩

theorem nans_is (x : ByteArray) (w : World) : Calls Try.prog 128 #[.string x] w fun e w' => e = .returned (.bool false) ∧ w = w' := by
  have hd : (x.toList == x.toList) = true := by simp
  go_enter Try.func128, Try.ntmps128
  go_wp2
  go_ret
  exact ⟨rfl, rfl⟩

theorem cmpI_ways (x y : Int) : (decide (x < y) = true ∧ cmpI x y = -1) ∨ (decide (x < y) = false ∧ decide (y < x) = true ∧ cmpI x y = 1) ∨ (decide (x < y) = false ∧ decide (y < x) = false ∧ cmpI x y = 0) := by
  by_cases h : x < y
  · exact .inl (by simp [cmpI, h])
  · by_cases h2 : y < x
    · exact .inr (.inl (by simp [cmpI, h, h2]))
    · exact .inr (.inr (by simp only [cmpI, h, h2]; simp))

theorem cmpS_ways (x y : ByteArray) : (Op.bytesLess x.toList y.toList = true ∧ cmpS x y = -1) ∨ (Op.bytesLess x.toList y.toList = false ∧ (x.toList == y.toList) = true ∧ cmpS x y = 0) ∨ (Op.bytesLess x.toList y.toList = false ∧ (x.toList == y.toList) = false ∧ cmpS x y = 1) := by
  unfold cmpS
  rcases Bool.eq_false_or_eq_true (Op.bytesLess x.toList y.toList) with h | h <;> rcases Bool.eq_false_or_eq_true (x.toList == y.toList) with h2 | h2 <;> rw [h, h2] <;> simp

set_option maxHeartbeats 1000000 in
theorem cmpi_is (x y : Int) (w : World) : Calls Try.prog 95 #[.int .i64 x, .int .i64 y] w fun e w' => e = .returned (.int .i64 (cmpI x y)) ∧ w = w' := by
  rcases cmpI_ways x y with ⟨h1, h3⟩ | ⟨h1, h2, h3⟩ | ⟨h1, h2, h3⟩
  all_goals
    rw [h3]
    clear h3
    go_enter Try.func95, Try.ntmps95
    go_wp2_with fail
    refine (nan_is _ _).mono ?_
    rintro e _ ⟨rfl, rfl⟩
    go_wp2_with fail
    refine (nan_is _ _).mono ?_
    rintro e _ ⟨rfl, rfl⟩
    go_wp2
    go_ret
    exact ⟨rfl, rfl⟩

set_option maxHeartbeats 1000000 in
theorem cmps_is (x y : ByteArray) (w : World) : Calls Try.prog 122 #[.string x, .string y] w fun e w' => e = .returned (.int .i64 (cmpS x y)) ∧ w = w' := by
  rcases cmpS_ways x y with ⟨h1, h3⟩ | ⟨h1, h2, h3⟩ | ⟨h1, h2, h3⟩
  all_goals
    rw [h3]
    clear h3
    go_enter Try.func122, Try.ntmps122
    go_wp2_with fail
    refine (nans_is _ _).mono ?_
    rintro e _ ⟨rfl, rfl⟩
    go_wp2_with fail
    refine (nans_is _ _).mono ?_
    rintro e _ ⟨rfl, rfl⟩
    go_wp2
    go_ret
    exact ⟨rfl, rfl⟩

/-- The first that is not 0, else 0. -/
def orL : List Int → Int
  | [] => 0
  | x :: r => if x = 0 then orL r else x
theorem orL_step {xs : List Int} {k : Nat} (h : k < xs.length) : orL (xs.drop k) = if xs.getD k 0 = 0 then orL (xs.drop (k + 1)) else xs.getD k 0 := by
  rw [List.drop_eq_getElem_cons h, orL]
  simp [List.getD_eq_getElem?_getD, h]

set_option maxHeartbeats 1000000 in
theorem or_is (g n : Nat) (xs : List Int) (hn : n = xs.length) (hm : n ≤ 1048576) (w : World) (hc : ∀ j, j < xs.length → w.cell? ⟨g, j, none⟩ = some (.int .i64 (xs.getD j 0))) :
    Calls Try.prog 121 #[.slice (some ⟨g, 0, none⟩) n n] w fun e w' => e = .returned (.int .i64 (orL xs)) ∧ w = w' := by
  subst hn
  have HC := hide hc
  clear hc
  go_enter Try.func121, Try.ntmps121
  go_wp2
  go_loop [8] (fun i => ∃ k : Nat, k ≤ xs.length ∧ i = .int .i64 k ∧ orL (xs.drop k) = orL xs) (fun i => xs.length - (intOf i).toNat)
  case atStart => exact ⟨0, Nat.zero_le _, rfl, rfl⟩
  case round =>
    obtain ⟨k, hk, rfl, hor⟩ := hrel
    have HO := hide hor
    clear hor
    by_cases hlt : k < xs.length
    · have hcx := unhide HC k hlt
      have HS := hide (orL_step hlt)
      generalize xs.getD k 0 = z at hcx HS
      by_cases hz : z = 0
      · have hd : (z != 0) = false := by simpa using hz
        have HZ := hide hz
        clear hz
        go_wp2
        go_round
        case rel => exact ⟨k + 1, by omega, by go_num, by have := unhide HS; rw [if_pos (unhide HZ)] at this; rw [← this]; exact unhide HO⟩
        case measure => simp [intOf]; omega
      · have hd : (z != 0) = true := by simpa using hz
        have HZ := hide hz
        clear hz
        go_wp2
        go_ret
        exact ⟨ret_int (by have := unhide HS; rw [if_neg (unhide HZ)] at this; rw [← this]; exact unhide HO), rfl⟩
    · go_wp2
      go_ret
      exact ⟨ret_int (by rw [← unhide HO, List.drop_of_length_le (by omega)]; rfl), rfl⟩

theorem or5_is (g : Nat) (x0 x1 x2 x3 x4 : Int) (T : TypeId) (w : World) (hg : w.heap[g]? = some (.cells #[.int .i64 x0, .int .i64 x1, .int .i64 x2, .int .i64 x3, .int .i64 x4] T (0, 0))) :
    Calls Try.prog 121 #[.slice (some ⟨g, 0, none⟩) 5 5] w fun e w' => e = .returned (.int .i64 (orL [x0, x1, x2, x3, x4])) ∧ w = w' :=
  or_is g 5 [x0, x1, x2, x3, x4] rfl (by omega) w fun j hj => by
    match j, hj with
    | 0, _ | 1, _ | 2, _ | 3, _ | 4, _ => simp [World.cell?, hg]

theorem new2 (w : World) (A B C : Obj) : (((w.alloc A).alloc B).alloc C).drew.heap[w.heap.size + 1 + 1]? = some C := by
  have h := heap_alloc_new ((w.alloc A).alloc B) C
  have e : ((w.alloc A).alloc B).heap.size = w.heap.size + 1 + 1 := by simp
  rw [e] at h
  exact h

def cmpE (ai ar ab av : Int) (ad : ByteArray) (bi br bb bv : Int) (bd : ByteArray) : Int := orL [cmpI ai bi, cmpI ar br, cmpI ab bb, cmpI av bv, cmpS ad bd]

set_option maxHeartbeats 2000000 in
theorem icmp_any (ai ar ab av : Int) (ad : ByteArray) (bi br bb bv : Int) (bd : ByteArray) (w : World) :
    Calls Try.prog 110 #[.agg #[.int .i64 ai, .int .i64 ar, .int .i64 ab, .int .i64 av, .string ad], .agg #[.int .i64 bi, .int .i64 br, .int .i64 bb, .int .i64 bv, .string bd]] w fun e w' => e = .returned (.int .i64 (cmpE ai ar ab av ad bi br bb bv bd)) ∧ Below w.heap.size w w' := by
  go_enter Try.func110, Try.ntmps110
  go_wp2_with fail
  go_region_held3 (fun w' => w'.cell? ⟨w.heap.size, 0, none⟩ = some (.int .i64 ai) ∧ w'.cell? ⟨w.heap.size, 1, none⟩ = some (.int .i64 ar) ∧ w'.cell? ⟨w.heap.size, 2, none⟩ = some (.int .i64 ab) ∧ w'.cell? ⟨w.heap.size, 3, none⟩ = some (.int .i64 av) ∧ w'.cell? ⟨w.heap.size, 4, none⟩ = some (.string ad) ∧ w'.cell? ⟨w.heap.size + 1, 0, none⟩ = some (.int .i64 bi) ∧ w'.cell? ⟨w.heap.size + 1, 1, none⟩ = some (.int .i64 br) ∧ w'.cell? ⟨w.heap.size + 1, 2, none⟩ = some (.int .i64 bb) ∧ w'.cell? ⟨w.heap.size + 1, 3, none⟩ = some (.int .i64 bv) ∧ w'.cell? ⟨w.heap.size + 1, 4, none⟩ = some (.string bd)) (go_keep)
    (first
      | (go_at_call 95; refine (cmpi_is _ _ _).mono ?_; rintro e w' ⟨rfl, rfl⟩)
      | (go_at_call 122; refine (cmps_is _ _ _).mono ?_; rintro e w' ⟨rfl, rfl⟩)
      | (go_at_call 121; refine (or5_is (w.heap.size + 1 + 1) (cmpI ai bi) (cmpI ar br) (cmpI ab bb) (cmpI av bv) (cmpS ad bd) 3 _ ?_).mono ?_; exact new2 w _ _ _; rintro e w' ⟨rfl, rfl⟩))
  all_goals go_wp2
  all_goals go_ret
  all_goals exact ⟨rfl, ((((Below.refl _ _).alloc (Nat.le_refl _) _).alloc (by simp) _).alloc (by simp <;> omega) _).drew⟩
end Go.Proofs.Ytdpaocikmijioac
