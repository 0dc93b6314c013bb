/-
  The draws of chapter 1 and the small helpers of the laws: what they draw is within its bounds, and nothing that was there turns. No statement is proved here.
-/
import Derived.Test.YthpnidkhapcfoaaDraw
namespace Go.Proofs.Ythpnidkhapcfoaa
open Go.RowKit

theorem Cur.later {w w' : World} {g : Nat} {v : Value} {xs : List Int} (h : Cur w g v xs) {B : Nat} (hb : Below B w w') (hB : w.heap.size ≤ B) : Cur w' g v xs := by
  obtain ⟨⟨i, k, hg, hi⟩, hs, hn⟩ := h
  have hlt : g < w.heap.size := (Array.getElem?_eq_some_iff.1 hg).1
  exact ⟨⟨i, k, (hb.block g (by omega)).trans hg, hi⟩, hs.below hb hB, hn⟩
theorem seg_new (w : World) (e : TypeId) (cs : List Value) (n : Nat) (hn : cs.length = n) (h : n ≤ 1000) : SegV (w.alloc (.cells cs.toArray e)) (.slice (some ⟨w.heap.size, 0, none⟩) n n) cs :=
  segv_of_owns (World.ownsRow_lit (base := 0) (size := 1) w cs.toArray n (Nat.zero_le _) (by unfold maxLen; omega) (by simp; omega))
/-- The block that was laid behind the cursor is not the cursor's. -/
theorem not_cur {w w1 : World} (h : w1.heap.size = w.heap.size + 1) (n c : Nat) : ∀ a n' c', Value.slice (some ⟨w1.heap.size, 0, none⟩) n c = .slice (some a) n' c' → a.block ≠ w.heap.size := by
  intro a n' c' he
  simp only [Value.slice.injEq, Option.some.injEq] at he
  rw [← he.1]
  show w1.heap.size ≠ w.heap.size
  omega

theorem below_cur {w w1 w2 : World} {o : Obj} (b1 : Below w.heap.size w w1) (hg : (w1.alloc o).grownBy w2 (some w.heap.size)) : Below w.heap.size w w2 :=
  (b1.alloc b1.size o).grown hg (by have := b1.size; simp; omega) (fun k hk => by simp at hk; omega)

set_option maxHeartbeats 2000000 in
set_option maxRecDepth 100000 in
theorem drawputnum_any (v : Value) (xs : List Int) (w : World) (hlen : xs.length ≤ 1048576) (hbd : ∀ z ∈ xs, 0 ≤ z ∧ z ≤ 255) (hv : Seg w v xs) :
    Calls Try.prog 5 #[v] w fun e w' => (∃ n, e = .returned (.int .i64 n) ∧ -9223372036854775808 ≤ n ∧ n ≤ 9223372036854775807) ∧ Below w.heap.size w w' := by
  have HS := hide hv
  have HD := hide hbd
  clear hv hbd
  go_enter Try.func5, Try.ntmps5
  go_wp2_with fail
  refine (new_any v xs _ hlen (unhide HD) (unhide HS)).mono ?_
  rintro e w1 ⟨rfl, c1, b1, s1⟩
  have C1 := hide c1
  have B1 := hide b1
  have S1 := hide s1
  clear c1 b1 s1
  go_wp2_with fail
  have SG := hide (seg_new w1 3 [.int .i64 0, .int .i64 1, .int .i64 127, .int .i64 128, .int .i64 300, .int .i64 16384, .int .i64 2147483647, .int .i64 2147483648, .int .i64 (-1), .int .i64 9223372036854775807] 10 rfl (by decide))
  have CL := hide ((unhide C1).later ((Below.refl w1.heap.size w1).alloc (Nat.le_refl _) (.cells ([.int .i64 0, .int .i64 1, .int .i64 127, .int .i64 128, .int .i64 300, .int .i64 16384, .int .i64 2147483647, .int .i64 2147483648, .int .i64 (-1), .int .i64 9223372036854775807] : List Value).toArray 3)) (Nat.le_refl _))
  refine (pickint_any w.heap.size v xs (.slice (some ⟨w1.heap.size, 0, none⟩) 10 10) [.int .i64 0, .int .i64 1, .int .i64 127, .int .i64 128, .int .i64 300, .int .i64 16384, .int .i64 2147483647, .int .i64 2147483648, .int .i64 (-1), .int .i64 9223372036854775807] (w1.alloc (.cells ([.int .i64 0, .int .i64 1, .int .i64 127, .int .i64 128, .int .i64 300, .int .i64 16384, .int .i64 2147483647, .int .i64 2147483648, .int .i64 (-1), .int .i64 9223372036854775807] : List Value).toArray 3)) hlen (unhide HD) (unhide CL) (unhide SG) (not_cur (unhide S1) 10 10) (by decide) (by decide)).mono ?_
  rintro e w2 ⟨⟨c, hc, rfl⟩, c2, g2⟩
  have G2 := hide (below_cur (unhide B1) g2)
  have hn : ∃ n, c = .int .i64 n ∧ -9223372036854775808 ≤ n ∧ n ≤ 9223372036854775807 := by
    simp only [List.mem_cons, List.not_mem_nil, or_false] at hc
    rcases hc with rfl | rfl | rfl | rfl | rfl | rfl | rfl | rfl | rfl | rfl
    all_goals exact ⟨_, rfl, by decide, by decide⟩
  obtain ⟨n, rfl, hn0, hn1⟩ := hn
  clear hc c2 g2
  go_wp2
  go_ret
  exact ⟨⟨n, rfl, hn0, hn1⟩, unhide G2⟩

set_option maxHeartbeats 2000000 in
set_option maxRecDepth 100000 in
theorem drawputtext_any (v : Value) (xs : List Int) (w : World) (hlen : xs.length ≤ 1048576) (hbd : ∀ z ∈ xs, 0 ≤ z ∧ z ≤ 255) (hv : Seg w v xs) :
    Calls Try.prog 6 #[v] w fun e w' => (∃ s : ByteArray, e = .returned (.string s) ∧ s.size ≤ 9) ∧ Below w.heap.size w w' := by
  have HS := hide hv
  have HD := hide hbd
  clear hv hbd
  go_enter Try.func6, Try.ntmps6
  go_wp2_with fail
  refine (new_any v xs _ hlen (unhide HD) (unhide HS)).mono ?_
  rintro e w1 ⟨rfl, c1, b1, s1⟩
  have C1 := hide c1
  have B1 := hide b1
  have S1 := hide s1
  clear c1 b1 s1
  go_wp2_with fail
  have SG := hide (seg_new w1 9 [.string ⟨#[]⟩, .string ⟨#[97]⟩, .string ⟨#[116, 119, 111, 32, 119, 111, 114, 100, 115]⟩, .string ⟨#[0, 255]⟩] 4 rfl (by decide))
  have CL := hide ((unhide C1).later ((Below.refl w1.heap.size w1).alloc (Nat.le_refl _) (.cells ([.string ⟨#[]⟩, .string ⟨#[97]⟩, .string ⟨#[116, 119, 111, 32, 119, 111, 114, 100, 115]⟩, .string ⟨#[0, 255]⟩] : List Value).toArray 9)) (Nat.le_refl _))
  refine (pick_any w.heap.size v xs (.slice (some ⟨w1.heap.size, 0, none⟩) 4 4) [.string ⟨#[]⟩, .string ⟨#[97]⟩, .string ⟨#[116, 119, 111, 32, 119, 111, 114, 100, 115]⟩, .string ⟨#[0, 255]⟩] (w1.alloc (.cells ([.string ⟨#[]⟩, .string ⟨#[97]⟩, .string ⟨#[116, 119, 111, 32, 119, 111, 114, 100, 115]⟩, .string ⟨#[0, 255]⟩] : List Value).toArray 9)) hlen (unhide HD) (unhide CL) (unhide SG) (not_cur (unhide S1) 4 4) (by decide) (by decide)).mono ?_
  rintro e w2 ⟨⟨c, hc, rfl⟩, c2, g2⟩
  have G2 := hide (below_cur (unhide B1) g2)
  have hn : ∃ s : ByteArray, c = .string s ∧ s.size ≤ 9 := by
    simp only [List.mem_cons, List.not_mem_nil, or_false] at hc
    rcases hc with rfl | rfl | rfl | rfl
    all_goals exact ⟨_, rfl, by decide⟩
  obtain ⟨s, rfl, hs⟩ := hn
  clear hc c2 g2
  go_wp2
  go_ret
  exact ⟨⟨s, rfl, hs⟩, unhide G2⟩

set_option maxHeartbeats 1000000 in
theorem at0_any (v : Value) (xs : List Int) (i : Nat) (w : World) (hlen : xs.length ≤ 1048576) (hi : i ≤ 1000000) (hbd : ∀ z ∈ xs, 0 ≤ z ∧ z ≤ 255) (hv : Seg w v xs) :
    Calls Try.prog 12 #[v, .int .i64 i] w fun e w' => (∃ x, e = .returned (.int .i64 x) ∧ 0 ≤ x ∧ x ≤ 255) ∧ w = w' := by
  obtain ⟨a, cap, rfl, hcap, hr⟩ := hv
  by_cases hlt : i < xs.length
  · rcases hr with hr | ⟨b, off, rfl, hbw, hc⟩
    · subst hr; simp at hlt
    · have hcx := hc i hlt
      have hzb := hbd (xs.getD i 0) (by simp [hlt])
      generalize hz : xs.getD i 0 = z at hcx hzb
      clear hc hz hbd
      obtain ⟨hz0, hz1⟩ := hzb
      go_enter Try.func12, Try.ntmps12
      go_wp2
      go_ret
      exact ⟨⟨z, rfl, hz0, hz1⟩, rfl⟩
  · clear hr hbd
    go_enter Try.func12, Try.ntmps12
    go_wp2
    go_ret
    exact ⟨⟨_, rfl, Int.emod_nonneg _ (by omega), by have := Int.emod_lt_of_pos ((i : Int) * 7 + xs.length) (show (0 : Int) < 256 by omega); omega⟩, rfl⟩

theorem big_no (a : Option Addr) (n cap : Nat) (w : World) (h : ¬ 1048576 < n) : Calls Try.prog 4 #[.slice a n cap] w fun e w' => e = .returned (.bool false) ∧ w = w' := by
  have hd : decide (1048576 < (n : Int)) = false := by simp; omega
  go_enter Try.func4, Try.ntmps4
  go_wp2
  go_ret
  exact ⟨by rw [← hd]; rfl, rfl⟩

theorem at0_three (v : Value) (xs : List Int) (w : World) (hlen : xs.length ≤ 1048576) (hbd : ∀ z ∈ xs, 0 ≤ z ∧ z ≤ 255) (hv : Seg w v xs) :
    Calls Try.prog 12 #[v, .int .i64 3] w fun e w' => (∃ x, e = .returned (.int .i64 x) ∧ 0 ≤ x ∧ x ≤ 255) ∧ w = w' := at0_any v xs 3 w hlen (by decide) hbd hv
theorem at0_four (v : Value) (xs : List Int) (w : World) (hlen : xs.length ≤ 1048576) (hbd : ∀ z ∈ xs, 0 ≤ z ∧ z ≤ 255) (hv : Seg w v xs) :
    Calls Try.prog 12 #[v, .int .i64 4] w fun e w' => (∃ x, e = .returned (.int .i64 x) ∧ 0 ≤ x ∧ x ≤ 255) ∧ w = w' := at0_any v xs 4 w hlen (by decide) hbd hv
end Go.Proofs.Ythpnidkhapcfoaa
