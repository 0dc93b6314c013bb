/-
  Two entries are drawn of the code, and of the code without its first byte. No statement is proved here.
-/
import Derived.Test.YtnalnjokijbhbaaEntTwo
namespace Go.Proofs.Ytnalnjokijbhbaa
open Go.RowKit

set_option maxHeartbeats 4000000 in
set_option maxRecDepth 100000 in
theorem drawcmp_any (v : Value) (xs : List Int) (w : World) (hlen : xs.length ≤ 1048576) (hbd : ∀ z ∈ xs, 0 ≤ z ∧ z ≤ 255) (hv : Seg w v xs) :
    Calls Try.prog 10 #[v] w fun e w' => (∃ ai ar ab av ad bi br bb bv bd, e = .returned (.tuple #[.agg #[.int .i64 ai, .int .i64 ar, .int .i64 ab, .int .i64 av, .string ad], .agg #[.int .i64 bi, .int .i64 br, .int .i64 bb, .int .i64 bv, .string bd]]) ∧ ad.size ≤ 9 ∧ bd.size ≤ 9) ∧ Below w.heap.size w w' := by
  have HD := hide hbd
  obtain ⟨z0, hz0⟩ : ∃ o, o = Obj.cells #[.int .i64 0, .int .i64 0, .int .i64 0, .int .i64 0, .string ⟨#[]⟩] 25 := ⟨_, rfl⟩
  have HS := hide (hv.below (((Below.refl w.heap.size w).alloc (Nat.le_refl _) z0).alloc (by simp) z0) (Nat.le_refl _))
  have n1 := hide ((Below.heap_alloc (w.alloc z0) z0 w.heap.size (by simp)).trans (heap_alloc_new w z0))
  have n2 := heap_alloc_new (w.alloc z0) z0
  rw [show (w.alloc z0).heap.size = w.heap.size + 1 by simp] at n2
  have N2 := hide n2
  subst hz0
  clear hbd hv n2
  go_enter Try.func10, Try.ntmps10
  go_wp2_with fail
  refine (two_any v xs _ hlen (unhide HD) (unhide HS)).mono ?_
  rintro e w1 ⟨⟨ai, ar, ab, av, ad, bi, br, bb, bv, bd, rfl, ha, hb⟩, b1⟩
  have R1 := (b1.block _ (by simp; omega)).trans (unhide n1)
  have Q1 := (b1.block _ (by simp)).trans (unhide N2)
  have B1 := hide ((((Below.refl w.heap.size w).alloc (Nat.le_refl _) _).alloc (by simp) _).trans (b1.mono (by simp; omega)))
  have HA := hide ha
  have HB := hide hb
  obtain ⟨p0, p1, p2, p3, p4, p5⟩ := blk_cells5 R1
  obtain ⟨q0, q1, q2, q3, q4, q5⟩ := blk_cells5 Q1
  clear b1 R1 Q1 ha hb n1 N2 HS
  go_wp2
  exact bodyPost_ret (v := .tuple #[.agg #[.int .i64 ai, .int .i64 ar, .int .i64 ab, .int .i64 av, .string ad], .agg #[.int .i64 bi, .int .i64 br, .int .i64 bb, .int .i64 bv, .string bd]]) (by simp [results, Try.results10, go_sem, p0, p1, p2, p3, p4, q0, q1, q2, q3, q4]) rfl ⟨⟨_, _, _, _, _, _, _, _, _, _, rfl, unhide HA, unhide HB⟩, below_set5 (by omega) (below_set5 (Nat.le_refl _) (unhide B1))⟩

theorem tail_seg {w : World} {b off cap n : Nat} {xs : List Int} (hn : n = xs.length - 1) (hcap : xs.length ≤ cap) (h0 : xs.length ≠ 0) (hlt : b < w.heap.size) (hc : ∀ i, i < xs.length → w.cell? ⟨b, off + i, none⟩ = some (.int .u8 (xs.getD i 0))) : Seg w (.slice (some ⟨b, off + 1, none⟩) n (cap - 1)) xs.tail := by
  refine Seg.mk (by simp [hn]) (by omega) (.inr ⟨b, off + 1, rfl, hlt, fun i hi => ?_⟩)
  simp at hi
  rw [show off + 1 + i = off + (i + 1) by omega, hc (i + 1) (by omega)]
  cases xs with
  | nil => simp at h0
  | cons x r => simp

set_option maxHeartbeats 1000000 in
theorem tail_any (v : Value) (xs : List Int) (w : World) (hlen : xs.length ≤ 1048576) (hv : Seg w v xs) :
    Calls Try.prog 11 #[v] w fun e w' => (∃ v', e = .returned v' ∧ Seg w v' xs.tail) ∧ w = w' := by
  obtain ⟨a, cap, rfl, hcap, hr⟩ := hv
  by_cases h0 : xs.length = 0
  · obtain rfl : xs = [] := List.eq_nil_of_length_eq_zero h0
    go_enter Try.func11, Try.ntmps11
    go_wp2
    go_ret
    exact ⟨⟨_, rfl, ⟨a, cap, rfl, hcap, .inl rfl⟩⟩, rfl⟩
  · rcases hr with rfl | ⟨b, off, rfl, hlt, hc⟩
    · simp at h0
    have HC := hide hc
    clear hc
    have hd : ((xs.length : Int) == 0) = false := by simp only [beq_eq_false_iff_ne, ne_eq]; omega
    by_cases h1 : cap = 1
    · subst h1
      go_enter Try.func11, Try.ntmps11
      go_wp2
      go_ret
      exact ⟨⟨_, rfl, Seg.mk (by simp; omega) (by omega) (.inl (by apply List.eq_nil_of_length_eq_zero; simp; omega))⟩, rfl⟩
    · go_enter Try.func11, Try.ntmps11
      go_wp2
      go_ret
      exact ⟨⟨_, rfl, tail_seg rfl hcap h0 hlt (unhide HC)⟩, rfl⟩
end Go.Proofs.Ytnalnjokijbhbaa
