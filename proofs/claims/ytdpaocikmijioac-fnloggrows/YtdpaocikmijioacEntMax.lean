/-
  Newer, EntryMax, on both sides, and the laws' own comparing of entries. No statement is proved here.
-/
import Derived.Test.YtdpaocikmijioacEntSCmp
import Derived.Test.YtdpaocikmijioacEntP
import Derived.Test.YtdpaocikmijioacShelf
import Derived.Test.YtdpaocikmijioacRegs
namespace Go.Proofs.Ytdpaocikmijioac
open Go.RowKit

set_option maxHeartbeats 1000000 in
theorem inewer_any (ai ar ab av : Int) (ad : ByteArray) (bi br bb bv : Int) (bd : ByteArray) (w : World) :
    Calls Try.prog 104 #[.agg #[.int .i64 ai, .int .i64 ar, .int .i64 ab, .int .i64 av, .string ad], .agg #[.int .i64 bi, .int .i64 br, .int .i64 bb, .int .i64 bv, .string bd]] w fun e w' => e = .returned (.bool (decide (0 < cmpE ai ar ab av ad bi br bb bv bd))) ∧ Below w.heap.size w w' := by
  go_enter Try.func104, Try.ntmps104
  go_wp2_with fail
  refine (icmp_any ai ar ab av ad bi br bb bv bd _).mono ?_
  rintro e w1 ⟨rfl, b1⟩
  have hb := ((((Below.refl w.heap.size w).alloc (Nat.le_refl _) _).alloc (by simp) _).trans (b1.mono (by simp; omega)))
  have HB := hide hb
  clear hb b1
  go_wp2
  go_ret
  exact ⟨rfl, unhide HB⟩

theorem clone_any (x : ByteArray) (hx : x.size ≤ 281474976710656) (w : World) :
    Calls Try.prog 96 #[.string x] w fun e w' => e = .returned (.string x) ∧ Below w.heap.size w w' := by
  go_enter Try.func96, Try.ntmps96
  go_wp2_with fail
  refine (Try.stringslite_Clone x w hx).mono ?_
  rintro e w1 ⟨rfl, b1⟩
  have HB := hide b1
  clear b1
  go_wp2
  go_ret
  exact ⟨rfl, unhide HB⟩

theorem newB2 (w : World) (A B : Obj) : ((w.alloc A).alloc B).heap[w.heap.size + 1]? = some B := by
  have e1 := heap_alloc_new (w.alloc A) B
  have z1 : (w.alloc A).heap.size = w.heap.size + 1 := by simp
  rw [z1] at e1
  exact e1
theorem newB3 (w : World) (A B C : Obj) : (((w.alloc A).alloc B).alloc C).heap[w.heap.size + 1 + 1]? = some C := by
  have e1 := heap_alloc_new ((w.alloc A).alloc B) C
  have z1 : ((w.alloc A).alloc B).heap.size = w.heap.size + 1 + 1 := by simp
  rw [z1] at e1
  exact e1
theorem ent_cells {w : World} {g : Nat} {T : TypeId} {c0 c1 c2 c3 c4 : Value} (h : w.heap[g]? = some (.cells #[c0, c1, c2, c3, c4] T (0, 0))) :
    w.cell? ⟨g, 0, none⟩ = some c0 ∧ w.cell? ⟨g, 1, none⟩ = some c1 ∧ w.cell? ⟨g, 2, none⟩ = some c2 ∧ w.cell? ⟨g, 3, none⟩ = some c3 ∧ w.cell? ⟨g, 4, none⟩ = some c4 ∧ ∀ o, w.frozen? ⟨g, o, none⟩ = false := by
  simp [World.cell?, World.frozen?, h]
theorem ent_set {w : World} {g : Nat} {T : TypeId} {c0 c1 c2 c3 c4 : Value} (h : w.heap[g]? = some (.cells #[c0, c1, c2, c3, c4] T (0, 0))) (v0 v1 v2 v3 v4 : Value) :
    (((((w.setCell ⟨g, 0, none⟩ v0).setCell ⟨g, 1, none⟩ v1).setCell ⟨g, 2, none⟩ v2).setCell ⟨g, 3, none⟩ v3).setCell ⟨g, 4, none⟩ v4).heap[g]? = some (.cells #[v0, v1, v2, v3, v4] T (0, 0)) :=
  heap_setCell_same _ _ _ _ _ _ (heap_setCell_same _ _ _ _ _ _ (heap_setCell_same _ _ _ _ _ _ (heap_setCell_same _ _ _ _ _ _ (heap_setCell_same _ _ _ _ _ _ h))))
theorem ent_far {w : World} {g k : Nat} (hne : k ≠ g) (v0 v1 v2 v3 v4 : Value) :
    (((((w.setCell ⟨g, 0, none⟩ v0).setCell ⟨g, 1, none⟩ v1).setCell ⟨g, 2, none⟩ v2).setCell ⟨g, 3, none⟩ v3).setCell ⟨g, 4, none⟩ v4).heap[k]? = w.heap[k]? := by
  rw [heap_setCell_other _ _ _ _ hne, heap_setCell_other _ _ _ _ hne, heap_setCell_other _ _ _ _ hne, heap_setCell_other _ _ _ _ hne, heap_setCell_other _ _ _ _ hne]
theorem new4 (w : World) (A B C D : Obj) : ((((w.alloc A).alloc B).alloc C).alloc D).heap[w.heap.size + 1]? = some B ∧ ((((w.alloc A).alloc B).alloc C).alloc D).heap[w.heap.size + 1 + 1]? = some C ∧ ((((w.alloc A).alloc B).alloc C).alloc D).heap[w.heap.size + 1 + 1 + 1]? = some D := by
  have e1 := heap_alloc_new (w.alloc A) B
  have e2 := heap_alloc_new ((w.alloc A).alloc B) C
  have e3 := heap_alloc_new (((w.alloc A).alloc B).alloc C) D
  have z1 : (w.alloc A).heap.size = w.heap.size + 1 := by simp
  have z2 : ((w.alloc A).alloc B).heap.size = w.heap.size + 1 + 1 := by simp
  have z3 : (((w.alloc A).alloc B).alloc C).heap.size = w.heap.size + 1 + 1 + 1 := by simp
  rw [z1] at e1
  rw [z2] at e2
  rw [z3] at e3
  refine ⟨?_, ?_, e3⟩
  · rw [Below.heap_alloc _ _ _ (by simp), Below.heap_alloc _ _ _ (by simp)]
    exact e1
  · rw [Below.heap_alloc _ _ _ (by simp)]
    exact e2

set_option maxHeartbeats 2000000 in
theorem icopy_any (ai ar ab av : Int) (ad : ByteArray) (hd : ad.size ≤ 281474976710656) (w : World) :
    Calls Try.prog 71 #[.agg #[.int .i64 ai, .int .i64 ar, .int .i64 ab, .int .i64 av, .string ad]] w fun e w' => e = .returned (.agg #[.int .i64 ai, .int .i64 ar, .int .i64 ab, .int .i64 av, .string ad]) ∧ Below w.heap.size w w' := by
  go_enter Try.func71, Try.ntmps71
  go_wp2_with fail
  refine (clone_any ad hd _).mono ?_
  rintro e w1 ⟨rfl, b1⟩
  have m1 := (b1.block _ (by simp)).trans (newB2 w _ _)
  have m0 := (b1.block w.heap.size (by simp; omega)).trans ((Below.heap_alloc _ _ _ (by simp)).trans (heap_alloc_new w _))
  obtain ⟨p0, p1, p2, p3, p4, p5⟩ := ent_cells m0
  obtain ⟨q0, q1, q2, q3, q4, q5⟩ := ent_cells m1
  have hz1 : w.heap.size + 1 < w1.heap.size := by have := b1.size; simp at this; omega
  have hb : Below w.heap.size w w1 := (((Below.refl w.heap.size w).alloc (Nat.le_refl _) _).alloc (by simp) _).trans (b1.mono (by simp; omega))
  have HB := hide hb
  clear hb b1 m1 m0
  go_wp2
  exact bodyPost_ret (v := .agg #[.int .i64 ai, .int .i64 ar, .int .i64 ab, .int .i64 av, .string ad]) (by simp [results, Try.results71, go_sem, q0, q1, q2, q3, q4]) rfl ⟨rfl, ((((((unhide HB).setCell (p := ⟨w.heap.size, 4, none⟩) (by simp) _).setCell (by simp) _).setCell (by simp) _).setCell (by simp) _).setCell (by simp) _).setCell (by simp) _⟩

set_option maxHeartbeats 2000000 in
theorem imax_b (ai ar ab av : Int) (ad : ByteArray) (bi br bb bv : Int) (bd : ByteArray) (h : 0 < cmpE bi br bb bv bd ai ar ab av ad) (hd : bd.size ≤ 281474976710656) (w : World) :
    Calls Try.prog 92 #[.agg #[.int .i64 ai, .int .i64 ar, .int .i64 ab, .int .i64 av, .string ad], .agg #[.int .i64 bi, .int .i64 br, .int .i64 bb, .int .i64 bv, .string bd]] w fun e w' => e = .returned (.agg #[.int .i64 bi, .int .i64 br, .int .i64 bb, .int .i64 bv, .string bd]) ∧ Below w.heap.size w w' := by
  have H := hide h
  clear h
  go_enter Try.func92, Try.ntmps92
  go_wp2_with fail
  refine (inewer_any bi br bb bv bd ai ar ab av ad _).mono ?_
  rintro e w1 ⟨rfl, b1⟩
  obtain ⟨hc1, hf1⟩ := bcell b1
  have hz1 : w.heap.size + 2 < w1.heap.size := by have := b1.size; simp at this; omega
  have hdd : decide (0 < cmpE bi br bb bv bd ai ar ab av ad) = true := by simpa using unhide H
  have hb : Below w.heap.size w w1 := ((((Below.refl w.heap.size w).alloc (Nat.le_refl _) _).alloc (by simp) _).alloc (by simp; omega) _).trans (b1.mono (by simp; omega))
  have HB := hide hb
  have m1 := hide ((b1.block _ (by simp)).trans (newB3 w _ _ _))
  clear hb b1 H
  go_wp2_with fail
  refine (icopy_any bi br bb bv bd hd _).mono ?_
  rintro e w2 ⟨rfl, b2⟩
  obtain ⟨q0, q1, q2, q3, q4, q5⟩ := ent_cells ((b2.block _ (by omega)).trans (unhide m1))
  have hz2 : w.heap.size + 2 < w2.heap.size := by have := b2.size; omega
  have hb : Below w.heap.size w w2 := (unhide HB).trans (b2.mono (by omega))
  have HB2 := hide hb
  clear hb b2 HB m1 hc1 hf1
  go_wp2
  exact bodyPost_ret (v := .agg #[.int .i64 bi, .int .i64 br, .int .i64 bb, .int .i64 bv, .string bd]) (by simp [results, Try.results92, go_sem, q0, q1, q2, q3, q4]) rfl ⟨rfl, (((((unhide HB2).setCell (by simp; omega) _).setCell (by simp; omega) _).setCell (by simp; omega) _).setCell (by simp; omega) _).setCell (by simp; omega) _⟩

set_option maxHeartbeats 2000000 in
theorem imax_a (ai ar ab av : Int) (ad : ByteArray) (bi br bb bv : Int) (bd : ByteArray) (h : cmpE bi br bb bv bd ai ar ab av ad ≤ 0) (hd : ad.size ≤ 281474976710656) (w : World) :
    Calls Try.prog 92 #[.agg #[.int .i64 ai, .int .i64 ar, .int .i64 ab, .int .i64 av, .string ad], .agg #[.int .i64 bi, .int .i64 br, .int .i64 bb, .int .i64 bv, .string bd]] w fun e w' => e = .returned (.agg #[.int .i64 ai, .int .i64 ar, .int .i64 ab, .int .i64 av, .string ad]) ∧ Below w.heap.size w w' := by
  have H := hide h
  clear h
  go_enter Try.func92, Try.ntmps92
  go_wp2_with fail
  refine (inewer_any bi br bb bv bd ai ar ab av ad _).mono ?_
  rintro e w1 ⟨rfl, b1⟩
  obtain ⟨hc1, hf1⟩ := bcell b1
  have hz1 : w.heap.size + 2 < w1.heap.size := by have := b1.size; simp at this; omega
  have hdd : decide (0 < cmpE bi br bb bv bd ai ar ab av ad) = false := by simpa using unhide H
  have hb : Below w.heap.size w w1 := ((((Below.refl w.heap.size w).alloc (Nat.le_refl _) _).alloc (by simp) _).alloc (by simp; omega) _).trans (b1.mono (by simp; omega))
  have HB := hide hb
  have m1 := hide ((b1.block _ (by simp)).trans (newB3 w _ _ _))
  clear hb b1 H
  go_wp2_with fail
  refine (icopy_any ai ar ab av ad hd _).mono ?_
  rintro e w2 ⟨rfl, b2⟩
  obtain ⟨q0, q1, q2, q3, q4, q5⟩ := ent_cells ((b2.block _ (by omega)).trans (unhide m1))
  have hz2 : w.heap.size + 2 < w2.heap.size := by have := b2.size; omega
  have hb : Below w.heap.size w w2 := (unhide HB).trans (b2.mono (by omega))
  have HB2 := hide hb
  clear hb b2 HB m1 hc1 hf1
  go_wp2
  exact bodyPost_ret (v := .agg #[.int .i64 ai, .int .i64 ar, .int .i64 ab, .int .i64 av, .string ad]) (by simp [results, Try.results92, go_sem, q0, q1, q2, q3, q4]) rfl ⟨rfl, (((((unhide HB2).setCell (by simp; omega) _).setCell (by simp; omega) _).setCell (by simp; omega) _).setCell (by simp; omega) _).setCell (by simp; omega) _⟩

set_option maxHeartbeats 2000000 in
theorem eqentry_same (ai ar ab av : Int) (ad : ByteArray) (w : World) :
    Calls Try.prog 37 #[.agg #[.int .i64 ai, .int .i64 ar, .int .i64 ab, .int .i64 av, .string ad], .agg #[.int .i64 ai, .int .i64 ar, .int .i64 ab, .int .i64 av, .string ad]] w fun e w' => e = .returned (.bool true) ∧ Below w.heap.size w w' := by
  have d0 : (ai != ai) = false := by simp
  have d1 : (ar != ar) = false := by simp
  have d2 : (ab != ab) = false := by simp
  have d3 : (av != av) = false := by simp
  have d4 : (ad.toList == ad.toList) = true := by simp
  go_enter Try.func37, Try.ntmps37
  go_wp2
  go_ret
  exact ⟨rfl, ((Below.refl w.heap.size w).alloc (Nat.le_refl _) _).alloc (by simp) _⟩

/-- x is the one of a and b that is behind. -/
def IsMax (ai ar ab av : Int) (ad : ByteArray) (bi br bb bv : Int) (bd : ByteArray) (xi xr xb xv : Int) (xd : ByteArray) : Prop :=
  (cmpE ai ar ab av ad bi br bb bv bd < 0 ∧ xi = bi ∧ xr = br ∧ xb = bb ∧ xv = bv ∧ xd = bd) ∨ (0 ≤ cmpE ai ar ab av ad bi br bb bv bd ∧ xi = ai ∧ xr = ar ∧ xb = ab ∧ xv = av ∧ xd = ad)
theorem isMax_ex (ai ar ab av : Int) (ad : ByteArray) (bi br bb bv : Int) (bd : ByteArray) : ∃ (xi xr xb xv : Int) (xd : ByteArray), IsMax ai ar ab av ad bi br bb bv bd xi xr xb xv xd := by
  by_cases h : cmpE ai ar ab av ad bi br bb bv bd < 0
  · exact ⟨_, _, _, _, _, .inl ⟨h, rfl, rfl, rfl, rfl, rfl⟩⟩
  · exact ⟨_, _, _, _, _, .inr ⟨by omega, rfl, rfl, rfl, rfl, rfl⟩⟩
theorem imax_is (ai ar ab av : Int) (ad : ByteArray) (bi br bb bv : Int) (bd : ByteArray) (xi xr xb xv : Int) (xd : ByteArray) (h : IsMax ai ar ab av ad bi br bb bv bd xi xr xb xv xd) (ha : ad.size ≤ 281474976710656) (hb : bd.size ≤ 281474976710656) (w : World) :
    Calls Try.prog 92 #[.agg #[.int .i64 ai, .int .i64 ar, .int .i64 ab, .int .i64 av, .string ad], .agg #[.int .i64 bi, .int .i64 br, .int .i64 bb, .int .i64 bv, .string bd]] w fun e w' => e = .returned (.agg #[.int .i64 xi, .int .i64 xr, .int .i64 xb, .int .i64 xv, .string xd]) ∧ Below w.heap.size w w' := by
  have an : cmpE bi br bb bv bd ai ar ab av ad = - cmpE ai ar ab av ad bi br bb bv bd := by rw [cmpE_key, cmpE_key]; exact keyC_is.anti _ _
  rcases h with ⟨h, rfl, rfl, rfl, rfl, rfl⟩ | ⟨h, rfl, rfl, rfl, rfl, rfl⟩
  · exact imax_b _ _ _ _ _ _ _ _ _ _ (by omega) hb w
  · exact imax_a _ _ _ _ _ _ _ _ _ _ (by omega) ha w
end Go.Proofs.Ytdpaocikmijioac
