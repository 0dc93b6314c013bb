/-
  Newer, EntryMax, on both sides, and the laws' own comparing of entries. No statement is proved here.
-/
import Derived.Test.YtbajnnpihjmjmaaEntSCmp
import Derived.Test.YtbajnnpihjmjmaaEntP
import Derived.Test.YtbajnnpihjmjmaaRegs
namespace Go.Proofs.Ytbajnnpihjmjmaa
open Go.RowKit

theorem newB2 (w : World) (A B : Obj) : ((w.alloc A).alloc B).heap[w.heap.size + 1]? = some B := by
  have e1 := heap_alloc_new (w.alloc A) B
  have z1 : (w.alloc A).heap.size = w.heap.size + 1 := by simp
  rw [z1] at e1
  exact e1
theorem newB3 (w : World) (A B C : Obj) : (((w.alloc A).alloc B).alloc C).heap[w.heap.size + 1 + 1]? = some C := by
  have e1 := heap_alloc_new ((w.alloc A).alloc B) C
  have z1 : ((w.alloc A).alloc B).heap.size = w.heap.size + 1 + 1 := by simp
  rw [z1] at e1
  exact e1
theorem ent_cells {w : World} {g : Nat} {T : TypeId} {c0 c1 c2 c3 c4 : Value} (h : w.heap[g]? = some (.cells #[c0, c1, c2, c3, c4] T (0, 0))) :
    w.cell? ⟨g, 0, none⟩ = some c0 ∧ w.cell? ⟨g, 1, none⟩ = some c1 ∧ w.cell? ⟨g, 2, none⟩ = some c2 ∧ w.cell? ⟨g, 3, none⟩ = some c3 ∧ w.cell? ⟨g, 4, none⟩ = some c4 ∧ ∀ o, w.frozen? ⟨g, o, none⟩ = false := by
  simp [World.cell?, World.frozen?, h]
theorem ent_set {w : World} {g : Nat} {T : TypeId} {c0 c1 c2 c3 c4 : Value} (h : w.heap[g]? = some (.cells #[c0, c1, c2, c3, c4] T (0, 0))) (v0 v1 v2 v3 v4 : Value) :
    (((((w.setCell ⟨g, 0, none⟩ v0).setCell ⟨g, 1, none⟩ v1).setCell ⟨g, 2, none⟩ v2).setCell ⟨g, 3, none⟩ v3).setCell ⟨g, 4, none⟩ v4).heap[g]? = some (.cells #[v0, v1, v2, v3, v4] T (0, 0)) :=
  heap_setCell_same _ _ _ _ _ _ (heap_setCell_same _ _ _ _ _ _ (heap_setCell_same _ _ _ _ _ _ (heap_setCell_same _ _ _ _ _ _ (heap_setCell_same _ _ _ _ _ _ h))))
theorem ent_far {w : World} {g k : Nat} (hne : k ≠ g) (v0 v1 v2 v3 v4 : Value) :
    (((((w.setCell ⟨g, 0, none⟩ v0).setCell ⟨g, 1, none⟩ v1).setCell ⟨g, 2, none⟩ v2).setCell ⟨g, 3, none⟩ v3).setCell ⟨g, 4, none⟩ v4).heap[k]? = w.heap[k]? := by
  rw [heap_setCell_other _ _ _ _ hne, heap_setCell_other _ _ _ _ hne, heap_setCell_other _ _ _ _ hne, heap_setCell_other _ _ _ _ hne, heap_setCell_other _ _ _ _ hne]
theorem new4 (w : World) (A B C D : Obj) : ((((w.alloc A).alloc B).alloc C).alloc D).heap[w.heap.size + 1]? = some B ∧ ((((w.alloc A).alloc B).alloc C).alloc D).heap[w.heap.size + 1 + 1]? = some C ∧ ((((w.alloc A).alloc B).alloc C).alloc D).heap[w.heap.size + 1 + 1 + 1]? = some D := by
  have e1 := heap_alloc_new (w.alloc A) B
  have e2 := heap_alloc_new ((w.alloc A).alloc B) C
  have e3 := heap_alloc_new (((w.alloc A).alloc B).alloc C) D
  have z1 : (w.alloc A).heap.size = w.heap.size + 1 := by simp
  have z2 : ((w.alloc A).alloc B).heap.size = w.heap.size + 1 + 1 := by simp
  have z3 : (((w.alloc A).alloc B).alloc C).heap.size = w.heap.size + 1 + 1 + 1 := by simp
  rw [z1] at e1
  rw [z2] at e2
  rw [z3] at e3
  refine ⟨?_, ?_, e3⟩
  · rw [Below.heap_alloc _ _ _ (by simp), Below.heap_alloc _ _ _ (by simp)]
    exact e1
  · rw [Below.heap_alloc _ _ _ (by simp)]
    exact e2

set_option maxHeartbeats 2000000 in
theorem eqentry_same (ai ar ab av : Int) (ad : ByteArray) (w : World) :
    Calls Try.prog 131 #[.agg #[.int .i64 ai, .int .i64 ar, .int .i64 ab, .int .i64 av, .string ad], .agg #[.int .i64 ai, .int .i64 ar, .int .i64 ab, .int .i64 av, .string ad]] w fun e w' => e = .returned (.bool true) ∧ Below w.heap.size w w' := by
  have d0 : (ai != ai) = false := by simp
  have d1 : (ar != ar) = false := by simp
  have d2 : (ab != ab) = false := by simp
  have d3 : (av != av) = false := by simp
  have d4 : (ad.toList == ad.toList) = true := by simp
  go_enter Try.func131, Try.ntmps131
  go_wp2
  go_ret
  exact ⟨rfl, ((Below.refl w.heap.size w).alloc (Nat.le_refl _) _).alloc (by simp) _⟩

/-- x is the one of a and b that is behind. -/
def IsMax (ai ar ab av : Int) (ad : ByteArray) (bi br bb bv : Int) (bd : ByteArray) (xi xr xb xv : Int) (xd : ByteArray) : Prop :=
  (cmpE ai ar ab av ad bi br bb bv bd < 0 ∧ xi = bi ∧ xr = br ∧ xb = bb ∧ xv = bv ∧ xd = bd) ∨ (0 ≤ cmpE ai ar ab av ad bi br bb bv bd ∧ xi = ai ∧ xr = ar ∧ xb = ab ∧ xv = av ∧ xd = ad)
theorem isMax_ex (ai ar ab av : Int) (ad : ByteArray) (bi br bb bv : Int) (bd : ByteArray) : ∃ (xi xr xb xv : Int) (xd : ByteArray), IsMax ai ar ab av ad bi br bb bv bd xi xr xb xv xd := by
  by_cases h : cmpE ai ar ab av ad bi br bb bv bd < 0
  · exact ⟨_, _, _, _, _, .inl ⟨h, rfl, rfl, rfl, rfl, rfl⟩⟩
  · exact ⟨_, _, _, _, _, .inr ⟨by omega, rfl, rfl, rfl, rfl, rfl⟩⟩
end Go.Proofs.Ytbajnnpihjmjmaa
