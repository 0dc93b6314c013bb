/-
  The helpers of the laws on slices of numbers: a copy of its own memory, two that read the same, marks and whether they are held. No statement is proved here.
-/
import Derived.Test.YtighiahppjekeaaNm
import Derived.WalkLawsBesides
import Derived.BigQuiet
import Derived.Deep.QuietTactic
namespace Go.Proofs.Ytighiahppjekeaa
open Go.RowKit

theorem Try.infoInt : (Try.prog.info? 3).map (fun i => (i.zero, i.size, i.bytes)) = some (some (.int .i64 0), 1, 8) := by kernel_rfl
/-- The slice value v reads as the numbers xs. -/
def SegN (w : World) (v : Value) (xs : List Int) : Prop :=
  ∃ a cap, v = .slice a xs.length cap ∧ xs.length ≤ cap ∧ (xs = [] ∨ ∃ b off, a = some ⟨b, off, none⟩ ∧ b < w.heap.size ∧ ∀ i, i < xs.length → w.cell? ⟨b, off + i, none⟩ = some (.int .i64 (xs.getD i 0)))
theorem segN_of {w : World} {v : Value} {xs : List Int} (h : RwN w v xs) : SegN w v xs := by
  obtain ⟨a, cap, rfl, hcap, h⟩ := h
  refine ⟨a, cap, rfl, hcap, ?_⟩
  rcases h with h | ⟨b, off, rfl, hlt, hc⟩
  · exact .inl h
  · refine .inr ⟨b, off, rfl, hlt, fun i hi => ?_⟩
    have := hc i xs[i] (by simp [hi]) 0 (by omega)
    rw [Nat.mul_one, Nat.add_zero] at this
    rw [this]
    simp [encN, hi]
theorem flatN (xs : List Int) : xs.flatMap encN = xs.map (Value.int .i64) := by
  induction xs with
  | nil => rfl
  | cons x r ih => rw [List.flatMap_cons, ih]; rfl
/-- A row of numbers that the call itself owns. -/
abbrev OwN (base : Nat) (w : World) (v : Value) (ns : List Int) : Prop := Ow encN 1 3 base w v ns
theorem ownN_iff {w : World} {base : Nat} {E : TypeId} {v : Value} {ns : List Int} : Ow encN 1 E base w v ns ↔ w.ownsRow base E 1 v ns.length (ns.map (Value.int .i64)) := by
  unfold Ow; rw [flatN]
theorem oneN (x : Int) : ∀ u ∈ encN x, u.oneCell' = true := by
  intro u hu
  simp [encN] at hu
  subst hu; rfl
theorem setN_take_drop (xs : List Int) (n k : Nat) (hk : k < n) (hn : n = xs.length) :
    ((xs.take k ++ List.replicate (n - k) 0).map (Value.int .i64)).set k (.int .i64 (xs[k]?.getD 0)) = (xs.take (k + 1) ++ List.replicate (n - (k + 1)) 0).map (Value.int .i64) := by
  subst hn
  rw [← fill_set xs 0 k xs[k] (by simp [hk]), List.map_set]
  simp [hk]



theorem grown_on {w w1 w2 : World} {g : Option Nat} (h : w.grownBy w1 g) (k : w1.grownBy w2 g) : w.grownBy w2 g :=
  ⟨k.os.trans h.os, k.tape.trans h.tape, k.output.trans h.output, Nat.le_trans h.size k.size, fun i hi hne => (k.block i (Nat.lt_of_lt_of_le hi h.size) hne).trans (h.block i hi hne)⟩
/-- The marks: from k on, a byte each. -/
def markN (k : Int) (n : Nat) : List Int := (List.range n).map fun i : Nat => k + (i : Int)

theorem markN_length (k : Int) (n : Nat) : (markN k n).length = n := by simp [markN]
theorem markN_succ (k : Int) (n : Nat) : markN k (n + 1) = markN k n ++ [(k + n)] := by simp [markN, List.range_succ]
theorem markN_get (k : Int) (n i : Nat) (h : i < n) : (markN k n).getD i 0 = (k + i) := by simp [markN, h]

theorem markN_set (k : Int) (xs : List Int) (j : Nat) (hj : j < xs.length) :
    ((markN k j ++ xs.drop j).map (Value.int .i64)).set j (.int .i64 ((k + j))) = (markN k (j + 1) ++ xs.drop (j + 1)).map (Value.int .i64) := by
  rw [markN_succ, List.drop_eq_getElem_cons hj]
  simp only [List.map_append, List.map_cons, List.append_assoc, List.cons_append, List.nil_append]
  rw [List.set_append_right _ _ (by simp [markN_length])]
  simp [markN_length]


end Go.Proofs.Ytighiahppjekeaa
