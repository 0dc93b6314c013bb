/-
  Reading a text, as a function on lists ('getT'). No statement is proved here.
-/
import Derived.Test.YtbajnnpihjmjmabGetP
import Derived.Laws.BytesArg
import Derived.WalkLawsBesides
namespace Go.Proofs.Ytbajnnpihjmjmab
open Go.RowKit

def getT (xs : List Int) (p : Int) : Option (List Int × Int) :=
  match getN xs p with
  | none => none
  | some (n, q) => if (xs.length : Int) - q < n then none else some ((xs.drop q.toNat).take n.toNat, q + n)
def tres : Option (List Int × Int) → Value
  | none => .tuple #[.string ⟨#[]⟩, .int .i64 0, .bool false]
  | some (l, q) => .tuple #[.string (strOfNums l), .int .i64 q, .bool true]
def Panics (e : Ending) : Prop := ∃ t pv, e = .panicked [{ v := .iface t pv, recovered := false }]

theorem gnum_bd (f : Nat) (u m r n q : Int) (l : List Int) (hu : 0 < u) (hm : 0 ≤ m) (hl : ∀ z ∈ l, 0 ≤ z ∧ z ≤ 255) (h : gnum f u m l r = some (n, q)) : 0 ≤ n ∧ n ≤ 2147483647 ∧ r < q ∧ q ≤ r + l.length := by
  induction f generalizing u m r l with
  | zero => simp [gnum] at h
  | succ f ih =>
    cases l with
    | nil => simp [gnum] at h
    | cons d l =>
      have hd := hl d (by simp)
      by_cases h1 : d < 128
      · by_cases h2 : 2147483647 < m + d * u ∨ (d = 0 ∧ 1 < u)
        · rw [gnum_bad _ _ _ _ _ _ h1 h2] at h; simp at h
        · rw [gnum_end _ _ _ _ _ _ h1 h2] at h
          simp at h
          have := Int.mul_nonneg hd.1 (Int.le_of_lt hu)
          simp only [List.length_cons]
          omega
      · rw [gnum_more _ _ _ _ _ _ h1] at h
        have := Int.mul_nonneg (show 0 ≤ d - 128 by omega) (Int.le_of_lt hu)
        have := ih (u * 128) (m + (d - 128) * u) (r + 1) l (by omega) (by omega) (fun z hz => hl z (by simp [hz])) h
        simp only [List.length_cons]
        omega
theorem getN_bd (xs : List Int) (p n q : Int) (hl : ∀ z ∈ xs, 0 ≤ z ∧ z ≤ 255) (h : getN xs p = some (n, q)) : 0 ≤ n ∧ n ≤ 2147483647 ∧ 0 < q ∧ q ≤ xs.length := by
  unfold getN at h
  split at h
  · simp at h
  · rename_i hp
    have := gnum_bd 5 1 0 p n q (xs.drop p.toNat) (by omega) (by omega) (fun z hz => hl z (List.mem_of_mem_drop hz)) h
    have hne : xs.drop p.toNat ≠ [] := by intro he; rw [he, gnum_nil] at h; simp at h
    have hlt : p.toNat < xs.length := by
      rcases Nat.lt_or_ge p.toNat xs.length with h' | h'
      · exact h'
      · exact absurd (List.drop_eq_nil_of_le h') hne
    simp only [List.length_drop] at this
    omega

theorem getT_some (xs : List Int) (p q : Int) (l : List Int) (h : getT xs p = some (l, q)) : ∃ n r, getN xs p = some (n, r) ∧ n ≤ (xs.length : Int) - r ∧ l = (xs.drop r.toNat).take n.toNat ∧ q = r + n := by
  unfold getT at h
  rcases hn : getN xs p with _ | ⟨n, r⟩
  · rw [hn] at h; simp at h
  · rw [hn] at h
    simp only at h
    split at h
    · simp at h
    · rename_i hb
      simp at h
      exact ⟨n, r, rfl, by omega, h.1.symm, h.2.symm⟩

end Go.Proofs.Ytbajnnpihjmjmab
