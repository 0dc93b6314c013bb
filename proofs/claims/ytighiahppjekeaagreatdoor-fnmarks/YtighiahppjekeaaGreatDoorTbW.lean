/-
  What is added to a table is no less than what was there; what all know is no more than any knows; two lists of numbers that are the same. No statement is proved here.
-/
import Derived.Test.YtighiahppjekeaaGreatDoorMkQ
import Derived.Test.YtighiahppjekeaaGreatDoorTbC
import Derived.Test.YtighiahppjekeaaGreatDoorEntDraw
namespace Go.Proofs.YtighiahppjekeaaGreatDoor
open Go.RowKit

theorem putM_ge (r : List Int) (m : Flr) (x : Nat) : nAt r x ≤ nAt (putM r m) x := by
  unfold putM
  rw [nAt_set]
  split
  · rename_i h
    rw [h.1]
    omega
  · omega
theorem putMs_ge : ∀ (ms : List Flr) (r : List Int) (x : Nat), nAt r x ≤ nAt (putMs r ms) x
  | [], _, _ => Int.le_refl _
  | m :: ms, r, x => Int.le_trans (putM_ge r m x) (putMs_ge ms (putM r m) x)
theorem addT_ge {t : Tb} {k : Int} {ms : List Flr} {i : Nat} {r s : List Int} (hr : t[i]? = some r) (hs : (addT t k ms)[i]? = some s) : s.length = r.length ∧ ∀ x, nAt r x ≤ nAt s x := by
  unfold addT at hs
  split at hs
  · rename_i q
    rw [List.getElem?_set] at hs
    split at hs
    · rename_i e
      split at hs
      · simp only [Option.some.injEq] at hs
        have e2 : rowT t k = r := by unfold rowT; rw [List.getD_eq_getElem?_getD, e, hr]; rfl
        rw [e2] at hs
        rw [← hs]
        exact ⟨putMs_len _ _, putMs_ge _ _⟩
      · simp at hs
    · rw [hr] at hs
      cases hs
      exact ⟨rfl, fun x => Int.le_refl _⟩
  · rw [hr] at hs
    cases hs
    exact ⟨rfl, fun x => Int.le_refl _⟩
theorem com_le {t : Tb} {i x : Nat} {r : List Int} (hr : t[i]? = some r) (h0 : 0 ≤ nAt r x) : com t (x : Int) ≤ nAt r x := by
  unfold com
  split
  · exact lst_le (List.mem_map.2 ⟨r, List.mem_of_getElem? hr, by simp⟩)
  · exact h0
theorem okT_new (n : Int) : okT (newT n) n = inB n 1 5 := by
  unfold okT newT
  cases h : inB n 1 5
  · rfl
  · have h2 := h
    simp only [inB, Bool.and_eq_true, decide_eq_true_eq] at h2
    have e : ((n.toNat : Int) == n) = true := by simp; omega
    have e2 : okRs (List.replicate n.toNat nulR) = true := by
      unfold okRs
      rw [List.all_eq_true]
      intro r hr
      rw [List.eq_of_mem_replicate hr]
      decide
    simp only [if_true, List.length_replicate, e, e2, Bool.and_true]
end Go.Proofs.YtighiahppjekeaaGreatDoor
