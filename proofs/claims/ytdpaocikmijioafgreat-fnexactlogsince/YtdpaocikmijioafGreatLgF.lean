/-
  A list of states, a log in memory of one's own: the program's. No statement is proved here.
-/
import Derived.Test.YtdpaocikmijioafGreatLgD
import Derived.Test.YtdpaocikmijioafGreatLgM
namespace Go.Proofs.YtdpaocikmijioafGreat
open Go.RowKit

theorem oneSs {w : World} {ps : List Two} {ss : List Sta} (h : Ins w ps ss) : ∀ u ∈ ps.flatMap encS, u.oneCell' = true := by
  intro u hu
  obtain ⟨p, hp, hx⟩ := List.mem_flatMap.1 hu
  obtain ⟨i, hi, hpi⟩ := List.mem_iff_getElem.1 hp
  have hl : i < ss.length := h.len ▸ hi
  obtain ⟨r1, r2⟩ := h.ins i p ss[i] (by simp [hi, hpi]) (by simp)
  obtain ⟨a, n, c, e1, -⟩ := r1.form
  obtain ⟨b, m, d, e2, -⟩ := r2.form
  exact oneS p (by rw [e1]; rfl) (by rw [e2]; rfl) u hx
theorem mix_put {α : Type} (qs ps : List α) (k : Nat) (q : α) (hq : qs.length = k) (hk : k < ps.length) : (qs ++ ps.drop k).set k q = (qs ++ [q]) ++ ps.drop (k + 1) := by
  subst hq
  rw [List.set_append_right _ _ (Nat.le_refl _), Nat.sub_self, List.drop_eq_getElem_cons hk, List.set_cons_zero, List.append_assoc]; rfl

end Go.Proofs.YtdpaocikmijioafGreat
