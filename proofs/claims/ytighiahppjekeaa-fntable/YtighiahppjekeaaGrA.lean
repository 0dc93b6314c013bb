/-
  What the laws do with a table: its size is taken off, it is turned into the program's own, two are compared, it is marked and held. No statement is proved here.
-/
import Derived.Test.YtighiahppjekeaaGrM
import Derived.Test.YtighiahppjekeaaIntO
import Derived.BigQuiet
import Derived.Deep.QuietTactic
namespace Go.Proofs.Ytighiahppjekeaa
open Go.RowKit

theorem Try.infoRow : (Try.prog.info? 30).map (fun i => (i.zero, i.size, i.bytes)) = some (some (.slice none 0 0), 1, 24) := by kernel_rfl
def zeroV : Value := .slice none 0 0
theorem fillG {α : Type} (ps : List α) (z p : α) (m : Nat) : (ps ++ List.replicate (m + 1) z).set ps.length p = (ps ++ [p]) ++ List.replicate m z := by
  rw [List.set_append_right _ _ (Nat.le_refl _), Nat.sub_self, List.replicate_succ, List.set_cons_zero, List.append_assoc]; rfl
/-- A row is stored into an owned table's outer row, which is filled so far. -/
theorem OwR.fill {base g n m : Nat} {w : World} {ps : List Value} {p : Value} (h : OwR base w (.slice (some ⟨g, 0, none⟩) n n) (ps ++ List.replicate (m + 1) zeroV)) (hn : n = ps.length + (m + 1)) :
    (∃ y, w.cell? ⟨g, ps.length, none⟩ = some y) ∧ (∀ o, w.frozen? ⟨g, o, none⟩ = false) ∧ OwR base (w.setCell ⟨g, ps.length, none⟩ p) (.slice (some ⟨g, 0, none⟩) n n) ((ps ++ [p]) ++ List.replicate m zeroV) ∧ w.grownBy (w.setCell ⟨g, ps.length, none⟩ p) (some g) ∧ base ≤ g := by
  have hl : (ps ++ List.replicate (m + 1) zeroV).length = n := by simp; omega
  have h' : w.ownsRow base 30 1 (.slice (some ⟨g, 0, none⟩) n n) n ((ps ++ List.replicate (m + 1) zeroV).flatMap encV) := by
    have q := h
    unfold OwR Ow at q
    rw [hl] at q
    exact q
  have hf : ∀ l : List Value, l.flatMap encV = l := fun l => by
    induction l with
    | nil => rfl
    | cons x r ih => rw [List.flatMap_cons, ih]; rfl
  rw [hf] at h'
  have hst := h'.stored ps.length p
  refine ⟨⟨_, (h'.cellAt ps.length (by omega)).trans (List.getElem?_eq_getElem (by rw [hl]; omega))⟩, h'.frozenAt, ?_, hst.2, (World.ownsRow.lt h' _ rfl).1⟩
  rw [fillG] at hst
  unfold OwR Ow
  have hl2 : ((ps ++ [p]) ++ List.replicate m zeroV).length = n := by simp; omega
  rw [hl2, hf]
  exact hst.1




/-- The marks of a table: from k on, a number each. -/
def mkG : Int → Tb → Tb
  | _, [] => []
  | k, r :: t => markN k r.length :: mkG (k + r.length) t
theorem mkG_app : ∀ (a b : Tb) (k : Int), mkG k (a ++ b) = mkG k a ++ mkG (k + totG a) b
  | [], b, k => by simp [mkG, totG]
  | s :: r, b, k => by rw [List.cons_append, mkG, mkG, totG, mkG_app r b]; simp [Int.add_assoc]
theorem mkG_len : ∀ (a : Tb) (k : Int), (mkG k a).length = a.length
  | [], k => rfl
  | s :: r, k => by rw [mkG, List.length_cons, List.length_cons, mkG_len r]
theorem dropG {α : Type} {xs : List α} {k : Nat} {x : α} (h : xs[k]? = some x) : xs.drop k = x :: xs.drop (k + 1) := by
  obtain ⟨hk, rfl⟩ := List.getElem?_eq_some_iff.1 h
  exact List.drop_eq_getElem_cons hk
theorem mkG_at {t : Tb} {j : Nat} {r : List Int} (h : t[j]? = some r) (k : Int) : (mkG k t)[j]? = some (markN (k + totG (t.take j)) r.length) := by
  have hj := (List.getElem?_eq_some_iff.1 h).1
  have e : t = t.take j ++ r :: t.drop (j + 1) := by rw [← dropG h, List.take_append_drop]
  conv => lhs; rw [e]
  rw [mkG_app, List.getElem?_append_right (by rw [mkG_len]; simp; omega), mkG_len]
  have : j - (t.take j).length = 0 := by simp; omega
  rw [this, mkG]
  rfl
/-- The first j marked, the rest as it was. -/
def mixG (k : Int) (t : Tb) (j : Nat) : Tb := mkG k (t.take j) ++ t.drop j
theorem mixG_at {k : Int} {t : Tb} {j : Nat} {r : List Int} (h : t[j]? = some r) : (mixG k t j)[j]? = some r := by
  have hj := (List.getElem?_eq_some_iff.1 h).1
  rw [mixG, List.getElem?_append_right (by rw [mkG_len]; simp; omega), mkG_len, show j - (t.take j).length = 0 by simp; omega, dropG h]; rfl
theorem mixG_next {k : Int} {t : Tb} {j : Nat} {r : List Int} (h : t[j]? = some r) : mixG k t (j + 1) = (mixG k t j).set j (markN (k + totG (t.take j)) r.length) := by
  have hj := (List.getElem?_eq_some_iff.1 h).1
  rw [mixG, mixG, takeG h, mkG_app, dropG h, List.set_append_right _ _ (by rw [mkG_len]; simp; omega), mkG_len, show j - (t.take j).length = 0 by simp; omega]
  simp [mkG]

end Go.Proofs.Ytighiahppjekeaa
