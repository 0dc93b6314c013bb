/-
  What the laws do with a log: its size is taken off, it is turned into the program's own, two are compared. No statement is proved here.
-/
import Derived.Test.YtdpaocikmijioacLgP
import Derived.Test.YtdpaocikmijioacLgN
import Derived.Test.YtdpaocikmijioacStT
import Derived.Test.YtdpaocikmijioacStE
import Derived.Test.YtdpaocikmijioacSt3
namespace Go.Proofs.Ytdpaocikmijioac
open Go.RowKit

/-- Each text and each length is one of this machine. -/
def BigS (ss : List Sta) : Prop := ∀ (i : Nat) (s : Sta), ss[i]? = some s → Big s.1 ∧ s.1.length ≤ 9223372036854775807 ∧ s.2.length ≤ 9223372036854775807
def SmlS (ss : List Sta) : Prop := ∀ (i : Nat) (s : Sta), ss[i]? = some s → Sml s.1


theorem Try.infoState : (Try.prog.info? 30).map (fun i => (i.zero, i.size, i.bytes)) = some (some (.agg #[.slice none 0 0, .slice none 0 0]), 2, 48) := by kernel_rfl
def zeroS : Two := (.slice none 0 0, .slice none 0 0)
theorem set_fill {α : Type} (ps : List α) (z p : α) (m : Nat) : (ps ++ List.replicate (m + 1) z).set ps.length p = (ps ++ [p]) ++ List.replicate m z := by
  rw [List.set_append_right _ _ (Nat.le_refl _), Nat.sub_self, List.replicate_succ, List.set_cons_zero, List.append_assoc]; rfl
/-- The block of an owned row, where it has one. -/
theorem OwV.blk {base : Nat} {w : World} {v : Value} {ps : List Two} (h : OwV base w v ps) : ∀ g, v.ownBlock = some g → ∃ cs fz, w.heap[g]? = some (.cells cs 30 fz) := by
  intro g hg
  rcases h.2 with ⟨rfl, _⟩ | ⟨g', cap, cur, rfl, _, hh, _⟩
  · cases hg
  · simp only [Value.ownBlock, Option.some.injEq] at hg
    subst hg
    exact ⟨_, _, hh⟩

end Go.Proofs.Ytdpaocikmijioac
