/-
  A state in memory of one's own: the program's. No statement is proved here.
-/
import Derived.Test.YtdpaocikmijioafGreatLgC
namespace Go.Proofs.YtdpaocikmijioafGreat
open Go.RowKit

theorem oneFs (fs : List Flr) : ∀ u ∈ fs.flatMap encF, u.oneCell' = true := by
  intro u hu
  obtain ⟨x, -, hx⟩ := List.mem_flatMap.1 hu
  exact oneF x u hx
end Go.Proofs.YtdpaocikmijioafGreat
