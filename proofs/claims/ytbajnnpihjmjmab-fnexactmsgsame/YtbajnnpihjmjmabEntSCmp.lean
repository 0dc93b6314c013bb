/-
  The specification's EntryCmp answers as the program's. No statement is proved here.
-/
import Derived.Test.YtbajnnpihjmjmabEntCmp
namespace Go.Proofs.Ytbajnnpihjmjmab
open Go.RowKit

def bitI (b : Bool) : Int := if b = true then 1 else 0
theorem or4 (x0 x1 x2 x3 x4 : Int) : orL [x0, x1, x2, x3, x4] = if orL [x0, x1, x2, x3] = 0 then x4 else orL [x0, x1, x2, x3] := by
  simp only [orL]
  repeat' split
  all_goals simp_all

end Go.Proofs.Ytbajnnpihjmjmab
