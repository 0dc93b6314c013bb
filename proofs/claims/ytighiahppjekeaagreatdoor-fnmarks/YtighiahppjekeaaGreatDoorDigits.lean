/-
  The specification's Digits returns the text that the list function 'digs' says (a sign ahead, then the decimal digits), and turns nothing that was there. No statement is proved here.
-/
import Derived.Test.YtighiahppjekeaaGreatDoorDigP
namespace Go.Proofs.YtighiahppjekeaaGreatDoor
open Go.RowKit

end Go.Proofs.YtighiahppjekeaaGreatDoor
