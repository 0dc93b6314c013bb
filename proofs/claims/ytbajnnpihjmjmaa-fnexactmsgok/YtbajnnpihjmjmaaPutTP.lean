/-
  The bytes of a text as a function on lists ('putT'). No statement is proved here.
-/
import Derived.Test.YtbajnnpihjmjmaaPutP
import Derived.Test.YtbajnnpihjmjmaaMTxt
import Derived.Lib.AppendStr
import Derived.Lib.ConvBytes
namespace Go.Proofs.Ytbajnnpihjmjmaa
open Go.RowKit

def putT (l : List Int) : List Int := putN l.length ++ l

theorem strCells_bl (s : ByteArray) : Lib.strCells s = (bl s).map (Value.int .u8) := by
  unfold Lib.strCells bl
  rw [List.map_map]
  rfl
theorem below_bytesWorld (w : World) (e : TypeId) (s : ByteArray) : Below w.heap.size w (Lib.bytesWorld w e s) :=
  ⟨rfl, rfl, rfl, by rw [Lib.bytesWorld_size]; omega, fun k hk => Lib.bytesWorld_at_old w e s k hk⟩

end Go.Proofs.Ytbajnnpihjmjmaa
