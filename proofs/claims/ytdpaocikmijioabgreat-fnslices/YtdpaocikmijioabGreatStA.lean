/-
  What the laws do with a state: its size is taken off, it is turned into the program's own, two are compared. No statement is proved here.
-/
import Derived.Test.YtdpaocikmijioabGreatEntOf
import Derived.Test.YtdpaocikmijioabGreatRwO
import Derived.Test.YtdpaocikmijioabGreatEntA
import Derived.Test.YtdpaocikmijioabGreatPrt
namespace Go.Proofs.YtdpaocikmijioabGreat
open Go.RowKit

/-- Each text is one of this machine. -/
def Big (xs : List Itm) : Prop := ∀ (k : Nat) (x : Itm), xs[k]? = some x → x.2.2.2.2.2.size ≤ maxLen
theorem encI_len (x : Itm) : (encI x).length = 6 := rfl
abbrev OwI (base : Nat) (w : World) (v : Value) (xs : List Itm) : Prop := Ow encI 6 40 base w v xs
abbrev OwF (base : Nat) (w : World) (v : Value) (fs : List Flr) : Prop := Ow encF 2 84 base w v fs

end Go.Proofs.YtdpaocikmijioabGreat
