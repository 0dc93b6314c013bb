/-
  The laws' 'eqState' says yes to two that read the same. No statement is proved here.
-/
import Derived.Test.YtdpaocikmijioabStA
import Derived.Test.YtdpaocikmijioabRegs6
namespace Go.Proofs.Ytdpaocikmijioab
open Go.RowKit

end Go.Proofs.Ytdpaocikmijioab
