/-
  The laws' 'heldState': what is marked is held. No statement is proved here.
-/
import Derived.Test.YtdpaocikmijioabStM
namespace Go.Proofs.Ytdpaocikmijioab
open Go.RowKit

end Go.Proofs.Ytdpaocikmijioab
