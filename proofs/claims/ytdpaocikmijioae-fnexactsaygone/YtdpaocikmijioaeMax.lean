/-
  The specification's word for the greater of two numbers. No statement is proved here.
-/
import Derived.Test.YtdpaocikmijioaeBase
namespace Go.Proofs.Ytdpaocikmijioae
open Go.RowKit

end Go.Proofs.Ytdpaocikmijioae
