/-
  The laws' 'markText': a text of its own for each number. No statement is proved here.
-/
import Derived.Test.YtnalnjokijbhbaaStrP
import Derived.BigQuiet
import Derived.Deep.QuietTactic
import Derived.Deep.RegionWith
namespace Go.Proofs.Ytnalnjokijbhbaa
open Go.RowKit

end Go.Proofs.Ytnalnjokijbhbaa
