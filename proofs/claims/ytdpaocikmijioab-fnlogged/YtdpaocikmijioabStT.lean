/-
  The laws' 'toState': a state's own copy. No statement is proved here.
-/
import Derived.Test.YtdpaocikmijioabStA
import Derived.Test.YtdpaocikmijioabRegs6
import Derived.WalkLawsBesides
namespace Go.Proofs.Ytdpaocikmijioab
open Go.RowKit

theorem Try.infoItem : (Try.prog.info? 42).map (fun i => (i.zero, i.size, i.bytes)) = some (some (.agg #[.int .i64 0, .int .i64 0, .int .i64 0, .int .i64 0, .int .i64 0, .string ⟨#[]⟩]), 6, 56) := by kernel_rfl
theorem Try.infoFloor : (Try.prog.info? 35).map (fun i => (i.zero, i.size, i.bytes)) = some (some (.agg #[.int .i64 0, .int .i64 0]), 2, 16) := by kernel_rfl
def zeroI : Itm := (0, zeroK)
def zeroF : Flr := (0, 0)

end Go.Proofs.Ytdpaocikmijioab
