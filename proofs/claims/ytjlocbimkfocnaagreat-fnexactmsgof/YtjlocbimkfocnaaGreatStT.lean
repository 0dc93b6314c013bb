/-
  The laws' 'toState': a state's own copy. No statement is proved here.
-/
import Derived.Test.YtjlocbimkfocnaaGreatStA
import Derived.Test.YtjlocbimkfocnaaGreatApp2
import Derived.WalkLawsBesides
namespace Go.Proofs.YtjlocbimkfocnaaGreat
open Go.RowKit

theorem Tryz.infoItem : (Tryz.prog.info? 99).map (fun i => (i.zero, i.size, i.bytes)) = some (some (.agg #[.int .i64 0, .int .i64 0, .int .i64 0, .int .i64 0, .int .i64 0, .string ⟨#[]⟩]), 6, 56) := by kernel_rfl
theorem Tryz.infoFloor : (Tryz.prog.info? 100).map (fun i => (i.zero, i.size, i.bytes)) = some (some (.agg #[.int .i64 0, .int .i64 0]), 2, 16) := by kernel_rfl
def zeroI : Itm := (0, zeroK)
def zeroF : Flr := (0, 0)

end Go.Proofs.YtjlocbimkfocnaaGreat
