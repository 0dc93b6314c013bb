/-
  A field of a struct that a call has told. No statement is proved here.
-/
import Derived.Test.YtohfbahfnbganaaTrT
namespace Go.Proofs.Ytohfbahfnbganaa
open Go.RowKit

set_option maxRecDepth 100000 in
theorem fld_items (a : Option Addr) (n c : Nat) (v : Value) (W : World) : (Instr.field 27 (.agg #[.slice a n c, v]) 0).run Try.prog W = .ok (.slice a n c) W := by
  have a3 := Try.isAgg24
  have z3 := Try.sizeOf24
  simp only [Instr.field, Sem.run_bind, run_underlying Try.underlying27, Result.andThen_ok]
  go_simp
  simp [asAgg]
set_option maxRecDepth 100000 in
theorem fld_leaves (a : Option Addr) (n c : Nat) (v : Value) (W : World) : (Instr.field 36 (.agg #[.slice a n c, v]) 0).run Try.prog W = .ok (.slice a n c) W := by
  have a3 := Try.isAgg28
  have z3 := Try.sizeOf28
  simp only [Instr.field, Sem.run_bind, run_underlying Try.underlying36, Result.andThen_ok]
  go_simp
  simp [asAgg]
set_option maxRecDepth 100000 in
theorem fld_root (a : Option Addr) (n c : Nat) (q : Int) (W : World) : (Instr.field 36 (.agg #[.slice a n c, .int .i64 q]) 1).run Try.prog W = .ok (.int .i64 q) W := by
  have a3 := Try.isAgg3
  have z3 := Try.sizeOf3
  simp only [Instr.field, Sem.run_bind, run_underlying Try.underlying36, Result.andThen_ok]
  go_simp
  simp [asAgg]
end Go.Proofs.Ytohfbahfnbganaa
