/-
  No cell of these rows narrows 'for every input' (looked for: loops, veiled, ifaces, maps, wideKeys, modest, calm, conditions, laid).
  DERIVED. THE GIVEN ROWS OF THIS SEAT. 5 by the template 'for every input the law returns true; each argument reads behind the call as it read before'; 0 by the template 'total and deterministic' (their statements: YtdjoobcbnaelnaaTotals.lean).
  GIVEN WITH THE SEED: the statements are not yours to turn. If you find one false, say at which input.
  Laid BY PROGRAM, IN A SANDBOX (cutbox-rows.mjs): the forced cells as the released guide's own fill.sh prints them over the translation 40d6ce48b0a31310… (all of the seat's roots in one cut). By AI agents, Wed Nov 11 2026. No macro, syntax, notation, axiom, sorry.
-/
import Derived.Test.YtdjoobcbnaelnaaChecked
import GoSem.Claim
import GoSem.ClaimJoined
import GoSem.ClaimMapViews
import Derived.JoinedTies
import Derived.KernelRfl
namespace Go.Proofs.Ytdjoobcbnaelnaa
/- THE CELL 'sum', in the pinned program and in every row, IS THE sha256 OF THE DUMP (.gsa) THAT YtdjoobcbnaelnaaProg.lean LOADS. Nothing in Lean hashes anything: it is a label: what it is worth is what the hold of that sum in a sandbox is worth. -/
noncomputable def Try.pinned : Pinned := { name := "ytdjoobcbnaelnaa", sum := "40d6ce48b0a31310105f84e781087d30dfb1d35458b05ad8c26a7050471b85da", checked := Try.checked }
namespace Rows
def none {H : Type} : Left H := { results := [], args := [] }

/-- 'laws.FnVectors': WHATEVER THE INPUT: true; the input reads as it did. -/
def fnVectorsSpec : ChangeSpec := { name := "fnVectors", fn := fun _ => fun
  | [d] => { results := [.lit (.bool true)], args := [d] }
  | _ => none }
def fnVectorsRow : OpenClaim := { program := "ytdjoobcbnaelnaa", sum := "40d6ce48b0a31310105f84e781087d30dfb1d35458b05ad8c26a7050471b85da", func := "loop.example/g00487/laws.FnVectors", spec := "fnVectors", apart := false }
def FnVectorsSaid : Prop := fnVectorsRow.holds Try.pinned (OpenSpec.ofChange fnVectorsSpec)

/-- ITS FALSE NEIGHBOUR: 'it returns false'. Refute it at one input. -/
def fnVectorsWrong : ChangeSpec := { name := "fnVectors", fn := fun _ => fun
  | [d] => { results := [.lit (.bool false)], args := [d] }
  | _ => none }
def FnVectorsWrongFalsely : Prop := fnVectorsRow.holds Try.pinned (OpenSpec.ofChange fnVectorsWrong)

/-- 'laws.FnExactVecOk': WHATEVER THE INPUT: true; the input reads as it did. -/
def fnExactVecOkSpec : ChangeSpec := { name := "fnExactVecOk", fn := fun _ => fun
  | [d1, d2] => { results := [.lit (.bool true)], args := [d1, d2] }
  | _ => none }
def fnExactVecOkRow : OpenClaim := { program := "ytdjoobcbnaelnaa", sum := "40d6ce48b0a31310105f84e781087d30dfb1d35458b05ad8c26a7050471b85da", func := "loop.example/g00487/laws.FnExactVecOk", spec := "fnExactVecOk", apart := false }
def FnExactVecOkSaid : Prop := fnExactVecOkRow.holds Try.pinned (OpenSpec.ofChange fnExactVecOkSpec)

/-- ITS FALSE NEIGHBOUR: 'it returns false'. Refute it at one input. -/
def fnExactVecOkWrong : ChangeSpec := { name := "fnExactVecOk", fn := fun _ => fun
  | [d1, d2] => { results := [.lit (.bool false)], args := [d1, d2] }
  | _ => none }
def FnExactVecOkWrongFalsely : Prop := fnExactVecOkRow.holds Try.pinned (OpenSpec.ofChange fnExactVecOkWrong)

/-- 'laws.FnExactVecMax': WHATEVER THE INPUT: true; the input reads as it did. -/
def fnExactVecMaxSpec : ChangeSpec := { name := "fnExactVecMax", fn := fun _ => fun
  | [d1, d2] => { results := [.lit (.bool true)], args := [d1, d2] }
  | _ => none }
def fnExactVecMaxRow : OpenClaim := { program := "ytdjoobcbnaelnaa", sum := "40d6ce48b0a31310105f84e781087d30dfb1d35458b05ad8c26a7050471b85da", func := "loop.example/g00487/laws.FnExactVecMax", spec := "fnExactVecMax", apart := false }
def FnExactVecMaxSaid : Prop := fnExactVecMaxRow.holds Try.pinned (OpenSpec.ofChange fnExactVecMaxSpec)

/-- ITS FALSE NEIGHBOUR: 'it returns false'. Refute it at one input. -/
def fnExactVecMaxWrong : ChangeSpec := { name := "fnExactVecMax", fn := fun _ => fun
  | [d1, d2] => { results := [.lit (.bool false)], args := [d1, d2] }
  | _ => none }
def FnExactVecMaxWrongFalsely : Prop := fnExactVecMaxRow.holds Try.pinned (OpenSpec.ofChange fnExactVecMaxWrong)

/-- 'laws.FnExactVecLeq': WHATEVER THE INPUT: true; the input reads as it did. -/
def fnExactVecLeqSpec : ChangeSpec := { name := "fnExactVecLeq", fn := fun _ => fun
  | [d1, d2] => { results := [.lit (.bool true)], args := [d1, d2] }
  | _ => none }
def fnExactVecLeqRow : OpenClaim := { program := "ytdjoobcbnaelnaa", sum := "40d6ce48b0a31310105f84e781087d30dfb1d35458b05ad8c26a7050471b85da", func := "loop.example/g00487/laws.FnExactVecLeq", spec := "fnExactVecLeq", apart := false }
def FnExactVecLeqSaid : Prop := fnExactVecLeqRow.holds Try.pinned (OpenSpec.ofChange fnExactVecLeqSpec)

/-- ITS FALSE NEIGHBOUR: 'it returns false'. Refute it at one input. -/
def fnExactVecLeqWrong : ChangeSpec := { name := "fnExactVecLeq", fn := fun _ => fun
  | [d1, d2] => { results := [.lit (.bool false)], args := [d1, d2] }
  | _ => none }
def FnExactVecLeqWrongFalsely : Prop := fnExactVecLeqRow.holds Try.pinned (OpenSpec.ofChange fnExactVecLeqWrong)

/-- 'laws.FnExactVecRaise': WHATEVER THE INPUT: true; the input reads as it did. -/
def fnExactVecRaiseSpec : ChangeSpec := { name := "fnExactVecRaise", fn := fun _ => fun
  | [d1, d2, d3] => { results := [.lit (.bool true)], args := [d1, d2, d3] }
  | _ => none }
def fnExactVecRaiseRow : OpenClaim := { program := "ytdjoobcbnaelnaa", sum := "40d6ce48b0a31310105f84e781087d30dfb1d35458b05ad8c26a7050471b85da", func := "loop.example/g00487/laws.FnExactVecRaise", spec := "fnExactVecRaise", apart := false }
def FnExactVecRaiseSaid : Prop := fnExactVecRaiseRow.holds Try.pinned (OpenSpec.ofChange fnExactVecRaiseSpec)

/-- ITS FALSE NEIGHBOUR: 'it returns false'. Refute it at one input. -/
def fnExactVecRaiseWrong : ChangeSpec := { name := "fnExactVecRaise", fn := fun _ => fun
  | [d1, d2, d3] => { results := [.lit (.bool false)], args := [d1, d2, d3] }
  | _ => none }
def FnExactVecRaiseWrongFalsely : Prop := fnExactVecRaiseRow.holds Try.pinned (OpenSpec.ofChange fnExactVecRaiseWrong)

/- THE SECOND FORM. 'bulk': how many values and letters a reading holds, each counted each time it is reached (what is shared counts as often as it is met; a slice's spare places count too). A statement '..UptoSaid' is the law's where the arguments, and the package variables that the reading takes, are together of bulk at most 1048576: NARROWER than '..Said'. Prove '..Said' where nothing that the law and all that it calls make is longer than what came in: it says more and counts as full. Else prove '..UptoSaid'. A law counts once. -/
mutual
def uptoBulk {H : Type} : DataW H → Nat
  | .lit (.string bytes) => bytes.length + 1
  | .lit _ => 1
  | .nil => 1
  | .ptr d => uptoBulk d + 1
  | .slice elems spare => uptoBulkAll elems + uptoBulkAll spare + 1
  | .agg parts => uptoBulkAll parts + 1
  | .iface _ d => uptoBulk d + 1
  | .map entries => uptoBulkEntries entries + 1
  | .held _ => 1
def uptoBulkAll {H : Type} : List (DataW H) → Nat
  | [] => 0
  | d :: r => uptoBulk d + uptoBulkAll r
def uptoBulkEntries {H : Type} : List (Lit × DataW H) → Nat
  | [] => 0
  | x :: r => uptoBulkEntry x + uptoBulkEntries r
def uptoBulkEntry {H : Type} : Lit × DataW H → Nat
  | (.string bytes, d) => bytes.length + uptoBulk d + 1
  | (_, d) => uptoBulk d + 1
 end
def uptoSmall : (H : Type) → List (DataW H) → Bool := fun _ ds => decide (uptoBulkAll ds ≤ 1048576)
def OpenSpec.upto (s : _root_.Go.ChangeSpec) : _root_.Go.OpenSpec := { _root_.Go.OpenSpec.ofChange s with cond := some uptoSmall }

/-- 'laws.FnVectors', WHERE WHAT IT READS IS OF BULK AT MOST 1048576: true; the input reads as it did. -/
def fnVectorsUptoRow : OpenClaim := { program := "ytdjoobcbnaelnaa", sum := "40d6ce48b0a31310105f84e781087d30dfb1d35458b05ad8c26a7050471b85da", func := "loop.example/g00487/laws.FnVectors", spec := "fnVectors", apart := false, narrowed := true }
def FnVectorsUptoSaid : Prop := fnVectorsUptoRow.holds Try.pinned (OpenSpec.upto fnVectorsSpec)

/-- 'laws.FnExactVecOk', WHERE WHAT IT READS IS OF BULK AT MOST 1048576: true; the input reads as it did. -/
def fnExactVecOkUptoRow : OpenClaim := { program := "ytdjoobcbnaelnaa", sum := "40d6ce48b0a31310105f84e781087d30dfb1d35458b05ad8c26a7050471b85da", func := "loop.example/g00487/laws.FnExactVecOk", spec := "fnExactVecOk", apart := false, narrowed := true }
def FnExactVecOkUptoSaid : Prop := fnExactVecOkUptoRow.holds Try.pinned (OpenSpec.upto fnExactVecOkSpec)

/-- 'laws.FnExactVecMax', WHERE WHAT IT READS IS OF BULK AT MOST 1048576: true; the input reads as it did. -/
def fnExactVecMaxUptoRow : OpenClaim := { program := "ytdjoobcbnaelnaa", sum := "40d6ce48b0a31310105f84e781087d30dfb1d35458b05ad8c26a7050471b85da", func := "loop.example/g00487/laws.FnExactVecMax", spec := "fnExactVecMax", apart := false, narrowed := true }
def FnExactVecMaxUptoSaid : Prop := fnExactVecMaxUptoRow.holds Try.pinned (OpenSpec.upto fnExactVecMaxSpec)

/-- 'laws.FnExactVecLeq', WHERE WHAT IT READS IS OF BULK AT MOST 1048576: true; the input reads as it did. -/
def fnExactVecLeqUptoRow : OpenClaim := { program := "ytdjoobcbnaelnaa", sum := "40d6ce48b0a31310105f84e781087d30dfb1d35458b05ad8c26a7050471b85da", func := "loop.example/g00487/laws.FnExactVecLeq", spec := "fnExactVecLeq", apart := false, narrowed := true }
def FnExactVecLeqUptoSaid : Prop := fnExactVecLeqUptoRow.holds Try.pinned (OpenSpec.upto fnExactVecLeqSpec)

/-- 'laws.FnExactVecRaise', WHERE WHAT IT READS IS OF BULK AT MOST 1048576: true; the input reads as it did. -/
def fnExactVecRaiseUptoRow : OpenClaim := { program := "ytdjoobcbnaelnaa", sum := "40d6ce48b0a31310105f84e781087d30dfb1d35458b05ad8c26a7050471b85da", func := "loop.example/g00487/laws.FnExactVecRaise", spec := "fnExactVecRaise", apart := false, narrowed := true }
def FnExactVecRaiseUptoSaid : Prop := fnExactVecRaiseUptoRow.holds Try.pinned (OpenSpec.upto fnExactVecRaiseSpec)

end Rows
end Go.Proofs.Ytdjoobcbnaelnaa
