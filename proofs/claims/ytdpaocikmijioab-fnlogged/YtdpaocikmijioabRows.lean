/-
  No cell of these rows narrows 'for every input' (looked for: loops, veiled, ifaces, maps, wideKeys, modest, calm, conditions, laid).
  DERIVED. THE GIVEN ROWS OF THIS SEAT. 3 by the template 'for every input the law returns true; each argument reads behind the call as it read before'; 0 by the template 'total and deterministic' (their statements: YtdpaocikmijioabTotals.lean).
  GIVEN WITH THE SEED: the statements are not yours to turn. If you find one false, say at which input.
  Laid BY PROGRAM, IN A SANDBOX (cutbox-rows.mjs): the forced cells as the released guide's own fill.sh prints them over the translation 8f56401662572ff1… (all of the seat's roots in one cut). By AI agents, Wed Nov 11 2026. No macro, syntax, notation, axiom, sorry.
-/
import Derived.Test.YtdpaocikmijioabChecked
import GoSem.Claim
import GoSem.ClaimJoined
import GoSem.ClaimMapViews
import Derived.JoinedTies
import Derived.KernelRfl
namespace Go.Proofs.Ytdpaocikmijioab
/- THE CELL 'sum', in the pinned program and in every row, IS THE sha256 OF THE DUMP (.gsa) THAT YtdpaocikmijioabProg.lean LOADS. Nothing in Lean hashes anything: it is a label: what it is worth is what the hold of that sum in a sandbox is worth. -/
noncomputable def Try.pinned : Pinned := { name := "ytdpaocikmijioab", sum := "8f56401662572ff1528d655f02f5ce524c9ed2f4829a24f32715a40063b8d7a0", checked := Try.checked }
namespace Rows
def none {H : Type} : Left H := { results := [], args := [] }

/-- 'laws.FnMaxInc': WHATEVER THE INPUT: true; the input reads as it did. -/
def fnMaxIncSpec : ChangeSpec := { name := "fnMaxInc", fn := fun _ => fun
  | [d] => { results := [.lit (.bool true)], args := [d] }
  | _ => none }
def fnMaxIncRow : OpenClaim := { program := "ytdpaocikmijioab", sum := "8f56401662572ff1528d655f02f5ce524c9ed2f4829a24f32715a40063b8d7a0", func := "loop.example/g00487/laws.FnMaxInc", spec := "fnMaxInc", unfollowed := true, recurses := true, apart := false }
def FnMaxIncSaid : Prop := fnMaxIncRow.holds Try.pinned (OpenSpec.ofChange fnMaxIncSpec)

/-- ITS FALSE NEIGHBOUR: 'it returns false'. Refute it at one input. -/
def fnMaxIncWrong : ChangeSpec := { name := "fnMaxInc", fn := fun _ => fun
  | [d] => { results := [.lit (.bool false)], args := [d] }
  | _ => none }
def FnMaxIncWrongFalsely : Prop := fnMaxIncRow.holds Try.pinned (OpenSpec.ofChange fnMaxIncWrong)

/-- 'laws.FnLeaves': WHATEVER THE INPUT: true; the input reads as it did. -/
def fnLeavesSpec : ChangeSpec := { name := "fnLeaves", fn := fun _ => fun
  | [d] => { results := [.lit (.bool true)], args := [d] }
  | _ => none }
def fnLeavesRow : OpenClaim := { program := "ytdpaocikmijioab", sum := "8f56401662572ff1528d655f02f5ce524c9ed2f4829a24f32715a40063b8d7a0", func := "loop.example/g00487/laws.FnLeaves", spec := "fnLeaves", unfollowed := true, recurses := true, apart := false }
def FnLeavesSaid : Prop := fnLeavesRow.holds Try.pinned (OpenSpec.ofChange fnLeavesSpec)

/-- ITS FALSE NEIGHBOUR: 'it returns false'. Refute it at one input. -/
def fnLeavesWrong : ChangeSpec := { name := "fnLeaves", fn := fun _ => fun
  | [d] => { results := [.lit (.bool false)], args := [d] }
  | _ => none }
def FnLeavesWrongFalsely : Prop := fnLeavesRow.holds Try.pinned (OpenSpec.ofChange fnLeavesWrong)

/-- 'laws.FnLogged': WHATEVER THE INPUT: true; the input reads as it did. -/
def fnLoggedSpec : ChangeSpec := { name := "fnLogged", fn := fun _ => fun
  | [d] => { results := [.lit (.bool true)], args := [d] }
  | _ => none }
def fnLoggedRow : OpenClaim := { program := "ytdpaocikmijioab", sum := "8f56401662572ff1528d655f02f5ce524c9ed2f4829a24f32715a40063b8d7a0", func := "loop.example/g00487/laws.FnLogged", spec := "fnLogged", unfollowed := true, recurses := true, apart := false }
def FnLoggedSaid : Prop := fnLoggedRow.holds Try.pinned (OpenSpec.ofChange fnLoggedSpec)

/-- ITS FALSE NEIGHBOUR: 'it returns false'. Refute it at one input. -/
def fnLoggedWrong : ChangeSpec := { name := "fnLogged", fn := fun _ => fun
  | [d] => { results := [.lit (.bool false)], args := [d] }
  | _ => none }
def FnLoggedWrongFalsely : Prop := fnLoggedRow.holds Try.pinned (OpenSpec.ofChange fnLoggedWrong)

/- THE SECOND FORM. 'bulk': how many values and letters a reading holds, each counted each time it is reached (what is shared counts as often as it is met; a slice's spare places count too). A statement '..UptoSaid' is the law's where the arguments, and the package variables that the reading takes, are together of bulk at most 1048576: NARROWER than '..Said'. Prove '..Said' where nothing that the law and all that it calls make is longer than what came in: it says more and counts as full. Else prove '..UptoSaid'. A law counts once. -/
mutual
def uptoBulk {H : Type} : DataW H → Nat
  | .lit (.string bytes) => bytes.length + 1
  | .lit _ => 1
  | .nil => 1
  | .ptr d => uptoBulk d + 1
  | .slice elems spare => uptoBulkAll elems + uptoBulkAll spare + 1
  | .agg parts => uptoBulkAll parts + 1
  | .iface _ d => uptoBulk d + 1
  | .map entries => uptoBulkEntries entries + 1
  | .held _ => 1
def uptoBulkAll {H : Type} : List (DataW H) → Nat
  | [] => 0
  | d :: r => uptoBulk d + uptoBulkAll r
def uptoBulkEntries {H : Type} : List (Lit × DataW H) → Nat
  | [] => 0
  | x :: r => uptoBulkEntry x + uptoBulkEntries r
def uptoBulkEntry {H : Type} : Lit × DataW H → Nat
  | (.string bytes, d) => bytes.length + uptoBulk d + 1
  | (_, d) => uptoBulk d + 1
 end
def uptoSmall : (H : Type) → List (DataW H) → Bool := fun _ ds => decide (uptoBulkAll ds ≤ 1048576)
def OpenSpec.upto (s : _root_.Go.ChangeSpec) : _root_.Go.OpenSpec := { _root_.Go.OpenSpec.ofChange s with cond := some uptoSmall }

/-- 'laws.FnMaxInc', WHERE WHAT IT READS IS OF BULK AT MOST 1048576: true; the input reads as it did. -/
def fnMaxIncUptoRow : OpenClaim := { program := "ytdpaocikmijioab", sum := "8f56401662572ff1528d655f02f5ce524c9ed2f4829a24f32715a40063b8d7a0", func := "loop.example/g00487/laws.FnMaxInc", spec := "fnMaxInc", unfollowed := true, recurses := true, apart := false, narrowed := true }
def FnMaxIncUptoSaid : Prop := fnMaxIncUptoRow.holds Try.pinned (OpenSpec.upto fnMaxIncSpec)

/-- 'laws.FnLeaves', WHERE WHAT IT READS IS OF BULK AT MOST 1048576: true; the input reads as it did. -/
def fnLeavesUptoRow : OpenClaim := { program := "ytdpaocikmijioab", sum := "8f56401662572ff1528d655f02f5ce524c9ed2f4829a24f32715a40063b8d7a0", func := "loop.example/g00487/laws.FnLeaves", spec := "fnLeaves", unfollowed := true, recurses := true, apart := false, narrowed := true }
def FnLeavesUptoSaid : Prop := fnLeavesUptoRow.holds Try.pinned (OpenSpec.upto fnLeavesSpec)

/-- 'laws.FnLogged', WHERE WHAT IT READS IS OF BULK AT MOST 1048576: true; the input reads as it did. -/
def fnLoggedUptoRow : OpenClaim := { program := "ytdpaocikmijioab", sum := "8f56401662572ff1528d655f02f5ce524c9ed2f4829a24f32715a40063b8d7a0", func := "loop.example/g00487/laws.FnLogged", spec := "fnLogged", unfollowed := true, recurses := true, apart := false, narrowed := true }
def FnLoggedUptoSaid : Prop := fnLoggedUptoRow.holds Try.pinned (OpenSpec.upto fnLoggedSpec)

end Rows
end Go.Proofs.Ytdpaocikmijioab
