/-
  No cell of these rows narrows 'for every input' (looked for: loops, veiled, ifaces, maps, wideKeys, modest, calm, conditions, laid).
  DERIVED. THE GIVEN ROWS OF THIS SEAT. 5 by the template 'for every input the law returns true; each argument reads behind the call as it read before'; 0 by the template 'total and deterministic' (their statements: YtdpaocikmijioafTotals.lean).
  GIVEN WITH THE SEED: the statements are not yours to turn. If you find one false, say at which input.
  Laid BY PROGRAM, IN A SANDBOX (cutbox-rows.mjs): the forced cells as the released guide's own fill.sh prints them over the translation 92c47be191f3166d… (all of the seat's roots in one cut). By AI agents, Wed Nov 11 2026. No macro, syntax, notation, axiom, sorry.
-/
import Derived.Test.YtdpaocikmijioafChecked
import GoSem.Claim
import GoSem.ClaimJoined
import GoSem.ClaimMapViews
import Derived.JoinedTies
import Derived.KernelRfl
namespace Go.Proofs.Ytdpaocikmijioaf
/- THE CELL 'sum', in the pinned program and in every row, IS THE sha256 OF THE DUMP (.gsa) THAT YtdpaocikmijioafProg.lean LOADS. Nothing in Lean hashes anything: it is a label: what it is worth is what the hold of that sum in a sandbox is worth. -/
noncomputable def Try.pinned : Pinned := { name := "ytdpaocikmijioaf", sum := "92c47be191f3166d5236d5ae78b15ab78a7eebc3c38ec1190f9c105f717a9a2e", checked := Try.checked }
namespace Rows
def none {H : Type} : Left H := { results := [], args := [] }

/-- 'laws.FnExactTreeTouch': WHATEVER THE INPUT: true; the input reads as it did. -/
def fnExactTreeTouchSpec : ChangeSpec := { name := "fnExactTreeTouch", fn := fun _ => fun
  | [d1, d2, d3] => { results := [.lit (.bool true)], args := [d1, d2, d3] }
  | _ => none }
def fnExactTreeTouchRow : OpenClaim := { program := "ytdpaocikmijioaf", sum := "92c47be191f3166d5236d5ae78b15ab78a7eebc3c38ec1190f9c105f717a9a2e", func := "loop.example/g00487/laws.FnExactTreeTouch", spec := "fnExactTreeTouch", unfollowed := true, recurses := true, apart := false }
def FnExactTreeTouchSaid : Prop := fnExactTreeTouchRow.holds Try.pinned (OpenSpec.ofChange fnExactTreeTouchSpec)

/-- ITS FALSE NEIGHBOUR: 'it returns false'. Refute it at one input. -/
def fnExactTreeTouchWrong : ChangeSpec := { name := "fnExactTreeTouch", fn := fun _ => fun
  | [d1, d2, d3] => { results := [.lit (.bool false)], args := [d1, d2, d3] }
  | _ => none }
def FnExactTreeTouchWrongFalsely : Prop := fnExactTreeTouchRow.holds Try.pinned (OpenSpec.ofChange fnExactTreeTouchWrong)

/-- 'laws.FnExactLogOk': WHATEVER THE INPUT: true; the input reads as it did. -/
def fnExactLogOkSpec : ChangeSpec := { name := "fnExactLogOk", fn := fun _ => fun
  | [d] => { results := [.lit (.bool true)], args := [d] }
  | _ => none }
def fnExactLogOkRow : OpenClaim := { program := "ytdpaocikmijioaf", sum := "92c47be191f3166d5236d5ae78b15ab78a7eebc3c38ec1190f9c105f717a9a2e", func := "loop.example/g00487/laws.FnExactLogOk", spec := "fnExactLogOk", unfollowed := true, recurses := true, apart := false }
def FnExactLogOkSaid : Prop := fnExactLogOkRow.holds Try.pinned (OpenSpec.ofChange fnExactLogOkSpec)

/-- ITS FALSE NEIGHBOUR: 'it returns false'. Refute it at one input. -/
def fnExactLogOkWrong : ChangeSpec := { name := "fnExactLogOk", fn := fun _ => fun
  | [d] => { results := [.lit (.bool false)], args := [d] }
  | _ => none }
def FnExactLogOkWrongFalsely : Prop := fnExactLogOkRow.holds Try.pinned (OpenSpec.ofChange fnExactLogOkWrong)

/-- 'laws.FnExactLogSeq': WHATEVER THE INPUT: true; the input reads as it did. -/
def fnExactLogSeqSpec : ChangeSpec := { name := "fnExactLogSeq", fn := fun _ => fun
  | [d] => { results := [.lit (.bool true)], args := [d] }
  | _ => none }
def fnExactLogSeqRow : OpenClaim := { program := "ytdpaocikmijioaf", sum := "92c47be191f3166d5236d5ae78b15ab78a7eebc3c38ec1190f9c105f717a9a2e", func := "loop.example/g00487/laws.FnExactLogSeq", spec := "fnExactLogSeq", unfollowed := true, recurses := true, apart := false }
def FnExactLogSeqSaid : Prop := fnExactLogSeqRow.holds Try.pinned (OpenSpec.ofChange fnExactLogSeqSpec)

/-- ITS FALSE NEIGHBOUR: 'it returns false'. Refute it at one input. -/
def fnExactLogSeqWrong : ChangeSpec := { name := "fnExactLogSeq", fn := fun _ => fun
  | [d] => { results := [.lit (.bool false)], args := [d] }
  | _ => none }
def FnExactLogSeqWrongFalsely : Prop := fnExactLogSeqRow.holds Try.pinned (OpenSpec.ofChange fnExactLogSeqWrong)

/-- 'laws.FnExactLogAdd': WHATEVER THE INPUT: true; the input reads as it did. -/
def fnExactLogAddSpec : ChangeSpec := { name := "fnExactLogAdd", fn := fun _ => fun
  | [d1, d2] => { results := [.lit (.bool true)], args := [d1, d2] }
  | _ => none }
def fnExactLogAddRow : OpenClaim := { program := "ytdpaocikmijioaf", sum := "92c47be191f3166d5236d5ae78b15ab78a7eebc3c38ec1190f9c105f717a9a2e", func := "loop.example/g00487/laws.FnExactLogAdd", spec := "fnExactLogAdd", unfollowed := true, recurses := true, apart := false }
def FnExactLogAddSaid : Prop := fnExactLogAddRow.holds Try.pinned (OpenSpec.ofChange fnExactLogAddSpec)

/-- ITS FALSE NEIGHBOUR: 'it returns false'. Refute it at one input. -/
def fnExactLogAddWrong : ChangeSpec := { name := "fnExactLogAdd", fn := fun _ => fun
  | [d1, d2] => { results := [.lit (.bool false)], args := [d1, d2] }
  | _ => none }
def FnExactLogAddWrongFalsely : Prop := fnExactLogAddRow.holds Try.pinned (OpenSpec.ofChange fnExactLogAddWrong)

/-- 'laws.FnExactLogDrop': WHATEVER THE INPUT: true; the input reads as it did. -/
def fnExactLogDropSpec : ChangeSpec := { name := "fnExactLogDrop", fn := fun _ => fun
  | [d1, d2] => { results := [.lit (.bool true)], args := [d1, d2] }
  | _ => none }
def fnExactLogDropRow : OpenClaim := { program := "ytdpaocikmijioaf", sum := "92c47be191f3166d5236d5ae78b15ab78a7eebc3c38ec1190f9c105f717a9a2e", func := "loop.example/g00487/laws.FnExactLogDrop", spec := "fnExactLogDrop", unfollowed := true, recurses := true, apart := false }
def FnExactLogDropSaid : Prop := fnExactLogDropRow.holds Try.pinned (OpenSpec.ofChange fnExactLogDropSpec)

/-- ITS FALSE NEIGHBOUR: 'it returns false'. Refute it at one input. -/
def fnExactLogDropWrong : ChangeSpec := { name := "fnExactLogDrop", fn := fun _ => fun
  | [d1, d2] => { results := [.lit (.bool false)], args := [d1, d2] }
  | _ => none }
def FnExactLogDropWrongFalsely : Prop := fnExactLogDropRow.holds Try.pinned (OpenSpec.ofChange fnExactLogDropWrong)

/- THE SECOND FORM. 'bulk': how many values and letters a reading holds, each counted each time it is reached (what is shared counts as often as it is met; a slice's spare places count too). A statement '..UptoSaid' is the law's where the arguments, and the package variables that the reading takes, are together of bulk at most 1048576: NARROWER than '..Said'. Prove '..Said' where nothing that the law and all that it calls make is longer than what came in: it says more and counts as full. Else prove '..UptoSaid'. A law counts once. -/
mutual
def uptoBulk {H : Type} : DataW H → Nat
  | .lit (.string bytes) => bytes.length + 1
  | .lit _ => 1
  | .nil => 1
  | .ptr d => uptoBulk d + 1
  | .slice elems spare => uptoBulkAll elems + uptoBulkAll spare + 1
  | .agg parts => uptoBulkAll parts + 1
  | .iface _ d => uptoBulk d + 1
  | .map entries => uptoBulkEntries entries + 1
  | .held _ => 1
def uptoBulkAll {H : Type} : List (DataW H) → Nat
  | [] => 0
  | d :: r => uptoBulk d + uptoBulkAll r
def uptoBulkEntries {H : Type} : List (Lit × DataW H) → Nat
  | [] => 0
  | x :: r => uptoBulkEntry x + uptoBulkEntries r
def uptoBulkEntry {H : Type} : Lit × DataW H → Nat
  | (.string bytes, d) => bytes.length + uptoBulk d + 1
  | (_, d) => uptoBulk d + 1
 end
def uptoSmall : (H : Type) → List (DataW H) → Bool := fun _ ds => decide (uptoBulkAll ds ≤ 1048576)
def OpenSpec.upto (s : _root_.Go.ChangeSpec) : _root_.Go.OpenSpec := { _root_.Go.OpenSpec.ofChange s with cond := some uptoSmall }

/-- 'laws.FnExactTreeTouch', WHERE WHAT IT READS IS OF BULK AT MOST 1048576: true; the input reads as it did. -/
def fnExactTreeTouchUptoRow : OpenClaim := { program := "ytdpaocikmijioaf", sum := "92c47be191f3166d5236d5ae78b15ab78a7eebc3c38ec1190f9c105f717a9a2e", func := "loop.example/g00487/laws.FnExactTreeTouch", spec := "fnExactTreeTouch", unfollowed := true, recurses := true, apart := false, narrowed := true }
def FnExactTreeTouchUptoSaid : Prop := fnExactTreeTouchUptoRow.holds Try.pinned (OpenSpec.upto fnExactTreeTouchSpec)

/-- 'laws.FnExactLogOk', WHERE WHAT IT READS IS OF BULK AT MOST 1048576: true; the input reads as it did. -/
def fnExactLogOkUptoRow : OpenClaim := { program := "ytdpaocikmijioaf", sum := "92c47be191f3166d5236d5ae78b15ab78a7eebc3c38ec1190f9c105f717a9a2e", func := "loop.example/g00487/laws.FnExactLogOk", spec := "fnExactLogOk", unfollowed := true, recurses := true, apart := false, narrowed := true }
def FnExactLogOkUptoSaid : Prop := fnExactLogOkUptoRow.holds Try.pinned (OpenSpec.upto fnExactLogOkSpec)

/-- 'laws.FnExactLogSeq', WHERE WHAT IT READS IS OF BULK AT MOST 1048576: true; the input reads as it did. -/
def fnExactLogSeqUptoRow : OpenClaim := { program := "ytdpaocikmijioaf", sum := "92c47be191f3166d5236d5ae78b15ab78a7eebc3c38ec1190f9c105f717a9a2e", func := "loop.example/g00487/laws.FnExactLogSeq", spec := "fnExactLogSeq", unfollowed := true, recurses := true, apart := false, narrowed := true }
def FnExactLogSeqUptoSaid : Prop := fnExactLogSeqUptoRow.holds Try.pinned (OpenSpec.upto fnExactLogSeqSpec)

/-- 'laws.FnExactLogAdd', WHERE WHAT IT READS IS OF BULK AT MOST 1048576: true; the input reads as it did. -/
def fnExactLogAddUptoRow : OpenClaim := { program := "ytdpaocikmijioaf", sum := "92c47be191f3166d5236d5ae78b15ab78a7eebc3c38ec1190f9c105f717a9a2e", func := "loop.example/g00487/laws.FnExactLogAdd", spec := "fnExactLogAdd", unfollowed := true, recurses := true, apart := false, narrowed := true }
def FnExactLogAddUptoSaid : Prop := fnExactLogAddUptoRow.holds Try.pinned (OpenSpec.upto fnExactLogAddSpec)

/-- 'laws.FnExactLogDrop', WHERE WHAT IT READS IS OF BULK AT MOST 1048576: true; the input reads as it did. -/
def fnExactLogDropUptoRow : OpenClaim := { program := "ytdpaocikmijioaf", sum := "92c47be191f3166d5236d5ae78b15ab78a7eebc3c38ec1190f9c105f717a9a2e", func := "loop.example/g00487/laws.FnExactLogDrop", spec := "fnExactLogDrop", unfollowed := true, recurses := true, apart := false, narrowed := true }
def FnExactLogDropUptoSaid : Prop := fnExactLogDropUptoRow.holds Try.pinned (OpenSpec.upto fnExactLogDropSpec)

end Rows
end Go.Proofs.Ytdpaocikmijioaf
