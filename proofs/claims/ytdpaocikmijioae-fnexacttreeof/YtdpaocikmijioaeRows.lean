/-
  No cell of these rows narrows 'for every input' (looked for: loops, veiled, ifaces, maps, wideKeys, modest, calm, conditions, laid).
  DERIVED. THE GIVEN ROWS OF THIS SEAT. 6 by the template 'for every input the law returns true; each argument reads behind the call as it read before'; 0 by the template 'total and deterministic' (their statements: YtdpaocikmijioaeTotals.lean).
  GIVEN WITH THE SEED: the statements are not yours to turn. If you find one false, say at which input.
  Laid BY PROGRAM, IN A SANDBOX (cutbox-rows.mjs): the forced cells as the released guide's own fill.sh prints them over the translation dd310789fdc370e3… (all of the seat's roots in one cut). By AI agents, Wed Nov 11 2026. No macro, syntax, notation, axiom, sorry.
-/
import Derived.Test.YtdpaocikmijioaeChecked
import GoSem.Claim
import GoSem.ClaimJoined
import GoSem.ClaimMapViews
import Derived.JoinedTies
import Derived.KernelRfl
namespace Go.Proofs.Ytdpaocikmijioae
/- THE CELL 'sum', in the pinned program and in every row, IS THE sha256 OF THE DUMP (.gsa) THAT YtdpaocikmijioaeProg.lean LOADS. Nothing in Lean hashes anything: it is a label: what it is worth is what the hold of that sum in a sandbox is worth. -/
noncomputable def Try.pinned : Pinned := { name := "ytdpaocikmijioae", sum := "dd310789fdc370e3dccf09f6609f8510adcd6813706be904d6e7e35936203ade", checked := Try.checked }
namespace Rows
def none {H : Type} : Left H := { results := [], args := [] }

/-- 'laws.FnExactSaySet': WHATEVER THE INPUT: true; the input reads as it did. -/
def fnExactSaySetSpec : ChangeSpec := { name := "fnExactSaySet", fn := fun _ => fun
  | [d1, d2, d3] => { results := [.lit (.bool true)], args := [d1, d2, d3] }
  | _ => none }
def fnExactSaySetRow : OpenClaim := { program := "ytdpaocikmijioae", sum := "dd310789fdc370e3dccf09f6609f8510adcd6813706be904d6e7e35936203ade", func := "loop.example/g00487/laws.FnExactSaySet", spec := "fnExactSaySet", unfollowed := true, recurses := true, apart := false }
def FnExactSaySetSaid : Prop := fnExactSaySetRow.holds Try.pinned (OpenSpec.ofChange fnExactSaySetSpec)

/-- ITS FALSE NEIGHBOUR: 'it returns false'. Refute it at one input. -/
def fnExactSaySetWrong : ChangeSpec := { name := "fnExactSaySet", fn := fun _ => fun
  | [d1, d2, d3] => { results := [.lit (.bool false)], args := [d1, d2, d3] }
  | _ => none }
def FnExactSaySetWrongFalsely : Prop := fnExactSaySetRow.holds Try.pinned (OpenSpec.ofChange fnExactSaySetWrong)

/-- 'laws.FnExactSayGone': WHATEVER THE INPUT: true; the input reads as it did. -/
def fnExactSayGoneSpec : ChangeSpec := { name := "fnExactSayGone", fn := fun _ => fun
  | [d1, d2] => { results := [.lit (.bool true)], args := [d1, d2] }
  | _ => none }
def fnExactSayGoneRow : OpenClaim := { program := "ytdpaocikmijioae", sum := "dd310789fdc370e3dccf09f6609f8510adcd6813706be904d6e7e35936203ade", func := "loop.example/g00487/laws.FnExactSayGone", spec := "fnExactSayGone", unfollowed := true, recurses := true, apart := false }
def FnExactSayGoneSaid : Prop := fnExactSayGoneRow.holds Try.pinned (OpenSpec.ofChange fnExactSayGoneSpec)

/-- ITS FALSE NEIGHBOUR: 'it returns false'. Refute it at one input. -/
def fnExactSayGoneWrong : ChangeSpec := { name := "fnExactSayGone", fn := fun _ => fun
  | [d1, d2] => { results := [.lit (.bool false)], args := [d1, d2] }
  | _ => none }
def FnExactSayGoneWrongFalsely : Prop := fnExactSayGoneRow.holds Try.pinned (OpenSpec.ofChange fnExactSayGoneWrong)

/-- 'laws.FnExactSlice': WHATEVER THE INPUT: true; the input reads as it did. -/
def fnExactSliceSpec : ChangeSpec := { name := "fnExactSlice", fn := fun _ => fun
  | [d1, d2] => { results := [.lit (.bool true)], args := [d1, d2] }
  | _ => none }
def fnExactSliceRow : OpenClaim := { program := "ytdpaocikmijioae", sum := "dd310789fdc370e3dccf09f6609f8510adcd6813706be904d6e7e35936203ade", func := "loop.example/g00487/laws.FnExactSlice", spec := "fnExactSlice", unfollowed := true, recurses := true, apart := false }
def FnExactSliceSaid : Prop := fnExactSliceRow.holds Try.pinned (OpenSpec.ofChange fnExactSliceSpec)

/-- ITS FALSE NEIGHBOUR: 'it returns false'. Refute it at one input. -/
def fnExactSliceWrong : ChangeSpec := { name := "fnExactSlice", fn := fun _ => fun
  | [d1, d2] => { results := [.lit (.bool false)], args := [d1, d2] }
  | _ => none }
def FnExactSliceWrongFalsely : Prop := fnExactSliceRow.holds Try.pinned (OpenSpec.ofChange fnExactSliceWrong)

/-- 'laws.FnExactStateBytes': WHATEVER THE INPUT: true; the input reads as it did. -/
def fnExactStateBytesSpec : ChangeSpec := { name := "fnExactStateBytes", fn := fun _ => fun
  | [d] => { results := [.lit (.bool true)], args := [d] }
  | _ => none }
def fnExactStateBytesRow : OpenClaim := { program := "ytdpaocikmijioae", sum := "dd310789fdc370e3dccf09f6609f8510adcd6813706be904d6e7e35936203ade", func := "loop.example/g00487/laws.FnExactStateBytes", spec := "fnExactStateBytes", unfollowed := true, recurses := true, apart := false }
def FnExactStateBytesSaid : Prop := fnExactStateBytesRow.holds Try.pinned (OpenSpec.ofChange fnExactStateBytesSpec)

/-- ITS FALSE NEIGHBOUR: 'it returns false'. Refute it at one input. -/
def fnExactStateBytesWrong : ChangeSpec := { name := "fnExactStateBytes", fn := fun _ => fun
  | [d] => { results := [.lit (.bool false)], args := [d] }
  | _ => none }
def FnExactStateBytesWrongFalsely : Prop := fnExactStateBytesRow.holds Try.pinned (OpenSpec.ofChange fnExactStateBytesWrong)

/-- 'laws.FnExactLeafSum': WHATEVER THE INPUT: true; the input reads as it did. -/
def fnExactLeafSumSpec : ChangeSpec := { name := "fnExactLeafSum", fn := fun _ => fun
  | [d1, d2] => { results := [.lit (.bool true)], args := [d1, d2] }
  | _ => none }
def fnExactLeafSumRow : OpenClaim := { program := "ytdpaocikmijioae", sum := "dd310789fdc370e3dccf09f6609f8510adcd6813706be904d6e7e35936203ade", func := "loop.example/g00487/laws.FnExactLeafSum", spec := "fnExactLeafSum", unfollowed := true, recurses := true, apart := false }
def FnExactLeafSumSaid : Prop := fnExactLeafSumRow.holds Try.pinned (OpenSpec.ofChange fnExactLeafSumSpec)

/-- ITS FALSE NEIGHBOUR: 'it returns false'. Refute it at one input. -/
def fnExactLeafSumWrong : ChangeSpec := { name := "fnExactLeafSum", fn := fun _ => fun
  | [d1, d2] => { results := [.lit (.bool false)], args := [d1, d2] }
  | _ => none }
def FnExactLeafSumWrongFalsely : Prop := fnExactLeafSumRow.holds Try.pinned (OpenSpec.ofChange fnExactLeafSumWrong)

/-- 'laws.FnExactTreeOf': WHATEVER THE INPUT: true; the input reads as it did. -/
def fnExactTreeOfSpec : ChangeSpec := { name := "fnExactTreeOf", fn := fun _ => fun
  | [d] => { results := [.lit (.bool true)], args := [d] }
  | _ => none }
def fnExactTreeOfRow : OpenClaim := { program := "ytdpaocikmijioae", sum := "dd310789fdc370e3dccf09f6609f8510adcd6813706be904d6e7e35936203ade", func := "loop.example/g00487/laws.FnExactTreeOf", spec := "fnExactTreeOf", unfollowed := true, recurses := true, apart := false }
def FnExactTreeOfSaid : Prop := fnExactTreeOfRow.holds Try.pinned (OpenSpec.ofChange fnExactTreeOfSpec)

/-- ITS FALSE NEIGHBOUR: 'it returns false'. Refute it at one input. -/
def fnExactTreeOfWrong : ChangeSpec := { name := "fnExactTreeOf", fn := fun _ => fun
  | [d] => { results := [.lit (.bool false)], args := [d] }
  | _ => none }
def FnExactTreeOfWrongFalsely : Prop := fnExactTreeOfRow.holds Try.pinned (OpenSpec.ofChange fnExactTreeOfWrong)

/- THE SECOND FORM. 'bulk': how many values and letters a reading holds, each counted each time it is reached (what is shared counts as often as it is met; a slice's spare places count too). A statement '..UptoSaid' is the law's where the arguments, and the package variables that the reading takes, are together of bulk at most 1048576: NARROWER than '..Said'. Prove '..Said' where nothing that the law and all that it calls make is longer than what came in: it says more and counts as full. Else prove '..UptoSaid'. A law counts once. -/
mutual
def uptoBulk {H : Type} : DataW H → Nat
  | .lit (.string bytes) => bytes.length + 1
  | .lit _ => 1
  | .nil => 1
  | .ptr d => uptoBulk d + 1
  | .slice elems spare => uptoBulkAll elems + uptoBulkAll spare + 1
  | .agg parts => uptoBulkAll parts + 1
  | .iface _ d => uptoBulk d + 1
  | .map entries => uptoBulkEntries entries + 1
  | .held _ => 1
def uptoBulkAll {H : Type} : List (DataW H) → Nat
  | [] => 0
  | d :: r => uptoBulk d + uptoBulkAll r
def uptoBulkEntries {H : Type} : List (Lit × DataW H) → Nat
  | [] => 0
  | x :: r => uptoBulkEntry x + uptoBulkEntries r
def uptoBulkEntry {H : Type} : Lit × DataW H → Nat
  | (.string bytes, d) => bytes.length + uptoBulk d + 1
  | (_, d) => uptoBulk d + 1
 end
def uptoSmall : (H : Type) → List (DataW H) → Bool := fun _ ds => decide (uptoBulkAll ds ≤ 1048576)
def OpenSpec.upto (s : _root_.Go.ChangeSpec) : _root_.Go.OpenSpec := { _root_.Go.OpenSpec.ofChange s with cond := some uptoSmall }

/-- 'laws.FnExactSaySet', WHERE WHAT IT READS IS OF BULK AT MOST 1048576: true; the input reads as it did. -/
def fnExactSaySetUptoRow : OpenClaim := { program := "ytdpaocikmijioae", sum := "dd310789fdc370e3dccf09f6609f8510adcd6813706be904d6e7e35936203ade", func := "loop.example/g00487/laws.FnExactSaySet", spec := "fnExactSaySet", unfollowed := true, recurses := true, apart := false, narrowed := true }
def FnExactSaySetUptoSaid : Prop := fnExactSaySetUptoRow.holds Try.pinned (OpenSpec.upto fnExactSaySetSpec)

/-- 'laws.FnExactSayGone', WHERE WHAT IT READS IS OF BULK AT MOST 1048576: true; the input reads as it did. -/
def fnExactSayGoneUptoRow : OpenClaim := { program := "ytdpaocikmijioae", sum := "dd310789fdc370e3dccf09f6609f8510adcd6813706be904d6e7e35936203ade", func := "loop.example/g00487/laws.FnExactSayGone", spec := "fnExactSayGone", unfollowed := true, recurses := true, apart := false, narrowed := true }
def FnExactSayGoneUptoSaid : Prop := fnExactSayGoneUptoRow.holds Try.pinned (OpenSpec.upto fnExactSayGoneSpec)

/-- 'laws.FnExactSlice', WHERE WHAT IT READS IS OF BULK AT MOST 1048576: true; the input reads as it did. -/
def fnExactSliceUptoRow : OpenClaim := { program := "ytdpaocikmijioae", sum := "dd310789fdc370e3dccf09f6609f8510adcd6813706be904d6e7e35936203ade", func := "loop.example/g00487/laws.FnExactSlice", spec := "fnExactSlice", unfollowed := true, recurses := true, apart := false, narrowed := true }
def FnExactSliceUptoSaid : Prop := fnExactSliceUptoRow.holds Try.pinned (OpenSpec.upto fnExactSliceSpec)

/-- 'laws.FnExactStateBytes', WHERE WHAT IT READS IS OF BULK AT MOST 1048576: true; the input reads as it did. -/
def fnExactStateBytesUptoRow : OpenClaim := { program := "ytdpaocikmijioae", sum := "dd310789fdc370e3dccf09f6609f8510adcd6813706be904d6e7e35936203ade", func := "loop.example/g00487/laws.FnExactStateBytes", spec := "fnExactStateBytes", unfollowed := true, recurses := true, apart := false, narrowed := true }
def FnExactStateBytesUptoSaid : Prop := fnExactStateBytesUptoRow.holds Try.pinned (OpenSpec.upto fnExactStateBytesSpec)

/-- 'laws.FnExactLeafSum', WHERE WHAT IT READS IS OF BULK AT MOST 1048576: true; the input reads as it did. -/
def fnExactLeafSumUptoRow : OpenClaim := { program := "ytdpaocikmijioae", sum := "dd310789fdc370e3dccf09f6609f8510adcd6813706be904d6e7e35936203ade", func := "loop.example/g00487/laws.FnExactLeafSum", spec := "fnExactLeafSum", unfollowed := true, recurses := true, apart := false, narrowed := true }
def FnExactLeafSumUptoSaid : Prop := fnExactLeafSumUptoRow.holds Try.pinned (OpenSpec.upto fnExactLeafSumSpec)

/-- 'laws.FnExactTreeOf', WHERE WHAT IT READS IS OF BULK AT MOST 1048576: true; the input reads as it did. -/
def fnExactTreeOfUptoRow : OpenClaim := { program := "ytdpaocikmijioae", sum := "dd310789fdc370e3dccf09f6609f8510adcd6813706be904d6e7e35936203ade", func := "loop.example/g00487/laws.FnExactTreeOf", spec := "fnExactTreeOf", unfollowed := true, recurses := true, apart := false, narrowed := true }
def FnExactTreeOfUptoSaid : Prop := fnExactTreeOfUptoRow.holds Try.pinned (OpenSpec.upto fnExactTreeOfSpec)

end Rows
end Go.Proofs.Ytdpaocikmijioae
