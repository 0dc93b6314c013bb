/-
  No cell of these rows narrows 'for every input' (looked for: loops, veiled, ifaces, maps, wideKeys, modest, calm, conditions, laid).
  DERIVED. THE GIVEN ROWS OF THIS SEAT. 5 by the template 'for every input the law returns true; each argument reads behind the call as it read before'; 0 by the template 'total and deterministic' (their statements: YtcojhelihafigaaTotals.lean).
  GIVEN WITH THE SEED: the statements are not yours to turn. If you find one false, say at which input.
  Laid BY PROGRAM, IN A SANDBOX (cutbox-rows.mjs): the forced cells as the released guide's own fill.sh prints them over the translation a6af93cee8fcfafd… (all of the seat's roots in one cut). By AI agents, Wed Nov 11 2026. No macro, syntax, notation, axiom, sorry.
-/
import Derived.Test.YtcojhelihafigaaChecked
import GoSem.Claim
import GoSem.ClaimJoined
import GoSem.ClaimMapViews
import Derived.JoinedTies
import Derived.KernelRfl
namespace Go.Proofs.Ytcojhelihafigaa
/- THE CELL 'sum', in the pinned program and in every row, IS THE sha256 OF THE DUMP (.gsa) THAT YtcojhelihafigaaProg.lean LOADS. Nothing in Lean hashes anything: it is a label: what it is worth is what the hold of that sum in a sandbox is worth. -/
noncomputable def Try.pinned : Pinned := { name := "ytcojhelihafigaa", sum := "a6af93cee8fcfafdaf4c8b59ad12a58bad2d288fbc1d9caa55f4a9918807f7c2", checked := Try.checked }
namespace Rows
def none {H : Type} : Left H := { results := [], args := [] }

/-- 'laws.FnMaxInc': WHATEVER THE INPUT: true; the input reads as it did. -/
def fnMaxIncSpec : ChangeSpec := { name := "fnMaxInc", fn := fun _ => fun
  | [d] => { results := [.lit (.bool true)], args := [d] }
  | _ => none }
def fnMaxIncRow : OpenClaim := { program := "ytcojhelihafigaa", sum := "a6af93cee8fcfafdaf4c8b59ad12a58bad2d288fbc1d9caa55f4a9918807f7c2", func := "loop.example/g00487/laws.FnMaxInc", spec := "fnMaxInc", unfollowed := true, recurses := true, apart := false }
def FnMaxIncSaid : Prop := fnMaxIncRow.holds Try.pinned (OpenSpec.ofChange fnMaxIncSpec)

/-- ITS FALSE NEIGHBOUR: 'it returns false'. Refute it at one input. -/
def fnMaxIncWrong : ChangeSpec := { name := "fnMaxInc", fn := fun _ => fun
  | [d] => { results := [.lit (.bool false)], args := [d] }
  | _ => none }
def FnMaxIncWrongFalsely : Prop := fnMaxIncRow.holds Try.pinned (OpenSpec.ofChange fnMaxIncWrong)

/-- 'laws.FnExactSayJoin': WHATEVER THE INPUT: true; the input reads as it did. -/
def fnExactSayJoinSpec : ChangeSpec := { name := "fnExactSayJoin", fn := fun _ => fun
  | [d1, d2] => { results := [.lit (.bool true)], args := [d1, d2] }
  | _ => none }
def fnExactSayJoinRow : OpenClaim := { program := "ytcojhelihafigaa", sum := "a6af93cee8fcfafdaf4c8b59ad12a58bad2d288fbc1d9caa55f4a9918807f7c2", func := "loop.example/g00487/laws.FnExactSayJoin", spec := "fnExactSayJoin", unfollowed := true, recurses := true, apart := false }
def FnExactSayJoinSaid : Prop := fnExactSayJoinRow.holds Try.pinned (OpenSpec.ofChange fnExactSayJoinSpec)

/-- ITS FALSE NEIGHBOUR: 'it returns false'. Refute it at one input. -/
def fnExactSayJoinWrong : ChangeSpec := { name := "fnExactSayJoin", fn := fun _ => fun
  | [d1, d2] => { results := [.lit (.bool false)], args := [d1, d2] }
  | _ => none }
def FnExactSayJoinWrongFalsely : Prop := fnExactSayJoinRow.holds Try.pinned (OpenSpec.ofChange fnExactSayJoinWrong)

/-- 'laws.FnExactSayBeat': WHATEVER THE INPUT: true; the input reads as it did. -/
def fnExactSayBeatSpec : ChangeSpec := { name := "fnExactSayBeat", fn := fun _ => fun
  | [d1, d2] => { results := [.lit (.bool true)], args := [d1, d2] }
  | _ => none }
def fnExactSayBeatRow : OpenClaim := { program := "ytcojhelihafigaa", sum := "a6af93cee8fcfafdaf4c8b59ad12a58bad2d288fbc1d9caa55f4a9918807f7c2", func := "loop.example/g00487/laws.FnExactSayBeat", spec := "fnExactSayBeat", unfollowed := true, recurses := true, apart := false }
def FnExactSayBeatSaid : Prop := fnExactSayBeatRow.holds Try.pinned (OpenSpec.ofChange fnExactSayBeatSpec)

/-- ITS FALSE NEIGHBOUR: 'it returns false'. Refute it at one input. -/
def fnExactSayBeatWrong : ChangeSpec := { name := "fnExactSayBeat", fn := fun _ => fun
  | [d1, d2] => { results := [.lit (.bool false)], args := [d1, d2] }
  | _ => none }
def FnExactSayBeatWrongFalsely : Prop := fnExactSayBeatRow.holds Try.pinned (OpenSpec.ofChange fnExactSayBeatWrong)

/-- 'laws.FnExactSaySet': WHATEVER THE INPUT: true; the input reads as it did. -/
def fnExactSaySetSpec : ChangeSpec := { name := "fnExactSaySet", fn := fun _ => fun
  | [d1, d2, d3] => { results := [.lit (.bool true)], args := [d1, d2, d3] }
  | _ => none }
def fnExactSaySetRow : OpenClaim := { program := "ytcojhelihafigaa", sum := "a6af93cee8fcfafdaf4c8b59ad12a58bad2d288fbc1d9caa55f4a9918807f7c2", func := "loop.example/g00487/laws.FnExactSaySet", spec := "fnExactSaySet", unfollowed := true, recurses := true, apart := false }
def FnExactSaySetSaid : Prop := fnExactSaySetRow.holds Try.pinned (OpenSpec.ofChange fnExactSaySetSpec)

/-- ITS FALSE NEIGHBOUR: 'it returns false'. Refute it at one input. -/
def fnExactSaySetWrong : ChangeSpec := { name := "fnExactSaySet", fn := fun _ => fun
  | [d1, d2, d3] => { results := [.lit (.bool false)], args := [d1, d2, d3] }
  | _ => none }
def FnExactSaySetWrongFalsely : Prop := fnExactSaySetRow.holds Try.pinned (OpenSpec.ofChange fnExactSaySetWrong)

/-- 'laws.FnExactSayGone': WHATEVER THE INPUT: true; the input reads as it did. -/
def fnExactSayGoneSpec : ChangeSpec := { name := "fnExactSayGone", fn := fun _ => fun
  | [d1, d2] => { results := [.lit (.bool true)], args := [d1, d2] }
  | _ => none }
def fnExactSayGoneRow : OpenClaim := { program := "ytcojhelihafigaa", sum := "a6af93cee8fcfafdaf4c8b59ad12a58bad2d288fbc1d9caa55f4a9918807f7c2", func := "loop.example/g00487/laws.FnExactSayGone", spec := "fnExactSayGone", unfollowed := true, recurses := true, apart := false }
def FnExactSayGoneSaid : Prop := fnExactSayGoneRow.holds Try.pinned (OpenSpec.ofChange fnExactSayGoneSpec)

/-- ITS FALSE NEIGHBOUR: 'it returns false'. Refute it at one input. -/
def fnExactSayGoneWrong : ChangeSpec := { name := "fnExactSayGone", fn := fun _ => fun
  | [d1, d2] => { results := [.lit (.bool false)], args := [d1, d2] }
  | _ => none }
def FnExactSayGoneWrongFalsely : Prop := fnExactSayGoneRow.holds Try.pinned (OpenSpec.ofChange fnExactSayGoneWrong)

/- THE SECOND FORM. 'bulk': how many values and letters a reading holds, each counted each time it is reached (what is shared counts as often as it is met; a slice's spare places count too). A statement '..UptoSaid' is the law's where the arguments, and the package variables that the reading takes, are together of bulk at most 1048576: NARROWER than '..Said'. Prove '..Said' where nothing that the law and all that it calls make is longer than what came in: it says more and counts as full. Else prove '..UptoSaid'. A law counts once. -/
mutual
def uptoBulk {H : Type} : DataW H → Nat
  | .lit (.string bytes) => bytes.length + 1
  | .lit _ => 1
  | .nil => 1
  | .ptr d => uptoBulk d + 1
  | .slice elems spare => uptoBulkAll elems + uptoBulkAll spare + 1
  | .agg parts => uptoBulkAll parts + 1
  | .iface _ d => uptoBulk d + 1
  | .map entries => uptoBulkEntries entries + 1
  | .held _ => 1
def uptoBulkAll {H : Type} : List (DataW H) → Nat
  | [] => 0
  | d :: r => uptoBulk d + uptoBulkAll r
def uptoBulkEntries {H : Type} : List (Lit × DataW H) → Nat
  | [] => 0
  | x :: r => uptoBulkEntry x + uptoBulkEntries r
def uptoBulkEntry {H : Type} : Lit × DataW H → Nat
  | (.string bytes, d) => bytes.length + uptoBulk d + 1
  | (_, d) => uptoBulk d + 1
 end
def uptoSmall : (H : Type) → List (DataW H) → Bool := fun _ ds => decide (uptoBulkAll ds ≤ 1048576)
def OpenSpec.upto (s : _root_.Go.ChangeSpec) : _root_.Go.OpenSpec := { _root_.Go.OpenSpec.ofChange s with cond := some uptoSmall }

/-- 'laws.FnMaxInc', WHERE WHAT IT READS IS OF BULK AT MOST 1048576: true; the input reads as it did. -/
def fnMaxIncUptoRow : OpenClaim := { program := "ytcojhelihafigaa", sum := "a6af93cee8fcfafdaf4c8b59ad12a58bad2d288fbc1d9caa55f4a9918807f7c2", func := "loop.example/g00487/laws.FnMaxInc", spec := "fnMaxInc", unfollowed := true, recurses := true, apart := false, narrowed := true }
def FnMaxIncUptoSaid : Prop := fnMaxIncUptoRow.holds Try.pinned (OpenSpec.upto fnMaxIncSpec)

/-- 'laws.FnExactSayJoin', WHERE WHAT IT READS IS OF BULK AT MOST 1048576: true; the input reads as it did. -/
def fnExactSayJoinUptoRow : OpenClaim := { program := "ytcojhelihafigaa", sum := "a6af93cee8fcfafdaf4c8b59ad12a58bad2d288fbc1d9caa55f4a9918807f7c2", func := "loop.example/g00487/laws.FnExactSayJoin", spec := "fnExactSayJoin", unfollowed := true, recurses := true, apart := false, narrowed := true }
def FnExactSayJoinUptoSaid : Prop := fnExactSayJoinUptoRow.holds Try.pinned (OpenSpec.upto fnExactSayJoinSpec)

/-- 'laws.FnExactSayBeat', WHERE WHAT IT READS IS OF BULK AT MOST 1048576: true; the input reads as it did. -/
def fnExactSayBeatUptoRow : OpenClaim := { program := "ytcojhelihafigaa", sum := "a6af93cee8fcfafdaf4c8b59ad12a58bad2d288fbc1d9caa55f4a9918807f7c2", func := "loop.example/g00487/laws.FnExactSayBeat", spec := "fnExactSayBeat", unfollowed := true, recurses := true, apart := false, narrowed := true }
def FnExactSayBeatUptoSaid : Prop := fnExactSayBeatUptoRow.holds Try.pinned (OpenSpec.upto fnExactSayBeatSpec)

/-- 'laws.FnExactSaySet', WHERE WHAT IT READS IS OF BULK AT MOST 1048576: true; the input reads as it did. -/
def fnExactSaySetUptoRow : OpenClaim := { program := "ytcojhelihafigaa", sum := "a6af93cee8fcfafdaf4c8b59ad12a58bad2d288fbc1d9caa55f4a9918807f7c2", func := "loop.example/g00487/laws.FnExactSaySet", spec := "fnExactSaySet", unfollowed := true, recurses := true, apart := false, narrowed := true }
def FnExactSaySetUptoSaid : Prop := fnExactSaySetUptoRow.holds Try.pinned (OpenSpec.upto fnExactSaySetSpec)

/-- 'laws.FnExactSayGone', WHERE WHAT IT READS IS OF BULK AT MOST 1048576: true; the input reads as it did. -/
def fnExactSayGoneUptoRow : OpenClaim := { program := "ytcojhelihafigaa", sum := "a6af93cee8fcfafdaf4c8b59ad12a58bad2d288fbc1d9caa55f4a9918807f7c2", func := "loop.example/g00487/laws.FnExactSayGone", spec := "fnExactSayGone", unfollowed := true, recurses := true, apart := false, narrowed := true }
def FnExactSayGoneUptoSaid : Prop := fnExactSayGoneUptoRow.holds Try.pinned (OpenSpec.upto fnExactSayGoneSpec)

end Rows
end Go.Proofs.Ytcojhelihafigaa
