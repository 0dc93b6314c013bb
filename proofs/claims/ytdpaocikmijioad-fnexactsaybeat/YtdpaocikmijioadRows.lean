/-
  No cell of these rows narrows 'for every input' (looked for: loops, veiled, ifaces, maps, wideKeys, modest, calm, conditions, laid).
  DERIVED. THE GIVEN ROWS OF THIS SEAT. 5 by the template 'for every input the law returns true; each argument reads behind the call as it read before'; 0 by the template 'total and deterministic' (their statements: YtdpaocikmijioadTotals.lean).
  GIVEN WITH THE SEED: the statements are not yours to turn. If you find one false, say at which input.
  Laid BY PROGRAM, IN A SANDBOX (cutbox-rows.mjs): the forced cells as the released guide's own fill.sh prints them over the translation 758d93cb3abc2aad… (all of the seat's roots in one cut). By AI agents, Wed Nov 11 2026. No macro, syntax, notation, axiom, sorry.
-/
import Derived.Test.YtdpaocikmijioadChecked
import GoSem.Claim
import GoSem.ClaimJoined
import GoSem.ClaimMapViews
import Derived.JoinedTies
import Derived.KernelRfl
namespace Go.Proofs.Ytdpaocikmijioad
/- THE CELL 'sum', in the pinned program and in every row, IS THE sha256 OF THE DUMP (.gsa) THAT YtdpaocikmijioadProg.lean LOADS. Nothing in Lean hashes anything: it is a label: what it is worth is what the hold of that sum in a sandbox is worth. -/
noncomputable def Try.pinned : Pinned := { name := "ytdpaocikmijioad", sum := "758d93cb3abc2aad52e9bdb5b55fafe338ed3b8946a9c07e3d571d59c4b4588e", checked := Try.checked }
namespace Rows
def none {H : Type} : Left H := { results := [], args := [] }

/-- 'laws.FnExactGoneAt': WHATEVER THE INPUT: true; the input reads as it did. -/
def fnExactGoneAtSpec : ChangeSpec := { name := "fnExactGoneAt", fn := fun _ => fun
  | [d1, d2] => { results := [.lit (.bool true)], args := [d1, d2] }
  | _ => none }
def fnExactGoneAtRow : OpenClaim := { program := "ytdpaocikmijioad", sum := "758d93cb3abc2aad52e9bdb5b55fafe338ed3b8946a9c07e3d571d59c4b4588e", func := "loop.example/g00487/laws.FnExactGoneAt", spec := "fnExactGoneAt", unfollowed := true, recurses := true, apart := false }
def FnExactGoneAtSaid : Prop := fnExactGoneAtRow.holds Try.pinned (OpenSpec.ofChange fnExactGoneAtSpec)

/-- ITS FALSE NEIGHBOUR: 'it returns false'. Refute it at one input. -/
def fnExactGoneAtWrong : ChangeSpec := { name := "fnExactGoneAt", fn := fun _ => fun
  | [d1, d2] => { results := [.lit (.bool false)], args := [d1, d2] }
  | _ => none }
def FnExactGoneAtWrongFalsely : Prop := fnExactGoneAtRow.holds Try.pinned (OpenSpec.ofChange fnExactGoneAtWrong)

/-- 'laws.FnExactStateLeq': WHATEVER THE INPUT: true; the input reads as it did. -/
def fnExactStateLeqSpec : ChangeSpec := { name := "fnExactStateLeq", fn := fun _ => fun
  | [d1, d2] => { results := [.lit (.bool true)], args := [d1, d2] }
  | _ => none }
def fnExactStateLeqRow : OpenClaim := { program := "ytdpaocikmijioad", sum := "758d93cb3abc2aad52e9bdb5b55fafe338ed3b8946a9c07e3d571d59c4b4588e", func := "loop.example/g00487/laws.FnExactStateLeq", spec := "fnExactStateLeq", unfollowed := true, recurses := true, apart := false }
def FnExactStateLeqSaid : Prop := fnExactStateLeqRow.holds Try.pinned (OpenSpec.ofChange fnExactStateLeqSpec)

/-- ITS FALSE NEIGHBOUR: 'it returns false'. Refute it at one input. -/
def fnExactStateLeqWrong : ChangeSpec := { name := "fnExactStateLeq", fn := fun _ => fun
  | [d1, d2] => { results := [.lit (.bool false)], args := [d1, d2] }
  | _ => none }
def FnExactStateLeqWrongFalsely : Prop := fnExactStateLeqRow.holds Try.pinned (OpenSpec.ofChange fnExactStateLeqWrong)

/-- 'laws.FnExactLacks': WHATEVER THE INPUT: true; the input reads as it did. -/
def fnExactLacksSpec : ChangeSpec := { name := "fnExactLacks", fn := fun _ => fun
  | [d1, d2] => { results := [.lit (.bool true)], args := [d1, d2] }
  | _ => none }
def fnExactLacksRow : OpenClaim := { program := "ytdpaocikmijioad", sum := "758d93cb3abc2aad52e9bdb5b55fafe338ed3b8946a9c07e3d571d59c4b4588e", func := "loop.example/g00487/laws.FnExactLacks", spec := "fnExactLacks", unfollowed := true, recurses := true, apart := false }
def FnExactLacksSaid : Prop := fnExactLacksRow.holds Try.pinned (OpenSpec.ofChange fnExactLacksSpec)

/-- ITS FALSE NEIGHBOUR: 'it returns false'. Refute it at one input. -/
def fnExactLacksWrong : ChangeSpec := { name := "fnExactLacks", fn := fun _ => fun
  | [d1, d2] => { results := [.lit (.bool false)], args := [d1, d2] }
  | _ => none }
def FnExactLacksWrongFalsely : Prop := fnExactLacksRow.holds Try.pinned (OpenSpec.ofChange fnExactLacksWrong)

/-- 'laws.FnExactSayJoin': WHATEVER THE INPUT: true; the input reads as it did. -/
def fnExactSayJoinSpec : ChangeSpec := { name := "fnExactSayJoin", fn := fun _ => fun
  | [d1, d2] => { results := [.lit (.bool true)], args := [d1, d2] }
  | _ => none }
def fnExactSayJoinRow : OpenClaim := { program := "ytdpaocikmijioad", sum := "758d93cb3abc2aad52e9bdb5b55fafe338ed3b8946a9c07e3d571d59c4b4588e", func := "loop.example/g00487/laws.FnExactSayJoin", spec := "fnExactSayJoin", unfollowed := true, recurses := true, apart := false }
def FnExactSayJoinSaid : Prop := fnExactSayJoinRow.holds Try.pinned (OpenSpec.ofChange fnExactSayJoinSpec)

/-- ITS FALSE NEIGHBOUR: 'it returns false'. Refute it at one input. -/
def fnExactSayJoinWrong : ChangeSpec := { name := "fnExactSayJoin", fn := fun _ => fun
  | [d1, d2] => { results := [.lit (.bool false)], args := [d1, d2] }
  | _ => none }
def FnExactSayJoinWrongFalsely : Prop := fnExactSayJoinRow.holds Try.pinned (OpenSpec.ofChange fnExactSayJoinWrong)

/-- 'laws.FnExactSayBeat': WHATEVER THE INPUT: true; the input reads as it did. -/
def fnExactSayBeatSpec : ChangeSpec := { name := "fnExactSayBeat", fn := fun _ => fun
  | [d1, d2] => { results := [.lit (.bool true)], args := [d1, d2] }
  | _ => none }
def fnExactSayBeatRow : OpenClaim := { program := "ytdpaocikmijioad", sum := "758d93cb3abc2aad52e9bdb5b55fafe338ed3b8946a9c07e3d571d59c4b4588e", func := "loop.example/g00487/laws.FnExactSayBeat", spec := "fnExactSayBeat", unfollowed := true, recurses := true, apart := false }
def FnExactSayBeatSaid : Prop := fnExactSayBeatRow.holds Try.pinned (OpenSpec.ofChange fnExactSayBeatSpec)

/-- ITS FALSE NEIGHBOUR: 'it returns false'. Refute it at one input. -/
def fnExactSayBeatWrong : ChangeSpec := { name := "fnExactSayBeat", fn := fun _ => fun
  | [d1, d2] => { results := [.lit (.bool false)], args := [d1, d2] }
  | _ => none }
def FnExactSayBeatWrongFalsely : Prop := fnExactSayBeatRow.holds Try.pinned (OpenSpec.ofChange fnExactSayBeatWrong)

/- THE SECOND FORM. 'bulk': how many values and letters a reading holds, each counted each time it is reached (what is shared counts as often as it is met; a slice's spare places count too). A statement '..UptoSaid' is the law's where the arguments, and the package variables that the reading takes, are together of bulk at most 1048576: NARROWER than '..Said'. Prove '..Said' where nothing that the law and all that it calls make is longer than what came in: it says more and counts as full. Else prove '..UptoSaid'. A law counts once. -/
mutual
def uptoBulk {H : Type} : DataW H → Nat
  | .lit (.string bytes) => bytes.length + 1
  | .lit _ => 1
  | .nil => 1
  | .ptr d => uptoBulk d + 1
  | .slice elems spare => uptoBulkAll elems + uptoBulkAll spare + 1
  | .agg parts => uptoBulkAll parts + 1
  | .iface _ d => uptoBulk d + 1
  | .map entries => uptoBulkEntries entries + 1
  | .held _ => 1
def uptoBulkAll {H : Type} : List (DataW H) → Nat
  | [] => 0
  | d :: r => uptoBulk d + uptoBulkAll r
def uptoBulkEntries {H : Type} : List (Lit × DataW H) → Nat
  | [] => 0
  | x :: r => uptoBulkEntry x + uptoBulkEntries r
def uptoBulkEntry {H : Type} : Lit × DataW H → Nat
  | (.string bytes, d) => bytes.length + uptoBulk d + 1
  | (_, d) => uptoBulk d + 1
 end
def uptoSmall : (H : Type) → List (DataW H) → Bool := fun _ ds => decide (uptoBulkAll ds ≤ 1048576)
def OpenSpec.upto (s : _root_.Go.ChangeSpec) : _root_.Go.OpenSpec := { _root_.Go.OpenSpec.ofChange s with cond := some uptoSmall }

/-- 'laws.FnExactGoneAt', WHERE WHAT IT READS IS OF BULK AT MOST 1048576: true; the input reads as it did. -/
def fnExactGoneAtUptoRow : OpenClaim := { program := "ytdpaocikmijioad", sum := "758d93cb3abc2aad52e9bdb5b55fafe338ed3b8946a9c07e3d571d59c4b4588e", func := "loop.example/g00487/laws.FnExactGoneAt", spec := "fnExactGoneAt", unfollowed := true, recurses := true, apart := false, narrowed := true }
def FnExactGoneAtUptoSaid : Prop := fnExactGoneAtUptoRow.holds Try.pinned (OpenSpec.upto fnExactGoneAtSpec)

/-- 'laws.FnExactStateLeq', WHERE WHAT IT READS IS OF BULK AT MOST 1048576: true; the input reads as it did. -/
def fnExactStateLeqUptoRow : OpenClaim := { program := "ytdpaocikmijioad", sum := "758d93cb3abc2aad52e9bdb5b55fafe338ed3b8946a9c07e3d571d59c4b4588e", func := "loop.example/g00487/laws.FnExactStateLeq", spec := "fnExactStateLeq", unfollowed := true, recurses := true, apart := false, narrowed := true }
def FnExactStateLeqUptoSaid : Prop := fnExactStateLeqUptoRow.holds Try.pinned (OpenSpec.upto fnExactStateLeqSpec)

/-- 'laws.FnExactLacks', WHERE WHAT IT READS IS OF BULK AT MOST 1048576: true; the input reads as it did. -/
def fnExactLacksUptoRow : OpenClaim := { program := "ytdpaocikmijioad", sum := "758d93cb3abc2aad52e9bdb5b55fafe338ed3b8946a9c07e3d571d59c4b4588e", func := "loop.example/g00487/laws.FnExactLacks", spec := "fnExactLacks", unfollowed := true, recurses := true, apart := false, narrowed := true }
def FnExactLacksUptoSaid : Prop := fnExactLacksUptoRow.holds Try.pinned (OpenSpec.upto fnExactLacksSpec)

/-- 'laws.FnExactSayJoin', WHERE WHAT IT READS IS OF BULK AT MOST 1048576: true; the input reads as it did. -/
def fnExactSayJoinUptoRow : OpenClaim := { program := "ytdpaocikmijioad", sum := "758d93cb3abc2aad52e9bdb5b55fafe338ed3b8946a9c07e3d571d59c4b4588e", func := "loop.example/g00487/laws.FnExactSayJoin", spec := "fnExactSayJoin", unfollowed := true, recurses := true, apart := false, narrowed := true }
def FnExactSayJoinUptoSaid : Prop := fnExactSayJoinUptoRow.holds Try.pinned (OpenSpec.upto fnExactSayJoinSpec)

/-- 'laws.FnExactSayBeat', WHERE WHAT IT READS IS OF BULK AT MOST 1048576: true; the input reads as it did. -/
def fnExactSayBeatUptoRow : OpenClaim := { program := "ytdpaocikmijioad", sum := "758d93cb3abc2aad52e9bdb5b55fafe338ed3b8946a9c07e3d571d59c4b4588e", func := "loop.example/g00487/laws.FnExactSayBeat", spec := "fnExactSayBeat", unfollowed := true, recurses := true, apart := false, narrowed := true }
def FnExactSayBeatUptoSaid : Prop := fnExactSayBeatUptoRow.holds Try.pinned (OpenSpec.upto fnExactSayBeatSpec)

end Rows
end Go.Proofs.Ytdpaocikmijioad
