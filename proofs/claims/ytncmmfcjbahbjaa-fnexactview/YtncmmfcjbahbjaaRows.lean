/-
  No cell of these rows narrows 'for every input' (looked for: loops, veiled, ifaces, maps, wideKeys, modest, calm, conditions, laid).
  DERIVED. THE GIVEN ROWS OF THIS SEAT. 5 by the template 'for every input the law returns true; each argument reads behind the call as it read before'; 0 by the template 'total and deterministic' (their statements: YtncmmfcjbahbjaaTotals.lean).
  GIVEN WITH THE SEED: the statements are not yours to turn. If you find one false, say at which input.
  Laid BY PROGRAM, IN A SANDBOX (cutbox-rows.mjs): the forced cells as the released guide's own fill.sh prints them over the translation abe3540a0ffa93b2… (all of the seat's roots in one cut). By AI agents, Wed Nov 11 2026. No macro, syntax, notation, axiom, sorry.
-/
import Derived.Test.YtncmmfcjbahbjaaChecked
import GoSem.Claim
import GoSem.ClaimJoined
import GoSem.ClaimMapViews
import Derived.JoinedTies
import Derived.KernelRfl
namespace Go.Proofs.Ytncmmfcjbahbjaa
/- THE CELL 'sum', in the pinned program and in every row, IS THE sha256 OF THE DUMP (.gsa) THAT YtncmmfcjbahbjaaProg.lean LOADS. Nothing in Lean hashes anything: it is a label: what it is worth is what the hold of that sum in a sandbox is worth. -/
noncomputable def Try.pinned : Pinned := { name := "ytncmmfcjbahbjaa", sum := "abe3540a0ffa93b2d19082c38bb7ad33f85fd390c945ed5e18fa02330ad0a4ba", checked := Try.checked }
namespace Rows
def none {H : Type} : Left H := { results := [], args := [] }

/-- 'laws.FnLacks': WHATEVER THE INPUT: true; the input reads as it did. -/
def fnLacksSpec : ChangeSpec := { name := "fnLacks", fn := fun _ => fun
  | [d] => { results := [.lit (.bool true)], args := [d] }
  | _ => none }
def fnLacksRow : OpenClaim := { program := "ytncmmfcjbahbjaa", sum := "abe3540a0ffa93b2d19082c38bb7ad33f85fd390c945ed5e18fa02330ad0a4ba", func := "loop.example/g00487/laws.FnLacks", spec := "fnLacks", unfollowed := true, recurses := true, apart := false }
def FnLacksSaid : Prop := fnLacksRow.holds Try.pinned (OpenSpec.ofChange fnLacksSpec)

/-- ITS FALSE NEIGHBOUR: 'it returns false'. Refute it at one input. -/
def fnLacksWrong : ChangeSpec := { name := "fnLacks", fn := fun _ => fun
  | [d] => { results := [.lit (.bool false)], args := [d] }
  | _ => none }
def FnLacksWrongFalsely : Prop := fnLacksRow.holds Try.pinned (OpenSpec.ofChange fnLacksWrong)

/-- 'laws.FnLeq': WHATEVER THE INPUT: true; the input reads as it did. -/
def fnLeqSpec : ChangeSpec := { name := "fnLeq", fn := fun _ => fun
  | [d] => { results := [.lit (.bool true)], args := [d] }
  | _ => none }
def fnLeqRow : OpenClaim := { program := "ytncmmfcjbahbjaa", sum := "abe3540a0ffa93b2d19082c38bb7ad33f85fd390c945ed5e18fa02330ad0a4ba", func := "loop.example/g00487/laws.FnLeq", spec := "fnLeq", unfollowed := true, recurses := true, apart := false }
def FnLeqSaid : Prop := fnLeqRow.holds Try.pinned (OpenSpec.ofChange fnLeqSpec)

/-- ITS FALSE NEIGHBOUR: 'it returns false'. Refute it at one input. -/
def fnLeqWrong : ChangeSpec := { name := "fnLeq", fn := fun _ => fun
  | [d] => { results := [.lit (.bool false)], args := [d] }
  | _ => none }
def FnLeqWrongFalsely : Prop := fnLeqRow.holds Try.pinned (OpenSpec.ofChange fnLeqWrong)

/-- 'laws.FnExactView': WHATEVER THE INPUT: true; the input reads as it did. -/
def fnExactViewSpec : ChangeSpec := { name := "fnExactView", fn := fun _ => fun
  | [d] => { results := [.lit (.bool true)], args := [d] }
  | _ => none }
def fnExactViewRow : OpenClaim := { program := "ytncmmfcjbahbjaa", sum := "abe3540a0ffa93b2d19082c38bb7ad33f85fd390c945ed5e18fa02330ad0a4ba", func := "loop.example/g00487/laws.FnExactView", spec := "fnExactView", unfollowed := true, recurses := true, apart := false }
def FnExactViewSaid : Prop := fnExactViewRow.holds Try.pinned (OpenSpec.ofChange fnExactViewSpec)

/-- ITS FALSE NEIGHBOUR: 'it returns false'. Refute it at one input. -/
def fnExactViewWrong : ChangeSpec := { name := "fnExactView", fn := fun _ => fun
  | [d] => { results := [.lit (.bool false)], args := [d] }
  | _ => none }
def FnExactViewWrongFalsely : Prop := fnExactViewRow.holds Try.pinned (OpenSpec.ofChange fnExactViewWrong)

/-- 'laws.FnExactLookup': WHATEVER THE INPUT: true; the input reads as it did. -/
def fnExactLookupSpec : ChangeSpec := { name := "fnExactLookup", fn := fun _ => fun
  | [d1, d2] => { results := [.lit (.bool true)], args := [d1, d2] }
  | _ => none }
def fnExactLookupRow : OpenClaim := { program := "ytncmmfcjbahbjaa", sum := "abe3540a0ffa93b2d19082c38bb7ad33f85fd390c945ed5e18fa02330ad0a4ba", func := "loop.example/g00487/laws.FnExactLookup", spec := "fnExactLookup", unfollowed := true, recurses := true, apart := false }
def FnExactLookupSaid : Prop := fnExactLookupRow.holds Try.pinned (OpenSpec.ofChange fnExactLookupSpec)

/-- ITS FALSE NEIGHBOUR: 'it returns false'. Refute it at one input. -/
def fnExactLookupWrong : ChangeSpec := { name := "fnExactLookup", fn := fun _ => fun
  | [d1, d2] => { results := [.lit (.bool false)], args := [d1, d2] }
  | _ => none }
def FnExactLookupWrongFalsely : Prop := fnExactLookupRow.holds Try.pinned (OpenSpec.ofChange fnExactLookupWrong)

/-- 'laws.FnExactGoneAt': WHATEVER THE INPUT: true; the input reads as it did. -/
def fnExactGoneAtSpec : ChangeSpec := { name := "fnExactGoneAt", fn := fun _ => fun
  | [d1, d2] => { results := [.lit (.bool true)], args := [d1, d2] }
  | _ => none }
def fnExactGoneAtRow : OpenClaim := { program := "ytncmmfcjbahbjaa", sum := "abe3540a0ffa93b2d19082c38bb7ad33f85fd390c945ed5e18fa02330ad0a4ba", func := "loop.example/g00487/laws.FnExactGoneAt", spec := "fnExactGoneAt", apart := false }
def FnExactGoneAtSaid : Prop := fnExactGoneAtRow.holds Try.pinned (OpenSpec.ofChange fnExactGoneAtSpec)

/-- ITS FALSE NEIGHBOUR: 'it returns false'. Refute it at one input. -/
def fnExactGoneAtWrong : ChangeSpec := { name := "fnExactGoneAt", fn := fun _ => fun
  | [d1, d2] => { results := [.lit (.bool false)], args := [d1, d2] }
  | _ => none }
def FnExactGoneAtWrongFalsely : Prop := fnExactGoneAtRow.holds Try.pinned (OpenSpec.ofChange fnExactGoneAtWrong)

/- THE SECOND FORM. 'bulk': how many values and letters a reading holds, each counted each time it is reached (what is shared counts as often as it is met; a slice's spare places count too). A statement '..UptoSaid' is the law's where the arguments, and the package variables that the reading takes, are together of bulk at most 1048576: NARROWER than '..Said'. Prove '..Said' where nothing that the law and all that it calls make is longer than what came in: it says more and counts as full. Else prove '..UptoSaid'. A law counts once. -/
mutual
def uptoBulk {H : Type} : DataW H → Nat
  | .lit (.string bytes) => bytes.length + 1
  | .lit _ => 1
  | .nil => 1
  | .ptr d => uptoBulk d + 1
  | .slice elems spare => uptoBulkAll elems + uptoBulkAll spare + 1
  | .agg parts => uptoBulkAll parts + 1
  | .iface _ d => uptoBulk d + 1
  | .map entries => uptoBulkEntries entries + 1
  | .held _ => 1
def uptoBulkAll {H : Type} : List (DataW H) → Nat
  | [] => 0
  | d :: r => uptoBulk d + uptoBulkAll r
def uptoBulkEntries {H : Type} : List (Lit × DataW H) → Nat
  | [] => 0
  | x :: r => uptoBulkEntry x + uptoBulkEntries r
def uptoBulkEntry {H : Type} : Lit × DataW H → Nat
  | (.string bytes, d) => bytes.length + uptoBulk d + 1
  | (_, d) => uptoBulk d + 1
 end
def uptoSmall : (H : Type) → List (DataW H) → Bool := fun _ ds => decide (uptoBulkAll ds ≤ 1048576)
def OpenSpec.upto (s : _root_.Go.ChangeSpec) : _root_.Go.OpenSpec := { _root_.Go.OpenSpec.ofChange s with cond := some uptoSmall }

/-- 'laws.FnLacks', WHERE WHAT IT READS IS OF BULK AT MOST 1048576: true; the input reads as it did. -/
def fnLacksUptoRow : OpenClaim := { program := "ytncmmfcjbahbjaa", sum := "abe3540a0ffa93b2d19082c38bb7ad33f85fd390c945ed5e18fa02330ad0a4ba", func := "loop.example/g00487/laws.FnLacks", spec := "fnLacks", unfollowed := true, recurses := true, apart := false, narrowed := true }
def FnLacksUptoSaid : Prop := fnLacksUptoRow.holds Try.pinned (OpenSpec.upto fnLacksSpec)

/-- 'laws.FnLeq', WHERE WHAT IT READS IS OF BULK AT MOST 1048576: true; the input reads as it did. -/
def fnLeqUptoRow : OpenClaim := { program := "ytncmmfcjbahbjaa", sum := "abe3540a0ffa93b2d19082c38bb7ad33f85fd390c945ed5e18fa02330ad0a4ba", func := "loop.example/g00487/laws.FnLeq", spec := "fnLeq", unfollowed := true, recurses := true, apart := false, narrowed := true }
def FnLeqUptoSaid : Prop := fnLeqUptoRow.holds Try.pinned (OpenSpec.upto fnLeqSpec)

/-- 'laws.FnExactView', WHERE WHAT IT READS IS OF BULK AT MOST 1048576: true; the input reads as it did. -/
def fnExactViewUptoRow : OpenClaim := { program := "ytncmmfcjbahbjaa", sum := "abe3540a0ffa93b2d19082c38bb7ad33f85fd390c945ed5e18fa02330ad0a4ba", func := "loop.example/g00487/laws.FnExactView", spec := "fnExactView", unfollowed := true, recurses := true, apart := false, narrowed := true }
def FnExactViewUptoSaid : Prop := fnExactViewUptoRow.holds Try.pinned (OpenSpec.upto fnExactViewSpec)

/-- 'laws.FnExactLookup', WHERE WHAT IT READS IS OF BULK AT MOST 1048576: true; the input reads as it did. -/
def fnExactLookupUptoRow : OpenClaim := { program := "ytncmmfcjbahbjaa", sum := "abe3540a0ffa93b2d19082c38bb7ad33f85fd390c945ed5e18fa02330ad0a4ba", func := "loop.example/g00487/laws.FnExactLookup", spec := "fnExactLookup", unfollowed := true, recurses := true, apart := false, narrowed := true }
def FnExactLookupUptoSaid : Prop := fnExactLookupUptoRow.holds Try.pinned (OpenSpec.upto fnExactLookupSpec)

/-- 'laws.FnExactGoneAt', WHERE WHAT IT READS IS OF BULK AT MOST 1048576: true; the input reads as it did. -/
def fnExactGoneAtUptoRow : OpenClaim := { program := "ytncmmfcjbahbjaa", sum := "abe3540a0ffa93b2d19082c38bb7ad33f85fd390c945ed5e18fa02330ad0a4ba", func := "loop.example/g00487/laws.FnExactGoneAt", spec := "fnExactGoneAt", apart := false, narrowed := true }
def FnExactGoneAtUptoSaid : Prop := fnExactGoneAtUptoRow.holds Try.pinned (OpenSpec.upto fnExactGoneAtSpec)

end Rows
end Go.Proofs.Ytncmmfcjbahbjaa
