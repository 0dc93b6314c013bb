/-
  No cell of these rows narrows 'for every input' (looked for: loops, veiled, ifaces, maps, wideKeys, modest, calm, conditions, laid).
  DERIVED. THE GIVEN ROWS OF THIS SEAT. 5 by the template 'for every input the law returns true; each argument reads behind the call as it read before'; 0 by the template 'total and deterministic' (their statements: YtfijmdodopkkgaaTotals.lean).
  GIVEN WITH THE SEED: the statements are not yours to turn. If you find one false, say at which input.
  Laid BY PROGRAM, IN A SANDBOX (cutbox-rows.mjs): the forced cells as the released guide's own fill.sh prints them over the translation 339d544737065506… (all of the seat's roots in one cut). By AI agents, Wed Nov 11 2026. No macro, syntax, notation, axiom, sorry.
-/
import Derived.Test.YtfijmdodopkkgaaChecked
import GoSem.Claim
import GoSem.ClaimJoined
import GoSem.ClaimMapViews
import Derived.JoinedTies
import Derived.KernelRfl
namespace Go.Proofs.Ytfijmdodopkkgaa
/- THE CELL 'sum', in the pinned program and in every row, IS THE sha256 OF THE DUMP (.gsa) THAT YtfijmdodopkkgaaProg.lean LOADS. Nothing in Lean hashes anything: it is a label: what it is worth is what the hold of that sum in a sandbox is worth. -/
noncomputable def Try.pinned : Pinned := { name := "ytfijmdodopkkgaa", sum := "339d5447370655060dd67b553580b7b5da3dfc06882d69e5e3b07054478b83a5", checked := Try.checked }
namespace Rows
def none {H : Type} : Left H := { results := [], args := [] }

/-- 'laws.FnOrder': WHATEVER THE INPUT: true; the input reads as it did. -/
def fnOrderSpec : ChangeSpec := { name := "fnOrder", fn := fun _ => fun
  | [d] => { results := [.lit (.bool true)], args := [d] }
  | _ => none }
def fnOrderRow : OpenClaim := { program := "ytfijmdodopkkgaa", sum := "339d5447370655060dd67b553580b7b5da3dfc06882d69e5e3b07054478b83a5", func := "loop.example/g00487/laws.FnOrder", spec := "fnOrder", apart := false }
def FnOrderSaid : Prop := fnOrderRow.holds Try.pinned (OpenSpec.ofChange fnOrderSpec)

/-- ITS FALSE NEIGHBOUR: 'it returns false'. Refute it at one input. -/
def fnOrderWrong : ChangeSpec := { name := "fnOrder", fn := fun _ => fun
  | [d] => { results := [.lit (.bool false)], args := [d] }
  | _ => none }
def FnOrderWrongFalsely : Prop := fnOrderRow.holds Try.pinned (OpenSpec.ofChange fnOrderWrong)

/-- 'laws.FnExactEntryOk': WHATEVER THE INPUT: true; the input reads as it did. -/
def fnExactEntryOkSpec : ChangeSpec := { name := "fnExactEntryOk", fn := fun _ => fun
  | [d] => { results := [.lit (.bool true)], args := [d] }
  | _ => none }
def fnExactEntryOkRow : OpenClaim := { program := "ytfijmdodopkkgaa", sum := "339d5447370655060dd67b553580b7b5da3dfc06882d69e5e3b07054478b83a5", func := "loop.example/g00487/laws.FnExactEntryOk", spec := "fnExactEntryOk", apart := false }
def FnExactEntryOkSaid : Prop := fnExactEntryOkRow.holds Try.pinned (OpenSpec.ofChange fnExactEntryOkSpec)

/-- ITS FALSE NEIGHBOUR: 'it returns false'. Refute it at one input. -/
def fnExactEntryOkWrong : ChangeSpec := { name := "fnExactEntryOk", fn := fun _ => fun
  | [d] => { results := [.lit (.bool false)], args := [d] }
  | _ => none }
def FnExactEntryOkWrongFalsely : Prop := fnExactEntryOkRow.holds Try.pinned (OpenSpec.ofChange fnExactEntryOkWrong)

/-- 'laws.FnExactEntryCmp': WHATEVER THE INPUT: true; the input reads as it did. -/
def fnExactEntryCmpSpec : ChangeSpec := { name := "fnExactEntryCmp", fn := fun _ => fun
  | [d1, d2] => { results := [.lit (.bool true)], args := [d1, d2] }
  | _ => none }
def fnExactEntryCmpRow : OpenClaim := { program := "ytfijmdodopkkgaa", sum := "339d5447370655060dd67b553580b7b5da3dfc06882d69e5e3b07054478b83a5", func := "loop.example/g00487/laws.FnExactEntryCmp", spec := "fnExactEntryCmp", apart := false }
def FnExactEntryCmpSaid : Prop := fnExactEntryCmpRow.holds Try.pinned (OpenSpec.ofChange fnExactEntryCmpSpec)

/-- ITS FALSE NEIGHBOUR: 'it returns false'. Refute it at one input. -/
def fnExactEntryCmpWrong : ChangeSpec := { name := "fnExactEntryCmp", fn := fun _ => fun
  | [d1, d2] => { results := [.lit (.bool false)], args := [d1, d2] }
  | _ => none }
def FnExactEntryCmpWrongFalsely : Prop := fnExactEntryCmpRow.holds Try.pinned (OpenSpec.ofChange fnExactEntryCmpWrong)

/-- 'laws.FnExactEntryMax': WHATEVER THE INPUT: true; the input reads as it did. -/
def fnExactEntryMaxSpec : ChangeSpec := { name := "fnExactEntryMax", fn := fun _ => fun
  | [d1, d2] => { results := [.lit (.bool true)], args := [d1, d2] }
  | _ => none }
def fnExactEntryMaxRow : OpenClaim := { program := "ytfijmdodopkkgaa", sum := "339d5447370655060dd67b553580b7b5da3dfc06882d69e5e3b07054478b83a5", func := "loop.example/g00487/laws.FnExactEntryMax", spec := "fnExactEntryMax", apart := false }
def FnExactEntryMaxSaid : Prop := fnExactEntryMaxRow.holds Try.pinned (OpenSpec.ofChange fnExactEntryMaxSpec)

/-- ITS FALSE NEIGHBOUR: 'it returns false'. Refute it at one input. -/
def fnExactEntryMaxWrong : ChangeSpec := { name := "fnExactEntryMax", fn := fun _ => fun
  | [d1, d2] => { results := [.lit (.bool false)], args := [d1, d2] }
  | _ => none }
def FnExactEntryMaxWrongFalsely : Prop := fnExactEntryMaxRow.holds Try.pinned (OpenSpec.ofChange fnExactEntryMaxWrong)

/-- 'laws.FnExactNewer': WHATEVER THE INPUT: true; the input reads as it did. -/
def fnExactNewerSpec : ChangeSpec := { name := "fnExactNewer", fn := fun _ => fun
  | [d1, d2] => { results := [.lit (.bool true)], args := [d1, d2] }
  | _ => none }
def fnExactNewerRow : OpenClaim := { program := "ytfijmdodopkkgaa", sum := "339d5447370655060dd67b553580b7b5da3dfc06882d69e5e3b07054478b83a5", func := "loop.example/g00487/laws.FnExactNewer", spec := "fnExactNewer", apart := false }
def FnExactNewerSaid : Prop := fnExactNewerRow.holds Try.pinned (OpenSpec.ofChange fnExactNewerSpec)

/-- ITS FALSE NEIGHBOUR: 'it returns false'. Refute it at one input. -/
def fnExactNewerWrong : ChangeSpec := { name := "fnExactNewer", fn := fun _ => fun
  | [d1, d2] => { results := [.lit (.bool false)], args := [d1, d2] }
  | _ => none }
def FnExactNewerWrongFalsely : Prop := fnExactNewerRow.holds Try.pinned (OpenSpec.ofChange fnExactNewerWrong)

/- THE SECOND FORM. 'bulk': how many values and letters a reading holds, each counted each time it is reached (what is shared counts as often as it is met; a slice's spare places count too). A statement '..UptoSaid' is the law's where the arguments, and the package variables that the reading takes, are together of bulk at most 1048576: NARROWER than '..Said'. Prove '..Said' where nothing that the law and all that it calls make is longer than what came in: it says more and counts as full. Else prove '..UptoSaid'. A law counts once. -/
mutual
def uptoBulk {H : Type} : DataW H → Nat
  | .lit (.string bytes) => bytes.length + 1
  | .lit _ => 1
  | .nil => 1
  | .ptr d => uptoBulk d + 1
  | .slice elems spare => uptoBulkAll elems + uptoBulkAll spare + 1
  | .agg parts => uptoBulkAll parts + 1
  | .iface _ d => uptoBulk d + 1
  | .map entries => uptoBulkEntries entries + 1
  | .held _ => 1
def uptoBulkAll {H : Type} : List (DataW H) → Nat
  | [] => 0
  | d :: r => uptoBulk d + uptoBulkAll r
def uptoBulkEntries {H : Type} : List (Lit × DataW H) → Nat
  | [] => 0
  | x :: r => uptoBulkEntry x + uptoBulkEntries r
def uptoBulkEntry {H : Type} : Lit × DataW H → Nat
  | (.string bytes, d) => bytes.length + uptoBulk d + 1
  | (_, d) => uptoBulk d + 1
 end
def uptoSmall : (H : Type) → List (DataW H) → Bool := fun _ ds => decide (uptoBulkAll ds ≤ 1048576)
def OpenSpec.upto (s : _root_.Go.ChangeSpec) : _root_.Go.OpenSpec := { _root_.Go.OpenSpec.ofChange s with cond := some uptoSmall }

/-- 'laws.FnOrder', WHERE WHAT IT READS IS OF BULK AT MOST 1048576: true; the input reads as it did. -/
def fnOrderUptoRow : OpenClaim := { program := "ytfijmdodopkkgaa", sum := "339d5447370655060dd67b553580b7b5da3dfc06882d69e5e3b07054478b83a5", func := "loop.example/g00487/laws.FnOrder", spec := "fnOrder", apart := false, narrowed := true }
def FnOrderUptoSaid : Prop := fnOrderUptoRow.holds Try.pinned (OpenSpec.upto fnOrderSpec)

/-- 'laws.FnExactEntryOk', WHERE WHAT IT READS IS OF BULK AT MOST 1048576: true; the input reads as it did. -/
def fnExactEntryOkUptoRow : OpenClaim := { program := "ytfijmdodopkkgaa", sum := "339d5447370655060dd67b553580b7b5da3dfc06882d69e5e3b07054478b83a5", func := "loop.example/g00487/laws.FnExactEntryOk", spec := "fnExactEntryOk", apart := false, narrowed := true }
def FnExactEntryOkUptoSaid : Prop := fnExactEntryOkUptoRow.holds Try.pinned (OpenSpec.upto fnExactEntryOkSpec)

/-- 'laws.FnExactEntryCmp', WHERE WHAT IT READS IS OF BULK AT MOST 1048576: true; the input reads as it did. -/
def fnExactEntryCmpUptoRow : OpenClaim := { program := "ytfijmdodopkkgaa", sum := "339d5447370655060dd67b553580b7b5da3dfc06882d69e5e3b07054478b83a5", func := "loop.example/g00487/laws.FnExactEntryCmp", spec := "fnExactEntryCmp", apart := false, narrowed := true }
def FnExactEntryCmpUptoSaid : Prop := fnExactEntryCmpUptoRow.holds Try.pinned (OpenSpec.upto fnExactEntryCmpSpec)

/-- 'laws.FnExactEntryMax', WHERE WHAT IT READS IS OF BULK AT MOST 1048576: true; the input reads as it did. -/
def fnExactEntryMaxUptoRow : OpenClaim := { program := "ytfijmdodopkkgaa", sum := "339d5447370655060dd67b553580b7b5da3dfc06882d69e5e3b07054478b83a5", func := "loop.example/g00487/laws.FnExactEntryMax", spec := "fnExactEntryMax", apart := false, narrowed := true }
def FnExactEntryMaxUptoSaid : Prop := fnExactEntryMaxUptoRow.holds Try.pinned (OpenSpec.upto fnExactEntryMaxSpec)

/-- 'laws.FnExactNewer', WHERE WHAT IT READS IS OF BULK AT MOST 1048576: true; the input reads as it did. -/
def fnExactNewerUptoRow : OpenClaim := { program := "ytfijmdodopkkgaa", sum := "339d5447370655060dd67b553580b7b5da3dfc06882d69e5e3b07054478b83a5", func := "loop.example/g00487/laws.FnExactNewer", spec := "fnExactNewer", apart := false, narrowed := true }
def FnExactNewerUptoSaid : Prop := fnExactNewerUptoRow.holds Try.pinned (OpenSpec.upto fnExactNewerSpec)

end Rows
end Go.Proofs.Ytfijmdodopkkgaa
