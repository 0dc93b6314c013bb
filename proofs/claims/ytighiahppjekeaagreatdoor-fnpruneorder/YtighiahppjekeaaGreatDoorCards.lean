/-
  DERIVED. GIVEN WITH THE SEED: THE CARDS: each row of YtighiahppjekeaaGreatDoorRows.lean that lists a variable, with what it lists TIED to the program's text (the seventh form; the later family's looks); each row that meets fmt, with fmt's text TOLD by the authors' own Lean function (tested against real Go, not proved from fmt's source: count such statements apart). THE CARD IS WHAT COUNTS. Prove the row's statement (the work); the ties are given (YtighiahppjekeaaGreatDoorTie.lean); close each card by the builder's one call (the guide's Derived/Test/ToyasCard.lean, 'card_holds'). Laid BY PROGRAM, IN A SANDBOX (cutbox-door.mjs). By AI agents, Wed Nov 11 2026. No macro, syntax, notation, axiom, sorry.
-/
import Derived.Test.YtighiahppjekeaaGreatDoorRows
import GoSem.ClaimSeven
namespace Go.Proofs.YtighiahppjekeaaGreatDoor
namespace Rows

/-- THE TIED CARD OF 'laws.FnMarks'. -/
def fnMarksCard : Claim7 := { stood := { row := fnMarksRow, standIns := [], harness := (true, "9f32a1c5e09bdbac118eef236755388a31d963cfb0968de57c44149b7c2a193d"), looks := false }, kinds := [], alts := [], laidByText := true, laidKinds := [.data, .data, .data], laidTests := true, laidLooks := .later }
def FnMarksCardSaid : Prop := Claim7.holds Tryz.pinned (.plain (OpenSpec.ofChange fnMarksSpec)) fnMarksCard

/-- THE TIED CARD OF 'laws.FnPruneOrder'. -/
def fnPruneOrderCard : Claim7 := { stood := { row := fnPruneOrderRow, standIns := [], harness := (true, "9f32a1c5e09bdbac118eef236755388a31d963cfb0968de57c44149b7c2a193d"), looks := false }, kinds := [], alts := [], laidByText := true, laidKinds := [.data, .data, .data], laidTests := true, laidLooks := .later }
def FnPruneOrderCardSaid : Prop := Claim7.holds Tryz.pinned (.plain (OpenSpec.ofChange fnPruneOrderSpec)) fnPruneOrderCard

/-- THE SECOND FORM's CARD OF 'laws.FnMarks'. -/
def fnMarksUptoCard : Claim7 := { stood := { row := fnMarksUptoRow, standIns := [], harness := (true, "9f32a1c5e09bdbac118eef236755388a31d963cfb0968de57c44149b7c2a193d"), looks := false }, kinds := [], alts := [], laidByText := true, laidKinds := [.data, .data, .data], laidTests := true, laidLooks := .later }
def FnMarksUptoCardSaid : Prop := Claim7.holds Tryz.pinned (.plain (OpenSpec.upto fnMarksSpec)) fnMarksUptoCard

/-- THE SECOND FORM's CARD OF 'laws.FnPruneOrder'. -/
def fnPruneOrderUptoCard : Claim7 := { stood := { row := fnPruneOrderUptoRow, standIns := [], harness := (true, "9f32a1c5e09bdbac118eef236755388a31d963cfb0968de57c44149b7c2a193d"), looks := false }, kinds := [], alts := [], laidByText := true, laidKinds := [.data, .data, .data], laidTests := true, laidLooks := .later }
def FnPruneOrderUptoCardSaid : Prop := Claim7.holds Tryz.pinned (.plain (OpenSpec.upto fnPruneOrderSpec)) fnPruneOrderUptoCard
end Rows
end Go.Proofs.YtighiahppjekeaaGreatDoor
