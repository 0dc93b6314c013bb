/-
  DERIVED. GIVEN WITH THE SEED: THE CARDS: each row of YtdpaocikmijioaaGreatDoorRows.lean that lists a variable, with what it lists TIED to the program's text (the seventh form; the later family's looks); each row that meets fmt, with fmt's text TOLD by the authors' own Lean function (tested against real Go, not proved from fmt's source: count such statements apart). THE CARD IS WHAT COUNTS. Prove the row's statement (the work); the ties are given (YtdpaocikmijioaaGreatDoorTie.lean); close each card by the builder's one call (the guide's Derived/Test/ToyasCard.lean, 'card_holds'). Laid BY PROGRAM, IN A SANDBOX (cutbox-door.mjs). By AI agents, Wed Nov 11 2026. No macro, syntax, notation, axiom, sorry.
-/
import Derived.Test.YtdpaocikmijioaaGreatDoorRows
import GoSem.ClaimSeven
namespace Go.Proofs.YtdpaocikmijioaaGreatDoor
namespace Rows

/-- THE TIED CARD OF 'laws.FnOverStays'. -/
def fnOverStaysCard : Claim7 := { stood := { row := fnOverStaysRow, standIns := [], harness := (true, "e3bb722a3d0fc69d891b749c2a2e97d576aa171f33bb2d0e5df200198612b1f9"), looks := false }, kinds := [], alts := [], laidByText := true, laidKinds := [.data, .data, .data], laidTests := true, laidLooks := .later }
def FnOverStaysCardSaid : Prop := Claim7.holds Tryz.pinned (.plain (OpenSpec.ofChange fnOverStaysSpec)) fnOverStaysCard

/-- THE SECOND FORM's CARD OF 'laws.FnOverStays'. -/
def fnOverStaysUptoCard : Claim7 := { stood := { row := fnOverStaysUptoRow, standIns := [], harness := (true, "e3bb722a3d0fc69d891b749c2a2e97d576aa171f33bb2d0e5df200198612b1f9"), looks := false }, kinds := [], alts := [], laidByText := true, laidKinds := [.data, .data, .data], laidTests := true, laidLooks := .later }
def FnOverStaysUptoCardSaid : Prop := Claim7.holds Tryz.pinned (.plain (OpenSpec.upto fnOverStaysSpec)) fnOverStaysUptoCard
end Rows
end Go.Proofs.YtdpaocikmijioaaGreatDoor
