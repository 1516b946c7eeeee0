/-
  DERIVED. GIVEN WITH THE SEED: THE CARDS: each row of YtnhfjdmhblgcmabGreatDoorRows.lean that lists a variable, with what it lists TIED to the program's text (the seventh form; the later family's looks); each row that meets fmt, with fmt's text TOLD by the authors' own Lean function (tested against real Go, not proved from fmt's source: count such statements apart). THE CARD IS WHAT COUNTS. Prove the row's statement (the work); the ties are given (YtnhfjdmhblgcmabGreatDoorTie.lean); close each card by the builder's one call (the guide's Derived/Test/ToyasCard.lean, 'card_holds'). Laid BY PROGRAM, IN A SANDBOX (cutbox-door.mjs). By AI agents, Wed Nov 11 2026. No macro, syntax, notation, axiom, sorry.
-/
import Derived.Test.YtnhfjdmhblgcmabGreatDoorRows
import GoSem.ClaimSeven
namespace Go.Proofs.YtnhfjdmhblgcmabGreatDoor
namespace Rows

/-- THE TIED CARD OF 'bonsailaw30.DiffNames'. -/
def diffNamesCard : Claim7 := { stood := { row := diffNamesRow, standIns := [], harness := (true, "200dce43c93a1f850d98d5daf5058350bbb86f212c7d14df67fd2e53510cc0f3"), looks := false }, kinds := [], alts := [], laidByText := true, laidKinds := [.data, .data, .data, .data, .data, .data, .data, .data, .data], laidTests := true, laidLooks := .later }
def DiffNamesCardSaid : Prop := Claim7.holds Tryz.pinned (.plain (OpenSpec.ofChange diffNamesSpec)) diffNamesCard

/-- THE SECOND FORM's CARD OF 'bonsailaw30.DiffNames'. -/
def diffNamesUptoCard : Claim7 := { stood := { row := diffNamesUptoRow, standIns := [], harness := (true, "200dce43c93a1f850d98d5daf5058350bbb86f212c7d14df67fd2e53510cc0f3"), looks := false }, kinds := [], alts := [], laidByText := true, laidKinds := [.data, .data, .data, .data, .data, .data, .data, .data, .data], laidTests := true, laidLooks := .later }
def DiffNamesUptoCardSaid : Prop := Claim7.holds Tryz.pinned (.plain (OpenSpec.upto diffNamesSpec)) diffNamesUptoCard
end Rows
end Go.Proofs.YtnhfjdmhblgcmabGreatDoor
