/-
  DERIVED. GIVEN WITH THE SEED: THE CARDS: each row of YtfjpbedcopdglaaGreatDoorRows.lean that lists a variable, with what it lists TIED to the program's text (the seventh form; the later family's looks); each row that meets fmt, with fmt's text TOLD by the authors' own Lean function (tested against real Go, not proved from fmt's source: count such statements apart). THE CARD IS WHAT COUNTS. Prove the row's statement (the work); the ties are given (YtfjpbedcopdglaaGreatDoorTie.lean); close each card by the builder's one call (the guide's Derived/Test/ToyasCard.lean, 'card_holds'). Laid BY PROGRAM, IN A SANDBOX (cutbox-door.mjs). By AI agents, Wed Nov 11 2026. No macro, syntax, notation, axiom, sorry.
-/
import Derived.Test.YtfjpbedcopdglaaGreatDoorRows
import GoSem.ClaimSeven
namespace Go.Proofs.YtfjpbedcopdglaaGreatDoor
namespace Rows

/-- THE TIED CARD OF 'bonsailaw11.FirstTwo'. -/
def firstTwoCard : Claim7 := { stood := { row := firstTwoRow, standIns := [], harness := (true, "b680b6a6e2286a3bec030073d007e192224a12861f2871f22a49e84513cd3db2"), looks := false }, kinds := [], alts := [], laidByText := true, laidKinds := [.data, .data, .data, .data, .data, .data, .data, .data, .data], laidTests := true, laidLooks := .later }
def FirstTwoCardSaid : Prop := Claim7.holds Tryz.pinned (.plain (OpenSpec.ofChange firstTwoSpec)) firstTwoCard

/-- THE TIED CARD OF 'bonsailaw11.FirstBrackets'. -/
def firstBracketsCard : Claim7 := { stood := { row := firstBracketsRow, standIns := [], harness := (true, "b680b6a6e2286a3bec030073d007e192224a12861f2871f22a49e84513cd3db2"), looks := false }, kinds := [], alts := [], laidByText := true, laidKinds := [.data, .data, .data, .data, .data, .data, .data, .data, .data], laidTests := true, laidLooks := .later }
def FirstBracketsCardSaid : Prop := Claim7.holds Tryz.pinned (.plain (OpenSpec.ofChange firstBracketsSpec)) firstBracketsCard

/-- THE SECOND FORM's CARD OF 'bonsailaw11.FirstTwo'. -/
def firstTwoUptoCard : Claim7 := { stood := { row := firstTwoUptoRow, standIns := [], harness := (true, "b680b6a6e2286a3bec030073d007e192224a12861f2871f22a49e84513cd3db2"), looks := false }, kinds := [], alts := [], laidByText := true, laidKinds := [.data, .data, .data, .data, .data, .data, .data, .data, .data], laidTests := true, laidLooks := .later }
def FirstTwoUptoCardSaid : Prop := Claim7.holds Tryz.pinned (.plain (OpenSpec.upto firstTwoSpec)) firstTwoUptoCard

/-- THE SECOND FORM's CARD OF 'bonsailaw11.FirstBrackets'. -/
def firstBracketsUptoCard : Claim7 := { stood := { row := firstBracketsUptoRow, standIns := [], harness := (true, "b680b6a6e2286a3bec030073d007e192224a12861f2871f22a49e84513cd3db2"), looks := false }, kinds := [], alts := [], laidByText := true, laidKinds := [.data, .data, .data, .data, .data, .data, .data, .data, .data], laidTests := true, laidLooks := .later }
def FirstBracketsUptoCardSaid : Prop := Claim7.holds Tryz.pinned (.plain (OpenSpec.upto firstBracketsSpec)) firstBracketsUptoCard
end Rows
end Go.Proofs.YtfjpbedcopdglaaGreatDoor
