/-
  DERIVED. GIVEN WITH THE SEED: THE CARDS: each row of YtnbfpalcaibcfaaGreatDoorRows.lean that lists a variable, with what it lists TIED to the program's text (the seventh form; the later family's looks); each row that meets fmt, with fmt's text TOLD by the authors' own Lean function (tested against real Go, not proved from fmt's source: count such statements apart). THE CARD IS WHAT COUNTS. Prove the row's statement (the work); the ties are given (YtnbfpalcaibcfaaGreatDoorTie.lean); close each card by the builder's one call (the guide's Derived/Test/ToyasCard.lean, 'card_holds'). Laid BY PROGRAM, IN A SANDBOX (cutbox-door.mjs). By AI agents, Wed Nov 11 2026. No macro, syntax, notation, axiom, sorry.
-/
import Derived.Test.YtnbfpalcaibcfaaGreatDoorRows
import GoSem.ClaimSeven
namespace Go.Proofs.YtnbfpalcaibcfaaGreatDoor
namespace Rows

/-- THE TIED CARD OF 'bonsailaw11.FirstNames'. -/
def firstNamesCard : Claim7 := { stood := { row := firstNamesRow, standIns := [], harness := (true, "55fae1ce8b4456581a9478318c289b4a554b2b5d5c4bd76d81b6fe33c4aeb649"), looks := false }, kinds := [], alts := [], laidByText := true, laidKinds := [.data, .data, .data, .data, .data, .data, .data, .data, .data], laidTests := true, laidLooks := .later }
def FirstNamesCardSaid : Prop := Claim7.holds Tryz.pinned (.plain (OpenSpec.ofChange firstNamesSpec)) firstNamesCard

/-- THE TIED CARD OF 'bonsailaw13.WellNames'. -/
def wellNamesCard : Claim7 := { stood := { row := wellNamesRow, standIns := [], harness := (true, "55fae1ce8b4456581a9478318c289b4a554b2b5d5c4bd76d81b6fe33c4aeb649"), looks := false }, kinds := [], alts := [], laidByText := true, laidKinds := [.data, .data, .data, .data, .data, .data, .data, .data, .data], laidTests := true, laidLooks := .later }
def WellNamesCardSaid : Prop := Claim7.holds Tryz.pinned (.plain (OpenSpec.ofChange wellNamesSpec)) wellNamesCard

/-- THE SECOND FORM's CARD OF 'bonsailaw11.FirstNames'. -/
def firstNamesUptoCard : Claim7 := { stood := { row := firstNamesUptoRow, standIns := [], harness := (true, "55fae1ce8b4456581a9478318c289b4a554b2b5d5c4bd76d81b6fe33c4aeb649"), looks := false }, kinds := [], alts := [], laidByText := true, laidKinds := [.data, .data, .data, .data, .data, .data, .data, .data, .data], laidTests := true, laidLooks := .later }
def FirstNamesUptoCardSaid : Prop := Claim7.holds Tryz.pinned (.plain (OpenSpec.upto firstNamesSpec)) firstNamesUptoCard

/-- THE SECOND FORM's CARD OF 'bonsailaw13.WellNames'. -/
def wellNamesUptoCard : Claim7 := { stood := { row := wellNamesUptoRow, standIns := [], harness := (true, "55fae1ce8b4456581a9478318c289b4a554b2b5d5c4bd76d81b6fe33c4aeb649"), looks := false }, kinds := [], alts := [], laidByText := true, laidKinds := [.data, .data, .data, .data, .data, .data, .data, .data, .data], laidTests := true, laidLooks := .later }
def WellNamesUptoCardSaid : Prop := Claim7.holds Tryz.pinned (.plain (OpenSpec.upto wellNamesSpec)) wellNamesUptoCard
end Rows
end Go.Proofs.YtnbfpalcaibcfaaGreatDoor
