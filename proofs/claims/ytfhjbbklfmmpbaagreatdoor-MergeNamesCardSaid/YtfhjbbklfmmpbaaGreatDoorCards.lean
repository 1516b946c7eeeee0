/-
  DERIVED. GIVEN WITH THE SEED: THE CARDS: each row of YtfhjbbklfmmpbaaGreatDoorRows.lean that lists a variable, with what it lists TIED to the program's text (the seventh form; the later family's looks); each row that meets fmt, with fmt's text TOLD by the authors' own Lean function (tested against real Go, not proved from fmt's source: count such statements apart). THE CARD IS WHAT COUNTS. Prove the row's statement (the work); the ties are given (YtfhjbbklfmmpbaaGreatDoorTie.lean); close each card by the builder's one call (the guide's Derived/Test/ToyasCard.lean, 'card_holds'). Laid BY PROGRAM, IN A SANDBOX (cutbox-door.mjs). By AI agents, Wed Nov 11 2026. No macro, syntax, notation, axiom, sorry.
-/
import Derived.Test.YtfhjbbklfmmpbaaGreatDoorRows
import GoSem.ClaimSeven
namespace Go.Proofs.YtfhjbbklfmmpbaaGreatDoor
namespace Rows

/-- THE TIED CARD OF 'bonsailaw23.MergeNames'. -/
def mergeNamesCard : Claim7 := { stood := { row := mergeNamesRow, standIns := [], harness := (true, "386c6c5f8f2f821f9ca826da67ae9fcd308afd8ec9e8e69855b241eae390ab06"), looks := false }, kinds := [], alts := [], laidByText := true, laidKinds := [.data, .data, .data, .data, .data, .data, .data, .data, .data], laidTests := true, laidLooks := .later }
def MergeNamesCardSaid : Prop := Claim7.holds Tryz.pinned (.plain (OpenSpec.ofChange mergeNamesSpec)) mergeNamesCard

/-- THE TIED CARD OF 'bonsailaw25.PruneNames'. -/
def pruneNamesCard : Claim7 := { stood := { row := pruneNamesRow, standIns := [], harness := (true, "386c6c5f8f2f821f9ca826da67ae9fcd308afd8ec9e8e69855b241eae390ab06"), looks := false }, kinds := [], alts := [], laidByText := true, laidKinds := [.data, .data, .data, .data, .data, .data, .data, .data, .data], laidTests := true, laidLooks := .later }
def PruneNamesCardSaid : Prop := Claim7.holds Tryz.pinned (.plain (OpenSpec.ofChange pruneNamesSpec)) pruneNamesCard

/-- THE SECOND FORM's CARD OF 'bonsailaw23.MergeNames'. -/
def mergeNamesUptoCard : Claim7 := { stood := { row := mergeNamesUptoRow, standIns := [], harness := (true, "386c6c5f8f2f821f9ca826da67ae9fcd308afd8ec9e8e69855b241eae390ab06"), looks := false }, kinds := [], alts := [], laidByText := true, laidKinds := [.data, .data, .data, .data, .data, .data, .data, .data, .data], laidTests := true, laidLooks := .later }
def MergeNamesUptoCardSaid : Prop := Claim7.holds Tryz.pinned (.plain (OpenSpec.upto mergeNamesSpec)) mergeNamesUptoCard

/-- THE SECOND FORM's CARD OF 'bonsailaw25.PruneNames'. -/
def pruneNamesUptoCard : Claim7 := { stood := { row := pruneNamesUptoRow, standIns := [], harness := (true, "386c6c5f8f2f821f9ca826da67ae9fcd308afd8ec9e8e69855b241eae390ab06"), looks := false }, kinds := [], alts := [], laidByText := true, laidKinds := [.data, .data, .data, .data, .data, .data, .data, .data, .data], laidTests := true, laidLooks := .later }
def PruneNamesUptoCardSaid : Prop := Claim7.holds Tryz.pinned (.plain (OpenSpec.upto pruneNamesSpec)) pruneNamesUptoCard
end Rows
end Go.Proofs.YtfhjbbklfmmpbaaGreatDoor
