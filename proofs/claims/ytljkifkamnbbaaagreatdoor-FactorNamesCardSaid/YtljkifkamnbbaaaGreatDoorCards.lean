/-
  DERIVED. GIVEN WITH THE SEED: THE CARDS: each row of YtljkifkamnbbaaaGreatDoorRows.lean that lists a variable, with what it lists TIED to the program's text (the seventh form; the later family's looks); each row that meets fmt, with fmt's text TOLD by the authors' own Lean function (tested against real Go, not proved from fmt's source: count such statements apart). THE CARD IS WHAT COUNTS. Prove the row's statement (the work); the ties are given (YtljkifkamnbbaaaGreatDoorTie.lean); close each card by the builder's one call (the guide's Derived/Test/ToyasCard.lean, 'card_holds'). Laid BY PROGRAM, IN A SANDBOX (cutbox-door.mjs). By AI agents, Wed Nov 11 2026. No macro, syntax, notation, axiom, sorry.
-/
import Derived.Test.YtljkifkamnbbaaaGreatDoorRows
import GoSem.ClaimSeven
namespace Go.Proofs.YtljkifkamnbbaaaGreatDoor
namespace Rows

/-- THE TIED CARD OF 'bonsailaw15.TableNames'. -/
def tableNamesCard : Claim7 := { stood := { row := tableNamesRow, standIns := [], harness := (true, "f605a61e7499dbea81096963b0430aa21b0941f11edfdb5065e3d334681e9917"), looks := false }, kinds := [], alts := [], laidByText := true, laidKinds := [.data, .data, .data, .data, .data, .data, .data, .data, .data], laidTests := true, laidLooks := .later }
def TableNamesCardSaid : Prop := Claim7.holds Tryz.pinned (.plain (OpenSpec.ofChange tableNamesSpec)) tableNamesCard

/-- THE TIED CARD OF 'bonsailaw18.PathNames'. -/
def pathNamesCard : Claim7 := { stood := { row := pathNamesRow, standIns := [], harness := (true, "f605a61e7499dbea81096963b0430aa21b0941f11edfdb5065e3d334681e9917"), looks := false }, kinds := [], alts := [], laidByText := true, laidKinds := [.data, .data, .data, .data, .data, .data, .data, .data, .data], laidTests := true, laidLooks := .later }
def PathNamesCardSaid : Prop := Claim7.holds Tryz.pinned (.plain (OpenSpec.ofChange pathNamesSpec)) pathNamesCard

/-- THE TIED CARD OF 'bonsailaw19.InlineNames'. -/
def inlineNamesCard : Claim7 := { stood := { row := inlineNamesRow, standIns := [], harness := (true, "f605a61e7499dbea81096963b0430aa21b0941f11edfdb5065e3d334681e9917"), looks := false }, kinds := [], alts := [], laidByText := true, laidKinds := [.data, .data, .data, .data, .data, .data, .data, .data, .data], laidTests := true, laidLooks := .later }
def InlineNamesCardSaid : Prop := Claim7.holds Tryz.pinned (.plain (OpenSpec.ofChange inlineNamesSpec)) inlineNamesCard

/-- THE TIED CARD OF 'bonsailaw20.DeadNames'. -/
def deadNamesCard : Claim7 := { stood := { row := deadNamesRow, standIns := [], harness := (true, "f605a61e7499dbea81096963b0430aa21b0941f11edfdb5065e3d334681e9917"), looks := false }, kinds := [], alts := [], laidByText := true, laidKinds := [.data, .data, .data, .data, .data, .data, .data, .data, .data], laidTests := true, laidLooks := .later }
def DeadNamesCardSaid : Prop := Claim7.holds Tryz.pinned (.plain (OpenSpec.ofChange deadNamesSpec)) deadNamesCard

/-- THE TIED CARD OF 'bonsailaw21.FactorNames'. -/
def factorNamesCard : Claim7 := { stood := { row := factorNamesRow, standIns := [], harness := (true, "f605a61e7499dbea81096963b0430aa21b0941f11edfdb5065e3d334681e9917"), looks := false }, kinds := [], alts := [], laidByText := true, laidKinds := [.data, .data, .data, .data, .data, .data, .data, .data, .data], laidTests := true, laidLooks := .later }
def FactorNamesCardSaid : Prop := Claim7.holds Tryz.pinned (.plain (OpenSpec.ofChange factorNamesSpec)) factorNamesCard

/-- THE TIED CARD OF 'bonsailaw22.PredNames'. -/
def predNamesCard : Claim7 := { stood := { row := predNamesRow, standIns := [], harness := (true, "f605a61e7499dbea81096963b0430aa21b0941f11edfdb5065e3d334681e9917"), looks := false }, kinds := [], alts := [], laidByText := true, laidKinds := [.data, .data, .data, .data, .data, .data, .data, .data, .data], laidTests := true, laidLooks := .later }
def PredNamesCardSaid : Prop := Claim7.holds Tryz.pinned (.plain (OpenSpec.ofChange predNamesSpec)) predNamesCard

/-- THE SECOND FORM's CARD OF 'bonsailaw15.TableNames'. -/
def tableNamesUptoCard : Claim7 := { stood := { row := tableNamesUptoRow, standIns := [], harness := (true, "f605a61e7499dbea81096963b0430aa21b0941f11edfdb5065e3d334681e9917"), looks := false }, kinds := [], alts := [], laidByText := true, laidKinds := [.data, .data, .data, .data, .data, .data, .data, .data, .data], laidTests := true, laidLooks := .later }
def TableNamesUptoCardSaid : Prop := Claim7.holds Tryz.pinned (.plain (OpenSpec.upto tableNamesSpec)) tableNamesUptoCard

/-- THE SECOND FORM's CARD OF 'bonsailaw18.PathNames'. -/
def pathNamesUptoCard : Claim7 := { stood := { row := pathNamesUptoRow, standIns := [], harness := (true, "f605a61e7499dbea81096963b0430aa21b0941f11edfdb5065e3d334681e9917"), looks := false }, kinds := [], alts := [], laidByText := true, laidKinds := [.data, .data, .data, .data, .data, .data, .data, .data, .data], laidTests := true, laidLooks := .later }
def PathNamesUptoCardSaid : Prop := Claim7.holds Tryz.pinned (.plain (OpenSpec.upto pathNamesSpec)) pathNamesUptoCard

/-- THE SECOND FORM's CARD OF 'bonsailaw19.InlineNames'. -/
def inlineNamesUptoCard : Claim7 := { stood := { row := inlineNamesUptoRow, standIns := [], harness := (true, "f605a61e7499dbea81096963b0430aa21b0941f11edfdb5065e3d334681e9917"), looks := false }, kinds := [], alts := [], laidByText := true, laidKinds := [.data, .data, .data, .data, .data, .data, .data, .data, .data], laidTests := true, laidLooks := .later }
def InlineNamesUptoCardSaid : Prop := Claim7.holds Tryz.pinned (.plain (OpenSpec.upto inlineNamesSpec)) inlineNamesUptoCard

/-- THE SECOND FORM's CARD OF 'bonsailaw20.DeadNames'. -/
def deadNamesUptoCard : Claim7 := { stood := { row := deadNamesUptoRow, standIns := [], harness := (true, "f605a61e7499dbea81096963b0430aa21b0941f11edfdb5065e3d334681e9917"), looks := false }, kinds := [], alts := [], laidByText := true, laidKinds := [.data, .data, .data, .data, .data, .data, .data, .data, .data], laidTests := true, laidLooks := .later }
def DeadNamesUptoCardSaid : Prop := Claim7.holds Tryz.pinned (.plain (OpenSpec.upto deadNamesSpec)) deadNamesUptoCard

/-- THE SECOND FORM's CARD OF 'bonsailaw21.FactorNames'. -/
def factorNamesUptoCard : Claim7 := { stood := { row := factorNamesUptoRow, standIns := [], harness := (true, "f605a61e7499dbea81096963b0430aa21b0941f11edfdb5065e3d334681e9917"), looks := false }, kinds := [], alts := [], laidByText := true, laidKinds := [.data, .data, .data, .data, .data, .data, .data, .data, .data], laidTests := true, laidLooks := .later }
def FactorNamesUptoCardSaid : Prop := Claim7.holds Tryz.pinned (.plain (OpenSpec.upto factorNamesSpec)) factorNamesUptoCard

/-- THE SECOND FORM's CARD OF 'bonsailaw22.PredNames'. -/
def predNamesUptoCard : Claim7 := { stood := { row := predNamesUptoRow, standIns := [], harness := (true, "f605a61e7499dbea81096963b0430aa21b0941f11edfdb5065e3d334681e9917"), looks := false }, kinds := [], alts := [], laidByText := true, laidKinds := [.data, .data, .data, .data, .data, .data, .data, .data, .data], laidTests := true, laidLooks := .later }
def PredNamesUptoCardSaid : Prop := Claim7.holds Tryz.pinned (.plain (OpenSpec.upto predNamesSpec)) predNamesUptoCard
end Rows
end Go.Proofs.YtljkifkamnbbaaaGreatDoor
