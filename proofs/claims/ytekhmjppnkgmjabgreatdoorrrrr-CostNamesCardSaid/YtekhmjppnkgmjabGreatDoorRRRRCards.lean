/-
  DERIVED. GIVEN WITH THE SEED: THE CARDS: each row of YtekhmjppnkgmjabGreatDoorRRRRRows.lean that lists a variable, with what it lists TIED to the program's text (the seventh form; the later family's looks); each row that meets fmt, with fmt's text TOLD by the authors' own Lean function (tested against real Go, not proved from fmt's source: count such statements apart). THE CARD IS WHAT COUNTS. Prove the row's statement (the work); the ties are given (YtekhmjppnkgmjabGreatDoorRRRRTie.lean); close each card by the builder's one call (the guide's Derived/Test/ToyasCard.lean, 'card_holds'). Laid BY PROGRAM, IN A SANDBOX (cutbox-door.mjs). By AI agents, Wed Nov 11 2026. No macro, syntax, notation, axiom, sorry.
-/
import Derived.Test.YtekhmjppnkgmjabGreatDoorRRRRRows
import GoSem.ClaimSeven
namespace Go.Proofs.YtekhmjppnkgmjabGreatDoorRRRR
namespace Rows

/-- THE TIED CARD OF 'bonsailaw26.CostNames'. -/
def costNamesCard : Claim7 := { stood := { row := costNamesRow, standIns := [], harness := (true, "8a90c901ebf4d3e5fb5067d66089e29fd8acde11145086fc5f3ca3b44e6aa79d"), looks := false }, kinds := [], alts := [], laidByText := true, laidKinds := [.data, .data, .data, .data, .data, .data, .data, .data, .data], laidTests := true, laidLooks := .later }
def CostNamesCardSaid : Prop := Claim7.holds Tryz.pinned (.plain (OpenSpec.ofChange costNamesSpec)) costNamesCard

/-- THE TIED CARD OF 'bonsailaw30.DiffNames'. -/
def diffNamesCard : Claim7 := { stood := { row := diffNamesRow, standIns := [], harness := (true, "8a90c901ebf4d3e5fb5067d66089e29fd8acde11145086fc5f3ca3b44e6aa79d"), looks := false }, kinds := [], alts := [], laidByText := true, laidKinds := [.data, .data, .data, .data, .data, .data, .data, .data, .data], laidTests := true, laidLooks := .later }
def DiffNamesCardSaid : Prop := Claim7.holds Tryz.pinned (.plain (OpenSpec.ofChange diffNamesSpec)) diffNamesCard

/-- THE SECOND FORM's CARD OF 'bonsailaw26.CostNames'. -/
def costNamesUptoCard : Claim7 := { stood := { row := costNamesUptoRow, standIns := [], harness := (true, "8a90c901ebf4d3e5fb5067d66089e29fd8acde11145086fc5f3ca3b44e6aa79d"), looks := false }, kinds := [], alts := [], laidByText := true, laidKinds := [.data, .data, .data, .data, .data, .data, .data, .data, .data], laidTests := true, laidLooks := .later }
def CostNamesUptoCardSaid : Prop := Claim7.holds Tryz.pinned (.plain (OpenSpec.upto costNamesSpec)) costNamesUptoCard

/-- THE SECOND FORM's CARD OF 'bonsailaw30.DiffNames'. -/
def diffNamesUptoCard : Claim7 := { stood := { row := diffNamesUptoRow, standIns := [], harness := (true, "8a90c901ebf4d3e5fb5067d66089e29fd8acde11145086fc5f3ca3b44e6aa79d"), looks := false }, kinds := [], alts := [], laidByText := true, laidKinds := [.data, .data, .data, .data, .data, .data, .data, .data, .data], laidTests := true, laidLooks := .later }
def DiffNamesUptoCardSaid : Prop := Claim7.holds Tryz.pinned (.plain (OpenSpec.upto diffNamesSpec)) diffNamesUptoCard
end Rows
end Go.Proofs.YtekhmjppnkgmjabGreatDoorRRRR
