/-
  DERIVED. GIVEN WITH THE SEED: THE CARDS: each row of YtpanelgdfhpoaaaGreatDoorRows.lean that lists a variable, with what it lists TIED to the program's text (the seventh form; the later family's looks); each row that meets fmt, with fmt's text TOLD by the authors' own Lean function (tested against real Go, not proved from fmt's source: count such statements apart). THE CARD IS WHAT COUNTS. Prove the row's statement (the work); the ties are given (YtpanelgdfhpoaaaGreatDoorTie.lean); close each card by the builder's one call (the guide's Derived/Test/ToyasCard.lean, 'card_holds'). Laid BY PROGRAM, IN A SANDBOX (cutbox-door.mjs). By AI agents, Wed Nov 11 2026. No macro, syntax, notation, axiom, sorry.
-/
import Derived.Test.YtpanelgdfhpoaaaGreatDoorRows
import GoSem.ClaimSeven
namespace Go.Proofs.YtpanelgdfhpoaaaGreatDoor
namespace Rows

/-- THE TIED CARD OF 'bonsailaw26.CostSums'. -/
def costSumsCard : Claim7 := { stood := { row := costSumsRow, standIns := [], harness := (true, "4ef1d18f4cabf44580dd4825abc328cda2152b8eab81d93440020dceb076384c"), looks := false }, kinds := [], alts := [], laidByText := true, laidKinds := [.data, .data, .data, .data, .data, .data, .data, .data, .data], laidTests := true, laidLooks := .later }
def CostSumsCardSaid : Prop := Claim7.holds Tryz.pinned (.plain (OpenSpec.ofChange costSumsSpec)) costSumsCard

/-- THE SECOND FORM's CARD OF 'bonsailaw26.CostSums'. -/
def costSumsUptoCard : Claim7 := { stood := { row := costSumsUptoRow, standIns := [], harness := (true, "4ef1d18f4cabf44580dd4825abc328cda2152b8eab81d93440020dceb076384c"), looks := false }, kinds := [], alts := [], laidByText := true, laidKinds := [.data, .data, .data, .data, .data, .data, .data, .data, .data], laidTests := true, laidLooks := .later }
def CostSumsUptoCardSaid : Prop := Claim7.holds Tryz.pinned (.plain (OpenSpec.upto costSumsSpec)) costSumsUptoCard
end Rows
end Go.Proofs.YtpanelgdfhpoaaaGreatDoor
