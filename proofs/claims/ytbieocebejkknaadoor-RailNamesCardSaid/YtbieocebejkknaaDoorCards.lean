/-
  DERIVED. GIVEN WITH THE SEED: THE CARDS: each row of YtbieocebejkknaaDoorRows.lean that lists a variable, with what it lists TIED to the program's text (the seventh form; the later family's looks); each row that meets fmt, with fmt's text TOLD by the authors' own Lean function (tested against real Go, not proved from fmt's source: count such statements apart). THE CARD IS WHAT COUNTS. Prove the row's statement (the work); the ties are given (YtbieocebejkknaaDoorTie.lean); close each card by the builder's one call (the guide's Derived/Test/ToyasCard.lean, 'card_holds'). Laid BY PROGRAM, IN A SANDBOX (cutbox-door.mjs). By AI agents, Wed Nov 11 2026. No macro, syntax, notation, axiom, sorry.
-/
import Derived.Test.YtbieocebejkknaaDoorRows
import GoSem.ClaimSeven
namespace Go.Proofs.YtbieocebejkknaaDoor
namespace Rows

/-- THE TIED CARD OF 'bonsailaw31.RailNames'. -/
def railNamesCard : Claim7 := { stood := { row := railNamesRow, standIns := [], harness := (true, "822e481173cd8bbc31f2132c4399eb28fbfe365b0345f4283ef66977cf449138"), looks := false }, kinds := [], alts := [], laidByText := true, laidKinds := [.data, .data, .data, .data, .data], laidTests := true, laidLooks := .later }
def RailNamesCardSaid : Prop := Claim7.holds Tryd.pinned (.plain (OpenSpec.ofChange railNamesSpec)) railNamesCard

/-- THE SECOND FORM's CARD OF 'bonsailaw31.RailNames'. -/
def railNamesUptoCard : Claim7 := { stood := { row := railNamesUptoRow, standIns := [], harness := (true, "822e481173cd8bbc31f2132c4399eb28fbfe365b0345f4283ef66977cf449138"), looks := false }, kinds := [], alts := [], laidByText := true, laidKinds := [.data, .data, .data, .data, .data], laidTests := true, laidLooks := .later }
def RailNamesUptoCardSaid : Prop := Claim7.holds Tryd.pinned (.plain (OpenSpec.upto railNamesSpec)) railNamesUptoCard
end Rows
end Go.Proofs.YtbieocebejkknaaDoor
