/-
  DERIVED. GIVEN WITH THE SEED: THE CARDS: each row of YtjaklcmadkpmdaaDoorRows.lean that lists a variable, with what it lists TIED to the program's text (the seventh form; the later family's looks); each row that meets fmt, with fmt's text TOLD by the authors' own Lean function (tested against real Go, not proved from fmt's source: count such statements apart). THE CARD IS WHAT COUNTS. Prove the row's statement (the work); the ties are given (YtjaklcmadkpmdaaDoorTie.lean); close each card by the builder's one call (the guide's Derived/Test/ToyasCard.lean, 'card_holds'). Laid BY PROGRAM, IN A SANDBOX (cutbox-door.mjs). By AI agents, Wed Nov 11 2026. No macro, syntax, notation, axiom, sorry.
-/
import Derived.Test.YtjaklcmadkpmdaaDoorRows
import GoSem.ClaimSeven
namespace Go.Proofs.YtjaklcmadkpmdaaDoor
namespace Rows

/-- THE TIED CARD OF 'bonsailaw03.QuoteTexts'. -/
def quoteTextsCard : Claim7 := { stood := { row := quoteTextsRow, standIns := [], harness := (true, "5e4c46ef514c6b8fecadf4a98298661a0d6e507117c068da99993e45caf6a308"), looks := false }, kinds := [], alts := [], laidByText := true, laidKinds := [.data], laidTests := true, laidLooks := .later }
def QuoteTextsCardSaid : Prop := Claim7.holds Tryd.pinned (.plain (OpenSpec.ofChange quoteTextsSpec)) quoteTextsCard

/-- THE TIED CARD OF 'bonsailaw03.QuoteClasses'. -/
def quoteClassesCard : Claim7 := { stood := { row := quoteClassesRow, standIns := [], harness := (true, "5e4c46ef514c6b8fecadf4a98298661a0d6e507117c068da99993e45caf6a308"), looks := false }, kinds := [], alts := [], laidByText := true, laidKinds := [.data], laidTests := true, laidLooks := .later }
def QuoteClassesCardSaid : Prop := Claim7.holds Tryd.pinned (.plain (OpenSpec.ofChange quoteClassesSpec)) quoteClassesCard

/-- THE TIED CARD OF 'bonsailaw03.QuoteBack'. -/
def quoteBackCard : Claim7 := { stood := { row := quoteBackRow, standIns := [], harness := (true, "5e4c46ef514c6b8fecadf4a98298661a0d6e507117c068da99993e45caf6a308"), looks := false }, kinds := [], alts := [], laidByText := true, laidKinds := [.data], laidTests := true, laidLooks := .later }
def QuoteBackCardSaid : Prop := Claim7.holds Tryd.pinned (.plain (OpenSpec.ofChange quoteBackSpec)) quoteBackCard

/-- THE TIED CARD OF 'bonsailaw03.QuotePlain'. -/
def quotePlainCard : Claim7 := { stood := { row := quotePlainRow, standIns := [], harness := (true, "5e4c46ef514c6b8fecadf4a98298661a0d6e507117c068da99993e45caf6a308"), looks := false }, kinds := [], alts := [], laidByText := true, laidKinds := [.data], laidTests := true, laidLooks := .later }
def QuotePlainCardSaid : Prop := Claim7.holds Tryd.pinned (.plain (OpenSpec.ofChange quotePlainSpec)) quotePlainCard

/-- THE TIED CARD OF 'bonsailaw03.QuoteShort'. -/
def quoteShortCard : Claim7 := { stood := { row := quoteShortRow, standIns := [], harness := (true, "5e4c46ef514c6b8fecadf4a98298661a0d6e507117c068da99993e45caf6a308"), looks := false }, kinds := [], alts := [], laidByText := true, laidKinds := [.data], laidTests := true, laidLooks := .later }
def QuoteShortCardSaid : Prop := Claim7.holds Tryd.pinned (.plain (OpenSpec.ofChange quoteShortSpec)) quoteShortCard

/-- THE SECOND FORM's CARD OF 'bonsailaw03.QuoteTexts'. -/
def quoteTextsUptoCard : Claim7 := { stood := { row := quoteTextsUptoRow, standIns := [], harness := (true, "5e4c46ef514c6b8fecadf4a98298661a0d6e507117c068da99993e45caf6a308"), looks := false }, kinds := [], alts := [], laidByText := true, laidKinds := [.data], laidTests := true, laidLooks := .later }
def QuoteTextsUptoCardSaid : Prop := Claim7.holds Tryd.pinned (.plain (OpenSpec.upto quoteTextsSpec)) quoteTextsUptoCard

/-- THE SECOND FORM's CARD OF 'bonsailaw03.QuoteClasses'. -/
def quoteClassesUptoCard : Claim7 := { stood := { row := quoteClassesUptoRow, standIns := [], harness := (true, "5e4c46ef514c6b8fecadf4a98298661a0d6e507117c068da99993e45caf6a308"), looks := false }, kinds := [], alts := [], laidByText := true, laidKinds := [.data], laidTests := true, laidLooks := .later }
def QuoteClassesUptoCardSaid : Prop := Claim7.holds Tryd.pinned (.plain (OpenSpec.upto quoteClassesSpec)) quoteClassesUptoCard

/-- THE SECOND FORM's CARD OF 'bonsailaw03.QuoteBack'. -/
def quoteBackUptoCard : Claim7 := { stood := { row := quoteBackUptoRow, standIns := [], harness := (true, "5e4c46ef514c6b8fecadf4a98298661a0d6e507117c068da99993e45caf6a308"), looks := false }, kinds := [], alts := [], laidByText := true, laidKinds := [.data], laidTests := true, laidLooks := .later }
def QuoteBackUptoCardSaid : Prop := Claim7.holds Tryd.pinned (.plain (OpenSpec.upto quoteBackSpec)) quoteBackUptoCard

/-- THE SECOND FORM's CARD OF 'bonsailaw03.QuotePlain'. -/
def quotePlainUptoCard : Claim7 := { stood := { row := quotePlainUptoRow, standIns := [], harness := (true, "5e4c46ef514c6b8fecadf4a98298661a0d6e507117c068da99993e45caf6a308"), looks := false }, kinds := [], alts := [], laidByText := true, laidKinds := [.data], laidTests := true, laidLooks := .later }
def QuotePlainUptoCardSaid : Prop := Claim7.holds Tryd.pinned (.plain (OpenSpec.upto quotePlainSpec)) quotePlainUptoCard

/-- THE SECOND FORM's CARD OF 'bonsailaw03.QuoteShort'. -/
def quoteShortUptoCard : Claim7 := { stood := { row := quoteShortUptoRow, standIns := [], harness := (true, "5e4c46ef514c6b8fecadf4a98298661a0d6e507117c068da99993e45caf6a308"), looks := false }, kinds := [], alts := [], laidByText := true, laidKinds := [.data], laidTests := true, laidLooks := .later }
def QuoteShortUptoCardSaid : Prop := Claim7.holds Tryd.pinned (.plain (OpenSpec.upto quoteShortSpec)) quoteShortUptoCard
end Rows
end Go.Proofs.YtjaklcmadkpmdaaDoor
