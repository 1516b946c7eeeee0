/- RailNames: the statement answers yes; it has no input. The kernel works the program out over plain data, and what it works out is what the model does (the texts Ce..). The listed variables lie as their own initialisers lay them. -/
import Derived.Test.YtbieocebejkknaaDoorCards
import Derived.Test.YtbieocebejkknaaDoorCeCl
import Derived.Test.YtbieocebejkknaaDoorRailNamesRan
import Derived.SevenTiedAt
namespace Go.Proofs.YtbieocebejkknaaDoor.railNames
open Go Go.ChangeShapes Go.WideShapes Go.ChangeAt Go.RowKit

def laidT : List (String × DataW Unit) := [("math/bits.deBruijn32tab", Rows.laid_math_bits_deBruijn32tab), ("math/bits.deBruijn64tab", Rows.laid_math_bits_deBruijn64tab), ("internal/strconv.uint64pow10", Rows.laid_internal_strconv_uint64pow10), ("bonsai/tree.least", Rows.laid_bonsai_tree_least), ("bonsai/tree.most", Rows.laid_bonsai_tree_most)]

theorem obs_eq : CE.obsOf Tryd.prog laidT = obsL fun g => (CE.tyAt Tryd.prog g).getD 0 := by kernel_rfl

theorem ran' : CE.isTrue (CE.runAt Tryd.prog 100000 400 3 (CE.obsOf Tryd.prog laidT)) = true := by
  rw [obs_eq]
  exact ran _

theorem door_met (os : Os) (args : Array Value) : laidMetH Tryd.prog laidT ((World.doorLaid Tryd.prog 60 os).forCall (fun _ _ => 0) ⟨#[], args, []⟩).memory :=
  laidMetH_of_parts3 (fuel := 8) (laidMet_of_run' 8 (by kernel_rfl) (by kernel_rfl)) (by kernel_rfl) (by kernel_rfl)

set_option maxRecDepth 100000 in
theorem lifted (os : Os) (started : os.Started) (H : Type) (enc : TypeId × Value → H) :
    ReturnsInHanded {} Tryd.checked os 3 .any (fun w args => (Rows.railNamesSpec.pre enc Tryd.prog Tryd.f3 [] false w args ∧ laidMetH Tryd.prog laidT w) ∧ sizedMet enc Tryd.prog Tryd.f3 (OpenSpec.ofChange Rows.railNamesSpec) false w args)
      (Rows.railNamesSpec.post enc Tryd.prog Tryd.f3 false true false false) := by
  refine closed_lifted 3 Tryd.f3 Rows.railNamesSpec laidT rfl Tryd.func3 (by kernel_rfl) (fun _ => rfl) rfl rfl (by kernel_rfl) (fun W hS hL => CE.call_true hS hL (by kernel_rfl) (.inr (by kernel_rfl)) ran')
    (ChangeSpec.witness_shaped (enc := enc) (C := Tryd.checked) (os := os) (X := fun w _ => laidMetH Tryd.prog laidT w) false (World.doorLaid Tryd.prog 60 os) #[] 8 rfl (door_shaped os) (by kernel_rfl) (by kernel_rfl) (by kernel_rfl) (door_met os _)) started

theorem row_holds : Rows.RailNamesSaid :=
  OpenClaim.holds_of_wide 3 Tryd.f3 rfl rfl rfl rfl rfl rfl rfl ⟨rfl, rfl, rfl, rfl, rfl⟩ rfl rfl rfl rfl rfl (by kernel_rfl) Tryd.func3 (by kernel_rfl)
    (of_decide_eq_true (by kernel_rfl)) (by unfold Func.isWrapper; first | (rw [if_pos (by decide +kernel)]; kernel_rfl) | (rw [if_neg (by decide +kernel)]; exact ⟨rfl, rfl⟩))
    (fun os started H enc _ => lifted os started H enc)

theorem proved : Rows.RailNamesCardSaid :=
  Claim7.holds_tied_plain_at .later [] [.data, .data, .data, .data, .data] true Rows.railNamesCard.stood.harness false
    row_holds (fun _ h => by cases h) (by kernel_rfl) (fun _ h => by cases h) railNames_row_tie rfl ⟨rfl, rfl⟩ (by kernel_rfl) rfl
    (fun f fn hf hfn => by
      obtain rfl : f = 3 := Option.some.inj ((show Tryd.prog.funcNamed "bonsai/bonsailaw31.RailNames" = some 3 by kernel_rfl).symm.trans hf) |>.symm
      obtain rfl : fn = Tryd.f3 := (Option.some.inj (Tryd.func3.symm.trans hfn)).symm
      exact ⟨by kernel_rfl, fun j t ht => by
        rw [Tryd.params3] at ht
        simp at ht⟩)
    (by kernel_rfl)
end Go.Proofs.YtbieocebejkknaaDoor.railNames
