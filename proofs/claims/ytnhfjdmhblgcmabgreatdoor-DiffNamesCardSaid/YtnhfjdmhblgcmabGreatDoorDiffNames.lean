/- DiffNames: the statement answers yes; it has no input. The kernel works the program out over plain data, and what it works out is what the model does (the texts Ce..). The listed variables lie as their own initialisers lay them. -/
import Derived.Test.YtnhfjdmhblgcmabGreatDoorCards
import Derived.Test.YtnhfjdmhblgcmabGreatDoorCeCl
import Derived.Test.YtnhfjdmhblgcmabGreatDoorDiffNamesRan
import Derived.SevenTiedAt
namespace Go.Proofs.YtnhfjdmhblgcmabGreatDoor.diffNames
open Go Go.ChangeShapes Go.WideShapes Go.ChangeAt Go.RowKit

def laidT : List (String × DataW Unit) := [("math/bits.deBruijn32tab", Rows.laid_math_bits_deBruijn32tab), ("math/bits.deBruijn64tab", Rows.laid_math_bits_deBruijn64tab), ("internal/strconv.uint64pow10", Rows.laid_internal_strconv_uint64pow10), ("bonsai/tree.least", Rows.laid_bonsai_tree_least), ("bonsai/tree.most", Rows.laid_bonsai_tree_most), ("bonsai/print.front", Rows.laid_bonsai_print_front), ("bonsai/print.between", Rows.laid_bonsai_print_between), ("bonsai/print.enclosed", Rows.laid_bonsai_print_enclosed), ("bonsai/print.signs", Rows.laid_bonsai_print_signs)]

theorem obs_eq : CE.obsOf Tryz.prog laidT = obsL fun g => (CE.tyAt Tryz.prog g).getD 0 := by kernel_rfl

theorem ran' : CE.isTrue (CE.runAt Tryz.prog 100000 400 3 (CE.obsOf Tryz.prog laidT)) = true := by
  rw [obs_eq]
  exact ran _

theorem door_met (os : Os) (args : Array Value) : laidMetH Tryz.prog laidT ((World.doorLaid Tryz.prog 60 os).forCall (fun _ _ => 0) ⟨#[], args, []⟩).memory :=
  laidMetH_of_parts3 (fuel := 8) (laidMet_of_run' 8 (by kernel_rfl) (by kernel_rfl)) (by kernel_rfl) (by kernel_rfl)

set_option maxRecDepth 100000 in
theorem lifted (os : Os) (started : os.Started) (H : Type) (enc : TypeId × Value → H) :
    ReturnsInHanded {} Tryz.checked os 3 .any (fun w args => (Rows.diffNamesSpec.pre enc Tryz.prog Tryz.f3 [] false w args ∧ laidMetH Tryz.prog laidT w) ∧ sizedMet enc Tryz.prog Tryz.f3 (OpenSpec.ofChange Rows.diffNamesSpec) false w args)
      (Rows.diffNamesSpec.post enc Tryz.prog Tryz.f3 false true false false) := by
  refine closed_lifted 3 Tryz.f3 Rows.diffNamesSpec laidT rfl Tryz.func3 (by kernel_rfl) (fun _ => rfl) rfl rfl (by kernel_rfl) (fun W hS hL => CE.call_true hS hL (by kernel_rfl) (.inr (by kernel_rfl)) ran')
    (ChangeSpec.witness_shaped (enc := enc) (C := Tryz.checked) (os := os) (X := fun w _ => laidMetH Tryz.prog laidT w) false (World.doorLaid Tryz.prog 60 os) #[] 8 rfl (door_shaped os) (by kernel_rfl) (by kernel_rfl) (by kernel_rfl) (door_met os _)) started

theorem in_place : (Rows.diffNamesRow.inPlace == Tryz.prog.inPlace 3) = true := by kernel_rfl
theorem unfollowed : (Rows.diffNamesRow.unfollowed == Tryz.prog.unfollowed 3) = true := by kernel_rfl
theorem recurses : (Rows.diffNamesRow.recurses == Tryz.prog.recurses 3) = true := by kernel_rfl
theorem names_vars : (Rows.diffNamesRow.named == Tryz.prog.varsNamed 3) = true := by kernel_rfl

theorem closed : joinedFacts Tryz.prog 3 Tryz.f3 Rows.diffNamesSpec Rows.diffNamesRow = true := by
  unfold joinedFacts
  rw [in_place, unfollowed, recurses, names_vars]
  kernel_rfl

theorem row_holds : Rows.DiffNamesSaid :=
  OpenClaim.holds_of_wide 3 Tryz.f3 rfl rfl rfl rfl rfl rfl rfl ⟨rfl, rfl, rfl, rfl, rfl⟩ rfl rfl rfl rfl rfl (by kernel_rfl) Tryz.func3 closed
    (of_decide_eq_true (by kernel_rfl)) (by unfold Func.isWrapper; first | (rw [if_pos (by decide +kernel)]; kernel_rfl) | (rw [if_neg (by decide +kernel)]; exact ⟨rfl, rfl⟩))
    (fun os started H enc _ => lifted os started H enc)

theorem by_text : Rows.diffNamesRow.wfByText (OpenSpec.ofChange Rows.diffNamesSpec) = true := by kernel_rfl
theorem main_is : Tryz.prog.mainIs = some (Rows.diffNamesCard.stood.harness.1, Rows.diffNamesCard.stood.harness.2.toList) := by kernel_rfl
theorem no_looks : false = Tryz.prog.looks [] := by kernel_rfl
theorem no_goes : false = Rows.diffNamesRow.goesBy Tryz.prog := by kernel_rfl

theorem proved : Rows.DiffNamesCardSaid :=
  Claim7.holds_tied_plain_at .later [] [.data, .data, .data, .data, .data, .data, .data, .data, .data] true Rows.diffNamesCard.stood.harness false
    row_holds (fun _ h => by cases h) by_text (fun _ h => by cases h) diffNames_row_tie rfl ⟨rfl, rfl⟩ main_is rfl
    (fun f fn hf hfn => by
      obtain rfl : f = 3 := Option.some.inj ((show Tryz.prog.funcNamed "bonsai/bonsailaw30.DiffNames" = some 3 by kernel_rfl).symm.trans hf) |>.symm
      obtain rfl : fn = Tryz.f3 := (Option.some.inj (Tryz.func3.symm.trans hfn)).symm
      exact ⟨no_looks, fun j t ht => by
        rw [Tryz.params3] at ht
        simp at ht⟩)
    no_goes
end Go.Proofs.YtnhfjdmhblgcmabGreatDoor.diffNames
