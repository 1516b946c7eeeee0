/- CheckNames: the statement answers yes; it has no input. The kernel works the program out over plain data, and what it works out is what the model does (the texts Ce..). The listed variables lie as their own initialisers lay them. -/
import Derived.Test.YtgffldphnbeddaaGreatDoorCards
import Derived.Test.YtgffldphnbeddaaGreatDoorCeCl
import Derived.Test.YtgffldphnbeddaaGreatDoorCheckNamesRan
import Derived.SevenTiedAt
namespace Go.Proofs.YtgffldphnbeddaaGreatDoor.checkNames
open Go Go.ChangeShapes Go.WideShapes Go.ChangeAt Go.RowKit


theorem door_met (os : Os) (args : Array Value) : laidMetH Tryz.prog laidT ((World.doorLaid Tryz.prog 60 os).forCall (fun _ _ => 0) ⟨#[], args, []⟩).memory :=
  laidMetH_of_parts3 (fuel := 8) (laidMet_of_run' 8 (by kernel_rfl) (by kernel_rfl)) (by kernel_rfl) (by kernel_rfl)

set_option maxRecDepth 100000 in
theorem lifted (os : Os) (started : os.Started) (H : Type) (enc : TypeId × Value → H) :
    ReturnsInHanded {} Tryz.checked os 3 .any (fun w args => (Rows.checkNamesSpec.pre enc Tryz.prog Tryz.f3 [] false w args ∧ laidMetH Tryz.prog laidT w) ∧ sizedMet enc Tryz.prog Tryz.f3 (OpenSpec.ofChange Rows.checkNamesSpec) false w args)
      (Rows.checkNamesSpec.post enc Tryz.prog Tryz.f3 false true false false) := by
  refine closed_lifted 3 Tryz.f3 Rows.checkNamesSpec laidT rfl Tryz.func3 (by kernel_rfl) (fun _ => rfl) rfl rfl (by kernel_rfl) (fun W hS hL => CE.call_true_low law_low hS hL (Nat.le_refl _) (fun _ _ => rfl) (by kernel_rfl) (.inr (by kernel_rfl)) law_ran)
    (ChangeSpec.witness_shaped (enc := enc) (C := Tryz.checked) (os := os) (X := fun w _ => laidMetH Tryz.prog laidT w) false (World.doorLaid Tryz.prog 60 os) #[] 8 rfl (door_shaped os) (by kernel_rfl) (by kernel_rfl) (by kernel_rfl) (door_met os _)) started

theorem in_place : (Rows.checkNamesRow.inPlace == Tryz.prog.inPlace 3) = true := by kernel_rfl
theorem unfollowed : (Rows.checkNamesRow.unfollowed == Tryz.prog.unfollowed 3) = true := by kernel_rfl
theorem recurses : (Rows.checkNamesRow.recurses == Tryz.prog.recurses 3) = true := by kernel_rfl
theorem names_vars : (Rows.checkNamesRow.named == Tryz.prog.varsNamed 3) = true := by kernel_rfl

theorem closed : joinedFacts Tryz.prog 3 Tryz.f3 Rows.checkNamesSpec Rows.checkNamesRow = true := by
  unfold joinedFacts
  rw [in_place, unfollowed, recurses, names_vars]
  kernel_rfl

theorem row_holds : Rows.CheckNamesSaid :=
  OpenClaim.holds_of_wide 3 Tryz.f3 rfl rfl rfl rfl rfl rfl rfl ⟨rfl, rfl, rfl, rfl, rfl⟩ rfl rfl rfl rfl rfl (by kernel_rfl) Tryz.func3 closed
    (of_decide_eq_true (by kernel_rfl)) (by unfold Func.isWrapper; first | (rw [if_pos (by decide +kernel)]; kernel_rfl) | (rw [if_neg (by decide +kernel)]; exact ⟨rfl, rfl⟩))
    (fun os started H enc _ => lifted os started H enc)

theorem by_text : Rows.checkNamesRow.wfByText (OpenSpec.ofChange Rows.checkNamesSpec) = true := by kernel_rfl
theorem main_is : Tryz.prog.mainIs = some (Rows.checkNamesCard.stood.harness.1, Rows.checkNamesCard.stood.harness.2.toList) := by kernel_rfl
theorem no_looks : false = Tryz.prog.looks [] := by kernel_rfl
theorem no_goes : false = Rows.checkNamesRow.goesBy Tryz.prog := by kernel_rfl

theorem proved : Rows.CheckNamesCardSaid :=
  Claim7.holds_tied_plain_at .later [] [.data, .data, .data, .data, .data, .data, .data, .data, .data] true Rows.checkNamesCard.stood.harness false
    row_holds (fun _ h => by cases h) by_text (fun _ h => by cases h) checkNames_row_tie rfl ⟨rfl, rfl⟩ main_is rfl
    (fun f fn hf hfn => by
      obtain rfl : f = 3 := Option.some.inj ((show Tryz.prog.funcNamed "bonsai/bonsailaw28.CheckNames" = some 3 by kernel_rfl).symm.trans hf) |>.symm
      obtain rfl : fn = Tryz.f3 := (Option.some.inj (Tryz.func3.symm.trans hfn)).symm
      exact ⟨no_looks, fun j t ht => by
        rw [Tryz.params3] at ht
        simp at ht⟩)
    no_goes
end Go.Proofs.YtgffldphnbeddaaGreatDoor.checkNames
