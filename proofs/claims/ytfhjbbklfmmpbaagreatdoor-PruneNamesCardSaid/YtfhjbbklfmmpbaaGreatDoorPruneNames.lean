/- PruneNames: the statement answers yes; it has no input. The kernel works the program out over plain data, segment by segment, and what it works out is what the model does (the texts Ce..). The listed variables lie as their own initialisers lay them. -/
import Derived.Test.YtfhjbbklfmmpbaaGreatDoorCards
import Derived.Test.YtfhjbbklfmmpbaaGreatDoorCeCl
import Derived.Test.YtfhjbbklfmmpbaaGreatDoorCe5
import Derived.Test.YtfhjbbklfmmpbaaGreatDoorPruneNamesSeg0
import Derived.Test.YtfhjbbklfmmpbaaGreatDoorPruneNamesSeg1
import Derived.Test.YtfhjbbklfmmpbaaGreatDoorPruneNamesSeg2
import Derived.Test.YtfhjbbklfmmpbaaGreatDoorPruneNamesSeg3
import Derived.Test.YtfhjbbklfmmpbaaGreatDoorPruneNamesSeg4
import Derived.Test.YtfhjbbklfmmpbaaGreatDoorPruneNamesSeg5
import Derived.Test.YtfhjbbklfmmpbaaGreatDoorPruneNamesSeg6
import Derived.Test.YtfhjbbklfmmpbaaGreatDoorPruneNamesSeg7
import Derived.Test.YtfhjbbklfmmpbaaGreatDoorPruneNamesSeg8
import Derived.Test.YtfhjbbklfmmpbaaGreatDoorPruneNamesSeg9
import Derived.SevenTiedAt
namespace Go.Proofs.YtfhjbbklfmmpbaaGreatDoor.pruneNames
open Go Go.ChangeShapes Go.WideShapes Go.ChangeAt Go.RowKit

set_option maxRecDepth 1000000 in
theorem runs : CE.RunsTo Tryz.prog 149 3 body s0 .ret s24 :=
  (CE.RunsTo.seq' (by kernel_rfl) t0 (CE.RunsTo.seq' (by kernel_rfl) (CE.RunsTo.seq' (by kernel_rfl) t1 t2) (CE.RunsTo.seq' (by kernel_rfl) (CE.RunsTo.seq' (by kernel_rfl) t3 t4) (CE.RunsTo.seq' (by kernel_rfl) t5 (CE.RunsTo.seq' (by kernel_rfl) (CE.RunsTo.seq' (by kernel_rfl) t6 (CE.RunsTo.block' (by kernel_rfl) (CE.RunsTo.loop' 10 (by kernel_rfl) (CE.RunsL.next t7 (CE.RunsL.next t8 (CE.RunsL.next t9 (CE.RunsL.next t10 (CE.RunsL.next t11 (CE.RunsL.next t12 (CE.RunsL.next t13 (CE.RunsL.next t14 (CE.RunsL.next t15 (CE.RunsL.stop' (by kernel_rfl) t16))))))))))))) (CE.RunsTo.seq' (by kernel_rfl) t17 (CE.RunsTo.seq' (by kernel_rfl) t18 (CE.RunsTo.seq' (by kernel_rfl) t19 (CE.RunsTo.seq' (by kernel_rfl) t20 (CE.RunsTo.seq' (by kernel_rfl) t21 (CE.RunsTo.seq' (by kernel_rfl) t22 t23)))))))))))

def laidT : List (String × DataW Unit) := [("math/bits.deBruijn32tab", Rows.laid_math_bits_deBruijn32tab), ("math/bits.deBruijn64tab", Rows.laid_math_bits_deBruijn64tab), ("internal/strconv.uint64pow10", Rows.laid_internal_strconv_uint64pow10), ("bonsai/tree.least", Rows.laid_bonsai_tree_least), ("bonsai/tree.most", Rows.laid_bonsai_tree_most), ("bonsai/print.front", Rows.laid_bonsai_print_front), ("bonsai/print.between", Rows.laid_bonsai_print_between), ("bonsai/print.enclosed", Rows.laid_bonsai_print_enclosed), ("bonsai/print.signs", Rows.laid_bonsai_print_signs)]

theorem start : CE.Start Tryz.prog laidT s0 := ⟨by kernel_rfl, by kernel_rfl, by kernel_rfl, by kernel_rfl, by kernel_rfl⟩

theorem ended : CE.endB Tryz.prog 3 Tryz.f4 ⟨CE.lowN Tryz.prog 100000 400, 100000, none⟩ s24 = true := by kernel_rfl

theorem called (W : World) (hS : W.ShapedOpen Tryz.prog) (hL : laidMet Tryz.prog laidT W) : Calls Tryz.prog 4 #[] W fun e W' => e = .returned (.bool true) ∧ Below W.heap.size W W' :=
  CE.call_cut hS hL (by kernel_rfl) (.inr (by kernel_rfl)) (b := body) Tryz.func4 (by kernel_rfl) (by kernel_rfl) (.inr rfl) start runs ended

theorem door_met (os : Os) (args : Array Value) : laidMetH Tryz.prog laidT ((World.doorLaid Tryz.prog 60 os).forCall (fun _ _ => 0) ⟨#[], args, []⟩).memory :=
  laidMetH_of_parts3 (fuel := 8) (laidMet_of_run' 8 (by kernel_rfl) (by kernel_rfl)) (by kernel_rfl) (by kernel_rfl)

set_option maxRecDepth 100000 in
theorem lifted (os : Os) (started : os.Started) (H : Type) (enc : TypeId × Value → H) :
    ReturnsInHanded {} Tryz.checked os 4 .any (fun w args => (Rows.pruneNamesSpec.pre enc Tryz.prog Tryz.f4 [] false w args ∧ laidMetH Tryz.prog laidT w) ∧ sizedMet enc Tryz.prog Tryz.f4 (OpenSpec.ofChange Rows.pruneNamesSpec) false w args)
      (Rows.pruneNamesSpec.post enc Tryz.prog Tryz.f4 false true false false) := by
  refine closed_lifted 4 Tryz.f4 Rows.pruneNamesSpec laidT rfl Tryz.func4 (by kernel_rfl) (fun _ => rfl) rfl rfl (by kernel_rfl) called
    (ChangeSpec.witness_shaped (enc := enc) (C := Tryz.checked) (os := os) (X := fun w _ => laidMetH Tryz.prog laidT w) false (World.doorLaid Tryz.prog 60 os) #[] 8 rfl (door_shaped os) (by kernel_rfl) (by kernel_rfl) (by kernel_rfl) (door_met os _)) started

theorem in_place : (Rows.pruneNamesRow.inPlace == Tryz.prog.inPlace 4) = true := by kernel_rfl
theorem unfollowed : (Rows.pruneNamesRow.unfollowed == Tryz.prog.unfollowed 4) = true := by kernel_rfl
theorem recurses : (Rows.pruneNamesRow.recurses == Tryz.prog.recurses 4) = true := by kernel_rfl
theorem names_vars : (Rows.pruneNamesRow.named == Tryz.prog.varsNamed 4) = true := by kernel_rfl

theorem closed : joinedFacts Tryz.prog 4 Tryz.f4 Rows.pruneNamesSpec Rows.pruneNamesRow = true := by
  unfold joinedFacts
  rw [in_place, unfollowed, recurses, names_vars]
  kernel_rfl

theorem row_holds : Rows.PruneNamesSaid :=
  OpenClaim.holds_of_wide 4 Tryz.f4 rfl rfl rfl rfl rfl rfl rfl ⟨rfl, rfl, rfl, rfl, rfl⟩ rfl rfl rfl rfl rfl (by kernel_rfl) Tryz.func4 closed
    (of_decide_eq_true (by kernel_rfl)) (by unfold Func.isWrapper; first | (rw [if_pos (by decide +kernel)]; kernel_rfl) | (rw [if_neg (by decide +kernel)]; exact ⟨rfl, rfl⟩))
    (fun os started H enc _ => lifted os started H enc)

theorem by_text : Rows.pruneNamesRow.wfByText (OpenSpec.ofChange Rows.pruneNamesSpec) = true := by kernel_rfl
theorem main_is : Tryz.prog.mainIs = some (Rows.pruneNamesCard.stood.harness.1, Rows.pruneNamesCard.stood.harness.2.toList) := by kernel_rfl
theorem no_looks : false = Tryz.prog.looks [] := by kernel_rfl
theorem no_goes : false = Rows.pruneNamesRow.goesBy Tryz.prog := by kernel_rfl

theorem proved : Rows.PruneNamesCardSaid :=
  Claim7.holds_tied_plain_at .later [] [.data, .data, .data, .data, .data, .data, .data, .data, .data] true Rows.pruneNamesCard.stood.harness false
    row_holds (fun _ h => by cases h) by_text (fun _ h => by cases h) pruneNames_row_tie rfl ⟨rfl, rfl⟩ main_is rfl
    (fun f fn hf hfn => by
      obtain rfl : f = 4 := Option.some.inj ((show Tryz.prog.funcNamed "bonsai/bonsailaw25.PruneNames" = some 4 by kernel_rfl).symm.trans hf) |>.symm
      obtain rfl : fn = Tryz.f4 := (Option.some.inj (Tryz.func4.symm.trans hfn)).symm
      exact ⟨no_looks, fun j t ht => by
        rw [Tryz.params4] at ht
        simp at ht⟩)
    no_goes
end Go.Proofs.YtfhjbbklfmmpbaaGreatDoor.pruneNames
