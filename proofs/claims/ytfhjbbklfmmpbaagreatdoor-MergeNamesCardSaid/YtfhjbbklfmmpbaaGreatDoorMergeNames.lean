/- MergeNames: the statement answers yes; it has no input. The kernel works the program out over plain data, segment by segment, and what it works out is what the model does (the texts Ce..). The listed variables lie as their own initialisers lay them. -/
import Derived.Test.YtfhjbbklfmmpbaaGreatDoorCards
import Derived.Test.YtfhjbbklfmmpbaaGreatDoorCeCl
import Derived.Test.YtfhjbbklfmmpbaaGreatDoorCe5
import Derived.Test.YtfhjbbklfmmpbaaGreatDoorMergeNamesSeg0
import Derived.Test.YtfhjbbklfmmpbaaGreatDoorMergeNamesSeg1
import Derived.Test.YtfhjbbklfmmpbaaGreatDoorMergeNamesSeg2
import Derived.Test.YtfhjbbklfmmpbaaGreatDoorMergeNamesSeg3
import Derived.Test.YtfhjbbklfmmpbaaGreatDoorMergeNamesSeg4
import Derived.Test.YtfhjbbklfmmpbaaGreatDoorMergeNamesSeg5
import Derived.Test.YtfhjbbklfmmpbaaGreatDoorMergeNamesSeg6
import Derived.Test.YtfhjbbklfmmpbaaGreatDoorMergeNamesSeg7
import Derived.Test.YtfhjbbklfmmpbaaGreatDoorMergeNamesSeg8
import Derived.Test.YtfhjbbklfmmpbaaGreatDoorMergeNamesSeg9
import Derived.Test.YtfhjbbklfmmpbaaGreatDoorMergeNamesSeg10
import Derived.Test.YtfhjbbklfmmpbaaGreatDoorMergeNamesSeg11
import Derived.Test.YtfhjbbklfmmpbaaGreatDoorMergeNamesSeg12
import Derived.Test.YtfhjbbklfmmpbaaGreatDoorMergeNamesSeg13
import Derived.SevenTiedAt
namespace Go.Proofs.YtfhjbbklfmmpbaaGreatDoor.mergeNames
open Go Go.ChangeShapes Go.WideShapes Go.ChangeAt Go.RowKit

set_option maxRecDepth 1000000 in
theorem runs : CE.RunsTo Tryz.prog 193 3 body s0 .ret s45 :=
  (CE.RunsTo.seq' (by kernel_rfl) t0 (CE.RunsTo.seq' (by kernel_rfl) (CE.RunsTo.seq' (by kernel_rfl) t1 t2) (CE.RunsTo.seq' (by kernel_rfl) (CE.RunsTo.seq' (by kernel_rfl) t3 (CE.RunsTo.block' (by kernel_rfl) (CE.RunsTo.loop' 18 (by kernel_rfl) (CE.RunsL.next t4 (CE.RunsL.next t5 (CE.RunsL.next t6 (CE.RunsL.next t7 (CE.RunsL.next t8 (CE.RunsL.next t9 (CE.RunsL.next t10 (CE.RunsL.next t11 (CE.RunsL.next t12 (CE.RunsL.next t13 (CE.RunsL.next t14 (CE.RunsL.next t15 (CE.RunsL.next t16 (CE.RunsL.next t17 (CE.RunsL.next t18 (CE.RunsL.next t19 (CE.RunsL.next t20 (CE.RunsL.stop' (by kernel_rfl) t21))))))))))))))))))))) (CE.RunsTo.seq' (by kernel_rfl) (CE.RunsTo.seq' (by kernel_rfl) t22 t23) (CE.RunsTo.seq' (by kernel_rfl) t24 (CE.RunsTo.seq' (by kernel_rfl) (CE.RunsTo.seq' (by kernel_rfl) t25 (CE.RunsTo.block' (by kernel_rfl) (CE.RunsTo.loop' 17 (by kernel_rfl) (CE.RunsL.next t26 (CE.RunsL.next t27 (CE.RunsL.next t28 (CE.RunsL.next t29 (CE.RunsL.next t30 (CE.RunsL.next t31 (CE.RunsL.next t32 (CE.RunsL.next t33 (CE.RunsL.next t34 (CE.RunsL.next t35 (CE.RunsL.next t36 (CE.RunsL.next t37 (CE.RunsL.next t38 (CE.RunsL.next t39 (CE.RunsL.next t40 (CE.RunsL.next t41 (CE.RunsL.stop' (by kernel_rfl) t42)))))))))))))))))))) (CE.RunsTo.seq' (by kernel_rfl) t43 t44)))))))

def laidT : List (String × DataW Unit) := [("math/bits.deBruijn32tab", Rows.laid_math_bits_deBruijn32tab), ("math/bits.deBruijn64tab", Rows.laid_math_bits_deBruijn64tab), ("internal/strconv.uint64pow10", Rows.laid_internal_strconv_uint64pow10), ("bonsai/tree.least", Rows.laid_bonsai_tree_least), ("bonsai/tree.most", Rows.laid_bonsai_tree_most), ("bonsai/print.front", Rows.laid_bonsai_print_front), ("bonsai/print.between", Rows.laid_bonsai_print_between), ("bonsai/print.enclosed", Rows.laid_bonsai_print_enclosed), ("bonsai/print.signs", Rows.laid_bonsai_print_signs)]

theorem start : CE.Start Tryz.prog laidT s0 := ⟨by kernel_rfl, by kernel_rfl, by kernel_rfl, by kernel_rfl, by kernel_rfl⟩

theorem ended : CE.endB Tryz.prog 3 Tryz.f3 ⟨CE.lowN Tryz.prog 100000 400, 100000, none⟩ s45 = true := by kernel_rfl

theorem called (W : World) (hS : W.ShapedOpen Tryz.prog) (hL : laidMet Tryz.prog laidT W) : Calls Tryz.prog 3 #[] W fun e W' => e = .returned (.bool true) ∧ Below W.heap.size W W' :=
  CE.call_cut hS hL (by kernel_rfl) (.inr (by kernel_rfl)) (b := body) Tryz.func3 (by kernel_rfl) (by kernel_rfl) (.inr rfl) start runs ended

theorem door_met (os : Os) (args : Array Value) : laidMetH Tryz.prog laidT ((World.doorLaid Tryz.prog 60 os).forCall (fun _ _ => 0) ⟨#[], args, []⟩).memory :=
  laidMetH_of_parts3 (fuel := 8) (laidMet_of_run' 8 (by kernel_rfl) (by kernel_rfl)) (by kernel_rfl) (by kernel_rfl)

set_option maxRecDepth 100000 in
theorem lifted (os : Os) (started : os.Started) (H : Type) (enc : TypeId × Value → H) :
    ReturnsInHanded {} Tryz.checked os 3 .any (fun w args => (Rows.mergeNamesSpec.pre enc Tryz.prog Tryz.f3 [] false w args ∧ laidMetH Tryz.prog laidT w) ∧ sizedMet enc Tryz.prog Tryz.f3 (OpenSpec.ofChange Rows.mergeNamesSpec) false w args)
      (Rows.mergeNamesSpec.post enc Tryz.prog Tryz.f3 false true false false) := by
  refine closed_lifted 3 Tryz.f3 Rows.mergeNamesSpec laidT rfl Tryz.func3 (by kernel_rfl) (fun _ => rfl) rfl rfl (by kernel_rfl) called
    (ChangeSpec.witness_shaped (enc := enc) (C := Tryz.checked) (os := os) (X := fun w _ => laidMetH Tryz.prog laidT w) false (World.doorLaid Tryz.prog 60 os) #[] 8 rfl (door_shaped os) (by kernel_rfl) (by kernel_rfl) (by kernel_rfl) (door_met os _)) started

theorem in_place : (Rows.mergeNamesRow.inPlace == Tryz.prog.inPlace 3) = true := by kernel_rfl
theorem unfollowed : (Rows.mergeNamesRow.unfollowed == Tryz.prog.unfollowed 3) = true := by kernel_rfl
theorem recurses : (Rows.mergeNamesRow.recurses == Tryz.prog.recurses 3) = true := by kernel_rfl
theorem names_vars : (Rows.mergeNamesRow.named == Tryz.prog.varsNamed 3) = true := by kernel_rfl

theorem closed : joinedFacts Tryz.prog 3 Tryz.f3 Rows.mergeNamesSpec Rows.mergeNamesRow = true := by
  unfold joinedFacts
  rw [in_place, unfollowed, recurses, names_vars]
  kernel_rfl

theorem row_holds : Rows.MergeNamesSaid :=
  OpenClaim.holds_of_wide 3 Tryz.f3 rfl rfl rfl rfl rfl rfl rfl ⟨rfl, rfl, rfl, rfl, rfl⟩ rfl rfl rfl rfl rfl (by kernel_rfl) Tryz.func3 closed
    (of_decide_eq_true (by kernel_rfl)) (by unfold Func.isWrapper; first | (rw [if_pos (by decide +kernel)]; kernel_rfl) | (rw [if_neg (by decide +kernel)]; exact ⟨rfl, rfl⟩))
    (fun os started H enc _ => lifted os started H enc)

theorem by_text : Rows.mergeNamesRow.wfByText (OpenSpec.ofChange Rows.mergeNamesSpec) = true := by kernel_rfl
theorem main_is : Tryz.prog.mainIs = some (Rows.mergeNamesCard.stood.harness.1, Rows.mergeNamesCard.stood.harness.2.toList) := by kernel_rfl
theorem no_looks : false = Tryz.prog.looks [] := by kernel_rfl
theorem no_goes : false = Rows.mergeNamesRow.goesBy Tryz.prog := by kernel_rfl

theorem proved : Rows.MergeNamesCardSaid :=
  Claim7.holds_tied_plain_at .later [] [.data, .data, .data, .data, .data, .data, .data, .data, .data] true Rows.mergeNamesCard.stood.harness false
    row_holds (fun _ h => by cases h) by_text (fun _ h => by cases h) mergeNames_row_tie rfl ⟨rfl, rfl⟩ main_is rfl
    (fun f fn hf hfn => by
      obtain rfl : f = 3 := Option.some.inj ((show Tryz.prog.funcNamed "bonsai/bonsailaw23.MergeNames" = some 3 by kernel_rfl).symm.trans hf) |>.symm
      obtain rfl : fn = Tryz.f3 := (Option.some.inj (Tryz.func3.symm.trans hfn)).symm
      exact ⟨no_looks, fun j t ht => by
        rw [Tryz.params3] at ht
        simp at ht⟩)
    no_goes
end Go.Proofs.YtfhjbbklfmmpbaaGreatDoor.mergeNames
