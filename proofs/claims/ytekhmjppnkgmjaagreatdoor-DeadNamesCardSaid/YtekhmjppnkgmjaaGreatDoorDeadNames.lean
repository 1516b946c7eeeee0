/- DeadNames: the statement answers yes; it has no input. The kernel works the program out over plain data, segment by segment, and what it works out is what the model does (the texts Ce..). The listed variables lie as their own initialisers lay them. -/
import Derived.Test.YtekhmjppnkgmjaaGreatDoorCards
import Derived.Test.YtekhmjppnkgmjaaGreatDoorCeCl
import Derived.Test.YtekhmjppnkgmjaaGreatDoorCeCA
import Derived.Test.YtekhmjppnkgmjaaGreatDoorDeadNamesSeg0
import Derived.Test.YtekhmjppnkgmjaaGreatDoorDeadNamesSeg1
import Derived.Test.YtekhmjppnkgmjaaGreatDoorDeadNamesSeg2
import Derived.Test.YtekhmjppnkgmjaaGreatDoorDeadNamesSeg3
import Derived.Test.YtekhmjppnkgmjaaGreatDoorDeadNamesSeg4
import Derived.Test.YtekhmjppnkgmjaaGreatDoorDeadNamesSeg5
import Derived.Test.YtekhmjppnkgmjaaGreatDoorDeadNamesSeg6
import Derived.Test.YtekhmjppnkgmjaaGreatDoorDeadNamesSeg7
import Derived.Test.YtekhmjppnkgmjaaGreatDoorDeadNamesSeg8
import Derived.Test.YtekhmjppnkgmjaaGreatDoorDeadNamesSeg9
import Derived.Test.YtekhmjppnkgmjaaGreatDoorDeadNamesSeg10
import Derived.Test.YtekhmjppnkgmjaaGreatDoorDeadNamesSeg11
import Derived.Test.YtekhmjppnkgmjaaGreatDoorDeadNamesSeg12
import Derived.SevenTiedAt
namespace Go.Proofs.YtekhmjppnkgmjaaGreatDoor.deadNames
open Go Go.ChangeShapes Go.WideShapes Go.ChangeAt Go.RowKit

set_option maxRecDepth 1000000 in
theorem runs : CE.RunsTo Tryz.prog 347 3 body s0 .ret s129 :=
  (CE.RunsTo.seq' (by kernel_rfl) t0 (CE.RunsTo.seq' (by kernel_rfl) t1 (CE.RunsTo.seq' (by kernel_rfl) t2 (CE.RunsTo.seq' (by kernel_rfl) t3 (CE.RunsTo.seq' (by kernel_rfl) t4 (CE.RunsTo.seq' (by kernel_rfl) t5 (CE.RunsTo.seq' (by kernel_rfl) (CE.RunsTo.seq' (by kernel_rfl) t6 (CE.RunsTo.block' (by kernel_rfl) (CE.RunsTo.loop' 19 (by kernel_rfl) (CE.RunsL.next (CE.RunsTo.seq' (by kernel_rfl) t7 (CE.RunsTo.seq' (by kernel_rfl) t8 (CE.RunsTo.seq' (by kernel_rfl) (CE.RunsTo.block' (by kernel_rfl) (CE.RunsTo.seq' (by kernel_rfl) t9 (CE.RunsTo.seq' (by kernel_rfl) t10 t11))) t12))) (CE.RunsL.next (CE.RunsTo.seq' (by kernel_rfl) t13 (CE.RunsTo.seq' (by kernel_rfl) t14 (CE.RunsTo.seq' (by kernel_rfl) (CE.RunsTo.block' (by kernel_rfl) (CE.RunsTo.seq' (by kernel_rfl) t15 (CE.RunsTo.seq' (by kernel_rfl) t16 t17))) t18))) (CE.RunsL.next (CE.RunsTo.seq' (by kernel_rfl) t19 (CE.RunsTo.seq' (by kernel_rfl) t20 (CE.RunsTo.seq' (by kernel_rfl) (CE.RunsTo.block' (by kernel_rfl) (CE.RunsTo.seq' (by kernel_rfl) t21 (CE.RunsTo.seq' (by kernel_rfl) t22 t23))) t24))) (CE.RunsL.next (CE.RunsTo.seq' (by kernel_rfl) t25 (CE.RunsTo.seq' (by kernel_rfl) t26 (CE.RunsTo.seq' (by kernel_rfl) (CE.RunsTo.block' (by kernel_rfl) (CE.RunsTo.seq' (by kernel_rfl) t27 (CE.RunsTo.seq' (by kernel_rfl) t28 t29))) t30))) (CE.RunsL.next (CE.RunsTo.seq' (by kernel_rfl) t31 (CE.RunsTo.seq' (by kernel_rfl) t32 (CE.RunsTo.seq' (by kernel_rfl) (CE.RunsTo.block' (by kernel_rfl) (CE.RunsTo.seq' (by kernel_rfl) t33 (CE.RunsTo.seq' (by kernel_rfl) t34 t35))) t36))) (CE.RunsL.next (CE.RunsTo.seq' (by kernel_rfl) t37 (CE.RunsTo.seq' (by kernel_rfl) t38 (CE.RunsTo.seq' (by kernel_rfl) (CE.RunsTo.block' (by kernel_rfl) (CE.RunsTo.seq' (by kernel_rfl) t39 (CE.RunsTo.seq' (by kernel_rfl) t40 t41))) t42))) (CE.RunsL.next (CE.RunsTo.seq' (by kernel_rfl) t43 (CE.RunsTo.seq' (by kernel_rfl) t44 (CE.RunsTo.seq' (by kernel_rfl) (CE.RunsTo.block' (by kernel_rfl) (CE.RunsTo.seq' (by kernel_rfl) t45 (CE.RunsTo.seq' (by kernel_rfl) t46 t47))) t48))) (CE.RunsL.next (CE.RunsTo.seq' (by kernel_rfl) t49 (CE.RunsTo.seq' (by kernel_rfl) t50 (CE.RunsTo.seq' (by kernel_rfl) (CE.RunsTo.block' (by kernel_rfl) (CE.RunsTo.seq' (by kernel_rfl) t51 (CE.RunsTo.seq' (by kernel_rfl) t52 t53))) t54))) (CE.RunsL.next (CE.RunsTo.seq' (by kernel_rfl) t55 (CE.RunsTo.seq' (by kernel_rfl) t56 (CE.RunsTo.seq' (by kernel_rfl) (CE.RunsTo.block' (by kernel_rfl) (CE.RunsTo.seq' (by kernel_rfl) t57 (CE.RunsTo.seq' (by kernel_rfl) t58 t59))) t60))) (CE.RunsL.next (CE.RunsTo.seq' (by kernel_rfl) t61 (CE.RunsTo.seq' (by kernel_rfl) t62 (CE.RunsTo.seq' (by kernel_rfl) (CE.RunsTo.block' (by kernel_rfl) (CE.RunsTo.seq' (by kernel_rfl) t63 (CE.RunsTo.seq' (by kernel_rfl) t64 t65))) t66))) (CE.RunsL.next (CE.RunsTo.seq' (by kernel_rfl) t67 (CE.RunsTo.seq' (by kernel_rfl) t68 (CE.RunsTo.seq' (by kernel_rfl) (CE.RunsTo.block' (by kernel_rfl) (CE.RunsTo.seq' (by kernel_rfl) t69 (CE.RunsTo.seq' (by kernel_rfl) t70 t71))) t72))) (CE.RunsL.next (CE.RunsTo.seq' (by kernel_rfl) t73 (CE.RunsTo.seq' (by kernel_rfl) t74 (CE.RunsTo.seq' (by kernel_rfl) (CE.RunsTo.block' (by kernel_rfl) (CE.RunsTo.seq' (by kernel_rfl) t75 (CE.RunsTo.seq' (by kernel_rfl) t76 t77))) t78))) (CE.RunsL.next (CE.RunsTo.seq' (by kernel_rfl) t79 (CE.RunsTo.seq' (by kernel_rfl) t80 (CE.RunsTo.seq' (by kernel_rfl) (CE.RunsTo.block' (by kernel_rfl) (CE.RunsTo.seq' (by kernel_rfl) t81 (CE.RunsTo.seq' (by kernel_rfl) t82 t83))) t84))) (CE.RunsL.next (CE.RunsTo.seq' (by kernel_rfl) t85 (CE.RunsTo.seq' (by kernel_rfl) t86 (CE.RunsTo.seq' (by kernel_rfl) (CE.RunsTo.block' (by kernel_rfl) (CE.RunsTo.seq' (by kernel_rfl) t87 (CE.RunsTo.seq' (by kernel_rfl) t88 t89))) t90))) (CE.RunsL.next (CE.RunsTo.seq' (by kernel_rfl) t91 (CE.RunsTo.seq' (by kernel_rfl) t92 (CE.RunsTo.seq' (by kernel_rfl) (CE.RunsTo.block' (by kernel_rfl) (CE.RunsTo.seq' (by kernel_rfl) t93 (CE.RunsTo.seq' (by kernel_rfl) t94 t95))) t96))) (CE.RunsL.next (CE.RunsTo.seq' (by kernel_rfl) t97 (CE.RunsTo.seq' (by kernel_rfl) t98 (CE.RunsTo.seq' (by kernel_rfl) (CE.RunsTo.block' (by kernel_rfl) (CE.RunsTo.seq' (by kernel_rfl) t99 (CE.RunsTo.seq' (by kernel_rfl) t100 t101))) t102))) (CE.RunsL.next (CE.RunsTo.seq' (by kernel_rfl) t103 (CE.RunsTo.seq' (by kernel_rfl) t104 (CE.RunsTo.seq' (by kernel_rfl) (CE.RunsTo.block' (by kernel_rfl) (CE.RunsTo.seq' (by kernel_rfl) t105 (CE.RunsTo.seq' (by kernel_rfl) t106 t107))) t108))) (CE.RunsL.next (CE.RunsTo.seq' (by kernel_rfl) t109 (CE.RunsTo.seq' (by kernel_rfl) t110 (CE.RunsTo.seq' (by kernel_rfl) (CE.RunsTo.block' (by kernel_rfl) (CE.RunsTo.seq' (by kernel_rfl) t111 (CE.RunsTo.seq' (by kernel_rfl) t112 t113))) t114))) (CE.RunsL.stop' (by kernel_rfl) t115)))))))))))))))))))))) (CE.RunsTo.seq' (by kernel_rfl) t116 (CE.RunsTo.seq' (by kernel_rfl) t117 (CE.RunsTo.seq' (by kernel_rfl) t118 (CE.RunsTo.seq' (by kernel_rfl) t119 (CE.RunsTo.seq' (by kernel_rfl) t120 (CE.RunsTo.seq' (by kernel_rfl) t121 (CE.RunsTo.seq' (by kernel_rfl) t122 (CE.RunsTo.seq' (by kernel_rfl) t123 (CE.RunsTo.seq' (by kernel_rfl) t124 (CE.RunsTo.seq' (by kernel_rfl) t125 (CE.RunsTo.seq' (by kernel_rfl) t126 (CE.RunsTo.seq' (by kernel_rfl) t127 t128)))))))))))))))))))

def laidT : List (String × DataW Unit) := [("math/bits.deBruijn32tab", Rows.laid_math_bits_deBruijn32tab), ("math/bits.deBruijn64tab", Rows.laid_math_bits_deBruijn64tab), ("internal/strconv.uint64pow10", Rows.laid_internal_strconv_uint64pow10), ("bonsai/tree.least", Rows.laid_bonsai_tree_least), ("bonsai/tree.most", Rows.laid_bonsai_tree_most), ("bonsai/print.front", Rows.laid_bonsai_print_front), ("bonsai/print.between", Rows.laid_bonsai_print_between), ("bonsai/print.enclosed", Rows.laid_bonsai_print_enclosed), ("bonsai/print.signs", Rows.laid_bonsai_print_signs)]

theorem start : CE.Start Tryz.prog laidT s0 := ⟨by kernel_rfl, by kernel_rfl, by kernel_rfl, by kernel_rfl, by kernel_rfl⟩

theorem ended : CE.endB Tryz.prog 3 Tryz.f6 ⟨CE.lowN Tryz.prog 100000 400, 100000, none⟩ s129 = true := by kernel_rfl

theorem called (W : World) (hS : W.ShapedOpen Tryz.prog) (hL : laidMet Tryz.prog laidT W) : Calls Tryz.prog 6 #[] W fun e W' => e = .returned (.bool true) ∧ Below W.heap.size W W' :=
  CE.call_cut hS hL (by kernel_rfl) (.inr (by kernel_rfl)) (b := body) Tryz.func6 (by kernel_rfl) (by kernel_rfl) (.inr rfl) start runs ended

theorem door_met (os : Os) (args : Array Value) : laidMetH Tryz.prog laidT ((World.doorLaid Tryz.prog 60 os).forCall (fun _ _ => 0) ⟨#[], args, []⟩).memory :=
  laidMetH_of_parts3 (fuel := 8) (laidMet_of_run' 8 (by kernel_rfl) (by kernel_rfl)) (by kernel_rfl) (by kernel_rfl)

set_option maxRecDepth 100000 in
theorem lifted (os : Os) (started : os.Started) (H : Type) (enc : TypeId × Value → H) :
    ReturnsInHanded {} Tryz.checked os 6 .any (fun w args => (Rows.deadNamesSpec.pre enc Tryz.prog Tryz.f6 [] false w args ∧ laidMetH Tryz.prog laidT w) ∧ sizedMet enc Tryz.prog Tryz.f6 (OpenSpec.ofChange Rows.deadNamesSpec) false w args)
      (Rows.deadNamesSpec.post enc Tryz.prog Tryz.f6 false true false false) := by
  refine closed_lifted 6 Tryz.f6 Rows.deadNamesSpec laidT rfl Tryz.func6 (by kernel_rfl) (fun _ => rfl) rfl rfl (by kernel_rfl) called
    (ChangeSpec.witness_shaped (enc := enc) (C := Tryz.checked) (os := os) (X := fun w _ => laidMetH Tryz.prog laidT w) false (World.doorLaid Tryz.prog 60 os) #[] 8 rfl (door_shaped os) (by kernel_rfl) (by kernel_rfl) (by kernel_rfl) (door_met os _)) started

theorem in_place : (Rows.deadNamesRow.inPlace == Tryz.prog.inPlace 6) = true := by kernel_rfl
theorem unfollowed : (Rows.deadNamesRow.unfollowed == Tryz.prog.unfollowed 6) = true := by kernel_rfl
theorem recurses : (Rows.deadNamesRow.recurses == Tryz.prog.recurses 6) = true := by kernel_rfl
theorem names_vars : (Rows.deadNamesRow.named == Tryz.prog.varsNamed 6) = true := by kernel_rfl

theorem closed : joinedFacts Tryz.prog 6 Tryz.f6 Rows.deadNamesSpec Rows.deadNamesRow = true := by
  unfold joinedFacts
  rw [in_place, unfollowed, recurses, names_vars]
  kernel_rfl

theorem row_holds : Rows.DeadNamesSaid :=
  OpenClaim.holds_of_wide 6 Tryz.f6 rfl rfl rfl rfl rfl rfl rfl ⟨rfl, rfl, rfl, rfl, rfl⟩ rfl rfl rfl rfl rfl (by kernel_rfl) Tryz.func6 closed
    (of_decide_eq_true (by kernel_rfl)) (by unfold Func.isWrapper; first | (rw [if_pos (by decide +kernel)]; kernel_rfl) | (rw [if_neg (by decide +kernel)]; exact ⟨rfl, rfl⟩))
    (fun os started H enc _ => lifted os started H enc)

theorem by_text : Rows.deadNamesRow.wfByText (OpenSpec.ofChange Rows.deadNamesSpec) = true := by kernel_rfl
theorem main_is : Tryz.prog.mainIs = some (Rows.deadNamesCard.stood.harness.1, Rows.deadNamesCard.stood.harness.2.toList) := by kernel_rfl
theorem no_looks : false = Tryz.prog.looks [] := by kernel_rfl
theorem no_goes : false = Rows.deadNamesRow.goesBy Tryz.prog := by kernel_rfl

theorem proved : Rows.DeadNamesCardSaid :=
  Claim7.holds_tied_plain_at .later [] [.data, .data, .data, .data, .data, .data, .data, .data, .data] true Rows.deadNamesCard.stood.harness false
    row_holds (fun _ h => by cases h) by_text (fun _ h => by cases h) deadNames_row_tie rfl ⟨rfl, rfl⟩ main_is rfl
    (fun f fn hf hfn => by
      obtain rfl : f = 6 := Option.some.inj ((show Tryz.prog.funcNamed "bonsai/bonsailaw20.DeadNames" = some 6 by kernel_rfl).symm.trans hf) |>.symm
      obtain rfl : fn = Tryz.f6 := (Option.some.inj (Tryz.func6.symm.trans hfn)).symm
      exact ⟨no_looks, fun j t ht => by
        rw [Tryz.params6] at ht
        simp at ht⟩)
    no_goes
end Go.Proofs.YtekhmjppnkgmjaaGreatDoor.deadNames
