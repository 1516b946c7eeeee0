/- FirstNames: the statement answers yes; it has no input. The kernel works the program out over plain data, segment by segment, and what it works out is what the model does (the texts Ce..). The listed variables lie as their own initialisers lay them. -/
import Derived.Test.YtnbfpalcaibcfaaGreatDoorCards
import Derived.Test.YtnbfpalcaibcfaaGreatDoorCeCl
import Derived.Test.YtnbfpalcaibcfaaGreatDoorCe5
import Derived.Test.YtnbfpalcaibcfaaGreatDoorFirstNamesSeg0
import Derived.Test.YtnbfpalcaibcfaaGreatDoorFirstNamesSeg1
import Derived.Test.YtnbfpalcaibcfaaGreatDoorFirstNamesSeg2
import Derived.Test.YtnbfpalcaibcfaaGreatDoorFirstNamesSeg3
import Derived.Test.YtnbfpalcaibcfaaGreatDoorFirstNamesSeg4
import Derived.Test.YtnbfpalcaibcfaaGreatDoorFirstNamesSeg5
import Derived.Test.YtnbfpalcaibcfaaGreatDoorFirstNamesSeg6
import Derived.Test.YtnbfpalcaibcfaaGreatDoorFirstNamesSeg7
import Derived.Test.YtnbfpalcaibcfaaGreatDoorFirstNamesSeg8
import Derived.Test.YtnbfpalcaibcfaaGreatDoorFirstNamesSeg9
import Derived.Test.YtnbfpalcaibcfaaGreatDoorFirstNamesSeg10
import Derived.Test.YtnbfpalcaibcfaaGreatDoorFirstNamesSeg11
import Derived.Test.YtnbfpalcaibcfaaGreatDoorFirstNamesSeg12
import Derived.Test.YtnbfpalcaibcfaaGreatDoorFirstNamesSeg13
import Derived.Test.YtnbfpalcaibcfaaGreatDoorFirstNamesSeg14
import Derived.Test.YtnbfpalcaibcfaaGreatDoorFirstNamesSeg15
import Derived.Test.YtnbfpalcaibcfaaGreatDoorFirstNamesSeg16
import Derived.Test.YtnbfpalcaibcfaaGreatDoorFirstNamesSeg17
import Derived.Test.YtnbfpalcaibcfaaGreatDoorFirstNamesSeg18
import Derived.Test.YtnbfpalcaibcfaaGreatDoorFirstNamesSeg19
import Derived.Test.YtnbfpalcaibcfaaGreatDoorFirstNamesSeg20
import Derived.Test.YtnbfpalcaibcfaaGreatDoorFirstNamesSeg21
import Derived.Test.YtnbfpalcaibcfaaGreatDoorFirstNamesSeg22
import Derived.Test.YtnbfpalcaibcfaaGreatDoorFirstNamesSeg23
import Derived.Test.YtnbfpalcaibcfaaGreatDoorFirstNamesSeg24
import Derived.Test.YtnbfpalcaibcfaaGreatDoorFirstNamesSeg25
import Derived.Test.YtnbfpalcaibcfaaGreatDoorFirstNamesSeg26
import Derived.Test.YtnbfpalcaibcfaaGreatDoorFirstNamesSeg27
import Derived.Test.YtnbfpalcaibcfaaGreatDoorFirstNamesSeg28
import Derived.Test.YtnbfpalcaibcfaaGreatDoorFirstNamesSeg29
import Derived.Test.YtnbfpalcaibcfaaGreatDoorFirstNamesSeg30
import Derived.Test.YtnbfpalcaibcfaaGreatDoorFirstNamesSeg31
import Derived.Test.YtnbfpalcaibcfaaGreatDoorFirstNamesSeg32
import Derived.Test.YtnbfpalcaibcfaaGreatDoorFirstNamesSeg33
import Derived.Test.YtnbfpalcaibcfaaGreatDoorFirstNamesSeg34
import Derived.Test.YtnbfpalcaibcfaaGreatDoorFirstNamesSeg35
import Derived.Test.YtnbfpalcaibcfaaGreatDoorFirstNamesSeg36
import Derived.Test.YtnbfpalcaibcfaaGreatDoorFirstNamesSeg37
import Derived.SevenTiedAt
namespace Go.Proofs.YtnbfpalcaibcfaaGreatDoor.firstNames
open Go Go.ChangeShapes Go.WideShapes Go.ChangeAt Go.RowKit

set_option maxRecDepth 1000000 in
theorem runs : CE.RunsTo Tryz.prog 172 3 body s0 .ret s216 :=
  (CE.RunsTo.seq' (by kernel_rfl) t0 (CE.RunsTo.seq' (by kernel_rfl) (CE.RunsTo.seq' (by kernel_rfl) t1 t2) (CE.RunsTo.seq' (by kernel_rfl) (CE.RunsTo.seq' (by kernel_rfl) t3 (CE.RunsTo.block' (by kernel_rfl) (CE.RunsTo.loop' 36 (by kernel_rfl) (CE.RunsL.next (CE.RunsTo.seq' (by kernel_rfl) t4 (CE.RunsTo.seq' (by kernel_rfl) t5 (CE.RunsTo.seq' (by kernel_rfl) (CE.RunsTo.block' (by kernel_rfl) (CE.RunsTo.seq' (by kernel_rfl) t6 (CE.RunsTo.seq' (by kernel_rfl) t7 t8))) t9))) (CE.RunsL.next (CE.RunsTo.seq' (by kernel_rfl) t10 (CE.RunsTo.seq' (by kernel_rfl) t11 (CE.RunsTo.seq' (by kernel_rfl) (CE.RunsTo.block' (by kernel_rfl) (CE.RunsTo.seq' (by kernel_rfl) t12 (CE.RunsTo.seq' (by kernel_rfl) t13 t14))) t15))) (CE.RunsL.next (CE.RunsTo.seq' (by kernel_rfl) t16 (CE.RunsTo.seq' (by kernel_rfl) t17 (CE.RunsTo.seq' (by kernel_rfl) (CE.RunsTo.block' (by kernel_rfl) (CE.RunsTo.seq' (by kernel_rfl) t18 (CE.RunsTo.seq' (by kernel_rfl) t19 t20))) t21))) (CE.RunsL.next (CE.RunsTo.seq' (by kernel_rfl) t22 (CE.RunsTo.seq' (by kernel_rfl) t23 (CE.RunsTo.seq' (by kernel_rfl) (CE.RunsTo.block' (by kernel_rfl) (CE.RunsTo.seq' (by kernel_rfl) t24 (CE.RunsTo.seq' (by kernel_rfl) t25 t26))) t27))) (CE.RunsL.next (CE.RunsTo.seq' (by kernel_rfl) t28 (CE.RunsTo.seq' (by kernel_rfl) t29 (CE.RunsTo.seq' (by kernel_rfl) (CE.RunsTo.block' (by kernel_rfl) (CE.RunsTo.seq' (by kernel_rfl) t30 (CE.RunsTo.seq' (by kernel_rfl) t31 t32))) t33))) (CE.RunsL.next (CE.RunsTo.seq' (by kernel_rfl) t34 (CE.RunsTo.seq' (by kernel_rfl) t35 (CE.RunsTo.seq' (by kernel_rfl) (CE.RunsTo.block' (by kernel_rfl) (CE.RunsTo.seq' (by kernel_rfl) t36 (CE.RunsTo.seq' (by kernel_rfl) t37 t38))) t39))) (CE.RunsL.next (CE.RunsTo.seq' (by kernel_rfl) t40 (CE.RunsTo.seq' (by kernel_rfl) t41 (CE.RunsTo.seq' (by kernel_rfl) (CE.RunsTo.block' (by kernel_rfl) (CE.RunsTo.seq' (by kernel_rfl) t42 (CE.RunsTo.seq' (by kernel_rfl) t43 t44))) t45))) (CE.RunsL.next (CE.RunsTo.seq' (by kernel_rfl) t46 (CE.RunsTo.seq' (by kernel_rfl) t47 (CE.RunsTo.seq' (by kernel_rfl) (CE.RunsTo.block' (by kernel_rfl) (CE.RunsTo.seq' (by kernel_rfl) t48 (CE.RunsTo.seq' (by kernel_rfl) t49 t50))) t51))) (CE.RunsL.next (CE.RunsTo.seq' (by kernel_rfl) t52 (CE.RunsTo.seq' (by kernel_rfl) t53 (CE.RunsTo.seq' (by kernel_rfl) (CE.RunsTo.block' (by kernel_rfl) (CE.RunsTo.seq' (by kernel_rfl) t54 (CE.RunsTo.seq' (by kernel_rfl) t55 t56))) t57))) (CE.RunsL.next (CE.RunsTo.seq' (by kernel_rfl) t58 (CE.RunsTo.seq' (by kernel_rfl) t59 (CE.RunsTo.seq' (by kernel_rfl) (CE.RunsTo.block' (by kernel_rfl) (CE.RunsTo.seq' (by kernel_rfl) t60 (CE.RunsTo.seq' (by kernel_rfl) t61 t62))) t63))) (CE.RunsL.next (CE.RunsTo.seq' (by kernel_rfl) t64 (CE.RunsTo.seq' (by kernel_rfl) t65 (CE.RunsTo.seq' (by kernel_rfl) (CE.RunsTo.block' (by kernel_rfl) (CE.RunsTo.seq' (by kernel_rfl) t66 (CE.RunsTo.seq' (by kernel_rfl) t67 t68))) t69))) (CE.RunsL.next (CE.RunsTo.seq' (by kernel_rfl) t70 (CE.RunsTo.seq' (by kernel_rfl) t71 (CE.RunsTo.seq' (by kernel_rfl) (CE.RunsTo.block' (by kernel_rfl) (CE.RunsTo.seq' (by kernel_rfl) t72 (CE.RunsTo.seq' (by kernel_rfl) t73 t74))) t75))) (CE.RunsL.next (CE.RunsTo.seq' (by kernel_rfl) t76 (CE.RunsTo.seq' (by kernel_rfl) t77 (CE.RunsTo.seq' (by kernel_rfl) (CE.RunsTo.block' (by kernel_rfl) (CE.RunsTo.seq' (by kernel_rfl) t78 (CE.RunsTo.seq' (by kernel_rfl) t79 t80))) t81))) (CE.RunsL.next (CE.RunsTo.seq' (by kernel_rfl) t82 (CE.RunsTo.seq' (by kernel_rfl) t83 (CE.RunsTo.seq' (by kernel_rfl) (CE.RunsTo.block' (by kernel_rfl) (CE.RunsTo.seq' (by kernel_rfl) t84 (CE.RunsTo.seq' (by kernel_rfl) t85 t86))) t87))) (CE.RunsL.next (CE.RunsTo.seq' (by kernel_rfl) t88 (CE.RunsTo.seq' (by kernel_rfl) t89 (CE.RunsTo.seq' (by kernel_rfl) (CE.RunsTo.block' (by kernel_rfl) (CE.RunsTo.seq' (by kernel_rfl) t90 (CE.RunsTo.seq' (by kernel_rfl) t91 t92))) t93))) (CE.RunsL.next (CE.RunsTo.seq' (by kernel_rfl) t94 (CE.RunsTo.seq' (by kernel_rfl) t95 (CE.RunsTo.seq' (by kernel_rfl) (CE.RunsTo.block' (by kernel_rfl) (CE.RunsTo.seq' (by kernel_rfl) t96 (CE.RunsTo.seq' (by kernel_rfl) t97 t98))) t99))) (CE.RunsL.next (CE.RunsTo.seq' (by kernel_rfl) t100 (CE.RunsTo.seq' (by kernel_rfl) t101 (CE.RunsTo.seq' (by kernel_rfl) (CE.RunsTo.block' (by kernel_rfl) (CE.RunsTo.seq' (by kernel_rfl) t102 (CE.RunsTo.seq' (by kernel_rfl) t103 t104))) t105))) (CE.RunsL.next (CE.RunsTo.seq' (by kernel_rfl) t106 (CE.RunsTo.seq' (by kernel_rfl) t107 (CE.RunsTo.seq' (by kernel_rfl) (CE.RunsTo.block' (by kernel_rfl) (CE.RunsTo.seq' (by kernel_rfl) t108 (CE.RunsTo.seq' (by kernel_rfl) t109 t110))) t111))) (CE.RunsL.next (CE.RunsTo.seq' (by kernel_rfl) t112 (CE.RunsTo.seq' (by kernel_rfl) t113 (CE.RunsTo.seq' (by kernel_rfl) (CE.RunsTo.block' (by kernel_rfl) (CE.RunsTo.seq' (by kernel_rfl) t114 (CE.RunsTo.seq' (by kernel_rfl) t115 t116))) t117))) (CE.RunsL.next (CE.RunsTo.seq' (by kernel_rfl) t118 (CE.RunsTo.seq' (by kernel_rfl) t119 (CE.RunsTo.seq' (by kernel_rfl) (CE.RunsTo.block' (by kernel_rfl) (CE.RunsTo.seq' (by kernel_rfl) t120 (CE.RunsTo.seq' (by kernel_rfl) t121 t122))) t123))) (CE.RunsL.next (CE.RunsTo.seq' (by kernel_rfl) t124 (CE.RunsTo.seq' (by kernel_rfl) t125 (CE.RunsTo.seq' (by kernel_rfl) (CE.RunsTo.block' (by kernel_rfl) (CE.RunsTo.seq' (by kernel_rfl) t126 (CE.RunsTo.seq' (by kernel_rfl) t127 t128))) t129))) (CE.RunsL.next (CE.RunsTo.seq' (by kernel_rfl) t130 (CE.RunsTo.seq' (by kernel_rfl) t131 (CE.RunsTo.seq' (by kernel_rfl) (CE.RunsTo.block' (by kernel_rfl) (CE.RunsTo.seq' (by kernel_rfl) t132 (CE.RunsTo.seq' (by kernel_rfl) t133 t134))) t135))) (CE.RunsL.next (CE.RunsTo.seq' (by kernel_rfl) t136 (CE.RunsTo.seq' (by kernel_rfl) t137 (CE.RunsTo.seq' (by kernel_rfl) (CE.RunsTo.block' (by kernel_rfl) (CE.RunsTo.seq' (by kernel_rfl) t138 (CE.RunsTo.seq' (by kernel_rfl) t139 t140))) t141))) (CE.RunsL.next (CE.RunsTo.seq' (by kernel_rfl) t142 (CE.RunsTo.seq' (by kernel_rfl) t143 (CE.RunsTo.seq' (by kernel_rfl) (CE.RunsTo.block' (by kernel_rfl) (CE.RunsTo.seq' (by kernel_rfl) t144 (CE.RunsTo.seq' (by kernel_rfl) t145 t146))) t147))) (CE.RunsL.next (CE.RunsTo.seq' (by kernel_rfl) t148 (CE.RunsTo.seq' (by kernel_rfl) t149 (CE.RunsTo.seq' (by kernel_rfl) (CE.RunsTo.block' (by kernel_rfl) (CE.RunsTo.seq' (by kernel_rfl) t150 (CE.RunsTo.seq' (by kernel_rfl) t151 t152))) t153))) (CE.RunsL.next (CE.RunsTo.seq' (by kernel_rfl) t154 (CE.RunsTo.seq' (by kernel_rfl) t155 (CE.RunsTo.seq' (by kernel_rfl) (CE.RunsTo.block' (by kernel_rfl) (CE.RunsTo.seq' (by kernel_rfl) t156 (CE.RunsTo.seq' (by kernel_rfl) t157 t158))) t159))) (CE.RunsL.next (CE.RunsTo.seq' (by kernel_rfl) t160 (CE.RunsTo.seq' (by kernel_rfl) t161 (CE.RunsTo.seq' (by kernel_rfl) (CE.RunsTo.block' (by kernel_rfl) (CE.RunsTo.seq' (by kernel_rfl) t162 (CE.RunsTo.seq' (by kernel_rfl) t163 t164))) t165))) (CE.RunsL.next (CE.RunsTo.seq' (by kernel_rfl) t166 (CE.RunsTo.seq' (by kernel_rfl) t167 (CE.RunsTo.seq' (by kernel_rfl) (CE.RunsTo.block' (by kernel_rfl) (CE.RunsTo.seq' (by kernel_rfl) t168 (CE.RunsTo.seq' (by kernel_rfl) t169 t170))) t171))) (CE.RunsL.next (CE.RunsTo.seq' (by kernel_rfl) t172 (CE.RunsTo.seq' (by kernel_rfl) t173 (CE.RunsTo.seq' (by kernel_rfl) (CE.RunsTo.block' (by kernel_rfl) (CE.RunsTo.seq' (by kernel_rfl) t174 (CE.RunsTo.seq' (by kernel_rfl) t175 t176))) t177))) (CE.RunsL.next (CE.RunsTo.seq' (by kernel_rfl) t178 (CE.RunsTo.seq' (by kernel_rfl) t179 (CE.RunsTo.seq' (by kernel_rfl) (CE.RunsTo.block' (by kernel_rfl) (CE.RunsTo.seq' (by kernel_rfl) t180 (CE.RunsTo.seq' (by kernel_rfl) t181 t182))) t183))) (CE.RunsL.next (CE.RunsTo.seq' (by kernel_rfl) t184 (CE.RunsTo.seq' (by kernel_rfl) t185 (CE.RunsTo.seq' (by kernel_rfl) (CE.RunsTo.block' (by kernel_rfl) (CE.RunsTo.seq' (by kernel_rfl) t186 (CE.RunsTo.seq' (by kernel_rfl) t187 t188))) t189))) (CE.RunsL.next (CE.RunsTo.seq' (by kernel_rfl) t190 (CE.RunsTo.seq' (by kernel_rfl) t191 (CE.RunsTo.seq' (by kernel_rfl) (CE.RunsTo.block' (by kernel_rfl) (CE.RunsTo.seq' (by kernel_rfl) t192 (CE.RunsTo.seq' (by kernel_rfl) t193 t194))) t195))) (CE.RunsL.next (CE.RunsTo.seq' (by kernel_rfl) t196 (CE.RunsTo.seq' (by kernel_rfl) t197 (CE.RunsTo.seq' (by kernel_rfl) (CE.RunsTo.block' (by kernel_rfl) (CE.RunsTo.seq' (by kernel_rfl) t198 (CE.RunsTo.seq' (by kernel_rfl) t199 t200))) t201))) (CE.RunsL.next (CE.RunsTo.seq' (by kernel_rfl) t202 (CE.RunsTo.seq' (by kernel_rfl) t203 (CE.RunsTo.seq' (by kernel_rfl) (CE.RunsTo.block' (by kernel_rfl) (CE.RunsTo.seq' (by kernel_rfl) t204 (CE.RunsTo.seq' (by kernel_rfl) t205 t206))) t207))) (CE.RunsL.next (CE.RunsTo.seq' (by kernel_rfl) t208 (CE.RunsTo.seq' (by kernel_rfl) t209 (CE.RunsTo.seq' (by kernel_rfl) (CE.RunsTo.block' (by kernel_rfl) (CE.RunsTo.seq' (by kernel_rfl) t210 (CE.RunsTo.seq' (by kernel_rfl) t211 t212))) t213))) (CE.RunsL.stop' (by kernel_rfl) t214))))))))))))))))))))))))))))))))))))))) t215)))

def laidT : List (String × DataW Unit) := [("math/bits.deBruijn32tab", Rows.laid_math_bits_deBruijn32tab), ("math/bits.deBruijn64tab", Rows.laid_math_bits_deBruijn64tab), ("internal/strconv.uint64pow10", Rows.laid_internal_strconv_uint64pow10), ("bonsai/tree.least", Rows.laid_bonsai_tree_least), ("bonsai/tree.most", Rows.laid_bonsai_tree_most), ("bonsai/print.front", Rows.laid_bonsai_print_front), ("bonsai/print.between", Rows.laid_bonsai_print_between), ("bonsai/print.enclosed", Rows.laid_bonsai_print_enclosed), ("bonsai/print.signs", Rows.laid_bonsai_print_signs)]

theorem start : CE.Start Tryz.prog laidT s0 := ⟨by kernel_rfl, by kernel_rfl, by kernel_rfl, by kernel_rfl, by kernel_rfl⟩

theorem ended : CE.endB Tryz.prog 3 Tryz.f3 ⟨CE.lowN Tryz.prog 100000 400, 100000, none⟩ s216 = true := by kernel_rfl

theorem called (W : World) (hS : W.ShapedOpen Tryz.prog) (hL : laidMet Tryz.prog laidT W) : Calls Tryz.prog 3 #[] W fun e W' => e = .returned (.bool true) ∧ Below W.heap.size W W' :=
  CE.call_cut hS hL (by kernel_rfl) (.inr (by kernel_rfl)) (b := body) Tryz.func3 (by kernel_rfl) (by kernel_rfl) (.inr rfl) start runs ended

theorem door_met (os : Os) (args : Array Value) : laidMetH Tryz.prog laidT ((World.doorLaid Tryz.prog 60 os).forCall (fun _ _ => 0) ⟨#[], args, []⟩).memory :=
  laidMetH_of_parts3 (fuel := 8) (laidMet_of_run' 8 (by kernel_rfl) (by kernel_rfl)) (by kernel_rfl) (by kernel_rfl)

set_option maxRecDepth 100000 in
theorem lifted (os : Os) (started : os.Started) (H : Type) (enc : TypeId × Value → H) :
    ReturnsInHanded {} Tryz.checked os 3 .any (fun w args => (Rows.firstNamesSpec.pre enc Tryz.prog Tryz.f3 [] false w args ∧ laidMetH Tryz.prog laidT w) ∧ sizedMet enc Tryz.prog Tryz.f3 (OpenSpec.ofChange Rows.firstNamesSpec) false w args)
      (Rows.firstNamesSpec.post enc Tryz.prog Tryz.f3 false true false false) := by
  refine closed_lifted 3 Tryz.f3 Rows.firstNamesSpec laidT rfl Tryz.func3 (by kernel_rfl) (fun _ => rfl) rfl rfl (by kernel_rfl) called
    (ChangeSpec.witness_shaped (enc := enc) (C := Tryz.checked) (os := os) (X := fun w _ => laidMetH Tryz.prog laidT w) false (World.doorLaid Tryz.prog 60 os) #[] 8 rfl (door_shaped os) (by kernel_rfl) (by kernel_rfl) (by kernel_rfl) (door_met os _)) started

theorem in_place : (Rows.firstNamesRow.inPlace == Tryz.prog.inPlace 3) = true := by kernel_rfl
theorem unfollowed : (Rows.firstNamesRow.unfollowed == Tryz.prog.unfollowed 3) = true := by kernel_rfl
theorem recurses : (Rows.firstNamesRow.recurses == Tryz.prog.recurses 3) = true := by kernel_rfl
theorem names_vars : (Rows.firstNamesRow.named == Tryz.prog.varsNamed 3) = true := by kernel_rfl

theorem closed : joinedFacts Tryz.prog 3 Tryz.f3 Rows.firstNamesSpec Rows.firstNamesRow = true := by
  unfold joinedFacts
  rw [in_place, unfollowed, recurses, names_vars]
  kernel_rfl

theorem row_holds : Rows.FirstNamesSaid :=
  OpenClaim.holds_of_wide 3 Tryz.f3 rfl rfl rfl rfl rfl rfl rfl ⟨rfl, rfl, rfl, rfl, rfl⟩ rfl rfl rfl rfl rfl (by kernel_rfl) Tryz.func3 closed
    (of_decide_eq_true (by kernel_rfl)) (by unfold Func.isWrapper; first | (rw [if_pos (by decide +kernel)]; kernel_rfl) | (rw [if_neg (by decide +kernel)]; exact ⟨rfl, rfl⟩))
    (fun os started H enc _ => lifted os started H enc)

theorem by_text : Rows.firstNamesRow.wfByText (OpenSpec.ofChange Rows.firstNamesSpec) = true := by kernel_rfl
theorem main_is : Tryz.prog.mainIs = some (Rows.firstNamesCard.stood.harness.1, Rows.firstNamesCard.stood.harness.2.toList) := by kernel_rfl
theorem no_looks : false = Tryz.prog.looks [] := by kernel_rfl
theorem no_goes : false = Rows.firstNamesRow.goesBy Tryz.prog := by kernel_rfl

theorem proved : Rows.FirstNamesCardSaid :=
  Claim7.holds_tied_plain_at .later [] [.data, .data, .data, .data, .data, .data, .data, .data, .data] true Rows.firstNamesCard.stood.harness false
    row_holds (fun _ h => by cases h) by_text (fun _ h => by cases h) firstNames_row_tie rfl ⟨rfl, rfl⟩ main_is rfl
    (fun f fn hf hfn => by
      obtain rfl : f = 3 := Option.some.inj ((show Tryz.prog.funcNamed "bonsai/bonsailaw11.FirstNames" = some 3 by kernel_rfl).symm.trans hf) |>.symm
      obtain rfl : fn = Tryz.f3 := (Option.some.inj (Tryz.func3.symm.trans hfn)).symm
      exact ⟨no_looks, fun j t ht => by
        rw [Tryz.params3] at ht
        simp at ht⟩)
    no_goes
end Go.Proofs.YtnbfpalcaibcfaaGreatDoor.firstNames
