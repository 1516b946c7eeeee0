/- FlowNames: the statement answers yes; it has no input. The kernel works the program out over plain data, segment by segment, and what it works out is what the model does (the texts Ce..). The listed variables lie as their own initialisers lay them. -/
import Derived.Test.YtbmgcjgbfalalaaDoorCards
import Derived.Test.YtbmgcjgbfalalaaDoorCeCl
import Derived.Test.YtbmgcjgbfalalaaDoorCeCA
import Derived.Test.YtbmgcjgbfalalaaDoorFlowNamesSeg0
import Derived.Test.YtbmgcjgbfalalaaDoorFlowNamesSeg1
import Derived.Test.YtbmgcjgbfalalaaDoorFlowNamesSeg2
import Derived.Test.YtbmgcjgbfalalaaDoorFlowNamesSeg3
import Derived.Test.YtbmgcjgbfalalaaDoorFlowNamesSeg4
import Derived.Test.YtbmgcjgbfalalaaDoorFlowNamesSeg5
import Derived.Test.YtbmgcjgbfalalaaDoorFlowNamesSeg6
import Derived.Test.YtbmgcjgbfalalaaDoorFlowNamesSeg7
import Derived.Test.YtbmgcjgbfalalaaDoorFlowNamesSeg8
import Derived.Test.YtbmgcjgbfalalaaDoorFlowNamesSeg9
import Derived.Test.YtbmgcjgbfalalaaDoorFlowNamesSeg10
import Derived.Test.YtbmgcjgbfalalaaDoorFlowNamesSeg11
import Derived.Test.YtbmgcjgbfalalaaDoorFlowNamesSeg12
import Derived.Test.YtbmgcjgbfalalaaDoorFlowNamesSeg13
import Derived.Test.YtbmgcjgbfalalaaDoorFlowNamesSeg14
import Derived.SevenTiedAt
namespace Go.Proofs.YtbmgcjgbfalalaaDoor.flowNames
open Go Go.ChangeShapes Go.WideShapes Go.ChangeAt Go.RowKit

set_option maxRecDepth 1000000 in
theorem runs : CE.RunsTo Tryd.prog 325 3 body s0 .ret s15 :=
  (CE.RunsTo.seq' (by kernel_rfl) t0 (CE.RunsTo.seq' (by kernel_rfl) t1 (CE.RunsTo.seq' (by kernel_rfl) t2 (CE.RunsTo.seq' (by kernel_rfl) t3 (CE.RunsTo.seq' (by kernel_rfl) t4 (CE.RunsTo.seq' (by kernel_rfl) t5 (CE.RunsTo.seq' (by kernel_rfl) (CE.RunsTo.seq' (by kernel_rfl) t6 (CE.RunsTo.block' (by kernel_rfl) (CE.RunsTo.loop' 7 (by kernel_rfl) (CE.RunsL.next t7 (CE.RunsL.next t8 (CE.RunsL.next t9 (CE.RunsL.next t10 (CE.RunsL.next t11 (CE.RunsL.next t12 (CE.RunsL.stop' (by kernel_rfl) t13)))))))))) t14)))))))

def laidT : List (String × DataW Unit) := [("math/bits.deBruijn32tab", Rows.laid_math_bits_deBruijn32tab), ("math/bits.deBruijn64tab", Rows.laid_math_bits_deBruijn64tab), ("internal/strconv.uint64pow10", Rows.laid_internal_strconv_uint64pow10), ("bonsai/tree.least", Rows.laid_bonsai_tree_least), ("bonsai/tree.most", Rows.laid_bonsai_tree_most), ("bonsai/print.front", Rows.laid_bonsai_print_front), ("bonsai/print.between", Rows.laid_bonsai_print_between), ("bonsai/print.enclosed", Rows.laid_bonsai_print_enclosed), ("bonsai/print.signs", Rows.laid_bonsai_print_signs)]

theorem start : CE.Start Tryd.prog laidT s0 := ⟨by kernel_rfl, by kernel_rfl, by kernel_rfl, by kernel_rfl, by kernel_rfl⟩

theorem ended : CE.endB Tryd.prog 3 Tryd.f11 ⟨CE.lowN Tryd.prog 100000 400, 100000, none⟩ s15 = true := by kernel_rfl

theorem called (W : World) (hS : W.ShapedOpen Tryd.prog) (hL : laidMet Tryd.prog laidT W) : Calls Tryd.prog 11 #[] W fun e W' => e = .returned (.bool true) ∧ Below W.heap.size W W' :=
  CE.call_cut hS hL (by kernel_rfl) (.inr (by kernel_rfl)) (b := body) Tryd.func11 (by kernel_rfl) (by kernel_rfl) (.inr rfl) start runs ended

theorem door_met (os : Os) (args : Array Value) : laidMetH Tryd.prog laidT ((World.doorLaid Tryd.prog 60 os).forCall (fun _ _ => 0) ⟨#[], args, []⟩).memory :=
  laidMetH_of_parts3 (fuel := 8) (laidMet_of_run' 8 (by kernel_rfl) (by kernel_rfl)) (by kernel_rfl) (by kernel_rfl)

set_option maxRecDepth 100000 in
theorem lifted (os : Os) (started : os.Started) (H : Type) (enc : TypeId × Value → H) :
    ReturnsInHanded {} Tryd.checked os 11 .any (fun w args => (Rows.flowNamesSpec.pre enc Tryd.prog Tryd.f11 [] false w args ∧ laidMetH Tryd.prog laidT w) ∧ sizedMet enc Tryd.prog Tryd.f11 (OpenSpec.ofChange Rows.flowNamesSpec) false w args)
      (Rows.flowNamesSpec.post enc Tryd.prog Tryd.f11 false true false false) := by
  refine closed_lifted 11 Tryd.f11 Rows.flowNamesSpec laidT rfl Tryd.func11 (by kernel_rfl) (fun _ => rfl) rfl rfl (by kernel_rfl) called
    (ChangeSpec.witness_shaped (enc := enc) (C := Tryd.checked) (os := os) (X := fun w _ => laidMetH Tryd.prog laidT w) false (World.doorLaid Tryd.prog 60 os) #[] 8 rfl (door_shaped os) (by kernel_rfl) (by kernel_rfl) (by kernel_rfl) (door_met os _)) started

theorem row_holds : Rows.FlowNamesSaid :=
  OpenClaim.holds_of_wide 11 Tryd.f11 rfl rfl rfl rfl rfl rfl rfl ⟨rfl, rfl, rfl, rfl, rfl⟩ rfl rfl rfl rfl rfl (by kernel_rfl) Tryd.func11 (by kernel_rfl)
    (of_decide_eq_true (by kernel_rfl)) (by unfold Func.isWrapper; first | (rw [if_pos (by decide +kernel)]; kernel_rfl) | (rw [if_neg (by decide +kernel)]; exact ⟨rfl, rfl⟩))
    (fun os started H enc _ => lifted os started H enc)

theorem proved : Rows.FlowNamesCardSaid :=
  Claim7.holds_tied_plain_at .later [] [.data, .data, .data, .data, .data, .data, .data, .data, .data] true Rows.flowNamesCard.stood.harness false
    row_holds (fun _ h => by cases h) (by kernel_rfl) (fun _ h => by cases h) flowNames_row_tie rfl ⟨rfl, rfl⟩ (by kernel_rfl) rfl
    (fun f fn hf hfn => by
      obtain rfl : f = 11 := Option.some.inj ((show Tryd.prog.funcNamed "bonsai/bonsailaw10.FlowNames" = some 11 by kernel_rfl).symm.trans hf) |>.symm
      obtain rfl : fn = Tryd.f11 := (Option.some.inj (Tryd.func11.symm.trans hfn)).symm
      exact ⟨by kernel_rfl, fun j t ht => by
        rw [Tryd.params11] at ht
        simp at ht⟩)
    (by kernel_rfl)
end Go.Proofs.YtbmgcjgbfalalaaDoor.flowNames
