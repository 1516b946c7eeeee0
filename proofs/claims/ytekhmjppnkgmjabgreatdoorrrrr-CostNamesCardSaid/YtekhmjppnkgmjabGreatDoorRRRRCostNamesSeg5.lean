/- CostNames: what the kernel works out, in segments. -/
import Derived.Test.YtekhmjppnkgmjabGreatDoorRRRRCostNamesSnap0
import Derived.KernelRfl
namespace Go.Proofs.YtekhmjppnkgmjabGreatDoorRRRR.costNames
open Go

set_option maxRecDepth 1000000 in
theorem t20 : CE.RunsTo Tryz.prog 125 3 (CE.cA (CE.cA (CE.cB (CE.cA (CE.cB (CE.cB (CE.cB body))))))) s20 .norm s21 :=
  CE.RunsTo.seg (cx := cx) (CE.den_ok _) (CE.lowN_ok (CE.den_ok _) 100000 400) rfl (by kernel_rfl)

set_option maxRecDepth 1000000 in
theorem t21 : CE.RunsTo Tryz.prog 125 3 (CE.cA (CE.cA (CE.cB (CE.cA (CE.cB (CE.cB (CE.cB body))))))) s21 .norm s22 :=
  CE.RunsTo.seg (cx := cx) (CE.den_ok _) (CE.lowN_ok (CE.den_ok _) 100000 400) rfl (by kernel_rfl)

set_option maxRecDepth 1000000 in
theorem t22 : CE.RunsTo Tryz.prog 125 3 (CE.cA (CE.cA (CE.cB (CE.cA (CE.cB (CE.cB (CE.cB body))))))) s22 .norm s23 :=
  CE.RunsTo.seg (cx := cx) (CE.den_ok _) (CE.lowN_ok (CE.den_ok _) 100000 400) rfl (by kernel_rfl)

set_option maxRecDepth 1000000 in
theorem t23 : CE.RunsTo Tryz.prog 125 3 (CE.cA (CE.cA (CE.cB (CE.cA (CE.cB (CE.cB (CE.cB body))))))) s23 .norm s24 :=
  CE.RunsTo.seg (cx := cx) (CE.den_ok _) (CE.lowN_ok (CE.den_ok _) 100000 400) rfl (by kernel_rfl)

end Go.Proofs.YtekhmjppnkgmjabGreatDoorRRRR.costNames
