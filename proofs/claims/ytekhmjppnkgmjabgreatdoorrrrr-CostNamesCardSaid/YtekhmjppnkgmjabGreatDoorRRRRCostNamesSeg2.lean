/- CostNames: what the kernel works out, in segments. -/
import Derived.Test.YtekhmjppnkgmjabGreatDoorRRRRCostNamesSnap0
import Derived.KernelRfl
namespace Go.Proofs.YtekhmjppnkgmjabGreatDoorRRRR.costNames
open Go

set_option maxRecDepth 1000000 in
theorem t8 : CE.RunsTo Tryz.prog 125 3 (CE.cA (CE.cA (CE.cB (CE.cA (CE.cB (CE.cB body)))))) s8 .norm s9 :=
  CE.RunsTo.seg (cx := cx) (CE.den_ok _) (CE.lowN_ok (CE.den_ok _) 100000 400) rfl (by kernel_rfl)

set_option maxRecDepth 1000000 in
theorem t9 : CE.RunsTo Tryz.prog 125 3 (CE.cA (CE.cA (CE.cB (CE.cA (CE.cB (CE.cB body)))))) s9 .norm s10 :=
  CE.RunsTo.seg (cx := cx) (CE.den_ok _) (CE.lowN_ok (CE.den_ok _) 100000 400) rfl (by kernel_rfl)

set_option maxRecDepth 1000000 in
theorem t10 : CE.RunsTo Tryz.prog 125 3 (CE.cA (CE.cA (CE.cB (CE.cA (CE.cB (CE.cB body)))))) s10 .norm s11 :=
  CE.RunsTo.seg (cx := cx) (CE.den_ok _) (CE.lowN_ok (CE.den_ok _) 100000 400) rfl (by kernel_rfl)

set_option maxRecDepth 1000000 in
theorem t11 : CE.RunsTo Tryz.prog 125 3 (CE.cA (CE.cA (CE.cB (CE.cA (CE.cB (CE.cB body)))))) s11 .norm s12 :=
  CE.RunsTo.seg (cx := cx) (CE.den_ok _) (CE.lowN_ok (CE.den_ok _) 100000 400) rfl (by kernel_rfl)

end Go.Proofs.YtekhmjppnkgmjabGreatDoorRRRR.costNames
