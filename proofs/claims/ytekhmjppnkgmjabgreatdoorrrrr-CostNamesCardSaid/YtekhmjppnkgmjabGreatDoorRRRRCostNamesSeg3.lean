/- CostNames: what the kernel works out, in segments. -/
import Derived.Test.YtekhmjppnkgmjabGreatDoorRRRRCostNamesSnap0
import Derived.KernelRfl
namespace Go.Proofs.YtekhmjppnkgmjabGreatDoorRRRR.costNames
open Go

set_option maxRecDepth 1000000 in
theorem t12 : CE.RunsTo Tryz.prog 125 3 (CE.cA (CE.cA (CE.cB (CE.cA (CE.cB (CE.cB body)))))) s12 .norm s13 :=
  CE.RunsTo.seg (cx := cx) (CE.den_ok _) (CE.lowN_ok (CE.den_ok _) 100000 400) rfl (by kernel_rfl)

set_option maxRecDepth 1000000 in
theorem t13 : CE.RunsTo Tryz.prog 125 3 (CE.cA (CE.cA (CE.cB (CE.cA (CE.cB (CE.cB body)))))) s13 (.exit 0) s14 :=
  CE.RunsTo.seg (cx := cx) (CE.den_ok _) (CE.lowN_ok (CE.den_ok _) 100000 400) rfl (by kernel_rfl)

set_option maxRecDepth 1000000 in
theorem t14 : CE.RunsTo Tryz.prog 125 3 (CE.cA (CE.cA (CE.cB (CE.cB (CE.cB body))))) s14 .norm s15 :=
  CE.RunsTo.seg (cx := cx) (CE.den_ok _) (CE.lowN_ok (CE.den_ok _) 100000 400) rfl (by kernel_rfl)

set_option maxRecDepth 1000000 in
theorem t15 : CE.RunsTo Tryz.prog 125 3 (CE.cA (CE.cA (CE.cB (CE.cA (CE.cB (CE.cB (CE.cB body))))))) s15 .norm s16 :=
  CE.RunsTo.seg (cx := cx) (CE.den_ok _) (CE.lowN_ok (CE.den_ok _) 100000 400) rfl (by kernel_rfl)

end Go.Proofs.YtekhmjppnkgmjabGreatDoorRRRR.costNames
