/- CostNames: what the kernel works out, in segments. -/
import Derived.Test.YtekhmjppnkgmjabGreatDoorRRRRCostNamesSnap0
import Derived.KernelRfl
namespace Go.Proofs.YtekhmjppnkgmjabGreatDoorRRRR.costNames
open Go

set_option maxRecDepth 1000000 in
theorem t24 : CE.RunsTo Tryz.prog 125 3 (CE.cA (CE.cA (CE.cB (CE.cA (CE.cB (CE.cB (CE.cB body))))))) s24 (.exit 2) s25 :=
  CE.RunsTo.seg (cx := cx) (CE.den_ok _) (CE.lowN_ok (CE.den_ok _) 100000 400) rfl (by kernel_rfl)

set_option maxRecDepth 1000000 in
theorem t25 : CE.RunsTo Tryz.prog 125 3 (CE.cB (CE.cB (CE.cB (CE.cB body)))) s25 .ret s26 :=
  CE.RunsTo.seg (cx := cx) (CE.den_ok _) (CE.lowN_ok (CE.den_ok _) 100000 400) rfl (by kernel_rfl)

end Go.Proofs.YtekhmjppnkgmjabGreatDoorRRRR.costNames
