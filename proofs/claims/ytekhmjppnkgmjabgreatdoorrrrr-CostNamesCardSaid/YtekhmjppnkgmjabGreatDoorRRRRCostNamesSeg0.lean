/- CostNames: what the kernel works out, in segments. -/
import Derived.Test.YtekhmjppnkgmjabGreatDoorRRRRCostNamesSnap0
import Derived.KernelRfl
namespace Go.Proofs.YtekhmjppnkgmjabGreatDoorRRRR.costNames
open Go

set_option maxRecDepth 1000000 in
theorem t0 : CE.RunsTo Tryz.prog 125 3 (CE.cA body) s0 .norm s1 :=
  CE.RunsTo.seg (cx := cx) (CE.den_ok _) (CE.lowN_ok (CE.den_ok _) 100000 400) rfl (by kernel_rfl)

set_option maxRecDepth 1000000 in
theorem t1 : CE.RunsTo Tryz.prog 125 3 (CE.cA (CE.cB body)) s1 .norm s2 :=
  CE.RunsTo.seg (cx := cx) (CE.den_ok _) (CE.lowN_ok (CE.den_ok _) 100000 400) rfl (by kernel_rfl)

set_option maxRecDepth 1000000 in
theorem t2 : CE.RunsTo Tryz.prog 125 3 (CE.cA (CE.cA (CE.cB (CE.cB body)))) s2 .norm s3 :=
  CE.RunsTo.seg (cx := cx) (CE.den_ok _) (CE.lowN_ok (CE.den_ok _) 100000 400) rfl (by kernel_rfl)

set_option maxRecDepth 1000000 in
theorem t3 : CE.RunsTo Tryz.prog 125 3 (CE.cA (CE.cA (CE.cB (CE.cA (CE.cB (CE.cB body)))))) s3 .norm s4 :=
  CE.RunsTo.seg (cx := cx) (CE.den_ok _) (CE.lowN_ok (CE.den_ok _) 100000 400) rfl (by kernel_rfl)

end Go.Proofs.YtekhmjppnkgmjabGreatDoorRRRR.costNames
