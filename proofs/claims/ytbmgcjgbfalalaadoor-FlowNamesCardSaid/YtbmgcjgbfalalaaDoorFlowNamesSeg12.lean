/- FlowNames: what the kernel works out, in segments. -/
import Derived.Test.YtbmgcjgbfalalaaDoorFlowNamesSnap0
import Derived.KernelRfl
namespace Go.Proofs.YtbmgcjgbfalalaaDoor.flowNames
open Go

set_option maxRecDepth 1000000 in
theorem t12 : CE.RunsTo Tryd.prog 325 3 (CE.cA (CE.cA (CE.cB (CE.cA (CE.cB (CE.cB (CE.cB (CE.cB (CE.cB (CE.cB body)))))))))) s12 .norm s13 :=
  CE.RunsTo.seg (cx := cx) (CE.den_ok _) (CE.lowN_ok (CE.den_ok _) 100000 400) rfl (by kernel_rfl)

end Go.Proofs.YtbmgcjgbfalalaaDoor.flowNames
