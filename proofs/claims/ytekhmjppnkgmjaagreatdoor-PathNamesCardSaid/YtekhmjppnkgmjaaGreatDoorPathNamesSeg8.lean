/- PathNames: what the kernel works out, in segments. -/
import Derived.Test.YtekhmjppnkgmjaaGreatDoorPathNamesSnap0
import Derived.KernelRfl
namespace Go.Proofs.YtekhmjppnkgmjaaGreatDoor.pathNames
open Go

set_option maxRecDepth 1000000 in
theorem t32 : CE.RunsTo Tryz.prog 331 3 (CE.cA (CE.cA (CE.cB (CE.cA (CE.cB (CE.cB (CE.cB (CE.cB (CE.cB (CE.cB (CE.cB (CE.cB (CE.cB body))))))))))))) s32 .norm s33 :=
  CE.RunsTo.seg (cx := cx) (CE.den_ok _) (CE.lowN_ok (CE.den_ok _) 100000 400) rfl (by kernel_rfl)

set_option maxRecDepth 1000000 in
theorem t33 : CE.RunsTo Tryz.prog 331 3 (CE.cA (CE.cA (CE.cB (CE.cA (CE.cB (CE.cB (CE.cB (CE.cB (CE.cB (CE.cB (CE.cB (CE.cB (CE.cB body))))))))))))) s33 (.exit 4) s34 :=
  CE.RunsTo.seg (cx := cx) (CE.den_ok _) (CE.lowN_ok (CE.den_ok _) 100000 400) rfl (by kernel_rfl)

set_option maxRecDepth 1000000 in
theorem t34 : CE.RunsTo Tryz.prog 331 3 (CE.cB (CE.cB (CE.cB (CE.cB (CE.cB (CE.cB (CE.cB (CE.cB (CE.cB (CE.cB body)))))))))) s34 .ret s35 :=
  CE.RunsTo.seg (cx := cx) (CE.den_ok _) (CE.lowN_ok (CE.den_ok _) 100000 400) rfl (by kernel_rfl)

end Go.Proofs.YtekhmjppnkgmjaaGreatDoor.pathNames
