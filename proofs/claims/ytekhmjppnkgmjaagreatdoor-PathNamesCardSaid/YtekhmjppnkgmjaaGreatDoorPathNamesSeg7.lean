/- PathNames: what the kernel works out, in segments. -/
import Derived.Test.YtekhmjppnkgmjaaGreatDoorPathNamesSnap0
import Derived.KernelRfl
namespace Go.Proofs.YtekhmjppnkgmjaaGreatDoor.pathNames
open Go

set_option maxRecDepth 1000000 in
theorem t28 : CE.RunsTo Tryz.prog 331 3 (CE.cA (CE.cA (CE.cB (CE.cA (CE.cB (CE.cB (CE.cB (CE.cB (CE.cB (CE.cB (CE.cB (CE.cB (CE.cB body))))))))))))) s28 .norm s29 :=
  CE.RunsTo.seg (cx := cx) (CE.den_ok _) (CE.lowN_ok (CE.den_ok _) 100000 400) rfl (by kernel_rfl)

set_option maxRecDepth 1000000 in
theorem t29 : CE.RunsTo Tryz.prog 331 3 (CE.cA (CE.cA (CE.cB (CE.cA (CE.cB (CE.cB (CE.cB (CE.cB (CE.cB (CE.cB (CE.cB (CE.cB (CE.cB body))))))))))))) s29 .norm s30 :=
  CE.RunsTo.seg (cx := cx) (CE.den_ok _) (CE.lowN_ok (CE.den_ok _) 100000 400) rfl (by kernel_rfl)

set_option maxRecDepth 1000000 in
theorem t30 : CE.RunsTo Tryz.prog 331 3 (CE.cA (CE.cA (CE.cB (CE.cA (CE.cB (CE.cB (CE.cB (CE.cB (CE.cB (CE.cB (CE.cB (CE.cB (CE.cB body))))))))))))) s30 .norm s31 :=
  CE.RunsTo.seg (cx := cx) (CE.den_ok _) (CE.lowN_ok (CE.den_ok _) 100000 400) rfl (by kernel_rfl)

set_option maxRecDepth 1000000 in
theorem t31 : CE.RunsTo Tryz.prog 331 3 (CE.cA (CE.cA (CE.cB (CE.cA (CE.cB (CE.cB (CE.cB (CE.cB (CE.cB (CE.cB (CE.cB (CE.cB (CE.cB body))))))))))))) s31 .norm s32 :=
  CE.RunsTo.seg (cx := cx) (CE.den_ok _) (CE.lowN_ok (CE.den_ok _) 100000 400) rfl (by kernel_rfl)

end Go.Proofs.YtekhmjppnkgmjaaGreatDoor.pathNames
