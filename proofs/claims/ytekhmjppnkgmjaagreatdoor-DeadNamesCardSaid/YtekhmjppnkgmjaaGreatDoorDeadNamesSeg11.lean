/- DeadNames: what the kernel works out, in segments. -/
import Derived.Test.YtekhmjppnkgmjaaGreatDoorDeadNamesSnap0
import Derived.KernelRfl
namespace Go.Proofs.YtekhmjppnkgmjaaGreatDoor.deadNames
open Go

set_option maxRecDepth 1000000 in
theorem t110 : CE.RunsTo Tryz.prog 347 3 (CE.cA (CE.cB (CE.cA (CE.cA (CE.cB (CE.cA (CE.cB (CE.cB (CE.cB (CE.cB (CE.cB (CE.cB body)))))))))))) s110 .norm s111 :=
  CE.RunsTo.seg (cx := cx) (CE.den_ok _) (CE.lowN_ok (CE.den_ok _) 100000 400) rfl (by kernel_rfl)

set_option maxRecDepth 1000000 in
theorem t111 : CE.RunsTo Tryz.prog 347 3 (CE.cA (CE.cA (CE.cA (CE.cB (CE.cB (CE.cA (CE.cA (CE.cB (CE.cA (CE.cB (CE.cB (CE.cB (CE.cB (CE.cB (CE.cB body))))))))))))))) s111 .norm s112 :=
  CE.RunsTo.seg (cx := cx) (CE.den_ok _) (CE.lowN_ok (CE.den_ok _) 100000 400) rfl (by kernel_rfl)

set_option maxRecDepth 1000000 in
theorem t112 : CE.RunsTo Tryz.prog 347 3 (CE.cA (CE.cB (CE.cA (CE.cA (CE.cB (CE.cB (CE.cA (CE.cA (CE.cB (CE.cA (CE.cB (CE.cB (CE.cB (CE.cB (CE.cB (CE.cB body)))))))))))))))) s112 .norm s113 :=
  CE.RunsTo.seg (cx := cx) (CE.den_ok _) (CE.lowN_ok (CE.den_ok _) 100000 400) rfl (by kernel_rfl)

set_option maxRecDepth 1000000 in
theorem t113 : CE.RunsTo Tryz.prog 347 3 (CE.cB (CE.cB (CE.cA (CE.cA (CE.cB (CE.cB (CE.cA (CE.cA (CE.cB (CE.cA (CE.cB (CE.cB (CE.cB (CE.cB (CE.cB (CE.cB body)))))))))))))))) s113 .norm s114 :=
  CE.RunsTo.seg (cx := cx) (CE.den_ok _) (CE.lowN_ok (CE.den_ok _) 100000 400) rfl (by kernel_rfl)

set_option maxRecDepth 1000000 in
theorem t114 : CE.RunsTo Tryz.prog 347 3 (CE.cB (CE.cB (CE.cB (CE.cA (CE.cA (CE.cB (CE.cA (CE.cB (CE.cB (CE.cB (CE.cB (CE.cB (CE.cB body))))))))))))) s114 .norm s115 :=
  CE.RunsTo.seg (cx := cx) (CE.den_ok _) (CE.lowN_ok (CE.den_ok _) 100000 400) rfl (by kernel_rfl)

set_option maxRecDepth 1000000 in
theorem t115 : CE.RunsTo Tryz.prog 347 3 (CE.cA (CE.cA (CE.cB (CE.cA (CE.cB (CE.cB (CE.cB (CE.cB (CE.cB (CE.cB body)))))))))) s115 (.exit 0) s116 :=
  CE.RunsTo.seg (cx := cx) (CE.den_ok _) (CE.lowN_ok (CE.den_ok _) 100000 400) rfl (by kernel_rfl)

set_option maxRecDepth 1000000 in
theorem t116 : CE.RunsTo Tryz.prog 347 3 (CE.cA (CE.cB (CE.cB (CE.cB (CE.cB (CE.cB (CE.cB (CE.cB body)))))))) s116 .norm s117 :=
  CE.RunsTo.seg (cx := cx) (CE.den_ok _) (CE.lowN_ok (CE.den_ok _) 100000 400) rfl (by kernel_rfl)

set_option maxRecDepth 1000000 in
theorem t117 : CE.RunsTo Tryz.prog 347 3 (CE.cA (CE.cB (CE.cB (CE.cB (CE.cB (CE.cB (CE.cB (CE.cB (CE.cB body))))))))) s117 .norm s118 :=
  CE.RunsTo.seg (cx := cx) (CE.den_ok _) (CE.lowN_ok (CE.den_ok _) 100000 400) rfl (by kernel_rfl)

set_option maxRecDepth 1000000 in
theorem t118 : CE.RunsTo Tryz.prog 347 3 (CE.cA (CE.cB (CE.cB (CE.cB (CE.cB (CE.cB (CE.cB (CE.cB (CE.cB (CE.cB body)))))))))) s118 .norm s119 :=
  CE.RunsTo.seg (cx := cx) (CE.den_ok _) (CE.lowN_ok (CE.den_ok _) 100000 400) rfl (by kernel_rfl)

set_option maxRecDepth 1000000 in
theorem t119 : CE.RunsTo Tryz.prog 347 3 (CE.cA (CE.cB (CE.cB (CE.cB (CE.cB (CE.cB (CE.cB (CE.cB (CE.cB (CE.cB (CE.cB body))))))))))) s119 .norm s120 :=
  CE.RunsTo.seg (cx := cx) (CE.den_ok _) (CE.lowN_ok (CE.den_ok _) 100000 400) rfl (by kernel_rfl)

end Go.Proofs.YtekhmjppnkgmjaaGreatDoor.deadNames
