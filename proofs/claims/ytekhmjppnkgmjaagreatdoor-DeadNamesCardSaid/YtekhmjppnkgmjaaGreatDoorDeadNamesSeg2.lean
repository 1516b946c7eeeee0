/- DeadNames: what the kernel works out, in segments. -/
import Derived.Test.YtekhmjppnkgmjaaGreatDoorDeadNamesSnap0
import Derived.KernelRfl
namespace Go.Proofs.YtekhmjppnkgmjaaGreatDoor.deadNames
open Go

set_option maxRecDepth 1000000 in
theorem t20 : CE.RunsTo Tryz.prog 347 3 (CE.cA (CE.cB (CE.cA (CE.cA (CE.cB (CE.cA (CE.cB (CE.cB (CE.cB (CE.cB (CE.cB (CE.cB body)))))))))))) s20 .norm s21 :=
  CE.RunsTo.seg (cx := cx) (CE.den_ok _) (CE.lowN_ok (CE.den_ok _) 100000 400) rfl (by kernel_rfl)

set_option maxRecDepth 1000000 in
theorem t21 : CE.RunsTo Tryz.prog 347 3 (CE.cA (CE.cA (CE.cA (CE.cB (CE.cB (CE.cA (CE.cA (CE.cB (CE.cA (CE.cB (CE.cB (CE.cB (CE.cB (CE.cB (CE.cB body))))))))))))))) s21 .norm s22 :=
  CE.RunsTo.seg (cx := cx) (CE.den_ok _) (CE.lowN_ok (CE.den_ok _) 100000 400) rfl (by kernel_rfl)

set_option maxRecDepth 1000000 in
theorem t22 : CE.RunsTo Tryz.prog 347 3 (CE.cA (CE.cB (CE.cA (CE.cA (CE.cB (CE.cB (CE.cA (CE.cA (CE.cB (CE.cA (CE.cB (CE.cB (CE.cB (CE.cB (CE.cB (CE.cB body)))))))))))))))) s22 .norm s23 :=
  CE.RunsTo.seg (cx := cx) (CE.den_ok _) (CE.lowN_ok (CE.den_ok _) 100000 400) rfl (by kernel_rfl)

set_option maxRecDepth 1000000 in
theorem t23 : CE.RunsTo Tryz.prog 347 3 (CE.cB (CE.cB (CE.cA (CE.cA (CE.cB (CE.cB (CE.cA (CE.cA (CE.cB (CE.cA (CE.cB (CE.cB (CE.cB (CE.cB (CE.cB (CE.cB body)))))))))))))))) s23 .norm s24 :=
  CE.RunsTo.seg (cx := cx) (CE.den_ok _) (CE.lowN_ok (CE.den_ok _) 100000 400) rfl (by kernel_rfl)

set_option maxRecDepth 1000000 in
theorem t24 : CE.RunsTo Tryz.prog 347 3 (CE.cB (CE.cB (CE.cB (CE.cA (CE.cA (CE.cB (CE.cA (CE.cB (CE.cB (CE.cB (CE.cB (CE.cB (CE.cB body))))))))))))) s24 .norm s25 :=
  CE.RunsTo.seg (cx := cx) (CE.den_ok _) (CE.lowN_ok (CE.den_ok _) 100000 400) rfl (by kernel_rfl)

set_option maxRecDepth 1000000 in
theorem t25 : CE.RunsTo Tryz.prog 347 3 (CE.cA (CE.cA (CE.cA (CE.cB (CE.cA (CE.cB (CE.cB (CE.cB (CE.cB (CE.cB (CE.cB body))))))))))) s25 .norm s26 :=
  CE.RunsTo.seg (cx := cx) (CE.den_ok _) (CE.lowN_ok (CE.den_ok _) 100000 400) rfl (by kernel_rfl)

set_option maxRecDepth 1000000 in
theorem t26 : CE.RunsTo Tryz.prog 347 3 (CE.cA (CE.cB (CE.cA (CE.cA (CE.cB (CE.cA (CE.cB (CE.cB (CE.cB (CE.cB (CE.cB (CE.cB body)))))))))))) s26 .norm s27 :=
  CE.RunsTo.seg (cx := cx) (CE.den_ok _) (CE.lowN_ok (CE.den_ok _) 100000 400) rfl (by kernel_rfl)

set_option maxRecDepth 1000000 in
theorem t27 : CE.RunsTo Tryz.prog 347 3 (CE.cA (CE.cA (CE.cA (CE.cB (CE.cB (CE.cA (CE.cA (CE.cB (CE.cA (CE.cB (CE.cB (CE.cB (CE.cB (CE.cB (CE.cB body))))))))))))))) s27 .norm s28 :=
  CE.RunsTo.seg (cx := cx) (CE.den_ok _) (CE.lowN_ok (CE.den_ok _) 100000 400) rfl (by kernel_rfl)

set_option maxRecDepth 1000000 in
theorem t28 : CE.RunsTo Tryz.prog 347 3 (CE.cA (CE.cB (CE.cA (CE.cA (CE.cB (CE.cB (CE.cA (CE.cA (CE.cB (CE.cA (CE.cB (CE.cB (CE.cB (CE.cB (CE.cB (CE.cB body)))))))))))))))) s28 .norm s29 :=
  CE.RunsTo.seg (cx := cx) (CE.den_ok _) (CE.lowN_ok (CE.den_ok _) 100000 400) rfl (by kernel_rfl)

set_option maxRecDepth 1000000 in
theorem t29 : CE.RunsTo Tryz.prog 347 3 (CE.cB (CE.cB (CE.cA (CE.cA (CE.cB (CE.cB (CE.cA (CE.cA (CE.cB (CE.cA (CE.cB (CE.cB (CE.cB (CE.cB (CE.cB (CE.cB body)))))))))))))))) s29 .norm s30 :=
  CE.RunsTo.seg (cx := cx) (CE.den_ok _) (CE.lowN_ok (CE.den_ok _) 100000 400) rfl (by kernel_rfl)

end Go.Proofs.YtekhmjppnkgmjaaGreatDoor.deadNames
