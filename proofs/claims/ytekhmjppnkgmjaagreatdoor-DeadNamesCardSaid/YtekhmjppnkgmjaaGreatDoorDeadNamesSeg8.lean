/- DeadNames: what the kernel works out, in segments. -/
import Derived.Test.YtekhmjppnkgmjaaGreatDoorDeadNamesSnap0
import Derived.KernelRfl
namespace Go.Proofs.YtekhmjppnkgmjaaGreatDoor.deadNames
open Go

set_option maxRecDepth 1000000 in
theorem t80 : CE.RunsTo Tryz.prog 347 3 (CE.cA (CE.cB (CE.cA (CE.cA (CE.cB (CE.cA (CE.cB (CE.cB (CE.cB (CE.cB (CE.cB (CE.cB body)))))))))))) s80 .norm s81 :=
  CE.RunsTo.seg (cx := cx) (CE.den_ok _) (CE.lowN_ok (CE.den_ok _) 100000 400) rfl (by kernel_rfl)

set_option maxRecDepth 1000000 in
theorem t81 : CE.RunsTo Tryz.prog 347 3 (CE.cA (CE.cA (CE.cA (CE.cB (CE.cB (CE.cA (CE.cA (CE.cB (CE.cA (CE.cB (CE.cB (CE.cB (CE.cB (CE.cB (CE.cB body))))))))))))))) s81 .norm s82 :=
  CE.RunsTo.seg (cx := cx) (CE.den_ok _) (CE.lowN_ok (CE.den_ok _) 100000 400) rfl (by kernel_rfl)

set_option maxRecDepth 1000000 in
theorem t82 : CE.RunsTo Tryz.prog 347 3 (CE.cA (CE.cB (CE.cA (CE.cA (CE.cB (CE.cB (CE.cA (CE.cA (CE.cB (CE.cA (CE.cB (CE.cB (CE.cB (CE.cB (CE.cB (CE.cB body)))))))))))))))) s82 .norm s83 :=
  CE.RunsTo.seg (cx := cx) (CE.den_ok _) (CE.lowN_ok (CE.den_ok _) 100000 400) rfl (by kernel_rfl)

set_option maxRecDepth 1000000 in
theorem t83 : CE.RunsTo Tryz.prog 347 3 (CE.cB (CE.cB (CE.cA (CE.cA (CE.cB (CE.cB (CE.cA (CE.cA (CE.cB (CE.cA (CE.cB (CE.cB (CE.cB (CE.cB (CE.cB (CE.cB body)))))))))))))))) s83 .norm s84 :=
  CE.RunsTo.seg (cx := cx) (CE.den_ok _) (CE.lowN_ok (CE.den_ok _) 100000 400) rfl (by kernel_rfl)

set_option maxRecDepth 1000000 in
theorem t84 : CE.RunsTo Tryz.prog 347 3 (CE.cB (CE.cB (CE.cB (CE.cA (CE.cA (CE.cB (CE.cA (CE.cB (CE.cB (CE.cB (CE.cB (CE.cB (CE.cB body))))))))))))) s84 .norm s85 :=
  CE.RunsTo.seg (cx := cx) (CE.den_ok _) (CE.lowN_ok (CE.den_ok _) 100000 400) rfl (by kernel_rfl)

set_option maxRecDepth 1000000 in
theorem t85 : CE.RunsTo Tryz.prog 347 3 (CE.cA (CE.cA (CE.cA (CE.cB (CE.cA (CE.cB (CE.cB (CE.cB (CE.cB (CE.cB (CE.cB body))))))))))) s85 .norm s86 :=
  CE.RunsTo.seg (cx := cx) (CE.den_ok _) (CE.lowN_ok (CE.den_ok _) 100000 400) rfl (by kernel_rfl)

set_option maxRecDepth 1000000 in
theorem t86 : CE.RunsTo Tryz.prog 347 3 (CE.cA (CE.cB (CE.cA (CE.cA (CE.cB (CE.cA (CE.cB (CE.cB (CE.cB (CE.cB (CE.cB (CE.cB body)))))))))))) s86 .norm s87 :=
  CE.RunsTo.seg (cx := cx) (CE.den_ok _) (CE.lowN_ok (CE.den_ok _) 100000 400) rfl (by kernel_rfl)

set_option maxRecDepth 1000000 in
theorem t87 : CE.RunsTo Tryz.prog 347 3 (CE.cA (CE.cA (CE.cA (CE.cB (CE.cB (CE.cA (CE.cA (CE.cB (CE.cA (CE.cB (CE.cB (CE.cB (CE.cB (CE.cB (CE.cB body))))))))))))))) s87 .norm s88 :=
  CE.RunsTo.seg (cx := cx) (CE.den_ok _) (CE.lowN_ok (CE.den_ok _) 100000 400) rfl (by kernel_rfl)

set_option maxRecDepth 1000000 in
theorem t88 : CE.RunsTo Tryz.prog 347 3 (CE.cA (CE.cB (CE.cA (CE.cA (CE.cB (CE.cB (CE.cA (CE.cA (CE.cB (CE.cA (CE.cB (CE.cB (CE.cB (CE.cB (CE.cB (CE.cB body)))))))))))))))) s88 .norm s89 :=
  CE.RunsTo.seg (cx := cx) (CE.den_ok _) (CE.lowN_ok (CE.den_ok _) 100000 400) rfl (by kernel_rfl)

set_option maxRecDepth 1000000 in
theorem t89 : CE.RunsTo Tryz.prog 347 3 (CE.cB (CE.cB (CE.cA (CE.cA (CE.cB (CE.cB (CE.cA (CE.cA (CE.cB (CE.cA (CE.cB (CE.cB (CE.cB (CE.cB (CE.cB (CE.cB body)))))))))))))))) s89 .norm s90 :=
  CE.RunsTo.seg (cx := cx) (CE.den_ok _) (CE.lowN_ok (CE.den_ok _) 100000 400) rfl (by kernel_rfl)

end Go.Proofs.YtekhmjppnkgmjaaGreatDoor.deadNames
