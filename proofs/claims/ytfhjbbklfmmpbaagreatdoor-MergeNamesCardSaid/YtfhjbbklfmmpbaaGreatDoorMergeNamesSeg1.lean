/- MergeNames: what the kernel works out, in segments. -/
import Derived.Test.YtfhjbbklfmmpbaaGreatDoorMergeNamesSnap0
import Derived.KernelRfl
namespace Go.Proofs.YtfhjbbklfmmpbaaGreatDoor.mergeNames
open Go

set_option maxRecDepth 1000000 in
theorem t6 : CE.RunsTo Tryz.prog 193 3 (CE.cA (CE.cA (CE.cB (CE.cA (CE.cB (CE.cB body)))))) s6 .norm s7 :=
  CE.RunsTo.seg (cx := ⟨CE.lowT Tryz.prog [] 100000 400, 100000, none⟩) (CE.den_ok _) (CE.lowT_ok (CE.den_ok _) CE.AllOK.nil 100000 400) rfl (by kernel_rfl)

set_option maxRecDepth 1000000 in
theorem t7 : CE.RunsTo Tryz.prog 193 3 (CE.cA (CE.cA (CE.cB (CE.cA (CE.cB (CE.cB body)))))) s7 .norm s8 :=
  CE.RunsTo.seg (cx := ⟨CE.lowT Tryz.prog [] 100000 400, 100000, none⟩) (CE.den_ok _) (CE.lowT_ok (CE.den_ok _) CE.AllOK.nil 100000 400) rfl (by kernel_rfl)

set_option maxRecDepth 1000000 in
theorem t8 : CE.RunsTo Tryz.prog 193 3 (CE.cA (CE.cA (CE.cB (CE.cA (CE.cB (CE.cB body)))))) s8 .norm s9 :=
  CE.RunsTo.seg (cx := ⟨CE.lowT Tryz.prog [] 100000 400, 100000, none⟩) (CE.den_ok _) (CE.lowT_ok (CE.den_ok _) CE.AllOK.nil 100000 400) rfl (by kernel_rfl)

set_option maxRecDepth 1000000 in
theorem t9 : CE.RunsTo Tryz.prog 193 3 (CE.cA (CE.cA (CE.cB (CE.cA (CE.cB (CE.cB body)))))) s9 .norm s10 :=
  CE.RunsTo.seg (cx := ⟨CE.lowT Tryz.prog [] 100000 400, 100000, none⟩) (CE.den_ok _) (CE.lowT_ok (CE.den_ok _) CE.AllOK.nil 100000 400) rfl (by kernel_rfl)

set_option maxRecDepth 1000000 in
theorem t10 : CE.RunsTo Tryz.prog 193 3 (CE.cA (CE.cA (CE.cB (CE.cA (CE.cB (CE.cB body)))))) s10 .norm s11 :=
  CE.RunsTo.seg (cx := ⟨CE.lowT Tryz.prog [] 100000 400, 100000, none⟩) (CE.den_ok _) (CE.lowT_ok (CE.den_ok _) CE.AllOK.nil 100000 400) rfl (by kernel_rfl)

end Go.Proofs.YtfhjbbklfmmpbaaGreatDoor.mergeNames
