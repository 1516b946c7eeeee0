/- MergeNames: what the kernel works out, in segments. -/
import Derived.Test.YtfhjbbklfmmpbaaGreatDoorMergeNamesSnap0
import Derived.KernelRfl
namespace Go.Proofs.YtfhjbbklfmmpbaaGreatDoor.mergeNames
open Go

set_option maxRecDepth 1000000 in
theorem t11 : CE.RunsTo Tryz.prog 193 3 (CE.cA (CE.cA (CE.cB (CE.cA (CE.cB (CE.cB body)))))) s11 .norm s12 :=
  CE.RunsTo.seg (cx := ⟨CE.lowT Tryz.prog [] 100000 400, 100000, none⟩) (CE.den_ok _) (CE.lowT_ok (CE.den_ok _) CE.AllOK.nil 100000 400) rfl (by kernel_rfl)

set_option maxRecDepth 1000000 in
theorem t12 : CE.RunsTo Tryz.prog 193 3 (CE.cA (CE.cA (CE.cB (CE.cA (CE.cB (CE.cB body)))))) s12 .norm s13 :=
  CE.RunsTo.seg (cx := ⟨CE.lowT Tryz.prog [] 100000 400, 100000, none⟩) (CE.den_ok _) (CE.lowT_ok (CE.den_ok _) CE.AllOK.nil 100000 400) rfl (by kernel_rfl)

set_option maxRecDepth 1000000 in
theorem t13 : CE.RunsTo Tryz.prog 193 3 (CE.cA (CE.cA (CE.cB (CE.cA (CE.cB (CE.cB body)))))) s13 .norm s14 :=
  CE.RunsTo.seg (cx := ⟨CE.lowT Tryz.prog [] 100000 400, 100000, none⟩) (CE.den_ok _) (CE.lowT_ok (CE.den_ok _) CE.AllOK.nil 100000 400) rfl (by kernel_rfl)

set_option maxRecDepth 1000000 in
theorem t14 : CE.RunsTo Tryz.prog 193 3 (CE.cA (CE.cA (CE.cB (CE.cA (CE.cB (CE.cB body)))))) s14 .norm s15 :=
  CE.RunsTo.seg (cx := ⟨CE.lowT Tryz.prog [] 100000 400, 100000, none⟩) (CE.den_ok _) (CE.lowT_ok (CE.den_ok _) CE.AllOK.nil 100000 400) rfl (by kernel_rfl)

end Go.Proofs.YtfhjbbklfmmpbaaGreatDoor.mergeNames
