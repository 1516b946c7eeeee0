/- MergeNames: what the kernel works out, in segments. -/
import Derived.Test.YtfhjbbklfmmpbaaGreatDoorMergeNamesSnap0
import Derived.KernelRfl
namespace Go.Proofs.YtfhjbbklfmmpbaaGreatDoor.mergeNames
open Go

set_option maxRecDepth 1000000 in
theorem t24 : CE.RunsTo Tryz.prog 193 3 (CE.cA (CE.cB (CE.cB (CE.cB (CE.cB body))))) s24 .norm s25 :=
  CE.RunsTo.seg (cx := ⟨CE.lowT Tryz.prog [] 100000 400, 100000, none⟩) (CE.den_ok _) (CE.lowT_ok (CE.den_ok _) CE.AllOK.nil 100000 400) rfl (by kernel_rfl)

set_option maxRecDepth 1000000 in
theorem t25 : CE.RunsTo Tryz.prog 193 3 (CE.cA (CE.cA (CE.cB (CE.cB (CE.cB (CE.cB (CE.cB body))))))) s25 .norm s26 :=
  CE.RunsTo.seg (cx := ⟨CE.lowT Tryz.prog [] 100000 400, 100000, none⟩) (CE.den_ok _) (CE.lowT_ok (CE.den_ok _) CE.AllOK.nil 100000 400) rfl (by kernel_rfl)

set_option maxRecDepth 1000000 in
theorem t26 : CE.RunsTo Tryz.prog 193 3 (CE.cA (CE.cA (CE.cB (CE.cA (CE.cB (CE.cB (CE.cB (CE.cB (CE.cB body))))))))) s26 .norm s27 :=
  CE.RunsTo.seg (cx := ⟨CE.lowT Tryz.prog [] 100000 400, 100000, none⟩) (CE.den_ok _) (CE.lowT_ok (CE.den_ok _) CE.AllOK.nil 100000 400) rfl (by kernel_rfl)

set_option maxRecDepth 1000000 in
theorem t27 : CE.RunsTo Tryz.prog 193 3 (CE.cA (CE.cA (CE.cB (CE.cA (CE.cB (CE.cB (CE.cB (CE.cB (CE.cB body))))))))) s27 .norm s28 :=
  CE.RunsTo.seg (cx := ⟨CE.lowT Tryz.prog [] 100000 400, 100000, none⟩) (CE.den_ok _) (CE.lowT_ok (CE.den_ok _) CE.AllOK.nil 100000 400) rfl (by kernel_rfl)

end Go.Proofs.YtfhjbbklfmmpbaaGreatDoor.mergeNames
