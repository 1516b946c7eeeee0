/- MergeNames: what the kernel works out, in segments. -/
import Derived.Test.YtfhjbbklfmmpbaaGreatDoorMergeNamesSnap0
import Derived.Test.YtfhjbbklfmmpbaaGreatDoorMergeNamesSum12
import Derived.Test.YtfhjbbklfmmpbaaGreatDoorMergeNamesSum2
import Derived.Test.YtfhjbbklfmmpbaaGreatDoorMergeNamesSum3
import Derived.Test.YtfhjbbklfmmpbaaGreatDoorMergeNamesSum4
import Derived.Test.YtfhjbbklfmmpbaaGreatDoorMergeNamesSum5
import Derived.Test.YtfhjbbklfmmpbaaGreatDoorMergeNamesSum7
import Derived.KernelRfl
namespace Go.Proofs.YtfhjbbklfmmpbaaGreatDoor.mergeNames
open Go

set_option maxRecDepth 1000000 in
theorem t19 : CE.RunsTo Tryz.prog 193 3 (CE.cA (CE.cA (CE.cB (CE.cA (CE.cB (CE.cB body)))))) s19 .norm s20 :=
  CE.RunsTo.seg (cx := ⟨CE.lowT Tryz.prog [] 100000 400, 100000, none⟩) (CE.den_ok _) (CE.lowT_ok (CE.den_ok _) CE.AllOK.nil 100000 400) rfl (by kernel_rfl)

set_option maxRecDepth 1000000 in
theorem t20 : CE.RunsTo Tryz.prog 193 3 (CE.cA (CE.cA (CE.cB (CE.cA (CE.cB (CE.cB body)))))) s20 .norm s21 :=
  CE.RunsTo.seg (cx := ⟨CE.lowT Tryz.prog [] 100000 400, 100000, none⟩) (CE.den_ok _) (CE.lowT_ok (CE.den_ok _) CE.AllOK.nil 100000 400) rfl (by kernel_rfl)

set_option maxRecDepth 1000000 in
theorem t21 : CE.RunsTo Tryz.prog 193 3 (CE.cA (CE.cA (CE.cB (CE.cA (CE.cB (CE.cB body)))))) s21 (.exit 0) s22 :=
  CE.RunsTo.seg (cx := ⟨CE.lowT Tryz.prog [] 100000 400, 100000, none⟩) (CE.den_ok _) (CE.lowT_ok (CE.den_ok _) CE.AllOK.nil 100000 400) rfl (by kernel_rfl)

set_option maxRecDepth 1000000 in
theorem t22 : CE.RunsTo Tryz.prog 193 3 (CE.cA (CE.cA (CE.cB (CE.cB (CE.cB body))))) s22 .norm s23 :=
  CE.RunsTo.seg (cx := ⟨CE.lowT Tryz.prog [c26, c27, c25, c24, c23, c22] 100000 400, 100000, none⟩) (CE.den_ok _) (CE.lowT_ok (CE.den_ok _) (CE.AllOK.cons k26 (CE.AllOK.cons k27 (CE.AllOK.cons k25 (CE.AllOK.cons k24 (CE.AllOK.cons k23 (CE.AllOK.cons k22 CE.AllOK.nil)))))) 100000 400) rfl (by kernel_rfl)

set_option maxRecDepth 1000000 in
theorem t23 : CE.RunsTo Tryz.prog 193 3 (CE.cB (CE.cA (CE.cB (CE.cB (CE.cB body))))) s23 .norm s24 :=
  CE.RunsTo.seg (cx := ⟨CE.lowT Tryz.prog [] 100000 400, 100000, none⟩) (CE.den_ok _) (CE.lowT_ok (CE.den_ok _) CE.AllOK.nil 100000 400) rfl (by kernel_rfl)

end Go.Proofs.YtfhjbbklfmmpbaaGreatDoor.mergeNames
