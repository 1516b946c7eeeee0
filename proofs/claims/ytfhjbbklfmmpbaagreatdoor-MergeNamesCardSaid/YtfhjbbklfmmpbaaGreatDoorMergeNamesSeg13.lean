/- MergeNames: what the kernel works out, in segments. -/
import Derived.Test.YtfhjbbklfmmpbaaGreatDoorMergeNamesSnap0
import Derived.KernelRfl
namespace Go.Proofs.YtfhjbbklfmmpbaaGreatDoor.mergeNames
open Go

set_option maxRecDepth 1000000 in
theorem t44 : CE.RunsTo Tryz.prog 193 3 (CE.cB (CE.cB (CE.cB (CE.cB (CE.cB (CE.cB (CE.cB body))))))) s44 .ret s45 :=
  CE.RunsTo.seg (cx := ⟨CE.lowT Tryz.prog [] 100000 400, 100000, none⟩) (CE.den_ok _) (CE.lowT_ok (CE.den_ok _) CE.AllOK.nil 100000 400) rfl (by kernel_rfl)

end Go.Proofs.YtfhjbbklfmmpbaaGreatDoor.mergeNames
