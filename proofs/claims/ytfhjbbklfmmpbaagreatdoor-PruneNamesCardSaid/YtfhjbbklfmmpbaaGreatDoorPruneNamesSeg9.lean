/- PruneNames: what the kernel works out, in segments. -/
import Derived.Test.YtfhjbbklfmmpbaaGreatDoorPruneNamesSnap0
import Derived.Test.YtfhjbbklfmmpbaaGreatDoorPruneNamesSum6
import Derived.Test.YtfhjbbklfmmpbaaGreatDoorPruneNamesSum7
import Derived.Test.YtfhjbbklfmmpbaaGreatDoorPruneNamesSum8
import Derived.KernelRfl
namespace Go.Proofs.YtfhjbbklfmmpbaaGreatDoor.pruneNames
open Go

set_option maxRecDepth 1000000 in
theorem t22 : CE.RunsTo Tryz.prog 149 3 (CE.cA (CE.cB (CE.cB (CE.cB (CE.cB (CE.cB (CE.cB (CE.cB (CE.cB (CE.cB (CE.cB body))))))))))) s22 .norm s23 :=
  CE.RunsTo.seg (cx := ⟨CE.lowT Tryz.prog [c16, c12, c13, c11, c14, c15] 100000 400, 100000, none⟩) (CE.den_ok _) (CE.lowT_ok (CE.den_ok _) (CE.AllOK.cons k16 (CE.AllOK.cons k12 (CE.AllOK.cons k13 (CE.AllOK.cons k11 (CE.AllOK.cons k14 (CE.AllOK.cons k15 CE.AllOK.nil)))))) 100000 400) rfl (by kernel_rfl)

set_option maxRecDepth 1000000 in
theorem t23 : CE.RunsTo Tryz.prog 149 3 (CE.cB (CE.cB (CE.cB (CE.cB (CE.cB (CE.cB (CE.cB (CE.cB (CE.cB (CE.cB (CE.cB body))))))))))) s23 .ret s24 :=
  CE.RunsTo.seg (cx := ⟨CE.lowT Tryz.prog [] 100000 400, 100000, none⟩) (CE.den_ok _) (CE.lowT_ok (CE.den_ok _) CE.AllOK.nil 100000 400) rfl (by kernel_rfl)

end Go.Proofs.YtfhjbbklfmmpbaaGreatDoor.pruneNames
