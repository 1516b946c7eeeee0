/- PruneNames: what the kernel works out, in segments. -/
import Derived.Test.YtfhjbbklfmmpbaaGreatDoorPruneNamesSnap0
import Derived.Test.YtfhjbbklfmmpbaaGreatDoorPruneNamesSum0
import Derived.Test.YtfhjbbklfmmpbaaGreatDoorPruneNamesSum1
import Derived.Test.YtfhjbbklfmmpbaaGreatDoorPruneNamesSum2
import Derived.KernelRfl
namespace Go.Proofs.YtfhjbbklfmmpbaaGreatDoor.pruneNames
open Go

set_option maxRecDepth 1000000 in
theorem t1 : CE.RunsTo Tryz.prog 149 3 (CE.cA (CE.cA (CE.cB body))) s1 .norm s2 :=
  CE.RunsTo.seg (cx := ⟨CE.lowT Tryz.prog [c4, c3, c5, c2, c0, c1] 100000 400, 100000, none⟩) (CE.den_ok _) (CE.lowT_ok (CE.den_ok _) (CE.AllOK.cons k4 (CE.AllOK.cons k3 (CE.AllOK.cons k5 (CE.AllOK.cons k2 (CE.AllOK.cons k0 (CE.AllOK.cons k1 CE.AllOK.nil)))))) 100000 400) rfl (by kernel_rfl)

end Go.Proofs.YtfhjbbklfmmpbaaGreatDoor.pruneNames
