/- PruneNames: what the kernel works out, in segments. -/
import Derived.Test.YtfhjbbklfmmpbaaGreatDoorPruneNamesSnap0
import Derived.Test.YtfhjbbklfmmpbaaGreatDoorPruneNamesSum3
import Derived.Test.YtfhjbbklfmmpbaaGreatDoorPruneNamesSum4
import Derived.Test.YtfhjbbklfmmpbaaGreatDoorPruneNamesSum5
import Derived.KernelRfl
namespace Go.Proofs.YtfhjbbklfmmpbaaGreatDoor.pruneNames
open Go

set_option maxRecDepth 1000000 in
theorem t2 : CE.RunsTo Tryz.prog 149 3 (CE.cB (CE.cA (CE.cB body))) s2 .norm s3 :=
  CE.RunsTo.seg (cx := ⟨CE.lowT Tryz.prog [] 100000 400, 100000, none⟩) (CE.den_ok _) (CE.lowT_ok (CE.den_ok _) CE.AllOK.nil 100000 400) rfl (by kernel_rfl)

set_option maxRecDepth 1000000 in
theorem t3 : CE.RunsTo Tryz.prog 149 3 (CE.cA (CE.cA (CE.cB (CE.cB body)))) s3 .norm s4 :=
  CE.RunsTo.seg (cx := ⟨CE.lowT Tryz.prog [c6, c9, c7] 100000 400, 100000, none⟩) (CE.den_ok _) (CE.lowT_ok (CE.den_ok _) (CE.AllOK.cons k6 (CE.AllOK.cons k9 (CE.AllOK.cons k7 CE.AllOK.nil))) 100000 400) rfl (by kernel_rfl)

set_option maxRecDepth 1000000 in
theorem t4 : CE.RunsTo Tryz.prog 149 3 (CE.cB (CE.cA (CE.cB (CE.cB body)))) s4 .norm s5 :=
  CE.RunsTo.seg (cx := ⟨CE.lowT Tryz.prog [] 100000 400, 100000, none⟩) (CE.den_ok _) (CE.lowT_ok (CE.den_ok _) CE.AllOK.nil 100000 400) rfl (by kernel_rfl)

set_option maxRecDepth 1000000 in
theorem t5 : CE.RunsTo Tryz.prog 149 3 (CE.cA (CE.cB (CE.cB (CE.cB body)))) s5 .norm s6 :=
  CE.RunsTo.seg (cx := ⟨CE.lowT Tryz.prog [] 100000 400, 100000, none⟩) (CE.den_ok _) (CE.lowT_ok (CE.den_ok _) CE.AllOK.nil 100000 400) rfl (by kernel_rfl)

set_option maxRecDepth 1000000 in
theorem t6 : CE.RunsTo Tryz.prog 149 3 (CE.cA (CE.cA (CE.cB (CE.cB (CE.cB (CE.cB body)))))) s6 .norm s7 :=
  CE.RunsTo.seg (cx := ⟨CE.lowT Tryz.prog [] 100000 400, 100000, none⟩) (CE.den_ok _) (CE.lowT_ok (CE.den_ok _) CE.AllOK.nil 100000 400) rfl (by kernel_rfl)

end Go.Proofs.YtfhjbbklfmmpbaaGreatDoor.pruneNames
