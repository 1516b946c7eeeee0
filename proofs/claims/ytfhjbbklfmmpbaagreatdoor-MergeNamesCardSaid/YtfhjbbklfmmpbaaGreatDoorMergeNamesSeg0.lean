/- MergeNames: what the kernel works out, in segments. -/
import Derived.Test.YtfhjbbklfmmpbaaGreatDoorMergeNamesSnap0
import Derived.Test.YtfhjbbklfmmpbaaGreatDoorMergeNamesSum0
import Derived.Test.YtfhjbbklfmmpbaaGreatDoorMergeNamesSum1
import Derived.KernelRfl
namespace Go.Proofs.YtfhjbbklfmmpbaaGreatDoor.mergeNames
open Go

set_option maxRecDepth 1000000 in
theorem t0 : CE.RunsTo Tryz.prog 193 3 (CE.cA body) s0 .norm s1 :=
  CE.RunsTo.seg (cx := ⟨CE.lowT Tryz.prog [] 100000 400, 100000, none⟩) (CE.den_ok _) (CE.lowT_ok (CE.den_ok _) CE.AllOK.nil 100000 400) rfl (by kernel_rfl)

set_option maxRecDepth 1000000 in
theorem t1 : CE.RunsTo Tryz.prog 193 3 (CE.cA (CE.cA (CE.cB body))) s1 .norm s2 :=
  CE.RunsTo.seg (cx := ⟨CE.lowT Tryz.prog [c3, c4] 100000 400, 100000, none⟩) (CE.den_ok _) (CE.lowT_ok (CE.den_ok _) (CE.AllOK.cons k3 (CE.AllOK.cons k4 CE.AllOK.nil)) 100000 400) rfl (by kernel_rfl)

set_option maxRecDepth 1000000 in
theorem t2 : CE.RunsTo Tryz.prog 193 3 (CE.cB (CE.cA (CE.cB body))) s2 .norm s3 :=
  CE.RunsTo.seg (cx := ⟨CE.lowT Tryz.prog [] 100000 400, 100000, none⟩) (CE.den_ok _) (CE.lowT_ok (CE.den_ok _) CE.AllOK.nil 100000 400) rfl (by kernel_rfl)

set_option maxRecDepth 1000000 in
theorem t3 : CE.RunsTo Tryz.prog 193 3 (CE.cA (CE.cA (CE.cB (CE.cB body)))) s3 .norm s4 :=
  CE.RunsTo.seg (cx := ⟨CE.lowT Tryz.prog [] 100000 400, 100000, none⟩) (CE.den_ok _) (CE.lowT_ok (CE.den_ok _) CE.AllOK.nil 100000 400) rfl (by kernel_rfl)

set_option maxRecDepth 1000000 in
theorem t4 : CE.RunsTo Tryz.prog 193 3 (CE.cA (CE.cA (CE.cB (CE.cA (CE.cB (CE.cB body)))))) s4 .norm s5 :=
  CE.RunsTo.seg (cx := ⟨CE.lowT Tryz.prog [] 100000 400, 100000, none⟩) (CE.den_ok _) (CE.lowT_ok (CE.den_ok _) CE.AllOK.nil 100000 400) rfl (by kernel_rfl)

set_option maxRecDepth 1000000 in
theorem t5 : CE.RunsTo Tryz.prog 193 3 (CE.cA (CE.cA (CE.cB (CE.cA (CE.cB (CE.cB body)))))) s5 .norm s6 :=
  CE.RunsTo.seg (cx := ⟨CE.lowT Tryz.prog [] 100000 400, 100000, none⟩) (CE.den_ok _) (CE.lowT_ok (CE.den_ok _) CE.AllOK.nil 100000 400) rfl (by kernel_rfl)

end Go.Proofs.YtfhjbbklfmmpbaaGreatDoor.mergeNames
