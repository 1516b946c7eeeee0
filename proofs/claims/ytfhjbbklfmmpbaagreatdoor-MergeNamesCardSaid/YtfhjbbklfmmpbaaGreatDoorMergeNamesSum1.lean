/- MergeNames: what the kernel works out, in segments. -/
import Derived.Test.YtfhjbbklfmmpbaaGreatDoorMergeNamesCut
import Derived.KernelRfl
namespace Go.Proofs.YtfhjbbklfmmpbaaGreatDoor.mergeNames
open Go

noncomputable def c4 : CE.Sum := ⟨7, [(.c (.str [97, 32, 60, 45, 32, 91, 97, 93, 32, 47, 32, 34, 98, 34, 32, 47, 32, 34, 99, 34, 32, 120, 32, 120, 32, 60, 45, 32, 34, 121, 34])), (.c (.ref (.slc 1027 0 1 1)))], 1028, gl ++ [(1027, (.row 3 1 1 .false 0 0 (CE.lt 0 [(.c (.int .i64 (.ofNat 1000)))])))], (.c (.bool .true)), 4037, [], 1027, 1028⟩
set_option maxRecDepth 1000000 in
theorem k4 : CE.SumOK Tryz.prog c4 := CE.SumOK.run (CE.den_ok _) (tbl := []) CE.AllOK.nil (lf := 100000) (n := 380) (by kernel_rfl)

end Go.Proofs.YtfhjbbklfmmpbaaGreatDoor.mergeNames
