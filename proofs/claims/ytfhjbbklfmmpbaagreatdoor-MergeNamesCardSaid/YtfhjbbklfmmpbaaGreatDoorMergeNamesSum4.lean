/- MergeNames: what the kernel works out, in segments. -/
import Derived.Test.YtfhjbbklfmmpbaaGreatDoorMergeNamesCut
import Derived.KernelRfl
namespace Go.Proofs.YtfhjbbklfmmpbaaGreatDoor.mergeNames
open Go

noncomputable def c25 : CE.Sum := ⟨8, [(.c (.str [97, 32, 60, 45, 32, 34, 120, 34, 32, 47, 32, 91, 121, 93, 32, 47, 32, 98, 32, 47, 32, 33, 91, 97, 93, 32, 91, 97, 98, 93, 32, 38, 91, 99, 93, 32, 91, 99, 100, 93, 32, 98, 32, 60, 45, 32, 34, 122, 34])), (.c (.int .u8 (.ofNat 3))), (.c (.int .i64 (.ofNat 0))), (.c (.ref (.slc 25492 0 1 1))), (.c (.int .i64 (.ofNat 2))), (.c (.str [97, 32, 60, 45, 32, 34, 120, 34, 32, 47, 32, 91, 121, 93, 32, 47, 32, 98, 32, 47, 32, 33, 91, 97, 93, 32, 91, 97, 98, 93, 32, 91, 99, 93, 32, 98, 32, 60, 45, 32, 34, 122, 34]))], 25493, gl ++ [(25492, (.row 3 1 1 .false 0 0 (CE.lt 0 [(.c (.int .i64 (.ofNat 3)))])))], (.c (.bool .true)), 29883, [], 25492, 25493⟩
set_option maxRecDepth 1000000 in
theorem k25 : CE.SumOK Tryz.prog c25 := CE.SumOK.run (CE.den_ok _) (tbl := []) CE.AllOK.nil (lf := 100000) (n := 380) (by kernel_rfl)

end Go.Proofs.YtfhjbbklfmmpbaaGreatDoor.mergeNames
