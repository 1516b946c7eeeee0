/- MergeNames: what the kernel works out, in segments. -/
import Derived.Test.YtfhjbbklfmmpbaaGreatDoorMergeNamesCut
import Derived.KernelRfl
namespace Go.Proofs.YtfhjbbklfmmpbaaGreatDoor.mergeNames
open Go

noncomputable def c26 : CE.Sum := ⟨8, [(.c (.str [97, 32, 60, 45, 32, 40, 34, 120, 34, 32, 47, 32, 34, 121, 34, 41, 42])), (.c (.int .u8 (.ofNat 1))), (.c (.int .i64 (.ofNat 0))), (.c (.ref (.slc 29883 0 1 1))), (.c (.int .i64 (.ofNat 0))), (.c (.str [97, 32, 60, 45, 32, 91, 120, 121, 93, 42]))], 29884, gl ++ [(29883, (.row 3 1 1 .false 0 0 (CE.lt 0 [(.c (.int .i64 (.ofNat 0)))])))], (.c (.bool .true)), 31249, [], 29883, 29884⟩
set_option maxRecDepth 1000000 in
theorem k26 : CE.SumOK Tryz.prog c26 := CE.SumOK.run (CE.den_ok _) (tbl := []) CE.AllOK.nil (lf := 100000) (n := 380) (by kernel_rfl)

end Go.Proofs.YtfhjbbklfmmpbaaGreatDoor.mergeNames
