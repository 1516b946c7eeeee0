/- MergeNames: what the kernel works out, in segments. -/
import Derived.Test.YtfhjbbklfmmpbaaGreatDoorMergeNamesCut
import Derived.KernelRfl
namespace Go.Proofs.YtfhjbbklfmmpbaaGreatDoor.mergeNames
open Go

noncomputable def c27 : CE.Sum := ⟨8, [(.c (.str [97, 32, 60, 45, 32, 34, 113, 34, 32, 98, 32, 60, 45, 32, 33, 40, 91, 97, 98, 93, 32, 47, 32, 91, 99, 93, 41])), (.c (.int .u8 (.ofNat 1))), (.c (.int .i64 (.ofNat 1))), (.c (.ref (.slc 31249 0 1 1))), (.c (.int .i64 (.ofNat 0))), (.c (.str [97, 32, 60, 45, 32, 34, 113, 34, 32, 98, 32, 60, 45, 32, 33, 91, 97, 45, 99, 93]))], 31250, gl ++ [(31249, (.row 3 1 1 .false 0 0 (CE.lt 0 [(.c (.int .i64 (.ofNat 0)))])))], (.c (.bool .true)), 32970, [], 31249, 31250⟩
set_option maxRecDepth 1000000 in
theorem k27 : CE.SumOK Tryz.prog c27 := CE.SumOK.run (CE.den_ok _) (tbl := []) CE.AllOK.nil (lf := 100000) (n := 380) (by kernel_rfl)

end Go.Proofs.YtfhjbbklfmmpbaaGreatDoor.mergeNames
