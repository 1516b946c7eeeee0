/- MergeNames: what the kernel works out, in segments. -/
import Derived.Test.YtfhjbbklfmmpbaaGreatDoorMergeNamesCut
import Derived.Test.YtfhjbbklfmmpbaaGreatDoorMergeNamesSum10
import Derived.Test.YtfhjbbklfmmpbaaGreatDoorMergeNamesSum11
import Derived.Test.YtfhjbbklfmmpbaaGreatDoorMergeNamesSum7
import Derived.Test.YtfhjbbklfmmpbaaGreatDoorMergeNamesSum8
import Derived.Test.YtfhjbbklfmmpbaaGreatDoorMergeNamesSum9
import Derived.KernelRfl
namespace Go.Proofs.YtfhjbbklfmmpbaaGreatDoor.mergeNames
open Go

noncomputable def c22 : CE.Sum := ⟨7, [(.c (.str [97, 32, 60, 45, 32, 34, 120, 34, 32, 47, 32, 91, 121, 93, 32, 47, 32, 98, 32, 47, 32, 33, 91, 97, 93, 32, 91, 97, 98, 93, 32, 38, 91, 99, 93, 32, 91, 99, 100, 93, 32, 98, 32, 60, 45, 32, 34, 122, 34])), (.c (.ref (.slc 7970 0 3 3)))], 7971, gl ++ [(7970, (.row 3 3 1 .false 0 1 (CE.lt 1 [(.c (.int .i64 (.ofNat 1000))), (.c (.int .i64 (.ofNat 2010))), (.c (.int .i64 (.ofNat 3012)))])))], (.c (.bool .true)), 16450, [], 7970, 7971⟩
set_option maxRecDepth 1000000 in
theorem k22 : CE.SumOK Tryz.prog c22 := CE.SumOK.run (CE.den_ok _) (tbl := [c20001, c20000, c20007, c20028, c20035]) (CE.AllOK.cons k20001 (CE.AllOK.cons k20000 (CE.AllOK.cons k20007 (CE.AllOK.cons k20028 (CE.AllOK.cons k20035 CE.AllOK.nil))))) (lf := 100000) (n := 380) (by kernel_rfl)

end Go.Proofs.YtfhjbbklfmmpbaaGreatDoor.mergeNames
