/- MergeNames: what the kernel works out, in segments. -/
import Derived.Test.YtfhjbbklfmmpbaaGreatDoorMergeNamesCut
import Derived.KernelRfl
namespace Go.Proofs.YtfhjbbklfmmpbaaGreatDoor.mergeNames
open Go

noncomputable def c3 : CE.Sum := ⟨6, [(.c (.str [38, 91, 98, 45, 120, 93])), (.c (.str [91, 97, 45, 99, 93])), (.c (.int .u8 (.ofNat 3))), (.c (.bool .true)), (.c (.str [98, 99]))], 693, gl ++ [], (.c (.bool .true)), 1027, [], 693, 693⟩
set_option maxRecDepth 1000000 in
theorem k3 : CE.SumOK Tryz.prog c3 := CE.SumOK.run (CE.den_ok _) (tbl := []) CE.AllOK.nil (lf := 100000) (n := 380) (by kernel_rfl)

end Go.Proofs.YtfhjbbklfmmpbaaGreatDoor.mergeNames
