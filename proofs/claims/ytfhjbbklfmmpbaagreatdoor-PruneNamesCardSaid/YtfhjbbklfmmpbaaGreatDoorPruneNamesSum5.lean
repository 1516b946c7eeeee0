/- PruneNames: what the kernel works out, in segments. -/
import Derived.Test.YtfhjbbklfmmpbaaGreatDoorPruneNamesCut
import Derived.KernelRfl
namespace Go.Proofs.YtfhjbbklfmmpbaaGreatDoor.pruneNames
open Go

noncomputable def c7 : CE.Sum := ⟨18, [(.c (.str [97, 32, 60, 45, 32, 99, 32, 117, 32, 60, 45, 32, 97, 32, 99, 32, 60, 45, 32, 34, 120, 34, 32, 100, 32, 118, 32, 60, 45, 32, 117, 32, 119, 32, 119, 32, 60, 45, 32, 34, 113, 34, 32, 100, 32, 60, 45, 32, 34, 34])), (.c (.int .u8 (.ofNat 1))), (.c (.int .i64 (.ofNat 1))), (.c (.ref .nils)), (.c (.int .i64 (.ofNat 0))), (.c (.str [97, 32, 60, 45, 32, 99, 32, 99, 32, 60, 45, 32, 34, 120, 34, 32, 100, 32, 100, 32, 60, 45, 32, 34, 34]))], 9531, gl ++ [], (.c (.bool .true)), 13613, [], 9531, 9531⟩
set_option maxRecDepth 1000000 in
theorem k7 : CE.SumOK Tryz.prog c7 := CE.SumOK.run (CE.den_ok _) (tbl := []) CE.AllOK.nil (lf := 100000) (n := 380) (by kernel_rfl)

end Go.Proofs.YtfhjbbklfmmpbaaGreatDoor.pruneNames
