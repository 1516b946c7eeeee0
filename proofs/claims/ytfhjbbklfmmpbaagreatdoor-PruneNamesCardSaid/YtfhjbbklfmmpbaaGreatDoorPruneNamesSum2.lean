/- PruneNames: what the kernel works out, in segments. -/
import Derived.Test.YtfhjbbklfmmpbaaGreatDoorPruneNamesCut
import Derived.KernelRfl
namespace Go.Proofs.YtfhjbbklfmmpbaaGreatDoor.pruneNames
open Go

noncomputable def c1 : CE.Sum := ⟨18, [(.c (.str [97, 32, 60, 45, 32, 34, 120, 34, 32, 98, 32, 60, 45, 32, 34, 121, 34, 32, 99, 32, 99, 32, 60, 45, 32, 34, 122, 34, 32, 98, 32, 47, 32, 34, 34])), (.c (.int .u8 (.ofNat 1))), (.c (.int .i64 (.ofNat 1))), (.c (.ref .nils)), (.c (.int .i64 (.ofNat 0))), (.c (.str [97, 32, 60, 45, 32, 34, 120, 34]))], 2617, gl ++ [], (.c (.bool .true)), 5618, [], 2617, 2617⟩
set_option maxRecDepth 1000000 in
theorem k1 : CE.SumOK Tryz.prog c1 := CE.SumOK.run (CE.den_ok _) (tbl := []) CE.AllOK.nil (lf := 100000) (n := 380) (by kernel_rfl)

end Go.Proofs.YtfhjbbklfmmpbaaGreatDoor.pruneNames
