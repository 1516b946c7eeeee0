/- PruneNames: what the kernel works out, in segments. -/
import Derived.Test.YtfhjbbklfmmpbaaGreatDoorPruneNamesCut
import Derived.KernelRfl
namespace Go.Proofs.YtfhjbbklfmmpbaaGreatDoor.pruneNames
open Go

noncomputable def c9 : CE.Sum := ⟨18, [(.c (.str [97, 32, 60, 45, 32, 98, 32, 98, 32, 60, 45, 32, 34, 120, 34, 32, 97, 32, 47, 32, 34, 34, 32, 99, 32, 60, 45, 32, 97])), (.c (.int .u8 (.ofNat 1))), (.c (.int .i64 (.ofNat 2))), (.c (.ref .nils)), (.c (.int .i64 (.ofNat 0))), (.c (.str [97, 32, 60, 45, 32, 98, 32, 98, 32, 60, 45, 32, 34, 120, 34, 32, 97, 32, 47, 32, 34, 34]))], 15072, gl ++ [], (.c (.bool .true)), 18077, [], 15072, 15072⟩
set_option maxRecDepth 1000000 in
theorem k9 : CE.SumOK Tryz.prog c9 := CE.SumOK.run (CE.den_ok _) (tbl := []) CE.AllOK.nil (lf := 100000) (n := 380) (by kernel_rfl)

end Go.Proofs.YtfhjbbklfmmpbaaGreatDoor.pruneNames
