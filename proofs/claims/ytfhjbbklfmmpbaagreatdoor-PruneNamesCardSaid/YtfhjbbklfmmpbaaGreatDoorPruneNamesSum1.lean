/- PruneNames: what the kernel works out, in segments. -/
import Derived.Test.YtfhjbbklfmmpbaaGreatDoorPruneNamesCut
import Derived.KernelRfl
namespace Go.Proofs.YtfhjbbklfmmpbaaGreatDoor.pruneNames
open Go

noncomputable def c2 : CE.Sum := ⟨17, [(.c (.str [97, 32, 60, 45, 32, 98, 32, 98, 32, 60, 45, 32, 34, 34])), (.c (.ref .nils))], 5618, gl ++ [], (.c (.bool .true)), 6113, [], 5618, 5618⟩
set_option maxRecDepth 1000000 in
theorem k2 : CE.SumOK Tryz.prog c2 := CE.SumOK.run (CE.den_ok _) (tbl := []) CE.AllOK.nil (lf := 100000) (n := 380) (by kernel_rfl)

noncomputable def c0 : CE.Sum := ⟨17, [(.c (.str [97, 32, 60, 45, 32, 34, 120, 34, 32, 98, 32, 60, 45, 32, 34, 121, 34, 32, 99, 32, 99, 32, 60, 45, 32, 34, 122, 34, 32, 98, 32, 47, 32, 34, 34])), (.c (.ref (.slc 1021 0 1 1)))], 1022, gl ++ [(1021, (.row 3 1 1 .false 0 0 (CE.lt 0 [(.c (.int .i64 (.ofNat 1100)))])))], (.c (.bool .true)), 2617, [], 1021, 1022⟩
set_option maxRecDepth 1000000 in
theorem k0 : CE.SumOK Tryz.prog c0 := CE.SumOK.run (CE.den_ok _) (tbl := []) CE.AllOK.nil (lf := 100000) (n := 380) (by kernel_rfl)

end Go.Proofs.YtfhjbbklfmmpbaaGreatDoor.pruneNames
