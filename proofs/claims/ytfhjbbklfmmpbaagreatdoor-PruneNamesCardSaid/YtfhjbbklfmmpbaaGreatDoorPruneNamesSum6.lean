/- PruneNames: what the kernel works out, in segments. -/
import Derived.Test.YtfhjbbklfmmpbaaGreatDoorPruneNamesCut
import Derived.KernelRfl
namespace Go.Proofs.YtfhjbbklfmmpbaaGreatDoor.pruneNames
open Go

noncomputable def c16 : CE.Sum := ⟨24, [(.c (.str [97, 32, 60, 45, 32, 99, 32, 117, 32, 60, 45, 32, 97, 32, 99, 32, 60, 45, 32, 34, 120, 34, 32, 100, 32, 118, 32, 60, 45, 32, 117, 32, 119, 32, 119, 32, 60, 45, 32, 34, 113, 34, 32, 100, 32, 60, 45, 32, 34, 34])), (.c (.str [])), (.c (.ref (.slc 46311 0 1 1)))], 46312, gl ++ [(46311, (.row 3 1 1 .false 0 0 (CE.lt 0 [(.c (.int .i64 (.ofNat 2)))])))], (.c (.bool .true)), 47284, [], 46311, 46312⟩
set_option maxRecDepth 1000000 in
theorem k16 : CE.SumOK Tryz.prog c16 := CE.SumOK.run (CE.den_ok _) (tbl := []) CE.AllOK.nil (lf := 100000) (n := 380) (by kernel_rfl)

noncomputable def c12 : CE.Sum := ⟨24, [(.c (.str [97, 32, 60, 45, 32, 99, 32, 117, 32, 60, 45, 32, 97, 32, 99, 32, 60, 45, 32, 34, 120, 34, 32, 100, 32, 118, 32, 60, 45, 32, 117, 32, 119, 32, 119, 32, 60, 45, 32, 34, 113, 34, 32, 100, 32, 60, 45, 32, 34, 34])), (.c (.str [])), (.c (.ref (.slc 41847 0 1 1)))], 41848, gl ++ [(41847, (.row 3 1 1 .false 0 0 (CE.lt 0 [(.c (.int .i64 (.ofNat 6)))])))], (.c (.bool .true)), 42793, [], 41847, 41848⟩
set_option maxRecDepth 1000000 in
theorem k12 : CE.SumOK Tryz.prog c12 := CE.SumOK.run (CE.den_ok _) (tbl := []) CE.AllOK.nil (lf := 100000) (n := 380) (by kernel_rfl)

end Go.Proofs.YtfhjbbklfmmpbaaGreatDoor.pruneNames
