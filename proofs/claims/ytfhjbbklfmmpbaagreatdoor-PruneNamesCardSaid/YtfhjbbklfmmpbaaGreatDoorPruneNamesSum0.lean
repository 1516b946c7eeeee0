/- PruneNames: what the kernel works out, in segments. -/
import Derived.Test.YtfhjbbklfmmpbaaGreatDoorPruneNamesCut
import Derived.KernelRfl
namespace Go.Proofs.YtfhjbbklfmmpbaaGreatDoor.pruneNames
open Go

noncomputable def c4 : CE.Sum := ⟨24, [(.c (.str [97, 32, 60, 45, 32, 98, 32, 98, 32, 60, 45, 32, 34, 120, 34, 32, 99, 32, 60, 45, 32, 97])), (.c (.str [])), (.c (.ref (.slc 6656 0 1 1)))], 6657, gl ++ [(6656, (.row 3 1 1 .false 0 0 (CE.lt 0 [(.c (.int .i64 (.ofNat 0)))])))], (.c (.bool .true)), 6986, [], 6656, 6657⟩
set_option maxRecDepth 1000000 in
theorem k4 : CE.SumOK Tryz.prog c4 := CE.SumOK.run (CE.den_ok _) (tbl := []) CE.AllOK.nil (lf := 100000) (n := 380) (by kernel_rfl)

noncomputable def c3 : CE.Sum := ⟨24, [(.c (.str [97, 32, 60, 45, 32, 98, 32, 98, 32, 60, 45, 32, 34, 120, 34, 32, 99, 32, 60, 45, 32, 97])), (.c (.str [97, 32, 60, 45, 32, 98, 32, 98, 32, 60, 45, 32, 34, 120, 34])), (.c (.ref (.slc 6113 0 2 2)))], 6114, gl ++ [(6113, (.row 3 2 1 .false 0 1 (CE.lt 1 [(.c (.int .i64 (.ofNat 0))), (.c (.int .i64 (.ofNat 1)))])))], (.c (.bool .true)), 6656, [], 6113, 6114⟩
set_option maxRecDepth 1000000 in
theorem k3 : CE.SumOK Tryz.prog c3 := CE.SumOK.run (CE.den_ok _) (tbl := []) CE.AllOK.nil (lf := 100000) (n := 380) (by kernel_rfl)

noncomputable def c5 : CE.Sum := ⟨24, [(.c (.str [97, 32, 60, 45, 32, 98, 32, 98, 32, 60, 45, 32, 34, 120, 34, 32, 99, 32, 60, 45, 32, 97])), (.c (.str [97, 32, 60, 45, 32, 98, 32, 98, 32, 60, 45, 32, 34, 120, 34, 32, 99, 32, 60, 45, 32, 97])), (.c (.ref (.slc 6986 0 3 3)))], 6987, gl ++ [(6986, (.row 3 3 1 .false 0 1 (CE.lt 1 [(.c (.int .i64 (.ofNat 2))), (.c (.int .i64 (.ofNat 0))), (.c (.int .i64 (.ofNat 1)))])))], (.c (.bool .true)), 7606, [], 6986, 6987⟩
set_option maxRecDepth 1000000 in
theorem k5 : CE.SumOK Tryz.prog c5 := CE.SumOK.run (CE.den_ok _) (tbl := []) CE.AllOK.nil (lf := 100000) (n := 380) (by kernel_rfl)

end Go.Proofs.YtfhjbbklfmmpbaaGreatDoor.pruneNames
