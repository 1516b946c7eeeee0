/- PruneNames: what the kernel works out, in segments. -/
import Derived.Test.YtfhjbbklfmmpbaaGreatDoorPruneNamesCut
import Derived.KernelRfl
namespace Go.Proofs.YtfhjbbklfmmpbaaGreatDoor.pruneNames
open Go

noncomputable def c14 : CE.Sum := ⟨24, [(.c (.str [97, 32, 60, 45, 32, 99, 32, 117, 32, 60, 45, 32, 97, 32, 99, 32, 60, 45, 32, 34, 120, 34, 32, 100, 32, 118, 32, 60, 45, 32, 117, 32, 119, 32, 119, 32, 60, 45, 32, 34, 113, 34, 32, 100, 32, 60, 45, 32, 34, 34])), (.c (.str [100, 32, 60, 45, 32, 34, 34])), (.c (.ref (.slc 43739 0 1 1)))], 43740, gl ++ [(43739, (.row 3 1 1 .false 0 0 (CE.lt 0 [(.c (.int .i64 (.ofNat 5)))])))], (.c (.bool .true)), 44912, [], 43739, 43740⟩
set_option maxRecDepth 1000000 in
theorem k14 : CE.SumOK Tryz.prog c14 := CE.SumOK.run (CE.den_ok _) (tbl := []) CE.AllOK.nil (lf := 100000) (n := 380) (by kernel_rfl)

noncomputable def c15 : CE.Sum := ⟨24, [(.c (.str [97, 32, 60, 45, 32, 99, 32, 117, 32, 60, 45, 32, 97, 32, 99, 32, 60, 45, 32, 34, 120, 34, 32, 100, 32, 118, 32, 60, 45, 32, 117, 32, 119, 32, 119, 32, 60, 45, 32, 34, 113, 34, 32, 100, 32, 60, 45, 32, 34, 34])), (.c (.str [99, 32, 60, 45, 32, 34, 120, 34, 32, 100, 32, 100, 32, 60, 45, 32, 34, 34])), (.c (.ref (.slc 44912 0 2 2)))], 44913, gl ++ [(44912, (.row 3 2 1 .false 0 1 (CE.lt 1 [(.c (.int .i64 (.ofNat 5))), (.c (.int .i64 (.ofNat 2)))])))], (.c (.bool .true)), 46311, [], 44912, 44913⟩
set_option maxRecDepth 1000000 in
theorem k15 : CE.SumOK Tryz.prog c15 := CE.SumOK.run (CE.den_ok _) (tbl := []) CE.AllOK.nil (lf := 100000) (n := 380) (by kernel_rfl)

end Go.Proofs.YtfhjbbklfmmpbaaGreatDoor.pruneNames
