/- PruneNames: what the kernel works out, in segments. -/
import Derived.Test.YtfhjbbklfmmpbaaGreatDoorPruneNamesCut
import Derived.KernelRfl
namespace Go.Proofs.YtfhjbbklfmmpbaaGreatDoor.pruneNames
open Go

noncomputable def c6 : CE.Sum := ⟨17, [(.c (.str [97, 32, 60, 45, 32, 99, 32, 117, 32, 60, 45, 32, 97, 32, 99, 32, 60, 45, 32, 34, 120, 34, 32, 100, 32, 118, 32, 60, 45, 32, 117, 32, 119, 32, 119, 32, 60, 45, 32, 34, 113, 34, 32, 100, 32, 60, 45, 32, 34, 34])), (.c (.ref (.slc 7606 0 1 1)))], 7607, gl ++ [(7606, (.row 3 1 1 .false 0 0 (CE.lt 0 [(.c (.int .i64 (.ofNat 1100)))])))], (.c (.bool .true)), 9531, [], 7606, 7607⟩
set_option maxRecDepth 1000000 in
theorem k6 : CE.SumOK Tryz.prog c6 := CE.SumOK.run (CE.den_ok _) (tbl := []) CE.AllOK.nil (lf := 100000) (n := 380) (by kernel_rfl)

end Go.Proofs.YtfhjbbklfmmpbaaGreatDoor.pruneNames
