/- PruneNames: what the kernel works out, in segments. -/
import Derived.Test.YtfhjbbklfmmpbaaGreatDoorPruneNamesCut
import Derived.KernelRfl
namespace Go.Proofs.YtfhjbbklfmmpbaaGreatDoor.pruneNames
open Go

noncomputable def c13 : CE.Sum := ⟨24, [(.c (.str [97, 32, 60, 45, 32, 99, 32, 117, 32, 60, 45, 32, 97, 32, 99, 32, 60, 45, 32, 34, 120, 34, 32, 100, 32, 118, 32, 60, 45, 32, 117, 32, 119, 32, 119, 32, 60, 45, 32, 34, 113, 34, 32, 100, 32, 60, 45, 32, 34, 34])), (.c (.str [])), (.c (.ref (.slc 42793 0 2 2)))], 42794, gl ++ [(42793, (.row 3 2 1 .false 0 1 (CE.lt 1 [(.c (.int .i64 (.ofNat 5))), (.c (.int .i64 (.ofNat 5)))])))], (.c (.bool .true)), 43739, [], 42793, 42794⟩
set_option maxRecDepth 1000000 in
theorem k13 : CE.SumOK Tryz.prog c13 := CE.SumOK.run (CE.den_ok _) (tbl := []) CE.AllOK.nil (lf := 100000) (n := 380) (by kernel_rfl)

noncomputable def c11 : CE.Sum := ⟨24, [(.c (.str [97, 32, 60, 45, 32, 99, 32, 117, 32, 60, 45, 32, 97, 32, 99, 32, 60, 45, 32, 34, 120, 34, 32, 100, 32, 118, 32, 60, 45, 32, 117, 32, 119, 32, 119, 32, 60, 45, 32, 34, 113, 34, 32, 100, 32, 60, 45, 32, 34, 34])), (.c (.str [])), (.c (.ref (.slc 40901 0 1 1)))], 40902, gl ++ [(40901, (.row 3 1 1 .false 0 0 (CE.lt 0 [(.c (.int .i64 (.negSucc 0)))])))], (.c (.bool .true)), 41847, [], 40901, 40902⟩
set_option maxRecDepth 1000000 in
theorem k11 : CE.SumOK Tryz.prog c11 := CE.SumOK.run (CE.den_ok _) (tbl := []) CE.AllOK.nil (lf := 100000) (n := 380) (by kernel_rfl)

end Go.Proofs.YtfhjbbklfmmpbaaGreatDoor.pruneNames
