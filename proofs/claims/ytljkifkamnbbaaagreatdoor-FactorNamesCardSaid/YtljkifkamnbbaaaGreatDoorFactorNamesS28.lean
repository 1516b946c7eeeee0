/- FactorNames: calls that are told, worked out by the kernel. -/
import Derived.Test.YtljkifkamnbbaaaGreatDoorFactorNamesG
import Derived.KernelRfl
import Derived.Test.YtljkifkamnbbaaaGreatDoorFactorNamesS2
namespace Go.Proofs.YtljkifkamnbbaaaGreatDoor.factorNamesT
open Go

noncomputable def c7 : CE.Sum := ⟨55, [(.c (.str [97, 32, 60, 45, 32, 34, 120, 34, 32, 34, 98, 34, 32, 47, 32, 34, 120, 34, 32, 34, 99, 34])), (.c (.ref (.slc 7541 0 1 1)))], 7542, gl ++ [(7541, (.row 3 1 1 .false 0 0 (CE.lt 0 [(.c (.int .i64 (.ofNat 2000)))])))], (.c (.bool .true)), 10831, [], 7541, 7542⟩
set_option maxRecDepth 1000000 in
theorem k7 : CE.SumOK Tryz.prog c7 := CE.SumOK.run (CE.den_ok _) (tbl := [c6]) (CE.AllOK.cons k6 CE.AllOK.nil) (lf := 100000) (n := 380) (by kernel_rfl)

end Go.Proofs.YtljkifkamnbbaaaGreatDoor.factorNamesT
