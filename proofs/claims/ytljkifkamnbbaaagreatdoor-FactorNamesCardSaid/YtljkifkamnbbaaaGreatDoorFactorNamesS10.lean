/- FactorNames: calls that are told, worked out by the kernel. -/
import Derived.Test.YtljkifkamnbbaaaGreatDoorFactorNamesG
import Derived.KernelRfl
namespace Go.Proofs.YtljkifkamnbbaaaGreatDoor.factorNamesT
open Go

noncomputable def c23 : CE.Sum := ⟨54, [(.c (.str [34, 97, 98, 99, 34, 32, 100])), (.c (.str [34, 97, 98, 100, 34, 32, 101])), (.c (.int .u8 (.ofNat 3))), (.c (.str [34, 97, 98, 34, 32, 40, 34, 99, 34, 32, 100, 32, 47, 32, 34, 100, 34, 32, 101, 41]))], 35772, gl, (.c (.bool .true)), 38658, [], 35772, 35772⟩
set_option maxRecDepth 1000000 in
theorem k23 : CE.SumOK Tryz.prog c23 := CE.SumOK.run (CE.den_ok _) (tbl := []) CE.AllOK.nil (lf := 100000) (n := 380) (by kernel_rfl)

end Go.Proofs.YtljkifkamnbbaaaGreatDoor.factorNamesT
