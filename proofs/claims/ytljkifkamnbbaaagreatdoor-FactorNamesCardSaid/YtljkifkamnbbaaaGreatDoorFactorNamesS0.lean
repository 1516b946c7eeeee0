/- FactorNames: calls that are told, worked out by the kernel. -/
import Derived.Test.YtljkifkamnbbaaaGreatDoorFactorNamesG
import Derived.KernelRfl
namespace Go.Proofs.YtljkifkamnbbaaaGreatDoor.factorNamesT
open Go

noncomputable def c0 : CE.Sum := ⟨54, [(.c (.str [34, 120, 34, 32, 98])), (.c (.str [34, 120, 34, 32, 99])), (.c (.int .u8 (.ofNat 2))), (.c (.str [34, 120, 34, 32, 40, 98, 32, 47, 32, 99, 41]))], 10, gl, (.c (.bool .true)), 1892, [], 10, 10⟩
set_option maxRecDepth 1000000 in
theorem k0 : CE.SumOK Tryz.prog c0 := CE.SumOK.run (CE.den_ok _) (tbl := []) CE.AllOK.nil (lf := 100000) (n := 380) (by kernel_rfl)

noncomputable def c1 : CE.Sum := ⟨54, [(.c (.str [34, 97, 98, 34])), (.c (.str [34, 97, 99, 34, 32, 100])), (.c (.int .u8 (.ofNat 3))), (.c (.str [34, 97, 34, 32, 40, 34, 98, 34, 32, 47, 32, 34, 99, 34, 32, 100, 41]))], 1892, gl, (.c (.bool .true)), 3965, [], 1892, 1892⟩
set_option maxRecDepth 1000000 in
theorem k1 : CE.SumOK Tryz.prog c1 := CE.SumOK.run (CE.den_ok _) (tbl := []) CE.AllOK.nil (lf := 100000) (n := 380) (by kernel_rfl)

end Go.Proofs.YtljkifkamnbbaaaGreatDoor.factorNamesT
