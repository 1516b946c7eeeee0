/- FactorNames: calls that are told, worked out by the kernel. -/
import Derived.Test.YtljkifkamnbbaaaGreatDoorFactorNamesG
import Derived.KernelRfl
namespace Go.Proofs.YtljkifkamnbbaaaGreatDoor.factorNamesT
open Go

noncomputable def c25 : CE.Sum := ⟨54, [(.c (.str [34, 97, 98, 34, 32, 99])), (.c (.str [34, 97, 98, 34, 32, 100])), (.c (.int .u8 (.ofNat 2))), (.c (.str [34, 97, 98, 34, 32, 40, 99, 32, 47, 32, 100, 41]))], 40758, gl, (.c (.bool .true)), 42646, [], 40758, 40758⟩
set_option maxRecDepth 1000000 in
theorem k25 : CE.SumOK Tryz.prog c25 := CE.SumOK.run (CE.den_ok _) (tbl := []) CE.AllOK.nil (lf := 100000) (n := 380) (by kernel_rfl)

noncomputable def c26 : CE.Sum := ⟨54, [(.c (.str [34, 98, 34])), (.c (.str [34, 99, 34])), (.c (.int .u8 (.ofNat 0))), (.c (.str []))], 42647, gl, (.c (.bool .true)), 43078, [], 42647, 42647⟩
set_option maxRecDepth 1000000 in
theorem k26 : CE.SumOK Tryz.prog c26 := CE.SumOK.run (CE.den_ok _) (tbl := []) CE.AllOK.nil (lf := 100000) (n := 380) (by kernel_rfl)

end Go.Proofs.YtljkifkamnbbaaaGreatDoor.factorNamesT
