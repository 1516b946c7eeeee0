/- FactorNames: calls that are told, worked out by the kernel. -/
import Derived.Test.YtljkifkamnbbaaaGreatDoorFactorNamesG
import Derived.KernelRfl
namespace Go.Proofs.YtljkifkamnbbaaaGreatDoor.factorNamesT
open Go

noncomputable def c2 : CE.Sum := ⟨54, [(.c (.str [34, 97, 34])), (.c (.str [34, 97, 98, 34])), (.c (.int .u8 (.ofNat 3))), (.c (.str [34, 97, 34, 32, 40, 34, 34, 32, 47, 32, 34, 98, 34, 41]))], 3965, gl, (.c (.bool .true)), 5316, [], 3965, 3965⟩
set_option maxRecDepth 1000000 in
theorem k2 : CE.SumOK Tryz.prog c2 := CE.SumOK.run (CE.den_ok _) (tbl := []) CE.AllOK.nil (lf := 100000) (n := 380) (by kernel_rfl)

noncomputable def c3 : CE.Sum := ⟨54, [(.c (.str [97])), (.c (.str [97])), (.c (.int .u8 (.ofNat 1))), (.c (.str [97]))], 5316, gl, (.c (.bool .true)), 5589, [], 5316, 5316⟩
set_option maxRecDepth 1000000 in
theorem k3 : CE.SumOK Tryz.prog c3 := CE.SumOK.run (CE.den_ok _) (tbl := []) CE.AllOK.nil (lf := 100000) (n := 380) (by kernel_rfl)

noncomputable def c4 : CE.Sum := ⟨54, [(.c (.str [97])), (.c (.str [97, 32, 98])), (.c (.int .u8 (.ofNat 2))), (.c (.str [97, 32, 40, 34, 34, 32, 47, 32, 98, 41]))], 5589, gl, (.c (.bool .true)), 7108, [], 5589, 5589⟩
set_option maxRecDepth 1000000 in
theorem k4 : CE.SumOK Tryz.prog c4 := CE.SumOK.run (CE.den_ok _) (tbl := []) CE.AllOK.nil (lf := 100000) (n := 380) (by kernel_rfl)

end Go.Proofs.YtljkifkamnbbaaaGreatDoor.factorNamesT
