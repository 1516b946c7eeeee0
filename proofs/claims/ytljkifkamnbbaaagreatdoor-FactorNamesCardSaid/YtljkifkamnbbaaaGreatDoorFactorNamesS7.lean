/- FactorNames: calls that are told, worked out by the kernel. -/
import Derived.Test.YtljkifkamnbbaaaGreatDoorFactorNamesG
import Derived.KernelRfl
namespace Go.Proofs.YtljkifkamnbbaaaGreatDoor.factorNamesT
open Go

noncomputable def c19 : CE.Sum := ⟨54, [(.c (.str [60, 110, 58, 32, 97, 62, 32, 98])), (.c (.str [60, 109, 58, 32, 97, 62, 32, 98])), (.c (.int .u8 (.ofNat 0))), (.c (.str []))], 26055, gl, (.c (.bool .true)), 27512, [], 26055, 26055⟩
set_option maxRecDepth 1000000 in
theorem k19 : CE.SumOK Tryz.prog c19 := CE.SumOK.run (CE.den_ok _) (tbl := []) CE.AllOK.nil (lf := 100000) (n := 380) (by kernel_rfl)

noncomputable def c20 : CE.Sum := ⟨54, [(.c (.str [97, 32, 40, 98, 32, 47, 32, 99, 41])), (.c (.str [97, 32, 100])), (.c (.int .u8 (.ofNat 2))), (.c (.str [97, 32, 40, 98, 32, 47, 32, 99, 32, 47, 32, 100, 41]))], 27513, gl, (.c (.bool .true)), 29910, [], 27513, 27513⟩
set_option maxRecDepth 1000000 in
theorem k20 : CE.SumOK Tryz.prog c20 := CE.SumOK.run (CE.den_ok _) (tbl := []) CE.AllOK.nil (lf := 100000) (n := 380) (by kernel_rfl)

end Go.Proofs.YtljkifkamnbbaaaGreatDoor.factorNamesT
