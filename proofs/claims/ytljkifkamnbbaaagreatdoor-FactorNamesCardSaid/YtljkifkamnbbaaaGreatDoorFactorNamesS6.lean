/- FactorNames: calls that are told, worked out by the kernel. -/
import Derived.Test.YtljkifkamnbbaaaGreatDoorFactorNamesG
import Derived.KernelRfl
namespace Go.Proofs.YtljkifkamnbbaaaGreatDoor.factorNamesT
open Go

noncomputable def c17 : CE.Sum := ⟨54, [(.c (.str [97, 42, 32, 98])), (.c (.str [97, 43, 32, 98])), (.c (.int .u8 (.ofNat 0))), (.c (.str []))], 22279, gl, (.c (.bool .true)), 23664, [], 22279, 22279⟩
set_option maxRecDepth 1000000 in
theorem k17 : CE.SumOK Tryz.prog c17 := CE.SumOK.run (CE.den_ok _) (tbl := []) CE.AllOK.nil (lf := 100000) (n := 380) (by kernel_rfl)

noncomputable def c18 : CE.Sum := ⟨54, [(.c (.str [60, 110, 58, 32, 97, 62, 32, 98])), (.c (.str [60, 110, 58, 32, 97, 62, 32, 99])), (.c (.int .u8 (.ofNat 2))), (.c (.str [60, 110, 58, 32, 97, 62, 32, 40, 98, 32, 47, 32, 99, 41]))], 23665, gl, (.c (.bool .true)), 26054, [], 23665, 23665⟩
set_option maxRecDepth 1000000 in
theorem k18 : CE.SumOK Tryz.prog c18 := CE.SumOK.run (CE.den_ok _) (tbl := []) CE.AllOK.nil (lf := 100000) (n := 380) (by kernel_rfl)

end Go.Proofs.YtljkifkamnbbaaaGreatDoor.factorNamesT
