/- FactorNames: calls that are told, worked out by the kernel. -/
import Derived.Test.YtljkifkamnbbaaaGreatDoorFactorNamesG
import Derived.KernelRfl
namespace Go.Proofs.YtljkifkamnbbaaaGreatDoor.factorNamesT
open Go

noncomputable def c15 : CE.Sum := ⟨54, [(.c (.str [38, 97, 32, 98])), (.c (.str [33, 97, 32, 98])), (.c (.int .u8 (.ofNat 0))), (.c (.str []))], 18126, gl, (.c (.bool .true)), 19503, [], 18126, 18126⟩
set_option maxRecDepth 1000000 in
theorem k15 : CE.SumOK Tryz.prog c15 := CE.SumOK.run (CE.den_ok _) (tbl := []) CE.AllOK.nil (lf := 100000) (n := 380) (by kernel_rfl)

noncomputable def c16 : CE.Sum := ⟨54, [(.c (.str [97, 42, 32, 98])), (.c (.str [97, 42, 32, 99, 32, 100])), (.c (.int .u8 (.ofNat 2))), (.c (.str [97, 42, 32, 40, 98, 32, 47, 32, 99, 32, 100, 41]))], 19504, gl, (.c (.bool .true)), 22278, [], 19504, 19504⟩
set_option maxRecDepth 1000000 in
theorem k16 : CE.SumOK Tryz.prog c16 := CE.SumOK.run (CE.den_ok _) (tbl := []) CE.AllOK.nil (lf := 100000) (n := 380) (by kernel_rfl)

end Go.Proofs.YtljkifkamnbbaaaGreatDoor.factorNamesT
