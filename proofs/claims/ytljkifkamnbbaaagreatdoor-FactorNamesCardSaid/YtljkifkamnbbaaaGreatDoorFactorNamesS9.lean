/- FactorNames: calls that are told, worked out by the kernel. -/
import Derived.Test.YtljkifkamnbbaaaGreatDoorFactorNamesG
import Derived.KernelRfl
namespace Go.Proofs.YtljkifkamnbbaaaGreatDoor.factorNamesT
open Go

noncomputable def c22 : CE.Sum := ⟨54, [(.c (.str [97, 32, 98, 32, 99])), (.c (.str [97, 32, 98, 32, 100])), (.c (.int .u8 (.ofNat 2))), (.c (.str [97, 32, 40, 98, 32, 99, 32, 47, 32, 98, 32, 100, 41]))], 32799, gl, (.c (.bool .true)), 35771, [], 32799, 32799⟩
set_option maxRecDepth 1000000 in
theorem k22 : CE.SumOK Tryz.prog c22 := CE.SumOK.run (CE.den_ok _) (tbl := []) CE.AllOK.nil (lf := 100000) (n := 380) (by kernel_rfl)

end Go.Proofs.YtljkifkamnbbaaaGreatDoor.factorNamesT
