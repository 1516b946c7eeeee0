/- FactorNames: calls that are told, worked out by the kernel. -/
import Derived.Test.YtljkifkamnbbaaaGreatDoorFactorNamesG
import Derived.KernelRfl
namespace Go.Proofs.YtljkifkamnbbaaaGreatDoor.factorNamesT
open Go

noncomputable def c21 : CE.Sum := ⟨54, [(.c (.str [40, 97, 32, 47, 32, 98, 41, 32, 99])), (.c (.str [40, 97, 32, 47, 32, 98, 41, 32, 100])), (.c (.int .u8 (.ofNat 2))), (.c (.str [40, 97, 32, 47, 32, 98, 41, 32, 40, 99, 32, 47, 32, 100, 41]))], 29911, gl, (.c (.bool .true)), 32798, [], 29911, 29911⟩
set_option maxRecDepth 1000000 in
theorem k21 : CE.SumOK Tryz.prog c21 := CE.SumOK.run (CE.den_ok _) (tbl := []) CE.AllOK.nil (lf := 100000) (n := 380) (by kernel_rfl)

end Go.Proofs.YtljkifkamnbbaaaGreatDoor.factorNamesT
