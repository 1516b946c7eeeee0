/- FactorNames: calls that are told, worked out by the kernel. -/
import Derived.Test.YtljkifkamnbbaaaGreatDoorFactorNamesG
import Derived.KernelRfl
namespace Go.Proofs.YtljkifkamnbbaaaGreatDoor.factorNamesT
open Go

noncomputable def c24 : CE.Sum := ⟨54, [(.c (.str [34, 97, 98, 34, 32, 99])), (.c (.str [34, 97, 34])), (.c (.int .u8 (.ofNat 3))), (.c (.str [34, 97, 34, 32, 40, 34, 98, 34, 32, 99, 32, 47, 32, 34, 34, 41]))], 38659, gl, (.c (.bool .true)), 40757, [], 38659, 38659⟩
set_option maxRecDepth 1000000 in
theorem k24 : CE.SumOK Tryz.prog c24 := CE.SumOK.run (CE.den_ok _) (tbl := []) CE.AllOK.nil (lf := 100000) (n := 380) (by kernel_rfl)

end Go.Proofs.YtljkifkamnbbaaaGreatDoor.factorNamesT
