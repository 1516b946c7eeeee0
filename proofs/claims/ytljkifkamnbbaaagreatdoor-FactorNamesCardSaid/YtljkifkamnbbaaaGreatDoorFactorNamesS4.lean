/- FactorNames: calls that are told, worked out by the kernel. -/
import Derived.Test.YtljkifkamnbbaaaGreatDoorFactorNamesG
import Derived.KernelRfl
namespace Go.Proofs.YtljkifkamnbbaaaGreatDoor.factorNamesT
open Go

noncomputable def c13 : CE.Sum := ⟨54, [(.c (.str [91, 97, 98, 93, 32, 99])), (.c (.str [91, 97, 98, 93])), (.c (.int .u8 (.ofNat 2))), (.c (.str [91, 97, 98, 93, 32, 40, 99, 32, 47, 32, 34, 34, 41]))], 14269, gl, (.c (.bool .true)), 15854, [], 14269, 14269⟩
set_option maxRecDepth 1000000 in
theorem k13 : CE.SumOK Tryz.prog c13 := CE.SumOK.run (CE.den_ok _) (tbl := []) CE.AllOK.nil (lf := 100000) (n := 380) (by kernel_rfl)

noncomputable def c14 : CE.Sum := ⟨54, [(.c (.str [33, 97, 32, 98])), (.c (.str [33, 97, 32, 99])), (.c (.int .u8 (.ofNat 2))), (.c (.str [33, 97, 32, 40, 98, 32, 47, 32, 99, 41]))], 15855, gl, (.c (.bool .true)), 18125, [], 15855, 15855⟩
set_option maxRecDepth 1000000 in
theorem k14 : CE.SumOK Tryz.prog c14 := CE.SumOK.run (CE.den_ok _) (tbl := []) CE.AllOK.nil (lf := 100000) (n := 380) (by kernel_rfl)

end Go.Proofs.YtljkifkamnbbaaaGreatDoor.factorNamesT
