/- FuelNames: calls that are told, worked out by the kernel. -/
import Derived.Test.YtfdagmnikelocaaGreatDoorFuelNamesG
import Derived.KernelRfl
namespace Go.Proofs.YtfdagmnikelocaaGreatDoor.fuelNamesT
open Go

noncomputable def c15 : CE.Sum := ⟨6, [(.c (.str [97, 32, 60, 45, 32, 34, 120, 34, 32, 46, 32, 47, 32, 98, 32, 98, 32, 60, 45, 32, 33, 46])), (.c (.int .i64 (.ofNat 1))), (.c (.int .i64 (.ofNat 0))), (.c (.int .i64 (.ofNat 26)))], 5100, gl, (.c (.bool .true)), 5813, [], 5100, 5100⟩
set_option maxRecDepth 1000000 in
theorem k15 : CE.SumOK Tryz.prog c15 := CE.SumOK.run (CE.den_ok _) (tbl := []) CE.AllOK.nil (lf := 100000) (n := 380) (by kernel_rfl)

noncomputable def c16 : CE.Sum := ⟨6, [(.c (.str [97, 32, 60, 45, 32, 34, 120, 34, 42])), (.c (.int .i64 (.ofNat 3))), (.c (.int .i64 (.ofNat 0))), (.c (.int .i64 (.ofNat 28)))], 5813, gl, (.c (.bool .true)), 6054, [], 5813, 5813⟩
set_option maxRecDepth 1000000 in
theorem k16 : CE.SumOK Tryz.prog c16 := CE.SumOK.run (CE.den_ok _) (tbl := []) CE.AllOK.nil (lf := 100000) (n := 380) (by kernel_rfl)

end Go.Proofs.YtfdagmnikelocaaGreatDoor.fuelNamesT
