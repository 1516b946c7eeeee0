/- FuelNames: calls that are told, worked out by the kernel. -/
import Derived.Test.YtfdagmnikelocaaGreatDoorFuelNamesG
import Derived.KernelRfl
namespace Go.Proofs.YtfdagmnikelocaaGreatDoor.fuelNamesT
open Go

noncomputable def c12 : CE.Sum := ⟨5, [(.c (.str [97, 32, 60, 45, 32, 33, 38, 60, 110, 58, 32, 91, 120, 93, 62])), (.c (.int .i64 (.ofNat 4)))], 4241, gl, (.c (.bool .true)), 4754, [], 4241, 4241⟩
set_option maxRecDepth 1000000 in
theorem k12 : CE.SumOK Tryz.prog c12 := CE.SumOK.run (CE.den_ok _) (tbl := []) CE.AllOK.nil (lf := 100000) (n := 380) (by kernel_rfl)

noncomputable def c13 : CE.Sum := ⟨6, [(.c (.str [97, 32, 60, 45, 32, 34, 34])), (.c (.int .i64 (.ofNat 0))), (.c (.int .i64 (.ofNat 0))), (.c (.int .i64 (.ofNat 1)))], 4754, gl, (.c (.bool .true)), 4927, [], 4754, 4754⟩
set_option maxRecDepth 1000000 in
theorem k13 : CE.SumOK Tryz.prog c13 := CE.SumOK.run (CE.den_ok _) (tbl := []) CE.AllOK.nil (lf := 100000) (n := 380) (by kernel_rfl)

noncomputable def c14 : CE.Sum := ⟨6, [(.c (.str [97, 32, 60, 45, 32, 34, 34])), (.c (.int .i64 (.ofNat 5))), (.c (.int .i64 (.ofNat 7))), (.c (.int .i64 (.ofNat 13)))], 4927, gl, (.c (.bool .true)), 5100, [], 4927, 4927⟩
set_option maxRecDepth 1000000 in
theorem k14 : CE.SumOK Tryz.prog c14 := CE.SumOK.run (CE.den_ok _) (tbl := []) CE.AllOK.nil (lf := 100000) (n := 380) (by kernel_rfl)

end Go.Proofs.YtfdagmnikelocaaGreatDoor.fuelNamesT
