/- FuelNames: calls that are told, worked out by the kernel. -/
import Derived.Test.YtfdagmnikelocaaGreatDoorFuelNamesG
import Derived.KernelRfl
namespace Go.Proofs.YtfdagmnikelocaaGreatDoor.fuelNamesT
open Go

noncomputable def c0 : CE.Sum := ⟨5, [(.c (.str [97, 32, 60, 45, 32, 34, 120, 34, 32, 97, 32, 47, 32, 34, 34])), (.c (.int .i64 (.ofNat 6)))], 882, gl, (.c (.bool .true)), 1443, [], 882, 882⟩
set_option maxRecDepth 1000000 in
theorem k0 : CE.SumOK Tryz.prog c0 := CE.SumOK.run (CE.den_ok _) (tbl := []) CE.AllOK.nil (lf := 100000) (n := 380) (by kernel_rfl)

noncomputable def c1 : CE.Sum := ⟨6, [(.c (.str [97, 32, 60, 45, 32, 34, 120, 34, 32, 97, 32, 47, 32, 34, 34])), (.c (.int .i64 (.ofNat 2))), (.c (.int .i64 (.ofNat 0))), (.c (.int .i64 (.ofNat 30)))], 1443, gl, (.c (.bool .true)), 2010, [], 1443, 1443⟩
set_option maxRecDepth 1000000 in
theorem k1 : CE.SumOK Tryz.prog c1 := CE.SumOK.run (CE.den_ok _) (tbl := []) CE.AllOK.nil (lf := 100000) (n := 380) (by kernel_rfl)

end Go.Proofs.YtfdagmnikelocaaGreatDoor.fuelNamesT
