/- FuelNames: calls that are told, worked out by the kernel. -/
import Derived.Test.YtfdagmnikelocaaGreatDoorFuelNamesG
import Derived.KernelRfl
namespace Go.Proofs.YtfdagmnikelocaaGreatDoor.fuelNamesT
open Go

noncomputable def c2 : CE.Sum := ⟨5, [(.c (.str [97, 32, 60, 45, 32, 34, 97, 98, 34, 123, 50, 44, 53, 125])), (.c (.int .i64 (.ofNat 11)))], 2010, gl, (.c (.bool .true)), 2253, [], 2010, 2010⟩
set_option maxRecDepth 1000000 in
theorem k2 : CE.SumOK Tryz.prog c2 := CE.SumOK.run (CE.den_ok _) (tbl := []) CE.AllOK.nil (lf := 100000) (n := 380) (by kernel_rfl)

noncomputable def c4 : CE.Sum := ⟨5, [(.c (.str [97, 32, 60, 45, 32, 34, 34])), (.c (.int .i64 (.ofNat 1)))], 2253, gl, (.c (.bool .true)), 2424, [], 2253, 2253⟩
set_option maxRecDepth 1000000 in
theorem k4 : CE.SumOK Tryz.prog c4 := CE.SumOK.run (CE.den_ok _) (tbl := []) CE.AllOK.nil (lf := 100000) (n := 380) (by kernel_rfl)

noncomputable def c5 : CE.Sum := ⟨5, [(.c (.str [97, 32, 60, 45, 32, 91, 97, 45, 122, 93, 32, 46])), (.c (.int .i64 (.ofNat 3)))], 2424, gl, (.c (.bool .true)), 2806, [], 2424, 2424⟩
set_option maxRecDepth 1000000 in
theorem k5 : CE.SumOK Tryz.prog c5 := CE.SumOK.run (CE.den_ok _) (tbl := []) CE.AllOK.nil (lf := 100000) (n := 380) (by kernel_rfl)

end Go.Proofs.YtfdagmnikelocaaGreatDoor.fuelNamesT
