/- FuelNames: calls that are told, worked out by the kernel. -/
import Derived.Test.YtfdagmnikelocaaGreatDoorFuelNamesG
import Derived.KernelRfl
namespace Go.Proofs.YtfdagmnikelocaaGreatDoor.fuelNamesT
open Go

noncomputable def c6 : CE.Sum := ⟨5, [(.c (.str [97, 32, 60, 45, 32, 98, 32, 98, 32, 60, 45, 32, 34, 97, 98, 99, 34])), (.c (.int .i64 (.ofNat 5)))], 2806, gl, (.c (.bool .true)), 3047, [], 2806, 2806⟩
set_option maxRecDepth 1000000 in
theorem k6 : CE.SumOK Tryz.prog c6 := CE.SumOK.run (CE.den_ok _) (tbl := []) CE.AllOK.nil (lf := 100000) (n := 380) (by kernel_rfl)

noncomputable def c7 : CE.Sum := ⟨5, [(.c (.str [97, 32, 60, 45, 32, 34, 120, 34, 42])), (.c (.int .i64 (.ofNat 3)))], 3047, gl, (.c (.bool .true)), 3285, [], 3047, 3047⟩
set_option maxRecDepth 1000000 in
theorem k7 : CE.SumOK Tryz.prog c7 := CE.SumOK.run (CE.den_ok _) (tbl := []) CE.AllOK.nil (lf := 100000) (n := 380) (by kernel_rfl)

noncomputable def c8 : CE.Sum := ⟨5, [(.c (.str [97, 32, 60, 45, 32, 34, 120, 34, 43])), (.c (.int .i64 (.ofNat 4)))], 3285, gl, (.c (.bool .true)), 3524, [], 3285, 3285⟩
set_option maxRecDepth 1000000 in
theorem k8 : CE.SumOK Tryz.prog c8 := CE.SumOK.run (CE.den_ok _) (tbl := []) CE.AllOK.nil (lf := 100000) (n := 380) (by kernel_rfl)

end Go.Proofs.YtfdagmnikelocaaGreatDoor.fuelNamesT
