/- FuelNames: calls that are told, worked out by the kernel. -/
import Derived.Test.YtfdagmnikelocaaGreatDoorFuelNamesG
import Derived.KernelRfl
namespace Go.Proofs.YtfdagmnikelocaaGreatDoor.fuelNamesT
open Go

noncomputable def c9 : CE.Sum := ⟨5, [(.c (.str [97, 32, 60, 45, 32, 34, 120, 34, 63])), (.c (.int .i64 (.ofNat 4)))], 3524, gl, (.c (.bool .true)), 3761, [], 3524, 3524⟩
set_option maxRecDepth 1000000 in
theorem k9 : CE.SumOK Tryz.prog c9 := CE.SumOK.run (CE.den_ok _) (tbl := []) CE.AllOK.nil (lf := 100000) (n := 380) (by kernel_rfl)

noncomputable def c10 : CE.Sum := ⟨5, [(.c (.str [97, 32, 60, 45, 32, 34, 120, 34, 123, 48, 125])), (.c (.int .i64 (.ofNat 3)))], 3761, gl, (.c (.bool .true)), 4001, [], 3761, 3761⟩
set_option maxRecDepth 1000000 in
theorem k10 : CE.SumOK Tryz.prog c10 := CE.SumOK.run (CE.den_ok _) (tbl := []) CE.AllOK.nil (lf := 100000) (n := 380) (by kernel_rfl)

noncomputable def c11 : CE.Sum := ⟨5, [(.c (.str [97, 32, 60, 45, 32, 34, 120, 34, 123, 51, 44, 125])), (.c (.int .i64 (.ofNat 6)))], 4001, gl, (.c (.bool .true)), 4241, [], 4001, 4001⟩
set_option maxRecDepth 1000000 in
theorem k11 : CE.SumOK Tryz.prog c11 := CE.SumOK.run (CE.den_ok _) (tbl := []) CE.AllOK.nil (lf := 100000) (n := 380) (by kernel_rfl)

end Go.Proofs.YtfdagmnikelocaaGreatDoor.fuelNamesT
