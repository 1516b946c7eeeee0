/- FuelNames: calls that are told, worked out by the kernel. -/
import Derived.Test.YtfdagmnikelocaaGreatDoorFuelNamesG
import Derived.KernelRfl
namespace Go.Proofs.YtfdagmnikelocaaGreatDoor.fuelNamesT
open Go

noncomputable def c17 : CE.Sum := ⟨6, [(.c (.str [97, 32, 60, 45, 32, 34, 120, 34, 123, 50, 44, 57, 125])), (.c (.int .i64 (.ofNat 3))), (.c (.int .i64 (.ofNat 1))), (.c (.int .i64 (.ofNat 65)))], 6054, gl, (.c (.bool .true)), 6297, [], 6054, 6054⟩
set_option maxRecDepth 1000000 in
theorem k17 : CE.SumOK Tryz.prog c17 := CE.SumOK.run (CE.den_ok _) (tbl := []) CE.AllOK.nil (lf := 100000) (n := 380) (by kernel_rfl)

noncomputable def c18 : CE.Sum := ⟨6, [(.c (.str [97, 32, 60, 45, 32, 34, 120, 34, 123, 48, 125])), (.c (.int .i64 (.ofNat 3))), (.c (.int .i64 (.ofNat 0))), (.c (.int .i64 (.ofNat 28)))], 6297, gl, (.c (.bool .true)), 6540, [], 6297, 6297⟩
set_option maxRecDepth 1000000 in
theorem k18 : CE.SumOK Tryz.prog c18 := CE.SumOK.run (CE.den_ok _) (tbl := []) CE.AllOK.nil (lf := 100000) (n := 380) (by kernel_rfl)

noncomputable def c19 : CE.Sum := ⟨6, [(.c (.str [97, 32, 60, 45, 32, 38, 60, 110, 58, 32, 46, 62])), (.c (.int .i64 (.ofNat 0))), (.c (.int .i64 (.ofNat 0))), (.c (.int .i64 (.ofNat 5)))], 6540, gl, (.c (.bool .true)), 6909, [], 6540, 6540⟩
set_option maxRecDepth 1000000 in
theorem k19 : CE.SumOK Tryz.prog c19 := CE.SumOK.run (CE.den_ok _) (tbl := []) CE.AllOK.nil (lf := 100000) (n := 380) (by kernel_rfl)

end Go.Proofs.YtfdagmnikelocaaGreatDoor.fuelNamesT
