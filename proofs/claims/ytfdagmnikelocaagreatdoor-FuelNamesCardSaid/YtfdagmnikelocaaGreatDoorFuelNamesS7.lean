/- FuelNames: calls that are told, worked out by the kernel. -/
import Derived.Test.YtfdagmnikelocaaGreatDoorFuelNamesG
import Derived.KernelRfl
import Derived.Test.YtfdagmnikelocaaGreatDoorFuelNamesS0
import Derived.Test.YtfdagmnikelocaaGreatDoorFuelNamesS1
namespace Go.Proofs.YtfdagmnikelocaaGreatDoor.fuelNamesT
open Go

noncomputable def c3 : CE.Sum := ⟨4, [], 10, gl, (.c (.bool .true)), 2253, [], 10, 10⟩
set_option maxRecDepth 1000000 in
theorem k3 : CE.SumOK Tryz.prog c3 := CE.SumOK.run (CE.den_ok _) (tbl := [c0, c1, c2]) (CE.AllOK.cons k0 (CE.AllOK.cons k1 (CE.AllOK.cons k2 CE.AllOK.nil))) (lf := 100000) (n := 380) (by kernel_rfl)

end Go.Proofs.YtfdagmnikelocaaGreatDoor.fuelNamesT
