/- The examples: what the kernel works out. -/
import Derived.Test.YtfjpbedcopdglaaGreatDoorFirG
import Derived.KernelRfl
namespace Go.Proofs.YtfjpbedcopdglaaGreatDoor.fir
open Go

noncomputable def c4 : CE.Sum := ⟨16, [(.c (.str [97, 32, 60, 45, 32, 34, 120, 34, 32, 47, 32, 97])), (.c (.str [97])), (.c (.str [120])), (.c (.bool .false))], 3600, gl, (.c (.bool .true)), 4330, [], 3600, 3600⟩
set_option maxRecDepth 1000000 in
theorem k4 : CE.SumOK Tryz.prog c4 := CE.SumOK.run (CE.den_ok _) (tbl := []) CE.AllOK.nil (lf := 100000) (n := 380) (by kernel_rfl)

noncomputable def c5 : CE.Sum := ⟨16, [(.c (.str [97, 32, 60, 45, 32, 34, 120, 34, 32, 47, 32, 97])), (.c (.str [97, 63])), (.c (.str [120])), (.c (.bool .true))], 4330, gl, (.c (.bool .true)), 5140, [], 4330, 4330⟩
set_option maxRecDepth 1000000 in
theorem k5 : CE.SumOK Tryz.prog c5 := CE.SumOK.run (CE.den_ok _) (tbl := []) CE.AllOK.nil (lf := 100000) (n := 380) (by kernel_rfl)

end Go.Proofs.YtfjpbedcopdglaaGreatDoor.fir
