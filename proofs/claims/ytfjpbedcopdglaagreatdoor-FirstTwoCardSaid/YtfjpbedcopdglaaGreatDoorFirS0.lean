/- The examples: what the kernel works out. -/
import Derived.Test.YtfjpbedcopdglaaGreatDoorFirG
import Derived.KernelRfl
namespace Go.Proofs.YtfjpbedcopdglaaGreatDoor.fir
open Go

noncomputable def c0 : CE.Sum := ⟨16, [(.c (.str [97, 32, 60, 45, 32, 34, 120, 34, 32, 47, 32, 97])), (.c (.str [34, 97, 98, 34])), (.c (.str [97])), (.c (.bool .false))], 10, gl, (.c (.bool .true)), 753, [], 10, 10⟩
set_option maxRecDepth 1000000 in
theorem k0 : CE.SumOK Tryz.prog c0 := CE.SumOK.run (CE.den_ok _) (tbl := []) CE.AllOK.nil (lf := 100000) (n := 380) (by kernel_rfl)

noncomputable def c1 : CE.Sum := ⟨16, [(.c (.str [97, 32, 60, 45, 32, 34, 120, 34, 32, 47, 32, 97])), (.c (.str [34, 97, 34, 63, 32, 34, 98, 34])), (.c (.str [97, 98])), (.c (.bool .false))], 753, gl, (.c (.bool .true)), 1763, [], 753, 753⟩
set_option maxRecDepth 1000000 in
theorem k1 : CE.SumOK Tryz.prog c1 := CE.SumOK.run (CE.den_ok _) (tbl := []) CE.AllOK.nil (lf := 100000) (n := 380) (by kernel_rfl)

end Go.Proofs.YtfjpbedcopdglaaGreatDoor.fir
