/- The examples: what the kernel works out. -/
import Derived.Test.YtfjpbedcopdglaaGreatDoorFirG
import Derived.KernelRfl
namespace Go.Proofs.YtfjpbedcopdglaaGreatDoor.fir
open Go

noncomputable def c6 : CE.Sum := ⟨16, [(.c (.str [97, 32, 60, 45, 32, 34, 120, 34, 32, 47, 32, 97])), (.c (.str [38, 91, 93])), (.c (.str [])), (.c (.bool .false))], 5140, gl, (.c (.bool .true)), 5954, [], 5140, 5140⟩
set_option maxRecDepth 1000000 in
theorem k6 : CE.SumOK Tryz.prog c6 := CE.SumOK.run (CE.den_ok _) (tbl := []) CE.AllOK.nil (lf := 100000) (n := 380) (by kernel_rfl)

end Go.Proofs.YtfjpbedcopdglaaGreatDoor.fir
