/- The examples: what the kernel works out. -/
import Derived.Test.YtfjpbedcopdglaaGreatDoorFirG
import Derived.KernelRfl
namespace Go.Proofs.YtfjpbedcopdglaaGreatDoor.fir
open Go

noncomputable def c2 : CE.Sum := ⟨16, [(.c (.str [97, 32, 60, 45, 32, 34, 120, 34, 32, 47, 32, 97])), (.c (.str [34, 97, 34, 42])), (.c (.str [97])), (.c (.bool .true))], 1763, gl, (.c (.bool .true)), 2584, [], 1763, 1763⟩
set_option maxRecDepth 1000000 in
theorem k2 : CE.SumOK Tryz.prog c2 := CE.SumOK.run (CE.den_ok _) (tbl := []) CE.AllOK.nil (lf := 100000) (n := 380) (by kernel_rfl)

noncomputable def c3 : CE.Sum := ⟨16, [(.c (.str [97, 32, 60, 45, 32, 34, 120, 34, 32, 47, 32, 97])), (.c (.str [33, 34, 97, 34, 32, 91, 97, 45, 99, 93])), (.c (.str [97, 98, 99])), (.c (.bool .false))], 2584, gl, (.c (.bool .true)), 3600, [], 2584, 2584⟩
set_option maxRecDepth 1000000 in
theorem k3 : CE.SumOK Tryz.prog c3 := CE.SumOK.run (CE.den_ok _) (tbl := []) CE.AllOK.nil (lf := 100000) (n := 380) (by kernel_rfl)

end Go.Proofs.YtfjpbedcopdglaaGreatDoor.fir
