/- CheckNames: calls that are told, worked out by the kernel. -/
import Derived.Test.YtgffldphnbeddaaGreatDoorCheckNamesG
import Derived.KernelRfl
import Derived.Test.YtgffldphnbeddaaGreatDoorCheckNamesS0
import Derived.Test.YtgffldphnbeddaaGreatDoorCheckNamesS10
import Derived.Test.YtgffldphnbeddaaGreatDoorCheckNamesS11
namespace Go.Proofs.YtgffldphnbeddaaGreatDoor.checkNamesT
open Go

noncomputable def c12 : CE.Sum := ⟨4, [], 10, gl, (.c (.bool .true)), 4350, [], 10, 10⟩
set_option maxRecDepth 1000000 in
theorem k12 : CE.SumOK Tryz.prog c12 := CE.SumOK.run (CE.den_ok _) (tbl := [c0, c2, c4, c5, c6, c7, c9, c11]) (CE.AllOK.cons k0 (CE.AllOK.cons k2 (CE.AllOK.cons k4 (CE.AllOK.cons k5 (CE.AllOK.cons k6 (CE.AllOK.cons k7 (CE.AllOK.cons k9 (CE.AllOK.cons k11 CE.AllOK.nil)))))))) (lf := 100000) (n := 380) (by kernel_rfl)

end Go.Proofs.YtgffldphnbeddaaGreatDoor.checkNamesT
