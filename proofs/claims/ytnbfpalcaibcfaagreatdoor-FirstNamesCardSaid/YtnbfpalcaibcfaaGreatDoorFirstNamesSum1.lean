/- FirstNames: what the kernel works out, in segments. -/
import Derived.Test.YtnbfpalcaibcfaaGreatDoorFirstNamesCut
import Derived.KernelRfl
namespace Go.Proofs.YtnbfpalcaibcfaaGreatDoor.firstNames
open Go

noncomputable def c1001 : CE.Sum := ⟨6, [(.c (.str [97, 32, 60, 45, 32, 34, 120, 34, 32, 47, 32, 97])), (.c (.str [34, 97, 34, 63, 32, 34, 98, 34])), (.c (.str [97, 98])), (.c (.bool .false))], 753, gl ++ [], (.c (.bool .true)), 1763, [], 753, 753⟩
set_option maxRecDepth 1000000 in
theorem k1001 : CE.SumOK Tryz.prog c1001 := CE.SumOK.run (CE.den_ok _) (tbl := []) CE.AllOK.nil (lf := 100000) (n := 380) (by kernel_rfl)

noncomputable def c1003 : CE.Sum := ⟨6, [(.c (.str [97, 32, 60, 45, 32, 34, 120, 34, 32, 47, 32, 97])), (.c (.str [33, 34, 97, 34, 32, 91, 97, 45, 99, 93])), (.c (.str [97, 98, 99])), (.c (.bool .false))], 2584, gl ++ [], (.c (.bool .true)), 3600, [], 2584, 2584⟩
set_option maxRecDepth 1000000 in
theorem k1003 : CE.SumOK Tryz.prog c1003 := CE.SumOK.run (CE.den_ok _) (tbl := []) CE.AllOK.nil (lf := 100000) (n := 380) (by kernel_rfl)

end Go.Proofs.YtnbfpalcaibcfaaGreatDoor.firstNames
