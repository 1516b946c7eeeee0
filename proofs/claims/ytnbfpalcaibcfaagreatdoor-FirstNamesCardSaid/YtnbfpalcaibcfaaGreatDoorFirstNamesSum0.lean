/- FirstNames: what the kernel works out, in segments. -/
import Derived.Test.YtnbfpalcaibcfaaGreatDoorFirstNamesCut
import Derived.KernelRfl
namespace Go.Proofs.YtnbfpalcaibcfaaGreatDoor.firstNames
open Go

noncomputable def c1006 : CE.Sum := ⟨6, [(.c (.str [97, 32, 60, 45, 32, 34, 120, 34, 32, 47, 32, 97])), (.c (.str [38, 91, 93])), (.c (.str [])), (.c (.bool .false))], 5140, gl ++ [], (.c (.bool .true)), 5954, [], 5140, 5140⟩
set_option maxRecDepth 1000000 in
theorem k1006 : CE.SumOK Tryz.prog c1006 := CE.SumOK.run (CE.den_ok _) (tbl := []) CE.AllOK.nil (lf := 100000) (n := 380) (by kernel_rfl)

noncomputable def c1000 : CE.Sum := ⟨6, [(.c (.str [97, 32, 60, 45, 32, 34, 120, 34, 32, 47, 32, 97])), (.c (.str [34, 97, 98, 34])), (.c (.str [97])), (.c (.bool .false))], 10, gl ++ [], (.c (.bool .true)), 753, [], 10, 10⟩
set_option maxRecDepth 1000000 in
theorem k1000 : CE.SumOK Tryz.prog c1000 := CE.SumOK.run (CE.den_ok _) (tbl := []) CE.AllOK.nil (lf := 100000) (n := 380) (by kernel_rfl)

noncomputable def c1005 : CE.Sum := ⟨6, [(.c (.str [97, 32, 60, 45, 32, 34, 120, 34, 32, 47, 32, 97])), (.c (.str [97, 63])), (.c (.str [120])), (.c (.bool .true))], 4330, gl ++ [], (.c (.bool .true)), 5140, [], 4330, 4330⟩
set_option maxRecDepth 1000000 in
theorem k1005 : CE.SumOK Tryz.prog c1005 := CE.SumOK.run (CE.den_ok _) (tbl := []) CE.AllOK.nil (lf := 100000) (n := 380) (by kernel_rfl)

end Go.Proofs.YtnbfpalcaibcfaaGreatDoor.firstNames
