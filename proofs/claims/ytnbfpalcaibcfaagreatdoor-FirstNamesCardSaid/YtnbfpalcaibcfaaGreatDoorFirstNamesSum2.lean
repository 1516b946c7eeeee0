/- FirstNames: what the kernel works out, in segments. -/
import Derived.Test.YtnbfpalcaibcfaaGreatDoorFirstNamesCut
import Derived.KernelRfl
namespace Go.Proofs.YtnbfpalcaibcfaaGreatDoor.firstNames
open Go

noncomputable def c1002 : CE.Sum := ⟨6, [(.c (.str [97, 32, 60, 45, 32, 34, 120, 34, 32, 47, 32, 97])), (.c (.str [34, 97, 34, 42])), (.c (.str [97])), (.c (.bool .true))], 1763, gl ++ [], (.c (.bool .true)), 2584, [], 1763, 1763⟩
set_option maxRecDepth 1000000 in
theorem k1002 : CE.SumOK Tryz.prog c1002 := CE.SumOK.run (CE.den_ok _) (tbl := []) CE.AllOK.nil (lf := 100000) (n := 380) (by kernel_rfl)

end Go.Proofs.YtnbfpalcaibcfaaGreatDoor.firstNames
