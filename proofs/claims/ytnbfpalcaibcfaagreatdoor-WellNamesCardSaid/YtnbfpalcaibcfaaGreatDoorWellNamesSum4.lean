/- WellNames: what the kernel works out, in segments. -/
import Derived.Test.YtnbfpalcaibcfaaGreatDoorWellNamesCut
import Derived.KernelRfl
namespace Go.Proofs.YtnbfpalcaibcfaaGreatDoor.wellNames
open Go

noncomputable def c2005 : CE.Sum := ⟨15, [(.c (.str [115, 32, 60, 45, 32, 91, 93, 32, 115, 49, 32, 60, 45, 32, 115, 50, 32, 115, 50, 32, 60, 45, 32, 115, 32, 115, 49])), (.c (.int .i64 (.ofNat 0))), (.c (.int .i64 (.ofNat 0)))], 33782, gl ++ [], (.c (.bool .true)), 34965, [], 33782, 33782⟩
set_option maxRecDepth 1000000 in
theorem k2005 : CE.SumOK Tryz.prog c2005 := CE.SumOK.run (CE.den_ok _) (tbl := []) CE.AllOK.nil (lf := 100000) (n := 380) (by kernel_rfl)

noncomputable def c2004 : CE.Sum := ⟨15, [(.c (.str [115, 32, 60, 45, 32, 98, 32, 97, 32, 60, 45, 32, 115, 32, 34, 120, 34, 32, 98, 32, 60, 45, 32, 97])), (.c (.int .i64 (.ofNat 0))), (.c (.int .i64 (.ofNat 42)))], 32747, gl ++ [], (.c (.bool .true)), 33782, [], 32747, 32747⟩
set_option maxRecDepth 1000000 in
theorem k2004 : CE.SumOK Tryz.prog c2004 := CE.SumOK.run (CE.den_ok _) (tbl := []) CE.AllOK.nil (lf := 100000) (n := 380) (by kernel_rfl)

end Go.Proofs.YtnbfpalcaibcfaaGreatDoor.wellNames
