/- WellNames: what the kernel works out, in segments. -/
import Derived.Test.YtnbfpalcaibcfaaGreatDoorWellNamesCut
import Derived.KernelRfl
namespace Go.Proofs.YtnbfpalcaibcfaaGreatDoor.wellNames
open Go

noncomputable def c2000 : CE.Sum := ⟨15, [(.c (.str [115, 32, 60, 45, 32, 98, 32, 97, 32, 60, 45, 32, 34, 120, 34, 32, 98, 32, 60, 45, 32, 99, 32, 99, 32, 60, 45, 32, 100, 42, 32, 100, 32, 60, 45, 32, 34, 34])), (.c (.int .i64 (.ofNat 3))), (.c (.int .i64 (.ofNat 43)))], 27239, gl ++ [], (.c (.bool .true)), 28987, [], 27239, 27239⟩
set_option maxRecDepth 1000000 in
theorem k2000 : CE.SumOK Tryz.prog c2000 := CE.SumOK.run (CE.den_ok _) (tbl := []) CE.AllOK.nil (lf := 100000) (n := 380) (by kernel_rfl)

end Go.Proofs.YtnbfpalcaibcfaaGreatDoor.wellNames
