/- WellNames: what the kernel works out, in segments. -/
import Derived.Test.YtnbfpalcaibcfaaGreatDoorWellNamesCut
import Derived.KernelRfl
namespace Go.Proofs.YtnbfpalcaibcfaaGreatDoor.wellNames
open Go

noncomputable def c2001 : CE.Sum := ⟨15, [(.c (.str [115, 32, 60, 45, 32, 97, 32, 97, 32, 60, 45, 32, 98, 32, 34, 120, 34, 32, 98, 32, 60, 45, 32, 40, 34, 34, 41, 42, 32, 97])), (.c (.int .i64 (.ofNat 1))), (.c (.int .i64 (.ofNat 42)))], 28987, gl ++ [], (.c (.bool .true)), 30540, [], 28987, 28987⟩
set_option maxRecDepth 1000000 in
theorem k2001 : CE.SumOK Tryz.prog c2001 := CE.SumOK.run (CE.den_ok _) (tbl := []) CE.AllOK.nil (lf := 100000) (n := 380) (by kernel_rfl)

end Go.Proofs.YtnbfpalcaibcfaaGreatDoor.wellNames
