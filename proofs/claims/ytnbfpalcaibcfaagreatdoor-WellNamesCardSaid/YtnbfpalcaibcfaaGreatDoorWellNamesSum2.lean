/- WellNames: what the kernel works out, in segments. -/
import Derived.Test.YtnbfpalcaibcfaaGreatDoorWellNamesCut
import Derived.KernelRfl
namespace Go.Proofs.YtnbfpalcaibcfaaGreatDoor.wellNames
open Go

noncomputable def c1006 : CE.Sum := ⟨15, [(.c (.str [97, 32, 60, 45, 32, 34, 120, 34, 32, 97, 32, 47, 32, 34, 34])), (.c (.int .i64 (.ofNat 0))), (.c (.int .i64 (.ofNat 0)))], 4987, gl ++ [], (.c (.bool .true)), 6086, [], 4987, 4987⟩
set_option maxRecDepth 1000000 in
theorem k1006 : CE.SumOK Tryz.prog c1006 := CE.SumOK.run (CE.den_ok _) (tbl := []) CE.AllOK.nil (lf := 100000) (n := 380) (by kernel_rfl)

noncomputable def c1001 : CE.Sum := ⟨15, [(.c (.str [97, 32, 60, 45, 32, 98, 32, 98, 32, 60, 45, 32, 34, 120, 34, 63, 32, 97])), (.c (.int .i64 (.ofNat 0))), (.c (.int .i64 (.ofNat 42)))], 937, gl ++ [], (.c (.bool .true)), 1911, [], 937, 937⟩
set_option maxRecDepth 1000000 in
theorem k1001 : CE.SumOK Tryz.prog c1001 := CE.SumOK.run (CE.den_ok _) (tbl := []) CE.AllOK.nil (lf := 100000) (n := 380) (by kernel_rfl)

end Go.Proofs.YtnbfpalcaibcfaaGreatDoor.wellNames
