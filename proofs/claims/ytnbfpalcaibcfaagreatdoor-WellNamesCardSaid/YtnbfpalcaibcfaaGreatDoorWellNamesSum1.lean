/- WellNames: what the kernel works out, in segments. -/
import Derived.Test.YtnbfpalcaibcfaaGreatDoorWellNamesCut
import Derived.KernelRfl
namespace Go.Proofs.YtnbfpalcaibcfaaGreatDoor.wellNames
open Go

noncomputable def c1002 : CE.Sum := ⟨15, [(.c (.str [97, 32, 60, 45, 32, 98, 32, 98, 32, 60, 45, 32, 34, 120, 34, 32, 97])), (.c (.int .i64 (.ofNat 0))), (.c (.int .i64 (.ofNat 0)))], 1911, gl ++ [], (.c (.bool .true)), 2832, [], 1911, 1911⟩
set_option maxRecDepth 1000000 in
theorem k1002 : CE.SumOK Tryz.prog c1002 := CE.SumOK.run (CE.den_ok _) (tbl := []) CE.AllOK.nil (lf := 100000) (n := 380) (by kernel_rfl)

noncomputable def c1000 : CE.Sum := ⟨15, [(.c (.str [97, 32, 60, 45, 32, 97, 32, 34, 120, 34, 32, 47, 32, 34, 121, 34])), (.c (.int .i64 (.ofNat 0))), (.c (.int .i64 (.ofNat 42)))], 10, gl ++ [], (.c (.bool .true)), 937, [], 10, 10⟩
set_option maxRecDepth 1000000 in
theorem k1000 : CE.SumOK Tryz.prog c1000 := CE.SumOK.run (CE.den_ok _) (tbl := []) CE.AllOK.nil (lf := 100000) (n := 380) (by kernel_rfl)

end Go.Proofs.YtnbfpalcaibcfaaGreatDoor.wellNames
