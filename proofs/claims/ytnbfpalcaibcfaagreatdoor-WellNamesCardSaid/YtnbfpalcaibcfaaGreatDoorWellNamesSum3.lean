/- WellNames: what the kernel works out, in segments. -/
import Derived.Test.YtnbfpalcaibcfaaGreatDoorWellNamesCut
import Derived.KernelRfl
namespace Go.Proofs.YtnbfpalcaibcfaaGreatDoor.wellNames
open Go

noncomputable def c2006 : CE.Sum := ⟨15, [(.c (.str [115, 32, 60, 45, 32, 97, 123, 48, 125, 32, 97, 32, 60, 45, 32, 97, 123, 48, 125, 32, 115])), (.c (.int .i64 (.ofNat 0))), (.c (.int .i64 (.ofNat 0)))], 34965, gl ++ [], (.c (.bool .true)), 36147, [], 34965, 34965⟩
set_option maxRecDepth 1000000 in
theorem k2006 : CE.SumOK Tryz.prog c2006 := CE.SumOK.run (CE.den_ok _) (tbl := []) CE.AllOK.nil (lf := 100000) (n := 380) (by kernel_rfl)

noncomputable def c2002 : CE.Sum := ⟨15, [(.c (.str [115, 32, 60, 45, 32, 40, 34, 34, 41, 42, 32, 97, 32, 60, 45, 32, 98, 32, 98, 32, 60, 45, 32, 99, 32, 99, 32, 60, 45, 32, 97])), (.c (.int .i64 (.ofNat 1))), (.c (.int .i64 (.ofNat 42)))], 30540, gl ++ [], (.c (.bool .true)), 31796, [], 30540, 30540⟩
set_option maxRecDepth 1000000 in
theorem k2002 : CE.SumOK Tryz.prog c2002 := CE.SumOK.run (CE.den_ok _) (tbl := []) CE.AllOK.nil (lf := 100000) (n := 380) (by kernel_rfl)

end Go.Proofs.YtnbfpalcaibcfaaGreatDoor.wellNames
