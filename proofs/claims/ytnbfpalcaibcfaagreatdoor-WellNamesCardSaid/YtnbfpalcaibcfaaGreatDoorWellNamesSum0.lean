/- WellNames: what the kernel works out, in segments. -/
import Derived.Test.YtnbfpalcaibcfaaGreatDoorWellNamesCut
import Derived.KernelRfl
namespace Go.Proofs.YtnbfpalcaibcfaaGreatDoor.wellNames
open Go

noncomputable def c1004 : CE.Sum := ⟨15, [(.c (.str [97, 32, 60, 45, 32, 40, 34, 120, 34, 63, 41, 123, 48, 44, 57, 125])), (.c (.int .i64 (.ofNat 0))), (.c (.int .i64 (.ofNat 0)))], 3541, gl ++ [], (.c (.bool .true)), 4249, [], 3541, 3541⟩
set_option maxRecDepth 1000000 in
theorem k1004 : CE.SumOK Tryz.prog c1004 := CE.SumOK.run (CE.den_ok _) (tbl := []) CE.AllOK.nil (lf := 100000) (n := 380) (by kernel_rfl)

noncomputable def c1005 : CE.Sum := ⟨15, [(.c (.str [97, 32, 60, 45, 32, 33, 97, 32, 34, 120, 34])), (.c (.int .i64 (.ofNat 0))), (.c (.int .i64 (.ofNat 42)))], 4249, gl ++ [], (.c (.bool .true)), 4987, [], 4249, 4249⟩
set_option maxRecDepth 1000000 in
theorem k1005 : CE.SumOK Tryz.prog c1005 := CE.SumOK.run (CE.den_ok _) (tbl := []) CE.AllOK.nil (lf := 100000) (n := 380) (by kernel_rfl)

end Go.Proofs.YtnbfpalcaibcfaaGreatDoor.wellNames
