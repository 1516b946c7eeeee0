/- WellNames: what the kernel works out, in segments. -/
import Derived.Test.YtnbfpalcaibcfaaGreatDoorWellNamesSnap0
import Derived.Test.YtnbfpalcaibcfaaGreatDoorWellNamesSum3
import Derived.Test.YtnbfpalcaibcfaaGreatDoorWellNamesSum4
import Derived.Test.YtnbfpalcaibcfaaGreatDoorWellNamesSum5
import Derived.Test.YtnbfpalcaibcfaaGreatDoorWellNamesSum6
import Derived.KernelRfl
namespace Go.Proofs.YtnbfpalcaibcfaaGreatDoor.wellNames
open Go

set_option maxRecDepth 1000000 in
theorem t21 : CE.RunsTo Tryz.prog 141 3 (CE.cA (CE.cA (CE.cB (CE.cB (CE.cB body))))) s21 .norm s22 :=
  CE.RunsTo.seg (cx := ⟨CE.lowT Tryz.prog [c2006, c2002, c2005, c2004, c2000, c2001] 100000 400, 100000, none⟩) (CE.den_ok _) (CE.lowT_ok (CE.den_ok _) (CE.AllOK.cons k2006 (CE.AllOK.cons k2002 (CE.AllOK.cons k2005 (CE.AllOK.cons k2004 (CE.AllOK.cons k2000 (CE.AllOK.cons k2001 CE.AllOK.nil)))))) 100000 400) rfl (by kernel_rfl)

end Go.Proofs.YtnbfpalcaibcfaaGreatDoor.wellNames
