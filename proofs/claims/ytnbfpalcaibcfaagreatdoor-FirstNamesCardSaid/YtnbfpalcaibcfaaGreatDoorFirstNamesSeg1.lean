/- FirstNames: what the kernel works out, in segments. -/
import Derived.Test.YtnbfpalcaibcfaaGreatDoorFirstNamesSnap0
import Derived.Test.YtnbfpalcaibcfaaGreatDoorFirstNamesSum0
import Derived.Test.YtnbfpalcaibcfaaGreatDoorFirstNamesSum1
import Derived.Test.YtnbfpalcaibcfaaGreatDoorFirstNamesSum2
import Derived.KernelRfl
namespace Go.Proofs.YtnbfpalcaibcfaaGreatDoor.firstNames
open Go

set_option maxRecDepth 1000000 in
theorem t1 : CE.RunsTo Tryz.prog 172 3 (CE.cA (CE.cA (CE.cB body))) s1 .norm s2 :=
  CE.RunsTo.seg (cx := ⟨CE.lowT Tryz.prog [c1006, c1000, c1005, c1001, c1003, c1002] 100000 400, 100000, none⟩) (CE.den_ok _) (CE.lowT_ok (CE.den_ok _) (CE.AllOK.cons k1006 (CE.AllOK.cons k1000 (CE.AllOK.cons k1005 (CE.AllOK.cons k1001 (CE.AllOK.cons k1003 (CE.AllOK.cons k1002 CE.AllOK.nil)))))) 100000 400) rfl (by kernel_rfl)

end Go.Proofs.YtnbfpalcaibcfaaGreatDoor.firstNames
