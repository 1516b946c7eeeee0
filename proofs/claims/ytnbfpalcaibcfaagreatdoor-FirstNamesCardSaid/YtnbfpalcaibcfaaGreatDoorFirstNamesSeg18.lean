/- FirstNames: what the kernel works out, in segments. -/
import Derived.Test.YtnbfpalcaibcfaaGreatDoorFirstNamesSnap0
import Derived.KernelRfl
namespace Go.Proofs.YtnbfpalcaibcfaaGreatDoor.firstNames
open Go

set_option maxRecDepth 1000000 in
theorem t103 : CE.RunsTo Tryz.prog 172 3 (CE.cA (CE.cB (CE.cA (CE.cA (CE.cB (CE.cB (CE.cA (CE.cA (CE.cB (CE.cA (CE.cB (CE.cB body)))))))))))) s103 .norm s104 :=
  CE.RunsTo.seg (cx := ⟨CE.lowT Tryz.prog [] 100000 400, 100000, none⟩) (CE.den_ok _) (CE.lowT_ok (CE.den_ok _) CE.AllOK.nil 100000 400) rfl (by kernel_rfl)

set_option maxRecDepth 1000000 in
theorem t104 : CE.RunsTo Tryz.prog 172 3 (CE.cB (CE.cB (CE.cA (CE.cA (CE.cB (CE.cB (CE.cA (CE.cA (CE.cB (CE.cA (CE.cB (CE.cB body)))))))))))) s104 .norm s105 :=
  CE.RunsTo.seg (cx := ⟨CE.lowT Tryz.prog [] 100000 400, 100000, none⟩) (CE.den_ok _) (CE.lowT_ok (CE.den_ok _) CE.AllOK.nil 100000 400) rfl (by kernel_rfl)

set_option maxRecDepth 1000000 in
theorem t105 : CE.RunsTo Tryz.prog 172 3 (CE.cB (CE.cB (CE.cB (CE.cA (CE.cA (CE.cB (CE.cA (CE.cB (CE.cB body))))))))) s105 .norm s106 :=
  CE.RunsTo.seg (cx := ⟨CE.lowT Tryz.prog [] 100000 400, 100000, none⟩) (CE.den_ok _) (CE.lowT_ok (CE.den_ok _) CE.AllOK.nil 100000 400) rfl (by kernel_rfl)

set_option maxRecDepth 1000000 in
theorem t106 : CE.RunsTo Tryz.prog 172 3 (CE.cA (CE.cA (CE.cA (CE.cB (CE.cA (CE.cB (CE.cB body))))))) s106 .norm s107 :=
  CE.RunsTo.seg (cx := ⟨CE.lowT Tryz.prog [] 100000 400, 100000, none⟩) (CE.den_ok _) (CE.lowT_ok (CE.den_ok _) CE.AllOK.nil 100000 400) rfl (by kernel_rfl)

set_option maxRecDepth 1000000 in
theorem t107 : CE.RunsTo Tryz.prog 172 3 (CE.cA (CE.cB (CE.cA (CE.cA (CE.cB (CE.cA (CE.cB (CE.cB body)))))))) s107 .norm s108 :=
  CE.RunsTo.seg (cx := ⟨CE.lowT Tryz.prog [] 100000 400, 100000, none⟩) (CE.den_ok _) (CE.lowT_ok (CE.den_ok _) CE.AllOK.nil 100000 400) rfl (by kernel_rfl)

set_option maxRecDepth 1000000 in
theorem t108 : CE.RunsTo Tryz.prog 172 3 (CE.cA (CE.cA (CE.cA (CE.cB (CE.cB (CE.cA (CE.cA (CE.cB (CE.cA (CE.cB (CE.cB body))))))))))) s108 .norm s109 :=
  CE.RunsTo.seg (cx := ⟨CE.lowT Tryz.prog [] 100000 400, 100000, none⟩) (CE.den_ok _) (CE.lowT_ok (CE.den_ok _) CE.AllOK.nil 100000 400) rfl (by kernel_rfl)

end Go.Proofs.YtnbfpalcaibcfaaGreatDoor.firstNames
