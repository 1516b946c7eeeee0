/- FirstNames: what the kernel works out, in segments. -/
import Derived.Test.YtnbfpalcaibcfaaGreatDoorFirstNamesSnap0
import Derived.KernelRfl
namespace Go.Proofs.YtnbfpalcaibcfaaGreatDoor.firstNames
open Go

set_option maxRecDepth 1000000 in
theorem t127 : CE.RunsTo Tryz.prog 172 3 (CE.cA (CE.cB (CE.cA (CE.cA (CE.cB (CE.cB (CE.cA (CE.cA (CE.cB (CE.cA (CE.cB (CE.cB body)))))))))))) s127 .norm s128 :=
  CE.RunsTo.seg (cx := ⟨CE.lowT Tryz.prog [] 100000 400, 100000, none⟩) (CE.den_ok _) (CE.lowT_ok (CE.den_ok _) CE.AllOK.nil 100000 400) rfl (by kernel_rfl)

set_option maxRecDepth 1000000 in
theorem t128 : CE.RunsTo Tryz.prog 172 3 (CE.cB (CE.cB (CE.cA (CE.cA (CE.cB (CE.cB (CE.cA (CE.cA (CE.cB (CE.cA (CE.cB (CE.cB body)))))))))))) s128 .norm s129 :=
  CE.RunsTo.seg (cx := ⟨CE.lowT Tryz.prog [] 100000 400, 100000, none⟩) (CE.den_ok _) (CE.lowT_ok (CE.den_ok _) CE.AllOK.nil 100000 400) rfl (by kernel_rfl)

set_option maxRecDepth 1000000 in
theorem t129 : CE.RunsTo Tryz.prog 172 3 (CE.cB (CE.cB (CE.cB (CE.cA (CE.cA (CE.cB (CE.cA (CE.cB (CE.cB body))))))))) s129 .norm s130 :=
  CE.RunsTo.seg (cx := ⟨CE.lowT Tryz.prog [] 100000 400, 100000, none⟩) (CE.den_ok _) (CE.lowT_ok (CE.den_ok _) CE.AllOK.nil 100000 400) rfl (by kernel_rfl)

set_option maxRecDepth 1000000 in
theorem t130 : CE.RunsTo Tryz.prog 172 3 (CE.cA (CE.cA (CE.cA (CE.cB (CE.cA (CE.cB (CE.cB body))))))) s130 .norm s131 :=
  CE.RunsTo.seg (cx := ⟨CE.lowT Tryz.prog [] 100000 400, 100000, none⟩) (CE.den_ok _) (CE.lowT_ok (CE.den_ok _) CE.AllOK.nil 100000 400) rfl (by kernel_rfl)

set_option maxRecDepth 1000000 in
theorem t131 : CE.RunsTo Tryz.prog 172 3 (CE.cA (CE.cB (CE.cA (CE.cA (CE.cB (CE.cA (CE.cB (CE.cB body)))))))) s131 .norm s132 :=
  CE.RunsTo.seg (cx := ⟨CE.lowT Tryz.prog [] 100000 400, 100000, none⟩) (CE.den_ok _) (CE.lowT_ok (CE.den_ok _) CE.AllOK.nil 100000 400) rfl (by kernel_rfl)

set_option maxRecDepth 1000000 in
theorem t132 : CE.RunsTo Tryz.prog 172 3 (CE.cA (CE.cA (CE.cA (CE.cB (CE.cB (CE.cA (CE.cA (CE.cB (CE.cA (CE.cB (CE.cB body))))))))))) s132 .norm s133 :=
  CE.RunsTo.seg (cx := ⟨CE.lowT Tryz.prog [] 100000 400, 100000, none⟩) (CE.den_ok _) (CE.lowT_ok (CE.den_ok _) CE.AllOK.nil 100000 400) rfl (by kernel_rfl)

end Go.Proofs.YtnbfpalcaibcfaaGreatDoor.firstNames
