/- FirstNames: what the kernel works out, in segments. -/
import Derived.Test.YtnbfpalcaibcfaaGreatDoorFirstNamesSnap0
import Derived.KernelRfl
namespace Go.Proofs.YtnbfpalcaibcfaaGreatDoor.firstNames
open Go

set_option maxRecDepth 1000000 in
theorem t67 : CE.RunsTo Tryz.prog 172 3 (CE.cA (CE.cB (CE.cA (CE.cA (CE.cB (CE.cB (CE.cA (CE.cA (CE.cB (CE.cA (CE.cB (CE.cB body)))))))))))) s67 .norm s68 :=
  CE.RunsTo.seg (cx := ⟨CE.lowT Tryz.prog [] 100000 400, 100000, none⟩) (CE.den_ok _) (CE.lowT_ok (CE.den_ok _) CE.AllOK.nil 100000 400) rfl (by kernel_rfl)

set_option maxRecDepth 1000000 in
theorem t68 : CE.RunsTo Tryz.prog 172 3 (CE.cB (CE.cB (CE.cA (CE.cA (CE.cB (CE.cB (CE.cA (CE.cA (CE.cB (CE.cA (CE.cB (CE.cB body)))))))))))) s68 .norm s69 :=
  CE.RunsTo.seg (cx := ⟨CE.lowT Tryz.prog [] 100000 400, 100000, none⟩) (CE.den_ok _) (CE.lowT_ok (CE.den_ok _) CE.AllOK.nil 100000 400) rfl (by kernel_rfl)

set_option maxRecDepth 1000000 in
theorem t69 : CE.RunsTo Tryz.prog 172 3 (CE.cB (CE.cB (CE.cB (CE.cA (CE.cA (CE.cB (CE.cA (CE.cB (CE.cB body))))))))) s69 .norm s70 :=
  CE.RunsTo.seg (cx := ⟨CE.lowT Tryz.prog [] 100000 400, 100000, none⟩) (CE.den_ok _) (CE.lowT_ok (CE.den_ok _) CE.AllOK.nil 100000 400) rfl (by kernel_rfl)

set_option maxRecDepth 1000000 in
theorem t70 : CE.RunsTo Tryz.prog 172 3 (CE.cA (CE.cA (CE.cA (CE.cB (CE.cA (CE.cB (CE.cB body))))))) s70 .norm s71 :=
  CE.RunsTo.seg (cx := ⟨CE.lowT Tryz.prog [] 100000 400, 100000, none⟩) (CE.den_ok _) (CE.lowT_ok (CE.den_ok _) CE.AllOK.nil 100000 400) rfl (by kernel_rfl)

set_option maxRecDepth 1000000 in
theorem t71 : CE.RunsTo Tryz.prog 172 3 (CE.cA (CE.cB (CE.cA (CE.cA (CE.cB (CE.cA (CE.cB (CE.cB body)))))))) s71 .norm s72 :=
  CE.RunsTo.seg (cx := ⟨CE.lowT Tryz.prog [] 100000 400, 100000, none⟩) (CE.den_ok _) (CE.lowT_ok (CE.den_ok _) CE.AllOK.nil 100000 400) rfl (by kernel_rfl)

set_option maxRecDepth 1000000 in
theorem t72 : CE.RunsTo Tryz.prog 172 3 (CE.cA (CE.cA (CE.cA (CE.cB (CE.cB (CE.cA (CE.cA (CE.cB (CE.cA (CE.cB (CE.cB body))))))))))) s72 .norm s73 :=
  CE.RunsTo.seg (cx := ⟨CE.lowT Tryz.prog [] 100000 400, 100000, none⟩) (CE.den_ok _) (CE.lowT_ok (CE.den_ok _) CE.AllOK.nil 100000 400) rfl (by kernel_rfl)

end Go.Proofs.YtnbfpalcaibcfaaGreatDoor.firstNames
