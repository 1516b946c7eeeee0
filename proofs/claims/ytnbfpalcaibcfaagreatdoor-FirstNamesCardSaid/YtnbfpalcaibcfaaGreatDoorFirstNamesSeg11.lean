/- FirstNames: what the kernel works out, in segments. -/
import Derived.Test.YtnbfpalcaibcfaaGreatDoorFirstNamesSnap0
import Derived.KernelRfl
namespace Go.Proofs.YtnbfpalcaibcfaaGreatDoor.firstNames
open Go

set_option maxRecDepth 1000000 in
theorem t61 : CE.RunsTo Tryz.prog 172 3 (CE.cA (CE.cB (CE.cA (CE.cA (CE.cB (CE.cB (CE.cA (CE.cA (CE.cB (CE.cA (CE.cB (CE.cB body)))))))))))) s61 .norm s62 :=
  CE.RunsTo.seg (cx := ⟨CE.lowT Tryz.prog [] 100000 400, 100000, none⟩) (CE.den_ok _) (CE.lowT_ok (CE.den_ok _) CE.AllOK.nil 100000 400) rfl (by kernel_rfl)

set_option maxRecDepth 1000000 in
theorem t62 : CE.RunsTo Tryz.prog 172 3 (CE.cB (CE.cB (CE.cA (CE.cA (CE.cB (CE.cB (CE.cA (CE.cA (CE.cB (CE.cA (CE.cB (CE.cB body)))))))))))) s62 .norm s63 :=
  CE.RunsTo.seg (cx := ⟨CE.lowT Tryz.prog [] 100000 400, 100000, none⟩) (CE.den_ok _) (CE.lowT_ok (CE.den_ok _) CE.AllOK.nil 100000 400) rfl (by kernel_rfl)

set_option maxRecDepth 1000000 in
theorem t63 : CE.RunsTo Tryz.prog 172 3 (CE.cB (CE.cB (CE.cB (CE.cA (CE.cA (CE.cB (CE.cA (CE.cB (CE.cB body))))))))) s63 .norm s64 :=
  CE.RunsTo.seg (cx := ⟨CE.lowT Tryz.prog [] 100000 400, 100000, none⟩) (CE.den_ok _) (CE.lowT_ok (CE.den_ok _) CE.AllOK.nil 100000 400) rfl (by kernel_rfl)

set_option maxRecDepth 1000000 in
theorem t64 : CE.RunsTo Tryz.prog 172 3 (CE.cA (CE.cA (CE.cA (CE.cB (CE.cA (CE.cB (CE.cB body))))))) s64 .norm s65 :=
  CE.RunsTo.seg (cx := ⟨CE.lowT Tryz.prog [] 100000 400, 100000, none⟩) (CE.den_ok _) (CE.lowT_ok (CE.den_ok _) CE.AllOK.nil 100000 400) rfl (by kernel_rfl)

set_option maxRecDepth 1000000 in
theorem t65 : CE.RunsTo Tryz.prog 172 3 (CE.cA (CE.cB (CE.cA (CE.cA (CE.cB (CE.cA (CE.cB (CE.cB body)))))))) s65 .norm s66 :=
  CE.RunsTo.seg (cx := ⟨CE.lowT Tryz.prog [] 100000 400, 100000, none⟩) (CE.den_ok _) (CE.lowT_ok (CE.den_ok _) CE.AllOK.nil 100000 400) rfl (by kernel_rfl)

set_option maxRecDepth 1000000 in
theorem t66 : CE.RunsTo Tryz.prog 172 3 (CE.cA (CE.cA (CE.cA (CE.cB (CE.cB (CE.cA (CE.cA (CE.cB (CE.cA (CE.cB (CE.cB body))))))))))) s66 .norm s67 :=
  CE.RunsTo.seg (cx := ⟨CE.lowT Tryz.prog [] 100000 400, 100000, none⟩) (CE.den_ok _) (CE.lowT_ok (CE.den_ok _) CE.AllOK.nil 100000 400) rfl (by kernel_rfl)

end Go.Proofs.YtnbfpalcaibcfaaGreatDoor.firstNames
