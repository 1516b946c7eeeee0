/- FirstNames: what the kernel works out, in segments. -/
import Derived.Test.YtnbfpalcaibcfaaGreatDoorFirstNamesSnap0
import Derived.KernelRfl
namespace Go.Proofs.YtnbfpalcaibcfaaGreatDoor.firstNames
open Go

set_option maxRecDepth 1000000 in
theorem t199 : CE.RunsTo Tryz.prog 172 3 (CE.cA (CE.cB (CE.cA (CE.cA (CE.cB (CE.cB (CE.cA (CE.cA (CE.cB (CE.cA (CE.cB (CE.cB body)))))))))))) s199 .norm s200 :=
  CE.RunsTo.seg (cx := ⟨CE.lowT Tryz.prog [] 100000 400, 100000, none⟩) (CE.den_ok _) (CE.lowT_ok (CE.den_ok _) CE.AllOK.nil 100000 400) rfl (by kernel_rfl)

set_option maxRecDepth 1000000 in
theorem t200 : CE.RunsTo Tryz.prog 172 3 (CE.cB (CE.cB (CE.cA (CE.cA (CE.cB (CE.cB (CE.cA (CE.cA (CE.cB (CE.cA (CE.cB (CE.cB body)))))))))))) s200 .norm s201 :=
  CE.RunsTo.seg (cx := ⟨CE.lowT Tryz.prog [] 100000 400, 100000, none⟩) (CE.den_ok _) (CE.lowT_ok (CE.den_ok _) CE.AllOK.nil 100000 400) rfl (by kernel_rfl)

set_option maxRecDepth 1000000 in
theorem t201 : CE.RunsTo Tryz.prog 172 3 (CE.cB (CE.cB (CE.cB (CE.cA (CE.cA (CE.cB (CE.cA (CE.cB (CE.cB body))))))))) s201 .norm s202 :=
  CE.RunsTo.seg (cx := ⟨CE.lowT Tryz.prog [] 100000 400, 100000, none⟩) (CE.den_ok _) (CE.lowT_ok (CE.den_ok _) CE.AllOK.nil 100000 400) rfl (by kernel_rfl)

set_option maxRecDepth 1000000 in
theorem t202 : CE.RunsTo Tryz.prog 172 3 (CE.cA (CE.cA (CE.cA (CE.cB (CE.cA (CE.cB (CE.cB body))))))) s202 .norm s203 :=
  CE.RunsTo.seg (cx := ⟨CE.lowT Tryz.prog [] 100000 400, 100000, none⟩) (CE.den_ok _) (CE.lowT_ok (CE.den_ok _) CE.AllOK.nil 100000 400) rfl (by kernel_rfl)

set_option maxRecDepth 1000000 in
theorem t203 : CE.RunsTo Tryz.prog 172 3 (CE.cA (CE.cB (CE.cA (CE.cA (CE.cB (CE.cA (CE.cB (CE.cB body)))))))) s203 .norm s204 :=
  CE.RunsTo.seg (cx := ⟨CE.lowT Tryz.prog [] 100000 400, 100000, none⟩) (CE.den_ok _) (CE.lowT_ok (CE.den_ok _) CE.AllOK.nil 100000 400) rfl (by kernel_rfl)

set_option maxRecDepth 1000000 in
theorem t204 : CE.RunsTo Tryz.prog 172 3 (CE.cA (CE.cA (CE.cA (CE.cB (CE.cB (CE.cA (CE.cA (CE.cB (CE.cA (CE.cB (CE.cB body))))))))))) s204 .norm s205 :=
  CE.RunsTo.seg (cx := ⟨CE.lowT Tryz.prog [] 100000 400, 100000, none⟩) (CE.den_ok _) (CE.lowT_ok (CE.den_ok _) CE.AllOK.nil 100000 400) rfl (by kernel_rfl)

end Go.Proofs.YtnbfpalcaibcfaaGreatDoor.firstNames
