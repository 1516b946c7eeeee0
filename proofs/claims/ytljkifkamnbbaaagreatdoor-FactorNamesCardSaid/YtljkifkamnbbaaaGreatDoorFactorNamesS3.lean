/- FactorNames: calls that are told, worked out by the kernel. -/
import Derived.Test.YtljkifkamnbbaaaGreatDoorFactorNamesG
import Derived.KernelRfl
namespace Go.Proofs.YtljkifkamnbbaaaGreatDoor.factorNamesT
open Go

noncomputable def c9 : CE.Sum := ⟨54, [(.c (.str [34, 34])), (.c (.str [97])), (.c (.int .u8 (.ofNat 0))), (.c (.str []))], 11209, gl, (.c (.bool .true)), 11603, [], 11209, 11209⟩
set_option maxRecDepth 1000000 in
theorem k9 : CE.SumOK Tryz.prog c9 := CE.SumOK.run (CE.den_ok _) (tbl := []) CE.AllOK.nil (lf := 100000) (n := 380) (by kernel_rfl)

noncomputable def c10 : CE.Sum := ⟨54, [(.c (.str [97])), (.c (.str [34, 34])), (.c (.int .u8 (.ofNat 0))), (.c (.str []))], 11604, gl, (.c (.bool .true)), 11998, [], 11604, 11604⟩
set_option maxRecDepth 1000000 in
theorem k10 : CE.SumOK Tryz.prog c10 := CE.SumOK.run (CE.den_ok _) (tbl := []) CE.AllOK.nil (lf := 100000) (n := 380) (by kernel_rfl)

noncomputable def c11 : CE.Sum := ⟨54, [(.c (.str [97, 32, 98])), (.c (.str [97, 32, 98])), (.c (.int .u8 (.ofNat 1))), (.c (.str [97, 32, 98]))], 11999, gl, (.c (.bool .true)), 12748, [], 11999, 11999⟩
set_option maxRecDepth 1000000 in
theorem k11 : CE.SumOK Tryz.prog c11 := CE.SumOK.run (CE.den_ok _) (tbl := []) CE.AllOK.nil (lf := 100000) (n := 380) (by kernel_rfl)

noncomputable def c12 : CE.Sum := ⟨54, [(.c (.str [97, 32, 98])), (.c (.str [97])), (.c (.int .u8 (.ofNat 2))), (.c (.str [97, 32, 40, 98, 32, 47, 32, 34, 34, 41]))], 12749, gl, (.c (.bool .true)), 14268, [], 12749, 12749⟩
set_option maxRecDepth 1000000 in
theorem k12 : CE.SumOK Tryz.prog c12 := CE.SumOK.run (CE.den_ok _) (tbl := []) CE.AllOK.nil (lf := 100000) (n := 380) (by kernel_rfl)

end Go.Proofs.YtljkifkamnbbaaaGreatDoor.factorNamesT
