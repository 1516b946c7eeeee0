/- FactorNames: calls that are told, worked out by the kernel. -/
import Derived.Test.YtljkifkamnbbaaaGreatDoorFactorNamesG
import Derived.KernelRfl
import Derived.Test.YtljkifkamnbbaaaGreatDoorFactorNamesS14
import Derived.Test.YtljkifkamnbbaaaGreatDoorFactorNamesS15
import Derived.Test.YtljkifkamnbbaaaGreatDoorFactorNamesS16
import Derived.Test.YtljkifkamnbbaaaGreatDoorFactorNamesS17
import Derived.Test.YtljkifkamnbbaaaGreatDoorFactorNamesS18
import Derived.Test.YtljkifkamnbbaaaGreatDoorFactorNamesS19
import Derived.Test.YtljkifkamnbbaaaGreatDoorFactorNamesS20
namespace Go.Proofs.YtljkifkamnbbaaaGreatDoor.factorNamesT
open Go

noncomputable def c34 : CE.Sum := ⟨56, [(.c (.str [97, 32, 60, 45, 32, 98, 32, 47, 32, 34, 120, 34, 32, 98, 32, 47, 32, 34, 120, 34, 32, 47, 32, 34, 120, 121, 34, 32, 47, 32, 34, 120, 121, 34, 32, 98, 32, 60, 45, 32, 34, 122, 34])), (.c (.int .u8 (.ofNat 1))), (.c (.int .i64 (.ofNat 0))), (.c (.ref .nils)), (.c (.int .i64 (.ofNat 3))), (.c (.str [97, 32, 60, 45, 32, 98, 32, 47, 32, 34, 120, 34, 32, 98, 32, 47, 32, 34, 120, 34, 32, 47, 32, 34, 120, 121, 34, 32, 98, 32, 60, 45, 32, 34, 122, 34]))], 52981, gl, (.c (.bool .true)), 56269, [], 52981, 52981⟩
set_option maxRecDepth 1000000 in
theorem k34 : CE.SumOK Tryz.prog c34 := CE.SumOK.run (CE.den_ok _) (tbl := [c31, c32, c33]) (CE.AllOK.cons k31 (CE.AllOK.cons k32 (CE.AllOK.cons k33 CE.AllOK.nil))) (lf := 100000) (n := 380) (by kernel_rfl)

noncomputable def c38 : CE.Sum := ⟨56, [(.c (.str [97, 32, 60, 45, 32, 98, 32, 47, 32, 34, 120, 34, 32, 98, 32, 47, 32, 34, 120, 34, 32, 47, 32, 34, 120, 121, 34, 32, 47, 32, 34, 120, 121, 34, 32, 98, 32, 60, 45, 32, 34, 122, 34])), (.c (.int .u8 (.ofNat 2))), (.c (.int .i64 (.ofNat 0))), (.c (.ref .nils)), (.c (.int .i64 (.ofNat 1))), (.c (.str [97, 32, 60, 45, 32, 98, 32, 47, 32, 34, 120, 34, 32, 40, 98, 32, 47, 32, 34, 34, 41, 32, 47, 32, 34, 120, 121, 34, 32, 47, 32, 34, 120, 121, 34, 32, 98, 32, 60, 45, 32, 34, 122, 34]))], 56269, gl, (.c (.bool .true)), 60805, [], 56269, 56269⟩
set_option maxRecDepth 1000000 in
theorem k38 : CE.SumOK Tryz.prog c38 := CE.SumOK.run (CE.den_ok _) (tbl := [c35, c36, c37]) (CE.AllOK.cons k35 (CE.AllOK.cons k36 (CE.AllOK.cons k37 CE.AllOK.nil))) (lf := 100000) (n := 380) (by kernel_rfl)

noncomputable def c42 : CE.Sum := ⟨56, [(.c (.str [97, 32, 60, 45, 32, 98, 32, 47, 32, 34, 120, 34, 32, 98, 32, 47, 32, 34, 120, 34, 32, 47, 32, 34, 120, 121, 34, 32, 47, 32, 34, 120, 121, 34, 32, 98, 32, 60, 45, 32, 34, 122, 34])), (.c (.int .u8 (.ofNat 3))), (.c (.int .i64 (.ofNat 0))), (.c (.ref .nils)), (.c (.int .i64 (.ofNat 2))), (.c (.str [97, 32, 60, 45, 32, 98, 32, 47, 32, 34, 120, 34, 32, 98, 32, 47, 32, 34, 120, 34, 32, 40, 34, 34, 32, 47, 32, 34, 121, 34, 41, 32, 47, 32, 34, 120, 121, 34, 32, 98, 32, 60, 45, 32, 34, 122, 34]))], 60805, gl, (.c (.bool .true)), 65667, [], 60805, 60805⟩
set_option maxRecDepth 1000000 in
theorem k42 : CE.SumOK Tryz.prog c42 := CE.SumOK.run (CE.den_ok _) (tbl := [c39, c40, c41]) (CE.AllOK.cons k39 (CE.AllOK.cons k40 (CE.AllOK.cons k41 CE.AllOK.nil))) (lf := 100000) (n := 380) (by kernel_rfl)

noncomputable def c46 : CE.Sum := ⟨56, [(.c (.str [97, 32, 60, 45, 32, 33, 40, 98, 32, 34, 112, 34, 32, 47, 32, 98, 32, 34, 113, 34, 41, 32, 98, 32, 98, 32, 60, 45, 32, 34, 120, 34])), (.c (.int .u8 (.ofNat 2))), (.c (.int .i64 (.ofNat 0))), (.c (.ref (.slc 65667 0 2 2))), (.c (.int .i64 (.ofNat 0))), (.c (.str [97, 32, 60, 45, 32, 33, 40, 98, 32, 40, 34, 112, 34, 32, 47, 32, 34, 113, 34, 41, 41, 32, 98, 32, 98, 32, 60, 45, 32, 34, 120, 34]))], 65668, gl ++ [(65667, (.row 3 2 1 .false 0 1 (CE.lt 1 [(.c (.int .i64 (.ofNat 0))), (.c (.int .i64 (.ofNat 0)))])))], (.c (.bool .true)), 70925, [], 65667, 65668⟩
set_option maxRecDepth 1000000 in
theorem k46 : CE.SumOK Tryz.prog c46 := CE.SumOK.run (CE.den_ok _) (tbl := [c43, c44, c45]) (CE.AllOK.cons k43 (CE.AllOK.cons k44 (CE.AllOK.cons k45 CE.AllOK.nil))) (lf := 100000) (n := 380) (by kernel_rfl)

noncomputable def c50 : CE.Sum := ⟨56, [(.c (.str [97, 32, 60, 45, 32, 34, 120, 34, 32, 47, 32, 34, 120, 34])), (.c (.int .u8 (.ofNat 1))), (.c (.int .i64 (.ofNat 0))), (.c (.ref .nils)), (.c (.int .i64 (.ofNat 0))), (.c (.str [97, 32, 60, 45, 32, 34, 120, 34]))], 70925, gl, (.c (.bool .true)), 71902, [], 70925, 70925⟩
set_option maxRecDepth 1000000 in
theorem k50 : CE.SumOK Tryz.prog c50 := CE.SumOK.run (CE.den_ok _) (tbl := [c47, c48, c49]) (CE.AllOK.cons k47 (CE.AllOK.cons k48 (CE.AllOK.cons k49 CE.AllOK.nil))) (lf := 100000) (n := 380) (by kernel_rfl)

end Go.Proofs.YtljkifkamnbbaaaGreatDoor.factorNamesT
