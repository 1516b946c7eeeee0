/- FactorNames: calls that are told, worked out by the kernel. -/
import Derived.Test.YtljkifkamnbbaaaGreatDoorFactorNamesG
import Derived.KernelRfl
namespace Go.Proofs.YtljkifkamnbbaaaGreatDoor.factorNamesT
open Go

noncomputable def c69 : CE.Sum := ⟨57, [(.c (.str [97, 32, 60, 45, 32, 97, 32, 47, 32, 97]))], 85465, gl, (.agg [(.ref (.slc 85658 0 1 1))]), 85664, [(85631, (.row 49 27 9 .false 0 1 (CE.lt 1 [(.agg [(.int .u8 (.ofNat 3)), (.int .u64 (.ofNat 0)), (.int .u64 (.ofNat 0)), (.int .u64 (.ofNat 0)), (.int .u64 (.ofNat 0)), (.str [97]), (.int .i64 (.ofNat 0)), (.int .i64 (.ofNat 0)), (.ref .nils)]), (.agg [(.int .u8 (.ofNat 3)), (.int .u64 (.ofNat 0)), (.int .u64 (.ofNat 0)), (.int .u64 (.ofNat 0)), (.int .u64 (.ofNat 0)), (.str [97]), (.int .i64 (.ofNat 0)), (.int .i64 (.ofNat 0)), (.ref .nils)]), (.agg [(.int .u8 (.ofNat 5)), (.int .u64 (.ofNat 0)), (.int .u64 (.ofNat 0)), (.int .u64 (.ofNat 0)), (.int .u64 (.ofNat 0)), (.str []), (.int .i64 (.ofNat 0)), (.int .i64 (.ofNat 0)), (.ref (.slc 85636 0 2 2))])]))), (85636, (.row 3 2 1 .true 1 1 (CE.lt 1 [(.c (.int .i64 (.ofNat 0))), (.c (.int .i64 (.ofNat 1)))]))), (85658, (.row 56 3 3 .true 1 0 (CE.lt 0 [(.agg [(.str [97]), (.ref (.slc 85631 0 3 3)), (.int .i64 (.ofNat 2))])])))], 85465, 85465⟩
set_option maxRecDepth 1000000 in
theorem k69 : CE.SumOK Tryz.prog c69 := CE.SumOK.run (CE.den_ok _) (tbl := []) CE.AllOK.nil (lf := 100000) (n := 380) (by kernel_rfl)

end Go.Proofs.YtljkifkamnbbaaaGreatDoor.factorNamesT
