/- FactorNames: calls that are told, worked out by the kernel. -/
import Derived.Test.YtljkifkamnbbaaaGreatDoorFactorNamesG
import Derived.KernelRfl
namespace Go.Proofs.YtljkifkamnbbaaaGreatDoor.factorNamesT
open Go

noncomputable def c5 : CE.Sum := ⟨54, [(.c (.str [34, 120, 34])), (.c (.str [91, 120, 93])), (.c (.int .u8 (.ofNat 0))), (.c (.str []))], 7108, gl, (.c (.bool .true)), 7541, [], 7108, 7108⟩
set_option maxRecDepth 1000000 in
theorem k5 : CE.SumOK Tryz.prog c5 := CE.SumOK.run (CE.den_ok _) (tbl := []) CE.AllOK.nil (lf := 100000) (n := 380) (by kernel_rfl)

noncomputable def c6 : CE.Sum := ⟨57, [(.c (.str [97, 32, 60, 45, 32, 34, 120, 34, 32, 34, 98, 34, 32, 47, 32, 34, 120, 34, 32, 34, 99, 34]))], 7542, gl, (.agg [(.ref (.slc 8082 0 1 1))]), 8086, [(8031, (.row 49 63 9 .false 0 1 (CE.lt 1 [(.agg [(.int .u8 (.ofNat 2)), (.int .u64 (.ofNat 0)), (.int .u64 (.ofNat 0)), (.int .u64 (.ofNat 0)), (.int .u64 (.ofNat 0)), (.str [120]), (.int .i64 (.ofNat 0)), (.int .i64 (.ofNat 0)), (.ref .nils)]), (.agg [(.int .u8 (.ofNat 2)), (.int .u64 (.ofNat 0)), (.int .u64 (.ofNat 0)), (.int .u64 (.ofNat 0)), (.int .u64 (.ofNat 0)), (.str [98]), (.int .i64 (.ofNat 0)), (.int .i64 (.ofNat 0)), (.ref .nils)]), (.agg [(.int .u8 (.ofNat 4)), (.int .u64 (.ofNat 0)), (.int .u64 (.ofNat 0)), (.int .u64 (.ofNat 0)), (.int .u64 (.ofNat 0)), (.str []), (.int .i64 (.ofNat 0)), (.int .i64 (.ofNat 0)), (.ref (.slc 8048 0 2 2))]), (.agg [(.int .u8 (.ofNat 2)), (.int .u64 (.ofNat 0)), (.int .u64 (.ofNat 0)), (.int .u64 (.ofNat 0)), (.int .u64 (.ofNat 0)), (.str [120]), (.int .i64 (.ofNat 0)), (.int .i64 (.ofNat 0)), (.ref .nils)]), (.agg [(.int .u8 (.ofNat 2)), (.int .u64 (.ofNat 0)), (.int .u64 (.ofNat 0)), (.int .u64 (.ofNat 0)), (.int .u64 (.ofNat 0)), (.str [99]), (.int .i64 (.ofNat 0)), (.int .i64 (.ofNat 0)), (.ref .nils)]), (.agg [(.int .u8 (.ofNat 4)), (.int .u64 (.ofNat 0)), (.int .u64 (.ofNat 0)), (.int .u64 (.ofNat 0)), (.int .u64 (.ofNat 0)), (.str []), (.int .i64 (.ofNat 0)), (.int .i64 (.ofNat 0)), (.ref (.slc 8041 0 2 2))]), (.agg [(.int .u8 (.ofNat 5)), (.int .u64 (.ofNat 0)), (.int .u64 (.ofNat 0)), (.int .u64 (.ofNat 0)), (.int .u64 (.ofNat 0)), (.str []), (.int .i64 (.ofNat 0)), (.int .i64 (.ofNat 0)), (.ref (.slc 8036 0 2 2))])]))), (8036, (.row 3 2 1 .true 1 1 (CE.lt 1 [(.c (.int .i64 (.ofNat 2))), (.c (.int .i64 (.ofNat 5)))]))), (8041, (.row 3 2 1 .true 1 1 (CE.lt 1 [(.c (.int .i64 (.ofNat 3))), (.c (.int .i64 (.ofNat 4)))]))), (8048, (.row 3 2 1 .true 1 1 (CE.lt 1 [(.c (.int .i64 (.ofNat 0))), (.c (.int .i64 (.ofNat 1)))]))), (8082, (.row 56 3 3 .true 1 0 (CE.lt 0 [(.agg [(.str [97]), (.ref (.slc 8031 0 7 7)), (.int .i64 (.ofNat 6))])])))], 7542, 7542⟩
set_option maxRecDepth 1000000 in
theorem k6 : CE.SumOK Tryz.prog c6 := CE.SumOK.run (CE.den_ok _) (tbl := []) CE.AllOK.nil (lf := 100000) (n := 380) (by kernel_rfl)

noncomputable def c8 : CE.Sum := ⟨54, [(.c (.str [34, 34])), (.c (.str [34, 34])), (.c (.int .u8 (.ofNat 1))), (.c (.str [34, 34]))], 10833, gl, (.c (.bool .true)), 11208, [], 10833, 10833⟩
set_option maxRecDepth 1000000 in
theorem k8 : CE.SumOK Tryz.prog c8 := CE.SumOK.run (CE.den_ok _) (tbl := []) CE.AllOK.nil (lf := 100000) (n := 380) (by kernel_rfl)

end Go.Proofs.YtljkifkamnbbaaaGreatDoor.factorNamesT
