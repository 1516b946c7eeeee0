/- FactorNames: calls that are told, worked out by the kernel. -/
import Derived.Test.YtljkifkamnbbaaaGreatDoorFactorNamesG
import Derived.Test.YtljkifkamnbbaaaGreatDoorFactorNamesS31
import Derived.KernelRfl
import Derived.Test.YtljkifkamnbbaaaGreatDoorFactorNamesS13
namespace Go.Proofs.YtljkifkamnbbaaaGreatDoor.factorNamesT
open Go

noncomputable def c30 : CE.Sum := ⟨55, [(.c (.str [97, 32, 60, 45, 32, 98, 32, 47, 32, 34, 120, 34, 32, 98, 32, 47, 32, 34, 120, 34, 32, 47, 32, 34, 120, 121, 34, 32, 47, 32, 34, 120, 121, 34, 32, 98, 32, 60, 45, 32, 34, 122, 34])), (.c (.ref (.slc 45100 0 3 3)))], 45101, gl ++ [(45100, (.row 3 3 1 .false 0 1 (CE.lt 1 [(.c (.int .i64 (.ofNat 1003))), (.c (.int .i64 (.ofNat 2001))), (.c (.int .i64 (.ofNat 3002)))])))], (.c (.bool .true)), 52981, [], 45100, 45101⟩
set_option maxRecDepth 1000000 in
theorem k30 : CE.SumOK Tryz.prog c30 := CE.SumOK.run (CE.den_ok _) (tbl := [c30000, c30001, c30002, c30003, c30004]) (CE.AllOK.cons k30000 (CE.AllOK.cons k30001 (CE.AllOK.cons k30002 (CE.AllOK.cons k30003 (CE.AllOK.cons k30004 CE.AllOK.nil))))) (lf := 100000) (n := 380) (by kernel_rfl)

end Go.Proofs.YtljkifkamnbbaaaGreatDoor.factorNamesT
