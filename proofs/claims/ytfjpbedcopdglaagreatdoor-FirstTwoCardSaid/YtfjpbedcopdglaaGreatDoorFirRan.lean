/- The examples come out: worked out by the kernel. -/
import Derived.Test.YtfjpbedcopdglaaGreatDoorFirL
import Derived.Test.YtfjpbedcopdglaaGreatDoorCeAC
import Derived.Test.YtfjpbedcopdglaaGreatDoorFirS0
import Derived.Test.YtfjpbedcopdglaaGreatDoorFirS1
import Derived.Test.YtfjpbedcopdglaaGreatDoorFirS2
import Derived.Test.YtfjpbedcopdglaaGreatDoorFirS3
namespace Go.Proofs.YtfjpbedcopdglaaGreatDoor
open Go.RowKit

theorem awake_low : CE.LowOK Tryz.prog (CE.lowT Tryz.prog [fir.c0, fir.c1, fir.c2, fir.c3, fir.c4, fir.c5, fir.c6] 100000 400) :=
  CE.lowT_ok (CE.den_ok _) (CE.AllOK.cons fir.k0 (CE.AllOK.cons fir.k1 (CE.AllOK.cons fir.k2 (CE.AllOK.cons fir.k3 (CE.AllOK.cons fir.k4 (CE.AllOK.cons fir.k5 (CE.AllOK.cons fir.k6 (CE.AllOK.nil)))))))) 100000 400
set_option maxRecDepth 1000000 in
theorem awake_ran : CE.isTrue (CE.runLow Tryz.prog (CE.lowT Tryz.prog [fir.c0, fir.c1, fir.c2, fir.c3, fir.c4, fir.c5, fir.c6] 100000 400) 11 (CE.obsOf Tryz.prog laidT)) = true := by kernel_rfl

theorem awake_any {W0 W : World} (h : Inv W0) (hb : Below W0.heap.size W0 W) : Calls Tryz.prog 11 #[] W fun e W' => e = .returned (.bool true) ∧ Below W.heap.size W W' :=
  CE.call_true_low awake_low h.shaped h.laid hb.size hb.block (by kernel_rfl) (.inr (by kernel_rfl)) awake_ran
end Go.Proofs.YtfjpbedcopdglaaGreatDoor
