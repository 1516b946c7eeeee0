/- The examples come out: worked out by the kernel. -/
import Derived.Test.YtpanelgdfhpoaaaGreatDoorCosL
namespace Go.Proofs.YtpanelgdfhpoaaaGreatDoor
open Go.RowKit

set_option maxRecDepth 1000000 in
theorem awake_ran : CE.isTrue (CE.runAt Tryz.prog 100000 400 4 (CE.obsOf Tryz.prog laidT)) = true := by kernel_rfl

theorem awake_any {W0 W : World} (h : Inv W0) (hb : Below W0.heap.size W0 W) : Calls Tryz.prog 4 #[] W fun e W' => e = .returned (.bool true) ∧ Below W.heap.size W W' :=
  CE.call_true_at h.shaped h.laid hb.size hb.block (by kernel_rfl) (.inr (by kernel_rfl)) awake_ran
end Go.Proofs.YtpanelgdfhpoaaaGreatDoor
