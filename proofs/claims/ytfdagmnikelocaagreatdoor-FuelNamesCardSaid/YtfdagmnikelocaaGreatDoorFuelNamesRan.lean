/- FuelNames: what the kernel works out, with calls that are told. -/
import Derived.Test.YtfdagmnikelocaaGreatDoorRows
import Derived.Test.YtfdagmnikelocaaGreatDoorCeAC
import Derived.Test.YtfdagmnikelocaaGreatDoorFuelNamesS1
import Derived.Test.YtfdagmnikelocaaGreatDoorFuelNamesS2
import Derived.Test.YtfdagmnikelocaaGreatDoorFuelNamesS3
import Derived.Test.YtfdagmnikelocaaGreatDoorFuelNamesS4
import Derived.Test.YtfdagmnikelocaaGreatDoorFuelNamesS5
import Derived.Test.YtfdagmnikelocaaGreatDoorFuelNamesS6
import Derived.Test.YtfdagmnikelocaaGreatDoorFuelNamesS7
namespace Go.Proofs.YtfdagmnikelocaaGreatDoor.fuelNames
open Go Go.ChangeShapes Go.WideShapes Go.RowKit
open Go.Proofs.YtfdagmnikelocaaGreatDoor.fuelNamesT

def laidT : List (String × DataW Unit) := [("math/bits.deBruijn32tab", Rows.laid_math_bits_deBruijn32tab), ("math/bits.deBruijn64tab", Rows.laid_math_bits_deBruijn64tab), ("internal/strconv.uint64pow10", Rows.laid_internal_strconv_uint64pow10), ("bonsai/tree.least", Rows.laid_bonsai_tree_least), ("bonsai/tree.most", Rows.laid_bonsai_tree_most), ("bonsai/print.front", Rows.laid_bonsai_print_front), ("bonsai/print.between", Rows.laid_bonsai_print_between), ("bonsai/print.enclosed", Rows.laid_bonsai_print_enclosed), ("bonsai/print.signs", Rows.laid_bonsai_print_signs)]

theorem law_low : CE.LowOK Tryz.prog (CE.lowT Tryz.prog [c3, c4, c5, c6, c7, c8, c9, c10, c11, c12, c13, c14, c15, c16, c17, c18, c19] 100000 400) :=
  CE.lowT_ok (CE.den_ok _) (CE.AllOK.cons k3 (CE.AllOK.cons k4 (CE.AllOK.cons k5 (CE.AllOK.cons k6 (CE.AllOK.cons k7 (CE.AllOK.cons k8 (CE.AllOK.cons k9 (CE.AllOK.cons k10 (CE.AllOK.cons k11 (CE.AllOK.cons k12 (CE.AllOK.cons k13 (CE.AllOK.cons k14 (CE.AllOK.cons k15 (CE.AllOK.cons k16 (CE.AllOK.cons k17 (CE.AllOK.cons k18 (CE.AllOK.cons k19 CE.AllOK.nil))))))))))))))))) 100000 400
set_option maxRecDepth 1000000 in
theorem law_ran : CE.isTrue (CE.runLow Tryz.prog (CE.lowT Tryz.prog [c3, c4, c5, c6, c7, c8, c9, c10, c11, c12, c13, c14, c15, c16, c17, c18, c19] 100000 400) 3 (CE.obsOf Tryz.prog laidT)) = true := by kernel_rfl
end Go.Proofs.YtfdagmnikelocaaGreatDoor.fuelNames
