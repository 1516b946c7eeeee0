/- FactorNames: what the kernel works out, with calls that are told. -/
import Derived.Test.YtljkifkamnbbaaaGreatDoorRows
import Derived.Test.YtljkifkamnbbaaaGreatDoorCe6
import Derived.Test.YtljkifkamnbbaaaGreatDoorFactorNamesS0
import Derived.Test.YtljkifkamnbbaaaGreatDoorFactorNamesS1
import Derived.Test.YtljkifkamnbbaaaGreatDoorFactorNamesS2
import Derived.Test.YtljkifkamnbbaaaGreatDoorFactorNamesS3
import Derived.Test.YtljkifkamnbbaaaGreatDoorFactorNamesS4
import Derived.Test.YtljkifkamnbbaaaGreatDoorFactorNamesS5
import Derived.Test.YtljkifkamnbbaaaGreatDoorFactorNamesS6
import Derived.Test.YtljkifkamnbbaaaGreatDoorFactorNamesS7
import Derived.Test.YtljkifkamnbbaaaGreatDoorFactorNamesS8
import Derived.Test.YtljkifkamnbbaaaGreatDoorFactorNamesS9
import Derived.Test.YtljkifkamnbbaaaGreatDoorFactorNamesS10
import Derived.Test.YtljkifkamnbbaaaGreatDoorFactorNamesS11
import Derived.Test.YtljkifkamnbbaaaGreatDoorFactorNamesS12
import Derived.Test.YtljkifkamnbbaaaGreatDoorFactorNamesS13
import Derived.Test.YtljkifkamnbbaaaGreatDoorFactorNamesS21
import Derived.Test.YtljkifkamnbbaaaGreatDoorFactorNamesS22
import Derived.Test.YtljkifkamnbbaaaGreatDoorFactorNamesS23
import Derived.Test.YtljkifkamnbbaaaGreatDoorFactorNamesS24
import Derived.Test.YtljkifkamnbbaaaGreatDoorFactorNamesS25
import Derived.Test.YtljkifkamnbbaaaGreatDoorFactorNamesS26
import Derived.Test.YtljkifkamnbbaaaGreatDoorFactorNamesS27
import Derived.Test.YtljkifkamnbbaaaGreatDoorFactorNamesS28
import Derived.Test.YtljkifkamnbbaaaGreatDoorFactorNamesS29
import Derived.Test.YtljkifkamnbbaaaGreatDoorFactorNamesS30
namespace Go.Proofs.YtljkifkamnbbaaaGreatDoor.factorNames
open Go Go.ChangeShapes Go.WideShapes Go.RowKit
open Go.Proofs.YtljkifkamnbbaaaGreatDoor.factorNamesT

def laidT : List (String × DataW Unit) := [("math/bits.deBruijn32tab", Rows.laid_math_bits_deBruijn32tab), ("math/bits.deBruijn64tab", Rows.laid_math_bits_deBruijn64tab), ("internal/strconv.uint64pow10", Rows.laid_internal_strconv_uint64pow10), ("bonsai/tree.least", Rows.laid_bonsai_tree_least), ("bonsai/tree.most", Rows.laid_bonsai_tree_most), ("bonsai/print.front", Rows.laid_bonsai_print_front), ("bonsai/print.between", Rows.laid_bonsai_print_between), ("bonsai/print.enclosed", Rows.laid_bonsai_print_enclosed), ("bonsai/print.signs", Rows.laid_bonsai_print_signs)]

theorem law_low : CE.LowOK Tryz.prog (CE.lowT Tryz.prog [c0, c1, c2, c3, c4, c5, c7, c8, c9, c10, c11, c12, c13, c14, c15, c16, c17, c18, c19, c20, c21, c22, c23, c24, c25, c26, c27, c28, c30, c34, c38, c42, c46, c50, c51, c52, c53, c54, c55, c56, c57, c58, c59, c60, c61, c62, c63, c64, c65, c66, c67, c68, c69] 100000 400) :=
  CE.lowT_ok (CE.den_ok _) (CE.AllOK.cons k0 (CE.AllOK.cons k1 (CE.AllOK.cons k2 (CE.AllOK.cons k3 (CE.AllOK.cons k4 (CE.AllOK.cons k5 (CE.AllOK.cons k7 (CE.AllOK.cons k8 (CE.AllOK.cons k9 (CE.AllOK.cons k10 (CE.AllOK.cons k11 (CE.AllOK.cons k12 (CE.AllOK.cons k13 (CE.AllOK.cons k14 (CE.AllOK.cons k15 (CE.AllOK.cons k16 (CE.AllOK.cons k17 (CE.AllOK.cons k18 (CE.AllOK.cons k19 (CE.AllOK.cons k20 (CE.AllOK.cons k21 (CE.AllOK.cons k22 (CE.AllOK.cons k23 (CE.AllOK.cons k24 (CE.AllOK.cons k25 (CE.AllOK.cons k26 (CE.AllOK.cons k27 (CE.AllOK.cons k28 (CE.AllOK.cons k30 (CE.AllOK.cons k34 (CE.AllOK.cons k38 (CE.AllOK.cons k42 (CE.AllOK.cons k46 (CE.AllOK.cons k50 (CE.AllOK.cons k51 (CE.AllOK.cons k52 (CE.AllOK.cons k53 (CE.AllOK.cons k54 (CE.AllOK.cons k55 (CE.AllOK.cons k56 (CE.AllOK.cons k57 (CE.AllOK.cons k58 (CE.AllOK.cons k59 (CE.AllOK.cons k60 (CE.AllOK.cons k61 (CE.AllOK.cons k62 (CE.AllOK.cons k63 (CE.AllOK.cons k64 (CE.AllOK.cons k65 (CE.AllOK.cons k66 (CE.AllOK.cons k67 (CE.AllOK.cons k68 (CE.AllOK.cons k69 CE.AllOK.nil))))))))))))))))))))))))))))))))))))))))))))))))))))) 100000 400
set_option maxRecDepth 1000000 in
theorem law_ran : CE.isTrue (CE.runLow Tryz.prog (CE.lowT Tryz.prog [c0, c1, c2, c3, c4, c5, c7, c8, c9, c10, c11, c12, c13, c14, c15, c16, c17, c18, c19, c20, c21, c22, c23, c24, c25, c26, c27, c28, c30, c34, c38, c42, c46, c50, c51, c52, c53, c54, c55, c56, c57, c58, c59, c60, c61, c62, c63, c64, c65, c66, c67, c68, c69] 100000 400) 7 (CE.obsOf Tryz.prog laidT)) = true := by kernel_rfl
end Go.Proofs.YtljkifkamnbbaaaGreatDoor.factorNames
