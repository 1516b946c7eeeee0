/- CheckNames: what the kernel works out, with calls that are told. -/
import Derived.Test.YtgffldphnbeddaaGreatDoorRows
import Derived.Test.YtgffldphnbeddaaGreatDoorCeAC
import Derived.Test.YtgffldphnbeddaaGreatDoorCeCC
import Derived.Test.YtgffldphnbeddaaGreatDoorCheckNamesS1
import Derived.Test.YtgffldphnbeddaaGreatDoorCheckNamesS2
import Derived.Test.YtgffldphnbeddaaGreatDoorCheckNamesS3
import Derived.Test.YtgffldphnbeddaaGreatDoorCheckNamesS4
import Derived.Test.YtgffldphnbeddaaGreatDoorCheckNamesS5
import Derived.Test.YtgffldphnbeddaaGreatDoorCheckNamesS6
import Derived.Test.YtgffldphnbeddaaGreatDoorCheckNamesS7
import Derived.Test.YtgffldphnbeddaaGreatDoorCheckNamesS8
import Derived.Test.YtgffldphnbeddaaGreatDoorCheckNamesS9
import Derived.Test.YtgffldphnbeddaaGreatDoorCheckNamesS12
import Derived.Test.YtgffldphnbeddaaGreatDoorCheckNamesS13
namespace Go.Proofs.YtgffldphnbeddaaGreatDoor.checkNames
open Go Go.ChangeShapes Go.WideShapes Go.RowKit
open Go.Proofs.YtgffldphnbeddaaGreatDoor.checkNamesT

def laidT : List (String × DataW Unit) := [("math/bits.deBruijn32tab", Rows.laid_math_bits_deBruijn32tab), ("math/bits.deBruijn64tab", Rows.laid_math_bits_deBruijn64tab), ("internal/strconv.uint64pow10", Rows.laid_internal_strconv_uint64pow10), ("bonsai/tree.least", Rows.laid_bonsai_tree_least), ("bonsai/tree.most", Rows.laid_bonsai_tree_most), ("bonsai/print.front", Rows.laid_bonsai_print_front), ("bonsai/print.between", Rows.laid_bonsai_print_between), ("bonsai/print.enclosed", Rows.laid_bonsai_print_enclosed), ("bonsai/print.signs", Rows.laid_bonsai_print_signs)]

theorem law_low : CE.LowOK Tryz.prog (CE.lowF Tryz.prog [4, 16, 17] [c12, c13, c14, c15, c16, c17, c18, c19, c20, c21, c22, c23, c24, c25, c26, c27, c28, c29, c30, c31, c32, c33, c34, c35, c36, c37, c38, c39, c40, c41, c42, c43, c44, c45, c46, c47, c48, c49, c50, c51, c52, c53, c54, c55, c56, c57, c58, c59, c60, c61, c62, c63, c64, c65, c66, c67, c68, c69, c70, c71, c72, c73, c74, c75, c76, c77, c78, c79, c80, c81, c82, c83, c84, c86, c88, c89, c90] 100000 400) :=
  CE.lowF_ok (CE.den_ok _) [4, 16, 17] (CE.AllOK.cons k12 (CE.AllOK.cons k13 (CE.AllOK.cons k14 (CE.AllOK.cons k15 (CE.AllOK.cons k16 (CE.AllOK.cons k17 (CE.AllOK.cons k18 (CE.AllOK.cons k19 (CE.AllOK.cons k20 (CE.AllOK.cons k21 (CE.AllOK.cons k22 (CE.AllOK.cons k23 (CE.AllOK.cons k24 (CE.AllOK.cons k25 (CE.AllOK.cons k26 (CE.AllOK.cons k27 (CE.AllOK.cons k28 (CE.AllOK.cons k29 (CE.AllOK.cons k30 (CE.AllOK.cons k31 (CE.AllOK.cons k32 (CE.AllOK.cons k33 (CE.AllOK.cons k34 (CE.AllOK.cons k35 (CE.AllOK.cons k36 (CE.AllOK.cons k37 (CE.AllOK.cons k38 (CE.AllOK.cons k39 (CE.AllOK.cons k40 (CE.AllOK.cons k41 (CE.AllOK.cons k42 (CE.AllOK.cons k43 (CE.AllOK.cons k44 (CE.AllOK.cons k45 (CE.AllOK.cons k46 (CE.AllOK.cons k47 (CE.AllOK.cons k48 (CE.AllOK.cons k49 (CE.AllOK.cons k50 (CE.AllOK.cons k51 (CE.AllOK.cons k52 (CE.AllOK.cons k53 (CE.AllOK.cons k54 (CE.AllOK.cons k55 (CE.AllOK.cons k56 (CE.AllOK.cons k57 (CE.AllOK.cons k58 (CE.AllOK.cons k59 (CE.AllOK.cons k60 (CE.AllOK.cons k61 (CE.AllOK.cons k62 (CE.AllOK.cons k63 (CE.AllOK.cons k64 (CE.AllOK.cons k65 (CE.AllOK.cons k66 (CE.AllOK.cons k67 (CE.AllOK.cons k68 (CE.AllOK.cons k69 (CE.AllOK.cons k70 (CE.AllOK.cons k71 (CE.AllOK.cons k72 (CE.AllOK.cons k73 (CE.AllOK.cons k74 (CE.AllOK.cons k75 (CE.AllOK.cons k76 (CE.AllOK.cons k77 (CE.AllOK.cons k78 (CE.AllOK.cons k79 (CE.AllOK.cons k80 (CE.AllOK.cons k81 (CE.AllOK.cons k82 (CE.AllOK.cons k83 (CE.AllOK.cons k84 (CE.AllOK.cons k86 (CE.AllOK.cons k88 (CE.AllOK.cons k89 (CE.AllOK.cons k90 CE.AllOK.nil))))))))))))))))))))))))))))))))))))))))))))))))))))))))))))))))))))))))))))) 100000 400
set_option maxRecDepth 1000000 in
theorem law_ran : CE.isTrue (CE.runLow Tryz.prog (CE.lowF Tryz.prog [4, 16, 17] [c12, c13, c14, c15, c16, c17, c18, c19, c20, c21, c22, c23, c24, c25, c26, c27, c28, c29, c30, c31, c32, c33, c34, c35, c36, c37, c38, c39, c40, c41, c42, c43, c44, c45, c46, c47, c48, c49, c50, c51, c52, c53, c54, c55, c56, c57, c58, c59, c60, c61, c62, c63, c64, c65, c66, c67, c68, c69, c70, c71, c72, c73, c74, c75, c76, c77, c78, c79, c80, c81, c82, c83, c84, c86, c88, c89, c90] 100000 400) 3 (CE.obsOf Tryz.prog laidT)) = true := by kernel_rfl
end Go.Proofs.YtgffldphnbeddaaGreatDoor.checkNames
