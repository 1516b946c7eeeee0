/- ReachNames: what the kernel works out. -/
import Derived.Test.YtbmgcjgbfalalaaDoorRows
import Derived.Test.YtbmgcjgbfalalaaDoorCeAA
namespace Go.Proofs.YtbmgcjgbfalalaaDoor.reachNames
open Go

def laidT : List (String × DataW Unit) := [("math/bits.deBruijn32tab", Rows.laid_math_bits_deBruijn32tab), ("math/bits.deBruijn64tab", Rows.laid_math_bits_deBruijn64tab), ("internal/strconv.uint64pow10", Rows.laid_internal_strconv_uint64pow10), ("bonsai/tree.least", Rows.laid_bonsai_tree_least), ("bonsai/tree.most", Rows.laid_bonsai_tree_most), ("bonsai/print.front", Rows.laid_bonsai_print_front), ("bonsai/print.between", Rows.laid_bonsai_print_between), ("bonsai/print.enclosed", Rows.laid_bonsai_print_enclosed), ("bonsai/print.signs", Rows.laid_bonsai_print_signs)]

set_option maxRecDepth 1000000 in
theorem ran : CE.isTrue (CE.runAt Tryd.prog 100000 400 12 (CE.obsOf Tryd.prog laidT)) = true := by kernel_rfl
end Go.Proofs.YtbmgcjgbfalalaaDoor.reachNames
