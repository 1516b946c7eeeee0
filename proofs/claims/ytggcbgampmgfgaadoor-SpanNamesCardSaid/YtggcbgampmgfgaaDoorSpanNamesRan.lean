/- SpanNames: what the kernel works out. -/
import Derived.Test.YtggcbgampmgfgaaDoorRows
import Derived.Test.YtggcbgampmgfgaaDoorCeAA
namespace Go.Proofs.YtggcbgampmgfgaaDoor.spanNames
open Go

def laidT : List (String × DataW Unit) := [("math/bits.deBruijn32tab", Rows.laid_math_bits_deBruijn32tab), ("math/bits.deBruijn64tab", Rows.laid_math_bits_deBruijn64tab), ("internal/strconv.uint64pow10", Rows.laid_internal_strconv_uint64pow10)]

set_option maxRecDepth 1000000 in
theorem ran : CE.isTrue (CE.runAt Tryd.prog 100000 400 3 (CE.obsOf Tryd.prog laidT)) = true := by kernel_rfl
end Go.Proofs.YtggcbgampmgfgaaDoor.spanNames
