/- ExprNames: what the kernel works out. -/
import Derived.Test.YtbmgcjgbfalalaaDoorRows
import Derived.Test.YtbmgcjgbfalalaaDoorCeAA
namespace Go.Proofs.YtbmgcjgbfalalaaDoor.exprNames
open Go

def laidT : List (String × DataW Unit) := [("bonsai/tree.least", Rows.laid_bonsai_tree_least), ("bonsai/tree.most", Rows.laid_bonsai_tree_most)]

set_option maxRecDepth 1000000 in
theorem ran : CE.isTrue (CE.runAt Tryd.prog 100000 400 7 (CE.obsOf Tryd.prog laidT)) = true := by kernel_rfl
end Go.Proofs.YtbmgcjgbfalalaaDoor.exprNames
