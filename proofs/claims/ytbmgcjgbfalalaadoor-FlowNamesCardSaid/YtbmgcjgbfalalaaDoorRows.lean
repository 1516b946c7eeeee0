/-
  NARROWER THAN 'FOR EVERY INPUT', by the rows' own cells (each row's printed sentence says how): SetNames: laid · NameNames: laid · QuoteNames: laid · TreeNames: laid · ExprNames: laid · LexNames: laid · PrintNames: laid · GramNames: laid · FlowNames: laid · ReachNames: laid.
  DERIVED. THE GIVEN ROWS OF THIS SEAT. 10 by the template 'for every input the law returns true; each argument reads behind the call as it read before'; 0 by the template 'total and deterministic' (their statements: YtbmgcjgbfalalaaDoorTotals.lean).
  GIVEN WITH THE SEED: the statements are not yours to turn. If you find one false, say at which input.
  Laid BY PROGRAM, IN A SANDBOX (cutbox-rows.mjs): the forced cells as the released guide's own fill.sh prints them over the translation a035e533b6df261d… (all of the seat's roots in one cut). By AI agents, Wed Nov 11 2026. No macro, syntax, notation, axiom, sorry.
-/
import Derived.Test.YtbmgcjgbfalalaaDoorChecked
import GoSem.Claim
import GoSem.ClaimJoined
import GoSem.ClaimMapViews
import Derived.JoinedTies
import Derived.KernelRfl
namespace Go.Proofs.YtbmgcjgbfalalaaDoor
/- THE CELL 'sum', in the pinned program and in every row, IS THE sha256 OF THE DUMP (.gsa) THAT YtbmgcjgbfalalaaDoorProg.lean LOADS. Nothing in Lean hashes anything: it is a label: what it is worth is what the hold of that sum in a sandbox is worth. -/
noncomputable def Tryd.pinned : Pinned := { name := "ytbmgcjgbfalalaadoor", sum := "a035e533b6df261d96c7aad5d2c802eac9de77a75788cdb7acdb1754e0b67f55", checked := Tryd.checked }
namespace Rows
def none {H : Type} : Left H := { results := [], args := [] }

/- WHAT THE LISTED PACKAGE-LEVEL VARIABLES READ AS WHEN THE CALL BEGINS. Each datum BY PROGRAM (the guide's laid-datum.mjs) off the statement by which the dump's own 'gosem.cut.vars' lays the variable. In a bare row this is a premise. The card (YtbmgcjgbfalalaaDoorCards.lean) ties it to the program's text. -/
def laid_math_bits_deBruijn64tab {H : Type} : DataW H := .agg [.lit (.int .u8 0), .lit (.int .u8 1), .lit (.int .u8 56), .lit (.int .u8 2), .lit (.int .u8 57), .lit (.int .u8 49), .lit (.int .u8 28), .lit (.int .u8 3), .lit (.int .u8 61), .lit (.int .u8 58), .lit (.int .u8 42), .lit (.int .u8 50), .lit (.int .u8 38), .lit (.int .u8 29), .lit (.int .u8 17), .lit (.int .u8 4), .lit (.int .u8 62), .lit (.int .u8 47), .lit (.int .u8 59), .lit (.int .u8 36), .lit (.int .u8 45), .lit (.int .u8 43), .lit (.int .u8 51), .lit (.int .u8 22), .lit (.int .u8 53), .lit (.int .u8 39), .lit (.int .u8 33), .lit (.int .u8 30), .lit (.int .u8 24), .lit (.int .u8 18), .lit (.int .u8 12), .lit (.int .u8 5), .lit (.int .u8 63), .lit (.int .u8 55), .lit (.int .u8 48), .lit (.int .u8 27), .lit (.int .u8 60), .lit (.int .u8 41), .lit (.int .u8 37), .lit (.int .u8 16), .lit (.int .u8 46), .lit (.int .u8 35), .lit (.int .u8 44), .lit (.int .u8 21), .lit (.int .u8 52), .lit (.int .u8 32), .lit (.int .u8 23), .lit (.int .u8 11), .lit (.int .u8 54), .lit (.int .u8 26), .lit (.int .u8 40), .lit (.int .u8 15), .lit (.int .u8 34), .lit (.int .u8 20), .lit (.int .u8 31), .lit (.int .u8 10), .lit (.int .u8 25), .lit (.int .u8 14), .lit (.int .u8 19), .lit (.int .u8 9), .lit (.int .u8 13), .lit (.int .u8 8), .lit (.int .u8 7), .lit (.int .u8 6)]
def laid_math_bits_deBruijn32tab {H : Type} : DataW H := .agg [.lit (.int .u8 0), .lit (.int .u8 1), .lit (.int .u8 28), .lit (.int .u8 2), .lit (.int .u8 29), .lit (.int .u8 14), .lit (.int .u8 24), .lit (.int .u8 3), .lit (.int .u8 30), .lit (.int .u8 22), .lit (.int .u8 20), .lit (.int .u8 15), .lit (.int .u8 25), .lit (.int .u8 17), .lit (.int .u8 4), .lit (.int .u8 8), .lit (.int .u8 31), .lit (.int .u8 27), .lit (.int .u8 13), .lit (.int .u8 23), .lit (.int .u8 21), .lit (.int .u8 19), .lit (.int .u8 16), .lit (.int .u8 7), .lit (.int .u8 26), .lit (.int .u8 12), .lit (.int .u8 18), .lit (.int .u8 6), .lit (.int .u8 11), .lit (.int .u8 5), .lit (.int .u8 10), .lit (.int .u8 9)]
def laid_internal_strconv_uint64pow10 {H : Type} : DataW H := .agg [.lit (.int .u64 1), .lit (.int .u64 10), .lit (.int .u64 100), .lit (.int .u64 1000), .lit (.int .u64 10000), .lit (.int .u64 100000), .lit (.int .u64 1000000), .lit (.int .u64 10000000), .lit (.int .u64 100000000), .lit (.int .u64 1000000000), .lit (.int .u64 10000000000), .lit (.int .u64 100000000000), .lit (.int .u64 1000000000000), .lit (.int .u64 10000000000000), .lit (.int .u64 100000000000000), .lit (.int .u64 1000000000000000), .lit (.int .u64 10000000000000000), .lit (.int .u64 100000000000000000), .lit (.int .u64 1000000000000000000), .lit (.int .u64 10000000000000000000)]
def laid_bonsai_tree_least {H : Type} : DataW H := .agg [.lit (.int .i64 0), .lit (.int .i64 0), .lit (.int .i64 0), .lit (.int .i64 0), .lit (.int .i64 2), .lit (.int .i64 2), .lit (.int .i64 1), .lit (.int .i64 1), .lit (.int .i64 1), .lit (.int .i64 1)]
def laid_bonsai_tree_most {H : Type} : DataW H := .agg [.lit (.int .i64 0), .lit (.int .i64 0), .lit (.int .i64 0), .lit (.int .i64 0), .lit (.int .i64 (-1)), .lit (.int .i64 (-1)), .lit (.int .i64 1), .lit (.int .i64 1), .lit (.int .i64 1), .lit (.int .i64 1)]
def laid_bonsai_print_front {H : Type} : DataW H := .agg [.lit (.string []), .lit (.string []), .lit (.string []), .lit (.string []), .lit (.string []), .lit (.string []), .lit (.string []), .lit (.string [38]), .lit (.string [33]), .lit (.string [58, 32])]
def laid_bonsai_print_between {H : Type} : DataW H := .agg [.lit (.string []), .lit (.string []), .lit (.string []), .lit (.string []), .lit (.string [32]), .lit (.string [32, 47, 32]), .lit (.string []), .lit (.string []), .lit (.string []), .lit (.string [])]
def laid_bonsai_print_enclosed {H : Type} : DataW H := .agg [.lit (.int .u16 0), .lit (.int .u16 0), .lit (.int .u16 0), .lit (.int .u16 0), .lit (.int .u16 48), .lit (.int .u16 32), .lit (.int .u16 496), .lit (.int .u16 48), .lit (.int .u16 48), .lit (.int .u16 0)]
def laid_bonsai_print_signs {H : Type} : DataW H := .agg [.agg [.lit (.int .i64 0), .lit (.int .i64 1), .lit (.string [63])], .agg [.lit (.int .i64 0), .lit (.int .i64 (-1)), .lit (.string [42])], .agg [.lit (.int .i64 1), .lit (.int .i64 (-1)), .lit (.string [43])]]

/-- 'bonsailaw01.SetNames': WHATEVER THE INPUT: true; the input reads as it did. -/
def setNamesSpec : ChangeSpec := { name := "setNames", fn := fun _ => fun
  | [] => { results := [.lit (.bool true)], args := [] }
  | _ => none }
def setNamesRow : OpenClaim := { program := "ytbmgcjgbfalalaadoor", sum := "a035e533b6df261d96c7aad5d2c802eac9de77a75788cdb7acdb1754e0b67f55", func := "bonsai/bonsailaw01.SetNames", spec := "setNames", inPlace := ["internal/bytealg.abigen_runtime_cmpstring"], unfollowed := true, recurses := true, named := ["math/bits.deBruijn64tab"], apart := false, laid := [("math/bits.deBruijn64tab", laid_math_bits_deBruijn64tab)] }
def SetNamesSaid : Prop := setNamesRow.holds Tryd.pinned (OpenSpec.ofChange setNamesSpec)

/-- ITS FALSE NEIGHBOUR: 'it returns false'. Refute it at one input. -/
def setNamesWrong : ChangeSpec := { name := "setNames", fn := fun _ => fun
  | [] => { results := [.lit (.bool false)], args := [] }
  | _ => none }
def SetNamesWrongFalsely : Prop := setNamesRow.holds Tryd.pinned (OpenSpec.ofChange setNamesWrong)

/-- 'bonsailaw02.NameNames': WHATEVER THE INPUT: true; the input reads as it did. -/
def nameNamesSpec : ChangeSpec := { name := "nameNames", fn := fun _ => fun
  | [] => { results := [.lit (.bool true)], args := [] }
  | _ => none }
def nameNamesRow : OpenClaim := { program := "ytbmgcjgbfalalaadoor", sum := "a035e533b6df261d96c7aad5d2c802eac9de77a75788cdb7acdb1754e0b67f55", func := "bonsai/bonsailaw02.NameNames", spec := "nameNames", inPlace := ["internal/bytealg.abigen_runtime_cmpstring"], unfollowed := true, recurses := true, named := ["internal/strconv.uint64pow10", "math/bits.deBruijn32tab", "math/bits.deBruijn64tab"], apart := false, laid := [("math/bits.deBruijn32tab", laid_math_bits_deBruijn32tab), ("math/bits.deBruijn64tab", laid_math_bits_deBruijn64tab), ("internal/strconv.uint64pow10", laid_internal_strconv_uint64pow10)] }
def NameNamesSaid : Prop := nameNamesRow.holds Tryd.pinned (OpenSpec.ofChange nameNamesSpec)

/-- ITS FALSE NEIGHBOUR: 'it returns false'. Refute it at one input. -/
def nameNamesWrong : ChangeSpec := { name := "nameNames", fn := fun _ => fun
  | [] => { results := [.lit (.bool false)], args := [] }
  | _ => none }
def NameNamesWrongFalsely : Prop := nameNamesRow.holds Tryd.pinned (OpenSpec.ofChange nameNamesWrong)

/-- 'bonsailaw03.QuoteNames': WHATEVER THE INPUT: true; the input reads as it did. -/
def quoteNamesSpec : ChangeSpec := { name := "quoteNames", fn := fun _ => fun
  | [] => { results := [.lit (.bool true)], args := [] }
  | _ => none }
def quoteNamesRow : OpenClaim := { program := "ytbmgcjgbfalalaadoor", sum := "a035e533b6df261d96c7aad5d2c802eac9de77a75788cdb7acdb1754e0b67f55", func := "bonsai/bonsailaw03.QuoteNames", spec := "quoteNames", inPlace := ["internal/bytealg.IndexByteString", "internal/abi.NoEscape"], unfollowed := true, recurses := true, named := ["math/bits.deBruijn64tab"], apart := false, laid := [("math/bits.deBruijn64tab", laid_math_bits_deBruijn64tab)] }
def QuoteNamesSaid : Prop := quoteNamesRow.holds Tryd.pinned (OpenSpec.ofChange quoteNamesSpec)

/-- ITS FALSE NEIGHBOUR: 'it returns false'. Refute it at one input. -/
def quoteNamesWrong : ChangeSpec := { name := "quoteNames", fn := fun _ => fun
  | [] => { results := [.lit (.bool false)], args := [] }
  | _ => none }
def QuoteNamesWrongFalsely : Prop := quoteNamesRow.holds Tryd.pinned (OpenSpec.ofChange quoteNamesWrong)

/-- 'bonsailaw04.TreeNames': WHATEVER THE INPUT: true; the input reads as it did. -/
def treeNamesSpec : ChangeSpec := { name := "treeNames", fn := fun _ => fun
  | [] => { results := [.lit (.bool true)], args := [] }
  | _ => none }
def treeNamesRow : OpenClaim := { program := "ytbmgcjgbfalalaadoor", sum := "a035e533b6df261d96c7aad5d2c802eac9de77a75788cdb7acdb1754e0b67f55", func := "bonsai/bonsailaw04.TreeNames", spec := "treeNames", named := ["bonsai/tree.least", "bonsai/tree.most"], apart := false, laid := [("bonsai/tree.least", laid_bonsai_tree_least), ("bonsai/tree.most", laid_bonsai_tree_most)] }
def TreeNamesSaid : Prop := treeNamesRow.holds Tryd.pinned (OpenSpec.ofChange treeNamesSpec)

/-- ITS FALSE NEIGHBOUR: 'it returns false'. Refute it at one input. -/
def treeNamesWrong : ChangeSpec := { name := "treeNames", fn := fun _ => fun
  | [] => { results := [.lit (.bool false)], args := [] }
  | _ => none }
def TreeNamesWrongFalsely : Prop := treeNamesRow.holds Tryd.pinned (OpenSpec.ofChange treeNamesWrong)

/-- 'bonsailaw05.ExprNames': WHATEVER THE INPUT: true; the input reads as it did. -/
def exprNamesSpec : ChangeSpec := { name := "exprNames", fn := fun _ => fun
  | [] => { results := [.lit (.bool true)], args := [] }
  | _ => none }
def exprNamesRow : OpenClaim := { program := "ytbmgcjgbfalalaadoor", sum := "a035e533b6df261d96c7aad5d2c802eac9de77a75788cdb7acdb1754e0b67f55", func := "bonsai/bonsailaw05.ExprNames", spec := "exprNames", unfollowed := true, recurses := true, named := ["bonsai/tree.least", "bonsai/tree.most"], apart := false, laid := [("bonsai/tree.least", laid_bonsai_tree_least), ("bonsai/tree.most", laid_bonsai_tree_most)] }
def ExprNamesSaid : Prop := exprNamesRow.holds Tryd.pinned (OpenSpec.ofChange exprNamesSpec)

/-- ITS FALSE NEIGHBOUR: 'it returns false'. Refute it at one input. -/
def exprNamesWrong : ChangeSpec := { name := "exprNames", fn := fun _ => fun
  | [] => { results := [.lit (.bool false)], args := [] }
  | _ => none }
def ExprNamesWrongFalsely : Prop := exprNamesRow.holds Tryd.pinned (OpenSpec.ofChange exprNamesWrong)

/-- 'bonsailaw06.LexNames': WHATEVER THE INPUT: true; the input reads as it did. -/
def lexNamesSpec : ChangeSpec := { name := "lexNames", fn := fun _ => fun
  | [] => { results := [.lit (.bool true)], args := [] }
  | _ => none }
def lexNamesRow : OpenClaim := { program := "ytbmgcjgbfalalaadoor", sum := "a035e533b6df261d96c7aad5d2c802eac9de77a75788cdb7acdb1754e0b67f55", func := "bonsai/bonsailaw06.LexNames", spec := "lexNames", inPlace := ["internal/bytealg.IndexByteString", "internal/bytealg.IndexString", "internal/abi.NoEscape", "internal/bytealg.MakeNoZero"], unfollowed := true, recurses := true, named := ["internal/bytealg.MaxLen", "math/bits.deBruijn64tab", "internal/strconv.uint64pow10", "math/bits.deBruijn32tab"], apart := false, laid := [("math/bits.deBruijn32tab", laid_math_bits_deBruijn32tab), ("math/bits.deBruijn64tab", laid_math_bits_deBruijn64tab), ("internal/strconv.uint64pow10", laid_internal_strconv_uint64pow10)] }
def LexNamesSaid : Prop := lexNamesRow.holds Tryd.pinned (OpenSpec.ofChange lexNamesSpec)

/-- ITS FALSE NEIGHBOUR: 'it returns false'. Refute it at one input. -/
def lexNamesWrong : ChangeSpec := { name := "lexNames", fn := fun _ => fun
  | [] => { results := [.lit (.bool false)], args := [] }
  | _ => none }
def LexNamesWrongFalsely : Prop := lexNamesRow.holds Tryd.pinned (OpenSpec.ofChange lexNamesWrong)

/-- 'bonsailaw08.PrintNames': WHATEVER THE INPUT: true; the input reads as it did. -/
def printNamesSpec : ChangeSpec := { name := "printNames", fn := fun _ => fun
  | [] => { results := [.lit (.bool true)], args := [] }
  | _ => none }
def printNamesRow : OpenClaim := { program := "ytbmgcjgbfalalaadoor", sum := "a035e533b6df261d96c7aad5d2c802eac9de77a75788cdb7acdb1754e0b67f55", func := "bonsai/bonsailaw08.PrintNames", spec := "printNames", inPlace := ["internal/abi.NoEscape", "internal/bytealg.IndexByteString"], unfollowed := true, recurses := true, named := ["bonsai/tree.least", "bonsai/tree.most", "math/bits.deBruijn64tab", "bonsai/print.signs", "internal/strconv.uint64pow10", "math/bits.deBruijn32tab", "bonsai/print.enclosed", "bonsai/print.between", "bonsai/print.front"], apart := false, laid := [("math/bits.deBruijn32tab", laid_math_bits_deBruijn32tab), ("math/bits.deBruijn64tab", laid_math_bits_deBruijn64tab), ("internal/strconv.uint64pow10", laid_internal_strconv_uint64pow10), ("bonsai/tree.least", laid_bonsai_tree_least), ("bonsai/tree.most", laid_bonsai_tree_most), ("bonsai/print.front", laid_bonsai_print_front), ("bonsai/print.between", laid_bonsai_print_between), ("bonsai/print.enclosed", laid_bonsai_print_enclosed), ("bonsai/print.signs", laid_bonsai_print_signs)] }
def PrintNamesSaid : Prop := printNamesRow.holds Tryd.pinned (OpenSpec.ofChange printNamesSpec)

/-- ITS FALSE NEIGHBOUR: 'it returns false'. Refute it at one input. -/
def printNamesWrong : ChangeSpec := { name := "printNames", fn := fun _ => fun
  | [] => { results := [.lit (.bool false)], args := [] }
  | _ => none }
def PrintNamesWrongFalsely : Prop := printNamesRow.holds Tryd.pinned (OpenSpec.ofChange printNamesWrong)

/-- 'bonsailaw09.GramNames': WHATEVER THE INPUT: true; the input reads as it did. -/
def gramNamesSpec : ChangeSpec := { name := "gramNames", fn := fun _ => fun
  | [] => { results := [.lit (.bool true)], args := [] }
  | _ => none }
def gramNamesRow : OpenClaim := { program := "ytbmgcjgbfalalaadoor", sum := "a035e533b6df261d96c7aad5d2c802eac9de77a75788cdb7acdb1754e0b67f55", func := "bonsai/bonsailaw09.GramNames", spec := "gramNames", inPlace := ["internal/abi.NoEscape", "internal/bytealg.IndexByteString"], unfollowed := true, recurses := true, named := ["bonsai/tree.least", "bonsai/tree.most", "math/bits.deBruijn64tab", "bonsai/print.signs", "internal/strconv.uint64pow10", "math/bits.deBruijn32tab", "bonsai/print.enclosed", "bonsai/print.between", "bonsai/print.front"], apart := false, laid := [("math/bits.deBruijn32tab", laid_math_bits_deBruijn32tab), ("math/bits.deBruijn64tab", laid_math_bits_deBruijn64tab), ("internal/strconv.uint64pow10", laid_internal_strconv_uint64pow10), ("bonsai/tree.least", laid_bonsai_tree_least), ("bonsai/tree.most", laid_bonsai_tree_most), ("bonsai/print.front", laid_bonsai_print_front), ("bonsai/print.between", laid_bonsai_print_between), ("bonsai/print.enclosed", laid_bonsai_print_enclosed), ("bonsai/print.signs", laid_bonsai_print_signs)] }
def GramNamesSaid : Prop := gramNamesRow.holds Tryd.pinned (OpenSpec.ofChange gramNamesSpec)

/-- ITS FALSE NEIGHBOUR: 'it returns false'. Refute it at one input. -/
def gramNamesWrong : ChangeSpec := { name := "gramNames", fn := fun _ => fun
  | [] => { results := [.lit (.bool false)], args := [] }
  | _ => none }
def GramNamesWrongFalsely : Prop := gramNamesRow.holds Tryd.pinned (OpenSpec.ofChange gramNamesWrong)

/-- 'bonsailaw10.FlowNames': WHATEVER THE INPUT: true; the input reads as it did. -/
def flowNamesSpec : ChangeSpec := { name := "flowNames", fn := fun _ => fun
  | [] => { results := [.lit (.bool true)], args := [] }
  | _ => none }
def flowNamesRow : OpenClaim := { program := "ytbmgcjgbfalalaadoor", sum := "a035e533b6df261d96c7aad5d2c802eac9de77a75788cdb7acdb1754e0b67f55", func := "bonsai/bonsailaw10.FlowNames", spec := "flowNames", inPlace := ["internal/abi.NoEscape", "internal/bytealg.IndexByteString"], unfollowed := true, recurses := true, named := ["bonsai/tree.least", "bonsai/tree.most", "math/bits.deBruijn64tab", "bonsai/print.signs", "internal/strconv.uint64pow10", "math/bits.deBruijn32tab", "bonsai/print.enclosed", "bonsai/print.between", "bonsai/print.front"], apart := false, laid := [("math/bits.deBruijn32tab", laid_math_bits_deBruijn32tab), ("math/bits.deBruijn64tab", laid_math_bits_deBruijn64tab), ("internal/strconv.uint64pow10", laid_internal_strconv_uint64pow10), ("bonsai/tree.least", laid_bonsai_tree_least), ("bonsai/tree.most", laid_bonsai_tree_most), ("bonsai/print.front", laid_bonsai_print_front), ("bonsai/print.between", laid_bonsai_print_between), ("bonsai/print.enclosed", laid_bonsai_print_enclosed), ("bonsai/print.signs", laid_bonsai_print_signs)] }
def FlowNamesSaid : Prop := flowNamesRow.holds Tryd.pinned (OpenSpec.ofChange flowNamesSpec)

/-- ITS FALSE NEIGHBOUR: 'it returns false'. Refute it at one input. -/
def flowNamesWrong : ChangeSpec := { name := "flowNames", fn := fun _ => fun
  | [] => { results := [.lit (.bool false)], args := [] }
  | _ => none }
def FlowNamesWrongFalsely : Prop := flowNamesRow.holds Tryd.pinned (OpenSpec.ofChange flowNamesWrong)

/-- 'bonsailaw12.ReachNames': WHATEVER THE INPUT: true; the input reads as it did. -/
def reachNamesSpec : ChangeSpec := { name := "reachNames", fn := fun _ => fun
  | [] => { results := [.lit (.bool true)], args := [] }
  | _ => none }
def reachNamesRow : OpenClaim := { program := "ytbmgcjgbfalalaadoor", sum := "a035e533b6df261d96c7aad5d2c802eac9de77a75788cdb7acdb1754e0b67f55", func := "bonsai/bonsailaw12.ReachNames", spec := "reachNames", inPlace := ["internal/abi.NoEscape", "internal/bytealg.IndexByteString"], unfollowed := true, recurses := true, named := ["bonsai/tree.least", "bonsai/tree.most", "math/bits.deBruijn64tab", "bonsai/print.signs", "internal/strconv.uint64pow10", "math/bits.deBruijn32tab", "bonsai/print.enclosed", "bonsai/print.between", "bonsai/print.front"], apart := false, laid := [("math/bits.deBruijn32tab", laid_math_bits_deBruijn32tab), ("math/bits.deBruijn64tab", laid_math_bits_deBruijn64tab), ("internal/strconv.uint64pow10", laid_internal_strconv_uint64pow10), ("bonsai/tree.least", laid_bonsai_tree_least), ("bonsai/tree.most", laid_bonsai_tree_most), ("bonsai/print.front", laid_bonsai_print_front), ("bonsai/print.between", laid_bonsai_print_between), ("bonsai/print.enclosed", laid_bonsai_print_enclosed), ("bonsai/print.signs", laid_bonsai_print_signs)] }
def ReachNamesSaid : Prop := reachNamesRow.holds Tryd.pinned (OpenSpec.ofChange reachNamesSpec)

/-- ITS FALSE NEIGHBOUR: 'it returns false'. Refute it at one input. -/
def reachNamesWrong : ChangeSpec := { name := "reachNames", fn := fun _ => fun
  | [] => { results := [.lit (.bool false)], args := [] }
  | _ => none }
def ReachNamesWrongFalsely : Prop := reachNamesRow.holds Tryd.pinned (OpenSpec.ofChange reachNamesWrong)

/- THE SECOND FORM. 'bulk': how many values and letters a reading holds, each counted each time it is reached (what is shared counts as often as it is met; a slice's spare places count too). A statement '..UptoSaid' is the law's where the arguments, and the package variables that the reading takes, are together of bulk at most 1048576: NARROWER than '..Said'. Prove '..Said' where nothing that the law and all that it calls make is longer than what came in: it says more and counts as full. Else prove '..UptoSaid'. A law counts once. -/
mutual
def uptoBulk {H : Type} : DataW H → Nat
  | .lit (.string bytes) => bytes.length + 1
  | .lit _ => 1
  | .nil => 1
  | .ptr d => uptoBulk d + 1
  | .slice elems spare => uptoBulkAll elems + uptoBulkAll spare + 1
  | .agg parts => uptoBulkAll parts + 1
  | .iface _ d => uptoBulk d + 1
  | .map entries => uptoBulkEntries entries + 1
  | .held _ => 1
def uptoBulkAll {H : Type} : List (DataW H) → Nat
  | [] => 0
  | d :: r => uptoBulk d + uptoBulkAll r
def uptoBulkEntries {H : Type} : List (Lit × DataW H) → Nat
  | [] => 0
  | x :: r => uptoBulkEntry x + uptoBulkEntries r
def uptoBulkEntry {H : Type} : Lit × DataW H → Nat
  | (.string bytes, d) => bytes.length + uptoBulk d + 1
  | (_, d) => uptoBulk d + 1
 end
def uptoSmall : (H : Type) → List (DataW H) → Bool := fun _ ds => decide (uptoBulkAll ds ≤ 1048576)
def OpenSpec.upto (s : _root_.Go.ChangeSpec) : _root_.Go.OpenSpec := { _root_.Go.OpenSpec.ofChange s with cond := some uptoSmall }

/-- 'bonsailaw01.SetNames', WHERE WHAT IT READS IS OF BULK AT MOST 1048576: true; the input reads as it did. -/
def setNamesUptoRow : OpenClaim := { program := "ytbmgcjgbfalalaadoor", sum := "a035e533b6df261d96c7aad5d2c802eac9de77a75788cdb7acdb1754e0b67f55", func := "bonsai/bonsailaw01.SetNames", spec := "setNames", inPlace := ["internal/bytealg.abigen_runtime_cmpstring"], unfollowed := true, recurses := true, named := ["math/bits.deBruijn64tab"], apart := false, laid := [("math/bits.deBruijn64tab", laid_math_bits_deBruijn64tab)], narrowed := true }
def SetNamesUptoSaid : Prop := setNamesUptoRow.holds Tryd.pinned (OpenSpec.upto setNamesSpec)

/-- 'bonsailaw02.NameNames', WHERE WHAT IT READS IS OF BULK AT MOST 1048576: true; the input reads as it did. -/
def nameNamesUptoRow : OpenClaim := { program := "ytbmgcjgbfalalaadoor", sum := "a035e533b6df261d96c7aad5d2c802eac9de77a75788cdb7acdb1754e0b67f55", func := "bonsai/bonsailaw02.NameNames", spec := "nameNames", inPlace := ["internal/bytealg.abigen_runtime_cmpstring"], unfollowed := true, recurses := true, named := ["internal/strconv.uint64pow10", "math/bits.deBruijn32tab", "math/bits.deBruijn64tab"], apart := false, laid := [("math/bits.deBruijn32tab", laid_math_bits_deBruijn32tab), ("math/bits.deBruijn64tab", laid_math_bits_deBruijn64tab), ("internal/strconv.uint64pow10", laid_internal_strconv_uint64pow10)], narrowed := true }
def NameNamesUptoSaid : Prop := nameNamesUptoRow.holds Tryd.pinned (OpenSpec.upto nameNamesSpec)

/-- 'bonsailaw03.QuoteNames', WHERE WHAT IT READS IS OF BULK AT MOST 1048576: true; the input reads as it did. -/
def quoteNamesUptoRow : OpenClaim := { program := "ytbmgcjgbfalalaadoor", sum := "a035e533b6df261d96c7aad5d2c802eac9de77a75788cdb7acdb1754e0b67f55", func := "bonsai/bonsailaw03.QuoteNames", spec := "quoteNames", inPlace := ["internal/bytealg.IndexByteString", "internal/abi.NoEscape"], unfollowed := true, recurses := true, named := ["math/bits.deBruijn64tab"], apart := false, laid := [("math/bits.deBruijn64tab", laid_math_bits_deBruijn64tab)], narrowed := true }
def QuoteNamesUptoSaid : Prop := quoteNamesUptoRow.holds Tryd.pinned (OpenSpec.upto quoteNamesSpec)

/-- 'bonsailaw04.TreeNames', WHERE WHAT IT READS IS OF BULK AT MOST 1048576: true; the input reads as it did. -/
def treeNamesUptoRow : OpenClaim := { program := "ytbmgcjgbfalalaadoor", sum := "a035e533b6df261d96c7aad5d2c802eac9de77a75788cdb7acdb1754e0b67f55", func := "bonsai/bonsailaw04.TreeNames", spec := "treeNames", named := ["bonsai/tree.least", "bonsai/tree.most"], apart := false, laid := [("bonsai/tree.least", laid_bonsai_tree_least), ("bonsai/tree.most", laid_bonsai_tree_most)], narrowed := true }
def TreeNamesUptoSaid : Prop := treeNamesUptoRow.holds Tryd.pinned (OpenSpec.upto treeNamesSpec)

/-- 'bonsailaw05.ExprNames', WHERE WHAT IT READS IS OF BULK AT MOST 1048576: true; the input reads as it did. -/
def exprNamesUptoRow : OpenClaim := { program := "ytbmgcjgbfalalaadoor", sum := "a035e533b6df261d96c7aad5d2c802eac9de77a75788cdb7acdb1754e0b67f55", func := "bonsai/bonsailaw05.ExprNames", spec := "exprNames", unfollowed := true, recurses := true, named := ["bonsai/tree.least", "bonsai/tree.most"], apart := false, laid := [("bonsai/tree.least", laid_bonsai_tree_least), ("bonsai/tree.most", laid_bonsai_tree_most)], narrowed := true }
def ExprNamesUptoSaid : Prop := exprNamesUptoRow.holds Tryd.pinned (OpenSpec.upto exprNamesSpec)

/-- 'bonsailaw06.LexNames', WHERE WHAT IT READS IS OF BULK AT MOST 1048576: true; the input reads as it did. -/
def lexNamesUptoRow : OpenClaim := { program := "ytbmgcjgbfalalaadoor", sum := "a035e533b6df261d96c7aad5d2c802eac9de77a75788cdb7acdb1754e0b67f55", func := "bonsai/bonsailaw06.LexNames", spec := "lexNames", inPlace := ["internal/bytealg.IndexByteString", "internal/bytealg.IndexString", "internal/abi.NoEscape", "internal/bytealg.MakeNoZero"], unfollowed := true, recurses := true, named := ["internal/bytealg.MaxLen", "math/bits.deBruijn64tab", "internal/strconv.uint64pow10", "math/bits.deBruijn32tab"], apart := false, laid := [("math/bits.deBruijn32tab", laid_math_bits_deBruijn32tab), ("math/bits.deBruijn64tab", laid_math_bits_deBruijn64tab), ("internal/strconv.uint64pow10", laid_internal_strconv_uint64pow10)], narrowed := true }
def LexNamesUptoSaid : Prop := lexNamesUptoRow.holds Tryd.pinned (OpenSpec.upto lexNamesSpec)

/-- 'bonsailaw08.PrintNames', WHERE WHAT IT READS IS OF BULK AT MOST 1048576: true; the input reads as it did. -/
def printNamesUptoRow : OpenClaim := { program := "ytbmgcjgbfalalaadoor", sum := "a035e533b6df261d96c7aad5d2c802eac9de77a75788cdb7acdb1754e0b67f55", func := "bonsai/bonsailaw08.PrintNames", spec := "printNames", inPlace := ["internal/abi.NoEscape", "internal/bytealg.IndexByteString"], unfollowed := true, recurses := true, named := ["bonsai/tree.least", "bonsai/tree.most", "math/bits.deBruijn64tab", "bonsai/print.signs", "internal/strconv.uint64pow10", "math/bits.deBruijn32tab", "bonsai/print.enclosed", "bonsai/print.between", "bonsai/print.front"], apart := false, laid := [("math/bits.deBruijn32tab", laid_math_bits_deBruijn32tab), ("math/bits.deBruijn64tab", laid_math_bits_deBruijn64tab), ("internal/strconv.uint64pow10", laid_internal_strconv_uint64pow10), ("bonsai/tree.least", laid_bonsai_tree_least), ("bonsai/tree.most", laid_bonsai_tree_most), ("bonsai/print.front", laid_bonsai_print_front), ("bonsai/print.between", laid_bonsai_print_between), ("bonsai/print.enclosed", laid_bonsai_print_enclosed), ("bonsai/print.signs", laid_bonsai_print_signs)], narrowed := true }
def PrintNamesUptoSaid : Prop := printNamesUptoRow.holds Tryd.pinned (OpenSpec.upto printNamesSpec)

/-- 'bonsailaw09.GramNames', WHERE WHAT IT READS IS OF BULK AT MOST 1048576: true; the input reads as it did. -/
def gramNamesUptoRow : OpenClaim := { program := "ytbmgcjgbfalalaadoor", sum := "a035e533b6df261d96c7aad5d2c802eac9de77a75788cdb7acdb1754e0b67f55", func := "bonsai/bonsailaw09.GramNames", spec := "gramNames", inPlace := ["internal/abi.NoEscape", "internal/bytealg.IndexByteString"], unfollowed := true, recurses := true, named := ["bonsai/tree.least", "bonsai/tree.most", "math/bits.deBruijn64tab", "bonsai/print.signs", "internal/strconv.uint64pow10", "math/bits.deBruijn32tab", "bonsai/print.enclosed", "bonsai/print.between", "bonsai/print.front"], apart := false, laid := [("math/bits.deBruijn32tab", laid_math_bits_deBruijn32tab), ("math/bits.deBruijn64tab", laid_math_bits_deBruijn64tab), ("internal/strconv.uint64pow10", laid_internal_strconv_uint64pow10), ("bonsai/tree.least", laid_bonsai_tree_least), ("bonsai/tree.most", laid_bonsai_tree_most), ("bonsai/print.front", laid_bonsai_print_front), ("bonsai/print.between", laid_bonsai_print_between), ("bonsai/print.enclosed", laid_bonsai_print_enclosed), ("bonsai/print.signs", laid_bonsai_print_signs)], narrowed := true }
def GramNamesUptoSaid : Prop := gramNamesUptoRow.holds Tryd.pinned (OpenSpec.upto gramNamesSpec)

/-- 'bonsailaw10.FlowNames', WHERE WHAT IT READS IS OF BULK AT MOST 1048576: true; the input reads as it did. -/
def flowNamesUptoRow : OpenClaim := { program := "ytbmgcjgbfalalaadoor", sum := "a035e533b6df261d96c7aad5d2c802eac9de77a75788cdb7acdb1754e0b67f55", func := "bonsai/bonsailaw10.FlowNames", spec := "flowNames", inPlace := ["internal/abi.NoEscape", "internal/bytealg.IndexByteString"], unfollowed := true, recurses := true, named := ["bonsai/tree.least", "bonsai/tree.most", "math/bits.deBruijn64tab", "bonsai/print.signs", "internal/strconv.uint64pow10", "math/bits.deBruijn32tab", "bonsai/print.enclosed", "bonsai/print.between", "bonsai/print.front"], apart := false, laid := [("math/bits.deBruijn32tab", laid_math_bits_deBruijn32tab), ("math/bits.deBruijn64tab", laid_math_bits_deBruijn64tab), ("internal/strconv.uint64pow10", laid_internal_strconv_uint64pow10), ("bonsai/tree.least", laid_bonsai_tree_least), ("bonsai/tree.most", laid_bonsai_tree_most), ("bonsai/print.front", laid_bonsai_print_front), ("bonsai/print.between", laid_bonsai_print_between), ("bonsai/print.enclosed", laid_bonsai_print_enclosed), ("bonsai/print.signs", laid_bonsai_print_signs)], narrowed := true }
def FlowNamesUptoSaid : Prop := flowNamesUptoRow.holds Tryd.pinned (OpenSpec.upto flowNamesSpec)

/-- 'bonsailaw12.ReachNames', WHERE WHAT IT READS IS OF BULK AT MOST 1048576: true; the input reads as it did. -/
def reachNamesUptoRow : OpenClaim := { program := "ytbmgcjgbfalalaadoor", sum := "a035e533b6df261d96c7aad5d2c802eac9de77a75788cdb7acdb1754e0b67f55", func := "bonsai/bonsailaw12.ReachNames", spec := "reachNames", inPlace := ["internal/abi.NoEscape", "internal/bytealg.IndexByteString"], unfollowed := true, recurses := true, named := ["bonsai/tree.least", "bonsai/tree.most", "math/bits.deBruijn64tab", "bonsai/print.signs", "internal/strconv.uint64pow10", "math/bits.deBruijn32tab", "bonsai/print.enclosed", "bonsai/print.between", "bonsai/print.front"], apart := false, laid := [("math/bits.deBruijn32tab", laid_math_bits_deBruijn32tab), ("math/bits.deBruijn64tab", laid_math_bits_deBruijn64tab), ("internal/strconv.uint64pow10", laid_internal_strconv_uint64pow10), ("bonsai/tree.least", laid_bonsai_tree_least), ("bonsai/tree.most", laid_bonsai_tree_most), ("bonsai/print.front", laid_bonsai_print_front), ("bonsai/print.between", laid_bonsai_print_between), ("bonsai/print.enclosed", laid_bonsai_print_enclosed), ("bonsai/print.signs", laid_bonsai_print_signs)], narrowed := true }
def ReachNamesUptoSaid : Prop := reachNamesUptoRow.holds Tryd.pinned (OpenSpec.upto reachNamesSpec)

end Rows
end Go.Proofs.YtbmgcjgbfalalaaDoor
