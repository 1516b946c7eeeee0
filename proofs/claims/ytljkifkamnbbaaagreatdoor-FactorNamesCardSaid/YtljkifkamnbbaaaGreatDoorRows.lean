/-
  NARROWER THAN 'FOR EVERY INPUT', by the rows' own cells (each row's printed sentence says how): TableNames: laid · PathNames: laid · InlineNames: laid · DeadNames: laid · FactorNames: laid · PredNames: laid.
  DERIVED. THE GIVEN ROWS OF THIS SEAT. 6 by the template 'for every input the law returns true; each argument reads behind the call as it read before'; 0 by the template 'total and deterministic' (their statements: YtljkifkamnbbaaaGreatDoorTotals.lean).
  GIVEN WITH THE SEED: the statements are not yours to turn. If you find one false, say at which input.
  Laid BY PROGRAM, IN A SANDBOX (cutbox-rows.mjs): the forced cells as the released guide's own fill.sh prints them over the translation 44f3e4a641fd8142… (all of the seat's roots in one cut). By AI agents, Wed Nov 11 2026. No macro, syntax, notation, axiom, sorry.
-/
import Derived.Test.YtljkifkamnbbaaaGreatDoorChecked
import GoSem.Claim
import GoSem.ClaimJoined
import GoSem.ClaimMapViews
import Derived.JoinedTies
import Derived.KernelRfl
namespace Go.Proofs.YtljkifkamnbbaaaGreatDoor
/- THE CELL 'sum', in the pinned program and in every row, IS THE sha256 OF THE DUMP (.gsa) THAT YtljkifkamnbbaaaGreatDoorProg.lean LOADS. Nothing in Lean hashes anything: it is a label: what it is worth is what the hold of that sum in a sandbox is worth. -/
noncomputable def Tryz.pinned : Pinned := { name := "ytljkifkamnbbaaagreatdoor", sum := "44f3e4a641fd8142b9950faa817ae1413d5722195d86686e606e2ffc4164744a", checked := Tryz.checked }
namespace Rows
def none {H : Type} : Left H := { results := [], args := [] }

/- WHAT THE LISTED PACKAGE-LEVEL VARIABLES READ AS WHEN THE CALL BEGINS. Each datum BY PROGRAM (the guide's laid-datum.mjs) off the statement by which the dump's own 'gosem.cut.vars' lays the variable. In a bare row this is a premise. The card (YtljkifkamnbbaaaGreatDoorCards.lean) ties it to the program's text. -/
def laid_math_bits_deBruijn32tab {H : Type} : DataW H := .agg [.lit (.int .u8 0), .lit (.int .u8 1), .lit (.int .u8 28), .lit (.int .u8 2), .lit (.int .u8 29), .lit (.int .u8 14), .lit (.int .u8 24), .lit (.int .u8 3), .lit (.int .u8 30), .lit (.int .u8 22), .lit (.int .u8 20), .lit (.int .u8 15), .lit (.int .u8 25), .lit (.int .u8 17), .lit (.int .u8 4), .lit (.int .u8 8), .lit (.int .u8 31), .lit (.int .u8 27), .lit (.int .u8 13), .lit (.int .u8 23), .lit (.int .u8 21), .lit (.int .u8 19), .lit (.int .u8 16), .lit (.int .u8 7), .lit (.int .u8 26), .lit (.int .u8 12), .lit (.int .u8 18), .lit (.int .u8 6), .lit (.int .u8 11), .lit (.int .u8 5), .lit (.int .u8 10), .lit (.int .u8 9)]
def laid_math_bits_deBruijn64tab {H : Type} : DataW H := .agg [.lit (.int .u8 0), .lit (.int .u8 1), .lit (.int .u8 56), .lit (.int .u8 2), .lit (.int .u8 57), .lit (.int .u8 49), .lit (.int .u8 28), .lit (.int .u8 3), .lit (.int .u8 61), .lit (.int .u8 58), .lit (.int .u8 42), .lit (.int .u8 50), .lit (.int .u8 38), .lit (.int .u8 29), .lit (.int .u8 17), .lit (.int .u8 4), .lit (.int .u8 62), .lit (.int .u8 47), .lit (.int .u8 59), .lit (.int .u8 36), .lit (.int .u8 45), .lit (.int .u8 43), .lit (.int .u8 51), .lit (.int .u8 22), .lit (.int .u8 53), .lit (.int .u8 39), .lit (.int .u8 33), .lit (.int .u8 30), .lit (.int .u8 24), .lit (.int .u8 18), .lit (.int .u8 12), .lit (.int .u8 5), .lit (.int .u8 63), .lit (.int .u8 55), .lit (.int .u8 48), .lit (.int .u8 27), .lit (.int .u8 60), .lit (.int .u8 41), .lit (.int .u8 37), .lit (.int .u8 16), .lit (.int .u8 46), .lit (.int .u8 35), .lit (.int .u8 44), .lit (.int .u8 21), .lit (.int .u8 52), .lit (.int .u8 32), .lit (.int .u8 23), .lit (.int .u8 11), .lit (.int .u8 54), .lit (.int .u8 26), .lit (.int .u8 40), .lit (.int .u8 15), .lit (.int .u8 34), .lit (.int .u8 20), .lit (.int .u8 31), .lit (.int .u8 10), .lit (.int .u8 25), .lit (.int .u8 14), .lit (.int .u8 19), .lit (.int .u8 9), .lit (.int .u8 13), .lit (.int .u8 8), .lit (.int .u8 7), .lit (.int .u8 6)]
def laid_internal_strconv_uint64pow10 {H : Type} : DataW H := .agg [.lit (.int .u64 1), .lit (.int .u64 10), .lit (.int .u64 100), .lit (.int .u64 1000), .lit (.int .u64 10000), .lit (.int .u64 100000), .lit (.int .u64 1000000), .lit (.int .u64 10000000), .lit (.int .u64 100000000), .lit (.int .u64 1000000000), .lit (.int .u64 10000000000), .lit (.int .u64 100000000000), .lit (.int .u64 1000000000000), .lit (.int .u64 10000000000000), .lit (.int .u64 100000000000000), .lit (.int .u64 1000000000000000), .lit (.int .u64 10000000000000000), .lit (.int .u64 100000000000000000), .lit (.int .u64 1000000000000000000), .lit (.int .u64 10000000000000000000)]
def laid_bonsai_tree_least {H : Type} : DataW H := .agg [.lit (.int .i64 0), .lit (.int .i64 0), .lit (.int .i64 0), .lit (.int .i64 0), .lit (.int .i64 2), .lit (.int .i64 2), .lit (.int .i64 1), .lit (.int .i64 1), .lit (.int .i64 1), .lit (.int .i64 1)]
def laid_bonsai_tree_most {H : Type} : DataW H := .agg [.lit (.int .i64 0), .lit (.int .i64 0), .lit (.int .i64 0), .lit (.int .i64 0), .lit (.int .i64 (-1)), .lit (.int .i64 (-1)), .lit (.int .i64 1), .lit (.int .i64 1), .lit (.int .i64 1), .lit (.int .i64 1)]
def laid_bonsai_print_front {H : Type} : DataW H := .agg [.lit (.string []), .lit (.string []), .lit (.string []), .lit (.string []), .lit (.string []), .lit (.string []), .lit (.string []), .lit (.string [38]), .lit (.string [33]), .lit (.string [58, 32])]
def laid_bonsai_print_between {H : Type} : DataW H := .agg [.lit (.string []), .lit (.string []), .lit (.string []), .lit (.string []), .lit (.string [32]), .lit (.string [32, 47, 32]), .lit (.string []), .lit (.string []), .lit (.string []), .lit (.string [])]
def laid_bonsai_print_enclosed {H : Type} : DataW H := .agg [.lit (.int .u16 0), .lit (.int .u16 0), .lit (.int .u16 0), .lit (.int .u16 0), .lit (.int .u16 48), .lit (.int .u16 32), .lit (.int .u16 496), .lit (.int .u16 48), .lit (.int .u16 48), .lit (.int .u16 0)]
def laid_bonsai_print_signs {H : Type} : DataW H := .agg [.agg [.lit (.int .i64 0), .lit (.int .i64 1), .lit (.string [63])], .agg [.lit (.int .i64 0), .lit (.int .i64 (-1)), .lit (.string [42])], .agg [.lit (.int .i64 1), .lit (.int .i64 (-1)), .lit (.string [43])]]

/-- 'bonsailaw15.TableNames': WHATEVER THE INPUT: true; the input reads as it did. -/
def tableNamesSpec : ChangeSpec := { name := "tableNames", fn := fun _ => fun
  | [] => { results := [.lit (.bool true)], args := [] }
  | _ => none }
def tableNamesRow : OpenClaim := { program := "ytljkifkamnbbaaagreatdoor", sum := "44f3e4a641fd8142b9950faa817ae1413d5722195d86686e606e2ffc4164744a", func := "bonsai/bonsailaw15.TableNames", spec := "tableNames", inPlace := ["internal/bytealg.IndexByteString", "internal/bytealg.IndexString", "internal/abi.NoEscape"], unfollowed := true, recurses := true, named := ["bonsai/tree.least", "bonsai/tree.most", "internal/bytealg.MaxLen", "math/bits.deBruijn64tab", "bonsai/print.signs", "internal/strconv.uint64pow10", "math/bits.deBruijn32tab", "bonsai/print.enclosed", "bonsai/print.between", "bonsai/print.front"], apart := false, laid := [("math/bits.deBruijn32tab", laid_math_bits_deBruijn32tab), ("math/bits.deBruijn64tab", laid_math_bits_deBruijn64tab), ("internal/strconv.uint64pow10", laid_internal_strconv_uint64pow10), ("bonsai/tree.least", laid_bonsai_tree_least), ("bonsai/tree.most", laid_bonsai_tree_most), ("bonsai/print.front", laid_bonsai_print_front), ("bonsai/print.between", laid_bonsai_print_between), ("bonsai/print.enclosed", laid_bonsai_print_enclosed), ("bonsai/print.signs", laid_bonsai_print_signs)] }
def TableNamesSaid : Prop := tableNamesRow.holds Tryz.pinned (OpenSpec.ofChange tableNamesSpec)

/-- ITS FALSE NEIGHBOUR: 'it returns false'. Refute it at one input. -/
def tableNamesWrong : ChangeSpec := { name := "tableNames", fn := fun _ => fun
  | [] => { results := [.lit (.bool false)], args := [] }
  | _ => none }
def TableNamesWrongFalsely : Prop := tableNamesRow.holds Tryz.pinned (OpenSpec.ofChange tableNamesWrong)

/-- 'bonsailaw18.PathNames': WHATEVER THE INPUT: true; the input reads as it did. -/
def pathNamesSpec : ChangeSpec := { name := "pathNames", fn := fun _ => fun
  | [] => { results := [.lit (.bool true)], args := [] }
  | _ => none }
def pathNamesRow : OpenClaim := { program := "ytljkifkamnbbaaagreatdoor", sum := "44f3e4a641fd8142b9950faa817ae1413d5722195d86686e606e2ffc4164744a", func := "bonsai/bonsailaw18.PathNames", spec := "pathNames", inPlace := ["internal/abi.NoEscape", "internal/bytealg.IndexByteString"], unfollowed := true, recurses := true, named := ["bonsai/tree.least", "bonsai/tree.most", "math/bits.deBruijn64tab", "bonsai/print.signs", "internal/strconv.uint64pow10", "math/bits.deBruijn32tab", "bonsai/print.enclosed", "bonsai/print.between", "bonsai/print.front"], apart := false, laid := [("math/bits.deBruijn32tab", laid_math_bits_deBruijn32tab), ("math/bits.deBruijn64tab", laid_math_bits_deBruijn64tab), ("internal/strconv.uint64pow10", laid_internal_strconv_uint64pow10), ("bonsai/tree.least", laid_bonsai_tree_least), ("bonsai/tree.most", laid_bonsai_tree_most), ("bonsai/print.front", laid_bonsai_print_front), ("bonsai/print.between", laid_bonsai_print_between), ("bonsai/print.enclosed", laid_bonsai_print_enclosed), ("bonsai/print.signs", laid_bonsai_print_signs)] }
def PathNamesSaid : Prop := pathNamesRow.holds Tryz.pinned (OpenSpec.ofChange pathNamesSpec)

/-- ITS FALSE NEIGHBOUR: 'it returns false'. Refute it at one input. -/
def pathNamesWrong : ChangeSpec := { name := "pathNames", fn := fun _ => fun
  | [] => { results := [.lit (.bool false)], args := [] }
  | _ => none }
def PathNamesWrongFalsely : Prop := pathNamesRow.holds Tryz.pinned (OpenSpec.ofChange pathNamesWrong)

/-- 'bonsailaw19.InlineNames': WHATEVER THE INPUT: true; the input reads as it did. -/
def inlineNamesSpec : ChangeSpec := { name := "inlineNames", fn := fun _ => fun
  | [] => { results := [.lit (.bool true)], args := [] }
  | _ => none }
def inlineNamesRow : OpenClaim := { program := "ytljkifkamnbbaaagreatdoor", sum := "44f3e4a641fd8142b9950faa817ae1413d5722195d86686e606e2ffc4164744a", func := "bonsai/bonsailaw19.InlineNames", spec := "inlineNames", inPlace := ["internal/bytealg.IndexByteString", "internal/bytealg.IndexString", "internal/abi.NoEscape"], unfollowed := true, recurses := true, named := ["internal/bytealg.MaxLen", "bonsai/tree.least", "bonsai/tree.most", "math/bits.deBruijn64tab", "bonsai/print.signs", "internal/strconv.uint64pow10", "math/bits.deBruijn32tab", "bonsai/print.enclosed", "bonsai/print.between", "bonsai/print.front"], apart := false, laid := [("math/bits.deBruijn32tab", laid_math_bits_deBruijn32tab), ("math/bits.deBruijn64tab", laid_math_bits_deBruijn64tab), ("internal/strconv.uint64pow10", laid_internal_strconv_uint64pow10), ("bonsai/tree.least", laid_bonsai_tree_least), ("bonsai/tree.most", laid_bonsai_tree_most), ("bonsai/print.front", laid_bonsai_print_front), ("bonsai/print.between", laid_bonsai_print_between), ("bonsai/print.enclosed", laid_bonsai_print_enclosed), ("bonsai/print.signs", laid_bonsai_print_signs)] }
def InlineNamesSaid : Prop := inlineNamesRow.holds Tryz.pinned (OpenSpec.ofChange inlineNamesSpec)

/-- ITS FALSE NEIGHBOUR: 'it returns false'. Refute it at one input. -/
def inlineNamesWrong : ChangeSpec := { name := "inlineNames", fn := fun _ => fun
  | [] => { results := [.lit (.bool false)], args := [] }
  | _ => none }
def InlineNamesWrongFalsely : Prop := inlineNamesRow.holds Tryz.pinned (OpenSpec.ofChange inlineNamesWrong)

/-- 'bonsailaw20.DeadNames': WHATEVER THE INPUT: true; the input reads as it did. -/
def deadNamesSpec : ChangeSpec := { name := "deadNames", fn := fun _ => fun
  | [] => { results := [.lit (.bool true)], args := [] }
  | _ => none }
def deadNamesRow : OpenClaim := { program := "ytljkifkamnbbaaagreatdoor", sum := "44f3e4a641fd8142b9950faa817ae1413d5722195d86686e606e2ffc4164744a", func := "bonsai/bonsailaw20.DeadNames", spec := "deadNames", inPlace := ["internal/abi.NoEscape", "internal/bytealg.IndexByteString"], unfollowed := true, recurses := true, named := ["bonsai/tree.least", "bonsai/tree.most", "math/bits.deBruijn64tab", "bonsai/print.signs", "internal/strconv.uint64pow10", "math/bits.deBruijn32tab", "bonsai/print.enclosed", "bonsai/print.between", "bonsai/print.front"], apart := false, laid := [("math/bits.deBruijn32tab", laid_math_bits_deBruijn32tab), ("math/bits.deBruijn64tab", laid_math_bits_deBruijn64tab), ("internal/strconv.uint64pow10", laid_internal_strconv_uint64pow10), ("bonsai/tree.least", laid_bonsai_tree_least), ("bonsai/tree.most", laid_bonsai_tree_most), ("bonsai/print.front", laid_bonsai_print_front), ("bonsai/print.between", laid_bonsai_print_between), ("bonsai/print.enclosed", laid_bonsai_print_enclosed), ("bonsai/print.signs", laid_bonsai_print_signs)] }
def DeadNamesSaid : Prop := deadNamesRow.holds Tryz.pinned (OpenSpec.ofChange deadNamesSpec)

/-- ITS FALSE NEIGHBOUR: 'it returns false'. Refute it at one input. -/
def deadNamesWrong : ChangeSpec := { name := "deadNames", fn := fun _ => fun
  | [] => { results := [.lit (.bool false)], args := [] }
  | _ => none }
def DeadNamesWrongFalsely : Prop := deadNamesRow.holds Tryz.pinned (OpenSpec.ofChange deadNamesWrong)

/-- 'bonsailaw21.FactorNames': WHATEVER THE INPUT: true; the input reads as it did. -/
def factorNamesSpec : ChangeSpec := { name := "factorNames", fn := fun _ => fun
  | [] => { results := [.lit (.bool true)], args := [] }
  | _ => none }
def factorNamesRow : OpenClaim := { program := "ytljkifkamnbbaaagreatdoor", sum := "44f3e4a641fd8142b9950faa817ae1413d5722195d86686e606e2ffc4164744a", func := "bonsai/bonsailaw21.FactorNames", spec := "factorNames", inPlace := ["internal/bytealg.IndexByteString", "internal/bytealg.IndexString", "internal/abi.NoEscape"], unfollowed := true, recurses := true, named := ["internal/bytealg.MaxLen", "bonsai/tree.least", "bonsai/tree.most", "math/bits.deBruijn64tab", "bonsai/print.signs", "internal/strconv.uint64pow10", "math/bits.deBruijn32tab", "bonsai/print.enclosed", "bonsai/print.between", "bonsai/print.front"], apart := false, laid := [("math/bits.deBruijn32tab", laid_math_bits_deBruijn32tab), ("math/bits.deBruijn64tab", laid_math_bits_deBruijn64tab), ("internal/strconv.uint64pow10", laid_internal_strconv_uint64pow10), ("bonsai/tree.least", laid_bonsai_tree_least), ("bonsai/tree.most", laid_bonsai_tree_most), ("bonsai/print.front", laid_bonsai_print_front), ("bonsai/print.between", laid_bonsai_print_between), ("bonsai/print.enclosed", laid_bonsai_print_enclosed), ("bonsai/print.signs", laid_bonsai_print_signs)] }
def FactorNamesSaid : Prop := factorNamesRow.holds Tryz.pinned (OpenSpec.ofChange factorNamesSpec)

/-- ITS FALSE NEIGHBOUR: 'it returns false'. Refute it at one input. -/
def factorNamesWrong : ChangeSpec := { name := "factorNames", fn := fun _ => fun
  | [] => { results := [.lit (.bool false)], args := [] }
  | _ => none }
def FactorNamesWrongFalsely : Prop := factorNamesRow.holds Tryz.pinned (OpenSpec.ofChange factorNamesWrong)

/-- 'bonsailaw22.PredNames': WHATEVER THE INPUT: true; the input reads as it did. -/
def predNamesSpec : ChangeSpec := { name := "predNames", fn := fun _ => fun
  | [] => { results := [.lit (.bool true)], args := [] }
  | _ => none }
def predNamesRow : OpenClaim := { program := "ytljkifkamnbbaaagreatdoor", sum := "44f3e4a641fd8142b9950faa817ae1413d5722195d86686e606e2ffc4164744a", func := "bonsai/bonsailaw22.PredNames", spec := "predNames", inPlace := ["internal/abi.NoEscape", "internal/bytealg.IndexByteString"], unfollowed := true, recurses := true, named := ["bonsai/tree.least", "bonsai/tree.most", "math/bits.deBruijn64tab", "bonsai/print.signs", "internal/strconv.uint64pow10", "math/bits.deBruijn32tab", "bonsai/print.enclosed", "bonsai/print.between", "bonsai/print.front"], apart := false, laid := [("math/bits.deBruijn32tab", laid_math_bits_deBruijn32tab), ("math/bits.deBruijn64tab", laid_math_bits_deBruijn64tab), ("internal/strconv.uint64pow10", laid_internal_strconv_uint64pow10), ("bonsai/tree.least", laid_bonsai_tree_least), ("bonsai/tree.most", laid_bonsai_tree_most), ("bonsai/print.front", laid_bonsai_print_front), ("bonsai/print.between", laid_bonsai_print_between), ("bonsai/print.enclosed", laid_bonsai_print_enclosed), ("bonsai/print.signs", laid_bonsai_print_signs)] }
def PredNamesSaid : Prop := predNamesRow.holds Tryz.pinned (OpenSpec.ofChange predNamesSpec)

/-- ITS FALSE NEIGHBOUR: 'it returns false'. Refute it at one input. -/
def predNamesWrong : ChangeSpec := { name := "predNames", fn := fun _ => fun
  | [] => { results := [.lit (.bool false)], args := [] }
  | _ => none }
def PredNamesWrongFalsely : Prop := predNamesRow.holds Tryz.pinned (OpenSpec.ofChange predNamesWrong)

/- THE SECOND FORM. 'bulk': how many values and letters a reading holds, each counted each time it is reached (what is shared counts as often as it is met; a slice's spare places count too). A statement '..UptoSaid' is the law's where the arguments, and the package variables that the reading takes, are together of bulk at most 1048576: NARROWER than '..Said'. Prove '..Said' where nothing that the law and all that it calls make is longer than what came in: it says more and counts as full. Else prove '..UptoSaid'. A law counts once. -/
mutual
def uptoBulk {H : Type} : DataW H → Nat
  | .lit (.string bytes) => bytes.length + 1
  | .lit _ => 1
  | .nil => 1
  | .ptr d => uptoBulk d + 1
  | .slice elems spare => uptoBulkAll elems + uptoBulkAll spare + 1
  | .agg parts => uptoBulkAll parts + 1
  | .iface _ d => uptoBulk d + 1
  | .map entries => uptoBulkEntries entries + 1
  | .held _ => 1
def uptoBulkAll {H : Type} : List (DataW H) → Nat
  | [] => 0
  | d :: r => uptoBulk d + uptoBulkAll r
def uptoBulkEntries {H : Type} : List (Lit × DataW H) → Nat
  | [] => 0
  | x :: r => uptoBulkEntry x + uptoBulkEntries r
def uptoBulkEntry {H : Type} : Lit × DataW H → Nat
  | (.string bytes, d) => bytes.length + uptoBulk d + 1
  | (_, d) => uptoBulk d + 1
 end
def uptoSmall : (H : Type) → List (DataW H) → Bool := fun _ ds => decide (uptoBulkAll ds ≤ 1048576)
def OpenSpec.upto (s : _root_.Go.ChangeSpec) : _root_.Go.OpenSpec := { _root_.Go.OpenSpec.ofChange s with cond := some uptoSmall }

/-- 'bonsailaw15.TableNames', WHERE WHAT IT READS IS OF BULK AT MOST 1048576: true; the input reads as it did. -/
def tableNamesUptoRow : OpenClaim := { program := "ytljkifkamnbbaaagreatdoor", sum := "44f3e4a641fd8142b9950faa817ae1413d5722195d86686e606e2ffc4164744a", func := "bonsai/bonsailaw15.TableNames", spec := "tableNames", inPlace := ["internal/bytealg.IndexByteString", "internal/bytealg.IndexString", "internal/abi.NoEscape"], unfollowed := true, recurses := true, named := ["bonsai/tree.least", "bonsai/tree.most", "internal/bytealg.MaxLen", "math/bits.deBruijn64tab", "bonsai/print.signs", "internal/strconv.uint64pow10", "math/bits.deBruijn32tab", "bonsai/print.enclosed", "bonsai/print.between", "bonsai/print.front"], apart := false, laid := [("math/bits.deBruijn32tab", laid_math_bits_deBruijn32tab), ("math/bits.deBruijn64tab", laid_math_bits_deBruijn64tab), ("internal/strconv.uint64pow10", laid_internal_strconv_uint64pow10), ("bonsai/tree.least", laid_bonsai_tree_least), ("bonsai/tree.most", laid_bonsai_tree_most), ("bonsai/print.front", laid_bonsai_print_front), ("bonsai/print.between", laid_bonsai_print_between), ("bonsai/print.enclosed", laid_bonsai_print_enclosed), ("bonsai/print.signs", laid_bonsai_print_signs)], narrowed := true }
def TableNamesUptoSaid : Prop := tableNamesUptoRow.holds Tryz.pinned (OpenSpec.upto tableNamesSpec)

/-- 'bonsailaw18.PathNames', WHERE WHAT IT READS IS OF BULK AT MOST 1048576: true; the input reads as it did. -/
def pathNamesUptoRow : OpenClaim := { program := "ytljkifkamnbbaaagreatdoor", sum := "44f3e4a641fd8142b9950faa817ae1413d5722195d86686e606e2ffc4164744a", func := "bonsai/bonsailaw18.PathNames", spec := "pathNames", inPlace := ["internal/abi.NoEscape", "internal/bytealg.IndexByteString"], unfollowed := true, recurses := true, named := ["bonsai/tree.least", "bonsai/tree.most", "math/bits.deBruijn64tab", "bonsai/print.signs", "internal/strconv.uint64pow10", "math/bits.deBruijn32tab", "bonsai/print.enclosed", "bonsai/print.between", "bonsai/print.front"], apart := false, laid := [("math/bits.deBruijn32tab", laid_math_bits_deBruijn32tab), ("math/bits.deBruijn64tab", laid_math_bits_deBruijn64tab), ("internal/strconv.uint64pow10", laid_internal_strconv_uint64pow10), ("bonsai/tree.least", laid_bonsai_tree_least), ("bonsai/tree.most", laid_bonsai_tree_most), ("bonsai/print.front", laid_bonsai_print_front), ("bonsai/print.between", laid_bonsai_print_between), ("bonsai/print.enclosed", laid_bonsai_print_enclosed), ("bonsai/print.signs", laid_bonsai_print_signs)], narrowed := true }
def PathNamesUptoSaid : Prop := pathNamesUptoRow.holds Tryz.pinned (OpenSpec.upto pathNamesSpec)

/-- 'bonsailaw19.InlineNames', WHERE WHAT IT READS IS OF BULK AT MOST 1048576: true; the input reads as it did. -/
def inlineNamesUptoRow : OpenClaim := { program := "ytljkifkamnbbaaagreatdoor", sum := "44f3e4a641fd8142b9950faa817ae1413d5722195d86686e606e2ffc4164744a", func := "bonsai/bonsailaw19.InlineNames", spec := "inlineNames", inPlace := ["internal/bytealg.IndexByteString", "internal/bytealg.IndexString", "internal/abi.NoEscape"], unfollowed := true, recurses := true, named := ["internal/bytealg.MaxLen", "bonsai/tree.least", "bonsai/tree.most", "math/bits.deBruijn64tab", "bonsai/print.signs", "internal/strconv.uint64pow10", "math/bits.deBruijn32tab", "bonsai/print.enclosed", "bonsai/print.between", "bonsai/print.front"], apart := false, laid := [("math/bits.deBruijn32tab", laid_math_bits_deBruijn32tab), ("math/bits.deBruijn64tab", laid_math_bits_deBruijn64tab), ("internal/strconv.uint64pow10", laid_internal_strconv_uint64pow10), ("bonsai/tree.least", laid_bonsai_tree_least), ("bonsai/tree.most", laid_bonsai_tree_most), ("bonsai/print.front", laid_bonsai_print_front), ("bonsai/print.between", laid_bonsai_print_between), ("bonsai/print.enclosed", laid_bonsai_print_enclosed), ("bonsai/print.signs", laid_bonsai_print_signs)], narrowed := true }
def InlineNamesUptoSaid : Prop := inlineNamesUptoRow.holds Tryz.pinned (OpenSpec.upto inlineNamesSpec)

/-- 'bonsailaw20.DeadNames', WHERE WHAT IT READS IS OF BULK AT MOST 1048576: true; the input reads as it did. -/
def deadNamesUptoRow : OpenClaim := { program := "ytljkifkamnbbaaagreatdoor", sum := "44f3e4a641fd8142b9950faa817ae1413d5722195d86686e606e2ffc4164744a", func := "bonsai/bonsailaw20.DeadNames", spec := "deadNames", inPlace := ["internal/abi.NoEscape", "internal/bytealg.IndexByteString"], unfollowed := true, recurses := true, named := ["bonsai/tree.least", "bonsai/tree.most", "math/bits.deBruijn64tab", "bonsai/print.signs", "internal/strconv.uint64pow10", "math/bits.deBruijn32tab", "bonsai/print.enclosed", "bonsai/print.between", "bonsai/print.front"], apart := false, laid := [("math/bits.deBruijn32tab", laid_math_bits_deBruijn32tab), ("math/bits.deBruijn64tab", laid_math_bits_deBruijn64tab), ("internal/strconv.uint64pow10", laid_internal_strconv_uint64pow10), ("bonsai/tree.least", laid_bonsai_tree_least), ("bonsai/tree.most", laid_bonsai_tree_most), ("bonsai/print.front", laid_bonsai_print_front), ("bonsai/print.between", laid_bonsai_print_between), ("bonsai/print.enclosed", laid_bonsai_print_enclosed), ("bonsai/print.signs", laid_bonsai_print_signs)], narrowed := true }
def DeadNamesUptoSaid : Prop := deadNamesUptoRow.holds Tryz.pinned (OpenSpec.upto deadNamesSpec)

/-- 'bonsailaw21.FactorNames', WHERE WHAT IT READS IS OF BULK AT MOST 1048576: true; the input reads as it did. -/
def factorNamesUptoRow : OpenClaim := { program := "ytljkifkamnbbaaagreatdoor", sum := "44f3e4a641fd8142b9950faa817ae1413d5722195d86686e606e2ffc4164744a", func := "bonsai/bonsailaw21.FactorNames", spec := "factorNames", inPlace := ["internal/bytealg.IndexByteString", "internal/bytealg.IndexString", "internal/abi.NoEscape"], unfollowed := true, recurses := true, named := ["internal/bytealg.MaxLen", "bonsai/tree.least", "bonsai/tree.most", "math/bits.deBruijn64tab", "bonsai/print.signs", "internal/strconv.uint64pow10", "math/bits.deBruijn32tab", "bonsai/print.enclosed", "bonsai/print.between", "bonsai/print.front"], apart := false, laid := [("math/bits.deBruijn32tab", laid_math_bits_deBruijn32tab), ("math/bits.deBruijn64tab", laid_math_bits_deBruijn64tab), ("internal/strconv.uint64pow10", laid_internal_strconv_uint64pow10), ("bonsai/tree.least", laid_bonsai_tree_least), ("bonsai/tree.most", laid_bonsai_tree_most), ("bonsai/print.front", laid_bonsai_print_front), ("bonsai/print.between", laid_bonsai_print_between), ("bonsai/print.enclosed", laid_bonsai_print_enclosed), ("bonsai/print.signs", laid_bonsai_print_signs)], narrowed := true }
def FactorNamesUptoSaid : Prop := factorNamesUptoRow.holds Tryz.pinned (OpenSpec.upto factorNamesSpec)

/-- 'bonsailaw22.PredNames', WHERE WHAT IT READS IS OF BULK AT MOST 1048576: true; the input reads as it did. -/
def predNamesUptoRow : OpenClaim := { program := "ytljkifkamnbbaaagreatdoor", sum := "44f3e4a641fd8142b9950faa817ae1413d5722195d86686e606e2ffc4164744a", func := "bonsai/bonsailaw22.PredNames", spec := "predNames", inPlace := ["internal/abi.NoEscape", "internal/bytealg.IndexByteString"], unfollowed := true, recurses := true, named := ["bonsai/tree.least", "bonsai/tree.most", "math/bits.deBruijn64tab", "bonsai/print.signs", "internal/strconv.uint64pow10", "math/bits.deBruijn32tab", "bonsai/print.enclosed", "bonsai/print.between", "bonsai/print.front"], apart := false, laid := [("math/bits.deBruijn32tab", laid_math_bits_deBruijn32tab), ("math/bits.deBruijn64tab", laid_math_bits_deBruijn64tab), ("internal/strconv.uint64pow10", laid_internal_strconv_uint64pow10), ("bonsai/tree.least", laid_bonsai_tree_least), ("bonsai/tree.most", laid_bonsai_tree_most), ("bonsai/print.front", laid_bonsai_print_front), ("bonsai/print.between", laid_bonsai_print_between), ("bonsai/print.enclosed", laid_bonsai_print_enclosed), ("bonsai/print.signs", laid_bonsai_print_signs)], narrowed := true }
def PredNamesUptoSaid : Prop := predNamesUptoRow.holds Tryz.pinned (OpenSpec.upto predNamesSpec)

end Rows
end Go.Proofs.YtljkifkamnbbaaaGreatDoor
