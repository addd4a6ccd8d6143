/-
  NARROWER THAN 'FOR EVERY INPUT', by the rows' own cells (each row's printed sentence says how): FnSets: laid · FnExactSetOf: laid · FnExactFindSet: laid · FnExactCodeOK: laid · FnExactRuneFor: laid · FnExactCodeFor: laid · FnExactSetsFor: laid · FnExactSizeOf: laid · FnExactEscapeOf: laid · FnExactTokenText: laid.
  DERIVED. THE GIVEN ROWS OF THIS SEAT. 10 by the template 'for every input the law returns true; each argument reads behind the call as it read before'; 0 by the template 'total and deterministic' (their statements: YtlakpddabkmpoaaDoorTotals.lean).
  GIVEN WITH THE SEED: the statements are not yours to turn. If you find one false, say at which input.
  Laid BY PROGRAM, IN A SANDBOX (cutbox-rows.mjs): the forced cells as the released guide's own fill.sh prints them over the translation ff23cf4816a81881… (all of the seat's roots in one cut). By AI agents, Wed Nov 11 2026. No macro, syntax, notation, axiom, sorry.
-/
import Derived.Test.YtlakpddabkmpoaaDoorChecked
import GoSem.Claim
import GoSem.ClaimJoined
import GoSem.ClaimMapViews
import Derived.JoinedTies
import Derived.KernelRfl
namespace Go.Proofs.YtlakpddabkmpoaaDoor
/- THE CELL 'sum', in the pinned program and in every row, IS THE sha256 OF THE DUMP (.gsa) THAT YtlakpddabkmpoaaDoorProg.lean LOADS. Nothing in Lean hashes anything: it is a label: what it is worth is what the hold of that sum in a sandbox is worth. -/
noncomputable def Tryd.pinned : Pinned := { name := "ytlakpddabkmpoaadoor", sum := "ff23cf4816a81881a4e0f676157cf75609a089c6b858d3b219561057428333c3", checked := Tryd.checked }
namespace Rows
def none {H : Type} : Left H := { results := [], args := [] }

/- WHAT THE LISTED PACKAGE-LEVEL VARIABLES READ AS WHEN THE CALL BEGINS. Each datum BY PROGRAM (the guide's laid-datum.mjs) off the statement by which the dump's own 'gosem.cut.vars' lays the variable. In a bare row this is a premise. The card (YtlakpddabkmpoaaDoorCards.lean) ties it to the program's text. -/
def laid_loop_example_g00748_impl_registry {H : Type} : DataW H := .agg [.agg [.lit (.string []), .lit (.int .i64 0), .lit (.int .i64 0), .nil], .agg [.lit (.string [97, 115, 99, 105, 105]), .lit (.int .i64 1), .lit (.int .i64 66), .slice [.agg [.lit (.int .i64 33), .lit (.int .i64 33), .lit (.int .i64 94)]] []], .agg [.lit (.string [114, 111, 109, 97, 110]), .lit (.int .i64 1), .lit (.int .i64 74), .slice [.agg [.lit (.int .i64 33), .lit (.int .i64 33), .lit (.int .i64 59)], .agg [.lit (.int .i64 92), .lit (.int .i64 165), .lit (.int .i64 1)], .agg [.lit (.int .i64 93), .lit (.int .i64 93), .lit (.int .i64 33)], .agg [.lit (.int .i64 126), .lit (.int .i64 8254), .lit (.int .i64 1)]] []], .agg [.lit (.string [107, 97, 110, 97]), .lit (.int .i64 1), .lit (.int .i64 73), .slice [.agg [.lit (.int .i64 33), .lit (.int .i64 65377), .lit (.int .i64 63)]] []], .agg [.lit (.string [108, 97, 116, 105, 110]), .lit (.int .i64 2), .lit (.int .i64 65), .slice [.agg [.lit (.int .i64 32), .lit (.int .i64 160), .lit (.int .i64 96)]] []], .agg [.lit (.string [103, 114, 101, 101, 107]), .lit (.int .i64 2), .lit (.int .i64 70), .slice [.agg [.lit (.int .i64 32), .lit (.int .i64 160), .lit (.int .i64 1)], .agg [.lit (.int .i64 65), .lit (.int .i64 913), .lit (.int .i64 17)], .agg [.lit (.int .i64 83), .lit (.int .i64 931), .lit (.int .i64 7)], .agg [.lit (.int .i64 97), .lit (.int .i64 945), .lit (.int .i64 25)]] []], .agg [.lit (.string [107, 97, 110, 106, 105]), .lit (.int .i64 3), .lit (.int .i64 66), .slice [.agg [.lit (.int .i64 8993), .lit (.int .i64 65296), .lit (.int .i64 10)], .agg [.lit (.int .i64 9249), .lit (.int .i64 12353), .lit (.int .i64 83)], .agg [.lit (.int .i64 9505), .lit (.int .i64 12449), .lit (.int .i64 86)], .agg [.lit (.int .i64 12321), .lit (.int .i64 19968), .lit (.int .i64 94)]] []], .agg [.lit (.string [104, 97, 110, 103, 117, 108]), .lit (.int .i64 3), .lit (.int .i64 67), .slice [.agg [.lit (.int .i64 9249), .lit (.int .i64 12353), .lit (.int .i64 83)], .agg [.lit (.int .i64 12321), .lit (.int .i64 44032), .lit (.int .i64 94)], .agg [.lit (.int .i64 12577), .lit (.int .i64 44126), .lit (.int .i64 94)]] []], .agg [.lit (.string [104, 97, 110, 122, 105]), .lit (.int .i64 3), .lit (.int .i64 65), .slice [.agg [.lit (.int .i64 9249), .lit (.int .i64 12353), .lit (.int .i64 83)], .agg [.lit (.int .i64 9505), .lit (.int .i64 12449), .lit (.int .i64 86)], .agg [.lit (.int .i64 12321), .lit (.int .i64 19998), .lit (.int .i64 94)]] []]]
def laid_math_bits_deBruijn32tab {H : Type} : DataW H := .agg [.lit (.int .u8 0), .lit (.int .u8 1), .lit (.int .u8 28), .lit (.int .u8 2), .lit (.int .u8 29), .lit (.int .u8 14), .lit (.int .u8 24), .lit (.int .u8 3), .lit (.int .u8 30), .lit (.int .u8 22), .lit (.int .u8 20), .lit (.int .u8 15), .lit (.int .u8 25), .lit (.int .u8 17), .lit (.int .u8 4), .lit (.int .u8 8), .lit (.int .u8 31), .lit (.int .u8 27), .lit (.int .u8 13), .lit (.int .u8 23), .lit (.int .u8 21), .lit (.int .u8 19), .lit (.int .u8 16), .lit (.int .u8 7), .lit (.int .u8 26), .lit (.int .u8 12), .lit (.int .u8 18), .lit (.int .u8 6), .lit (.int .u8 11), .lit (.int .u8 5), .lit (.int .u8 10), .lit (.int .u8 9)]
def laid_math_bits_deBruijn64tab {H : Type} : DataW H := .agg [.lit (.int .u8 0), .lit (.int .u8 1), .lit (.int .u8 56), .lit (.int .u8 2), .lit (.int .u8 57), .lit (.int .u8 49), .lit (.int .u8 28), .lit (.int .u8 3), .lit (.int .u8 61), .lit (.int .u8 58), .lit (.int .u8 42), .lit (.int .u8 50), .lit (.int .u8 38), .lit (.int .u8 29), .lit (.int .u8 17), .lit (.int .u8 4), .lit (.int .u8 62), .lit (.int .u8 47), .lit (.int .u8 59), .lit (.int .u8 36), .lit (.int .u8 45), .lit (.int .u8 43), .lit (.int .u8 51), .lit (.int .u8 22), .lit (.int .u8 53), .lit (.int .u8 39), .lit (.int .u8 33), .lit (.int .u8 30), .lit (.int .u8 24), .lit (.int .u8 18), .lit (.int .u8 12), .lit (.int .u8 5), .lit (.int .u8 63), .lit (.int .u8 55), .lit (.int .u8 48), .lit (.int .u8 27), .lit (.int .u8 60), .lit (.int .u8 41), .lit (.int .u8 37), .lit (.int .u8 16), .lit (.int .u8 46), .lit (.int .u8 35), .lit (.int .u8 44), .lit (.int .u8 21), .lit (.int .u8 52), .lit (.int .u8 32), .lit (.int .u8 23), .lit (.int .u8 11), .lit (.int .u8 54), .lit (.int .u8 26), .lit (.int .u8 40), .lit (.int .u8 15), .lit (.int .u8 34), .lit (.int .u8 20), .lit (.int .u8 31), .lit (.int .u8 10), .lit (.int .u8 25), .lit (.int .u8 14), .lit (.int .u8 19), .lit (.int .u8 9), .lit (.int .u8 13), .lit (.int .u8 8), .lit (.int .u8 7), .lit (.int .u8 6)]
def laid_internal_strconv_uint64pow10 {H : Type} : DataW H := .agg [.lit (.int .u64 1), .lit (.int .u64 10), .lit (.int .u64 100), .lit (.int .u64 1000), .lit (.int .u64 10000), .lit (.int .u64 100000), .lit (.int .u64 1000000), .lit (.int .u64 10000000), .lit (.int .u64 100000000), .lit (.int .u64 1000000000), .lit (.int .u64 10000000000), .lit (.int .u64 100000000000), .lit (.int .u64 1000000000000), .lit (.int .u64 10000000000000), .lit (.int .u64 100000000000000), .lit (.int .u64 1000000000000000), .lit (.int .u64 10000000000000000), .lit (.int .u64 100000000000000000), .lit (.int .u64 1000000000000000000), .lit (.int .u64 10000000000000000000)]
def laid_loop_example_g00748_impl_tokenWords {H : Type} : DataW H := .agg [.lit (.string []), .lit (.string [99, 111, 110, 116, 114, 111, 108]), .lit (.string [115, 112, 97, 99, 101]), .lit (.string [108, 101, 102, 116]), .lit (.string [114, 105, 103, 104, 116]), .lit (.string [115, 104, 105, 102, 116]), .lit (.string [115, 105, 110, 103, 108, 101]), .lit (.string [110, 97, 109, 101]), .lit (.string [116, 97, 105, 108]), .lit (.string [111, 116, 104, 101, 114])]

/-- 'laws.FnSets': WHATEVER THE INPUT: true; the input reads as it did. -/
def fnSetsSpec : ChangeSpec := { name := "fnSets", vars := ["loop.example/g00748/impl.registry"], fn := fun _ => fun
  | [d1, d2, g1] => { results := [.lit (.bool true)], args := [d1, d2], vars := [g1] }
  | _ => none }
def fnSetsRow : OpenClaim := { program := "ytlakpddabkmpoaadoor", sum := "ff23cf4816a81881a4e0f676157cf75609a089c6b858d3b219561057428333c3", func := "loop.example/g00748/laws.FnSets", spec := "fnSets", named := ["loop.example/g00748/impl.registry"], apart := false, laid := [("loop.example/g00748/impl.registry", laid_loop_example_g00748_impl_registry)] }
def FnSetsSaid : Prop := fnSetsRow.holds Tryd.pinned (OpenSpec.ofChange fnSetsSpec)

/-- ITS FALSE NEIGHBOUR: 'it returns false'. Refute it at one input. -/
def fnSetsWrong : ChangeSpec := { name := "fnSets", vars := ["loop.example/g00748/impl.registry"], fn := fun _ => fun
  | [d1, d2, g1] => { results := [.lit (.bool false)], args := [d1, d2], vars := [g1] }
  | _ => none }
def FnSetsWrongFalsely : Prop := fnSetsRow.holds Tryd.pinned (OpenSpec.ofChange fnSetsWrong)

/-- 'laws.FnExactSetOf': WHATEVER THE INPUT: true; the input reads as it did. -/
def fnExactSetOfSpec : ChangeSpec := { name := "fnExactSetOf", vars := ["loop.example/g00748/impl.registry"], fn := fun _ => fun
  | [d, g1] => { results := [.lit (.bool true)], args := [d], vars := [g1] }
  | _ => none }
def fnExactSetOfRow : OpenClaim := { program := "ytlakpddabkmpoaadoor", sum := "ff23cf4816a81881a4e0f676157cf75609a089c6b858d3b219561057428333c3", func := "loop.example/g00748/laws.FnExactSetOf", spec := "fnExactSetOf", named := ["loop.example/g00748/impl.registry"], apart := false, laid := [("loop.example/g00748/impl.registry", laid_loop_example_g00748_impl_registry)] }
def FnExactSetOfSaid : Prop := fnExactSetOfRow.holds Tryd.pinned (OpenSpec.ofChange fnExactSetOfSpec)

/-- ITS FALSE NEIGHBOUR: 'it returns false'. Refute it at one input. -/
def fnExactSetOfWrong : ChangeSpec := { name := "fnExactSetOf", vars := ["loop.example/g00748/impl.registry"], fn := fun _ => fun
  | [d, g1] => { results := [.lit (.bool false)], args := [d], vars := [g1] }
  | _ => none }
def FnExactSetOfWrongFalsely : Prop := fnExactSetOfRow.holds Tryd.pinned (OpenSpec.ofChange fnExactSetOfWrong)

/-- 'laws.FnExactFindSet': WHATEVER THE INPUT: true; the input reads as it did. -/
def fnExactFindSetSpec : ChangeSpec := { name := "fnExactFindSet", vars := ["loop.example/g00748/impl.registry"], fn := fun _ => fun
  | [d1, d2, g1] => { results := [.lit (.bool true)], args := [d1, d2], vars := [g1] }
  | _ => none }
def fnExactFindSetRow : OpenClaim := { program := "ytlakpddabkmpoaadoor", sum := "ff23cf4816a81881a4e0f676157cf75609a089c6b858d3b219561057428333c3", func := "loop.example/g00748/laws.FnExactFindSet", spec := "fnExactFindSet", named := ["loop.example/g00748/impl.registry"], apart := false, laid := [("loop.example/g00748/impl.registry", laid_loop_example_g00748_impl_registry)] }
def FnExactFindSetSaid : Prop := fnExactFindSetRow.holds Tryd.pinned (OpenSpec.ofChange fnExactFindSetSpec)

/-- ITS FALSE NEIGHBOUR: 'it returns false'. Refute it at one input. -/
def fnExactFindSetWrong : ChangeSpec := { name := "fnExactFindSet", vars := ["loop.example/g00748/impl.registry"], fn := fun _ => fun
  | [d1, d2, g1] => { results := [.lit (.bool false)], args := [d1, d2], vars := [g1] }
  | _ => none }
def FnExactFindSetWrongFalsely : Prop := fnExactFindSetRow.holds Tryd.pinned (OpenSpec.ofChange fnExactFindSetWrong)

/-- 'laws.FnExactCodeOK': WHATEVER THE INPUT: true; the input reads as it did. -/
def fnExactCodeOKSpec : ChangeSpec := { name := "fnExactCodeOK", vars := ["loop.example/g00748/impl.registry"], fn := fun _ => fun
  | [d1, d2, g1] => { results := [.lit (.bool true)], args := [d1, d2], vars := [g1] }
  | _ => none }
def fnExactCodeOKRow : OpenClaim := { program := "ytlakpddabkmpoaadoor", sum := "ff23cf4816a81881a4e0f676157cf75609a089c6b858d3b219561057428333c3", func := "loop.example/g00748/laws.FnExactCodeOK", spec := "fnExactCodeOK", named := ["loop.example/g00748/impl.registry"], apart := false, laid := [("loop.example/g00748/impl.registry", laid_loop_example_g00748_impl_registry)] }
def FnExactCodeOKSaid : Prop := fnExactCodeOKRow.holds Tryd.pinned (OpenSpec.ofChange fnExactCodeOKSpec)

/-- ITS FALSE NEIGHBOUR: 'it returns false'. Refute it at one input. -/
def fnExactCodeOKWrong : ChangeSpec := { name := "fnExactCodeOK", vars := ["loop.example/g00748/impl.registry"], fn := fun _ => fun
  | [d1, d2, g1] => { results := [.lit (.bool false)], args := [d1, d2], vars := [g1] }
  | _ => none }
def FnExactCodeOKWrongFalsely : Prop := fnExactCodeOKRow.holds Tryd.pinned (OpenSpec.ofChange fnExactCodeOKWrong)

/-- 'laws.FnExactRuneFor': WHATEVER THE INPUT: true; the input reads as it did. -/
def fnExactRuneForSpec : ChangeSpec := { name := "fnExactRuneFor", vars := ["loop.example/g00748/impl.registry"], fn := fun _ => fun
  | [d1, d2, g1] => { results := [.lit (.bool true)], args := [d1, d2], vars := [g1] }
  | _ => none }
def fnExactRuneForRow : OpenClaim := { program := "ytlakpddabkmpoaadoor", sum := "ff23cf4816a81881a4e0f676157cf75609a089c6b858d3b219561057428333c3", func := "loop.example/g00748/laws.FnExactRuneFor", spec := "fnExactRuneFor", named := ["loop.example/g00748/impl.registry"], apart := false, laid := [("loop.example/g00748/impl.registry", laid_loop_example_g00748_impl_registry)] }
def FnExactRuneForSaid : Prop := fnExactRuneForRow.holds Tryd.pinned (OpenSpec.ofChange fnExactRuneForSpec)

/-- ITS FALSE NEIGHBOUR: 'it returns false'. Refute it at one input. -/
def fnExactRuneForWrong : ChangeSpec := { name := "fnExactRuneFor", vars := ["loop.example/g00748/impl.registry"], fn := fun _ => fun
  | [d1, d2, g1] => { results := [.lit (.bool false)], args := [d1, d2], vars := [g1] }
  | _ => none }
def FnExactRuneForWrongFalsely : Prop := fnExactRuneForRow.holds Tryd.pinned (OpenSpec.ofChange fnExactRuneForWrong)

/-- 'laws.FnExactCodeFor': WHATEVER THE INPUT: true; the input reads as it did. -/
def fnExactCodeForSpec : ChangeSpec := { name := "fnExactCodeFor", vars := ["loop.example/g00748/impl.registry"], fn := fun _ => fun
  | [d1, d2, g1] => { results := [.lit (.bool true)], args := [d1, d2], vars := [g1] }
  | _ => none }
def fnExactCodeForRow : OpenClaim := { program := "ytlakpddabkmpoaadoor", sum := "ff23cf4816a81881a4e0f676157cf75609a089c6b858d3b219561057428333c3", func := "loop.example/g00748/laws.FnExactCodeFor", spec := "fnExactCodeFor", named := ["loop.example/g00748/impl.registry"], apart := false, laid := [("loop.example/g00748/impl.registry", laid_loop_example_g00748_impl_registry)] }
def FnExactCodeForSaid : Prop := fnExactCodeForRow.holds Tryd.pinned (OpenSpec.ofChange fnExactCodeForSpec)

/-- ITS FALSE NEIGHBOUR: 'it returns false'. Refute it at one input. -/
def fnExactCodeForWrong : ChangeSpec := { name := "fnExactCodeFor", vars := ["loop.example/g00748/impl.registry"], fn := fun _ => fun
  | [d1, d2, g1] => { results := [.lit (.bool false)], args := [d1, d2], vars := [g1] }
  | _ => none }
def FnExactCodeForWrongFalsely : Prop := fnExactCodeForRow.holds Tryd.pinned (OpenSpec.ofChange fnExactCodeForWrong)

/-- 'laws.FnExactSetsFor': WHATEVER THE INPUT: true; the input reads as it did. -/
def fnExactSetsForSpec : ChangeSpec := { name := "fnExactSetsFor", vars := ["loop.example/g00748/impl.registry"], fn := fun _ => fun
  | [d, g1] => { results := [.lit (.bool true)], args := [d], vars := [g1] }
  | _ => none }
def fnExactSetsForRow : OpenClaim := { program := "ytlakpddabkmpoaadoor", sum := "ff23cf4816a81881a4e0f676157cf75609a089c6b858d3b219561057428333c3", func := "loop.example/g00748/laws.FnExactSetsFor", spec := "fnExactSetsFor", named := ["loop.example/g00748/impl.registry"], apart := false, laid := [("loop.example/g00748/impl.registry", laid_loop_example_g00748_impl_registry)] }
def FnExactSetsForSaid : Prop := fnExactSetsForRow.holds Tryd.pinned (OpenSpec.ofChange fnExactSetsForSpec)

/-- ITS FALSE NEIGHBOUR: 'it returns false'. Refute it at one input. -/
def fnExactSetsForWrong : ChangeSpec := { name := "fnExactSetsFor", vars := ["loop.example/g00748/impl.registry"], fn := fun _ => fun
  | [d, g1] => { results := [.lit (.bool false)], args := [d], vars := [g1] }
  | _ => none }
def FnExactSetsForWrongFalsely : Prop := fnExactSetsForRow.holds Tryd.pinned (OpenSpec.ofChange fnExactSetsForWrong)

/-- 'laws.FnExactSizeOf': WHATEVER THE INPUT: true; the input reads as it did. -/
def fnExactSizeOfSpec : ChangeSpec := { name := "fnExactSizeOf", vars := ["loop.example/g00748/impl.registry"], fn := fun _ => fun
  | [d, g1] => { results := [.lit (.bool true)], args := [d], vars := [g1] }
  | _ => none }
def fnExactSizeOfRow : OpenClaim := { program := "ytlakpddabkmpoaadoor", sum := "ff23cf4816a81881a4e0f676157cf75609a089c6b858d3b219561057428333c3", func := "loop.example/g00748/laws.FnExactSizeOf", spec := "fnExactSizeOf", named := ["loop.example/g00748/impl.registry"], apart := false, laid := [("loop.example/g00748/impl.registry", laid_loop_example_g00748_impl_registry)] }
def FnExactSizeOfSaid : Prop := fnExactSizeOfRow.holds Tryd.pinned (OpenSpec.ofChange fnExactSizeOfSpec)

/-- ITS FALSE NEIGHBOUR: 'it returns false'. Refute it at one input. -/
def fnExactSizeOfWrong : ChangeSpec := { name := "fnExactSizeOf", vars := ["loop.example/g00748/impl.registry"], fn := fun _ => fun
  | [d, g1] => { results := [.lit (.bool false)], args := [d], vars := [g1] }
  | _ => none }
def FnExactSizeOfWrongFalsely : Prop := fnExactSizeOfRow.holds Tryd.pinned (OpenSpec.ofChange fnExactSizeOfWrong)

/-- 'laws.FnExactEscapeOf': WHATEVER THE INPUT: true; the input reads as it did. -/
def fnExactEscapeOfSpec : ChangeSpec := { name := "fnExactEscapeOf", vars := ["loop.example/g00748/impl.registry"], fn := fun _ => fun
  | [d1, d2, g1] => { results := [.lit (.bool true)], args := [d1, d2], vars := [g1] }
  | _ => none }
def fnExactEscapeOfRow : OpenClaim := { program := "ytlakpddabkmpoaadoor", sum := "ff23cf4816a81881a4e0f676157cf75609a089c6b858d3b219561057428333c3", func := "loop.example/g00748/laws.FnExactEscapeOf", spec := "fnExactEscapeOf", named := ["loop.example/g00748/impl.registry"], apart := false, laid := [("loop.example/g00748/impl.registry", laid_loop_example_g00748_impl_registry)] }
def FnExactEscapeOfSaid : Prop := fnExactEscapeOfRow.holds Tryd.pinned (OpenSpec.ofChange fnExactEscapeOfSpec)

/-- ITS FALSE NEIGHBOUR: 'it returns false'. Refute it at one input. -/
def fnExactEscapeOfWrong : ChangeSpec := { name := "fnExactEscapeOf", vars := ["loop.example/g00748/impl.registry"], fn := fun _ => fun
  | [d1, d2, g1] => { results := [.lit (.bool false)], args := [d1, d2], vars := [g1] }
  | _ => none }
def FnExactEscapeOfWrongFalsely : Prop := fnExactEscapeOfRow.holds Tryd.pinned (OpenSpec.ofChange fnExactEscapeOfWrong)

/-- 'laws.FnExactTokenText': WHATEVER THE INPUT: true; the input reads as it did. -/
def fnExactTokenTextSpec : ChangeSpec := { name := "fnExactTokenText", vars := ["loop.example/g00748/impl.tokenWords"], fn := fun _ => fun
  | [d, g1] => { results := [.lit (.bool true)], args := [d], vars := [g1] }
  | _ => none }
def fnExactTokenTextRow : OpenClaim := { program := "ytlakpddabkmpoaadoor", sum := "ff23cf4816a81881a4e0f676157cf75609a089c6b858d3b219561057428333c3", func := "loop.example/g00748/laws.FnExactTokenText", spec := "fnExactTokenText", recurses := true, named := ["loop.example/g00748/impl.tokenWords", "internal/strconv.uint64pow10", "math/bits.deBruijn32tab", "math/bits.deBruijn64tab"], apart := false, laid := [("math/bits.deBruijn32tab", laid_math_bits_deBruijn32tab), ("math/bits.deBruijn64tab", laid_math_bits_deBruijn64tab), ("internal/strconv.uint64pow10", laid_internal_strconv_uint64pow10), ("loop.example/g00748/impl.tokenWords", laid_loop_example_g00748_impl_tokenWords)] }
def FnExactTokenTextSaid : Prop := fnExactTokenTextRow.holds Tryd.pinned (OpenSpec.ofChange fnExactTokenTextSpec)

/-- ITS FALSE NEIGHBOUR: 'it returns false'. Refute it at one input. -/
def fnExactTokenTextWrong : ChangeSpec := { name := "fnExactTokenText", vars := ["loop.example/g00748/impl.tokenWords"], fn := fun _ => fun
  | [d, g1] => { results := [.lit (.bool false)], args := [d], vars := [g1] }
  | _ => none }
def FnExactTokenTextWrongFalsely : Prop := fnExactTokenTextRow.holds Tryd.pinned (OpenSpec.ofChange fnExactTokenTextWrong)

/- THE SECOND FORM. 'bulk': how many values and letters a reading holds, each counted each time it is reached (what is shared counts as often as it is met; a slice's spare places count too). A statement '..UptoSaid' is the law's where the arguments, and the package variables that the reading takes, are together of bulk at most 1048576: NARROWER than '..Said'. Prove '..Said' where nothing that the law and all that it calls make is longer than what came in: it says more and counts as full. Else prove '..UptoSaid'. A law counts once. -/
mutual
def uptoBulk {H : Type} : DataW H → Nat
  | .lit (.string bytes) => bytes.length + 1
  | .lit _ => 1
  | .nil => 1
  | .ptr d => uptoBulk d + 1
  | .slice elems spare => uptoBulkAll elems + uptoBulkAll spare + 1
  | .agg parts => uptoBulkAll parts + 1
  | .iface _ d => uptoBulk d + 1
  | .map entries => uptoBulkEntries entries + 1
  | .held _ => 1
def uptoBulkAll {H : Type} : List (DataW H) → Nat
  | [] => 0
  | d :: r => uptoBulk d + uptoBulkAll r
def uptoBulkEntries {H : Type} : List (Lit × DataW H) → Nat
  | [] => 0
  | x :: r => uptoBulkEntry x + uptoBulkEntries r
def uptoBulkEntry {H : Type} : Lit × DataW H → Nat
  | (.string bytes, d) => bytes.length + uptoBulk d + 1
  | (_, d) => uptoBulk d + 1
 end
def uptoSmall : (H : Type) → List (DataW H) → Bool := fun _ ds => decide (uptoBulkAll ds ≤ 1048576)
def OpenSpec.upto (s : _root_.Go.ChangeSpec) : _root_.Go.OpenSpec := { _root_.Go.OpenSpec.ofChange s with cond := some uptoSmall }

/-- 'laws.FnSets', WHERE WHAT IT READS IS OF BULK AT MOST 1048576: true; the input reads as it did. -/
def fnSetsUptoRow : OpenClaim := { program := "ytlakpddabkmpoaadoor", sum := "ff23cf4816a81881a4e0f676157cf75609a089c6b858d3b219561057428333c3", func := "loop.example/g00748/laws.FnSets", spec := "fnSets", named := ["loop.example/g00748/impl.registry"], apart := false, laid := [("loop.example/g00748/impl.registry", laid_loop_example_g00748_impl_registry)], narrowed := true }
def FnSetsUptoSaid : Prop := fnSetsUptoRow.holds Tryd.pinned (OpenSpec.upto fnSetsSpec)

/-- 'laws.FnExactSetOf', WHERE WHAT IT READS IS OF BULK AT MOST 1048576: true; the input reads as it did. -/
def fnExactSetOfUptoRow : OpenClaim := { program := "ytlakpddabkmpoaadoor", sum := "ff23cf4816a81881a4e0f676157cf75609a089c6b858d3b219561057428333c3", func := "loop.example/g00748/laws.FnExactSetOf", spec := "fnExactSetOf", named := ["loop.example/g00748/impl.registry"], apart := false, laid := [("loop.example/g00748/impl.registry", laid_loop_example_g00748_impl_registry)], narrowed := true }
def FnExactSetOfUptoSaid : Prop := fnExactSetOfUptoRow.holds Tryd.pinned (OpenSpec.upto fnExactSetOfSpec)

/-- 'laws.FnExactFindSet', WHERE WHAT IT READS IS OF BULK AT MOST 1048576: true; the input reads as it did. -/
def fnExactFindSetUptoRow : OpenClaim := { program := "ytlakpddabkmpoaadoor", sum := "ff23cf4816a81881a4e0f676157cf75609a089c6b858d3b219561057428333c3", func := "loop.example/g00748/laws.FnExactFindSet", spec := "fnExactFindSet", named := ["loop.example/g00748/impl.registry"], apart := false, laid := [("loop.example/g00748/impl.registry", laid_loop_example_g00748_impl_registry)], narrowed := true }
def FnExactFindSetUptoSaid : Prop := fnExactFindSetUptoRow.holds Tryd.pinned (OpenSpec.upto fnExactFindSetSpec)

/-- 'laws.FnExactCodeOK', WHERE WHAT IT READS IS OF BULK AT MOST 1048576: true; the input reads as it did. -/
def fnExactCodeOKUptoRow : OpenClaim := { program := "ytlakpddabkmpoaadoor", sum := "ff23cf4816a81881a4e0f676157cf75609a089c6b858d3b219561057428333c3", func := "loop.example/g00748/laws.FnExactCodeOK", spec := "fnExactCodeOK", named := ["loop.example/g00748/impl.registry"], apart := false, laid := [("loop.example/g00748/impl.registry", laid_loop_example_g00748_impl_registry)], narrowed := true }
def FnExactCodeOKUptoSaid : Prop := fnExactCodeOKUptoRow.holds Tryd.pinned (OpenSpec.upto fnExactCodeOKSpec)

/-- 'laws.FnExactRuneFor', WHERE WHAT IT READS IS OF BULK AT MOST 1048576: true; the input reads as it did. -/
def fnExactRuneForUptoRow : OpenClaim := { program := "ytlakpddabkmpoaadoor", sum := "ff23cf4816a81881a4e0f676157cf75609a089c6b858d3b219561057428333c3", func := "loop.example/g00748/laws.FnExactRuneFor", spec := "fnExactRuneFor", named := ["loop.example/g00748/impl.registry"], apart := false, laid := [("loop.example/g00748/impl.registry", laid_loop_example_g00748_impl_registry)], narrowed := true }
def FnExactRuneForUptoSaid : Prop := fnExactRuneForUptoRow.holds Tryd.pinned (OpenSpec.upto fnExactRuneForSpec)

/-- 'laws.FnExactCodeFor', WHERE WHAT IT READS IS OF BULK AT MOST 1048576: true; the input reads as it did. -/
def fnExactCodeForUptoRow : OpenClaim := { program := "ytlakpddabkmpoaadoor", sum := "ff23cf4816a81881a4e0f676157cf75609a089c6b858d3b219561057428333c3", func := "loop.example/g00748/laws.FnExactCodeFor", spec := "fnExactCodeFor", named := ["loop.example/g00748/impl.registry"], apart := false, laid := [("loop.example/g00748/impl.registry", laid_loop_example_g00748_impl_registry)], narrowed := true }
def FnExactCodeForUptoSaid : Prop := fnExactCodeForUptoRow.holds Tryd.pinned (OpenSpec.upto fnExactCodeForSpec)

/-- 'laws.FnExactSetsFor', WHERE WHAT IT READS IS OF BULK AT MOST 1048576: true; the input reads as it did. -/
def fnExactSetsForUptoRow : OpenClaim := { program := "ytlakpddabkmpoaadoor", sum := "ff23cf4816a81881a4e0f676157cf75609a089c6b858d3b219561057428333c3", func := "loop.example/g00748/laws.FnExactSetsFor", spec := "fnExactSetsFor", named := ["loop.example/g00748/impl.registry"], apart := false, laid := [("loop.example/g00748/impl.registry", laid_loop_example_g00748_impl_registry)], narrowed := true }
def FnExactSetsForUptoSaid : Prop := fnExactSetsForUptoRow.holds Tryd.pinned (OpenSpec.upto fnExactSetsForSpec)

/-- 'laws.FnExactSizeOf', WHERE WHAT IT READS IS OF BULK AT MOST 1048576: true; the input reads as it did. -/
def fnExactSizeOfUptoRow : OpenClaim := { program := "ytlakpddabkmpoaadoor", sum := "ff23cf4816a81881a4e0f676157cf75609a089c6b858d3b219561057428333c3", func := "loop.example/g00748/laws.FnExactSizeOf", spec := "fnExactSizeOf", named := ["loop.example/g00748/impl.registry"], apart := false, laid := [("loop.example/g00748/impl.registry", laid_loop_example_g00748_impl_registry)], narrowed := true }
def FnExactSizeOfUptoSaid : Prop := fnExactSizeOfUptoRow.holds Tryd.pinned (OpenSpec.upto fnExactSizeOfSpec)

/-- 'laws.FnExactEscapeOf', WHERE WHAT IT READS IS OF BULK AT MOST 1048576: true; the input reads as it did. -/
def fnExactEscapeOfUptoRow : OpenClaim := { program := "ytlakpddabkmpoaadoor", sum := "ff23cf4816a81881a4e0f676157cf75609a089c6b858d3b219561057428333c3", func := "loop.example/g00748/laws.FnExactEscapeOf", spec := "fnExactEscapeOf", named := ["loop.example/g00748/impl.registry"], apart := false, laid := [("loop.example/g00748/impl.registry", laid_loop_example_g00748_impl_registry)], narrowed := true }
def FnExactEscapeOfUptoSaid : Prop := fnExactEscapeOfUptoRow.holds Tryd.pinned (OpenSpec.upto fnExactEscapeOfSpec)

/-- 'laws.FnExactTokenText', WHERE WHAT IT READS IS OF BULK AT MOST 1048576: true; the input reads as it did. -/
def fnExactTokenTextUptoRow : OpenClaim := { program := "ytlakpddabkmpoaadoor", sum := "ff23cf4816a81881a4e0f676157cf75609a089c6b858d3b219561057428333c3", func := "loop.example/g00748/laws.FnExactTokenText", spec := "fnExactTokenText", recurses := true, named := ["loop.example/g00748/impl.tokenWords", "internal/strconv.uint64pow10", "math/bits.deBruijn32tab", "math/bits.deBruijn64tab"], apart := false, laid := [("math/bits.deBruijn32tab", laid_math_bits_deBruijn32tab), ("math/bits.deBruijn64tab", laid_math_bits_deBruijn64tab), ("internal/strconv.uint64pow10", laid_internal_strconv_uint64pow10), ("loop.example/g00748/impl.tokenWords", laid_loop_example_g00748_impl_tokenWords)], narrowed := true }
def FnExactTokenTextUptoSaid : Prop := fnExactTokenTextUptoRow.holds Tryd.pinned (OpenSpec.upto fnExactTokenTextSpec)

end Rows
end Go.Proofs.YtlakpddabkmpoaaDoor
