/-
  NARROWER THAN 'FOR EVERY INPUT', by the rows' own cells (each row's printed sentence says how): FnMachine: laid · FnExactEscapeOf: laid · FnExactTokenText: laid · FnExactProfileOf: laid · FnExactProfileNamed: laid · FnExactAllowsToken: laid · FnExactAtRest: laid · FnExactLineEnd: laid · FnExactStepProfile: laid.
  DERIVED. THE GIVEN ROWS OF THIS SEAT. 9 by the template 'for every input the law returns true; each argument reads behind the call as it read before'; 0 by the template 'total and deterministic' (their statements: YtjbikenhdgbacaaDoorTotals.lean).
  GIVEN WITH THE SEED: the statements are not yours to turn. If you find one false, say at which input.
  Laid BY PROGRAM, IN A SANDBOX (cutbox-rows.mjs): the forced cells as the released guide's own fill.sh prints them over the translation 17c95c95251ad8db… (all of the seat's roots in one cut). By AI agents, Wed Nov 11 2026. No macro, syntax, notation, axiom, sorry.
-/
import Derived.Test.YtjbikenhdgbacaaDoorChecked
import GoSem.Claim
import GoSem.ClaimJoined
import GoSem.ClaimMapViews
import Derived.JoinedTies
import Derived.KernelRfl
namespace Go.Proofs.YtjbikenhdgbacaaDoor
/- THE CELL 'sum', in the pinned program and in every row, IS THE sha256 OF THE DUMP (.gsa) THAT YtjbikenhdgbacaaDoorProg.lean LOADS. Nothing in Lean hashes anything: it is a label: what it is worth is what the hold of that sum in a sandbox is worth. -/
noncomputable def Tryd.pinned : Pinned := { name := "ytjbikenhdgbacaadoor", sum := "17c95c95251ad8db2988d1f4125d38beb807957365ff79436580dc4376ee5234", checked := Tryd.checked }
namespace Rows
def none {H : Type} : Left H := { results := [], args := [] }

/- WHAT THE LISTED PACKAGE-LEVEL VARIABLES READ AS WHEN THE CALL BEGINS. Each datum BY PROGRAM (the guide's laid-datum.mjs) off the statement by which the dump's own 'gosem.cut.vars' lays the variable. In a bare row this is a premise. The card (YtjbikenhdgbacaaDoorCards.lean) ties it to the program's text. -/
def laid_loop_example_g00748_impl_registry {H : Type} : DataW H := .agg [.agg [.lit (.string []), .lit (.int .i64 0), .lit (.int .i64 0), .nil], .agg [.lit (.string [97, 115, 99, 105, 105]), .lit (.int .i64 1), .lit (.int .i64 66), .slice [.agg [.lit (.int .i64 33), .lit (.int .i64 33), .lit (.int .i64 94)]] []], .agg [.lit (.string [114, 111, 109, 97, 110]), .lit (.int .i64 1), .lit (.int .i64 74), .slice [.agg [.lit (.int .i64 33), .lit (.int .i64 33), .lit (.int .i64 59)], .agg [.lit (.int .i64 92), .lit (.int .i64 165), .lit (.int .i64 1)], .agg [.lit (.int .i64 93), .lit (.int .i64 93), .lit (.int .i64 33)], .agg [.lit (.int .i64 126), .lit (.int .i64 8254), .lit (.int .i64 1)]] []], .agg [.lit (.string [107, 97, 110, 97]), .lit (.int .i64 1), .lit (.int .i64 73), .slice [.agg [.lit (.int .i64 33), .lit (.int .i64 65377), .lit (.int .i64 63)]] []], .agg [.lit (.string [108, 97, 116, 105, 110]), .lit (.int .i64 2), .lit (.int .i64 65), .slice [.agg [.lit (.int .i64 32), .lit (.int .i64 160), .lit (.int .i64 96)]] []], .agg [.lit (.string [103, 114, 101, 101, 107]), .lit (.int .i64 2), .lit (.int .i64 70), .slice [.agg [.lit (.int .i64 32), .lit (.int .i64 160), .lit (.int .i64 1)], .agg [.lit (.int .i64 65), .lit (.int .i64 913), .lit (.int .i64 17)], .agg [.lit (.int .i64 83), .lit (.int .i64 931), .lit (.int .i64 7)], .agg [.lit (.int .i64 97), .lit (.int .i64 945), .lit (.int .i64 25)]] []], .agg [.lit (.string [107, 97, 110, 106, 105]), .lit (.int .i64 3), .lit (.int .i64 66), .slice [.agg [.lit (.int .i64 8993), .lit (.int .i64 65296), .lit (.int .i64 10)], .agg [.lit (.int .i64 9249), .lit (.int .i64 12353), .lit (.int .i64 83)], .agg [.lit (.int .i64 9505), .lit (.int .i64 12449), .lit (.int .i64 86)], .agg [.lit (.int .i64 12321), .lit (.int .i64 19968), .lit (.int .i64 94)]] []], .agg [.lit (.string [104, 97, 110, 103, 117, 108]), .lit (.int .i64 3), .lit (.int .i64 67), .slice [.agg [.lit (.int .i64 9249), .lit (.int .i64 12353), .lit (.int .i64 83)], .agg [.lit (.int .i64 12321), .lit (.int .i64 44032), .lit (.int .i64 94)], .agg [.lit (.int .i64 12577), .lit (.int .i64 44126), .lit (.int .i64 94)]] []], .agg [.lit (.string [104, 97, 110, 122, 105]), .lit (.int .i64 3), .lit (.int .i64 65), .slice [.agg [.lit (.int .i64 9249), .lit (.int .i64 12353), .lit (.int .i64 83)], .agg [.lit (.int .i64 9505), .lit (.int .i64 12449), .lit (.int .i64 86)], .agg [.lit (.int .i64 12321), .lit (.int .i64 19998), .lit (.int .i64 94)]] []]]
def laid_math_bits_deBruijn32tab {H : Type} : DataW H := .agg [.lit (.int .u8 0), .lit (.int .u8 1), .lit (.int .u8 28), .lit (.int .u8 2), .lit (.int .u8 29), .lit (.int .u8 14), .lit (.int .u8 24), .lit (.int .u8 3), .lit (.int .u8 30), .lit (.int .u8 22), .lit (.int .u8 20), .lit (.int .u8 15), .lit (.int .u8 25), .lit (.int .u8 17), .lit (.int .u8 4), .lit (.int .u8 8), .lit (.int .u8 31), .lit (.int .u8 27), .lit (.int .u8 13), .lit (.int .u8 23), .lit (.int .u8 21), .lit (.int .u8 19), .lit (.int .u8 16), .lit (.int .u8 7), .lit (.int .u8 26), .lit (.int .u8 12), .lit (.int .u8 18), .lit (.int .u8 6), .lit (.int .u8 11), .lit (.int .u8 5), .lit (.int .u8 10), .lit (.int .u8 9)]
def laid_math_bits_deBruijn64tab {H : Type} : DataW H := .agg [.lit (.int .u8 0), .lit (.int .u8 1), .lit (.int .u8 56), .lit (.int .u8 2), .lit (.int .u8 57), .lit (.int .u8 49), .lit (.int .u8 28), .lit (.int .u8 3), .lit (.int .u8 61), .lit (.int .u8 58), .lit (.int .u8 42), .lit (.int .u8 50), .lit (.int .u8 38), .lit (.int .u8 29), .lit (.int .u8 17), .lit (.int .u8 4), .lit (.int .u8 62), .lit (.int .u8 47), .lit (.int .u8 59), .lit (.int .u8 36), .lit (.int .u8 45), .lit (.int .u8 43), .lit (.int .u8 51), .lit (.int .u8 22), .lit (.int .u8 53), .lit (.int .u8 39), .lit (.int .u8 33), .lit (.int .u8 30), .lit (.int .u8 24), .lit (.int .u8 18), .lit (.int .u8 12), .lit (.int .u8 5), .lit (.int .u8 63), .lit (.int .u8 55), .lit (.int .u8 48), .lit (.int .u8 27), .lit (.int .u8 60), .lit (.int .u8 41), .lit (.int .u8 37), .lit (.int .u8 16), .lit (.int .u8 46), .lit (.int .u8 35), .lit (.int .u8 44), .lit (.int .u8 21), .lit (.int .u8 52), .lit (.int .u8 32), .lit (.int .u8 23), .lit (.int .u8 11), .lit (.int .u8 54), .lit (.int .u8 26), .lit (.int .u8 40), .lit (.int .u8 15), .lit (.int .u8 34), .lit (.int .u8 20), .lit (.int .u8 31), .lit (.int .u8 10), .lit (.int .u8 25), .lit (.int .u8 14), .lit (.int .u8 19), .lit (.int .u8 9), .lit (.int .u8 13), .lit (.int .u8 8), .lit (.int .u8 7), .lit (.int .u8 6)]
def laid_internal_strconv_uint64pow10 {H : Type} : DataW H := .agg [.lit (.int .u64 1), .lit (.int .u64 10), .lit (.int .u64 100), .lit (.int .u64 1000), .lit (.int .u64 10000), .lit (.int .u64 100000), .lit (.int .u64 1000000), .lit (.int .u64 10000000), .lit (.int .u64 100000000), .lit (.int .u64 1000000000), .lit (.int .u64 10000000000), .lit (.int .u64 100000000000), .lit (.int .u64 1000000000000), .lit (.int .u64 10000000000000), .lit (.int .u64 100000000000000), .lit (.int .u64 1000000000000000), .lit (.int .u64 10000000000000000), .lit (.int .u64 100000000000000000), .lit (.int .u64 1000000000000000000), .lit (.int .u64 10000000000000000000)]
def laid_loop_example_g00748_impl_tokenWords {H : Type} : DataW H := .agg [.lit (.string []), .lit (.string [99, 111, 110, 116, 114, 111, 108]), .lit (.string [115, 112, 97, 99, 101]), .lit (.string [108, 101, 102, 116]), .lit (.string [114, 105, 103, 104, 116]), .lit (.string [115, 104, 105, 102, 116]), .lit (.string [115, 105, 110, 103, 108, 101]), .lit (.string [110, 97, 109, 101]), .lit (.string [116, 97, 105, 108]), .lit (.string [111, 116, 104, 101, 114])]

/-- 'laws.FnMachine': WHATEVER THE INPUT: true; the input reads as it did. -/
def fnMachineSpec : ChangeSpec := { name := "fnMachine", vars := ["loop.example/g00748/impl.registry"], fn := fun _ => fun
  | [d1, d2, g1] => { results := [.lit (.bool true)], args := [d1, d2], vars := [g1] }
  | _ => none }
def fnMachineRow : OpenClaim := { program := "ytjbikenhdgbacaadoor", sum := "17c95c95251ad8db2988d1f4125d38beb807957365ff79436580dc4376ee5234", func := "loop.example/g00748/laws.FnMachine", spec := "fnMachine", inPlace := ["internal/bytealg.IndexByteString"], named := ["loop.example/g00748/impl.registry"], plainKeys := false, apart := false, laid := [("loop.example/g00748/impl.registry", laid_loop_example_g00748_impl_registry)] }
def FnMachineSaid : Prop := fnMachineRow.holds Tryd.pinned (OpenSpec.ofChange fnMachineSpec)

/-- ITS FALSE NEIGHBOUR: 'it returns false'. Refute it at one input. -/
def fnMachineWrong : ChangeSpec := { name := "fnMachine", vars := ["loop.example/g00748/impl.registry"], fn := fun _ => fun
  | [d1, d2, g1] => { results := [.lit (.bool false)], args := [d1, d2], vars := [g1] }
  | _ => none }
def FnMachineWrongFalsely : Prop := fnMachineRow.holds Tryd.pinned (OpenSpec.ofChange fnMachineWrong)

/-- 'laws.FnExactEscapeOf': WHATEVER THE INPUT: true; the input reads as it did. -/
def fnExactEscapeOfSpec : ChangeSpec := { name := "fnExactEscapeOf", vars := ["loop.example/g00748/impl.registry"], fn := fun _ => fun
  | [d1, d2, g1] => { results := [.lit (.bool true)], args := [d1, d2], vars := [g1] }
  | _ => none }
def fnExactEscapeOfRow : OpenClaim := { program := "ytjbikenhdgbacaadoor", sum := "17c95c95251ad8db2988d1f4125d38beb807957365ff79436580dc4376ee5234", func := "loop.example/g00748/laws.FnExactEscapeOf", spec := "fnExactEscapeOf", named := ["loop.example/g00748/impl.registry"], plainKeys := false, apart := false, laid := [("loop.example/g00748/impl.registry", laid_loop_example_g00748_impl_registry)] }
def FnExactEscapeOfSaid : Prop := fnExactEscapeOfRow.holds Tryd.pinned (OpenSpec.ofChange fnExactEscapeOfSpec)

/-- ITS FALSE NEIGHBOUR: 'it returns false'. Refute it at one input. -/
def fnExactEscapeOfWrong : ChangeSpec := { name := "fnExactEscapeOf", vars := ["loop.example/g00748/impl.registry"], fn := fun _ => fun
  | [d1, d2, g1] => { results := [.lit (.bool false)], args := [d1, d2], vars := [g1] }
  | _ => none }
def FnExactEscapeOfWrongFalsely : Prop := fnExactEscapeOfRow.holds Tryd.pinned (OpenSpec.ofChange fnExactEscapeOfWrong)

/-- 'laws.FnExactTokenText': WHATEVER THE INPUT: true; the input reads as it did. -/
def fnExactTokenTextSpec : ChangeSpec := { name := "fnExactTokenText", vars := ["loop.example/g00748/impl.tokenWords"], fn := fun _ => fun
  | [d, g1] => { results := [.lit (.bool true)], args := [d], vars := [g1] }
  | _ => none }
def fnExactTokenTextRow : OpenClaim := { program := "ytjbikenhdgbacaadoor", sum := "17c95c95251ad8db2988d1f4125d38beb807957365ff79436580dc4376ee5234", func := "loop.example/g00748/laws.FnExactTokenText", spec := "fnExactTokenText", recurses := true, named := ["loop.example/g00748/impl.tokenWords", "internal/strconv.uint64pow10", "math/bits.deBruijn32tab", "math/bits.deBruijn64tab"], plainKeys := false, apart := false, laid := [("math/bits.deBruijn32tab", laid_math_bits_deBruijn32tab), ("math/bits.deBruijn64tab", laid_math_bits_deBruijn64tab), ("internal/strconv.uint64pow10", laid_internal_strconv_uint64pow10), ("loop.example/g00748/impl.tokenWords", laid_loop_example_g00748_impl_tokenWords)] }
def FnExactTokenTextSaid : Prop := fnExactTokenTextRow.holds Tryd.pinned (OpenSpec.ofChange fnExactTokenTextSpec)

/-- ITS FALSE NEIGHBOUR: 'it returns false'. Refute it at one input. -/
def fnExactTokenTextWrong : ChangeSpec := { name := "fnExactTokenText", vars := ["loop.example/g00748/impl.tokenWords"], fn := fun _ => fun
  | [d, g1] => { results := [.lit (.bool false)], args := [d], vars := [g1] }
  | _ => none }
def FnExactTokenTextWrongFalsely : Prop := fnExactTokenTextRow.holds Tryd.pinned (OpenSpec.ofChange fnExactTokenTextWrong)

/-- 'laws.FnExactProfileOf': WHATEVER THE INPUT: true; the input reads as it did. -/
def fnExactProfileOfSpec : ChangeSpec := { name := "fnExactProfileOf", vars := ["loop.example/g00748/impl.registry"], fn := fun _ => fun
  | [d, g1] => { results := [.lit (.bool true)], args := [d], vars := [g1] }
  | _ => none }
def fnExactProfileOfRow : OpenClaim := { program := "ytjbikenhdgbacaadoor", sum := "17c95c95251ad8db2988d1f4125d38beb807957365ff79436580dc4376ee5234", func := "loop.example/g00748/laws.FnExactProfileOf", spec := "fnExactProfileOf", named := ["loop.example/g00748/impl.registry"], plainKeys := false, apart := false, laid := [("loop.example/g00748/impl.registry", laid_loop_example_g00748_impl_registry)] }
def FnExactProfileOfSaid : Prop := fnExactProfileOfRow.holds Tryd.pinned (OpenSpec.ofChange fnExactProfileOfSpec)

/-- ITS FALSE NEIGHBOUR: 'it returns false'. Refute it at one input. -/
def fnExactProfileOfWrong : ChangeSpec := { name := "fnExactProfileOf", vars := ["loop.example/g00748/impl.registry"], fn := fun _ => fun
  | [d, g1] => { results := [.lit (.bool false)], args := [d], vars := [g1] }
  | _ => none }
def FnExactProfileOfWrongFalsely : Prop := fnExactProfileOfRow.holds Tryd.pinned (OpenSpec.ofChange fnExactProfileOfWrong)

/-- 'laws.FnExactProfileNamed': WHATEVER THE INPUT: true; the input reads as it did. -/
def fnExactProfileNamedSpec : ChangeSpec := { name := "fnExactProfileNamed", vars := ["loop.example/g00748/impl.registry"], fn := fun _ => fun
  | [d, g1] => { results := [.lit (.bool true)], args := [d], vars := [g1] }
  | _ => none }
def fnExactProfileNamedRow : OpenClaim := { program := "ytjbikenhdgbacaadoor", sum := "17c95c95251ad8db2988d1f4125d38beb807957365ff79436580dc4376ee5234", func := "loop.example/g00748/laws.FnExactProfileNamed", spec := "fnExactProfileNamed", named := ["loop.example/g00748/impl.registry"], plainKeys := false, apart := false, laid := [("loop.example/g00748/impl.registry", laid_loop_example_g00748_impl_registry)] }
def FnExactProfileNamedSaid : Prop := fnExactProfileNamedRow.holds Tryd.pinned (OpenSpec.ofChange fnExactProfileNamedSpec)

/-- ITS FALSE NEIGHBOUR: 'it returns false'. Refute it at one input. -/
def fnExactProfileNamedWrong : ChangeSpec := { name := "fnExactProfileNamed", vars := ["loop.example/g00748/impl.registry"], fn := fun _ => fun
  | [d, g1] => { results := [.lit (.bool false)], args := [d], vars := [g1] }
  | _ => none }
def FnExactProfileNamedWrongFalsely : Prop := fnExactProfileNamedRow.holds Tryd.pinned (OpenSpec.ofChange fnExactProfileNamedWrong)

/-- 'laws.FnExactAllowsToken': WHATEVER THE INPUT: true; the input reads as it did. -/
def fnExactAllowsTokenSpec : ChangeSpec := { name := "fnExactAllowsToken", vars := ["loop.example/g00748/impl.registry"], fn := fun _ => fun
  | [d1, d2, g1] => { results := [.lit (.bool true)], args := [d1, d2], vars := [g1] }
  | _ => none }
def fnExactAllowsTokenRow : OpenClaim := { program := "ytjbikenhdgbacaadoor", sum := "17c95c95251ad8db2988d1f4125d38beb807957365ff79436580dc4376ee5234", func := "loop.example/g00748/laws.FnExactAllowsToken", spec := "fnExactAllowsToken", unfollowed := true, recurses := true, named := ["loop.example/g00748/impl.registry"], plainKeys := false, apart := false, laid := [("loop.example/g00748/impl.registry", laid_loop_example_g00748_impl_registry)] }
def FnExactAllowsTokenSaid : Prop := fnExactAllowsTokenRow.holds Tryd.pinned (OpenSpec.ofChange fnExactAllowsTokenSpec)

/-- ITS FALSE NEIGHBOUR: 'it returns false'. Refute it at one input. -/
def fnExactAllowsTokenWrong : ChangeSpec := { name := "fnExactAllowsToken", vars := ["loop.example/g00748/impl.registry"], fn := fun _ => fun
  | [d1, d2, g1] => { results := [.lit (.bool false)], args := [d1, d2], vars := [g1] }
  | _ => none }
def FnExactAllowsTokenWrongFalsely : Prop := fnExactAllowsTokenRow.holds Tryd.pinned (OpenSpec.ofChange fnExactAllowsTokenWrong)

/-- 'laws.FnExactAtRest': WHATEVER THE INPUT: true; the input reads as it did. -/
def fnExactAtRestSpec : ChangeSpec := { name := "fnExactAtRest", vars := ["loop.example/g00748/impl.registry"], fn := fun _ => fun
  | [d1, d2, g1] => { results := [.lit (.bool true)], args := [d1, d2], vars := [g1] }
  | _ => none }
def fnExactAtRestRow : OpenClaim := { program := "ytjbikenhdgbacaadoor", sum := "17c95c95251ad8db2988d1f4125d38beb807957365ff79436580dc4376ee5234", func := "loop.example/g00748/laws.FnExactAtRest", spec := "fnExactAtRest", named := ["loop.example/g00748/impl.registry"], plainKeys := false, apart := false, laid := [("loop.example/g00748/impl.registry", laid_loop_example_g00748_impl_registry)] }
def FnExactAtRestSaid : Prop := fnExactAtRestRow.holds Tryd.pinned (OpenSpec.ofChange fnExactAtRestSpec)

/-- ITS FALSE NEIGHBOUR: 'it returns false'. Refute it at one input. -/
def fnExactAtRestWrong : ChangeSpec := { name := "fnExactAtRest", vars := ["loop.example/g00748/impl.registry"], fn := fun _ => fun
  | [d1, d2, g1] => { results := [.lit (.bool false)], args := [d1, d2], vars := [g1] }
  | _ => none }
def FnExactAtRestWrongFalsely : Prop := fnExactAtRestRow.holds Tryd.pinned (OpenSpec.ofChange fnExactAtRestWrong)

/-- 'laws.FnExactLineEnd': WHATEVER THE INPUT: true; the input reads as it did. -/
def fnExactLineEndSpec : ChangeSpec := { name := "fnExactLineEnd", vars := ["loop.example/g00748/impl.registry"], fn := fun _ => fun
  | [d1, d2, g1] => { results := [.lit (.bool true)], args := [d1, d2], vars := [g1] }
  | _ => none }
def fnExactLineEndRow : OpenClaim := { program := "ytjbikenhdgbacaadoor", sum := "17c95c95251ad8db2988d1f4125d38beb807957365ff79436580dc4376ee5234", func := "loop.example/g00748/laws.FnExactLineEnd", spec := "fnExactLineEnd", named := ["loop.example/g00748/impl.registry"], plainKeys := false, apart := false, laid := [("loop.example/g00748/impl.registry", laid_loop_example_g00748_impl_registry)] }
def FnExactLineEndSaid : Prop := fnExactLineEndRow.holds Tryd.pinned (OpenSpec.ofChange fnExactLineEndSpec)

/-- ITS FALSE NEIGHBOUR: 'it returns false'. Refute it at one input. -/
def fnExactLineEndWrong : ChangeSpec := { name := "fnExactLineEnd", vars := ["loop.example/g00748/impl.registry"], fn := fun _ => fun
  | [d1, d2, g1] => { results := [.lit (.bool false)], args := [d1, d2], vars := [g1] }
  | _ => none }
def FnExactLineEndWrongFalsely : Prop := fnExactLineEndRow.holds Tryd.pinned (OpenSpec.ofChange fnExactLineEndWrong)

/-- 'laws.FnExactStepProfile': WHATEVER THE INPUT: true; the input reads as it did. -/
def fnExactStepProfileSpec : ChangeSpec := { name := "fnExactStepProfile", vars := ["loop.example/g00748/impl.registry"], fn := fun _ => fun
  | [d1, d2, d3, g1] => { results := [.lit (.bool true)], args := [d1, d2, d3], vars := [g1] }
  | _ => none }
def fnExactStepProfileRow : OpenClaim := { program := "ytjbikenhdgbacaadoor", sum := "17c95c95251ad8db2988d1f4125d38beb807957365ff79436580dc4376ee5234", func := "loop.example/g00748/laws.FnExactStepProfile", spec := "fnExactStepProfile", unfollowed := true, recurses := true, named := ["loop.example/g00748/impl.registry"], plainKeys := false, apart := false, laid := [("loop.example/g00748/impl.registry", laid_loop_example_g00748_impl_registry)] }
def FnExactStepProfileSaid : Prop := fnExactStepProfileRow.holds Tryd.pinned (OpenSpec.ofChange fnExactStepProfileSpec)

/-- ITS FALSE NEIGHBOUR: 'it returns false'. Refute it at one input. -/
def fnExactStepProfileWrong : ChangeSpec := { name := "fnExactStepProfile", vars := ["loop.example/g00748/impl.registry"], fn := fun _ => fun
  | [d1, d2, d3, g1] => { results := [.lit (.bool false)], args := [d1, d2, d3], vars := [g1] }
  | _ => none }
def FnExactStepProfileWrongFalsely : Prop := fnExactStepProfileRow.holds Tryd.pinned (OpenSpec.ofChange fnExactStepProfileWrong)

/- THE SECOND FORM. 'bulk': how many values and letters a reading holds, each counted each time it is reached (what is shared counts as often as it is met; a slice's spare places count too). A statement '..UptoSaid' is the law's where the arguments, and the package variables that the reading takes, are together of bulk at most 1048576: NARROWER than '..Said'. Prove '..Said' where nothing that the law and all that it calls make is longer than what came in: it says more and counts as full. Else prove '..UptoSaid'. A law counts once. -/
mutual
def uptoBulk {H : Type} : DataW H → Nat
  | .lit (.string bytes) => bytes.length + 1
  | .lit _ => 1
  | .nil => 1
  | .ptr d => uptoBulk d + 1
  | .slice elems spare => uptoBulkAll elems + uptoBulkAll spare + 1
  | .agg parts => uptoBulkAll parts + 1
  | .iface _ d => uptoBulk d + 1
  | .map entries => uptoBulkEntries entries + 1
  | .held _ => 1
def uptoBulkAll {H : Type} : List (DataW H) → Nat
  | [] => 0
  | d :: r => uptoBulk d + uptoBulkAll r
def uptoBulkEntries {H : Type} : List (Lit × DataW H) → Nat
  | [] => 0
  | x :: r => uptoBulkEntry x + uptoBulkEntries r
def uptoBulkEntry {H : Type} : Lit × DataW H → Nat
  | (.string bytes, d) => bytes.length + uptoBulk d + 1
  | (_, d) => uptoBulk d + 1
 end
def uptoSmall : (H : Type) → List (DataW H) → Bool := fun _ ds => decide (uptoBulkAll ds ≤ 1048576)
def OpenSpec.upto (s : _root_.Go.ChangeSpec) : _root_.Go.OpenSpec := { _root_.Go.OpenSpec.ofChange s with cond := some uptoSmall }

/-- 'laws.FnMachine', WHERE WHAT IT READS IS OF BULK AT MOST 1048576: true; the input reads as it did. -/
def fnMachineUptoRow : OpenClaim := { program := "ytjbikenhdgbacaadoor", sum := "17c95c95251ad8db2988d1f4125d38beb807957365ff79436580dc4376ee5234", func := "loop.example/g00748/laws.FnMachine", spec := "fnMachine", inPlace := ["internal/bytealg.IndexByteString"], named := ["loop.example/g00748/impl.registry"], plainKeys := false, apart := false, laid := [("loop.example/g00748/impl.registry", laid_loop_example_g00748_impl_registry)], narrowed := true }
def FnMachineUptoSaid : Prop := fnMachineUptoRow.holds Tryd.pinned (OpenSpec.upto fnMachineSpec)

/-- 'laws.FnExactEscapeOf', WHERE WHAT IT READS IS OF BULK AT MOST 1048576: true; the input reads as it did. -/
def fnExactEscapeOfUptoRow : OpenClaim := { program := "ytjbikenhdgbacaadoor", sum := "17c95c95251ad8db2988d1f4125d38beb807957365ff79436580dc4376ee5234", func := "loop.example/g00748/laws.FnExactEscapeOf", spec := "fnExactEscapeOf", named := ["loop.example/g00748/impl.registry"], plainKeys := false, apart := false, laid := [("loop.example/g00748/impl.registry", laid_loop_example_g00748_impl_registry)], narrowed := true }
def FnExactEscapeOfUptoSaid : Prop := fnExactEscapeOfUptoRow.holds Tryd.pinned (OpenSpec.upto fnExactEscapeOfSpec)

/-- 'laws.FnExactTokenText', WHERE WHAT IT READS IS OF BULK AT MOST 1048576: true; the input reads as it did. -/
def fnExactTokenTextUptoRow : OpenClaim := { program := "ytjbikenhdgbacaadoor", sum := "17c95c95251ad8db2988d1f4125d38beb807957365ff79436580dc4376ee5234", func := "loop.example/g00748/laws.FnExactTokenText", spec := "fnExactTokenText", recurses := true, named := ["loop.example/g00748/impl.tokenWords", "internal/strconv.uint64pow10", "math/bits.deBruijn32tab", "math/bits.deBruijn64tab"], plainKeys := false, apart := false, laid := [("math/bits.deBruijn32tab", laid_math_bits_deBruijn32tab), ("math/bits.deBruijn64tab", laid_math_bits_deBruijn64tab), ("internal/strconv.uint64pow10", laid_internal_strconv_uint64pow10), ("loop.example/g00748/impl.tokenWords", laid_loop_example_g00748_impl_tokenWords)], narrowed := true }
def FnExactTokenTextUptoSaid : Prop := fnExactTokenTextUptoRow.holds Tryd.pinned (OpenSpec.upto fnExactTokenTextSpec)

/-- 'laws.FnExactProfileOf', WHERE WHAT IT READS IS OF BULK AT MOST 1048576: true; the input reads as it did. -/
def fnExactProfileOfUptoRow : OpenClaim := { program := "ytjbikenhdgbacaadoor", sum := "17c95c95251ad8db2988d1f4125d38beb807957365ff79436580dc4376ee5234", func := "loop.example/g00748/laws.FnExactProfileOf", spec := "fnExactProfileOf", named := ["loop.example/g00748/impl.registry"], plainKeys := false, apart := false, laid := [("loop.example/g00748/impl.registry", laid_loop_example_g00748_impl_registry)], narrowed := true }
def FnExactProfileOfUptoSaid : Prop := fnExactProfileOfUptoRow.holds Tryd.pinned (OpenSpec.upto fnExactProfileOfSpec)

/-- 'laws.FnExactProfileNamed', WHERE WHAT IT READS IS OF BULK AT MOST 1048576: true; the input reads as it did. -/
def fnExactProfileNamedUptoRow : OpenClaim := { program := "ytjbikenhdgbacaadoor", sum := "17c95c95251ad8db2988d1f4125d38beb807957365ff79436580dc4376ee5234", func := "loop.example/g00748/laws.FnExactProfileNamed", spec := "fnExactProfileNamed", named := ["loop.example/g00748/impl.registry"], plainKeys := false, apart := false, laid := [("loop.example/g00748/impl.registry", laid_loop_example_g00748_impl_registry)], narrowed := true }
def FnExactProfileNamedUptoSaid : Prop := fnExactProfileNamedUptoRow.holds Tryd.pinned (OpenSpec.upto fnExactProfileNamedSpec)

/-- 'laws.FnExactAllowsToken', WHERE WHAT IT READS IS OF BULK AT MOST 1048576: true; the input reads as it did. -/
def fnExactAllowsTokenUptoRow : OpenClaim := { program := "ytjbikenhdgbacaadoor", sum := "17c95c95251ad8db2988d1f4125d38beb807957365ff79436580dc4376ee5234", func := "loop.example/g00748/laws.FnExactAllowsToken", spec := "fnExactAllowsToken", unfollowed := true, recurses := true, named := ["loop.example/g00748/impl.registry"], plainKeys := false, apart := false, laid := [("loop.example/g00748/impl.registry", laid_loop_example_g00748_impl_registry)], narrowed := true }
def FnExactAllowsTokenUptoSaid : Prop := fnExactAllowsTokenUptoRow.holds Tryd.pinned (OpenSpec.upto fnExactAllowsTokenSpec)

/-- 'laws.FnExactAtRest', WHERE WHAT IT READS IS OF BULK AT MOST 1048576: true; the input reads as it did. -/
def fnExactAtRestUptoRow : OpenClaim := { program := "ytjbikenhdgbacaadoor", sum := "17c95c95251ad8db2988d1f4125d38beb807957365ff79436580dc4376ee5234", func := "loop.example/g00748/laws.FnExactAtRest", spec := "fnExactAtRest", named := ["loop.example/g00748/impl.registry"], plainKeys := false, apart := false, laid := [("loop.example/g00748/impl.registry", laid_loop_example_g00748_impl_registry)], narrowed := true }
def FnExactAtRestUptoSaid : Prop := fnExactAtRestUptoRow.holds Tryd.pinned (OpenSpec.upto fnExactAtRestSpec)

/-- 'laws.FnExactLineEnd', WHERE WHAT IT READS IS OF BULK AT MOST 1048576: true; the input reads as it did. -/
def fnExactLineEndUptoRow : OpenClaim := { program := "ytjbikenhdgbacaadoor", sum := "17c95c95251ad8db2988d1f4125d38beb807957365ff79436580dc4376ee5234", func := "loop.example/g00748/laws.FnExactLineEnd", spec := "fnExactLineEnd", named := ["loop.example/g00748/impl.registry"], plainKeys := false, apart := false, laid := [("loop.example/g00748/impl.registry", laid_loop_example_g00748_impl_registry)], narrowed := true }
def FnExactLineEndUptoSaid : Prop := fnExactLineEndUptoRow.holds Tryd.pinned (OpenSpec.upto fnExactLineEndSpec)

/-- 'laws.FnExactStepProfile', WHERE WHAT IT READS IS OF BULK AT MOST 1048576: true; the input reads as it did. -/
def fnExactStepProfileUptoRow : OpenClaim := { program := "ytjbikenhdgbacaadoor", sum := "17c95c95251ad8db2988d1f4125d38beb807957365ff79436580dc4376ee5234", func := "loop.example/g00748/laws.FnExactStepProfile", spec := "fnExactStepProfile", unfollowed := true, recurses := true, named := ["loop.example/g00748/impl.registry"], plainKeys := false, apart := false, laid := [("loop.example/g00748/impl.registry", laid_loop_example_g00748_impl_registry)], narrowed := true }
def FnExactStepProfileUptoSaid : Prop := fnExactStepProfileUptoRow.holds Tryd.pinned (OpenSpec.upto fnExactStepProfileSpec)

end Rows
end Go.Proofs.YtjbikenhdgbacaaDoor
