/-
  NARROWER THAN 'FOR EVERY INPUT', by the rows' own cells (each row's printed sentence says how): FnExactDecode: laid · FnExactDecodeLoose: laid · FnExactValidText: laid · FnExactGoodUpTo: laid · FnExactWritePiece: laid · FnExactEncode: laid · FnWaits: laid.
  DERIVED. THE GIVEN ROWS OF THIS SEAT. 7 by the template 'for every input the law returns true; each argument reads behind the call as it read before'; 0 by the template 'total and deterministic' (their statements: YtbamjhldebobhaaGreatDoorTotals.lean).
  GIVEN WITH THE SEED: the statements are not yours to turn. If you find one false, say at which input.
  Laid BY PROGRAM, IN A SANDBOX (cutbox-rows.mjs): the forced cells as the released guide's own fill.sh prints them over the translation d4c7391c8587fcc8… (all of the seat's roots in one cut). By AI agents, Wed Nov 11 2026. No macro, syntax, notation, axiom, sorry.
-/
import Derived.Test.YtbamjhldebobhaaGreatDoorChecked
import GoSem.Claim
import GoSem.ClaimJoined
import GoSem.ClaimMapViews
import Derived.JoinedTies
import Derived.KernelRfl
namespace Go.Proofs.YtbamjhldebobhaaGreatDoor
/- THE CELL 'sum', in the pinned program and in every row, IS THE sha256 OF THE DUMP (.gsa) THAT YtbamjhldebobhaaGreatDoorProg.lean LOADS. Nothing in Lean hashes anything: it is a label: what it is worth is what the hold of that sum in a sandbox is worth. -/
noncomputable def Tryz.pinned : Pinned := { name := "ytbamjhldebobhaagreatdoor", sum := "d4c7391c8587fcc8eef5b62b9271ea23b4177a4131cdfab1e3e325dacd1666b8", checked := Tryz.checked }
namespace Rows
def none {H : Type} : Left H := { results := [], args := [] }

/- WHAT THE LISTED PACKAGE-LEVEL VARIABLES READ AS WHEN THE CALL BEGINS. Each datum BY PROGRAM (the guide's laid-datum.mjs) off the statement by which the dump's own 'gosem.cut.vars' lays the variable. In a bare row this is a premise. The card (YtbamjhldebobhaaGreatDoorCards.lean) ties it to the program's text. -/
def laid_loop_example_g00748_impl_registry {H : Type} : DataW H := .agg [.agg [.lit (.string []), .lit (.int .i64 0), .lit (.int .i64 0), .nil], .agg [.lit (.string [97, 115, 99, 105, 105]), .lit (.int .i64 1), .lit (.int .i64 66), .slice [.agg [.lit (.int .i64 33), .lit (.int .i64 33), .lit (.int .i64 94)]] []], .agg [.lit (.string [114, 111, 109, 97, 110]), .lit (.int .i64 1), .lit (.int .i64 74), .slice [.agg [.lit (.int .i64 33), .lit (.int .i64 33), .lit (.int .i64 59)], .agg [.lit (.int .i64 92), .lit (.int .i64 165), .lit (.int .i64 1)], .agg [.lit (.int .i64 93), .lit (.int .i64 93), .lit (.int .i64 33)], .agg [.lit (.int .i64 126), .lit (.int .i64 8254), .lit (.int .i64 1)]] []], .agg [.lit (.string [107, 97, 110, 97]), .lit (.int .i64 1), .lit (.int .i64 73), .slice [.agg [.lit (.int .i64 33), .lit (.int .i64 65377), .lit (.int .i64 63)]] []], .agg [.lit (.string [108, 97, 116, 105, 110]), .lit (.int .i64 2), .lit (.int .i64 65), .slice [.agg [.lit (.int .i64 32), .lit (.int .i64 160), .lit (.int .i64 96)]] []], .agg [.lit (.string [103, 114, 101, 101, 107]), .lit (.int .i64 2), .lit (.int .i64 70), .slice [.agg [.lit (.int .i64 32), .lit (.int .i64 160), .lit (.int .i64 1)], .agg [.lit (.int .i64 65), .lit (.int .i64 913), .lit (.int .i64 17)], .agg [.lit (.int .i64 83), .lit (.int .i64 931), .lit (.int .i64 7)], .agg [.lit (.int .i64 97), .lit (.int .i64 945), .lit (.int .i64 25)]] []], .agg [.lit (.string [107, 97, 110, 106, 105]), .lit (.int .i64 3), .lit (.int .i64 66), .slice [.agg [.lit (.int .i64 8993), .lit (.int .i64 65296), .lit (.int .i64 10)], .agg [.lit (.int .i64 9249), .lit (.int .i64 12353), .lit (.int .i64 83)], .agg [.lit (.int .i64 9505), .lit (.int .i64 12449), .lit (.int .i64 86)], .agg [.lit (.int .i64 12321), .lit (.int .i64 19968), .lit (.int .i64 94)]] []], .agg [.lit (.string [104, 97, 110, 103, 117, 108]), .lit (.int .i64 3), .lit (.int .i64 67), .slice [.agg [.lit (.int .i64 9249), .lit (.int .i64 12353), .lit (.int .i64 83)], .agg [.lit (.int .i64 12321), .lit (.int .i64 44032), .lit (.int .i64 94)], .agg [.lit (.int .i64 12577), .lit (.int .i64 44126), .lit (.int .i64 94)]] []], .agg [.lit (.string [104, 97, 110, 122, 105]), .lit (.int .i64 3), .lit (.int .i64 65), .slice [.agg [.lit (.int .i64 9249), .lit (.int .i64 12353), .lit (.int .i64 83)], .agg [.lit (.int .i64 9505), .lit (.int .i64 12449), .lit (.int .i64 86)], .agg [.lit (.int .i64 12321), .lit (.int .i64 19998), .lit (.int .i64 94)]] []]]
def laid_loop_example_g00748_impl_codeWords {H : Type} : DataW H := .agg [.lit (.string [111, 107]), .lit (.string [98, 97, 100]), .lit (.string [108, 111, 110, 103]), .lit (.string [102, 111, 114, 109]), .lit (.string [114, 97, 110, 103, 101]), .lit (.string [110, 111, 110, 101]), .lit (.string [109, 97, 110, 121]), .lit (.string [102, 117, 108, 108]), .lit (.string [115, 105, 122, 101]), .lit (.string [107, 105, 110, 100]), .lit (.string [101, 115, 99, 97, 112, 101]), .lit (.string [102, 111, 114, 98, 105, 100, 100, 101, 110]), .lit (.string [117, 110, 109, 97, 112, 112, 101, 100]), .lit (.string [115, 104, 111, 114, 116]), .lit (.string [114, 101, 115, 101, 116]), .lit (.string [104, 101, 97, 100, 101, 114]), .lit (.string [117, 116, 102]), .lit (.string [115, 116, 97, 116, 101]), .lit (.string [115, 97, 109, 101])]

/-- 'laws.FnExactDecode': WHATEVER THE INPUT: true; the input reads as it did. -/
def fnExactDecodeSpec : ChangeSpec := { name := "fnExactDecode", vars := ["loop.example/g00748/impl.registry"], fn := fun _ => fun
  | [d1, d2, g1] => { results := [.lit (.bool true)], args := [d1, d2], vars := [g1] }
  | _ => none }
def fnExactDecodeRow : OpenClaim := { program := "ytbamjhldebobhaagreatdoor", sum := "d4c7391c8587fcc8eef5b62b9271ea23b4177a4131cdfab1e3e325dacd1666b8", func := "loop.example/g00748/laws.FnExactDecode", spec := "fnExactDecode", inPlace := ["internal/bytealg.IndexByteString"], unfollowed := true, recurses := true, named := ["loop.example/g00748/impl.registry"], plainKeys := false, apart := false, laid := [("loop.example/g00748/impl.registry", laid_loop_example_g00748_impl_registry)] }
def FnExactDecodeSaid : Prop := fnExactDecodeRow.holds Tryz.pinned (OpenSpec.ofChange fnExactDecodeSpec)

/-- ITS FALSE NEIGHBOUR: 'it returns false'. Refute it at one input. -/
def fnExactDecodeWrong : ChangeSpec := { name := "fnExactDecode", vars := ["loop.example/g00748/impl.registry"], fn := fun _ => fun
  | [d1, d2, g1] => { results := [.lit (.bool false)], args := [d1, d2], vars := [g1] }
  | _ => none }
def FnExactDecodeWrongFalsely : Prop := fnExactDecodeRow.holds Tryz.pinned (OpenSpec.ofChange fnExactDecodeWrong)

/-- 'laws.FnExactDecodeLoose': WHATEVER THE INPUT: true; the input reads as it did. -/
def fnExactDecodeLooseSpec : ChangeSpec := { name := "fnExactDecodeLoose", vars := ["loop.example/g00748/impl.registry"], fn := fun _ => fun
  | [d1, d2, g1] => { results := [.lit (.bool true)], args := [d1, d2], vars := [g1] }
  | _ => none }
def fnExactDecodeLooseRow : OpenClaim := { program := "ytbamjhldebobhaagreatdoor", sum := "d4c7391c8587fcc8eef5b62b9271ea23b4177a4131cdfab1e3e325dacd1666b8", func := "loop.example/g00748/laws.FnExactDecodeLoose", spec := "fnExactDecodeLoose", inPlace := ["internal/bytealg.IndexByteString"], unfollowed := true, recurses := true, named := ["loop.example/g00748/impl.registry"], plainKeys := false, apart := false, laid := [("loop.example/g00748/impl.registry", laid_loop_example_g00748_impl_registry)] }
def FnExactDecodeLooseSaid : Prop := fnExactDecodeLooseRow.holds Tryz.pinned (OpenSpec.ofChange fnExactDecodeLooseSpec)

/-- ITS FALSE NEIGHBOUR: 'it returns false'. Refute it at one input. -/
def fnExactDecodeLooseWrong : ChangeSpec := { name := "fnExactDecodeLoose", vars := ["loop.example/g00748/impl.registry"], fn := fun _ => fun
  | [d1, d2, g1] => { results := [.lit (.bool false)], args := [d1, d2], vars := [g1] }
  | _ => none }
def FnExactDecodeLooseWrongFalsely : Prop := fnExactDecodeLooseRow.holds Tryz.pinned (OpenSpec.ofChange fnExactDecodeLooseWrong)

/-- 'laws.FnExactValidText': WHATEVER THE INPUT: true; the input reads as it did. -/
def fnExactValidTextSpec : ChangeSpec := { name := "fnExactValidText", vars := ["loop.example/g00748/impl.registry"], fn := fun _ => fun
  | [d1, d2, g1] => { results := [.lit (.bool true)], args := [d1, d2], vars := [g1] }
  | _ => none }
def fnExactValidTextRow : OpenClaim := { program := "ytbamjhldebobhaagreatdoor", sum := "d4c7391c8587fcc8eef5b62b9271ea23b4177a4131cdfab1e3e325dacd1666b8", func := "loop.example/g00748/laws.FnExactValidText", spec := "fnExactValidText", inPlace := ["internal/bytealg.IndexByteString"], unfollowed := true, recurses := true, named := ["loop.example/g00748/impl.registry"], plainKeys := false, apart := false, laid := [("loop.example/g00748/impl.registry", laid_loop_example_g00748_impl_registry)] }
def FnExactValidTextSaid : Prop := fnExactValidTextRow.holds Tryz.pinned (OpenSpec.ofChange fnExactValidTextSpec)

/-- ITS FALSE NEIGHBOUR: 'it returns false'. Refute it at one input. -/
def fnExactValidTextWrong : ChangeSpec := { name := "fnExactValidText", vars := ["loop.example/g00748/impl.registry"], fn := fun _ => fun
  | [d1, d2, g1] => { results := [.lit (.bool false)], args := [d1, d2], vars := [g1] }
  | _ => none }
def FnExactValidTextWrongFalsely : Prop := fnExactValidTextRow.holds Tryz.pinned (OpenSpec.ofChange fnExactValidTextWrong)

/-- 'laws.FnExactGoodUpTo': WHATEVER THE INPUT: true; the input reads as it did. -/
def fnExactGoodUpToSpec : ChangeSpec := { name := "fnExactGoodUpTo", vars := ["loop.example/g00748/impl.registry"], fn := fun _ => fun
  | [d1, d2, g1] => { results := [.lit (.bool true)], args := [d1, d2], vars := [g1] }
  | _ => none }
def fnExactGoodUpToRow : OpenClaim := { program := "ytbamjhldebobhaagreatdoor", sum := "d4c7391c8587fcc8eef5b62b9271ea23b4177a4131cdfab1e3e325dacd1666b8", func := "loop.example/g00748/laws.FnExactGoodUpTo", spec := "fnExactGoodUpTo", inPlace := ["internal/bytealg.IndexByteString"], unfollowed := true, recurses := true, named := ["loop.example/g00748/impl.registry"], plainKeys := false, apart := false, laid := [("loop.example/g00748/impl.registry", laid_loop_example_g00748_impl_registry)] }
def FnExactGoodUpToSaid : Prop := fnExactGoodUpToRow.holds Tryz.pinned (OpenSpec.ofChange fnExactGoodUpToSpec)

/-- ITS FALSE NEIGHBOUR: 'it returns false'. Refute it at one input. -/
def fnExactGoodUpToWrong : ChangeSpec := { name := "fnExactGoodUpTo", vars := ["loop.example/g00748/impl.registry"], fn := fun _ => fun
  | [d1, d2, g1] => { results := [.lit (.bool false)], args := [d1, d2], vars := [g1] }
  | _ => none }
def FnExactGoodUpToWrongFalsely : Prop := fnExactGoodUpToRow.holds Tryz.pinned (OpenSpec.ofChange fnExactGoodUpToWrong)

/-- 'laws.FnExactWritePiece': WHATEVER THE INPUT: true; the input reads as it did. -/
def fnExactWritePieceSpec : ChangeSpec := { name := "fnExactWritePiece", vars := ["loop.example/g00748/impl.registry", "loop.example/g00748/impl.codeWords"], fn := fun _ => fun
  | [d1, d2, g1, g2] => { results := [.lit (.bool true)], args := [d1, d2], vars := [g1, g2] }
  | _ => none }
def fnExactWritePieceRow : OpenClaim := { program := "ytbamjhldebobhaagreatdoor", sum := "d4c7391c8587fcc8eef5b62b9271ea23b4177a4131cdfab1e3e325dacd1666b8", func := "loop.example/g00748/laws.FnExactWritePiece", spec := "fnExactWritePiece", inPlace := ["internal/bytealg.IndexByteString"], unfollowed := true, recurses := true, named := ["loop.example/g00748/impl.registry", "loop.example/g00748/impl.codeWords"], plainKeys := false, apart := false, laid := [("loop.example/g00748/impl.codeWords", laid_loop_example_g00748_impl_codeWords), ("loop.example/g00748/impl.registry", laid_loop_example_g00748_impl_registry)] }
def FnExactWritePieceSaid : Prop := fnExactWritePieceRow.holds Tryz.pinned (OpenSpec.ofChange fnExactWritePieceSpec)

/-- ITS FALSE NEIGHBOUR: 'it returns false'. Refute it at one input. -/
def fnExactWritePieceWrong : ChangeSpec := { name := "fnExactWritePiece", vars := ["loop.example/g00748/impl.registry", "loop.example/g00748/impl.codeWords"], fn := fun _ => fun
  | [d1, d2, g1, g2] => { results := [.lit (.bool false)], args := [d1, d2], vars := [g1, g2] }
  | _ => none }
def FnExactWritePieceWrongFalsely : Prop := fnExactWritePieceRow.holds Tryz.pinned (OpenSpec.ofChange fnExactWritePieceWrong)

/-- 'laws.FnExactEncode': WHATEVER THE INPUT: true; the input reads as it did. -/
def fnExactEncodeSpec : ChangeSpec := { name := "fnExactEncode", vars := ["loop.example/g00748/impl.registry"], fn := fun _ => fun
  | [d1, d2, g1] => { results := [.lit (.bool true)], args := [d1, d2], vars := [g1] }
  | _ => none }
def fnExactEncodeRow : OpenClaim := { program := "ytbamjhldebobhaagreatdoor", sum := "d4c7391c8587fcc8eef5b62b9271ea23b4177a4131cdfab1e3e325dacd1666b8", func := "loop.example/g00748/laws.FnExactEncode", spec := "fnExactEncode", inPlace := ["internal/bytealg.IndexByteString"], unfollowed := true, recurses := true, named := ["loop.example/g00748/impl.registry"], plainKeys := false, apart := false, laid := [("loop.example/g00748/impl.registry", laid_loop_example_g00748_impl_registry)] }
def FnExactEncodeSaid : Prop := fnExactEncodeRow.holds Tryz.pinned (OpenSpec.ofChange fnExactEncodeSpec)

/-- ITS FALSE NEIGHBOUR: 'it returns false'. Refute it at one input. -/
def fnExactEncodeWrong : ChangeSpec := { name := "fnExactEncode", vars := ["loop.example/g00748/impl.registry"], fn := fun _ => fun
  | [d1, d2, g1] => { results := [.lit (.bool false)], args := [d1, d2], vars := [g1] }
  | _ => none }
def FnExactEncodeWrongFalsely : Prop := fnExactEncodeRow.holds Tryz.pinned (OpenSpec.ofChange fnExactEncodeWrong)

/-- 'laws.FnWaits': WHATEVER THE INPUT: true; the input reads as it did. -/
def fnWaitsSpec : ChangeSpec := { name := "fnWaits", vars := ["loop.example/g00748/impl.registry", "loop.example/g00748/impl.codeWords"], fn := fun _ => fun
  | [d1, d2, g1, g2] => { results := [.lit (.bool true)], args := [d1, d2], vars := [g1, g2] }
  | _ => none }
def fnWaitsRow : OpenClaim := { program := "ytbamjhldebobhaagreatdoor", sum := "d4c7391c8587fcc8eef5b62b9271ea23b4177a4131cdfab1e3e325dacd1666b8", func := "loop.example/g00748/laws.FnWaits", spec := "fnWaits", inPlace := ["internal/bytealg.IndexByteString"], unfollowed := true, recurses := true, named := ["loop.example/g00748/impl.registry", "loop.example/g00748/impl.codeWords"], plainKeys := false, apart := false, laid := [("loop.example/g00748/impl.codeWords", laid_loop_example_g00748_impl_codeWords), ("loop.example/g00748/impl.registry", laid_loop_example_g00748_impl_registry)] }
def FnWaitsSaid : Prop := fnWaitsRow.holds Tryz.pinned (OpenSpec.ofChange fnWaitsSpec)

/-- ITS FALSE NEIGHBOUR: 'it returns false'. Refute it at one input. -/
def fnWaitsWrong : ChangeSpec := { name := "fnWaits", vars := ["loop.example/g00748/impl.registry", "loop.example/g00748/impl.codeWords"], fn := fun _ => fun
  | [d1, d2, g1, g2] => { results := [.lit (.bool false)], args := [d1, d2], vars := [g1, g2] }
  | _ => none }
def FnWaitsWrongFalsely : Prop := fnWaitsRow.holds Tryz.pinned (OpenSpec.ofChange fnWaitsWrong)

/- THE SECOND FORM. 'bulk': how many values and letters a reading holds, each counted each time it is reached (what is shared counts as often as it is met; a slice's spare places count too). A statement '..UptoSaid' is the law's where the arguments, and the package variables that the reading takes, are together of bulk at most 1048576: NARROWER than '..Said'. Prove '..Said' where nothing that the law and all that it calls make is longer than what came in: it says more and counts as full. Else prove '..UptoSaid'. A law counts once. -/
mutual
def uptoBulk {H : Type} : DataW H → Nat
  | .lit (.string bytes) => bytes.length + 1
  | .lit _ => 1
  | .nil => 1
  | .ptr d => uptoBulk d + 1
  | .slice elems spare => uptoBulkAll elems + uptoBulkAll spare + 1
  | .agg parts => uptoBulkAll parts + 1
  | .iface _ d => uptoBulk d + 1
  | .map entries => uptoBulkEntries entries + 1
  | .held _ => 1
def uptoBulkAll {H : Type} : List (DataW H) → Nat
  | [] => 0
  | d :: r => uptoBulk d + uptoBulkAll r
def uptoBulkEntries {H : Type} : List (Lit × DataW H) → Nat
  | [] => 0
  | x :: r => uptoBulkEntry x + uptoBulkEntries r
def uptoBulkEntry {H : Type} : Lit × DataW H → Nat
  | (.string bytes, d) => bytes.length + uptoBulk d + 1
  | (_, d) => uptoBulk d + 1
 end
def uptoSmall : (H : Type) → List (DataW H) → Bool := fun _ ds => decide (uptoBulkAll ds ≤ 1048576)
def OpenSpec.upto (s : _root_.Go.ChangeSpec) : _root_.Go.OpenSpec := { _root_.Go.OpenSpec.ofChange s with cond := some uptoSmall }

/-- 'laws.FnExactDecode', WHERE WHAT IT READS IS OF BULK AT MOST 1048576: true; the input reads as it did. -/
def fnExactDecodeUptoRow : OpenClaim := { program := "ytbamjhldebobhaagreatdoor", sum := "d4c7391c8587fcc8eef5b62b9271ea23b4177a4131cdfab1e3e325dacd1666b8", func := "loop.example/g00748/laws.FnExactDecode", spec := "fnExactDecode", inPlace := ["internal/bytealg.IndexByteString"], unfollowed := true, recurses := true, named := ["loop.example/g00748/impl.registry"], plainKeys := false, apart := false, laid := [("loop.example/g00748/impl.registry", laid_loop_example_g00748_impl_registry)], narrowed := true }
def FnExactDecodeUptoSaid : Prop := fnExactDecodeUptoRow.holds Tryz.pinned (OpenSpec.upto fnExactDecodeSpec)

/-- 'laws.FnExactDecodeLoose', WHERE WHAT IT READS IS OF BULK AT MOST 1048576: true; the input reads as it did. -/
def fnExactDecodeLooseUptoRow : OpenClaim := { program := "ytbamjhldebobhaagreatdoor", sum := "d4c7391c8587fcc8eef5b62b9271ea23b4177a4131cdfab1e3e325dacd1666b8", func := "loop.example/g00748/laws.FnExactDecodeLoose", spec := "fnExactDecodeLoose", inPlace := ["internal/bytealg.IndexByteString"], unfollowed := true, recurses := true, named := ["loop.example/g00748/impl.registry"], plainKeys := false, apart := false, laid := [("loop.example/g00748/impl.registry", laid_loop_example_g00748_impl_registry)], narrowed := true }
def FnExactDecodeLooseUptoSaid : Prop := fnExactDecodeLooseUptoRow.holds Tryz.pinned (OpenSpec.upto fnExactDecodeLooseSpec)

/-- 'laws.FnExactValidText', WHERE WHAT IT READS IS OF BULK AT MOST 1048576: true; the input reads as it did. -/
def fnExactValidTextUptoRow : OpenClaim := { program := "ytbamjhldebobhaagreatdoor", sum := "d4c7391c8587fcc8eef5b62b9271ea23b4177a4131cdfab1e3e325dacd1666b8", func := "loop.example/g00748/laws.FnExactValidText", spec := "fnExactValidText", inPlace := ["internal/bytealg.IndexByteString"], unfollowed := true, recurses := true, named := ["loop.example/g00748/impl.registry"], plainKeys := false, apart := false, laid := [("loop.example/g00748/impl.registry", laid_loop_example_g00748_impl_registry)], narrowed := true }
def FnExactValidTextUptoSaid : Prop := fnExactValidTextUptoRow.holds Tryz.pinned (OpenSpec.upto fnExactValidTextSpec)

/-- 'laws.FnExactGoodUpTo', WHERE WHAT IT READS IS OF BULK AT MOST 1048576: true; the input reads as it did. -/
def fnExactGoodUpToUptoRow : OpenClaim := { program := "ytbamjhldebobhaagreatdoor", sum := "d4c7391c8587fcc8eef5b62b9271ea23b4177a4131cdfab1e3e325dacd1666b8", func := "loop.example/g00748/laws.FnExactGoodUpTo", spec := "fnExactGoodUpTo", inPlace := ["internal/bytealg.IndexByteString"], unfollowed := true, recurses := true, named := ["loop.example/g00748/impl.registry"], plainKeys := false, apart := false, laid := [("loop.example/g00748/impl.registry", laid_loop_example_g00748_impl_registry)], narrowed := true }
def FnExactGoodUpToUptoSaid : Prop := fnExactGoodUpToUptoRow.holds Tryz.pinned (OpenSpec.upto fnExactGoodUpToSpec)

/-- 'laws.FnExactWritePiece', WHERE WHAT IT READS IS OF BULK AT MOST 1048576: true; the input reads as it did. -/
def fnExactWritePieceUptoRow : OpenClaim := { program := "ytbamjhldebobhaagreatdoor", sum := "d4c7391c8587fcc8eef5b62b9271ea23b4177a4131cdfab1e3e325dacd1666b8", func := "loop.example/g00748/laws.FnExactWritePiece", spec := "fnExactWritePiece", inPlace := ["internal/bytealg.IndexByteString"], unfollowed := true, recurses := true, named := ["loop.example/g00748/impl.registry", "loop.example/g00748/impl.codeWords"], plainKeys := false, apart := false, laid := [("loop.example/g00748/impl.codeWords", laid_loop_example_g00748_impl_codeWords), ("loop.example/g00748/impl.registry", laid_loop_example_g00748_impl_registry)], narrowed := true }
def FnExactWritePieceUptoSaid : Prop := fnExactWritePieceUptoRow.holds Tryz.pinned (OpenSpec.upto fnExactWritePieceSpec)

/-- 'laws.FnExactEncode', WHERE WHAT IT READS IS OF BULK AT MOST 1048576: true; the input reads as it did. -/
def fnExactEncodeUptoRow : OpenClaim := { program := "ytbamjhldebobhaagreatdoor", sum := "d4c7391c8587fcc8eef5b62b9271ea23b4177a4131cdfab1e3e325dacd1666b8", func := "loop.example/g00748/laws.FnExactEncode", spec := "fnExactEncode", inPlace := ["internal/bytealg.IndexByteString"], unfollowed := true, recurses := true, named := ["loop.example/g00748/impl.registry"], plainKeys := false, apart := false, laid := [("loop.example/g00748/impl.registry", laid_loop_example_g00748_impl_registry)], narrowed := true }
def FnExactEncodeUptoSaid : Prop := fnExactEncodeUptoRow.holds Tryz.pinned (OpenSpec.upto fnExactEncodeSpec)

/-- 'laws.FnWaits', WHERE WHAT IT READS IS OF BULK AT MOST 1048576: true; the input reads as it did. -/
def fnWaitsUptoRow : OpenClaim := { program := "ytbamjhldebobhaagreatdoor", sum := "d4c7391c8587fcc8eef5b62b9271ea23b4177a4131cdfab1e3e325dacd1666b8", func := "loop.example/g00748/laws.FnWaits", spec := "fnWaits", inPlace := ["internal/bytealg.IndexByteString"], unfollowed := true, recurses := true, named := ["loop.example/g00748/impl.registry", "loop.example/g00748/impl.codeWords"], plainKeys := false, apart := false, laid := [("loop.example/g00748/impl.codeWords", laid_loop_example_g00748_impl_codeWords), ("loop.example/g00748/impl.registry", laid_loop_example_g00748_impl_registry)], narrowed := true }
def FnWaitsUptoSaid : Prop := fnWaitsUptoRow.holds Tryz.pinned (OpenSpec.upto fnWaitsSpec)

end Rows
end Go.Proofs.YtbamjhldebobhaaGreatDoor
