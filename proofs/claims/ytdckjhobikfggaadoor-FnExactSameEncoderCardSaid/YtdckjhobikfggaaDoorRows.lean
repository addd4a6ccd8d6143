/-
  NARROWER THAN 'FOR EVERY INPUT', by the rows' own cells (each row's printed sentence says how): FnUtf: ifaces, laid · FnExactTakeRune: ifaces, laid · FnExactCloseDecoder: laid · FnExactEncoderOK: ifaces, laid · FnExactSameEncoder: ifaces, laid.
  DERIVED. THE GIVEN ROWS OF THIS SEAT. 5 by the template 'for every input the law returns true; each argument reads behind the call as it read before'; 0 by the template 'total and deterministic' (their statements: YtdckjhobikfggaaDoorTotals.lean).
  GIVEN WITH THE SEED: the statements are not yours to turn. If you find one false, say at which input.
  Laid BY PROGRAM, IN A SANDBOX (cutbox-rows.mjs): the forced cells as the released guide's own fill.sh prints them over the translation 6a17171db239d68a… (all of the seat's roots in one cut). By AI agents, Wed Nov 11 2026. No macro, syntax, notation, axiom, sorry.
-/
import Derived.Test.YtdckjhobikfggaaDoorChecked
import GoSem.Claim
import GoSem.ClaimJoined
import GoSem.ClaimMapViews
import Derived.JoinedTies
import Derived.KernelRfl
namespace Go.Proofs.YtdckjhobikfggaaDoor
/- THE CELL 'sum', in the pinned program and in every row, IS THE sha256 OF THE DUMP (.gsa) THAT YtdckjhobikfggaaDoorProg.lean LOADS. Nothing in Lean hashes anything: it is a label: what it is worth is what the hold of that sum in a sandbox is worth. -/
noncomputable def Tryd.pinned : Pinned := { name := "ytdckjhobikfggaadoor", sum := "6a17171db239d68a72edd49c2acec23e7478ffb82584ae6b94b2e86611770f9c", checked := Tryd.checked }
namespace Rows
def none {H : Type} : Left H := { results := [], args := [] }

/- WHAT THE LISTED PACKAGE-LEVEL VARIABLES READ AS WHEN THE CALL BEGINS. Each datum BY PROGRAM (the guide's laid-datum.mjs) off the statement by which the dump's own 'gosem.cut.vars' lays the variable. In a bare row this is a premise. The card (YtdckjhobikfggaaDoorCards.lean) ties it to the program's text. -/
def laid_errors_errorType {H : Type} : DataW H := .iface "internal/reflectlite.rtype" (.agg [.ptr (.lit (.string [101, 114, 114, 111, 114]))])
def laid_loop_example_g00748_impl_errTruncated {H : Type} : DataW H := .iface "*errors.errorString" (.ptr (.agg [.lit (.string [116, 114, 117, 110, 99, 97, 116, 101, 100, 32, 85, 84, 70, 45, 56, 32, 115, 101, 113, 117, 101, 110, 99, 101])]))
def laid_loop_example_g00748_impl_errInvalid {H : Type} : DataW H := .iface "*errors.errorString" (.ptr (.agg [.lit (.string [105, 110, 118, 97, 108, 105, 100, 32, 85, 84, 70, 45, 56, 32, 115, 101, 113, 117, 101, 110, 99, 101])]))
def laid_loop_example_g00748_impl_codeWords {H : Type} : DataW H := .agg [.lit (.string [111, 107]), .lit (.string [98, 97, 100]), .lit (.string [108, 111, 110, 103]), .lit (.string [102, 111, 114, 109]), .lit (.string [114, 97, 110, 103, 101]), .lit (.string [110, 111, 110, 101]), .lit (.string [109, 97, 110, 121]), .lit (.string [102, 117, 108, 108]), .lit (.string [115, 105, 122, 101]), .lit (.string [107, 105, 110, 100]), .lit (.string [101, 115, 99, 97, 112, 101]), .lit (.string [102, 111, 114, 98, 105, 100, 100, 101, 110]), .lit (.string [117, 110, 109, 97, 112, 112, 101, 100]), .lit (.string [115, 104, 111, 114, 116]), .lit (.string [114, 101, 115, 101, 116]), .lit (.string [104, 101, 97, 100, 101, 114]), .lit (.string [117, 116, 102]), .lit (.string [115, 116, 97, 116, 101]), .lit (.string [115, 97, 109, 101])]
def laid_loop_example_g00748_impl_registry {H : Type} : DataW H := .agg [.agg [.lit (.string []), .lit (.int .i64 0), .lit (.int .i64 0), .nil], .agg [.lit (.string [97, 115, 99, 105, 105]), .lit (.int .i64 1), .lit (.int .i64 66), .slice [.agg [.lit (.int .i64 33), .lit (.int .i64 33), .lit (.int .i64 94)]] []], .agg [.lit (.string [114, 111, 109, 97, 110]), .lit (.int .i64 1), .lit (.int .i64 74), .slice [.agg [.lit (.int .i64 33), .lit (.int .i64 33), .lit (.int .i64 59)], .agg [.lit (.int .i64 92), .lit (.int .i64 165), .lit (.int .i64 1)], .agg [.lit (.int .i64 93), .lit (.int .i64 93), .lit (.int .i64 33)], .agg [.lit (.int .i64 126), .lit (.int .i64 8254), .lit (.int .i64 1)]] []], .agg [.lit (.string [107, 97, 110, 97]), .lit (.int .i64 1), .lit (.int .i64 73), .slice [.agg [.lit (.int .i64 33), .lit (.int .i64 65377), .lit (.int .i64 63)]] []], .agg [.lit (.string [108, 97, 116, 105, 110]), .lit (.int .i64 2), .lit (.int .i64 65), .slice [.agg [.lit (.int .i64 32), .lit (.int .i64 160), .lit (.int .i64 96)]] []], .agg [.lit (.string [103, 114, 101, 101, 107]), .lit (.int .i64 2), .lit (.int .i64 70), .slice [.agg [.lit (.int .i64 32), .lit (.int .i64 160), .lit (.int .i64 1)], .agg [.lit (.int .i64 65), .lit (.int .i64 913), .lit (.int .i64 17)], .agg [.lit (.int .i64 83), .lit (.int .i64 931), .lit (.int .i64 7)], .agg [.lit (.int .i64 97), .lit (.int .i64 945), .lit (.int .i64 25)]] []], .agg [.lit (.string [107, 97, 110, 106, 105]), .lit (.int .i64 3), .lit (.int .i64 66), .slice [.agg [.lit (.int .i64 8993), .lit (.int .i64 65296), .lit (.int .i64 10)], .agg [.lit (.int .i64 9249), .lit (.int .i64 12353), .lit (.int .i64 83)], .agg [.lit (.int .i64 9505), .lit (.int .i64 12449), .lit (.int .i64 86)], .agg [.lit (.int .i64 12321), .lit (.int .i64 19968), .lit (.int .i64 94)]] []], .agg [.lit (.string [104, 97, 110, 103, 117, 108]), .lit (.int .i64 3), .lit (.int .i64 67), .slice [.agg [.lit (.int .i64 9249), .lit (.int .i64 12353), .lit (.int .i64 83)], .agg [.lit (.int .i64 12321), .lit (.int .i64 44032), .lit (.int .i64 94)], .agg [.lit (.int .i64 12577), .lit (.int .i64 44126), .lit (.int .i64 94)]] []], .agg [.lit (.string [104, 97, 110, 122, 105]), .lit (.int .i64 3), .lit (.int .i64 65), .slice [.agg [.lit (.int .i64 9249), .lit (.int .i64 12353), .lit (.int .i64 83)], .agg [.lit (.int .i64 9505), .lit (.int .i64 12449), .lit (.int .i64 86)], .agg [.lit (.int .i64 12321), .lit (.int .i64 19998), .lit (.int .i64 94)]] []]]

/-- 'laws.FnUtf': WHATEVER THE INPUT: true; the input reads as it did. -/
def fnUtfSpec : ChangeSpec := { name := "fnUtf", vars := ["loop.example/g00748/impl.errInvalid", "loop.example/g00748/impl.errTruncated"], fn := fun _ => fun
  | [d1, d2, g1, g2] => { results := [.lit (.bool true)], args := [d1, d2], vars := [g1, g2] }
  | _ => none }
def fnUtfRow : OpenClaim := { program := "ytdckjhobikfggaadoor", sum := "6a17171db239d68a72edd49c2acec23e7478ffb82584ae6b94b2e86611770f9c", func := "loop.example/g00748/laws.FnUtf", spec := "fnUtf", inPlace := ["internal/abi.NoEscape", "internal/reflectlite.ValueOf", "(internal/reflectlite.Value).Type", "(internal/reflectlite.Value).IsNil", "internal/reflectlite.TypeOf", "(internal/reflectlite.Value).Elem", "(internal/reflectlite.Value).Set", "internal/bytealg.IndexByteString"], unfollowed := true, recurses := true, named := ["loop.example/g00748/impl.errInvalid", "loop.example/g00748/impl.errTruncated", "errors.errorType"], ifaces := true, plainKeys := false, apart := false, laid := [("errors.errorType", laid_errors_errorType), ("loop.example/g00748/impl.errTruncated", laid_loop_example_g00748_impl_errTruncated), ("loop.example/g00748/impl.errInvalid", laid_loop_example_g00748_impl_errInvalid)] }
def FnUtfSaid : Prop := fnUtfRow.holds Tryd.pinned (OpenSpec.ofChange fnUtfSpec)

/-- ITS FALSE NEIGHBOUR: 'it returns false'. Refute it at one input. -/
def fnUtfWrong : ChangeSpec := { name := "fnUtf", vars := ["loop.example/g00748/impl.errInvalid", "loop.example/g00748/impl.errTruncated"], fn := fun _ => fun
  | [d1, d2, g1, g2] => { results := [.lit (.bool false)], args := [d1, d2], vars := [g1, g2] }
  | _ => none }
def FnUtfWrongFalsely : Prop := fnUtfRow.holds Tryd.pinned (OpenSpec.ofChange fnUtfWrong)

/-- 'laws.FnExactTakeRune': WHATEVER THE INPUT: true; the input reads as it did. -/
def fnExactTakeRuneSpec : ChangeSpec := { name := "fnExactTakeRune", vars := ["loop.example/g00748/impl.errInvalid", "loop.example/g00748/impl.errTruncated"], fn := fun _ => fun
  | [d1, d2, g1, g2] => { results := [.lit (.bool true)], args := [d1, d2], vars := [g1, g2] }
  | _ => none }
def fnExactTakeRuneRow : OpenClaim := { program := "ytdckjhobikfggaadoor", sum := "6a17171db239d68a72edd49c2acec23e7478ffb82584ae6b94b2e86611770f9c", func := "loop.example/g00748/laws.FnExactTakeRune", spec := "fnExactTakeRune", inPlace := ["internal/reflectlite.TypeOf"], unfollowed := true, recurses := true, named := ["loop.example/g00748/impl.errInvalid", "loop.example/g00748/impl.errTruncated"], ifaces := true, plainKeys := false, apart := false, laid := [("loop.example/g00748/impl.errTruncated", laid_loop_example_g00748_impl_errTruncated), ("loop.example/g00748/impl.errInvalid", laid_loop_example_g00748_impl_errInvalid)] }
def FnExactTakeRuneSaid : Prop := fnExactTakeRuneRow.holds Tryd.pinned (OpenSpec.ofChange fnExactTakeRuneSpec)

/-- ITS FALSE NEIGHBOUR: 'it returns false'. Refute it at one input. -/
def fnExactTakeRuneWrong : ChangeSpec := { name := "fnExactTakeRune", vars := ["loop.example/g00748/impl.errInvalid", "loop.example/g00748/impl.errTruncated"], fn := fun _ => fun
  | [d1, d2, g1, g2] => { results := [.lit (.bool false)], args := [d1, d2], vars := [g1, g2] }
  | _ => none }
def FnExactTakeRuneWrongFalsely : Prop := fnExactTakeRuneRow.holds Tryd.pinned (OpenSpec.ofChange fnExactTakeRuneWrong)

/-- 'laws.FnExactCloseDecoder': WHATEVER THE INPUT: true; the input reads as it did. -/
def fnExactCloseDecoderSpec : ChangeSpec := { name := "fnExactCloseDecoder", vars := ["loop.example/g00748/impl.registry", "loop.example/g00748/impl.codeWords"], fn := fun _ => fun
  | [d, g1, g2] => { results := [.lit (.bool true)], args := [d], vars := [g1, g2] }
  | _ => none }
def fnExactCloseDecoderRow : OpenClaim := { program := "ytdckjhobikfggaadoor", sum := "6a17171db239d68a72edd49c2acec23e7478ffb82584ae6b94b2e86611770f9c", func := "loop.example/g00748/laws.FnExactCloseDecoder", spec := "fnExactCloseDecoder", inPlace := ["internal/bytealg.IndexByteString"], named := ["loop.example/g00748/impl.registry", "loop.example/g00748/impl.codeWords"], plainKeys := false, apart := false, laid := [("loop.example/g00748/impl.codeWords", laid_loop_example_g00748_impl_codeWords), ("loop.example/g00748/impl.registry", laid_loop_example_g00748_impl_registry)] }
def FnExactCloseDecoderSaid : Prop := fnExactCloseDecoderRow.holds Tryd.pinned (OpenSpec.ofChange fnExactCloseDecoderSpec)

/-- ITS FALSE NEIGHBOUR: 'it returns false'. Refute it at one input. -/
def fnExactCloseDecoderWrong : ChangeSpec := { name := "fnExactCloseDecoder", vars := ["loop.example/g00748/impl.registry", "loop.example/g00748/impl.codeWords"], fn := fun _ => fun
  | [d, g1, g2] => { results := [.lit (.bool false)], args := [d], vars := [g1, g2] }
  | _ => none }
def FnExactCloseDecoderWrongFalsely : Prop := fnExactCloseDecoderRow.holds Tryd.pinned (OpenSpec.ofChange fnExactCloseDecoderWrong)

/-- 'laws.FnExactEncoderOK': WHATEVER THE INPUT: true; the input reads as it did. -/
def fnExactEncoderOKSpec : ChangeSpec := { name := "fnExactEncoderOK", vars := ["loop.example/g00748/impl.codeWords", "loop.example/g00748/impl.errInvalid", "loop.example/g00748/impl.errTruncated", "loop.example/g00748/impl.registry"], fn := fun _ => fun
  | [d, g1, g2, g3, g4] => { results := [.lit (.bool true)], args := [d], vars := [g1, g2, g3, g4] }
  | _ => none }
def fnExactEncoderOKRow : OpenClaim := { program := "ytdckjhobikfggaadoor", sum := "6a17171db239d68a72edd49c2acec23e7478ffb82584ae6b94b2e86611770f9c", func := "loop.example/g00748/laws.FnExactEncoderOK", spec := "fnExactEncoderOK", inPlace := ["internal/reflectlite.TypeOf"], unfollowed := true, recurses := true, named := ["loop.example/g00748/impl.codeWords", "loop.example/g00748/impl.errInvalid", "loop.example/g00748/impl.errTruncated", "loop.example/g00748/impl.registry"], ifaces := true, plainKeys := false, apart := false, laid := [("loop.example/g00748/impl.codeWords", laid_loop_example_g00748_impl_codeWords), ("loop.example/g00748/impl.errTruncated", laid_loop_example_g00748_impl_errTruncated), ("loop.example/g00748/impl.errInvalid", laid_loop_example_g00748_impl_errInvalid), ("loop.example/g00748/impl.registry", laid_loop_example_g00748_impl_registry)] }
def FnExactEncoderOKSaid : Prop := fnExactEncoderOKRow.holds Tryd.pinned (OpenSpec.ofChange fnExactEncoderOKSpec)

/-- ITS FALSE NEIGHBOUR: 'it returns false'. Refute it at one input. -/
def fnExactEncoderOKWrong : ChangeSpec := { name := "fnExactEncoderOK", vars := ["loop.example/g00748/impl.codeWords", "loop.example/g00748/impl.errInvalid", "loop.example/g00748/impl.errTruncated", "loop.example/g00748/impl.registry"], fn := fun _ => fun
  | [d, g1, g2, g3, g4] => { results := [.lit (.bool false)], args := [d], vars := [g1, g2, g3, g4] }
  | _ => none }
def FnExactEncoderOKWrongFalsely : Prop := fnExactEncoderOKRow.holds Tryd.pinned (OpenSpec.ofChange fnExactEncoderOKWrong)

/-- 'laws.FnExactSameEncoder': WHATEVER THE INPUT: true; the input reads as it did. -/
def fnExactSameEncoderSpec : ChangeSpec := { name := "fnExactSameEncoder", vars := ["loop.example/g00748/impl.codeWords", "loop.example/g00748/impl.errInvalid", "loop.example/g00748/impl.errTruncated", "loop.example/g00748/impl.registry"], fn := fun _ => fun
  | [d1, d2, g1, g2, g3, g4] => { results := [.lit (.bool true)], args := [d1, d2], vars := [g1, g2, g3, g4] }
  | _ => none }
def fnExactSameEncoderRow : OpenClaim := { program := "ytdckjhobikfggaadoor", sum := "6a17171db239d68a72edd49c2acec23e7478ffb82584ae6b94b2e86611770f9c", func := "loop.example/g00748/laws.FnExactSameEncoder", spec := "fnExactSameEncoder", inPlace := ["internal/reflectlite.TypeOf"], unfollowed := true, recurses := true, named := ["loop.example/g00748/impl.codeWords", "loop.example/g00748/impl.errInvalid", "loop.example/g00748/impl.errTruncated", "loop.example/g00748/impl.registry"], ifaces := true, plainKeys := false, apart := false, laid := [("loop.example/g00748/impl.codeWords", laid_loop_example_g00748_impl_codeWords), ("loop.example/g00748/impl.errTruncated", laid_loop_example_g00748_impl_errTruncated), ("loop.example/g00748/impl.errInvalid", laid_loop_example_g00748_impl_errInvalid), ("loop.example/g00748/impl.registry", laid_loop_example_g00748_impl_registry)] }
def FnExactSameEncoderSaid : Prop := fnExactSameEncoderRow.holds Tryd.pinned (OpenSpec.ofChange fnExactSameEncoderSpec)

/-- ITS FALSE NEIGHBOUR: 'it returns false'. Refute it at one input. -/
def fnExactSameEncoderWrong : ChangeSpec := { name := "fnExactSameEncoder", vars := ["loop.example/g00748/impl.codeWords", "loop.example/g00748/impl.errInvalid", "loop.example/g00748/impl.errTruncated", "loop.example/g00748/impl.registry"], fn := fun _ => fun
  | [d1, d2, g1, g2, g3, g4] => { results := [.lit (.bool false)], args := [d1, d2], vars := [g1, g2, g3, g4] }
  | _ => none }
def FnExactSameEncoderWrongFalsely : Prop := fnExactSameEncoderRow.holds Tryd.pinned (OpenSpec.ofChange fnExactSameEncoderWrong)

/- THE SECOND FORM. 'bulk': how many values and letters a reading holds, each counted each time it is reached (what is shared counts as often as it is met; a slice's spare places count too). A statement '..UptoSaid' is the law's where the arguments, and the package variables that the reading takes, are together of bulk at most 1048576: NARROWER than '..Said'. Prove '..Said' where nothing that the law and all that it calls make is longer than what came in: it says more and counts as full. Else prove '..UptoSaid'. A law counts once. -/
mutual
def uptoBulk {H : Type} : DataW H → Nat
  | .lit (.string bytes) => bytes.length + 1
  | .lit _ => 1
  | .nil => 1
  | .ptr d => uptoBulk d + 1
  | .slice elems spare => uptoBulkAll elems + uptoBulkAll spare + 1
  | .agg parts => uptoBulkAll parts + 1
  | .iface _ d => uptoBulk d + 1
  | .map entries => uptoBulkEntries entries + 1
  | .held _ => 1
def uptoBulkAll {H : Type} : List (DataW H) → Nat
  | [] => 0
  | d :: r => uptoBulk d + uptoBulkAll r
def uptoBulkEntries {H : Type} : List (Lit × DataW H) → Nat
  | [] => 0
  | x :: r => uptoBulkEntry x + uptoBulkEntries r
def uptoBulkEntry {H : Type} : Lit × DataW H → Nat
  | (.string bytes, d) => bytes.length + uptoBulk d + 1
  | (_, d) => uptoBulk d + 1
 end
def uptoSmall : (H : Type) → List (DataW H) → Bool := fun _ ds => decide (uptoBulkAll ds ≤ 1048576)
def OpenSpec.upto (s : _root_.Go.ChangeSpec) : _root_.Go.OpenSpec := { _root_.Go.OpenSpec.ofChange s with cond := some uptoSmall }

/-- 'laws.FnUtf', WHERE WHAT IT READS IS OF BULK AT MOST 1048576: true; the input reads as it did. -/
def fnUtfUptoRow : OpenClaim := { program := "ytdckjhobikfggaadoor", sum := "6a17171db239d68a72edd49c2acec23e7478ffb82584ae6b94b2e86611770f9c", func := "loop.example/g00748/laws.FnUtf", spec := "fnUtf", inPlace := ["internal/abi.NoEscape", "internal/reflectlite.ValueOf", "(internal/reflectlite.Value).Type", "(internal/reflectlite.Value).IsNil", "internal/reflectlite.TypeOf", "(internal/reflectlite.Value).Elem", "(internal/reflectlite.Value).Set", "internal/bytealg.IndexByteString"], unfollowed := true, recurses := true, named := ["loop.example/g00748/impl.errInvalid", "loop.example/g00748/impl.errTruncated", "errors.errorType"], ifaces := true, plainKeys := false, apart := false, laid := [("errors.errorType", laid_errors_errorType), ("loop.example/g00748/impl.errTruncated", laid_loop_example_g00748_impl_errTruncated), ("loop.example/g00748/impl.errInvalid", laid_loop_example_g00748_impl_errInvalid)], narrowed := true }
def FnUtfUptoSaid : Prop := fnUtfUptoRow.holds Tryd.pinned (OpenSpec.upto fnUtfSpec)

/-- 'laws.FnExactTakeRune', WHERE WHAT IT READS IS OF BULK AT MOST 1048576: true; the input reads as it did. -/
def fnExactTakeRuneUptoRow : OpenClaim := { program := "ytdckjhobikfggaadoor", sum := "6a17171db239d68a72edd49c2acec23e7478ffb82584ae6b94b2e86611770f9c", func := "loop.example/g00748/laws.FnExactTakeRune", spec := "fnExactTakeRune", inPlace := ["internal/reflectlite.TypeOf"], unfollowed := true, recurses := true, named := ["loop.example/g00748/impl.errInvalid", "loop.example/g00748/impl.errTruncated"], ifaces := true, plainKeys := false, apart := false, laid := [("loop.example/g00748/impl.errTruncated", laid_loop_example_g00748_impl_errTruncated), ("loop.example/g00748/impl.errInvalid", laid_loop_example_g00748_impl_errInvalid)], narrowed := true }
def FnExactTakeRuneUptoSaid : Prop := fnExactTakeRuneUptoRow.holds Tryd.pinned (OpenSpec.upto fnExactTakeRuneSpec)

/-- 'laws.FnExactCloseDecoder', WHERE WHAT IT READS IS OF BULK AT MOST 1048576: true; the input reads as it did. -/
def fnExactCloseDecoderUptoRow : OpenClaim := { program := "ytdckjhobikfggaadoor", sum := "6a17171db239d68a72edd49c2acec23e7478ffb82584ae6b94b2e86611770f9c", func := "loop.example/g00748/laws.FnExactCloseDecoder", spec := "fnExactCloseDecoder", inPlace := ["internal/bytealg.IndexByteString"], named := ["loop.example/g00748/impl.registry", "loop.example/g00748/impl.codeWords"], plainKeys := false, apart := false, laid := [("loop.example/g00748/impl.codeWords", laid_loop_example_g00748_impl_codeWords), ("loop.example/g00748/impl.registry", laid_loop_example_g00748_impl_registry)], narrowed := true }
def FnExactCloseDecoderUptoSaid : Prop := fnExactCloseDecoderUptoRow.holds Tryd.pinned (OpenSpec.upto fnExactCloseDecoderSpec)

/-- 'laws.FnExactEncoderOK', WHERE WHAT IT READS IS OF BULK AT MOST 1048576: true; the input reads as it did. -/
def fnExactEncoderOKUptoRow : OpenClaim := { program := "ytdckjhobikfggaadoor", sum := "6a17171db239d68a72edd49c2acec23e7478ffb82584ae6b94b2e86611770f9c", func := "loop.example/g00748/laws.FnExactEncoderOK", spec := "fnExactEncoderOK", inPlace := ["internal/reflectlite.TypeOf"], unfollowed := true, recurses := true, named := ["loop.example/g00748/impl.codeWords", "loop.example/g00748/impl.errInvalid", "loop.example/g00748/impl.errTruncated", "loop.example/g00748/impl.registry"], ifaces := true, plainKeys := false, apart := false, laid := [("loop.example/g00748/impl.codeWords", laid_loop_example_g00748_impl_codeWords), ("loop.example/g00748/impl.errTruncated", laid_loop_example_g00748_impl_errTruncated), ("loop.example/g00748/impl.errInvalid", laid_loop_example_g00748_impl_errInvalid), ("loop.example/g00748/impl.registry", laid_loop_example_g00748_impl_registry)], narrowed := true }
def FnExactEncoderOKUptoSaid : Prop := fnExactEncoderOKUptoRow.holds Tryd.pinned (OpenSpec.upto fnExactEncoderOKSpec)

/-- 'laws.FnExactSameEncoder', WHERE WHAT IT READS IS OF BULK AT MOST 1048576: true; the input reads as it did. -/
def fnExactSameEncoderUptoRow : OpenClaim := { program := "ytdckjhobikfggaadoor", sum := "6a17171db239d68a72edd49c2acec23e7478ffb82584ae6b94b2e86611770f9c", func := "loop.example/g00748/laws.FnExactSameEncoder", spec := "fnExactSameEncoder", inPlace := ["internal/reflectlite.TypeOf"], unfollowed := true, recurses := true, named := ["loop.example/g00748/impl.codeWords", "loop.example/g00748/impl.errInvalid", "loop.example/g00748/impl.errTruncated", "loop.example/g00748/impl.registry"], ifaces := true, plainKeys := false, apart := false, laid := [("loop.example/g00748/impl.codeWords", laid_loop_example_g00748_impl_codeWords), ("loop.example/g00748/impl.errTruncated", laid_loop_example_g00748_impl_errTruncated), ("loop.example/g00748/impl.errInvalid", laid_loop_example_g00748_impl_errInvalid), ("loop.example/g00748/impl.registry", laid_loop_example_g00748_impl_registry)], narrowed := true }
def FnExactSameEncoderUptoSaid : Prop := fnExactSameEncoderUptoRow.holds Tryd.pinned (OpenSpec.upto fnExactSameEncoderSpec)

end Rows
end Go.Proofs.YtdckjhobikfggaaDoor
