/-
  NARROWER THAN 'FOR EVERY INPUT', by the rows' own cells (each row's printed sentence says how): FnUtf: ifaces, laid · FnExactCodeWord: laid · FnExactCodeOf: laid · FnExactTakeRune: ifaces, laid · FnExactRunesOf: ifaces, laid.
  DERIVED. THE GIVEN ROWS OF THIS SEAT. 5 by the template 'for every input the law returns true; each argument reads behind the call as it read before'; 0 by the template 'total and deterministic' (their statements: YtdegpogjenfpaaaDoorTotals.lean).
  GIVEN WITH THE SEED: the statements are not yours to turn. If you find one false, say at which input.
  Laid BY PROGRAM, IN A SANDBOX (cutbox-rows.mjs): the forced cells as the released guide's own fill.sh prints them over the translation 94a424a65321cefc… (all of the seat's roots in one cut). By AI agents, Wed Nov 11 2026. No macro, syntax, notation, axiom, sorry.
-/
import Derived.Test.YtdegpogjenfpaaaDoorChecked
import GoSem.Claim
import GoSem.ClaimJoined
import GoSem.ClaimMapViews
import Derived.JoinedTies
import Derived.KernelRfl
namespace Go.Proofs.YtdegpogjenfpaaaDoor
/- THE CELL 'sum', in the pinned program and in every row, IS THE sha256 OF THE DUMP (.gsa) THAT YtdegpogjenfpaaaDoorProg.lean LOADS. Nothing in Lean hashes anything: it is a label: what it is worth is what the hold of that sum in a sandbox is worth. -/
noncomputable def Tryd.pinned : Pinned := { name := "ytdegpogjenfpaaadoor", sum := "94a424a65321cefc64109c4677ac9e2c87d26f1b019e4917d3913f36d95b1675", checked := Tryd.checked }
namespace Rows
def none {H : Type} : Left H := { results := [], args := [] }

/- WHAT THE LISTED PACKAGE-LEVEL VARIABLES READ AS WHEN THE CALL BEGINS. Each datum BY PROGRAM (the guide's laid-datum.mjs) off the statement by which the dump's own 'gosem.cut.vars' lays the variable. In a bare row this is a premise. The card (YtdegpogjenfpaaaDoorCards.lean) ties it to the program's text. -/
def laid_errors_errorType {H : Type} : DataW H := .iface "internal/reflectlite.rtype" (.agg [.ptr (.lit (.string [101, 114, 114, 111, 114]))])
def laid_loop_example_g00748_impl_errTruncated {H : Type} : DataW H := .iface "*errors.errorString" (.ptr (.agg [.lit (.string [116, 114, 117, 110, 99, 97, 116, 101, 100, 32, 85, 84, 70, 45, 56, 32, 115, 101, 113, 117, 101, 110, 99, 101])]))
def laid_loop_example_g00748_impl_errInvalid {H : Type} : DataW H := .iface "*errors.errorString" (.ptr (.agg [.lit (.string [105, 110, 118, 97, 108, 105, 100, 32, 85, 84, 70, 45, 56, 32, 115, 101, 113, 117, 101, 110, 99, 101])]))
def laid_loop_example_g00748_impl_codeWords {H : Type} : DataW H := .agg [.lit (.string [111, 107]), .lit (.string [98, 97, 100]), .lit (.string [108, 111, 110, 103]), .lit (.string [102, 111, 114, 109]), .lit (.string [114, 97, 110, 103, 101]), .lit (.string [110, 111, 110, 101]), .lit (.string [109, 97, 110, 121]), .lit (.string [102, 117, 108, 108]), .lit (.string [115, 105, 122, 101]), .lit (.string [107, 105, 110, 100]), .lit (.string [101, 115, 99, 97, 112, 101]), .lit (.string [102, 111, 114, 98, 105, 100, 100, 101, 110]), .lit (.string [117, 110, 109, 97, 112, 112, 101, 100]), .lit (.string [115, 104, 111, 114, 116]), .lit (.string [114, 101, 115, 101, 116]), .lit (.string [104, 101, 97, 100, 101, 114]), .lit (.string [117, 116, 102]), .lit (.string [115, 116, 97, 116, 101]), .lit (.string [115, 97, 109, 101])]

/-- 'laws.FnUtf': WHATEVER THE INPUT: true; the input reads as it did. -/
def fnUtfSpec : ChangeSpec := { name := "fnUtf", vars := ["loop.example/g00748/impl.errInvalid", "loop.example/g00748/impl.errTruncated"], fn := fun _ => fun
  | [d1, d2, g1, g2] => { results := [.lit (.bool true)], args := [d1, d2], vars := [g1, g2] }
  | _ => none }
def fnUtfRow : OpenClaim := { program := "ytdegpogjenfpaaadoor", sum := "94a424a65321cefc64109c4677ac9e2c87d26f1b019e4917d3913f36d95b1675", func := "loop.example/g00748/laws.FnUtf", spec := "fnUtf", inPlace := ["internal/abi.NoEscape", "internal/reflectlite.ValueOf", "(internal/reflectlite.Value).Type", "(internal/reflectlite.Value).IsNil", "internal/reflectlite.TypeOf", "(internal/reflectlite.Value).Elem", "(internal/reflectlite.Value).Set", "internal/bytealg.IndexByteString"], unfollowed := true, recurses := true, named := ["loop.example/g00748/impl.errInvalid", "loop.example/g00748/impl.errTruncated", "errors.errorType"], ifaces := true, apart := false, laid := [("errors.errorType", laid_errors_errorType), ("loop.example/g00748/impl.errTruncated", laid_loop_example_g00748_impl_errTruncated), ("loop.example/g00748/impl.errInvalid", laid_loop_example_g00748_impl_errInvalid)] }
def FnUtfSaid : Prop := fnUtfRow.holds Tryd.pinned (OpenSpec.ofChange fnUtfSpec)

/-- ITS FALSE NEIGHBOUR: 'it returns false'. Refute it at one input. -/
def fnUtfWrong : ChangeSpec := { name := "fnUtf", vars := ["loop.example/g00748/impl.errInvalid", "loop.example/g00748/impl.errTruncated"], fn := fun _ => fun
  | [d1, d2, g1, g2] => { results := [.lit (.bool false)], args := [d1, d2], vars := [g1, g2] }
  | _ => none }
def FnUtfWrongFalsely : Prop := fnUtfRow.holds Tryd.pinned (OpenSpec.ofChange fnUtfWrong)

/-- 'laws.FnExactCodeWord': WHATEVER THE INPUT: true; the input reads as it did. -/
def fnExactCodeWordSpec : ChangeSpec := { name := "fnExactCodeWord", vars := ["loop.example/g00748/impl.codeWords"], fn := fun _ => fun
  | [d, g1] => { results := [.lit (.bool true)], args := [d], vars := [g1] }
  | _ => none }
def fnExactCodeWordRow : OpenClaim := { program := "ytdegpogjenfpaaadoor", sum := "94a424a65321cefc64109c4677ac9e2c87d26f1b019e4917d3913f36d95b1675", func := "loop.example/g00748/laws.FnExactCodeWord", spec := "fnExactCodeWord", named := ["loop.example/g00748/impl.codeWords"], apart := false, laid := [("loop.example/g00748/impl.codeWords", laid_loop_example_g00748_impl_codeWords)] }
def FnExactCodeWordSaid : Prop := fnExactCodeWordRow.holds Tryd.pinned (OpenSpec.ofChange fnExactCodeWordSpec)

/-- ITS FALSE NEIGHBOUR: 'it returns false'. Refute it at one input. -/
def fnExactCodeWordWrong : ChangeSpec := { name := "fnExactCodeWord", vars := ["loop.example/g00748/impl.codeWords"], fn := fun _ => fun
  | [d, g1] => { results := [.lit (.bool false)], args := [d], vars := [g1] }
  | _ => none }
def FnExactCodeWordWrongFalsely : Prop := fnExactCodeWordRow.holds Tryd.pinned (OpenSpec.ofChange fnExactCodeWordWrong)

/-- 'laws.FnExactCodeOf': WHATEVER THE INPUT: true; the input reads as it did. -/
def fnExactCodeOfSpec : ChangeSpec := { name := "fnExactCodeOf", vars := ["loop.example/g00748/impl.codeWords"], fn := fun _ => fun
  | [d, g1] => { results := [.lit (.bool true)], args := [d], vars := [g1] }
  | _ => none }
def fnExactCodeOfRow : OpenClaim := { program := "ytdegpogjenfpaaadoor", sum := "94a424a65321cefc64109c4677ac9e2c87d26f1b019e4917d3913f36d95b1675", func := "loop.example/g00748/laws.FnExactCodeOf", spec := "fnExactCodeOf", named := ["loop.example/g00748/impl.codeWords"], apart := false, laid := [("loop.example/g00748/impl.codeWords", laid_loop_example_g00748_impl_codeWords)] }
def FnExactCodeOfSaid : Prop := fnExactCodeOfRow.holds Tryd.pinned (OpenSpec.ofChange fnExactCodeOfSpec)

/-- ITS FALSE NEIGHBOUR: 'it returns false'. Refute it at one input. -/
def fnExactCodeOfWrong : ChangeSpec := { name := "fnExactCodeOf", vars := ["loop.example/g00748/impl.codeWords"], fn := fun _ => fun
  | [d, g1] => { results := [.lit (.bool false)], args := [d], vars := [g1] }
  | _ => none }
def FnExactCodeOfWrongFalsely : Prop := fnExactCodeOfRow.holds Tryd.pinned (OpenSpec.ofChange fnExactCodeOfWrong)

/-- 'laws.FnExactTakeRune': WHATEVER THE INPUT: true; the input reads as it did. -/
def fnExactTakeRuneSpec : ChangeSpec := { name := "fnExactTakeRune", vars := ["loop.example/g00748/impl.errInvalid", "loop.example/g00748/impl.errTruncated"], fn := fun _ => fun
  | [d1, d2, g1, g2] => { results := [.lit (.bool true)], args := [d1, d2], vars := [g1, g2] }
  | _ => none }
def fnExactTakeRuneRow : OpenClaim := { program := "ytdegpogjenfpaaadoor", sum := "94a424a65321cefc64109c4677ac9e2c87d26f1b019e4917d3913f36d95b1675", func := "loop.example/g00748/laws.FnExactTakeRune", spec := "fnExactTakeRune", inPlace := ["internal/reflectlite.TypeOf"], unfollowed := true, recurses := true, named := ["loop.example/g00748/impl.errInvalid", "loop.example/g00748/impl.errTruncated"], ifaces := true, apart := false, laid := [("loop.example/g00748/impl.errTruncated", laid_loop_example_g00748_impl_errTruncated), ("loop.example/g00748/impl.errInvalid", laid_loop_example_g00748_impl_errInvalid)] }
def FnExactTakeRuneSaid : Prop := fnExactTakeRuneRow.holds Tryd.pinned (OpenSpec.ofChange fnExactTakeRuneSpec)

/-- ITS FALSE NEIGHBOUR: 'it returns false'. Refute it at one input. -/
def fnExactTakeRuneWrong : ChangeSpec := { name := "fnExactTakeRune", vars := ["loop.example/g00748/impl.errInvalid", "loop.example/g00748/impl.errTruncated"], fn := fun _ => fun
  | [d1, d2, g1, g2] => { results := [.lit (.bool false)], args := [d1, d2], vars := [g1, g2] }
  | _ => none }
def FnExactTakeRuneWrongFalsely : Prop := fnExactTakeRuneRow.holds Tryd.pinned (OpenSpec.ofChange fnExactTakeRuneWrong)

/-- 'laws.FnExactRunesOf': WHATEVER THE INPUT: true; the input reads as it did. -/
def fnExactRunesOfSpec : ChangeSpec := { name := "fnExactRunesOf", vars := ["loop.example/g00748/impl.errInvalid", "loop.example/g00748/impl.errTruncated"], fn := fun _ => fun
  | [d, g1, g2] => { results := [.lit (.bool true)], args := [d], vars := [g1, g2] }
  | _ => none }
def fnExactRunesOfRow : OpenClaim := { program := "ytdegpogjenfpaaadoor", sum := "94a424a65321cefc64109c4677ac9e2c87d26f1b019e4917d3913f36d95b1675", func := "loop.example/g00748/laws.FnExactRunesOf", spec := "fnExactRunesOf", inPlace := ["internal/reflectlite.ValueOf", "(internal/reflectlite.Value).Type", "(internal/reflectlite.Value).IsNil", "internal/reflectlite.TypeOf", "(internal/reflectlite.Value).Elem", "(internal/reflectlite.Value).Set"], unfollowed := true, recurses := true, named := ["loop.example/g00748/impl.errInvalid", "loop.example/g00748/impl.errTruncated", "errors.errorType"], ifaces := true, apart := false, laid := [("errors.errorType", laid_errors_errorType), ("loop.example/g00748/impl.errTruncated", laid_loop_example_g00748_impl_errTruncated), ("loop.example/g00748/impl.errInvalid", laid_loop_example_g00748_impl_errInvalid)] }
def FnExactRunesOfSaid : Prop := fnExactRunesOfRow.holds Tryd.pinned (OpenSpec.ofChange fnExactRunesOfSpec)

/-- ITS FALSE NEIGHBOUR: 'it returns false'. Refute it at one input. -/
def fnExactRunesOfWrong : ChangeSpec := { name := "fnExactRunesOf", vars := ["loop.example/g00748/impl.errInvalid", "loop.example/g00748/impl.errTruncated"], fn := fun _ => fun
  | [d, g1, g2] => { results := [.lit (.bool false)], args := [d], vars := [g1, g2] }
  | _ => none }
def FnExactRunesOfWrongFalsely : Prop := fnExactRunesOfRow.holds Tryd.pinned (OpenSpec.ofChange fnExactRunesOfWrong)

/- THE SECOND FORM. 'bulk': how many values and letters a reading holds, each counted each time it is reached (what is shared counts as often as it is met; a slice's spare places count too). A statement '..UptoSaid' is the law's where the arguments, and the package variables that the reading takes, are together of bulk at most 1048576: NARROWER than '..Said'. Prove '..Said' where nothing that the law and all that it calls make is longer than what came in: it says more and counts as full. Else prove '..UptoSaid'. A law counts once. -/
mutual
def uptoBulk {H : Type} : DataW H → Nat
  | .lit (.string bytes) => bytes.length + 1
  | .lit _ => 1
  | .nil => 1
  | .ptr d => uptoBulk d + 1
  | .slice elems spare => uptoBulkAll elems + uptoBulkAll spare + 1
  | .agg parts => uptoBulkAll parts + 1
  | .iface _ d => uptoBulk d + 1
  | .map entries => uptoBulkEntries entries + 1
  | .held _ => 1
def uptoBulkAll {H : Type} : List (DataW H) → Nat
  | [] => 0
  | d :: r => uptoBulk d + uptoBulkAll r
def uptoBulkEntries {H : Type} : List (Lit × DataW H) → Nat
  | [] => 0
  | x :: r => uptoBulkEntry x + uptoBulkEntries r
def uptoBulkEntry {H : Type} : Lit × DataW H → Nat
  | (.string bytes, d) => bytes.length + uptoBulk d + 1
  | (_, d) => uptoBulk d + 1
 end
def uptoSmall : (H : Type) → List (DataW H) → Bool := fun _ ds => decide (uptoBulkAll ds ≤ 1048576)
def OpenSpec.upto (s : _root_.Go.ChangeSpec) : _root_.Go.OpenSpec := { _root_.Go.OpenSpec.ofChange s with cond := some uptoSmall }

/-- 'laws.FnUtf', WHERE WHAT IT READS IS OF BULK AT MOST 1048576: true; the input reads as it did. -/
def fnUtfUptoRow : OpenClaim := { program := "ytdegpogjenfpaaadoor", sum := "94a424a65321cefc64109c4677ac9e2c87d26f1b019e4917d3913f36d95b1675", func := "loop.example/g00748/laws.FnUtf", spec := "fnUtf", inPlace := ["internal/abi.NoEscape", "internal/reflectlite.ValueOf", "(internal/reflectlite.Value).Type", "(internal/reflectlite.Value).IsNil", "internal/reflectlite.TypeOf", "(internal/reflectlite.Value).Elem", "(internal/reflectlite.Value).Set", "internal/bytealg.IndexByteString"], unfollowed := true, recurses := true, named := ["loop.example/g00748/impl.errInvalid", "loop.example/g00748/impl.errTruncated", "errors.errorType"], ifaces := true, apart := false, laid := [("errors.errorType", laid_errors_errorType), ("loop.example/g00748/impl.errTruncated", laid_loop_example_g00748_impl_errTruncated), ("loop.example/g00748/impl.errInvalid", laid_loop_example_g00748_impl_errInvalid)], narrowed := true }
def FnUtfUptoSaid : Prop := fnUtfUptoRow.holds Tryd.pinned (OpenSpec.upto fnUtfSpec)

/-- 'laws.FnExactCodeWord', WHERE WHAT IT READS IS OF BULK AT MOST 1048576: true; the input reads as it did. -/
def fnExactCodeWordUptoRow : OpenClaim := { program := "ytdegpogjenfpaaadoor", sum := "94a424a65321cefc64109c4677ac9e2c87d26f1b019e4917d3913f36d95b1675", func := "loop.example/g00748/laws.FnExactCodeWord", spec := "fnExactCodeWord", named := ["loop.example/g00748/impl.codeWords"], apart := false, laid := [("loop.example/g00748/impl.codeWords", laid_loop_example_g00748_impl_codeWords)], narrowed := true }
def FnExactCodeWordUptoSaid : Prop := fnExactCodeWordUptoRow.holds Tryd.pinned (OpenSpec.upto fnExactCodeWordSpec)

/-- 'laws.FnExactCodeOf', WHERE WHAT IT READS IS OF BULK AT MOST 1048576: true; the input reads as it did. -/
def fnExactCodeOfUptoRow : OpenClaim := { program := "ytdegpogjenfpaaadoor", sum := "94a424a65321cefc64109c4677ac9e2c87d26f1b019e4917d3913f36d95b1675", func := "loop.example/g00748/laws.FnExactCodeOf", spec := "fnExactCodeOf", named := ["loop.example/g00748/impl.codeWords"], apart := false, laid := [("loop.example/g00748/impl.codeWords", laid_loop_example_g00748_impl_codeWords)], narrowed := true }
def FnExactCodeOfUptoSaid : Prop := fnExactCodeOfUptoRow.holds Tryd.pinned (OpenSpec.upto fnExactCodeOfSpec)

/-- 'laws.FnExactTakeRune', WHERE WHAT IT READS IS OF BULK AT MOST 1048576: true; the input reads as it did. -/
def fnExactTakeRuneUptoRow : OpenClaim := { program := "ytdegpogjenfpaaadoor", sum := "94a424a65321cefc64109c4677ac9e2c87d26f1b019e4917d3913f36d95b1675", func := "loop.example/g00748/laws.FnExactTakeRune", spec := "fnExactTakeRune", inPlace := ["internal/reflectlite.TypeOf"], unfollowed := true, recurses := true, named := ["loop.example/g00748/impl.errInvalid", "loop.example/g00748/impl.errTruncated"], ifaces := true, apart := false, laid := [("loop.example/g00748/impl.errTruncated", laid_loop_example_g00748_impl_errTruncated), ("loop.example/g00748/impl.errInvalid", laid_loop_example_g00748_impl_errInvalid)], narrowed := true }
def FnExactTakeRuneUptoSaid : Prop := fnExactTakeRuneUptoRow.holds Tryd.pinned (OpenSpec.upto fnExactTakeRuneSpec)

/-- 'laws.FnExactRunesOf', WHERE WHAT IT READS IS OF BULK AT MOST 1048576: true; the input reads as it did. -/
def fnExactRunesOfUptoRow : OpenClaim := { program := "ytdegpogjenfpaaadoor", sum := "94a424a65321cefc64109c4677ac9e2c87d26f1b019e4917d3913f36d95b1675", func := "loop.example/g00748/laws.FnExactRunesOf", spec := "fnExactRunesOf", inPlace := ["internal/reflectlite.ValueOf", "(internal/reflectlite.Value).Type", "(internal/reflectlite.Value).IsNil", "internal/reflectlite.TypeOf", "(internal/reflectlite.Value).Elem", "(internal/reflectlite.Value).Set"], unfollowed := true, recurses := true, named := ["loop.example/g00748/impl.errInvalid", "loop.example/g00748/impl.errTruncated", "errors.errorType"], ifaces := true, apart := false, laid := [("errors.errorType", laid_errors_errorType), ("loop.example/g00748/impl.errTruncated", laid_loop_example_g00748_impl_errTruncated), ("loop.example/g00748/impl.errInvalid", laid_loop_example_g00748_impl_errInvalid)], narrowed := true }
def FnExactRunesOfUptoSaid : Prop := fnExactRunesOfUptoRow.holds Tryd.pinned (OpenSpec.upto fnExactRunesOfSpec)

end Rows
end Go.Proofs.YtdegpogjenfpaaaDoor
