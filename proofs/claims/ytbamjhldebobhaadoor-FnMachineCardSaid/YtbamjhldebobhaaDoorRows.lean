/-
  NARROWER THAN 'FOR EVERY INPUT', by the rows' own cells (each row's printed sentence says how): FnMachine: laid.
  DERIVED. THE GIVEN ROWS OF THIS SEAT. 1 by the template 'for every input the law returns true; each argument reads behind the call as it read before'; 0 by the template 'total and deterministic' (their statements: YtbamjhldebobhaaDoorTotals.lean).
  GIVEN WITH THE SEED: the statements are not yours to turn. If you find one false, say at which input.
  Laid BY PROGRAM, IN A SANDBOX (cutbox-rows.mjs): the forced cells as the released guide's own fill.sh prints them over the translation 19a1266155ecb01b… (all of the seat's roots in one cut). By AI agents, Wed Nov 11 2026. No macro, syntax, notation, axiom, sorry.
-/
import Derived.Test.YtbamjhldebobhaaDoorChecked
import GoSem.Claim
import GoSem.ClaimJoined
import GoSem.ClaimMapViews
import Derived.JoinedTies
import Derived.KernelRfl
namespace Go.Proofs.YtbamjhldebobhaaDoor
/- THE CELL 'sum', in the pinned program and in every row, IS THE sha256 OF THE DUMP (.gsa) THAT YtbamjhldebobhaaDoorProg.lean LOADS. Nothing in Lean hashes anything: it is a label: what it is worth is what the hold of that sum in a sandbox is worth. -/
noncomputable def Tryd.pinned : Pinned := { name := "ytbamjhldebobhaadoor", sum := "19a1266155ecb01b5578346d11a039b224dc23f4e5f17cec6f43966c806f1a8c", checked := Tryd.checked }
namespace Rows
def none {H : Type} : Left H := { results := [], args := [] }

/- WHAT THE LISTED PACKAGE-LEVEL VARIABLES READ AS WHEN THE CALL BEGINS. Each datum BY PROGRAM (the guide's laid-datum.mjs) off the statement by which the dump's own 'gosem.cut.vars' lays the variable. In a bare row this is a premise. The card (YtbamjhldebobhaaDoorCards.lean) ties it to the program's text. -/
def laid_loop_example_g00748_impl_registry {H : Type} : DataW H := .agg [.agg [.lit (.string []), .lit (.int .i64 0), .lit (.int .i64 0), .nil], .agg [.lit (.string [97, 115, 99, 105, 105]), .lit (.int .i64 1), .lit (.int .i64 66), .slice [.agg [.lit (.int .i64 33), .lit (.int .i64 33), .lit (.int .i64 94)]] []], .agg [.lit (.string [114, 111, 109, 97, 110]), .lit (.int .i64 1), .lit (.int .i64 74), .slice [.agg [.lit (.int .i64 33), .lit (.int .i64 33), .lit (.int .i64 59)], .agg [.lit (.int .i64 92), .lit (.int .i64 165), .lit (.int .i64 1)], .agg [.lit (.int .i64 93), .lit (.int .i64 93), .lit (.int .i64 33)], .agg [.lit (.int .i64 126), .lit (.int .i64 8254), .lit (.int .i64 1)]] []], .agg [.lit (.string [107, 97, 110, 97]), .lit (.int .i64 1), .lit (.int .i64 73), .slice [.agg [.lit (.int .i64 33), .lit (.int .i64 65377), .lit (.int .i64 63)]] []], .agg [.lit (.string [108, 97, 116, 105, 110]), .lit (.int .i64 2), .lit (.int .i64 65), .slice [.agg [.lit (.int .i64 32), .lit (.int .i64 160), .lit (.int .i64 96)]] []], .agg [.lit (.string [103, 114, 101, 101, 107]), .lit (.int .i64 2), .lit (.int .i64 70), .slice [.agg [.lit (.int .i64 32), .lit (.int .i64 160), .lit (.int .i64 1)], .agg [.lit (.int .i64 65), .lit (.int .i64 913), .lit (.int .i64 17)], .agg [.lit (.int .i64 83), .lit (.int .i64 931), .lit (.int .i64 7)], .agg [.lit (.int .i64 97), .lit (.int .i64 945), .lit (.int .i64 25)]] []], .agg [.lit (.string [107, 97, 110, 106, 105]), .lit (.int .i64 3), .lit (.int .i64 66), .slice [.agg [.lit (.int .i64 8993), .lit (.int .i64 65296), .lit (.int .i64 10)], .agg [.lit (.int .i64 9249), .lit (.int .i64 12353), .lit (.int .i64 83)], .agg [.lit (.int .i64 9505), .lit (.int .i64 12449), .lit (.int .i64 86)], .agg [.lit (.int .i64 12321), .lit (.int .i64 19968), .lit (.int .i64 94)]] []], .agg [.lit (.string [104, 97, 110, 103, 117, 108]), .lit (.int .i64 3), .lit (.int .i64 67), .slice [.agg [.lit (.int .i64 9249), .lit (.int .i64 12353), .lit (.int .i64 83)], .agg [.lit (.int .i64 12321), .lit (.int .i64 44032), .lit (.int .i64 94)], .agg [.lit (.int .i64 12577), .lit (.int .i64 44126), .lit (.int .i64 94)]] []], .agg [.lit (.string [104, 97, 110, 122, 105]), .lit (.int .i64 3), .lit (.int .i64 65), .slice [.agg [.lit (.int .i64 9249), .lit (.int .i64 12353), .lit (.int .i64 83)], .agg [.lit (.int .i64 9505), .lit (.int .i64 12449), .lit (.int .i64 86)], .agg [.lit (.int .i64 12321), .lit (.int .i64 19998), .lit (.int .i64 94)]] []]]

/-- 'laws.FnMachine': WHATEVER THE INPUT: true; the input reads as it did. -/
def fnMachineSpec : ChangeSpec := { name := "fnMachine", vars := ["loop.example/g00748/impl.registry"], fn := fun _ => fun
  | [d1, d2, g1] => { results := [.lit (.bool true)], args := [d1, d2], vars := [g1] }
  | _ => none }
def fnMachineRow : OpenClaim := { program := "ytbamjhldebobhaadoor", sum := "19a1266155ecb01b5578346d11a039b224dc23f4e5f17cec6f43966c806f1a8c", func := "loop.example/g00748/laws.FnMachine", spec := "fnMachine", inPlace := ["internal/bytealg.IndexByteString"], named := ["loop.example/g00748/impl.registry"], apart := false, laid := [("loop.example/g00748/impl.registry", laid_loop_example_g00748_impl_registry)] }
def FnMachineSaid : Prop := fnMachineRow.holds Tryd.pinned (OpenSpec.ofChange fnMachineSpec)

/-- ITS FALSE NEIGHBOUR: 'it returns false'. Refute it at one input. -/
def fnMachineWrong : ChangeSpec := { name := "fnMachine", vars := ["loop.example/g00748/impl.registry"], fn := fun _ => fun
  | [d1, d2, g1] => { results := [.lit (.bool false)], args := [d1, d2], vars := [g1] }
  | _ => none }
def FnMachineWrongFalsely : Prop := fnMachineRow.holds Tryd.pinned (OpenSpec.ofChange fnMachineWrong)

/- THE SECOND FORM. 'bulk': how many values and letters a reading holds, each counted each time it is reached (what is shared counts as often as it is met; a slice's spare places count too). A statement '..UptoSaid' is the law's where the arguments, and the package variables that the reading takes, are together of bulk at most 1048576: NARROWER than '..Said'. Prove '..Said' where nothing that the law and all that it calls make is longer than what came in: it says more and counts as full. Else prove '..UptoSaid'. A law counts once. -/
mutual
def uptoBulk {H : Type} : DataW H → Nat
  | .lit (.string bytes) => bytes.length + 1
  | .lit _ => 1
  | .nil => 1
  | .ptr d => uptoBulk d + 1
  | .slice elems spare => uptoBulkAll elems + uptoBulkAll spare + 1
  | .agg parts => uptoBulkAll parts + 1
  | .iface _ d => uptoBulk d + 1
  | .map entries => uptoBulkEntries entries + 1
  | .held _ => 1
def uptoBulkAll {H : Type} : List (DataW H) → Nat
  | [] => 0
  | d :: r => uptoBulk d + uptoBulkAll r
def uptoBulkEntries {H : Type} : List (Lit × DataW H) → Nat
  | [] => 0
  | x :: r => uptoBulkEntry x + uptoBulkEntries r
def uptoBulkEntry {H : Type} : Lit × DataW H → Nat
  | (.string bytes, d) => bytes.length + uptoBulk d + 1
  | (_, d) => uptoBulk d + 1
 end
def uptoSmall : (H : Type) → List (DataW H) → Bool := fun _ ds => decide (uptoBulkAll ds ≤ 1048576)
def OpenSpec.upto (s : _root_.Go.ChangeSpec) : _root_.Go.OpenSpec := { _root_.Go.OpenSpec.ofChange s with cond := some uptoSmall }

/-- 'laws.FnMachine', WHERE WHAT IT READS IS OF BULK AT MOST 1048576: true; the input reads as it did. -/
def fnMachineUptoRow : OpenClaim := { program := "ytbamjhldebobhaadoor", sum := "19a1266155ecb01b5578346d11a039b224dc23f4e5f17cec6f43966c806f1a8c", func := "loop.example/g00748/laws.FnMachine", spec := "fnMachine", inPlace := ["internal/bytealg.IndexByteString"], named := ["loop.example/g00748/impl.registry"], apart := false, laid := [("loop.example/g00748/impl.registry", laid_loop_example_g00748_impl_registry)], narrowed := true }
def FnMachineUptoSaid : Prop := fnMachineUptoRow.holds Tryd.pinned (OpenSpec.upto fnMachineSpec)

end Rows
end Go.Proofs.YtbamjhldebobhaaDoor
