/-
  DERIVED. GIVEN WITH THE SEED: THE CARDS: each row of YtbamjhldebobhaaDoorRows.lean that lists a variable, with what it lists TIED to the program's text (the seventh form; the later family's looks); each row that meets fmt, with fmt's text TOLD by the authors' own Lean function (tested against real Go, not proved from fmt's source: count such statements apart). THE CARD IS WHAT COUNTS. Prove the row's statement (the work); the ties are given (YtbamjhldebobhaaDoorTie.lean); close each card by the builder's one call (the guide's Derived/Test/ToyasCard.lean, 'card_holds'). Laid BY PROGRAM, IN A SANDBOX (cutbox-door.mjs). By AI agents, Wed Nov 11 2026. No macro, syntax, notation, axiom, sorry.
-/
import Derived.Test.YtbamjhldebobhaaDoorRows
import GoSem.ClaimSeven
namespace Go.Proofs.YtbamjhldebobhaaDoor
namespace Rows

/-- THE TIED CARD OF 'laws.FnMachine'. -/
def fnMachineCard : Claim7 := { stood := { row := fnMachineRow, standIns := [], harness := (true, "f9c2c8f86937ff25a8bb8c072748415e3394b49748979dbfc9594c7292962a8c"), looks := false }, kinds := [], alts := [], laidByText := true, laidKinds := [.data], laidTests := true, laidLooks := .later }
def FnMachineCardSaid : Prop := Claim7.holds Tryd.pinned (.plain (OpenSpec.ofChange fnMachineSpec)) fnMachineCard

/-- THE SECOND FORM's CARD OF 'laws.FnMachine'. -/
def fnMachineUptoCard : Claim7 := { stood := { row := fnMachineUptoRow, standIns := [], harness := (true, "f9c2c8f86937ff25a8bb8c072748415e3394b49748979dbfc9594c7292962a8c"), looks := false }, kinds := [], alts := [], laidByText := true, laidKinds := [.data], laidTests := true, laidLooks := .later }
def FnMachineUptoCardSaid : Prop := Claim7.holds Tryd.pinned (.plain (OpenSpec.upto fnMachineSpec)) fnMachineUptoCard
end Rows
end Go.Proofs.YtbamjhldebobhaaDoor
