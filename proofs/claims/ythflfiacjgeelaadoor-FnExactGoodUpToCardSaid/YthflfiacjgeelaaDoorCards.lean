/-
  DERIVED. GIVEN WITH THE SEED: THE CARDS: each row of YthflfiacjgeelaaDoorRows.lean that lists a variable, with what it lists TIED to the program's text (the seventh form; the later family's looks); each row that meets fmt, with fmt's text TOLD by the authors' own Lean function (tested against real Go, not proved from fmt's source: count such statements apart). THE CARD IS WHAT COUNTS. Prove the row's statement (the work); the ties are given (YthflfiacjgeelaaDoorTie.lean); close each card by the builder's one call (the guide's Derived/Test/ToyasCard.lean, 'card_holds'). Laid BY PROGRAM, IN A SANDBOX (cutbox-door.mjs). By AI agents, Wed Nov 11 2026. No macro, syntax, notation, axiom, sorry.
-/
import Derived.Test.YthflfiacjgeelaaDoorRows
import GoSem.ClaimSeven
namespace Go.Proofs.YthflfiacjgeelaaDoor
namespace Rows

/-- THE TIED CARD OF 'laws.FnMachine'. -/
def fnMachineCard : Claim7 := { stood := { row := fnMachineRow, standIns := [], harness := (true, "3f0703ea7275109918fb4be10b97e6a7f471afd63d7efcccf27d34d6c49cc147"), looks := true }, kinds := [], alts := [], laidByText := true, laidKinds := [.data], laidTests := true, laidLooks := .later }
def FnMachineCardSaid : Prop := Claim7.holds Tryd.pinned (.plain (OpenSpec.ofChange fnMachineSpec)) fnMachineCard

/-- THE TIED CARD OF 'laws.FnExactDecodeLoose'. -/
def fnExactDecodeLooseCard : Claim7 := { stood := { row := fnExactDecodeLooseRow, standIns := [], harness := (true, "3f0703ea7275109918fb4be10b97e6a7f471afd63d7efcccf27d34d6c49cc147"), looks := true }, kinds := [], alts := [], laidByText := true, laidKinds := [.data], laidTests := true, laidLooks := .later }
def FnExactDecodeLooseCardSaid : Prop := Claim7.holds Tryd.pinned (.plain (OpenSpec.ofChange fnExactDecodeLooseSpec)) fnExactDecodeLooseCard

/-- THE TIED CARD OF 'laws.FnExactValidText'. -/
def fnExactValidTextCard : Claim7 := { stood := { row := fnExactValidTextRow, standIns := [], harness := (true, "3f0703ea7275109918fb4be10b97e6a7f471afd63d7efcccf27d34d6c49cc147"), looks := true }, kinds := [], alts := [], laidByText := true, laidKinds := [.data], laidTests := true, laidLooks := .later }
def FnExactValidTextCardSaid : Prop := Claim7.holds Tryd.pinned (.plain (OpenSpec.ofChange fnExactValidTextSpec)) fnExactValidTextCard

/-- THE TIED CARD OF 'laws.FnExactGoodUpTo'. -/
def fnExactGoodUpToCard : Claim7 := { stood := { row := fnExactGoodUpToRow, standIns := [], harness := (true, "3f0703ea7275109918fb4be10b97e6a7f471afd63d7efcccf27d34d6c49cc147"), looks := true }, kinds := [], alts := [], laidByText := true, laidKinds := [.data], laidTests := true, laidLooks := .later }
def FnExactGoodUpToCardSaid : Prop := Claim7.holds Tryd.pinned (.plain (OpenSpec.ofChange fnExactGoodUpToSpec)) fnExactGoodUpToCard

/-- THE SECOND FORM's CARD OF 'laws.FnMachine'. -/
def fnMachineUptoCard : Claim7 := { stood := { row := fnMachineUptoRow, standIns := [], harness := (true, "3f0703ea7275109918fb4be10b97e6a7f471afd63d7efcccf27d34d6c49cc147"), looks := true }, kinds := [], alts := [], laidByText := true, laidKinds := [.data], laidTests := true, laidLooks := .later }
def FnMachineUptoCardSaid : Prop := Claim7.holds Tryd.pinned (.plain (OpenSpec.upto fnMachineSpec)) fnMachineUptoCard

/-- THE SECOND FORM's CARD OF 'laws.FnExactDecodeLoose'. -/
def fnExactDecodeLooseUptoCard : Claim7 := { stood := { row := fnExactDecodeLooseUptoRow, standIns := [], harness := (true, "3f0703ea7275109918fb4be10b97e6a7f471afd63d7efcccf27d34d6c49cc147"), looks := true }, kinds := [], alts := [], laidByText := true, laidKinds := [.data], laidTests := true, laidLooks := .later }
def FnExactDecodeLooseUptoCardSaid : Prop := Claim7.holds Tryd.pinned (.plain (OpenSpec.upto fnExactDecodeLooseSpec)) fnExactDecodeLooseUptoCard

/-- THE SECOND FORM's CARD OF 'laws.FnExactValidText'. -/
def fnExactValidTextUptoCard : Claim7 := { stood := { row := fnExactValidTextUptoRow, standIns := [], harness := (true, "3f0703ea7275109918fb4be10b97e6a7f471afd63d7efcccf27d34d6c49cc147"), looks := true }, kinds := [], alts := [], laidByText := true, laidKinds := [.data], laidTests := true, laidLooks := .later }
def FnExactValidTextUptoCardSaid : Prop := Claim7.holds Tryd.pinned (.plain (OpenSpec.upto fnExactValidTextSpec)) fnExactValidTextUptoCard

/-- THE SECOND FORM's CARD OF 'laws.FnExactGoodUpTo'. -/
def fnExactGoodUpToUptoCard : Claim7 := { stood := { row := fnExactGoodUpToUptoRow, standIns := [], harness := (true, "3f0703ea7275109918fb4be10b97e6a7f471afd63d7efcccf27d34d6c49cc147"), looks := true }, kinds := [], alts := [], laidByText := true, laidKinds := [.data], laidTests := true, laidLooks := .later }
def FnExactGoodUpToUptoCardSaid : Prop := Claim7.holds Tryd.pinned (.plain (OpenSpec.upto fnExactGoodUpToSpec)) fnExactGoodUpToUptoCard
end Rows
end Go.Proofs.YthflfiacjgeelaaDoor
