/-
  DERIVED. GIVEN WITH THE SEED: THE CARDS: each row of YthflfiacjgeelaaGreatDoorRows.lean that lists a variable, with what it lists TIED to the program's text (the seventh form; the later family's looks); each row that meets fmt, with fmt's text TOLD by the authors' own Lean function (tested against real Go, not proved from fmt's source: count such statements apart). THE CARD IS WHAT COUNTS. Prove the row's statement (the work); the ties are given (YthflfiacjgeelaaGreatDoorTie.lean); close each card by the builder's one call (the guide's Derived/Test/ToyasCard.lean, 'card_holds'). Laid BY PROGRAM, IN A SANDBOX (cutbox-door.mjs). By AI agents, Wed Nov 11 2026. No macro, syntax, notation, axiom, sorry.
-/
import Derived.Test.YthflfiacjgeelaaGreatDoorRows
import GoSem.ClaimSeven
namespace Go.Proofs.YthflfiacjgeelaaGreatDoor
namespace Rows

/-- THE TIED CARD OF 'laws.FnJoin'. -/
def fnJoinCard : Claim7 := { stood := { row := fnJoinRow, standIns := [], harness := (true, "e0937c1471f997c0e42a5a04e2c0f0c85d585a067c15091cc9d6aa42d20af291"), looks := true }, kinds := [], alts := [], laidByText := true, laidKinds := [.data], laidTests := true, laidLooks := .later }
def FnJoinCardSaid : Prop := Claim7.holds Tryz.pinned (.plain (OpenSpec.ofChange fnJoinSpec)) fnJoinCard

/-- THE TIED CARD OF 'laws.FnWaits'. -/
def fnWaitsCard : Claim7 := { stood := { row := fnWaitsRow, standIns := [], harness := (true, "e0937c1471f997c0e42a5a04e2c0f0c85d585a067c15091cc9d6aa42d20af291"), looks := true }, kinds := [], alts := [], laidByText := true, laidKinds := [.data, .data], laidTests := true, laidLooks := .later }
def FnWaitsCardSaid : Prop := Claim7.holds Tryz.pinned (.plain (OpenSpec.ofChange fnWaitsSpec)) fnWaitsCard

/-- THE TIED CARD OF 'laws.FnWithin'. -/
def fnWithinCard : Claim7 := { stood := { row := fnWithinRow, standIns := [], harness := (true, "e0937c1471f997c0e42a5a04e2c0f0c85d585a067c15091cc9d6aa42d20af291"), looks := true }, kinds := [], alts := [], laidByText := true, laidKinds := [.data], laidTests := true, laidLooks := .later }
def FnWithinCardSaid : Prop := Claim7.holds Tryz.pinned (.plain (OpenSpec.ofChange fnWithinSpec)) fnWithinCard

/-- THE TIED CARD OF 'laws.FnFewer'. -/
def fnFewerCard : Claim7 := { stood := { row := fnFewerRow, standIns := [], harness := (true, "e0937c1471f997c0e42a5a04e2c0f0c85d585a067c15091cc9d6aa42d20af291"), looks := true }, kinds := [], alts := [], laidByText := true, laidKinds := [.data], laidTests := true, laidLooks := .later }
def FnFewerCardSaid : Prop := Claim7.holds Tryz.pinned (.plain (OpenSpec.ofChange fnFewerSpec)) fnFewerCard

/-- THE TIED CARD OF 'laws.FnExactDecode'. -/
def fnExactDecodeCard : Claim7 := { stood := { row := fnExactDecodeRow, standIns := [], harness := (true, "e0937c1471f997c0e42a5a04e2c0f0c85d585a067c15091cc9d6aa42d20af291"), looks := true }, kinds := [], alts := [], laidByText := true, laidKinds := [.data], laidTests := true, laidLooks := .later }
def FnExactDecodeCardSaid : Prop := Claim7.holds Tryz.pinned (.plain (OpenSpec.ofChange fnExactDecodeSpec)) fnExactDecodeCard

/-- THE TIED CARD OF 'laws.FnExactEncode'. -/
def fnExactEncodeCard : Claim7 := { stood := { row := fnExactEncodeRow, standIns := [], harness := (true, "e0937c1471f997c0e42a5a04e2c0f0c85d585a067c15091cc9d6aa42d20af291"), looks := true }, kinds := [], alts := [], laidByText := true, laidKinds := [.data], laidTests := true, laidLooks := .later }
def FnExactEncodeCardSaid : Prop := Claim7.holds Tryz.pinned (.plain (OpenSpec.ofChange fnExactEncodeSpec)) fnExactEncodeCard

/-- THE TIED CARD OF 'laws.FnExactCostOf'. -/
def fnExactCostOfCard : Claim7 := { stood := { row := fnExactCostOfRow, standIns := [], harness := (true, "e0937c1471f997c0e42a5a04e2c0f0c85d585a067c15091cc9d6aa42d20af291"), looks := true }, kinds := [], alts := [], laidByText := true, laidKinds := [.data], laidTests := true, laidLooks := .later }
def FnExactCostOfCardSaid : Prop := Claim7.holds Tryz.pinned (.plain (OpenSpec.ofChange fnExactCostOfSpec)) fnExactCostOfCard

/-- THE TIED CARD OF 'laws.FnExactEncodeLoose'. -/
def fnExactEncodeLooseCard : Claim7 := { stood := { row := fnExactEncodeLooseRow, standIns := [], harness := (true, "e0937c1471f997c0e42a5a04e2c0f0c85d585a067c15091cc9d6aa42d20af291"), looks := true }, kinds := [], alts := [], laidByText := true, laidKinds := [.data], laidTests := true, laidLooks := .later }
def FnExactEncodeLooseCardSaid : Prop := Claim7.holds Tryz.pinned (.plain (OpenSpec.ofChange fnExactEncodeLooseSpec)) fnExactEncodeLooseCard

/-- THE SECOND FORM's CARD OF 'laws.FnJoin'. -/
def fnJoinUptoCard : Claim7 := { stood := { row := fnJoinUptoRow, standIns := [], harness := (true, "e0937c1471f997c0e42a5a04e2c0f0c85d585a067c15091cc9d6aa42d20af291"), looks := true }, kinds := [], alts := [], laidByText := true, laidKinds := [.data], laidTests := true, laidLooks := .later }
def FnJoinUptoCardSaid : Prop := Claim7.holds Tryz.pinned (.plain (OpenSpec.upto fnJoinSpec)) fnJoinUptoCard

/-- THE SECOND FORM's CARD OF 'laws.FnWaits'. -/
def fnWaitsUptoCard : Claim7 := { stood := { row := fnWaitsUptoRow, standIns := [], harness := (true, "e0937c1471f997c0e42a5a04e2c0f0c85d585a067c15091cc9d6aa42d20af291"), looks := true }, kinds := [], alts := [], laidByText := true, laidKinds := [.data, .data], laidTests := true, laidLooks := .later }
def FnWaitsUptoCardSaid : Prop := Claim7.holds Tryz.pinned (.plain (OpenSpec.upto fnWaitsSpec)) fnWaitsUptoCard

/-- THE SECOND FORM's CARD OF 'laws.FnWithin'. -/
def fnWithinUptoCard : Claim7 := { stood := { row := fnWithinUptoRow, standIns := [], harness := (true, "e0937c1471f997c0e42a5a04e2c0f0c85d585a067c15091cc9d6aa42d20af291"), looks := true }, kinds := [], alts := [], laidByText := true, laidKinds := [.data], laidTests := true, laidLooks := .later }
def FnWithinUptoCardSaid : Prop := Claim7.holds Tryz.pinned (.plain (OpenSpec.upto fnWithinSpec)) fnWithinUptoCard

/-- THE SECOND FORM's CARD OF 'laws.FnFewer'. -/
def fnFewerUptoCard : Claim7 := { stood := { row := fnFewerUptoRow, standIns := [], harness := (true, "e0937c1471f997c0e42a5a04e2c0f0c85d585a067c15091cc9d6aa42d20af291"), looks := true }, kinds := [], alts := [], laidByText := true, laidKinds := [.data], laidTests := true, laidLooks := .later }
def FnFewerUptoCardSaid : Prop := Claim7.holds Tryz.pinned (.plain (OpenSpec.upto fnFewerSpec)) fnFewerUptoCard

/-- THE SECOND FORM's CARD OF 'laws.FnExactDecode'. -/
def fnExactDecodeUptoCard : Claim7 := { stood := { row := fnExactDecodeUptoRow, standIns := [], harness := (true, "e0937c1471f997c0e42a5a04e2c0f0c85d585a067c15091cc9d6aa42d20af291"), looks := true }, kinds := [], alts := [], laidByText := true, laidKinds := [.data], laidTests := true, laidLooks := .later }
def FnExactDecodeUptoCardSaid : Prop := Claim7.holds Tryz.pinned (.plain (OpenSpec.upto fnExactDecodeSpec)) fnExactDecodeUptoCard

/-- THE SECOND FORM's CARD OF 'laws.FnExactEncode'. -/
def fnExactEncodeUptoCard : Claim7 := { stood := { row := fnExactEncodeUptoRow, standIns := [], harness := (true, "e0937c1471f997c0e42a5a04e2c0f0c85d585a067c15091cc9d6aa42d20af291"), looks := true }, kinds := [], alts := [], laidByText := true, laidKinds := [.data], laidTests := true, laidLooks := .later }
def FnExactEncodeUptoCardSaid : Prop := Claim7.holds Tryz.pinned (.plain (OpenSpec.upto fnExactEncodeSpec)) fnExactEncodeUptoCard

/-- THE SECOND FORM's CARD OF 'laws.FnExactCostOf'. -/
def fnExactCostOfUptoCard : Claim7 := { stood := { row := fnExactCostOfUptoRow, standIns := [], harness := (true, "e0937c1471f997c0e42a5a04e2c0f0c85d585a067c15091cc9d6aa42d20af291"), looks := true }, kinds := [], alts := [], laidByText := true, laidKinds := [.data], laidTests := true, laidLooks := .later }
def FnExactCostOfUptoCardSaid : Prop := Claim7.holds Tryz.pinned (.plain (OpenSpec.upto fnExactCostOfSpec)) fnExactCostOfUptoCard

/-- THE SECOND FORM's CARD OF 'laws.FnExactEncodeLoose'. -/
def fnExactEncodeLooseUptoCard : Claim7 := { stood := { row := fnExactEncodeLooseUptoRow, standIns := [], harness := (true, "e0937c1471f997c0e42a5a04e2c0f0c85d585a067c15091cc9d6aa42d20af291"), looks := true }, kinds := [], alts := [], laidByText := true, laidKinds := [.data], laidTests := true, laidLooks := .later }
def FnExactEncodeLooseUptoCardSaid : Prop := Claim7.holds Tryz.pinned (.plain (OpenSpec.upto fnExactEncodeLooseSpec)) fnExactEncodeLooseUptoCard
end Rows
end Go.Proofs.YthflfiacjgeelaaGreatDoor
