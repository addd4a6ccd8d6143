/-
  DERIVED. GIVEN WITH THE SEED: THE CARDS: each row of YtjbikenhdgbacaaDoorRows.lean that lists a variable, with what it lists TIED to the program's text (the seventh form; the later family's looks); each row that meets fmt, with fmt's text TOLD by the authors' own Lean function (tested against real Go, not proved from fmt's source: count such statements apart). THE CARD IS WHAT COUNTS. Prove the row's statement (the work); the ties are given (YtjbikenhdgbacaaDoorTie.lean); close each card by the builder's one call (the guide's Derived/Test/ToyasCard.lean, 'card_holds'). Laid BY PROGRAM, IN A SANDBOX (cutbox-door.mjs). By AI agents, Wed Nov 11 2026. No macro, syntax, notation, axiom, sorry.
-/
import Derived.Test.YtjbikenhdgbacaaDoorRows
import GoSem.ClaimSeven
namespace Go.Proofs.YtjbikenhdgbacaaDoor
namespace Rows

/-- THE TIED CARD OF 'laws.FnMachine'. -/
def fnMachineCard : Claim7 := { stood := { row := fnMachineRow, standIns := [], harness := (true, "c8289d94e89267a6954774cc459098a995896ee3fa27829cba073c0605c64668"), looks := false }, kinds := [], alts := [], laidByText := true, laidKinds := [.data], laidTests := true, laidLooks := .later }
def FnMachineCardSaid : Prop := Claim7.holds Tryd.pinned (.plain (OpenSpec.ofChange fnMachineSpec)) fnMachineCard

/-- THE TIED CARD OF 'laws.FnExactEscapeOf'. -/
def fnExactEscapeOfCard : Claim7 := { stood := { row := fnExactEscapeOfRow, standIns := [], harness := (true, "c8289d94e89267a6954774cc459098a995896ee3fa27829cba073c0605c64668"), looks := false }, kinds := [], alts := [], laidByText := true, laidKinds := [.data], laidTests := true, laidLooks := .later }
def FnExactEscapeOfCardSaid : Prop := Claim7.holds Tryd.pinned (.plain (OpenSpec.ofChange fnExactEscapeOfSpec)) fnExactEscapeOfCard

/-- THE TIED CARD OF 'laws.FnExactTokenText'. -/
def fnExactTokenTextCard : Claim7 := { stood := { row := fnExactTokenTextRow, standIns := [], harness := (true, "c8289d94e89267a6954774cc459098a995896ee3fa27829cba073c0605c64668"), looks := false }, kinds := [], alts := [], laidByText := true, laidKinds := [.data, .data, .data, .data], laidTests := true, laidLooks := .later }
def FnExactTokenTextCardSaid : Prop := Claim7.holds Tryd.pinned (.plain (OpenSpec.ofChange fnExactTokenTextSpec)) fnExactTokenTextCard

/-- THE TIED CARD OF 'laws.FnExactProfileOf'. -/
def fnExactProfileOfCard : Claim7 := { stood := { row := fnExactProfileOfRow, standIns := [], harness := (true, "c8289d94e89267a6954774cc459098a995896ee3fa27829cba073c0605c64668"), looks := false }, kinds := [], alts := [], laidByText := true, laidKinds := [.data], laidTests := true, laidLooks := .later }
def FnExactProfileOfCardSaid : Prop := Claim7.holds Tryd.pinned (.plain (OpenSpec.ofChange fnExactProfileOfSpec)) fnExactProfileOfCard

/-- THE TIED CARD OF 'laws.FnExactProfileNamed'. -/
def fnExactProfileNamedCard : Claim7 := { stood := { row := fnExactProfileNamedRow, standIns := [], harness := (true, "c8289d94e89267a6954774cc459098a995896ee3fa27829cba073c0605c64668"), looks := false }, kinds := [], alts := [], laidByText := true, laidKinds := [.data], laidTests := true, laidLooks := .later }
def FnExactProfileNamedCardSaid : Prop := Claim7.holds Tryd.pinned (.plain (OpenSpec.ofChange fnExactProfileNamedSpec)) fnExactProfileNamedCard

/-- THE TIED CARD OF 'laws.FnExactAllowsToken'. -/
def fnExactAllowsTokenCard : Claim7 := { stood := { row := fnExactAllowsTokenRow, standIns := [], harness := (true, "c8289d94e89267a6954774cc459098a995896ee3fa27829cba073c0605c64668"), looks := false }, kinds := [], alts := [], laidByText := true, laidKinds := [.data], laidTests := true, laidLooks := .later }
def FnExactAllowsTokenCardSaid : Prop := Claim7.holds Tryd.pinned (.plain (OpenSpec.ofChange fnExactAllowsTokenSpec)) fnExactAllowsTokenCard

/-- THE TIED CARD OF 'laws.FnExactAtRest'. -/
def fnExactAtRestCard : Claim7 := { stood := { row := fnExactAtRestRow, standIns := [], harness := (true, "c8289d94e89267a6954774cc459098a995896ee3fa27829cba073c0605c64668"), looks := false }, kinds := [], alts := [], laidByText := true, laidKinds := [.data], laidTests := true, laidLooks := .later }
def FnExactAtRestCardSaid : Prop := Claim7.holds Tryd.pinned (.plain (OpenSpec.ofChange fnExactAtRestSpec)) fnExactAtRestCard

/-- THE TIED CARD OF 'laws.FnExactLineEnd'. -/
def fnExactLineEndCard : Claim7 := { stood := { row := fnExactLineEndRow, standIns := [], harness := (true, "c8289d94e89267a6954774cc459098a995896ee3fa27829cba073c0605c64668"), looks := false }, kinds := [], alts := [], laidByText := true, laidKinds := [.data], laidTests := true, laidLooks := .later }
def FnExactLineEndCardSaid : Prop := Claim7.holds Tryd.pinned (.plain (OpenSpec.ofChange fnExactLineEndSpec)) fnExactLineEndCard

/-- THE TIED CARD OF 'laws.FnExactStepProfile'. -/
def fnExactStepProfileCard : Claim7 := { stood := { row := fnExactStepProfileRow, standIns := [], harness := (true, "c8289d94e89267a6954774cc459098a995896ee3fa27829cba073c0605c64668"), looks := false }, kinds := [], alts := [], laidByText := true, laidKinds := [.data], laidTests := true, laidLooks := .later }
def FnExactStepProfileCardSaid : Prop := Claim7.holds Tryd.pinned (.plain (OpenSpec.ofChange fnExactStepProfileSpec)) fnExactStepProfileCard

/-- THE SECOND FORM's CARD OF 'laws.FnMachine'. -/
def fnMachineUptoCard : Claim7 := { stood := { row := fnMachineUptoRow, standIns := [], harness := (true, "c8289d94e89267a6954774cc459098a995896ee3fa27829cba073c0605c64668"), looks := false }, kinds := [], alts := [], laidByText := true, laidKinds := [.data], laidTests := true, laidLooks := .later }
def FnMachineUptoCardSaid : Prop := Claim7.holds Tryd.pinned (.plain (OpenSpec.upto fnMachineSpec)) fnMachineUptoCard

/-- THE SECOND FORM's CARD OF 'laws.FnExactEscapeOf'. -/
def fnExactEscapeOfUptoCard : Claim7 := { stood := { row := fnExactEscapeOfUptoRow, standIns := [], harness := (true, "c8289d94e89267a6954774cc459098a995896ee3fa27829cba073c0605c64668"), looks := false }, kinds := [], alts := [], laidByText := true, laidKinds := [.data], laidTests := true, laidLooks := .later }
def FnExactEscapeOfUptoCardSaid : Prop := Claim7.holds Tryd.pinned (.plain (OpenSpec.upto fnExactEscapeOfSpec)) fnExactEscapeOfUptoCard

/-- THE SECOND FORM's CARD OF 'laws.FnExactTokenText'. -/
def fnExactTokenTextUptoCard : Claim7 := { stood := { row := fnExactTokenTextUptoRow, standIns := [], harness := (true, "c8289d94e89267a6954774cc459098a995896ee3fa27829cba073c0605c64668"), looks := false }, kinds := [], alts := [], laidByText := true, laidKinds := [.data, .data, .data, .data], laidTests := true, laidLooks := .later }
def FnExactTokenTextUptoCardSaid : Prop := Claim7.holds Tryd.pinned (.plain (OpenSpec.upto fnExactTokenTextSpec)) fnExactTokenTextUptoCard

/-- THE SECOND FORM's CARD OF 'laws.FnExactProfileOf'. -/
def fnExactProfileOfUptoCard : Claim7 := { stood := { row := fnExactProfileOfUptoRow, standIns := [], harness := (true, "c8289d94e89267a6954774cc459098a995896ee3fa27829cba073c0605c64668"), looks := false }, kinds := [], alts := [], laidByText := true, laidKinds := [.data], laidTests := true, laidLooks := .later }
def FnExactProfileOfUptoCardSaid : Prop := Claim7.holds Tryd.pinned (.plain (OpenSpec.upto fnExactProfileOfSpec)) fnExactProfileOfUptoCard

/-- THE SECOND FORM's CARD OF 'laws.FnExactProfileNamed'. -/
def fnExactProfileNamedUptoCard : Claim7 := { stood := { row := fnExactProfileNamedUptoRow, standIns := [], harness := (true, "c8289d94e89267a6954774cc459098a995896ee3fa27829cba073c0605c64668"), looks := false }, kinds := [], alts := [], laidByText := true, laidKinds := [.data], laidTests := true, laidLooks := .later }
def FnExactProfileNamedUptoCardSaid : Prop := Claim7.holds Tryd.pinned (.plain (OpenSpec.upto fnExactProfileNamedSpec)) fnExactProfileNamedUptoCard

/-- THE SECOND FORM's CARD OF 'laws.FnExactAllowsToken'. -/
def fnExactAllowsTokenUptoCard : Claim7 := { stood := { row := fnExactAllowsTokenUptoRow, standIns := [], harness := (true, "c8289d94e89267a6954774cc459098a995896ee3fa27829cba073c0605c64668"), looks := false }, kinds := [], alts := [], laidByText := true, laidKinds := [.data], laidTests := true, laidLooks := .later }
def FnExactAllowsTokenUptoCardSaid : Prop := Claim7.holds Tryd.pinned (.plain (OpenSpec.upto fnExactAllowsTokenSpec)) fnExactAllowsTokenUptoCard

/-- THE SECOND FORM's CARD OF 'laws.FnExactAtRest'. -/
def fnExactAtRestUptoCard : Claim7 := { stood := { row := fnExactAtRestUptoRow, standIns := [], harness := (true, "c8289d94e89267a6954774cc459098a995896ee3fa27829cba073c0605c64668"), looks := false }, kinds := [], alts := [], laidByText := true, laidKinds := [.data], laidTests := true, laidLooks := .later }
def FnExactAtRestUptoCardSaid : Prop := Claim7.holds Tryd.pinned (.plain (OpenSpec.upto fnExactAtRestSpec)) fnExactAtRestUptoCard

/-- THE SECOND FORM's CARD OF 'laws.FnExactLineEnd'. -/
def fnExactLineEndUptoCard : Claim7 := { stood := { row := fnExactLineEndUptoRow, standIns := [], harness := (true, "c8289d94e89267a6954774cc459098a995896ee3fa27829cba073c0605c64668"), looks := false }, kinds := [], alts := [], laidByText := true, laidKinds := [.data], laidTests := true, laidLooks := .later }
def FnExactLineEndUptoCardSaid : Prop := Claim7.holds Tryd.pinned (.plain (OpenSpec.upto fnExactLineEndSpec)) fnExactLineEndUptoCard

/-- THE SECOND FORM's CARD OF 'laws.FnExactStepProfile'. -/
def fnExactStepProfileUptoCard : Claim7 := { stood := { row := fnExactStepProfileUptoRow, standIns := [], harness := (true, "c8289d94e89267a6954774cc459098a995896ee3fa27829cba073c0605c64668"), looks := false }, kinds := [], alts := [], laidByText := true, laidKinds := [.data], laidTests := true, laidLooks := .later }
def FnExactStepProfileUptoCardSaid : Prop := Claim7.holds Tryd.pinned (.plain (OpenSpec.upto fnExactStepProfileSpec)) fnExactStepProfileUptoCard
end Rows
end Go.Proofs.YtjbikenhdgbacaaDoor
