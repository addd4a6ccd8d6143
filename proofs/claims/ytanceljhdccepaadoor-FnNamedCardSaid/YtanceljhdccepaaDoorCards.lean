/-
  DERIVED. GIVEN WITH THE SEED: THE CARDS: each row of YtanceljhdccepaaDoorRows.lean that lists a variable, with what it lists TIED to the program's text (the seventh form; the later family's looks); each row that meets fmt, with fmt's text TOLD by the authors' own Lean function (tested against real Go, not proved from fmt's source: count such statements apart). THE CARD IS WHAT COUNTS. Prove the row's statement (the work); the ties are given (YtanceljhdccepaaDoorTie.lean); close each card by the builder's one call (the guide's Derived/Test/ToyasCard.lean, 'card_holds'). Laid BY PROGRAM, IN A SANDBOX (cutbox-door.mjs). By AI agents, Wed Nov 11 2026. No macro, syntax, notation, axiom, sorry.
-/
import Derived.Test.YtanceljhdccepaaDoorRows
import GoSem.ClaimSeven
namespace Go.Proofs.YtanceljhdccepaaDoor
namespace Rows

/-- THE TIED CARD OF 'laws.FnMachine'. -/
def fnMachineCard : Claim7 := { stood := { row := fnMachineRow, standIns := [], harness := (true, "311ba1c8205265a26baacb14ecfb4fa684b2310a27c6f9f24eea23538a61c575"), looks := false }, kinds := [], alts := [], laidByText := true, laidKinds := [.data], laidTests := true, laidLooks := .later }
def FnMachineCardSaid : Prop := Claim7.holds Tryd.pinned (.plain (OpenSpec.ofChange fnMachineSpec)) fnMachineCard

/-- THE TIED CARD OF 'laws.FnNamed'. -/
def fnNamedCard : Claim7 := { stood := { row := fnNamedRow, standIns := [], harness := (true, "311ba1c8205265a26baacb14ecfb4fa684b2310a27c6f9f24eea23538a61c575"), looks := false }, kinds := [], alts := [], laidByText := true, laidKinds := [.data], laidTests := true, laidLooks := .later }
def FnNamedCardSaid : Prop := Claim7.holds Tryd.pinned (.plain (OpenSpec.ofChange fnNamedSpec)) fnNamedCard

/-- THE TIED CARD OF 'laws.FnExactStateOK'. -/
def fnExactStateOKCard : Claim7 := { stood := { row := fnExactStateOKRow, standIns := [], harness := (true, "311ba1c8205265a26baacb14ecfb4fa684b2310a27c6f9f24eea23538a61c575"), looks := false }, kinds := [], alts := [], laidByText := true, laidKinds := [.data], laidTests := true, laidLooks := .later }
def FnExactStateOKCardSaid : Prop := Claim7.holds Tryd.pinned (.plain (OpenSpec.ofChange fnExactStateOKSpec)) fnExactStateOKCard

/-- THE TIED CARD OF 'laws.FnExactRegisterOf'. -/
def fnExactRegisterOfCard : Claim7 := { stood := { row := fnExactRegisterOfRow, standIns := [], harness := (true, "311ba1c8205265a26baacb14ecfb4fa684b2310a27c6f9f24eea23538a61c575"), looks := false }, kinds := [], alts := [], laidByText := true, laidKinds := [.data], laidTests := true, laidLooks := .later }
def FnExactRegisterOfCardSaid : Prop := Claim7.holds Tryd.pinned (.plain (OpenSpec.ofChange fnExactRegisterOfSpec)) fnExactRegisterOfCard

/-- THE TIED CARD OF 'laws.FnExactNameSet'. -/
def fnExactNameSetCard : Claim7 := { stood := { row := fnExactNameSetRow, standIns := [], harness := (true, "311ba1c8205265a26baacb14ecfb4fa684b2310a27c6f9f24eea23538a61c575"), looks := false }, kinds := [], alts := [], laidByText := true, laidKinds := [.data], laidTests := true, laidLooks := .later }
def FnExactNameSetCardSaid : Prop := Claim7.holds Tryd.pinned (.plain (OpenSpec.ofChange fnExactNameSetSpec)) fnExactNameSetCard

/-- THE TIED CARD OF 'laws.FnExactStepState'. -/
def fnExactStepStateCard : Claim7 := { stood := { row := fnExactStepStateRow, standIns := [], harness := (true, "311ba1c8205265a26baacb14ecfb4fa684b2310a27c6f9f24eea23538a61c575"), looks := false }, kinds := [], alts := [], laidByText := true, laidKinds := [.data], laidTests := true, laidLooks := .later }
def FnExactStepStateCardSaid : Prop := Claim7.holds Tryd.pinned (.plain (OpenSpec.ofChange fnExactStepStateSpec)) fnExactStepStateCard

/-- THE TIED CARD OF 'laws.FnExactRunState'. -/
def fnExactRunStateCard : Claim7 := { stood := { row := fnExactRunStateRow, standIns := [], harness := (true, "311ba1c8205265a26baacb14ecfb4fa684b2310a27c6f9f24eea23538a61c575"), looks := false }, kinds := [], alts := [], laidByText := true, laidKinds := [.data], laidTests := true, laidLooks := .later }
def FnExactRunStateCardSaid : Prop := Claim7.holds Tryd.pinned (.plain (OpenSpec.ofChange fnExactRunStateSpec)) fnExactRunStateCard

/-- THE TIED CARD OF 'laws.FnExactPending'. -/
def fnExactPendingCard : Claim7 := { stood := { row := fnExactPendingRow, standIns := [], harness := (true, "311ba1c8205265a26baacb14ecfb4fa684b2310a27c6f9f24eea23538a61c575"), looks := false }, kinds := [], alts := [], laidByText := true, laidKinds := [.data], laidTests := true, laidLooks := .later }
def FnExactPendingCardSaid : Prop := Claim7.holds Tryd.pinned (.plain (OpenSpec.ofChange fnExactPendingSpec)) fnExactPendingCard

/-- THE SECOND FORM's CARD OF 'laws.FnMachine'. -/
def fnMachineUptoCard : Claim7 := { stood := { row := fnMachineUptoRow, standIns := [], harness := (true, "311ba1c8205265a26baacb14ecfb4fa684b2310a27c6f9f24eea23538a61c575"), looks := false }, kinds := [], alts := [], laidByText := true, laidKinds := [.data], laidTests := true, laidLooks := .later }
def FnMachineUptoCardSaid : Prop := Claim7.holds Tryd.pinned (.plain (OpenSpec.upto fnMachineSpec)) fnMachineUptoCard

/-- THE SECOND FORM's CARD OF 'laws.FnNamed'. -/
def fnNamedUptoCard : Claim7 := { stood := { row := fnNamedUptoRow, standIns := [], harness := (true, "311ba1c8205265a26baacb14ecfb4fa684b2310a27c6f9f24eea23538a61c575"), looks := false }, kinds := [], alts := [], laidByText := true, laidKinds := [.data], laidTests := true, laidLooks := .later }
def FnNamedUptoCardSaid : Prop := Claim7.holds Tryd.pinned (.plain (OpenSpec.upto fnNamedSpec)) fnNamedUptoCard

/-- THE SECOND FORM's CARD OF 'laws.FnExactStateOK'. -/
def fnExactStateOKUptoCard : Claim7 := { stood := { row := fnExactStateOKUptoRow, standIns := [], harness := (true, "311ba1c8205265a26baacb14ecfb4fa684b2310a27c6f9f24eea23538a61c575"), looks := false }, kinds := [], alts := [], laidByText := true, laidKinds := [.data], laidTests := true, laidLooks := .later }
def FnExactStateOKUptoCardSaid : Prop := Claim7.holds Tryd.pinned (.plain (OpenSpec.upto fnExactStateOKSpec)) fnExactStateOKUptoCard

/-- THE SECOND FORM's CARD OF 'laws.FnExactRegisterOf'. -/
def fnExactRegisterOfUptoCard : Claim7 := { stood := { row := fnExactRegisterOfUptoRow, standIns := [], harness := (true, "311ba1c8205265a26baacb14ecfb4fa684b2310a27c6f9f24eea23538a61c575"), looks := false }, kinds := [], alts := [], laidByText := true, laidKinds := [.data], laidTests := true, laidLooks := .later }
def FnExactRegisterOfUptoCardSaid : Prop := Claim7.holds Tryd.pinned (.plain (OpenSpec.upto fnExactRegisterOfSpec)) fnExactRegisterOfUptoCard

/-- THE SECOND FORM's CARD OF 'laws.FnExactNameSet'. -/
def fnExactNameSetUptoCard : Claim7 := { stood := { row := fnExactNameSetUptoRow, standIns := [], harness := (true, "311ba1c8205265a26baacb14ecfb4fa684b2310a27c6f9f24eea23538a61c575"), looks := false }, kinds := [], alts := [], laidByText := true, laidKinds := [.data], laidTests := true, laidLooks := .later }
def FnExactNameSetUptoCardSaid : Prop := Claim7.holds Tryd.pinned (.plain (OpenSpec.upto fnExactNameSetSpec)) fnExactNameSetUptoCard

/-- THE SECOND FORM's CARD OF 'laws.FnExactStepState'. -/
def fnExactStepStateUptoCard : Claim7 := { stood := { row := fnExactStepStateUptoRow, standIns := [], harness := (true, "311ba1c8205265a26baacb14ecfb4fa684b2310a27c6f9f24eea23538a61c575"), looks := false }, kinds := [], alts := [], laidByText := true, laidKinds := [.data], laidTests := true, laidLooks := .later }
def FnExactStepStateUptoCardSaid : Prop := Claim7.holds Tryd.pinned (.plain (OpenSpec.upto fnExactStepStateSpec)) fnExactStepStateUptoCard

/-- THE SECOND FORM's CARD OF 'laws.FnExactRunState'. -/
def fnExactRunStateUptoCard : Claim7 := { stood := { row := fnExactRunStateUptoRow, standIns := [], harness := (true, "311ba1c8205265a26baacb14ecfb4fa684b2310a27c6f9f24eea23538a61c575"), looks := false }, kinds := [], alts := [], laidByText := true, laidKinds := [.data], laidTests := true, laidLooks := .later }
def FnExactRunStateUptoCardSaid : Prop := Claim7.holds Tryd.pinned (.plain (OpenSpec.upto fnExactRunStateSpec)) fnExactRunStateUptoCard

/-- THE SECOND FORM's CARD OF 'laws.FnExactPending'. -/
def fnExactPendingUptoCard : Claim7 := { stood := { row := fnExactPendingUptoRow, standIns := [], harness := (true, "311ba1c8205265a26baacb14ecfb4fa684b2310a27c6f9f24eea23538a61c575"), looks := false }, kinds := [], alts := [], laidByText := true, laidKinds := [.data], laidTests := true, laidLooks := .later }
def FnExactPendingUptoCardSaid : Prop := Claim7.holds Tryd.pinned (.plain (OpenSpec.upto fnExactPendingSpec)) fnExactPendingUptoCard
end Rows
end Go.Proofs.YtanceljhdccepaaDoor
