/-
  DERIVED. GIVEN WITH THE SEED: THE CARDS: each row of YtlakpddabkmpoaaDoorRows.lean that lists a variable, with what it lists TIED to the program's text (the seventh form; the later family's looks); each row that meets fmt, with fmt's text TOLD by the authors' own Lean function (tested against real Go, not proved from fmt's source: count such statements apart). THE CARD IS WHAT COUNTS. Prove the row's statement (the work); the ties are given (YtlakpddabkmpoaaDoorTie.lean); close each card by the builder's one call (the guide's Derived/Test/ToyasCard.lean, 'card_holds'). Laid BY PROGRAM, IN A SANDBOX (cutbox-door.mjs). By AI agents, Wed Nov 11 2026. No macro, syntax, notation, axiom, sorry.
-/
import Derived.Test.YtlakpddabkmpoaaDoorRows
import GoSem.ClaimSeven
namespace Go.Proofs.YtlakpddabkmpoaaDoor
namespace Rows

/-- THE TIED CARD OF 'laws.FnSets'. -/
def fnSetsCard : Claim7 := { stood := { row := fnSetsRow, standIns := [], harness := (true, "2b7b144c9635fa5e926dc50a0261881bac2ba1a62bb7f5870fb7bb2b71e76809"), looks := false }, kinds := [], alts := [], laidByText := true, laidKinds := [.data], laidTests := true, laidLooks := .later }
def FnSetsCardSaid : Prop := Claim7.holds Tryd.pinned (.plain (OpenSpec.ofChange fnSetsSpec)) fnSetsCard

/-- THE TIED CARD OF 'laws.FnExactSetOf'. -/
def fnExactSetOfCard : Claim7 := { stood := { row := fnExactSetOfRow, standIns := [], harness := (true, "2b7b144c9635fa5e926dc50a0261881bac2ba1a62bb7f5870fb7bb2b71e76809"), looks := false }, kinds := [], alts := [], laidByText := true, laidKinds := [.data], laidTests := true, laidLooks := .later }
def FnExactSetOfCardSaid : Prop := Claim7.holds Tryd.pinned (.plain (OpenSpec.ofChange fnExactSetOfSpec)) fnExactSetOfCard

/-- THE TIED CARD OF 'laws.FnExactFindSet'. -/
def fnExactFindSetCard : Claim7 := { stood := { row := fnExactFindSetRow, standIns := [], harness := (true, "2b7b144c9635fa5e926dc50a0261881bac2ba1a62bb7f5870fb7bb2b71e76809"), looks := false }, kinds := [], alts := [], laidByText := true, laidKinds := [.data], laidTests := true, laidLooks := .later }
def FnExactFindSetCardSaid : Prop := Claim7.holds Tryd.pinned (.plain (OpenSpec.ofChange fnExactFindSetSpec)) fnExactFindSetCard

/-- THE TIED CARD OF 'laws.FnExactCodeOK'. -/
def fnExactCodeOKCard : Claim7 := { stood := { row := fnExactCodeOKRow, standIns := [], harness := (true, "2b7b144c9635fa5e926dc50a0261881bac2ba1a62bb7f5870fb7bb2b71e76809"), looks := false }, kinds := [], alts := [], laidByText := true, laidKinds := [.data], laidTests := true, laidLooks := .later }
def FnExactCodeOKCardSaid : Prop := Claim7.holds Tryd.pinned (.plain (OpenSpec.ofChange fnExactCodeOKSpec)) fnExactCodeOKCard

/-- THE TIED CARD OF 'laws.FnExactRuneFor'. -/
def fnExactRuneForCard : Claim7 := { stood := { row := fnExactRuneForRow, standIns := [], harness := (true, "2b7b144c9635fa5e926dc50a0261881bac2ba1a62bb7f5870fb7bb2b71e76809"), looks := false }, kinds := [], alts := [], laidByText := true, laidKinds := [.data], laidTests := true, laidLooks := .later }
def FnExactRuneForCardSaid : Prop := Claim7.holds Tryd.pinned (.plain (OpenSpec.ofChange fnExactRuneForSpec)) fnExactRuneForCard

/-- THE TIED CARD OF 'laws.FnExactCodeFor'. -/
def fnExactCodeForCard : Claim7 := { stood := { row := fnExactCodeForRow, standIns := [], harness := (true, "2b7b144c9635fa5e926dc50a0261881bac2ba1a62bb7f5870fb7bb2b71e76809"), looks := false }, kinds := [], alts := [], laidByText := true, laidKinds := [.data], laidTests := true, laidLooks := .later }
def FnExactCodeForCardSaid : Prop := Claim7.holds Tryd.pinned (.plain (OpenSpec.ofChange fnExactCodeForSpec)) fnExactCodeForCard

/-- THE TIED CARD OF 'laws.FnExactSetsFor'. -/
def fnExactSetsForCard : Claim7 := { stood := { row := fnExactSetsForRow, standIns := [], harness := (true, "2b7b144c9635fa5e926dc50a0261881bac2ba1a62bb7f5870fb7bb2b71e76809"), looks := false }, kinds := [], alts := [], laidByText := true, laidKinds := [.data], laidTests := true, laidLooks := .later }
def FnExactSetsForCardSaid : Prop := Claim7.holds Tryd.pinned (.plain (OpenSpec.ofChange fnExactSetsForSpec)) fnExactSetsForCard

/-- THE TIED CARD OF 'laws.FnExactSizeOf'. -/
def fnExactSizeOfCard : Claim7 := { stood := { row := fnExactSizeOfRow, standIns := [], harness := (true, "2b7b144c9635fa5e926dc50a0261881bac2ba1a62bb7f5870fb7bb2b71e76809"), looks := false }, kinds := [], alts := [], laidByText := true, laidKinds := [.data], laidTests := true, laidLooks := .later }
def FnExactSizeOfCardSaid : Prop := Claim7.holds Tryd.pinned (.plain (OpenSpec.ofChange fnExactSizeOfSpec)) fnExactSizeOfCard

/-- THE TIED CARD OF 'laws.FnExactEscapeOf'. -/
def fnExactEscapeOfCard : Claim7 := { stood := { row := fnExactEscapeOfRow, standIns := [], harness := (true, "2b7b144c9635fa5e926dc50a0261881bac2ba1a62bb7f5870fb7bb2b71e76809"), looks := false }, kinds := [], alts := [], laidByText := true, laidKinds := [.data], laidTests := true, laidLooks := .later }
def FnExactEscapeOfCardSaid : Prop := Claim7.holds Tryd.pinned (.plain (OpenSpec.ofChange fnExactEscapeOfSpec)) fnExactEscapeOfCard

/-- THE TIED CARD OF 'laws.FnExactTokenText'. -/
def fnExactTokenTextCard : Claim7 := { stood := { row := fnExactTokenTextRow, standIns := [], harness := (true, "2b7b144c9635fa5e926dc50a0261881bac2ba1a62bb7f5870fb7bb2b71e76809"), looks := false }, kinds := [], alts := [], laidByText := true, laidKinds := [.data, .data, .data, .data], laidTests := true, laidLooks := .later }
def FnExactTokenTextCardSaid : Prop := Claim7.holds Tryd.pinned (.plain (OpenSpec.ofChange fnExactTokenTextSpec)) fnExactTokenTextCard

/-- THE SECOND FORM's CARD OF 'laws.FnSets'. -/
def fnSetsUptoCard : Claim7 := { stood := { row := fnSetsUptoRow, standIns := [], harness := (true, "2b7b144c9635fa5e926dc50a0261881bac2ba1a62bb7f5870fb7bb2b71e76809"), looks := false }, kinds := [], alts := [], laidByText := true, laidKinds := [.data], laidTests := true, laidLooks := .later }
def FnSetsUptoCardSaid : Prop := Claim7.holds Tryd.pinned (.plain (OpenSpec.upto fnSetsSpec)) fnSetsUptoCard

/-- THE SECOND FORM's CARD OF 'laws.FnExactSetOf'. -/
def fnExactSetOfUptoCard : Claim7 := { stood := { row := fnExactSetOfUptoRow, standIns := [], harness := (true, "2b7b144c9635fa5e926dc50a0261881bac2ba1a62bb7f5870fb7bb2b71e76809"), looks := false }, kinds := [], alts := [], laidByText := true, laidKinds := [.data], laidTests := true, laidLooks := .later }
def FnExactSetOfUptoCardSaid : Prop := Claim7.holds Tryd.pinned (.plain (OpenSpec.upto fnExactSetOfSpec)) fnExactSetOfUptoCard

/-- THE SECOND FORM's CARD OF 'laws.FnExactFindSet'. -/
def fnExactFindSetUptoCard : Claim7 := { stood := { row := fnExactFindSetUptoRow, standIns := [], harness := (true, "2b7b144c9635fa5e926dc50a0261881bac2ba1a62bb7f5870fb7bb2b71e76809"), looks := false }, kinds := [], alts := [], laidByText := true, laidKinds := [.data], laidTests := true, laidLooks := .later }
def FnExactFindSetUptoCardSaid : Prop := Claim7.holds Tryd.pinned (.plain (OpenSpec.upto fnExactFindSetSpec)) fnExactFindSetUptoCard

/-- THE SECOND FORM's CARD OF 'laws.FnExactCodeOK'. -/
def fnExactCodeOKUptoCard : Claim7 := { stood := { row := fnExactCodeOKUptoRow, standIns := [], harness := (true, "2b7b144c9635fa5e926dc50a0261881bac2ba1a62bb7f5870fb7bb2b71e76809"), looks := false }, kinds := [], alts := [], laidByText := true, laidKinds := [.data], laidTests := true, laidLooks := .later }
def FnExactCodeOKUptoCardSaid : Prop := Claim7.holds Tryd.pinned (.plain (OpenSpec.upto fnExactCodeOKSpec)) fnExactCodeOKUptoCard

/-- THE SECOND FORM's CARD OF 'laws.FnExactRuneFor'. -/
def fnExactRuneForUptoCard : Claim7 := { stood := { row := fnExactRuneForUptoRow, standIns := [], harness := (true, "2b7b144c9635fa5e926dc50a0261881bac2ba1a62bb7f5870fb7bb2b71e76809"), looks := false }, kinds := [], alts := [], laidByText := true, laidKinds := [.data], laidTests := true, laidLooks := .later }
def FnExactRuneForUptoCardSaid : Prop := Claim7.holds Tryd.pinned (.plain (OpenSpec.upto fnExactRuneForSpec)) fnExactRuneForUptoCard

/-- THE SECOND FORM's CARD OF 'laws.FnExactCodeFor'. -/
def fnExactCodeForUptoCard : Claim7 := { stood := { row := fnExactCodeForUptoRow, standIns := [], harness := (true, "2b7b144c9635fa5e926dc50a0261881bac2ba1a62bb7f5870fb7bb2b71e76809"), looks := false }, kinds := [], alts := [], laidByText := true, laidKinds := [.data], laidTests := true, laidLooks := .later }
def FnExactCodeForUptoCardSaid : Prop := Claim7.holds Tryd.pinned (.plain (OpenSpec.upto fnExactCodeForSpec)) fnExactCodeForUptoCard

/-- THE SECOND FORM's CARD OF 'laws.FnExactSetsFor'. -/
def fnExactSetsForUptoCard : Claim7 := { stood := { row := fnExactSetsForUptoRow, standIns := [], harness := (true, "2b7b144c9635fa5e926dc50a0261881bac2ba1a62bb7f5870fb7bb2b71e76809"), looks := false }, kinds := [], alts := [], laidByText := true, laidKinds := [.data], laidTests := true, laidLooks := .later }
def FnExactSetsForUptoCardSaid : Prop := Claim7.holds Tryd.pinned (.plain (OpenSpec.upto fnExactSetsForSpec)) fnExactSetsForUptoCard

/-- THE SECOND FORM's CARD OF 'laws.FnExactSizeOf'. -/
def fnExactSizeOfUptoCard : Claim7 := { stood := { row := fnExactSizeOfUptoRow, standIns := [], harness := (true, "2b7b144c9635fa5e926dc50a0261881bac2ba1a62bb7f5870fb7bb2b71e76809"), looks := false }, kinds := [], alts := [], laidByText := true, laidKinds := [.data], laidTests := true, laidLooks := .later }
def FnExactSizeOfUptoCardSaid : Prop := Claim7.holds Tryd.pinned (.plain (OpenSpec.upto fnExactSizeOfSpec)) fnExactSizeOfUptoCard

/-- THE SECOND FORM's CARD OF 'laws.FnExactEscapeOf'. -/
def fnExactEscapeOfUptoCard : Claim7 := { stood := { row := fnExactEscapeOfUptoRow, standIns := [], harness := (true, "2b7b144c9635fa5e926dc50a0261881bac2ba1a62bb7f5870fb7bb2b71e76809"), looks := false }, kinds := [], alts := [], laidByText := true, laidKinds := [.data], laidTests := true, laidLooks := .later }
def FnExactEscapeOfUptoCardSaid : Prop := Claim7.holds Tryd.pinned (.plain (OpenSpec.upto fnExactEscapeOfSpec)) fnExactEscapeOfUptoCard

/-- THE SECOND FORM's CARD OF 'laws.FnExactTokenText'. -/
def fnExactTokenTextUptoCard : Claim7 := { stood := { row := fnExactTokenTextUptoRow, standIns := [], harness := (true, "2b7b144c9635fa5e926dc50a0261881bac2ba1a62bb7f5870fb7bb2b71e76809"), looks := false }, kinds := [], alts := [], laidByText := true, laidKinds := [.data, .data, .data, .data], laidTests := true, laidLooks := .later }
def FnExactTokenTextUptoCardSaid : Prop := Claim7.holds Tryd.pinned (.plain (OpenSpec.upto fnExactTokenTextSpec)) fnExactTokenTextUptoCard
end Rows
end Go.Proofs.YtlakpddabkmpoaaDoor
