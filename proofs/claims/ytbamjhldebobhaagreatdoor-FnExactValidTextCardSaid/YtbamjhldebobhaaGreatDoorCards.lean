/-
  DERIVED. GIVEN WITH THE SEED: THE CARDS: each row of YtbamjhldebobhaaGreatDoorRows.lean that lists a variable, with what it lists TIED to the program's text (the seventh form; the later family's looks); each row that meets fmt, with fmt's text TOLD by the authors' own Lean function (tested against real Go, not proved from fmt's source: count such statements apart). THE CARD IS WHAT COUNTS. Prove the row's statement (the work); the ties are given (YtbamjhldebobhaaGreatDoorTie.lean); close each card by the builder's one call (the guide's Derived/Test/ToyasCard.lean, 'card_holds'). Laid BY PROGRAM, IN A SANDBOX (cutbox-door.mjs). By AI agents, Wed Nov 11 2026. No macro, syntax, notation, axiom, sorry.
-/
import Derived.Test.YtbamjhldebobhaaGreatDoorRows
import GoSem.ClaimSeven
namespace Go.Proofs.YtbamjhldebobhaaGreatDoor
namespace Rows

/-- THE TIED CARD OF 'laws.FnExactDecode'. -/
def fnExactDecodeCard : Claim7 := { stood := { row := fnExactDecodeRow, standIns := [], harness := (true, "6ef9a837ed272f8f1d51d12172f21fd82ebb8cd0a413576e134024f2ea8b81bd"), looks := true }, kinds := [], alts := [], laidByText := true, laidKinds := [.data], laidTests := true, laidLooks := .later }
def FnExactDecodeCardSaid : Prop := Claim7.holds Tryz.pinned (.plain (OpenSpec.ofChange fnExactDecodeSpec)) fnExactDecodeCard

/-- THE TIED CARD OF 'laws.FnExactDecodeLoose'. -/
def fnExactDecodeLooseCard : Claim7 := { stood := { row := fnExactDecodeLooseRow, standIns := [], harness := (true, "6ef9a837ed272f8f1d51d12172f21fd82ebb8cd0a413576e134024f2ea8b81bd"), looks := true }, kinds := [], alts := [], laidByText := true, laidKinds := [.data], laidTests := true, laidLooks := .later }
def FnExactDecodeLooseCardSaid : Prop := Claim7.holds Tryz.pinned (.plain (OpenSpec.ofChange fnExactDecodeLooseSpec)) fnExactDecodeLooseCard

/-- THE TIED CARD OF 'laws.FnExactValidText'. -/
def fnExactValidTextCard : Claim7 := { stood := { row := fnExactValidTextRow, standIns := [], harness := (true, "6ef9a837ed272f8f1d51d12172f21fd82ebb8cd0a413576e134024f2ea8b81bd"), looks := true }, kinds := [], alts := [], laidByText := true, laidKinds := [.data], laidTests := true, laidLooks := .later }
def FnExactValidTextCardSaid : Prop := Claim7.holds Tryz.pinned (.plain (OpenSpec.ofChange fnExactValidTextSpec)) fnExactValidTextCard

/-- THE TIED CARD OF 'laws.FnExactGoodUpTo'. -/
def fnExactGoodUpToCard : Claim7 := { stood := { row := fnExactGoodUpToRow, standIns := [], harness := (true, "6ef9a837ed272f8f1d51d12172f21fd82ebb8cd0a413576e134024f2ea8b81bd"), looks := true }, kinds := [], alts := [], laidByText := true, laidKinds := [.data], laidTests := true, laidLooks := .later }
def FnExactGoodUpToCardSaid : Prop := Claim7.holds Tryz.pinned (.plain (OpenSpec.ofChange fnExactGoodUpToSpec)) fnExactGoodUpToCard

/-- THE TIED CARD OF 'laws.FnExactWritePiece'. -/
def fnExactWritePieceCard : Claim7 := { stood := { row := fnExactWritePieceRow, standIns := [], harness := (true, "6ef9a837ed272f8f1d51d12172f21fd82ebb8cd0a413576e134024f2ea8b81bd"), looks := true }, kinds := [], alts := [], laidByText := true, laidKinds := [.data, .data], laidTests := true, laidLooks := .later }
def FnExactWritePieceCardSaid : Prop := Claim7.holds Tryz.pinned (.plain (OpenSpec.ofChange fnExactWritePieceSpec)) fnExactWritePieceCard

/-- THE TIED CARD OF 'laws.FnExactEncode'. -/
def fnExactEncodeCard : Claim7 := { stood := { row := fnExactEncodeRow, standIns := [], harness := (true, "6ef9a837ed272f8f1d51d12172f21fd82ebb8cd0a413576e134024f2ea8b81bd"), looks := true }, kinds := [], alts := [], laidByText := true, laidKinds := [.data], laidTests := true, laidLooks := .later }
def FnExactEncodeCardSaid : Prop := Claim7.holds Tryz.pinned (.plain (OpenSpec.ofChange fnExactEncodeSpec)) fnExactEncodeCard

/-- THE TIED CARD OF 'laws.FnWaits'. -/
def fnWaitsCard : Claim7 := { stood := { row := fnWaitsRow, standIns := [], harness := (true, "6ef9a837ed272f8f1d51d12172f21fd82ebb8cd0a413576e134024f2ea8b81bd"), looks := true }, kinds := [], alts := [], laidByText := true, laidKinds := [.data, .data], laidTests := true, laidLooks := .later }
def FnWaitsCardSaid : Prop := Claim7.holds Tryz.pinned (.plain (OpenSpec.ofChange fnWaitsSpec)) fnWaitsCard

/-- THE SECOND FORM's CARD OF 'laws.FnExactDecode'. -/
def fnExactDecodeUptoCard : Claim7 := { stood := { row := fnExactDecodeUptoRow, standIns := [], harness := (true, "6ef9a837ed272f8f1d51d12172f21fd82ebb8cd0a413576e134024f2ea8b81bd"), looks := true }, kinds := [], alts := [], laidByText := true, laidKinds := [.data], laidTests := true, laidLooks := .later }
def FnExactDecodeUptoCardSaid : Prop := Claim7.holds Tryz.pinned (.plain (OpenSpec.upto fnExactDecodeSpec)) fnExactDecodeUptoCard

/-- THE SECOND FORM's CARD OF 'laws.FnExactDecodeLoose'. -/
def fnExactDecodeLooseUptoCard : Claim7 := { stood := { row := fnExactDecodeLooseUptoRow, standIns := [], harness := (true, "6ef9a837ed272f8f1d51d12172f21fd82ebb8cd0a413576e134024f2ea8b81bd"), looks := true }, kinds := [], alts := [], laidByText := true, laidKinds := [.data], laidTests := true, laidLooks := .later }
def FnExactDecodeLooseUptoCardSaid : Prop := Claim7.holds Tryz.pinned (.plain (OpenSpec.upto fnExactDecodeLooseSpec)) fnExactDecodeLooseUptoCard

/-- THE SECOND FORM's CARD OF 'laws.FnExactValidText'. -/
def fnExactValidTextUptoCard : Claim7 := { stood := { row := fnExactValidTextUptoRow, standIns := [], harness := (true, "6ef9a837ed272f8f1d51d12172f21fd82ebb8cd0a413576e134024f2ea8b81bd"), looks := true }, kinds := [], alts := [], laidByText := true, laidKinds := [.data], laidTests := true, laidLooks := .later }
def FnExactValidTextUptoCardSaid : Prop := Claim7.holds Tryz.pinned (.plain (OpenSpec.upto fnExactValidTextSpec)) fnExactValidTextUptoCard

/-- THE SECOND FORM's CARD OF 'laws.FnExactGoodUpTo'. -/
def fnExactGoodUpToUptoCard : Claim7 := { stood := { row := fnExactGoodUpToUptoRow, standIns := [], harness := (true, "6ef9a837ed272f8f1d51d12172f21fd82ebb8cd0a413576e134024f2ea8b81bd"), looks := true }, kinds := [], alts := [], laidByText := true, laidKinds := [.data], laidTests := true, laidLooks := .later }
def FnExactGoodUpToUptoCardSaid : Prop := Claim7.holds Tryz.pinned (.plain (OpenSpec.upto fnExactGoodUpToSpec)) fnExactGoodUpToUptoCard

/-- THE SECOND FORM's CARD OF 'laws.FnExactWritePiece'. -/
def fnExactWritePieceUptoCard : Claim7 := { stood := { row := fnExactWritePieceUptoRow, standIns := [], harness := (true, "6ef9a837ed272f8f1d51d12172f21fd82ebb8cd0a413576e134024f2ea8b81bd"), looks := true }, kinds := [], alts := [], laidByText := true, laidKinds := [.data, .data], laidTests := true, laidLooks := .later }
def FnExactWritePieceUptoCardSaid : Prop := Claim7.holds Tryz.pinned (.plain (OpenSpec.upto fnExactWritePieceSpec)) fnExactWritePieceUptoCard

/-- THE SECOND FORM's CARD OF 'laws.FnExactEncode'. -/
def fnExactEncodeUptoCard : Claim7 := { stood := { row := fnExactEncodeUptoRow, standIns := [], harness := (true, "6ef9a837ed272f8f1d51d12172f21fd82ebb8cd0a413576e134024f2ea8b81bd"), looks := true }, kinds := [], alts := [], laidByText := true, laidKinds := [.data], laidTests := true, laidLooks := .later }
def FnExactEncodeUptoCardSaid : Prop := Claim7.holds Tryz.pinned (.plain (OpenSpec.upto fnExactEncodeSpec)) fnExactEncodeUptoCard

/-- THE SECOND FORM's CARD OF 'laws.FnWaits'. -/
def fnWaitsUptoCard : Claim7 := { stood := { row := fnWaitsUptoRow, standIns := [], harness := (true, "6ef9a837ed272f8f1d51d12172f21fd82ebb8cd0a413576e134024f2ea8b81bd"), looks := true }, kinds := [], alts := [], laidByText := true, laidKinds := [.data, .data], laidTests := true, laidLooks := .later }
def FnWaitsUptoCardSaid : Prop := Claim7.holds Tryz.pinned (.plain (OpenSpec.upto fnWaitsSpec)) fnWaitsUptoCard
end Rows
end Go.Proofs.YtbamjhldebobhaaGreatDoor
