/-
  DERIVED. GIVEN WITH THE SEED: THE CARDS: each row of YtdckjhobikfggaaDoorRows.lean that lists a variable, with what it lists TIED to the program's text (the seventh form; the later family's looks); each row that meets fmt, with fmt's text TOLD by the authors' own Lean function (tested against real Go, not proved from fmt's source: count such statements apart). THE CARD IS WHAT COUNTS. Prove the row's statement (the work); the ties are given (YtdckjhobikfggaaDoorTie.lean); close each card by the builder's one call (the guide's Derived/Test/ToyasCard.lean, 'card_holds'). Laid BY PROGRAM, IN A SANDBOX (cutbox-door.mjs). By AI agents, Wed Nov 11 2026. No macro, syntax, notation, axiom, sorry.
-/
import Derived.Test.YtdckjhobikfggaaDoorRows
import GoSem.ClaimSeven
namespace Go.Proofs.YtdckjhobikfggaaDoor
namespace Rows

/-- THE TIED CARD OF 'laws.FnUtf'. -/
def fnUtfCard : Claim7 := { stood := { row := fnUtfRow, standIns := [], harness := (true, "b2d81efe2d5f2e343de6867367fe99b401b3fc08a3d323bdb0eef8cb2b61b87f"), looks := true }, kinds := [], alts := [], laidByText := true, laidKinds := [.handle, .sentinel, .sentinel], laidTests := true, laidLooks := .later }
def FnUtfCardSaid : Prop := Claim7.holds Tryd.pinned (.plain (OpenSpec.ofChange fnUtfSpec)) fnUtfCard

/-- THE TIED CARD OF 'laws.FnExactTakeRune'. -/
def fnExactTakeRuneCard : Claim7 := { stood := { row := fnExactTakeRuneRow, standIns := [], harness := (true, "b2d81efe2d5f2e343de6867367fe99b401b3fc08a3d323bdb0eef8cb2b61b87f"), looks := true }, kinds := [], alts := [], laidByText := true, laidKinds := [.sentinel, .sentinel], laidTests := true, laidLooks := .later }
def FnExactTakeRuneCardSaid : Prop := Claim7.holds Tryd.pinned (.plain (OpenSpec.ofChange fnExactTakeRuneSpec)) fnExactTakeRuneCard

/-- THE TIED CARD OF 'laws.FnExactCloseDecoder'. -/
def fnExactCloseDecoderCard : Claim7 := { stood := { row := fnExactCloseDecoderRow, standIns := [], harness := (true, "b2d81efe2d5f2e343de6867367fe99b401b3fc08a3d323bdb0eef8cb2b61b87f"), looks := true }, kinds := [], alts := [], laidByText := true, laidKinds := [.data, .data], laidTests := true, laidLooks := .later }
def FnExactCloseDecoderCardSaid : Prop := Claim7.holds Tryd.pinned (.plain (OpenSpec.ofChange fnExactCloseDecoderSpec)) fnExactCloseDecoderCard

/-- THE TIED CARD OF 'laws.FnExactEncoderOK'. -/
def fnExactEncoderOKCard : Claim7 := { stood := { row := fnExactEncoderOKRow, standIns := [], harness := (true, "b2d81efe2d5f2e343de6867367fe99b401b3fc08a3d323bdb0eef8cb2b61b87f"), looks := true }, kinds := [], alts := [], laidByText := true, laidKinds := [.data, .sentinel, .sentinel, .data], laidTests := true, laidLooks := .later }
def FnExactEncoderOKCardSaid : Prop := Claim7.holds Tryd.pinned (.plain (OpenSpec.ofChange fnExactEncoderOKSpec)) fnExactEncoderOKCard

/-- THE TIED CARD OF 'laws.FnExactSameEncoder'. -/
def fnExactSameEncoderCard : Claim7 := { stood := { row := fnExactSameEncoderRow, standIns := [], harness := (true, "b2d81efe2d5f2e343de6867367fe99b401b3fc08a3d323bdb0eef8cb2b61b87f"), looks := true }, kinds := [], alts := [], laidByText := true, laidKinds := [.data, .sentinel, .sentinel, .data], laidTests := true, laidLooks := .later }
def FnExactSameEncoderCardSaid : Prop := Claim7.holds Tryd.pinned (.plain (OpenSpec.ofChange fnExactSameEncoderSpec)) fnExactSameEncoderCard

/-- THE SECOND FORM's CARD OF 'laws.FnUtf'. -/
def fnUtfUptoCard : Claim7 := { stood := { row := fnUtfUptoRow, standIns := [], harness := (true, "b2d81efe2d5f2e343de6867367fe99b401b3fc08a3d323bdb0eef8cb2b61b87f"), looks := true }, kinds := [], alts := [], laidByText := true, laidKinds := [.handle, .sentinel, .sentinel], laidTests := true, laidLooks := .later }
def FnUtfUptoCardSaid : Prop := Claim7.holds Tryd.pinned (.plain (OpenSpec.upto fnUtfSpec)) fnUtfUptoCard

/-- THE SECOND FORM's CARD OF 'laws.FnExactTakeRune'. -/
def fnExactTakeRuneUptoCard : Claim7 := { stood := { row := fnExactTakeRuneUptoRow, standIns := [], harness := (true, "b2d81efe2d5f2e343de6867367fe99b401b3fc08a3d323bdb0eef8cb2b61b87f"), looks := true }, kinds := [], alts := [], laidByText := true, laidKinds := [.sentinel, .sentinel], laidTests := true, laidLooks := .later }
def FnExactTakeRuneUptoCardSaid : Prop := Claim7.holds Tryd.pinned (.plain (OpenSpec.upto fnExactTakeRuneSpec)) fnExactTakeRuneUptoCard

/-- THE SECOND FORM's CARD OF 'laws.FnExactCloseDecoder'. -/
def fnExactCloseDecoderUptoCard : Claim7 := { stood := { row := fnExactCloseDecoderUptoRow, standIns := [], harness := (true, "b2d81efe2d5f2e343de6867367fe99b401b3fc08a3d323bdb0eef8cb2b61b87f"), looks := true }, kinds := [], alts := [], laidByText := true, laidKinds := [.data, .data], laidTests := true, laidLooks := .later }
def FnExactCloseDecoderUptoCardSaid : Prop := Claim7.holds Tryd.pinned (.plain (OpenSpec.upto fnExactCloseDecoderSpec)) fnExactCloseDecoderUptoCard

/-- THE SECOND FORM's CARD OF 'laws.FnExactEncoderOK'. -/
def fnExactEncoderOKUptoCard : Claim7 := { stood := { row := fnExactEncoderOKUptoRow, standIns := [], harness := (true, "b2d81efe2d5f2e343de6867367fe99b401b3fc08a3d323bdb0eef8cb2b61b87f"), looks := true }, kinds := [], alts := [], laidByText := true, laidKinds := [.data, .sentinel, .sentinel, .data], laidTests := true, laidLooks := .later }
def FnExactEncoderOKUptoCardSaid : Prop := Claim7.holds Tryd.pinned (.plain (OpenSpec.upto fnExactEncoderOKSpec)) fnExactEncoderOKUptoCard

/-- THE SECOND FORM's CARD OF 'laws.FnExactSameEncoder'. -/
def fnExactSameEncoderUptoCard : Claim7 := { stood := { row := fnExactSameEncoderUptoRow, standIns := [], harness := (true, "b2d81efe2d5f2e343de6867367fe99b401b3fc08a3d323bdb0eef8cb2b61b87f"), looks := true }, kinds := [], alts := [], laidByText := true, laidKinds := [.data, .sentinel, .sentinel, .data], laidTests := true, laidLooks := .later }
def FnExactSameEncoderUptoCardSaid : Prop := Claim7.holds Tryd.pinned (.plain (OpenSpec.upto fnExactSameEncoderSpec)) fnExactSameEncoderUptoCard
end Rows
end Go.Proofs.YtdckjhobikfggaaDoor
