/-
  DERIVED. GIVEN WITH THE SEED: THE CARDS: each row of YthflfiacjgeelabDoorRows.lean that lists a variable, with what it lists TIED to the program's text (the seventh form; the later family's looks); each row that meets fmt, with fmt's text TOLD by the authors' own Lean function (tested against real Go, not proved from fmt's source: count such statements apart). THE CARD IS WHAT COUNTS. Prove the row's statement (the work); the ties are given (YthflfiacjgeelabDoorTie.lean); close each card by the builder's one call (the guide's Derived/Test/ToyasCard.lean, 'card_holds'). Laid BY PROGRAM, IN A SANDBOX (cutbox-door.mjs). By AI agents, Wed Nov 11 2026. No macro, syntax, notation, axiom, sorry.
-/
import Derived.Test.YthflfiacjgeelabDoorRows
import GoSem.ClaimSeven
namespace Go.Proofs.YthflfiacjgeelabDoor
namespace Rows

/-- THE TIED CARD OF 'laws.FnExactDecoderOK'. -/
def fnExactDecoderOKCard : Claim7 := { stood := { row := fnExactDecoderOKRow, standIns := [], harness := (true, "cd53ce99df9c7b975b2041d30a02c08b66b33e82010d7e14fc838ee668533a70"), looks := false }, kinds := [], alts := [], laidByText := true, laidKinds := [.data, .data], laidTests := true, laidLooks := .later }
def FnExactDecoderOKCardSaid : Prop := Claim7.holds Tryd.pinned (.plain (OpenSpec.ofChange fnExactDecoderOKSpec)) fnExactDecoderOKCard

/-- THE TIED CARD OF 'laws.FnExactCloseDecoder'. -/
def fnExactCloseDecoderCard : Claim7 := { stood := { row := fnExactCloseDecoderRow, standIns := [], harness := (true, "cd53ce99df9c7b975b2041d30a02c08b66b33e82010d7e14fc838ee668533a70"), looks := false }, kinds := [], alts := [], laidByText := true, laidKinds := [.data, .data], laidTests := true, laidLooks := .later }
def FnExactCloseDecoderCardSaid : Prop := Claim7.holds Tryd.pinned (.plain (OpenSpec.ofChange fnExactCloseDecoderSpec)) fnExactCloseDecoderCard

/-- THE SECOND FORM's CARD OF 'laws.FnExactDecoderOK'. -/
def fnExactDecoderOKUptoCard : Claim7 := { stood := { row := fnExactDecoderOKUptoRow, standIns := [], harness := (true, "cd53ce99df9c7b975b2041d30a02c08b66b33e82010d7e14fc838ee668533a70"), looks := false }, kinds := [], alts := [], laidByText := true, laidKinds := [.data, .data], laidTests := true, laidLooks := .later }
def FnExactDecoderOKUptoCardSaid : Prop := Claim7.holds Tryd.pinned (.plain (OpenSpec.upto fnExactDecoderOKSpec)) fnExactDecoderOKUptoCard

/-- THE SECOND FORM's CARD OF 'laws.FnExactCloseDecoder'. -/
def fnExactCloseDecoderUptoCard : Claim7 := { stood := { row := fnExactCloseDecoderUptoRow, standIns := [], harness := (true, "cd53ce99df9c7b975b2041d30a02c08b66b33e82010d7e14fc838ee668533a70"), looks := false }, kinds := [], alts := [], laidByText := true, laidKinds := [.data, .data], laidTests := true, laidLooks := .later }
def FnExactCloseDecoderUptoCardSaid : Prop := Claim7.holds Tryd.pinned (.plain (OpenSpec.upto fnExactCloseDecoderSpec)) fnExactCloseDecoderUptoCard
end Rows
end Go.Proofs.YthflfiacjgeelabDoor
