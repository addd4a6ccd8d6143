/- Moves, forms, and what can be encoded, as plain functions. -/
import Derived.Test.YtdckjhobikfggaaDoorPrM
import Derived.Test.YtdckjhobikfggaaDoorEscA
import Derived.Test.YtdckjhobikfggaaDoorSetsD
namespace Go.Proofs.YtdckjhobikfggaaDoor

/-- A move: its bytes, and the state behind it. -/
abbrev Mv := ByteArray × St
/-- The designations at register g of those of the sets that it does not hold. -/
def movesG (x : St) (g : Nat) (qs : List Int) : List Mv := (qs.filter fun q => decide (q ≠ stGet x g)).map fun q => (escB g (setKind q) (setFinal q), stPut x g q)
def leftTo (x : St) (l : Int) : St := ⟨x.g0, x.g1, x.g2, x.g3, l, x.s, x.d⟩
def shiftMv (n : Int) (x : St) : List Mv := if prShifts n = true then (if x.l = 0 then [(⟨#[14]⟩, leftTo x 1)] else if x.l = 1 then [(⟨#[15]⟩, leftTo x 0)] else []) else []
def movesP (n : Int) (x : St) : List Mv := movesG x 0 (prSet0 n) ++ movesG x 1 (prSet1 n) ++ movesG x 2 (prSet2 n) ++ shiftMv n x
/-- A state in which a character can be written. -/
def calmB (x : St) : Bool := stOKB x && (!pendB x && decide (x.l ≤ 1))
def mvC (n : Int) (x : St) : Int := if proB n = true then (if calmB x = true then 0 else 1) else 5
def mvZ (n : Int) (x : St) : List Mv := if mvC n x = 0 then movesP n x else []

/-- The bytes of a code, with the number of its half added. -/
def codeT (c side : Int) : ByteArray := if 255 < c then bs [c / 256 + side, c % 256 + side] else bs [c + side]
/-- A character that is written as the byte with its number. -/
def ownR (r : Int) : Bool := decide (r < 33) || decide (r = 127)
def ownF (n : Int) (x : St) (r : Int) : List ByteArray := if !(decide (r = 32) && wideB x x.l) && (decide (r ≠ 14) && (decide (r ≠ 15) && (decide (r ≠ 27) && (decide (0 ≤ r) && (decide (r ≠ 10) || restB n x))))) then [bs [r]] else []
def codeOf (q r : Int) : Int := if 0 < q then codeS (setSpans q) r else 0
def formL (x : St) (r : Int) : List ByteArray := if 127 < codeOf (stGet x x.l) r ∨ inB (codeOf (stGet x x.l) r) 33 126 = true then [codeT (codeOf (stGet x x.l) r) 0] else []
def formR (n : Int) (x : St) (r : Int) : List ByteArray := if prRight n = true ∧ 0 < codeOf x.g1 r then [codeT (codeOf x.g1 r) 128] else []
def formS (n : Int) (x : St) (r : Int) : List ByteArray := if prSingle n = true ∧ 0 < codeOf x.g2 r ∧ codeOf x.g2 r ≠ 127 then [(⟨#[27, 78]⟩ : ByteArray) ++ codeT (codeOf x.g2 r) 0] else []
def formsP (n : Int) (x : St) (r : Int) : List ByteArray := if ownR r = true then ownF n x r else formL x r ++ formR n x r ++ formS n x r
def fmC (n : Int) (x : St) (r : Int) : Int := if proB n = true then (if calmB x = true then (if okB r = true then 0 else 4) else 1) else 5
def fmZ (n : Int) (x : St) (r : Int) : List ByteArray := if fmC n x r = 0 then formsP n x r else []

/-- A set of register g has the character. -/
def canG (g r : Int) (qs : List Int) : Bool := qs.any fun q => decide (0 < codeS (setSpans q) r) && (decide (g ≠ 2) || decide (codeS (setSpans q) r ≠ 127))
def canB (n r : Int) : Bool := if ownR r = true then (decide (r ≠ 14) && (decide (r ≠ 15) && decide (r ≠ 27))) else canG 0 r (prSet0 n) || (canG 1 r (prSet1 n) || canG 2 r (prSet2 n))
def ceC (n r : Int) : Int := if proB n = true then (if okB r = true then 0 else 4) else 5
def ceB (n r : Int) : Bool := decide (ceC n r = 0) && canB n r

end Go.Proofs.YtdckjhobikfggaaDoor
