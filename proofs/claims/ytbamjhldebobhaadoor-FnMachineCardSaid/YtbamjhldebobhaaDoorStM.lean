/- States as plain functions: no program in sight. -/
import Derived.Test.YtbamjhldebobhaaDoorSetsM
import Derived.Test.YtbamjhldebobhaaDoorTokM
namespace Go.Proofs.YtbamjhldebobhaaDoor

/-- A state: the four registers, Left, Single, Lead. -/
structure St where
  g0 : Int
  g1 : Int
  g2 : Int
  g3 : Int
  l : Int
  s : Int
  d : Int
def stV (x : St) : Value := .agg #[.int .i64 x.g0, .int .i64 x.g1, .int .i64 x.g2, .int .i64 x.g3, .int .i64 x.l, .int .i64 x.s, .int .i64 x.d]
def zeroSt : St := ⟨0, 0, 0, 0, 0, 0, 0⟩
def startSt : St := ⟨1, 0, 0, 0, 0, 0, 0⟩
def stGet (x : St) (n : Int) : Int := if n = 0 then x.g0 else if n = 1 then x.g1 else if n = 2 then x.g2 else x.g3
def stPut (x : St) (n v : Int) : St :=
  if n = 0 then ⟨v, x.g1, x.g2, x.g3, x.l, x.s, x.d⟩ else if n = 1 then ⟨x.g0, v, x.g2, x.g3, x.l, x.s, x.d⟩ else if n = 2 then ⟨x.g0, x.g1, v, x.g3, x.l, x.s, x.d⟩ else ⟨x.g0, x.g1, x.g2, v, x.l, x.s, x.d⟩
/-- The register to which a half refers. -/
def sideOf (x : St) (r : Bool) : Int := if 0 < x.s then x.s else if r = true then 1 else x.l

/-- Register n is in order. -/
def regOK (x : St) (n : Int) : Bool := inB (stGet x n) 0 8 && !(decide (n = 0) && (decide (stGet x n = 0) || decide (setKind (stGet x n) = 2)))
def regsOK (x : St) : Bool := regOK x 0 && (regOK x 1 && (regOK x 2 && regOK x 3))
def headOK (x : St) : Bool := inB x.l 0 3 && (decide (x.s = 0) || inB x.s 2 3)
def leadOK (x : St) : Bool := decide (x.d = 0) || (inB (x.d.tmod 128) 33 126 && (inB x.d 33 254 && (decide (0 < stGet x (sideOf x (decide (128 < x.d)))) && decide (setKind (stGet x (sideOf x (decide (128 < x.d)))) = 3))))
def stOKB (x : St) : Bool := regsOK x && (headOK x && leadOK x)
def pendB (x : St) : Bool := decide (0 < x.s) || decide (0 < x.d)
/-- Register n holds a set of 96 codes. -/
def wideB (x : St) (n : Int) : Bool := decide (0 < stGet x n) && decide (setKind (stGet x n) = 2)

end Go.Proofs.YtbamjhldebobhaaDoor
