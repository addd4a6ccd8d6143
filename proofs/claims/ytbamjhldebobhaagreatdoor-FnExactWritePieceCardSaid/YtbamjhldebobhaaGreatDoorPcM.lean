/- Decoding in pieces, as plain functions. -/
import Derived.Test.YtbamjhldebobhaaGreatDoorDcM
import Derived.Test.YtbamjhldebobhaaGreatDoorTokM
namespace Go.Proofs.YtbamjhldebobhaaGreatDoor

/-- A decoder. -/
structure De where
  n : Int
  a : Int
  c : Int
  x : St
  r : ByteArray
  b : Bool
  o : Bool
def deV (d : De) : Value := .agg #[.int .i64 d.n, .int .i64 d.a, .int .i64 d.c, .int .i64 d.x.g0, .int .i64 d.x.g1, .int .i64 d.x.g2, .int .i64 d.x.g3, .int .i64 d.x.l, .int .i64 d.x.s, .int .i64 d.x.d, .string d.r, .bool d.b, .bool d.o]
def zeroDe : De := ⟨0, 0, 0, zeroSt, ByteArray.empty, false, false⟩
def newP (n : Int) : De := if proB n = true then ⟨n, 0, 0, startP n, ByteArray.empty, false, false⟩ else zeroDe
def newC (n : Int) : Int := if proB n = true then 0 else 5

/-- The bytes that wait are in order. -/
def waitB (n : Int) (b : Bool) (r : ByteArray) : Bool := if b = true then decide (r.size = 0) || (decide (r.size ≤ 4) && decide ((nextTok r 0).k = 8)) else decide (r.size = 0) || (decide (r.size < (prHead n).size) && hasPre (prHead n) r)
def deOK (d : De) : Bool := proB d.n && (stOKB d.x && (inB d.a 0 1000000000 && (inB d.c 0 18 && (!(d.o && decide (0 < d.r.size)) && (!(decide (d.c ≠ 0) && !d.o) && waitB d.n d.b d.r)))))
/-- It is over, with a code. -/
def failD (d : De) (c : Int) : De := ⟨d.n, d.a, c, d.x, ByteArray.empty, d.b, true⟩
/-- Why it is over. -/
def whyC (d : De) : Int := if d.c = 0 then 17 else d.c

/-- What the tokens of a string leave: the characters, the bytes processed, the code, the state, the bytes that wait. -/
structure Wr where
  z : List Int
  a : Int
  c : Int
  x : St
  r : ByteArray
def wrT (n : Int) (s : ByteArray) : Nat → Nat → Int → St → List Int → Wr
  | 0, _, a, x, z => ⟨z, a, 0, x, ByteArray.empty⟩
  | f + 1, k, a, x, z => if k < s.size then
      (if (nextTok s k).k = 8 then ⟨z, a, 0, x, s.extract k s.size⟩
       else if (stepP n x (nextTok s k)).c = 0 then wrT n s f (k + (nextTok s k).n.toNat) (a + (nextTok s k).n) (stepP n x (nextTok s k)).y (addR z (stepP n x (nextTok s k)).r)
       else ⟨z, a, (stepP n x (nextTok s k)).c, x, ByteArray.empty⟩) else ⟨z, a, 0, x, ByteArray.empty⟩
/-- The decoder behind them. -/
def wrD (d : De) (w : Wr) : De := ⟨d.n, w.a, w.c, w.x, w.r, true, decide (w.c ≠ 0)⟩
/-- The same decoder, with other bytes that wait. -/
def waitD (d : De) (r : ByteArray) : De := ⟨d.n, d.a, d.c, d.x, r, d.b, d.o⟩
structure Pc where
  d : De
  z : List Int
def wrP (d : De) (s : ByteArray) : Pc :=
  if d.b = true then ⟨wrD d (wrT d.n s s.size 0 d.a d.x []), (wrT d.n s s.size 0 d.a d.x []).z⟩
  else if s.size < (prHead d.n).size ∧ hasPre (prHead d.n) s = true then ⟨waitD d s, []⟩
  else if hasPre s (prHead d.n) = false then ⟨failD d 15, []⟩
  else if s.size = 0 then ⟨waitD d s, []⟩
  else ⟨wrD d (wrT d.n s s.size 0 d.a d.x []), (wrT d.n s s.size 0 d.a d.x []).z⟩
/-- WritePiece: the decoder, the characters, the code. -/
structure Wp where
  d : De
  z : List Int
  c : Int
def wpP (d : De) (t : ByteArray) : Wp :=
  if 65536 < t.size then ⟨zeroDe, [], 2⟩
  else if deOK d = false then ⟨zeroDe, [], 1⟩
  else if d.o = true then ⟨d, [], whyC d⟩
  else if 1000000000 < d.a + d.r.size + t.size then ⟨d, [], 7⟩
  else ⟨(wrP d (d.r ++ t)).d, (wrP d (d.r ++ t)).z, (wrP d (d.r ++ t)).d.c⟩
/-- The code with which the input ends. -/
def clC (d : De) : Int := if d.b = false ∧ 0 < (prHead d.n).size then 15 else if 0 < d.r.size then 13 else endC d.n d.x
def clP (d : De) : De := if deOK d = false then zeroDe else if d.o = true then d else failD d (clC d)
def cdC (d : De) : Int := if deOK d = false then 1 else if d.o = true then whyC d else clC d

end Go.Proofs.YtbamjhldebobhaaGreatDoor
