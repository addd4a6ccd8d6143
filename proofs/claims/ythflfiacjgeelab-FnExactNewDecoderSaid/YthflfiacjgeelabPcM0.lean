/- A decoder, as plain data (a seat without sets). -/
import Derived.Test.YthflfiacjgeelabPrS0
namespace Go.Proofs.Ythflfiacjgeelab

/-- A decoder. -/
structure De where
  n : Int
  a : Int
  c : Int
  x : St
  r : ByteArray
  b : Bool
  o : Bool
def deV (d : De) : Value := .agg #[.int .i64 d.n, .int .i64 d.a, .int .i64 d.c, .int .i64 d.x.g0, .int .i64 d.x.g1, .int .i64 d.x.g2, .int .i64 d.x.g3, .int .i64 d.x.l, .int .i64 d.x.s, .int .i64 d.x.d, .string d.r, .bool d.b, .bool d.o]
def zeroDe : De := ⟨0, 0, 0, zeroSt, ByteArray.empty, false, false⟩
def newP (n : Int) : De := if proB n = true then ⟨n, 0, 0, startP n, ByteArray.empty, false, false⟩ else zeroDe
def newC (n : Int) : Int := if proB n = true then 0 else 5


end Go.Proofs.Ythflfiacjgeelab
