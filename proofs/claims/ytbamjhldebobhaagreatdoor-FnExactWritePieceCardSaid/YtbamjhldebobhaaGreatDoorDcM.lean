/- Decoding, as plain functions. -/
import Derived.Test.YtbamjhldebobhaaGreatDoorPrM
namespace Go.Proofs.YtbamjhldebobhaaGreatDoor

/-- What Decode tells: the characters, the offset, the code. -/
structure Dc where
  z : List Int
  p : Int
  c : Int

/-- The code of a string that ends in a state. -/
def endC (n : Int) (x : St) : Int := if pendB x = true then 13 else if restB n x = true then 0 else 14
/-- From position k on, in state x, the characters z so far. -/
def decT (n : Int) (s : ByteArray) : Nat → Nat → St → List Int → Dc
  | 0, _, x, z => ⟨z, s.size, endC n x⟩
  | f + 1, k, x, z => if k < s.size then (if (stepP n x (nextTok s k)).c = 0 then decT n s f (k + (nextTok s k).n.toNat) (stepP n x (nextTok s k)).y (addR z (stepP n x (nextTok s k)).r) else ⟨z, k, (stepP n x (nextTok s k)).c⟩) else ⟨z, s.size, endC n x⟩
/-- The string begins with the header. -/
def hasPre (s h : ByteArray) : Bool := decide (h.size ≤ s.size) && ((s.extract 0 h.size).toList == h.toList)
def headB (n : Int) (s : ByteArray) : Bool := hasPre s (prHead n)
def decP (n : Int) (s : ByteArray) : Dc := if headB n s = true then decT n s s.size 0 (startP n) [] else ⟨[], 0, 15⟩
/-- The code of a string that is not read at all. -/
def askC (n : Int) (s : ByteArray) : Int := if 65536 < s.size then 2 else if proB n = true then (if 4096 < s.size then 8 else 0) else 5
def dcD (n : Int) (s : ByteArray) : Dc := if askC n s = 0 then decP n s else ⟨[], 0, askC n s⟩

/-- A line that begins behind a fault. -/
def anewX (n : Int) (x : St) : St := if prClear n = true then startP n else ⟨(startP n).g0, x.g1, x.g2, x.g3, 0, 0, 0⟩
/-- The state behind a token with a code, and the characters that it adds. -/
def badX (n : Int) (x : St) (t : Tok) : St := if t.k = 1 ∧ t.a = 10 then anewX n x else ⟨x.g0, x.g1, x.g2, x.g3, x.l, 0, 0⟩
def badZ (t : Tok) : List Int := if t.k = 1 ∧ t.a = 10 then [65533, 10] else [65533]
def pendZ (x : St) (z : List Int) : List Int := if pendB x = true then z ++ [65533] else z
def looT (n : Int) (s : ByteArray) : Nat → Nat → St → List Int → List Int
  | 0, _, x, z => pendZ x z
  | f + 1, k, x, z => if k < s.size then (if (stepP n x (nextTok s k)).c = 0 then looT n s f (k + (nextTok s k).n.toNat) (stepP n x (nextTok s k)).y (addR z (stepP n x (nextTok s k)).r) else looT n s f (k + (nextTok s k).n.toNat) (badX n x (nextTok s k)) (z ++ badZ (nextTok s k))) else pendZ x z
def looP (n : Int) (s : ByteArray) : List Int := looT n s s.size 0 (startP n) (if headB n s = true then [] else [65533])
def looD (n : Int) (s : ByteArray) : List Int := if askC n s = 0 then looP n s else []

end Go.Proofs.YtbamjhldebobhaaGreatDoor
