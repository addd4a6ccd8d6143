/- Profiles as plain functions: no program in sight. -/
import Derived.Test.YtbamjhldebobhaaGreatDoorStN
import Derived.Test.YtbamjhldebobhaaGreatDoorPrS
namespace Go.Proofs.YtbamjhldebobhaaGreatDoor
open Go.RowKit

/-- What the table says of profile n (every number but 1 to 4 as of 5). -/
def prName (n : Int) : ByteArray := if n = 1 then ⟨#[106, 112]⟩ else if n = 2 then ⟨#[106, 112, 50]⟩ else if n = 3 then ⟨#[107, 114]⟩ else if n = 4 then ⟨#[99, 110]⟩ else ⟨#[99, 116]⟩
def prHead (n : Int) : ByteArray := if n = 3 then ⟨#[27, 36, 41, 67]⟩ else ⟨#[]⟩
def prSet0 (n : Int) : List Int := if n = 1 then [1, 2, 6] else if n = 2 then [1, 2, 6, 7, 8] else if n = 3 then [1] else if n = 4 then [1] else [1, 2, 6, 7, 8]
def prSet1 (n : Int) : List Int := if n = 1 then [] else if n = 2 then [] else if n = 3 then [7] else if n = 4 then [7, 8] else [3, 4, 5, 6, 7, 8]
def prSet2 (n : Int) : List Int := if n = 2 then [4, 5] else if n = 4 then [3, 6] else []
def prSets (n : Int) (g : Int) : List Int := if g = 0 then prSet0 n else if g = 1 then prSet1 n else if g = 2 then prSet2 n else []
def prRight (n : Int) : Bool := !(decide (n = 1) || decide (n = 2) || decide (n = 3) || decide (n = 4))
def prShifts (n : Int) : Bool := decide (n = 3) || decide (n = 4)
def prSingle (n : Int) : Bool := decide (n = 2) || decide (n = 4)
def prReset (n : Int) : Bool := decide (n = 1) || decide (n = 2) || decide (n = 3) || decide (n = 4)
def prClear (n : Int) : Bool := decide (n = 1) || decide (n = 2) || decide (n = 4)

/-- AllowsToken of a valid token. -/
def allowB (n : Int) (t : Tok) : Bool :=
  if t.k = 1 then decide (t.a < 128) else if t.k = 2 then true else if t.k = 3 then true else if t.k = 4 then prRight n else
  if t.k = 5 then prShifts n && decide (t.a < 2) else if t.k = 6 then prSingle n && (decide (t.a = 2) && decide (t.n = 2)) else
  if t.k = 7 then (prSets n t.a).contains (findNo t.b t.c) else false
/-- A line may end. -/
def restB (n : Int) (x : St) : Bool := !pendB x && (!prReset n || (decide (x.l = 0) && decide (x.g0 = 1)))
/-- The state behind a line's end. -/
def lineX (n : Int) (x : St) : St := if prClear n = true then startP n else x
def stepP (n : Int) (x : St) (t : Tok) : Stp :=
  if t.k = 8 then ⟨x, -1, 13⟩ else if t.k = 9 ∨ (t.k = 7 ∧ findNo t.b t.c = 0) then ⟨x, -1, 10⟩ else if allowB n t = false then ⟨x, -1, 11⟩ else
  if (stepT x t).c ≠ 0 then ⟨x, -1, (stepT x t).c⟩ else
  if t.k = 1 ∧ t.a = 10 then (if restB n x = true then ⟨lineX n (stepT x t).y, (stepT x t).r, 0⟩ else ⟨x, -1, 14⟩) else ⟨(stepT x t).y, (stepT x t).r, 0⟩

end Go.Proofs.YtbamjhldebobhaaGreatDoor
