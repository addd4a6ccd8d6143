/- The registry: RuneFor, CodeFor, SetNamed, FindSet of the specification. -/
import Derived.Test.YtbamjhldebobhaaDoorSetsC
namespace Go.Proofs.YtbamjhldebobhaaDoor
open Go.RowKit

def rfC (n code : Int) : Int := if setB n = true then (if codeOKB n code = true then (if runeS (setSpans n) code < 0 then 12 else 0) else 4) else 5
def rfR (n code : Int) : Int := if rfC n code = 0 then runeS (setSpans n) code else 0
def rfV (n code : Int) : Value := .tuple #[.int .i64 (rfR n code), .int .i64 (rfC n code)]
def cfC (n r : Int) : Int := if setB n = true then (if codeS (setSpans n) r = 0 then 12 else 0) else 5
def cfR (n r : Int) : Int := if cfC n r = 0 then codeS (setSpans n) r else 0
def cfV (n r : Int) : Value := .tuple #[.int .i64 (cfR n r), .int .i64 (cfC n r)]

theorem rfV_bad (n code c : Int) (h : rfC n code = c) (h0 : c ≠ 0) : rfV n code = .tuple #[.int .i64 0, .int .i64 c] := by simp [rfV, rfR, h, h0]
theorem rfV_ok (n code : Int) (h : rfC n code = 0) : rfV n code = .tuple #[.int .i64 (runeS (setSpans n) code), .int .i64 0] := by simp [rfV, rfR, h]
theorem cfV_bad (n code c : Int) (h : cfC n code = c) (h0 : c ≠ 0) : cfV n code = .tuple #[.int .i64 0, .int .i64 c] := by simp [cfV, cfR, h, h0]
theorem cfV_ok (n code : Int) (h : cfC n code = 0) : cfV n code = .tuple #[.int .i64 (codeS (setSpans n) code), .int .i64 0] := by simp [cfV, cfR, h]

end Go.Proofs.YtbamjhldebobhaaDoor
