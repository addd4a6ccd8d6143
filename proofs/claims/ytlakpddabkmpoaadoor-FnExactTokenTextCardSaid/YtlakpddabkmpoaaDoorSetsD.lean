/- The registry: RuneFor, CodeFor, SetNamed, FindSet of the specification. -/
import Derived.Test.YtlakpddabkmpoaaDoorSetsC
namespace Go.Proofs.YtlakpddabkmpoaaDoor
open Go.RowKit

def rfC (n code : Int) : Int := if setB n = true then (if codeOKB n code = true then (if runeS (setSpans n) code < 0 then 12 else 0) else 4) else 5
def rfR (n code : Int) : Int := if rfC n code = 0 then runeS (setSpans n) code else 0
def rfV (n code : Int) : Value := .tuple #[.int .i64 (rfR n code), .int .i64 (rfC n code)]
def cfC (n r : Int) : Int := if setB n = true then (if codeS (setSpans n) r = 0 then 12 else 0) else 5
def cfR (n r : Int) : Int := if cfC n r = 0 then codeS (setSpans n) r else 0
def cfV (n r : Int) : Value := .tuple #[.int .i64 (cfR n r), .int .i64 (cfC n r)]

theorem rfV_bad (n code c : Int) (h : rfC n code = c) (h0 : c ≠ 0) : rfV n code = .tuple #[.int .i64 0, .int .i64 c] := by simp [rfV, rfR, h, h0]
theorem rfV_ok (n code : Int) (h : rfC n code = 0) : rfV n code = .tuple #[.int .i64 (runeS (setSpans n) code), .int .i64 0] := by simp [rfV, rfR, h]
theorem cfV_bad (n code c : Int) (h : cfC n code = c) (h0 : c ≠ 0) : cfV n code = .tuple #[.int .i64 0, .int .i64 c] := by simp [cfV, cfR, h, h0]
theorem cfV_ok (n code : Int) (h : cfC n code = 0) : cfV n code = .tuple #[.int .i64 (codeS (setSpans n) code), .int .i64 0] := by simp [cfV, cfR, h]

set_option maxHeartbeats 1000000 in
theorem spec_RuneFor (n code : Int) (w : World) (h1 : code ≤ 9223372036854775807) : Calls Tryd.prog 32 #[.int .i64 n, .int .i64 code] w fun e w' => e = .returned (rfV n code) ∧ Below w.heap.size w w' := by
  cases hn : setB n
  · have HE := Lib.hid (rfV_bad n code 5 (by simp [rfC, hn]) (by decide))
    go_enter Tryd.func32, Tryd.ntmps32
    go_wp2_with fail
    refine (spec_l01In n 1 8 w).mono ?_
    rintro e w1 ⟨rfl, rfl⟩
    rw [show inB n 1 8 = false from hn]
    go_wp2
    go_ret2
    exact ⟨ret_val HE.out.symm, Below.refl _ _⟩
  · by_cases h0 : 0 ≤ code
    · cases hk : kindB (setKind n) code
      · have HE := Lib.hid (rfV_bad n code 4 (by simp [rfC, codeOKB, hn, hk]) (by decide))
        go_enter Tryd.func32, Tryd.ntmps32
        go_wp2_with fail
        refine (spec_l01In n 1 8 w).mono ?_
        rintro e w1 ⟨rfl, rfl⟩
        rw [show inB n 1 8 = true from hn]
        go_wp2_with fail
        refine (spec_l02Set n w).mono ?_
        rintro e w1 ⟨g, rfl, hg, hblk, b1⟩
        clear hblk
        unfold setV
        have F1 := setField1
        go_wp2_with fail
        refine (spec_l02Code (setKind n) code w1 h0 h1).mono ?_
        rintro e w2 ⟨rfl, rfl⟩
        rw [hk]
        go_wp2
        go_ret2
        exact ⟨ret_val HE.out.symm, b1⟩
      · have HC : Hid (codeOKB n code = true) := Lib.hid (by simp [codeOKB, hn, hk, h0])
        go_enter Tryd.func32, Tryd.ntmps32
        go_wp2_with fail
        refine (spec_l01In n 1 8 w).mono ?_
        rintro e w1 ⟨rfl, rfl⟩
        rw [show inB n 1 8 = true from hn]
        go_wp2_with fail
        refine (spec_l02Set n w).mono ?_
        rintro e w1 ⟨g, rfl, hg, hblk, b1⟩
        clear hblk
        unfold setV
        have F1 := setField1
        go_wp2_with fail
        refine (spec_l02Code (setKind n) code w1 h0 h1).mono ?_
        rintro e w2 ⟨rfl, rfl⟩
        rw [hk]
        go_wp2_with fail
        refine (spec_l02Rune n code w1).mono ?_
        rintro e w2 ⟨rfl, b2⟩
        have B2 : Below w.heap.size w w2 := b1.trans (b2.mono b1.size)
        by_cases hr : runeS (setSpans n) code < 0
        · have HE := Lib.hid (rfV_bad n code 12 (by simp [rfC, hn, HC.out, hr]) (by decide))
          go_wp2
          go_ret2
          exact ⟨ret_val HE.out.symm, B2⟩
        · have HE := Lib.hid (rfV_ok n code (by simp [rfC, hn, HC.out, hr]))
          go_wp2
          go_ret2
          exact ⟨ret_val HE.out.symm, B2⟩
    · have HE := Lib.hid (rfV_bad n code 4 (by simp [rfC, codeOKB, hn, h0]) (by decide))
      have hneg : code < 0 := by omega
      go_enter Tryd.func32, Tryd.ntmps32
      go_wp2_with fail
      refine (spec_l01In n 1 8 w).mono ?_
      rintro e w1 ⟨rfl, rfl⟩
      rw [show inB n 1 8 = true from hn]
      go_wp2
      go_ret2
      exact ⟨ret_val HE.out.symm, Below.refl _ _⟩

set_option maxHeartbeats 1000000 in
theorem spec_CodeFor (n r : Int) (w : World) : Calls Tryd.prog 33 #[.int .i64 n, .int .i64 r] w fun e w' => e = .returned (cfV n r) ∧ Below w.heap.size w w' := by
  cases hn : setB n
  · have HE := Lib.hid (cfV_bad n r 5 (by simp [cfC, hn]) (by decide))
    go_enter Tryd.func33, Tryd.ntmps33
    go_wp2_with fail
    refine (spec_l01In n 1 8 w).mono ?_
    rintro e w1 ⟨rfl, rfl⟩
    rw [show inB n 1 8 = false from hn]
    go_wp2
    go_ret2
    exact ⟨ret_val HE.out.symm, Below.refl _ _⟩
  · go_enter Tryd.func33, Tryd.ntmps33
    go_wp2_with fail
    refine (spec_l01In n 1 8 w).mono ?_
    rintro e w1 ⟨rfl, rfl⟩
    rw [show inB n 1 8 = true from hn]
    go_wp2_with fail
    refine (spec_l02For n r w).mono ?_
    rintro e w2 ⟨rfl, b2⟩
    by_cases hr : codeS (setSpans n) r = 0
    · have HE := Lib.hid (cfV_bad n r 12 (by simp [cfC, hn, hr]) (by decide))
      rw [hr]
      go_wp2
      go_ret2
      exact ⟨ret_val HE.out.symm, b2⟩
    · have HE := Lib.hid (cfV_ok n r (by simp [cfC, hn, hr]))
      have hz : (codeS (setSpans n) r == 0) = false := by simpa using hr
      go_wp2
      go_ret2
      exact ⟨ret_val HE.out.symm, b2⟩

end Go.Proofs.YtlakpddabkmpoaaDoor
