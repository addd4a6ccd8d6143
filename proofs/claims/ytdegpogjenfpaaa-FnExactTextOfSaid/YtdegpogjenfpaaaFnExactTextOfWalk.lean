/- The walk of 'FnExactTextOf': the law returns true at every argument, and changes nothing that was there. -/
import Derived.Test.YtdegpogjenfpaaaTextA
namespace Go.Proofs.Ytdegpogjenfpaaa.fnExactTextOf
open Go.RowKit

theorem walk (a : Option Addr) (len cap : Nat) (zs : List Int) (w : World) (h : IsRow .i64 w a len cap zs) : Calls Try.prog 6 #[.slice a len cap] w fun e w' => e = .returned (.bool true) ∧ Below w.heap.size w w' := by
  have hi := h.ints
  have ⟨hl, hm⟩ := h.length
  unfold maxLen at hm
  generalize zs.take len = ys at *
  by_cases hb : 1048576 < len
  · clear hi h hl
    go_enter Try.func6, Try.ntmps6
    go_wp2
    go_ret
    exact ⟨rfl, Below.refl _ _⟩
  · have HI := Lib.hid hi
    have HL : ys.length ≤ 1048576 := by omega
    clear hi h hl
    go_enter Try.func6, Try.ntmps6
    go_wp2_with fail
    refine (laws_toIntS _ ys _ HI.out HL).mono ?_
    rintro e w1 ⟨v1, rfl, o1, b1⟩
    have B1 := b1
    go_wp2_with fail
    refine (spec_TextOf _ ys _ o1.ints HL).mono ?_
    rintro e w2 ⟨rfl, b2⟩
    have B2 : Below w.heap.size w w2 := B1.trans (b2.mono B1.size)
    go_wp2_with fail
    refine (laws_toIntS _ ys _ (HI.out.keep B2) HL).mono ?_
    rintro e w3 ⟨v3, rfl, o3, b3⟩
    have B3 : Below w.heap.size w w3 := B2.trans (b3.mono B2.size)
    go_wp2_with fail
    refine (impl_TextOf _ ys _ o3.ints HL).mono ?_
    rintro e w4 ⟨rfl, b4⟩
    have B4 : Below w.heap.size w w4 := B3.trans (b4.mono B3.size)
    have o4 := o3.all b4
    go_wp2_with fail
    refine (laws_toIntS _ ys _ (HI.out.keep B4) HL).mono ?_
    rintro e w5 ⟨v5, rfl, o5, b5⟩
    have B5 : Below w.heap.size w w5 := B4.trans (b5.mono B4.size)
    have o6 := o4.all b5
    go_wp2_with fail
    refine (laws_eqIntS _ _ ys ys _ o6.ints o5.ints (by omega) (by omega)).mono ?_
    rintro e w6 ⟨rfl, q, rfl⟩
    have hd : decide (ys = ys) = true := by simp
    go_wp2
    go_ret
    exact ⟨rfl, below_drewN B5 q⟩

end Go.Proofs.Ytdegpogjenfpaaa.fnExactTextOf
