/- The walk of 'FnExactTokensOf': the law returns true at every argument. -/
import Derived.Test.YtlakpddabkmpoaaTokL
import Derived.Test.YtlakpddabkmpoaaToksI
namespace Go.Proofs.Ytlakpddabkmpoaa.fnExactTokensOf
open Go.RowKit

theorem tksT_few (s : ByteArray) : (tksT s).length ≤ 4096 := by
  unfold tksT
  split
  · next h =>
    unfold tksC at h
    split at h
    · cases h
    · split at h
      · cases h
      · omega
  · simp

set_option maxHeartbeats 2000000 in
theorem walk (s : ByteArray) (w : World) (hs : s.size ≤ maxLen) : Calls Try.prog 4 #[.string s] w fun e w' => e = .returned (.bool true) ∧ Below w.heap.size w w' := by
  have hs' : s.size ≤ 9223372036854775807 := hs
  by_cases hb : 1048576 < s.size
  · have hb' : (1048576 : Int) < (s.size : Int) := by omega
    go_enter Try.func4, Try.ntmps4
    go_wp2
    go_ret
    exact ⟨rfl, Below.refl _ _⟩
  · have hb' : (s.size : Int) ≤ 1048576 := by omega
    have HS := Lib.hid (fun w => spec_TokensOf s w hs')
    have HI := Lib.hid (fun w => impl_TokensOf s w hs')
    have hz4 := tksT_few s
    unfold TksDone at HS HI
    generalize tksT s = Z at *
    generalize tksC s = c at *
    have hz : Z.length ≤ 1048576 := by omega
    clear hz4
    go_enter Try.func4, Try.ntmps4
    go_wp2_with fail
    refine (HS.out _).mono ?_
    rintro e w1 ⟨v1, rfl, o1, b1⟩
    go_wp2_with fail
    refine (HI.out _).mono ?_
    rintro e w2 ⟨v2, rfl, o2, b2⟩
    have B2 : Below w.heap.size w w2 := b1.trans (b2.mono b1.size)
    have HT1 := Lib.hid o1.tkAt
    go_wp2_with fail
    refine (laws_eqTokenS_true _ _ Z w2 o2.tkAt (HT1.out.keep b2) hz).mono ?_
    rintro e w3 ⟨rfl, b3⟩
    have O3 := o2.all b3
    have C3 : Below w1.heap.size w1 w3 := b2.trans (b3.mono b2.size)
    clear o2 b2 b3 B2
    go_wp2_with fail
    refine (laws_markTokenS _ _ _ 1 _ _ O3 hz (by omega) (by omega)).mono ?_
    rintro e w4 ⟨rfl, o4, b4, g4⟩
    have C4 : Below w1.heap.size w1 w4 := C3.trans b4
    clear O3 b4 g4 C3
    go_wp2_with fail
    refine (laws_heldTokenS _ _ 1 _ _ o4 hz (by omega) (by omega)).mono ?_
    rintro e w5 ⟨rfl, q, rfl⟩
    have C5 : Below w1.heap.size w1 (w4.drewN q) := below_drewN C4 q
    have o5 : OwnK (w4.drewN q) w1.heap.size _ _ _ := o4.all (below_drewN (Below.refl _ _) q)
    clear C4 o4
    generalize w4.drewN q = w5 at *
    go_wp2_with fail
    refine (HI.out _).mono ?_
    rintro e w6 ⟨v6, rfl, o6, b6⟩
    have o5b := o5.all b6
    have C6 : Below w1.heap.size w1 w6 := C5.trans (b6.mono C5.size)
    clear o5 b6 C5
    go_wp2_with fail
    refine (laws_eqTokenS_true _ _ Z w6 o6.tkAt (HT1.out.keep C6) hz).mono ?_
    rintro e w7 ⟨rfl, b7⟩
    have o7 := o5b.all b7
    have C7 : Below w1.heap.size w1 w7 := C6.trans (b7.mono C6.size)
    clear o5b o6 b7 C6
    go_wp2_with fail
    refine (laws_heldTokenS _ _ 1 _ _ o7 hz (by omega) (by omega)).mono ?_
    rintro e w8 ⟨rfl, q2, rfl⟩
    have B8 : Below w.heap.size w (w7.drewN q2) := b1.trans ((below_drewN C7 q2).mono b1.size)
    go_wp2
    go_ret
    exact ⟨rfl, B8⟩

end Go.Proofs.Ytlakpddabkmpoaa.fnExactTokensOf
