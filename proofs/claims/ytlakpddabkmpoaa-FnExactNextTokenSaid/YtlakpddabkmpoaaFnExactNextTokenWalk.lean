/- The walk of 'FnExactNextToken': the law returns true at every argument. -/
import Derived.Test.YtlakpddabkmpoaaTokL
import Derived.Test.YtlakpddabkmpoaaNextJ
namespace Go.Proofs.Ytlakpddabkmpoaa.fnExactNextToken
open Go.RowKit

set_option maxHeartbeats 1000000 in
theorem walk (s : ByteArray) (p : Int) (w : World) (hs : s.size ≤ maxLen) (_hp : (Lit.int .i64 p).wf = true) : Calls Try.prog 3 #[.string s, .int .i64 p] w fun e w' => e = .returned (.bool true) ∧ Below w.heap.size w w' := by
  have hs' : s.size ≤ 9223372036854775807 := hs
  by_cases hb : 1048576 < s.size
  · have hb' : (1048576 : Int) < (s.size : Int) := by omega
    go_enter Try.func3, Try.ntmps3
    go_wp2
    go_ret
    exact ⟨rfl, Below.refl _ _⟩
  · have hb' : (s.size : Int) ≤ 1048576 := by omega
    have HS := Lib.hid (fun w => spec_NextToken s p w hs')
    have HI := Lib.hid (fun w => impl_NextToken s p w hs')
    unfold NtDone at HS HI
    generalize ntT s p = y at *
    generalize ntC s p = c at *
    go_enter Try.func3, Try.ntmps3
    go_wp2_with fail
    refine (HS.out _).mono ?_
    rintro e w1 ⟨rfl, b1⟩
    have V1 := TokAt.new w1 y
    have x1 := below_one w1 (.cells #[.int .i64 y.k, .int .i64 y.a, .int .i64 y.b, .int .i64 y.c, .int .i64 y.p, .int .i64 y.n] 23)
    have B1 : Below w.heap.size w (w1.alloc (.cells #[.int .i64 y.k, .int .i64 y.a, .int .i64 y.b, .int .i64 y.c, .int .i64 y.p, .int .i64 y.n] 23)) := b1.trans (x1.mono b1.size)
    unfold tokV
    go_wp2_with fail
    refine (HI.out _).mono ?_
    generalize w1.alloc (.cells #[.int .i64 y.k, .int .i64 y.a, .int .i64 y.b, .int .i64 y.c, .int .i64 y.p, .int .i64 y.n] 23) = W1 at *
    rintro e w2 ⟨rfl, b2⟩
    have V2 := V1.keep b2
    have V3 := TokAt.new w2 y
    have x2 := below_one w2 (.cells #[.int .i64 y.k, .int .i64 y.a, .int .i64 y.b, .int .i64 y.c, .int .i64 y.p, .int .i64 y.n] 23)
    have B2 : Below w.heap.size w (w2.alloc (.cells #[.int .i64 y.k, .int .i64 y.a, .int .i64 y.b, .int .i64 y.c, .int .i64 y.p, .int .i64 y.n] 23)) := (B1.trans (b2.mono B1.size)).trans (x2.mono (by have := B1.size; have := b2.size; omega))
    have V4 := V2.keep x2
    have ⟨r0, r1, r2, r3, r4, r5⟩ := V4.cells
    have ⟨z0, z1, z2, z3, z4, z5⟩ := V3.cells
    clear V1 V2 V3 V4 x1 x2
    unfold tokV
    go_wp2_with fail
    refine (laws_eqToken_true y _).mono ?_
    generalize w2.alloc (.cells #[.int .i64 y.k, .int .i64 y.a, .int .i64 y.b, .int .i64 y.c, .int .i64 y.p, .int .i64 y.n] 23) = W2 at *
    rintro e w3 ⟨rfl, b3⟩
    have B3 : Below w.heap.size w w3 := B2.trans (b3.mono B2.size)
    go_wp2
    go_ret
    exact ⟨rfl, B3⟩

end Go.Proofs.Ytlakpddabkmpoaa.fnExactNextToken
