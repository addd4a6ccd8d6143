/- The walk of 'FnExactStartOf': the law returns true at every number. -/
import Derived.Test.YtjbikenhdgbacaaPrS0
namespace Go.Proofs.Ytjbikenhdgbacaa.fnExactStartOf
open Go.RowKit

set_option maxHeartbeats 1000000 in
theorem eqSt (x : St) (w : World) : Calls Try.prog 6 #[stV x, stV x] w fun e w' => e = .returned (.bool true) ∧ Below w.heap.size w w' := by
  have HB := Lib.hid (below_two w)
  unfold stV
  go_enter Try.func6, Try.ntmps6
  go_wp2
  go_ret
  exact ⟨rfl, HB.out _ _⟩

set_option maxHeartbeats 1000000 in
theorem walk (n : Int) (w : World) (_hn : (Lit.int .i64 n).wf = true) : Calls Try.prog 3 #[.int .i64 n] w fun e w' => e = .returned (.bool true) ∧ Below w.heap.size w w' := by
  have HS := Lib.hid (fun w => spec_StartOf n w)
  have HI := Lib.hid (fun w => impl_StartOf n w)
  have HQ := Lib.hid (fun w => eqSt (soX n) w)
  unfold SoDone stV at HS HI
  unfold stV at HQ
  generalize soX n = y at *
  generalize soC n = c at *
  go_enter Try.func3, Try.ntmps3
  go_wp2_with fail
  refine (HS.out _).mono ?_
  rintro e w1 ⟨rfl, b1⟩
  have V1 := Lib.hid (StAt.new w1 y)
  have X1 : Hid (Below w.heap.size w (w1.alloc (.cells #[.int .i64 y.g0, .int .i64 y.g1, .int .i64 y.g2, .int .i64 y.g3, .int .i64 y.l, .int .i64 y.s, .int .i64 y.d] 23))) := Lib.hid (b1.alloc b1.size _)
  clear b1
  go_wp2_with fail
  refine (HI.out _).mono ?_
  generalize w1.alloc (.cells #[.int .i64 y.g0, .int .i64 y.g1, .int .i64 y.g2, .int .i64 y.g3, .int .i64 y.l, .int .i64 y.s, .int .i64 y.d] 23) = W1 at *
  rintro e w2 ⟨rfl, b2⟩
  have B2 : Hid (Below w.heap.size w w2) := Lib.hid (X1.out.trans (b2.mono X1.out.size))
  have V2 := Lib.hid ((V1.out.keep b2).keep (below_one w2 (.cells #[.int .i64 y.g0, .int .i64 y.g1, .int .i64 y.g2, .int .i64 y.g3, .int .i64 y.l, .int .i64 y.s, .int .i64 y.d] 23)))
  have V3 := Lib.hid (StAt.new w2 y)
  have B3 : Hid (Below w.heap.size w (w2.alloc (.cells #[.int .i64 y.g0, .int .i64 y.g1, .int .i64 y.g2, .int .i64 y.g3, .int .i64 y.l, .int .i64 y.s, .int .i64 y.d] 23))) := Lib.hid (B2.out.alloc B2.out.size _)
  clear b2
  have ⟨y0, y1, y2, y3, y4, y5, y6⟩ := V2.out.cells
  have ⟨z0, z1, z2, z3, z4, z5, z6⟩ := V3.out.cells
  go_wp2_with fail
  refine (HQ.out _).mono ?_
  clear y0 y1 y2 y3 y4 y5 y6 z0 z1 z2 z3 z4 z5 z6
  generalize w2.alloc (.cells #[.int .i64 y.g0, .int .i64 y.g1, .int .i64 y.g2, .int .i64 y.g3, .int .i64 y.l, .int .i64 y.s, .int .i64 y.d] 23) = W2 at *
  rintro e w3 ⟨rfl, b3⟩
  have B4 : Below w.heap.size w w3 := B3.out.trans (b3.mono B3.out.size)
  go_wp2
  go_ret
  exact ⟨rfl, B4⟩

end Go.Proofs.Ytjbikenhdgbacaa.fnExactStartOf
