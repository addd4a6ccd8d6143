/- The walk of 'FnExactNewDecoder': the law returns true at every number. -/
import Derived.Test.YthflfiacjgeelabNdA
namespace Go.Proofs.Ythflfiacjgeelab.fnExactNewDecoder
open Go.RowKit

set_option maxHeartbeats 1000000 in
theorem eqSt (x : St) (w : World) : Calls Try.prog 11 #[stV x, stV x] w fun e w' => e = .returned (.bool true) ∧ Below w.heap.size w w' := by
  have HB := Lib.hid (below_two w)
  unfold stV
  go_enter Try.func11, Try.ntmps11
  go_wp2
  go_ret
  exact ⟨rfl, HB.out _ _⟩

set_option maxHeartbeats 1000000 in
set_option maxRecDepth 100000 in
theorem eqDe (d : De) (w : World) : Calls Try.prog 6 #[deV d, deV d] w fun e w' => e = .returned (.bool true) ∧ Below w.heap.size w w' := by
  have HQ := Lib.hid (fun w => eqSt d.x w)
  have D0 : Hid (DeAt ((w.alloc (.cells #[.int .i64 d.n, .int .i64 d.a, .int .i64 d.c, .int .i64 d.x.g0, .int .i64 d.x.g1, .int .i64 d.x.g2, .int .i64 d.x.g3, .int .i64 d.x.l, .int .i64 d.x.s, .int .i64 d.x.d, .string d.r, .bool d.b, .bool d.o] 25)).alloc (.cells #[.int .i64 d.n, .int .i64 d.a, .int .i64 d.c, .int .i64 d.x.g0, .int .i64 d.x.g1, .int .i64 d.x.g2, .int .i64 d.x.g3, .int .i64 d.x.l, .int .i64 d.x.s, .int .i64 d.x.d, .string d.r, .bool d.b, .bool d.o] 25)) w.heap.size d) := Lib.hid (heap_alloc2_old _ _ _)
  have R0 : Hid (DeAt ((w.alloc (.cells #[.int .i64 d.n, .int .i64 d.a, .int .i64 d.c, .int .i64 d.x.g0, .int .i64 d.x.g1, .int .i64 d.x.g2, .int .i64 d.x.g3, .int .i64 d.x.l, .int .i64 d.x.s, .int .i64 d.x.d, .string d.r, .bool d.b, .bool d.o] 25)).alloc (.cells #[.int .i64 d.n, .int .i64 d.a, .int .i64 d.c, .int .i64 d.x.g0, .int .i64 d.x.g1, .int .i64 d.x.g2, .int .i64 d.x.g3, .int .i64 d.x.l, .int .i64 d.x.s, .int .i64 d.x.d, .string d.r, .bool d.b, .bool d.o] 25)) (w.heap.size + 1) d) := Lib.hid (heap_alloc2_new _ _ _)
  have B0 := Lib.hid (below_two w (.cells #[.int .i64 d.n, .int .i64 d.a, .int .i64 d.c, .int .i64 d.x.g0, .int .i64 d.x.g1, .int .i64 d.x.g2, .int .i64 d.x.g3, .int .i64 d.x.l, .int .i64 d.x.s, .int .i64 d.x.d, .string d.r, .bool d.b, .bool d.o] 25) (.cells #[.int .i64 d.n, .int .i64 d.a, .int .i64 d.c, .int .i64 d.x.g0, .int .i64 d.x.g1, .int .i64 d.x.g2, .int .i64 d.x.g3, .int .i64 d.x.l, .int .i64 d.x.s, .int .i64 d.x.d, .string d.r, .bool d.b, .bool d.o] 25))
  unfold stV at HQ
  unfold deV
  go_enter Try.func6, Try.ntmps6
  go_wp2_with fail
  refine (HQ.out _).mono ?_
  generalize (w.alloc (.cells #[.int .i64 d.n, .int .i64 d.a, .int .i64 d.c, .int .i64 d.x.g0, .int .i64 d.x.g1, .int .i64 d.x.g2, .int .i64 d.x.g3, .int .i64 d.x.l, .int .i64 d.x.s, .int .i64 d.x.d, .string d.r, .bool d.b, .bool d.o] 25)).alloc (.cells #[.int .i64 d.n, .int .i64 d.a, .int .i64 d.c, .int .i64 d.x.g0, .int .i64 d.x.g1, .int .i64 d.x.g2, .int .i64 d.x.g3, .int .i64 d.x.l, .int .i64 d.x.s, .int .i64 d.x.d, .string d.r, .bool d.b, .bool d.o] 25) = W at *
  rintro e w1 ⟨rfl, b1⟩
  have ⟨_, _, _, _, _, _, _, _, _, _, r10, r11, r12⟩ := (D0.out.keep b1).cells
  have ⟨_, _, _, _, _, _, _, _, _, _, z10, z11, z12⟩ := (R0.out.keep b1).cells
  have B1 := Lib.hid (B0.out.trans (b1.mono B0.out.size))
  clear b1
  go_wp2
  go_ret
  exact ⟨rfl, B1.out⟩

set_option maxHeartbeats 1000000 in
set_option maxRecDepth 100000 in
theorem walk (n : Int) (w : World) (_hn : (Lit.int .i64 n).wf = true) : Calls Try.prog 3 #[.int .i64 n] w fun e w' => e = .returned (.bool true) ∧ Below w.heap.size w w' := by
  have HS := Lib.hid (fun w => spec_NewDecoder n w)
  have HI := Lib.hid (fun w => impl_NewDecoder n w)
  have HQ := Lib.hid (fun w => eqDe (newP n) w)
  unfold NdDone deV at HS HI
  unfold deV at HQ
  generalize newP n = d at *
  generalize newC n = c at *
  go_enter Try.func3, Try.ntmps3
  go_wp2_with fail
  refine (HS.out _).mono ?_
  rintro e w1 ⟨rfl, b1⟩
  have V1 := Lib.hid (DeAt.new w1 d)
  have X1 : Hid (Below w.heap.size w (w1.alloc (.cells #[.int .i64 d.n, .int .i64 d.a, .int .i64 d.c, .int .i64 d.x.g0, .int .i64 d.x.g1, .int .i64 d.x.g2, .int .i64 d.x.g3, .int .i64 d.x.l, .int .i64 d.x.s, .int .i64 d.x.d, .string d.r, .bool d.b, .bool d.o] 25))) := Lib.hid (b1.alloc b1.size _)
  clear b1
  go_wp2_with fail
  refine (HI.out _).mono ?_
  generalize w1.alloc (.cells #[.int .i64 d.n, .int .i64 d.a, .int .i64 d.c, .int .i64 d.x.g0, .int .i64 d.x.g1, .int .i64 d.x.g2, .int .i64 d.x.g3, .int .i64 d.x.l, .int .i64 d.x.s, .int .i64 d.x.d, .string d.r, .bool d.b, .bool d.o] 25) = W1 at *
  rintro e w2 ⟨rfl, b2⟩
  have B2 : Hid (Below w.heap.size w w2) := Lib.hid (X1.out.trans (b2.mono X1.out.size))
  have V2 := Lib.hid ((V1.out.keep b2).keep (below_one w2 (.cells #[.int .i64 d.n, .int .i64 d.a, .int .i64 d.c, .int .i64 d.x.g0, .int .i64 d.x.g1, .int .i64 d.x.g2, .int .i64 d.x.g3, .int .i64 d.x.l, .int .i64 d.x.s, .int .i64 d.x.d, .string d.r, .bool d.b, .bool d.o] 25)))
  have V3 := Lib.hid (DeAt.new w2 d)
  have B3 : Hid (Below w.heap.size w (w2.alloc (.cells #[.int .i64 d.n, .int .i64 d.a, .int .i64 d.c, .int .i64 d.x.g0, .int .i64 d.x.g1, .int .i64 d.x.g2, .int .i64 d.x.g3, .int .i64 d.x.l, .int .i64 d.x.s, .int .i64 d.x.d, .string d.r, .bool d.b, .bool d.o] 25))) := Lib.hid (B2.out.alloc B2.out.size _)
  clear b2
  have ⟨y0, y1, y2, y3, y4, y5, y6, y7, y8, y9, y10, y11, y12⟩ := V2.out.cells
  have ⟨z0, z1, z2, z3, z4, z5, z6, z7, z8, z9, z10, z11, z12⟩ := V3.out.cells
  go_wp2_with fail
  refine (HQ.out _).mono ?_
  clear y0 y1 y2 y3 y4 y5 y6 y7 y8 y9 y10 y11 y12 z0 z1 z2 z3 z4 z5 z6 z7 z8 z9 z10 z11 z12
  generalize w2.alloc (.cells #[.int .i64 d.n, .int .i64 d.a, .int .i64 d.c, .int .i64 d.x.g0, .int .i64 d.x.g1, .int .i64 d.x.g2, .int .i64 d.x.g3, .int .i64 d.x.l, .int .i64 d.x.s, .int .i64 d.x.d, .string d.r, .bool d.b, .bool d.o] 25) = W2 at *
  rintro e w3 ⟨rfl, b3⟩
  have B4 : Below w.heap.size w w3 := B3.out.trans (b3.mono B3.out.size)
  go_wp2
  go_ret
  exact ⟨rfl, B4⟩

end Go.Proofs.Ythflfiacjgeelab.fnExactNewDecoder
