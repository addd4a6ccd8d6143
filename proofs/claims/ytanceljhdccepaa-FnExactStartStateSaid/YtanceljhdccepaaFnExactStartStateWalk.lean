/- The walk of 'FnExactStartState': the law returns true. -/
import Derived.Test.YtanceljhdccepaaStA0
namespace Go.Proofs.Ytanceljhdccepaa.fnExactStartState
open Go.RowKit

set_option maxHeartbeats 1000000 in
theorem start_l04 (w : World) : Calls Try.prog 7 #[] w (StDone startSt w) := by
  go_enter Try.func7, Try.ntmps7
  go_wp2
  exact st_ret (y := startSt) rfl rfl rfl (heap_alloc_new _ _) Try.underlying23 rfl (by kernel_rfl) rfl (below_one _ _)

set_option maxHeartbeats 1000000 in
theorem start_spec (w : World) : Calls Try.prog 4 #[] w (StDone startSt w) := by
  have hR0 := stSlot0 w
  have b0 := below_one w (.cells #[.int .i64 0, .int .i64 0, .int .i64 0, .int .i64 0, .int .i64 0, .int .i64 0, .int .i64 0] 23)
  go_enter Try.func4, Try.ntmps4
  go_wp2_with fail
  refine (start_l04 _).mono ?_
  rintro e w3 ⟨rfl, b3⟩
  have hR3 := Lib.hid (hR0.keep b3)
  have b03 : Below w.heap.size w w3 := b0.trans (b3.mono b0.size)
  have ⟨r0, r1, r2, r3, r4, r5, r6⟩ := hR3.out.cells
  have ⟨z0, z1, z2, z3, z4, z5, z6⟩ := hR3.out.thaw
  simp only [zeroSt] at r0 r1 r2 r3 r4 r5 r6
  have hl3 : w.heap.size < w3.heap.size := hR3.out.lt
  clear hR0 b0 b3
  unfold stV startSt
  go_wp2
  exact st_ret (y := startSt) rfl rfl rfl (hR3.out.put startSt) Try.underlying23 rfl (by kernel_rfl) rfl (below_putSt b03 (Nat.le_refl _) startSt)

set_option maxHeartbeats 1000000 in
theorem start_impl (w : World) : Calls Try.prog 5 #[] w (StDone startSt w) := by
  go_enter Try.func5, Try.ntmps5
  go_wp2
  exact st_ret (y := startSt) rfl rfl rfl (heap_alloc_new _ _) Try.underlying23 rfl (by kernel_rfl) rfl (below_one _ _)

set_option maxHeartbeats 1000000 in
theorem start_eq (x : St) (w : World) : Calls Try.prog 6 #[stV x, stV x] w fun e w' => e = .returned (.bool true) ∧ Below w.heap.size w w' := by
  have HB := Lib.hid (below_two w)
  unfold stV
  go_enter Try.func6, Try.ntmps6
  go_wp2
  go_ret
  exact ⟨rfl, HB.out _ _⟩

set_option maxHeartbeats 1000000 in
theorem walk (w : World) : Calls Try.prog 3 #[] w fun e w' => e = .returned (.bool true) ∧ Below w.heap.size w w' := by
  have HS := Lib.hid (fun w => start_spec w)
  have HI := Lib.hid (fun w => start_impl w)
  have HQ := Lib.hid (fun w => start_eq startSt w)
  unfold StDone at HS HI
  unfold stV startSt at HS HI HQ
  go_enter Try.func3, Try.ntmps3
  go_wp2_with fail
  refine (HS.out _).mono ?_
  rintro e w1 ⟨rfl, b1⟩
  have V1 := Lib.hid (StAt.new w1 startSt)
  unfold startSt at V1
  have X1 : Hid (Below w.heap.size w (w1.alloc (.cells #[.int .i64 1, .int .i64 0, .int .i64 0, .int .i64 0, .int .i64 0, .int .i64 0, .int .i64 0] 23))) := Lib.hid (b1.alloc b1.size _)
  clear b1
  go_wp2_with fail
  refine (HI.out _).mono ?_
  generalize w1.alloc (.cells #[.int .i64 1, .int .i64 0, .int .i64 0, .int .i64 0, .int .i64 0, .int .i64 0, .int .i64 0] 23) = W1 at *
  rintro e w2 ⟨rfl, b2⟩
  have B2 : Hid (Below w.heap.size w w2) := Lib.hid (X1.out.trans (b2.mono X1.out.size))
  have V2 := Lib.hid ((V1.out.keep b2).keep (below_one w2 (.cells #[.int .i64 1, .int .i64 0, .int .i64 0, .int .i64 0, .int .i64 0, .int .i64 0, .int .i64 0] 23)))
  have V3 := Lib.hid (StAt.new w2 startSt)
  unfold startSt at V3
  have B3 : Hid (Below w.heap.size w (w2.alloc (.cells #[.int .i64 1, .int .i64 0, .int .i64 0, .int .i64 0, .int .i64 0, .int .i64 0, .int .i64 0] 23))) := Lib.hid (B2.out.alloc B2.out.size _)
  clear b2
  have ⟨y0, y1, y2, y3, y4, y5, y6⟩ := V2.out.cells
  have ⟨z0, z1, z2, z3, z4, z5, z6⟩ := V3.out.cells
  dsimp only at y0 y1 y2 y3 y4 y5 y6 z0 z1 z2 z3 z4 z5 z6
  go_wp2_with fail
  refine (HQ.out _).mono ?_
  clear y0 y1 y2 y3 y4 y5 y6 z0 z1 z2 z3 z4 z5 z6
  generalize w2.alloc (.cells #[.int .i64 1, .int .i64 0, .int .i64 0, .int .i64 0, .int .i64 0, .int .i64 0, .int .i64 0] 23) = W2 at *
  rintro e w3 ⟨rfl, b3⟩
  have B4 : Below w.heap.size w w3 := B3.out.trans (b3.mono B3.out.size)
  go_wp2
  go_ret
  exact ⟨rfl, B4⟩

end Go.Proofs.Ytanceljhdccepaa.fnExactStartState
