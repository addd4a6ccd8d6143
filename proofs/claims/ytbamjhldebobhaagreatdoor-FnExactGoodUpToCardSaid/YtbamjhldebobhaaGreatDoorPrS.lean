/- StartOf: the states in which strings of a profile begin. -/
import Derived.Test.YtbamjhldebobhaaGreatDoorStE
namespace Go.Proofs.YtbamjhldebobhaaGreatDoor
open Go.RowKit

/-- There is such a profile. -/
def proB (n : Int) : Bool := inB n 1 5
def startP (n : Int) : St := if n = 5 then ⟨1, 4, 0, 0, 0, 0, 0⟩ else ⟨1, 0, 0, 0, 0, 0, 0⟩
def spX (n : Int) : St := if proB n = true then startP n else zeroSt
def spC (n : Int) : Int := if proB n = true then 0 else 5
def SoDone (n : Int) (w : World) (e : Ending) (w' : World) : Prop := e = .returned (.tuple #[stV (spX n), .int .i64 (spC n)]) ∧ Below w.heap.size w w'

theorem spec_l05No (n : Int) (w : World) : Calls Tryz.prog 61 #[.int .i64 n] w fun e w' => e = .returned (.bool (proB n)) ∧ w = w' := by
  go_enter Tryz.func61, Tryz.ntmps61
  go_wp2_with (go_at_call 58; refine (spec_l01In _ _ _ _).mono ?_; rintro e w' ⟨rfl, rfl⟩)
  go_ret
  exact ⟨rfl, rfl⟩

theorem impl_isProfile (n : Int) (w : World) : Calls Tryz.prog 68 #[.int .i64 n] w fun e w' => e = .returned (.bool (proB n)) ∧ w = w' := by
  by_cases h1 : 1 ≤ n
  · by_cases h2 : n ≤ 5
    all_goals
      go_enter Tryz.func68, Tryz.ntmps68
      go_wp2
      go_ret
      exact ⟨by simp [proB, inB, *], rfl⟩
  · go_enter Tryz.func68, Tryz.ntmps68
    go_wp2
    go_ret
    exact ⟨by simp [proB, inB]; omega, rfl⟩

set_option maxHeartbeats 1000000 in
theorem start_l04 (w : World) : Calls Tryz.prog 109 #[] w (StDone startSt w) := by
  go_enter Tryz.func109, Tryz.ntmps109
  go_wp2
  exact st_ret (y := startSt) rfl rfl rfl (heap_alloc_new _ _) Tryz.underlying39 rfl (by kernel_rfl) rfl (below_one _ _)

set_option maxHeartbeats 1000000 in
theorem start_impl (w : World) : Calls Tryz.prog 116 #[] w (StDone startSt w) := by
  go_enter Tryz.func116, Tryz.ntmps116
  go_wp2
  exact st_ret (y := startSt) rfl rfl rfl (heap_alloc_new _ _) Tryz.underlying39 rfl (by kernel_rfl) rfl (below_one _ _)

set_option maxHeartbeats 400000 in
theorem spec_l05Start (n : Int) (w : World) : Calls Tryz.prog 64 #[.int .i64 n] w (StDone (startP n) w) := by
  have HR0 := Lib.hid (stSlot0 w)
  have B0 := Lib.hid (below_one w (.cells #[.int .i64 0, .int .i64 0, .int .i64 0, .int .i64 0, .int .i64 0, .int .i64 0, .int .i64 0] 39))
  have HS := Lib.hid (fun w => start_l04 w)
  unfold StDone stV startSt at HS
  by_cases h5 : n = 5
  · have HE : Hid (startP n = ⟨1, 4, 0, 0, 0, 0, 0⟩) := Lib.hid (by simp [startP, h5])
    have e5 : (n == 5) = true := by simp [h5]
    clear h5
    go_enter Tryz.func64, Tryz.ntmps64
    go_wp2_with fail
    refine (HS.out _).mono ?_
    generalize w.alloc (.cells #[.int .i64 0, .int .i64 0, .int .i64 0, .int .i64 0, .int .i64 0, .int .i64 0, .int .i64 0] 39) = W0 at *
    rintro e w1 ⟨rfl, b1⟩
    have hl1 : w.heap.size < w1.heap.size := (HR0.out.keep b1).lt
    have HR3 := Lib.hid (HR0.out.keep b1)
    have B3 : Hid (Below w.heap.size w w1) := Lib.hid (B0.out.trans (b1.mono B0.out.size))
    clear b1 HR0
    have ⟨r0, r1, r2, r3, r4, r5, r6⟩ := HR3.out.cells
    have ⟨z0, z1, z2, z3, z4, z5, z6⟩ := HR3.out.thaw
    simp only [zeroSt] at r0 r1 r2 r3 r4 r5 r6
    go_wp2
    exact st_ret (y := ⟨1, 4, 0, 0, 0, 0, 0⟩) HE.out rfl rfl ((HR3.out.put ⟨1, 4, 0, 0, 0, 0, 0⟩).keep (below_one _ _)) Tryz.underlying39 rfl (by kernel_rfl) rfl ((below_putSt B3.out (Nat.le_refl _) ⟨1, 4, 0, 0, 0, 0, 0⟩).alloc (below_putSt B3.out (Nat.le_refl _) ⟨1, 4, 0, 0, 0, 0, 0⟩).size _)
  · have HE : Hid (startP n = ⟨1, 0, 0, 0, 0, 0, 0⟩) := Lib.hid (by simp [startP, h5])
    have e5 : (n == 5) = false := by simp [h5]
    clear h5
    go_enter Tryz.func64, Tryz.ntmps64
    go_wp2_with fail
    refine (HS.out _).mono ?_
    generalize w.alloc (.cells #[.int .i64 0, .int .i64 0, .int .i64 0, .int .i64 0, .int .i64 0, .int .i64 0, .int .i64 0] 39) = W0 at *
    rintro e w1 ⟨rfl, b1⟩
    have HR3 := Lib.hid (HR0.out.keep b1)
    have B3 : Hid (Below w.heap.size w w1) := Lib.hid (B0.out.trans (b1.mono B0.out.size))
    have hl1 : w.heap.size < w1.heap.size := (HR0.out.keep b1).lt
    clear b1 HR0
    have ⟨r0, r1, r2, r3, r4, r5, r6⟩ := HR3.out.cells
    have ⟨z0, z1, z2, z3, z4, z5, z6⟩ := HR3.out.thaw
    simp only [zeroSt] at r0 r1 r2 r3 r4 r5 r6
    go_wp2
    exact st_ret (y := ⟨1, 0, 0, 0, 0, 0, 0⟩) HE.out rfl rfl ((HR3.out.put ⟨1, 0, 0, 0, 0, 0, 0⟩).keep (below_one _ _)) Tryz.underlying39 rfl (by kernel_rfl) rfl ((below_putSt B3.out (Nat.le_refl _) ⟨1, 0, 0, 0, 0, 0, 0⟩).alloc (below_putSt B3.out (Nat.le_refl _) ⟨1, 0, 0, 0, 0, 0, 0⟩).size _)

set_option maxHeartbeats 400000 in
theorem impl_startOf (n : Int) (w : World) : Calls Tryz.prog 71 #[.int .i64 n] w (StDone (startP n) w) := by
  have HR0 := Lib.hid (stSlot0 w)
  have B0 := Lib.hid (below_one w (.cells #[.int .i64 0, .int .i64 0, .int .i64 0, .int .i64 0, .int .i64 0, .int .i64 0, .int .i64 0] 39))
  have HS := Lib.hid (fun w => start_impl w)
  unfold StDone stV startSt at HS
  by_cases h5 : n = 5
  · have HE : Hid (startP n = ⟨1, 4, 0, 0, 0, 0, 0⟩) := Lib.hid (by simp [startP, h5])
    have e5 : (n == 5) = true := by simp [h5]
    clear h5
    go_enter Tryz.func71, Tryz.ntmps71
    go_wp2_with fail
    refine (HS.out _).mono ?_
    generalize w.alloc (.cells #[.int .i64 0, .int .i64 0, .int .i64 0, .int .i64 0, .int .i64 0, .int .i64 0, .int .i64 0] 39) = W0 at *
    rintro e w1 ⟨rfl, b1⟩
    have hl1 : w.heap.size < w1.heap.size := (HR0.out.keep b1).lt
    have HR3 := Lib.hid (HR0.out.keep b1)
    have B3 : Hid (Below w.heap.size w w1) := Lib.hid (B0.out.trans (b1.mono B0.out.size))
    clear b1 HR0
    have ⟨r0, r1, r2, r3, r4, r5, r6⟩ := HR3.out.cells
    have ⟨z0, z1, z2, z3, z4, z5, z6⟩ := HR3.out.thaw
    simp only [zeroSt] at r0 r1 r2 r3 r4 r5 r6
    go_wp2
    exact st_ret (y := ⟨1, 4, 0, 0, 0, 0, 0⟩) HE.out rfl rfl ((HR3.out.put ⟨1, 4, 0, 0, 0, 0, 0⟩).keep (below_one _ _)) Tryz.underlying39 rfl (by kernel_rfl) rfl ((below_putSt B3.out (Nat.le_refl _) ⟨1, 4, 0, 0, 0, 0, 0⟩).alloc (below_putSt B3.out (Nat.le_refl _) ⟨1, 4, 0, 0, 0, 0, 0⟩).size _)
  · have HE : Hid (startP n = ⟨1, 0, 0, 0, 0, 0, 0⟩) := Lib.hid (by simp [startP, h5])
    have e5 : (n == 5) = false := by simp [h5]
    clear h5
    go_enter Tryz.func71, Tryz.ntmps71
    go_wp2_with fail
    refine (HS.out _).mono ?_
    generalize w.alloc (.cells #[.int .i64 0, .int .i64 0, .int .i64 0, .int .i64 0, .int .i64 0, .int .i64 0, .int .i64 0] 39) = W0 at *
    rintro e w1 ⟨rfl, b1⟩
    have HR3 := Lib.hid (HR0.out.keep b1)
    have B3 : Hid (Below w.heap.size w w1) := Lib.hid (B0.out.trans (b1.mono B0.out.size))
    have hl1 : w.heap.size < w1.heap.size := (HR0.out.keep b1).lt
    clear b1 HR0
    have ⟨r0, r1, r2, r3, r4, r5, r6⟩ := HR3.out.cells
    have ⟨z0, z1, z2, z3, z4, z5, z6⟩ := HR3.out.thaw
    simp only [zeroSt] at r0 r1 r2 r3 r4 r5 r6
    go_wp2
    exact st_ret (y := ⟨1, 0, 0, 0, 0, 0, 0⟩) HE.out rfl rfl ((HR3.out.put ⟨1, 0, 0, 0, 0, 0, 0⟩).keep (below_one _ _)) Tryz.underlying39 rfl (by kernel_rfl) rfl ((below_putSt B3.out (Nat.le_refl _) ⟨1, 0, 0, 0, 0, 0, 0⟩).alloc (below_putSt B3.out (Nat.le_refl _) ⟨1, 0, 0, 0, 0, 0, 0⟩).size _)

end Go.Proofs.YtbamjhldebobhaaGreatDoor
