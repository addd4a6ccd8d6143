/- StartOf: the states in which strings of a profile begin. -/
import Derived.Test.YtibadnfagoehmaaDoorStE
namespace Go.Proofs.YtibadnfagoehmaaDoor
open Go.RowKit

/-- There is such a profile. -/
def proB (n : Int) : Bool := inB n 1 5
def startP (n : Int) : St := if n = 5 then ⟨1, 4, 0, 0, 0, 0, 0⟩ else ⟨1, 0, 0, 0, 0, 0, 0⟩
def spX (n : Int) : St := if proB n = true then startP n else zeroSt
def spC (n : Int) : Int := if proB n = true then 0 else 5
def SoDone (n : Int) (w : World) (e : Ending) (w' : World) : Prop := e = .returned (.tuple #[stV (spX n), .int .i64 (spC n)]) ∧ Below w.heap.size w w'

theorem spec_l05No (n : Int) (w : World) : Calls Tryd.prog 59 #[.int .i64 n] w fun e w' => e = .returned (.bool (proB n)) ∧ w = w' := by
  go_enter Tryd.func59, Tryd.ntmps59
  go_wp2_with (go_at_call 57; refine (spec_l01In _ _ _ _).mono ?_; rintro e w' ⟨rfl, rfl⟩)
  go_ret
  exact ⟨rfl, rfl⟩

theorem impl_isProfile (n : Int) (w : World) : Calls Tryd.prog 62 #[.int .i64 n] w fun e w' => e = .returned (.bool (proB n)) ∧ w = w' := by
  by_cases h1 : 1 ≤ n
  · by_cases h2 : n ≤ 5
    all_goals
      go_enter Tryd.func62, Tryd.ntmps62
      go_wp2
      go_ret
      exact ⟨by simp [proB, inB, *], rfl⟩
  · go_enter Tryd.func62, Tryd.ntmps62
    go_wp2
    go_ret
    exact ⟨by simp [proB, inB]; omega, rfl⟩

set_option maxHeartbeats 1000000 in
theorem start_l04 (w : World) : Calls Tryd.prog 74 #[] w (StDone startSt w) := by
  go_enter Tryd.func74, Tryd.ntmps74
  go_wp2
  exact st_ret (y := startSt) rfl rfl rfl (heap_alloc_new _ _) Tryd.underlying24 rfl (by kernel_rfl) rfl (below_one _ _)

set_option maxHeartbeats 1000000 in
theorem start_impl (w : World) : Calls Tryd.prog 23 #[] w (StDone startSt w) := by
  go_enter Tryd.func23, Tryd.ntmps23
  go_wp2
  exact st_ret (y := startSt) rfl rfl rfl (heap_alloc_new _ _) Tryd.underlying24 rfl (by kernel_rfl) rfl (below_one _ _)

end Go.Proofs.YtibadnfagoehmaaDoor
