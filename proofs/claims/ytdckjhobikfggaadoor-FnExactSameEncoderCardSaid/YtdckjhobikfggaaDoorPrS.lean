/- StartOf: the states in which strings of a profile begin. -/
import Derived.Test.YtdckjhobikfggaaDoorStE
namespace Go.Proofs.YtdckjhobikfggaaDoor
open Go.RowKit

/-- There is such a profile. -/
def proB (n : Int) : Bool := inB n 1 5
def startP (n : Int) : St := if n = 5 then ⟨1, 4, 0, 0, 0, 0, 0⟩ else ⟨1, 0, 0, 0, 0, 0, 0⟩
def spX (n : Int) : St := if proB n = true then startP n else zeroSt
def spC (n : Int) : Int := if proB n = true then 0 else 5
def SoDone (n : Int) (w : World) (e : Ending) (w' : World) : Prop := e = .returned (.tuple #[stV (spX n), .int .i64 (spC n)]) ∧ Below w.heap.size w w'

theorem spec_l05No (n : Int) (w : World) : Calls Tryd.prog 81 #[.int .i64 n] w fun e w' => e = .returned (.bool (proB n)) ∧ w = w' := by
  go_enter Tryd.func81, Tryd.ntmps81
  go_wp2_with (go_at_call 52; refine (spec_l01In _ _ _ _).mono ?_; rintro e w' ⟨rfl, rfl⟩)
  go_ret
  exact ⟨rfl, rfl⟩

theorem impl_isProfile (n : Int) (w : World) : Calls Tryd.prog 66 #[.int .i64 n] w fun e w' => e = .returned (.bool (proB n)) ∧ w = w' := by
  by_cases h1 : 1 ≤ n
  · by_cases h2 : n ≤ 5
    all_goals
      go_enter Tryd.func66, Tryd.ntmps66
      go_wp2
      go_ret
      exact ⟨by simp [proB, inB, *], rfl⟩
  · go_enter Tryd.func66, Tryd.ntmps66
    go_wp2
    go_ret
    exact ⟨by simp [proB, inB]; omega, rfl⟩

end Go.Proofs.YtdckjhobikfggaaDoor
