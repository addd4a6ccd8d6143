/- The specification's registers: contracts of the small functions over states. -/
import Derived.Test.YtdckjhobikfggaaDoorStA
namespace Go.Proofs.YtdckjhobikfggaaDoor
open Go.RowKit

set_option maxHeartbeats 1000000 in
theorem spec_l04Get (x : St) (n : Int) (w : World) (h0 : 0 ≤ n) (h3 : n ≤ 3) : Calls Tryd.prog 109 #[stV x, .int .i64 n] w fun e w' => e = .returned (.int .i64 (stGet x n)) ∧ Below w.heap.size w w' := by
  obtain ⟨g0, g1, g2, g3, l, s, d⟩ := x
  have : n = 0 ∨ n = 1 ∨ n = 2 ∨ n = 3 := by omega
  unfold stV
  rcases this with rfl | rfl | rfl | rfl
  all_goals
    clear h0 h3
    go_enter Tryd.func109, Tryd.ntmps109
    go_wp2
    go_ret
    exact ⟨rfl, below_two _ _ _⟩

set_option maxHeartbeats 1000000 in
theorem spec_l04Side (x : St) (r : Bool) (w : World) : Calls Tryd.prog 111 #[stV x, .bool r] w fun e w' => e = .returned (.int .i64 (sideOf x r)) ∧ Below w.heap.size w w' := by
  obtain ⟨g0, g1, g2, g3, l, s, d⟩ := x
  unfold stV
  by_cases hs : 0 < s
  · have HE : Hid (sideOf ⟨g0, g1, g2, g3, l, s, d⟩ r = s) := Lib.hid (by simp [sideOf, hs])
    go_enter Tryd.func111, Tryd.ntmps111
    go_wp2
    go_ret
    exact ⟨ret_int HE.out.symm, below_one _ _⟩
  · cases r
    · have HE : Hid (sideOf ⟨g0, g1, g2, g3, l, s, d⟩ false = l) := Lib.hid (by simp [sideOf, hs])
      go_enter Tryd.func111, Tryd.ntmps111
      go_wp2
      go_ret
      exact ⟨ret_int HE.out.symm, below_one _ _⟩
    · have HE : Hid (sideOf ⟨g0, g1, g2, g3, l, s, d⟩ true = 1) := Lib.hid (by simp [sideOf, hs])
      go_enter Tryd.func111, Tryd.ntmps111
      go_wp2
      go_ret
      exact ⟨ret_int HE.out.symm, below_one _ _⟩

set_option maxHeartbeats 1000000 in
theorem spec_l04Pending (x : St) (w : World) : Calls Tryd.prog 113 #[stV x] w fun e w' => e = .returned (.bool (pendB x)) ∧ Below w.heap.size w w' := by
  obtain ⟨g0, g1, g2, g3, l, s, d⟩ := x
  unfold stV
  by_cases hs : 0 < s
  · have HE : Hid (pendB ⟨g0, g1, g2, g3, l, s, d⟩ = true) := Lib.hid (by simp [pendB, hs])
    go_enter Tryd.func113, Tryd.ntmps113
    go_wp2
    go_ret
    exact ⟨ret_bool HE.out.symm, below_one _ _⟩
  · have HE : Hid (pendB ⟨g0, g1, g2, g3, l, s, d⟩ = decide (0 < d)) := Lib.hid (by simp [pendB, hs])
    go_enter Tryd.func113, Tryd.ntmps113
    go_wp2
    go_ret
    exact ⟨ret_bool HE.out.symm, below_one _ _⟩

end Go.Proofs.YtdckjhobikfggaaDoor
