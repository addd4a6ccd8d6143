/- The specification's registers: contracts of the small functions over states. -/
import Derived.Test.YtbamjhldebobhaaDoorStA
namespace Go.Proofs.YtbamjhldebobhaaDoor
open Go.RowKit

set_option maxHeartbeats 1000000 in
theorem spec_l04Get (x : St) (n : Int) (w : World) (h0 : 0 ≤ n) (h3 : n ≤ 3) : Calls Tryd.prog 42 #[stV x, .int .i64 n] w fun e w' => e = .returned (.int .i64 (stGet x n)) ∧ Below w.heap.size w w' := by
  obtain ⟨g0, g1, g2, g3, l, s, d⟩ := x
  have : n = 0 ∨ n = 1 ∨ n = 2 ∨ n = 3 := by omega
  unfold stV
  rcases this with rfl | rfl | rfl | rfl
  all_goals
    clear h0 h3
    go_enter Tryd.func42, Tryd.ntmps42
    go_wp2
    go_ret
    exact ⟨rfl, below_two _ _ _⟩

set_option maxHeartbeats 2000000 in
theorem spec_l04Put (x : St) (n v : Int) (w : World) (h0 : 0 ≤ n) (h3 : n ≤ 3) : Calls Tryd.prog 39 #[stV x, .int .i64 n, .int .i64 v] w (StDone (stPut x n v) w) := by
  obtain ⟨g0, g1, g2, g3, l, s, d⟩ := x
  have : n = 0 ∨ n = 1 ∨ n = 2 ∨ n = 3 := by omega
  unfold stV
  rcases this with rfl | rfl | rfl | rfl
  · clear h0 h3
    go_enter Tryd.func39, Tryd.ntmps39
    go_wp2
    exact st_ret (y := ⟨v, g1, g2, g3, l, s, d⟩) rfl rfl rfl (heap_alloc2_new _ _ _) Tryd.underlying24 rfl (by kernel_rfl) rfl (below_two _ _ _)
  · clear h0 h3
    go_enter Tryd.func39, Tryd.ntmps39
    go_wp2
    exact st_ret (y := ⟨g0, v, g2, g3, l, s, d⟩) rfl rfl rfl (heap_alloc2_new _ _ _) Tryd.underlying24 rfl (by kernel_rfl) rfl (below_two _ _ _)
  · clear h0 h3
    go_enter Tryd.func39, Tryd.ntmps39
    go_wp2
    exact st_ret (y := ⟨g0, g1, v, g3, l, s, d⟩) rfl rfl rfl (heap_alloc2_new _ _ _) Tryd.underlying24 rfl (by kernel_rfl) rfl (below_two _ _ _)
  · clear h0 h3
    go_enter Tryd.func39, Tryd.ntmps39
    go_wp2
    exact st_ret (y := ⟨g0, g1, g2, v, l, s, d⟩) rfl rfl rfl (heap_alloc2_new _ _ _) Tryd.underlying24 rfl (by kernel_rfl) rfl (below_two _ _ _)

set_option maxHeartbeats 1000000 in
theorem spec_l04Side (x : St) (r : Bool) (w : World) : Calls Tryd.prog 58 #[stV x, .bool r] w fun e w' => e = .returned (.int .i64 (sideOf x r)) ∧ Below w.heap.size w w' := by
  obtain ⟨g0, g1, g2, g3, l, s, d⟩ := x
  unfold stV
  by_cases hs : 0 < s
  · have HE : Hid (sideOf ⟨g0, g1, g2, g3, l, s, d⟩ r = s) := Lib.hid (by simp [sideOf, hs])
    go_enter Tryd.func58, Tryd.ntmps58
    go_wp2
    go_ret
    exact ⟨ret_int HE.out.symm, below_one _ _⟩
  · cases r
    · have HE : Hid (sideOf ⟨g0, g1, g2, g3, l, s, d⟩ false = l) := Lib.hid (by simp [sideOf, hs])
      go_enter Tryd.func58, Tryd.ntmps58
      go_wp2
      go_ret
      exact ⟨ret_int HE.out.symm, below_one _ _⟩
    · have HE : Hid (sideOf ⟨g0, g1, g2, g3, l, s, d⟩ true = 1) := Lib.hid (by simp [sideOf, hs])
      go_enter Tryd.func58, Tryd.ntmps58
      go_wp2
      go_ret
      exact ⟨ret_int HE.out.symm, below_one _ _⟩

set_option maxHeartbeats 1000000 in
theorem spec_l04Pending (x : St) (w : World) : Calls Tryd.prog 36 #[stV x] w fun e w' => e = .returned (.bool (pendB x)) ∧ Below w.heap.size w w' := by
  obtain ⟨g0, g1, g2, g3, l, s, d⟩ := x
  unfold stV
  by_cases hs : 0 < s
  · have HE : Hid (pendB ⟨g0, g1, g2, g3, l, s, d⟩ = true) := Lib.hid (by simp [pendB, hs])
    go_enter Tryd.func36, Tryd.ntmps36
    go_wp2
    go_ret
    exact ⟨ret_bool HE.out.symm, below_one _ _⟩
  · have HE : Hid (pendB ⟨g0, g1, g2, g3, l, s, d⟩ = decide (0 < d)) := Lib.hid (by simp [pendB, hs])
    go_enter Tryd.func36, Tryd.ntmps36
    go_wp2
    go_ret
    exact ⟨ret_bool HE.out.symm, below_one _ _⟩

set_option maxHeartbeats 1000000 in
theorem spec_l04Wide (x : St) (n : Int) (w : World) (h0 : 0 ≤ n) (h3 : n ≤ 3) : Calls Tryd.prog 63 #[stV x, .int .i64 n] w fun e w' => e = .returned (.bool (wideB x n)) ∧ Below w.heap.size w w' := by
  have HG := Lib.hid (fun w => spec_l04Get x n w h0 h3)
  have HW : Hid (wideB x n = (decide (0 < stGet x n) && decide (setKind (stGet x n) = 2))) := Lib.hid rfl
  rw [HW.out]
  generalize stGet x n = g at *
  clear HW
  obtain ⟨g0, g1, g2, g3, l, s, d⟩ := x
  have B0 := below_one w (.cells #[.int .i64 g0, .int .i64 g1, .int .i64 g2, .int .i64 g3, .int .i64 l, .int .i64 s, .int .i64 d] 24)
  unfold stV at HG ⊢
  by_cases hg : 0 < g
  · have HE : Hid ((setKind g == 2) = (decide (0 < g) && decide (setKind g = 2))) := Lib.hid (by simp [hg]; rfl)
    rw [← HE.out]
    go_enter Tryd.func63, Tryd.ntmps63
    go_wp2_with fail
    refine (HG.out _).mono ?_
    rintro e w1 ⟨rfl, b1⟩
    have B1 : Below w.heap.size w w1 := B0.trans (b1.mono B0.size)
    go_wp2_with fail
    refine (spec_l02Set g w1).mono ?_
    rintro e w2 ⟨yg, rfl, hyg, hblk, b2⟩
    clear hyg hblk
    have B2 : Below w.heap.size w w2 := B1.trans (b2.mono B1.size)
    unfold setV
    have F1 := setField1
    go_wp2
    go_ret
    exact ⟨rfl, B2⟩
  · have HE : Hid (false = (decide (0 < g) && decide (setKind g = 2))) := Lib.hid (by simp [hg])
    rw [← HE.out]
    go_enter Tryd.func63, Tryd.ntmps63
    go_wp2_with fail
    refine (HG.out _).mono ?_
    rintro e w1 ⟨rfl, b1⟩
    have B1 : Below w.heap.size w w1 := B0.trans (b1.mono B0.size)
    go_wp2
    go_ret
    exact ⟨rfl, B1⟩

end Go.Proofs.YtbamjhldebobhaaDoor
