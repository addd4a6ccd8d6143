/- The program's token of a byte other than ESC. -/
import Derived.Test.YtbamjhldebobhaaGreatDoorTokB
namespace Go.Proofs.YtbamjhldebobhaaGreatDoor
open Go.RowKit

/-- The token, without its place, of a byte other than ESC. -/
def byteTok (b : Int) : Tok :=
  if b = 15 then ⟨5, 0, 0, 0, 0, 0⟩ else if b = 14 then ⟨5, 1, 0, 0, 0, 0⟩ else if b = 142 then ⟨6, 2, 0, 0, 0, 0⟩ else if b = 143 then ⟨6, 3, 0, 0, 0, 0⟩
  else if b = 32 then ⟨2, 0, 0, 0, 0, 0⟩ else if 33 ≤ b ∧ b ≤ 126 then ⟨3, b, 0, 0, 0, 0⟩ else if 160 ≤ b then ⟨4, b - 128, 0, 0, 0, 0⟩ else ⟨1, b, 0, 0, 0, 0⟩

set_option maxHeartbeats 2000000 in
theorem impl_byteToken (b : Int) (w : World) (h0 : 0 ≤ b) (h1 : b ≤ 65536) : Calls Tryz.prog 155 #[.int .i64 b] w (TokDone (byteTok b) w) := by
  by_cases c1 : b = 15
  · subst c1
    go_enter Tryz.func155, Tryz.ntmps155
    go_wp2
    exact tok_ret (y := ⟨5, 0, 0, 0, 0, 0⟩) rfl rfl rfl (heap_alloc_new _ _) Tryz.underlying102 rfl (by kernel_rfl) rfl (below_one _ _)
  by_cases c2 : b = 14
  · subst c2
    clear c1
    go_enter Tryz.func155, Tryz.ntmps155
    go_wp2
    exact tok_ret (y := ⟨5, 1, 0, 0, 0, 0⟩) rfl rfl rfl (heap_alloc_new _ _) Tryz.underlying102 rfl (by kernel_rfl) rfl (below_one _ _)
  by_cases c3 : b = 142
  · subst c3
    clear c1 c2
    go_enter Tryz.func155, Tryz.ntmps155
    go_wp2
    exact tok_ret (y := ⟨6, 2, 0, 0, 0, 0⟩) rfl rfl rfl (heap_alloc_new _ _) Tryz.underlying102 rfl (by kernel_rfl) rfl (below_one _ _)
  by_cases c4 : b = 143
  · subst c4
    clear c1 c2 c3
    go_enter Tryz.func155, Tryz.ntmps155
    go_wp2
    exact tok_ret (y := ⟨6, 3, 0, 0, 0, 0⟩) rfl rfl rfl (heap_alloc_new _ _) Tryz.underlying102 rfl (by kernel_rfl) rfl (below_one _ _)
  by_cases c5 : b = 32
  · subst c5
    clear c1 c2 c3 c4
    go_enter Tryz.func155, Tryz.ntmps155
    go_wp2
    exact tok_ret (y := ⟨2, 0, 0, 0, 0, 0⟩) rfl rfl rfl (heap_alloc_new _ _) Tryz.underlying102 rfl (by kernel_rfl) rfl (below_one _ _)
  have e1 : (b == 15) = false := by rw [beq_eq_false_iff_ne]; exact c1
  have e2 : (b == 14) = false := by rw [beq_eq_false_iff_ne]; exact c2
  have e3 : (b == 142) = false := by rw [beq_eq_false_iff_ne]; exact c3
  have e4 : (b == 143) = false := by rw [beq_eq_false_iff_ne]; exact c4
  have e5 : (b == 32) = false := by rw [beq_eq_false_iff_ne]; exact c5
  by_cases c6 : 33 ≤ b
  · by_cases c7 : b ≤ 126
    · have HE : Hid (byteTok b = ⟨3, b, 0, 0, 0, 0⟩) := Lib.hid (by rw [byteTok, if_neg c1, if_neg c2, if_neg c3, if_neg c4, if_neg c5, if_pos ⟨c6, c7⟩])
      clear c1 c2 c3 c4 c5
      go_enter Tryz.func155, Tryz.ntmps155
      go_wp2
      exact tok_ret HE.out rfl rfl (heap_alloc_new _ _) Tryz.underlying102 rfl (by kernel_rfl) rfl (below_one _ _)
    · have c8 : 126 < b := by omega
      by_cases c9 : 160 ≤ b
      · have HE : Hid (byteTok b = ⟨4, b - 128, 0, 0, 0, 0⟩) := Lib.hid (by rw [byteTok, if_neg c1, if_neg c2, if_neg c3, if_neg c4, if_neg c5, if_neg (by omega), if_pos c9])
        have u1 : IntKind.i64.wrap (b - 128) = b - 128 := IntWalk.i64_in _ (by omega)
        clear c1 c2 c3 c4 c5 c7
        go_enter Tryz.func155, Tryz.ntmps155
        go_wp2
        exact tok_ret HE.out rfl rfl (heap_alloc_new _ _) Tryz.underlying102 rfl (by kernel_rfl) rfl (below_one _ _)
      · have HE : Hid (byteTok b = ⟨1, b, 0, 0, 0, 0⟩) := Lib.hid (by rw [byteTok, if_neg c1, if_neg c2, if_neg c3, if_neg c4, if_neg c5, if_neg (by omega), if_neg c9])
        have c10 : b < 160 := by omega
        clear c1 c2 c3 c4 c5 c7 c9
        go_enter Tryz.func155, Tryz.ntmps155
        go_wp2
        exact tok_ret HE.out rfl rfl (heap_alloc_new _ _) Tryz.underlying102 rfl (by kernel_rfl) rfl (below_one _ _)
  · have HE : Hid (byteTok b = ⟨1, b, 0, 0, 0, 0⟩) := Lib.hid (by rw [byteTok, if_neg c1, if_neg c2, if_neg c3, if_neg c4, if_neg c5, if_neg (by omega), if_neg (by omega)])
    have c10 : b < 33 := by omega
    clear c1 c2 c3 c4 c5 c6
    go_enter Tryz.func155, Tryz.ntmps155
    go_wp2
    exact tok_ret HE.out rfl rfl (heap_alloc_new _ _) Tryz.underlying102 rfl (by kernel_rfl) rfl (below_one _ _)

end Go.Proofs.YtbamjhldebobhaaGreatDoor
