/- The program's tokens: a byte's token, escape sequences, the token at an offset, NextToken. -/
import Derived.Test.YtlakpddabkmpoaaDesI
import Derived.Test.YtlakpddabkmpoaaTokC
namespace Go.Proofs.Ytlakpddabkmpoaa
open Go.RowKit

/-- The token, without its place, of a byte other than ESC. -/
def byteTok (b : Int) : Tok :=
  if b = 15 then ⟨5, 0, 0, 0, 0, 0⟩ else if b = 14 then ⟨5, 1, 0, 0, 0, 0⟩ else if b = 142 then ⟨6, 2, 0, 0, 0, 0⟩ else if b = 143 then ⟨6, 3, 0, 0, 0, 0⟩
  else if b = 32 then ⟨2, 0, 0, 0, 0, 0⟩ else if 33 ≤ b ∧ b ≤ 126 then ⟨3, b, 0, 0, 0, 0⟩ else if 160 ≤ b then ⟨4, b - 128, 0, 0, 0, 0⟩ else ⟨1, b, 0, 0, 0, 0⟩

set_option maxHeartbeats 2000000 in
theorem impl_byteToken (b : Int) (w : World) (h0 : 0 ≤ b) (h1 : b ≤ 65536) : Calls Try.prog 19 #[.int .i64 b] w (TokDone (byteTok b) w) := by
  by_cases c1 : b = 15
  · subst c1
    go_enter Try.func19, Try.ntmps19
    go_wp2
    exact tok_ret (y := ⟨5, 0, 0, 0, 0, 0⟩) rfl rfl rfl (heap_alloc_new _ _) Try.underlying23 rfl (by kernel_rfl) rfl (below_one _ _)
  by_cases c2 : b = 14
  · subst c2
    clear c1
    go_enter Try.func19, Try.ntmps19
    go_wp2
    exact tok_ret (y := ⟨5, 1, 0, 0, 0, 0⟩) rfl rfl rfl (heap_alloc_new _ _) Try.underlying23 rfl (by kernel_rfl) rfl (below_one _ _)
  by_cases c3 : b = 142
  · subst c3
    clear c1 c2
    go_enter Try.func19, Try.ntmps19
    go_wp2
    exact tok_ret (y := ⟨6, 2, 0, 0, 0, 0⟩) rfl rfl rfl (heap_alloc_new _ _) Try.underlying23 rfl (by kernel_rfl) rfl (below_one _ _)
  by_cases c4 : b = 143
  · subst c4
    clear c1 c2 c3
    go_enter Try.func19, Try.ntmps19
    go_wp2
    exact tok_ret (y := ⟨6, 3, 0, 0, 0, 0⟩) rfl rfl rfl (heap_alloc_new _ _) Try.underlying23 rfl (by kernel_rfl) rfl (below_one _ _)
  by_cases c5 : b = 32
  · subst c5
    clear c1 c2 c3 c4
    go_enter Try.func19, Try.ntmps19
    go_wp2
    exact tok_ret (y := ⟨2, 0, 0, 0, 0, 0⟩) rfl rfl rfl (heap_alloc_new _ _) Try.underlying23 rfl (by kernel_rfl) rfl (below_one _ _)
  have e1 : (b == 15) = false := by rw [beq_eq_false_iff_ne]; exact c1
  have e2 : (b == 14) = false := by rw [beq_eq_false_iff_ne]; exact c2
  have e3 : (b == 142) = false := by rw [beq_eq_false_iff_ne]; exact c3
  have e4 : (b == 143) = false := by rw [beq_eq_false_iff_ne]; exact c4
  have e5 : (b == 32) = false := by rw [beq_eq_false_iff_ne]; exact c5
  by_cases c6 : 33 ≤ b
  · by_cases c7 : b ≤ 126
    · have HE : Hid (byteTok b = ⟨3, b, 0, 0, 0, 0⟩) := Lib.hid (by rw [byteTok, if_neg c1, if_neg c2, if_neg c3, if_neg c4, if_neg c5, if_pos ⟨c6, c7⟩])
      clear c1 c2 c3 c4 c5
      go_enter Try.func19, Try.ntmps19
      go_wp2
      exact tok_ret HE.out rfl rfl (heap_alloc_new _ _) Try.underlying23 rfl (by kernel_rfl) rfl (below_one _ _)
    · have c8 : 126 < b := by omega
      by_cases c9 : 160 ≤ b
      · have HE : Hid (byteTok b = ⟨4, b - 128, 0, 0, 0, 0⟩) := Lib.hid (by rw [byteTok, if_neg c1, if_neg c2, if_neg c3, if_neg c4, if_neg c5, if_neg (by omega), if_pos c9])
        have u1 : IntKind.i64.wrap (b - 128) = b - 128 := IntWalk.i64_in _ (by omega)
        clear c1 c2 c3 c4 c5 c7
        go_enter Try.func19, Try.ntmps19
        go_wp2
        exact tok_ret HE.out rfl rfl (heap_alloc_new _ _) Try.underlying23 rfl (by kernel_rfl) rfl (below_one _ _)
      · have HE : Hid (byteTok b = ⟨1, b, 0, 0, 0, 0⟩) := Lib.hid (by rw [byteTok, if_neg c1, if_neg c2, if_neg c3, if_neg c4, if_neg c5, if_neg (by omega), if_neg c9])
        have c10 : b < 160 := by omega
        clear c1 c2 c3 c4 c5 c7 c9
        go_enter Try.func19, Try.ntmps19
        go_wp2
        exact tok_ret HE.out rfl rfl (heap_alloc_new _ _) Try.underlying23 rfl (by kernel_rfl) rfl (below_one _ _)
  · have HE : Hid (byteTok b = ⟨1, b, 0, 0, 0, 0⟩) := Lib.hid (by rw [byteTok, if_neg c1, if_neg c2, if_neg c3, if_neg c4, if_neg c5, if_neg (by omega), if_neg (by omega)])
    have c10 : b < 33 := by omega
    clear c1 c2 c3 c4 c5 c6
    go_enter Try.func19, Try.ntmps19
    go_wp2
    exact tok_ret HE.out rfl rfl (heap_alloc_new _ _) Try.underlying23 rfl (by kernel_rfl) rfl (below_one _ _)

set_option maxHeartbeats 2000000 in
theorem impl_shiftToken (f : Int) (w : World) : Calls Try.prog 24 #[.int .i64 f] w (TokDone (plainTok ⟨#[]⟩ f 0 0) w) := by
  by_cases c1 : f = 110
  · subst c1
    go_enter Try.func24, Try.ntmps24
    go_wp2
    exact tok_ret (y := ⟨5, 2, 0, 0, 0, 0⟩) rfl rfl rfl (heap_alloc_new _ _) Try.underlying23 rfl (by kernel_rfl) rfl (below_one _ _)
  by_cases c2 : f = 111
  · subst c2
    clear c1
    go_enter Try.func24, Try.ntmps24
    go_wp2
    exact tok_ret (y := ⟨5, 3, 0, 0, 0, 0⟩) rfl rfl rfl (heap_alloc_new _ _) Try.underlying23 rfl (by kernel_rfl) rfl (below_one _ _)
  by_cases c3 : f = 78
  · subst c3
    clear c1 c2
    go_enter Try.func24, Try.ntmps24
    go_wp2
    exact tok_ret (y := ⟨6, 2, 0, 0, 0, 0⟩) rfl rfl rfl (heap_alloc_new _ _) Try.underlying23 rfl (by kernel_rfl) rfl (below_one _ _)
  by_cases c4 : f = 79
  · subst c4
    clear c1 c2 c3
    go_enter Try.func24, Try.ntmps24
    go_wp2
    exact tok_ret (y := ⟨6, 3, 0, 0, 0, 0⟩) rfl rfl rfl (heap_alloc_new _ _) Try.underlying23 rfl (by kernel_rfl) rfl (below_one _ _)
  have HE : Hid (plainTok ⟨#[]⟩ f 0 0 = ⟨9, 0, 0, 0, 0, 0⟩) := Lib.hid (by
    have a1 : ¬ (f = 78 ∨ f = 79) := by omega
    have a2 : ¬ (f = 110 ∨ f = 111) := by omega
    simp [plainTok, a1, a2])
  have e1 : (f == 110) = false := by rw [beq_eq_false_iff_ne]; exact c1
  have e2 : (f == 111) = false := by rw [beq_eq_false_iff_ne]; exact c2
  have e3 : (f == 78) = false := by rw [beq_eq_false_iff_ne]; exact c3
  have e4 : (f == 79) = false := by rw [beq_eq_false_iff_ne]; exact c4
  clear c1 c2 c3 c4
  go_enter Try.func24, Try.ntmps24
  go_wp2
  exact tok_ret HE.out rfl rfl (heap_alloc_new _ _) Try.underlying23 rfl (by kernel_rfl) rfl (below_one _ _)

set_option maxHeartbeats 2000000 in
set_option maxRecDepth 100000 in
theorem impl_escapeToken (s : ByteArray) (f : Int) (w : World) (hs : s.size ≤ 1048576) : Calls Try.prog 21 #[.string s, .int .i64 f] w (TokDone (plainTok s f 0 0) w) := by
  by_cases hm : s = ⟨#[]⟩
  · subst hm
    have hR0 := slot0 w
    have b0 := below_one w (.cells #[.int .i64 0, .int .i64 0, .int .i64 0, .int .i64 0, .int .i64 0, .int .i64 0] 23)
    go_enter Try.func21, Try.ntmps21
    go_wp2_with fail
    refine (impl_shiftToken f _).mono ?_
    rintro e w3 ⟨rfl, b3⟩
    have hR3 := Lib.hid (hR0.keep b3)
    have b03 : Below w.heap.size w w3 := b0.trans (b3.mono b0.size)
    have ⟨r0, r1, r2, r3, r4, r5⟩ := hR3.out.cells
    have ⟨z0, z1, z2, z3, z4, z5⟩ := hR3.out.thaw
    simp only [zeroTok] at r0 r1 r2 r3 r4 r5
    have hl3 : w.heap.size < w3.heap.size := hR3.out.lt
    generalize plainTok ⟨#[]⟩ f 0 0 = y at *
    clear hR0 b0 b3
    unfold tokV
    go_wp2
    exact tok_ret (y := y) rfl rfl rfl (hR3.out.put y) Try.underlying23 rfl (by kernel_rfl) rfl (below_put b03 (Nat.le_refl _) y)
  · have HP := Lib.hid (plainTok_des s f 0 0 hm)
    have hm3 : s.toList.isEmpty = false := by
      rw [ByteArray.toList_eq]
      cases h : s.data.toList with
      | nil => exact absurd (ByteArray.ext (Array.toList_inj.1 h)) hm
      | cons _ _ => rfl
    have HD := Lib.hid (fun w => impl_designated s f w hm hs)
    unfold desV at HD
    clear hm
    generalize desG s = g at *
    generalize desK s f = k at *
    by_cases k0 : k = 0
    · have HE : Hid (plainTok s f 0 0 = ⟨9, 0, 0, 0, 0, 0⟩) := Lib.hid (by rw [HP.out, if_pos (.inl k0)])
      subst k0
      go_enter Try.func21, Try.ntmps21
      go_wp2_with fail
      refine (HD.out _).mono ?_
      rintro e w3 ⟨rfl, rfl⟩
      go_wp2
      exact tok_ret HE.out rfl rfl (heap_alloc_new _ _) Try.underlying23 rfl (by kernel_rfl) rfl (below_one _ _)
    · have e0 : (k == 0) = false := by rw [beq_eq_false_iff_ne]; exact k0
      by_cases f64 : f < 64
      · have HE : Hid (plainTok s f 0 0 = ⟨9, 0, 0, 0, 0, 0⟩) := Lib.hid (by rw [HP.out, if_pos (.inr f64)])
        clear k0
        go_enter Try.func21, Try.ntmps21
        go_wp2_with fail
        refine (HD.out _).mono ?_
        rintro e w3 ⟨rfl, rfl⟩
        go_wp2
        exact tok_ret HE.out rfl rfl (heap_alloc_new _ _) Try.underlying23 rfl (by kernel_rfl) rfl (below_one _ _)
      · have HE : Hid (plainTok s f 0 0 = ⟨7, g, k, f, 0, 0⟩) := Lib.hid (by rw [HP.out, if_neg (by omega)])
        have f64' : 64 ≤ f := by omega
        clear k0 f64
        go_enter Try.func21, Try.ntmps21
        go_wp2_with fail
        refine (HD.out _).mono ?_
        rintro e w3 ⟨rfl, rfl⟩
        go_wp2
        exact tok_ret HE.out rfl rfl (heap_alloc_new _ _) Try.underlying23 rfl (by kernel_rfl) rfl (below_one _ _)

end Go.Proofs.Ytlakpddabkmpoaa
