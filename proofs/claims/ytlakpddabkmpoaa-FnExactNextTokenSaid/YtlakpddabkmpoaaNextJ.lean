/- The program's escape sequences, the token at an offset, and NextToken. -/
import Derived.Test.YtlakpddabkmpoaaNextI
import Derived.WalkMore
namespace Go.Proofs.Ytlakpddabkmpoaa
open Go.RowKit

theorem plainTok_at (m : ByteArray) (f p n : Int) : plainTok m f p n = ⟨(plainTok m f 0 0).k, (plainTok m f 0 0).a, (plainTok m f 0 0).b, (plainTok m f 0 0).c, p, n⟩ := by
  unfold plainTok
  repeat' split
  all_goals rfl
theorem nextTok_byte (s : ByteArray) (k : Nat) (h : ¬ byteAt s k = 27) : nextTok s k = ⟨(byteTok (byteAt s k)).k, (byteTok (byteAt s k)).a, (byteTok (byteAt s k)).b, (byteTok (byteAt s k)).c, k, 1⟩ := by
  rw [nextTok, if_neg h]
  generalize byteAt s k = b
  unfold byteTok inB
  by_cases c1 : b = 15
  · subst c1; rfl
  by_cases c2 : b = 14
  · subst c2; rfl
  by_cases c3 : b = 142
  · subst c3; rfl
  by_cases c4 : b = 143
  · subst c4; rfl
  rw [if_neg (show ¬ (b = 14 ∨ b = 15) by omega), if_neg (show ¬ (b = 142 ∨ b = 143) by omega)]
  simp only [c1, c2, c3, c4, if_false]
  by_cases c5 : b = 32
  · simp [c5]
  by_cases c6 : 33 ≤ b ∧ b ≤ 126
  · simp [c5, c6.1, c6.2]
  by_cases c7 : 160 ≤ b
  · have c8 : ¬ b ≤ 126 := by omega
    simp [c5, c7, c8]
  · have c8 : ¬ (33 ≤ b ∧ b ≤ 126) := c6
    have c9 : (decide (33 ≤ b) && decide (b ≤ 126)) = false := by
      cases h : (decide (33 ≤ b) && decide (b ≤ 126))
      · rfl
      · simp at h; exact absurd h c8
    simp [c5, c7, c8]

set_option maxHeartbeats 4000000 in
set_option maxRecDepth 100000 in
theorem impl_escapeAt (s : ByteArray) (k : Nat) (w : World) (hk : k < s.size) (hs : s.size ≤ 1048576) :
    Calls Try.prog 18 #[.string s, .int .i64 k] w (TokDone (escTok s k (s.size - k) (k + 1)) w) := by
  have hR := Lib.hid (slot0 w)
  have b0 := below_one w (.cells #[.int .i64 0, .int .i64 0, .int .i64 0, .int .i64 0, .int .i64 0, .int .i64 0] 23)
  have k0 : (0 : Int) ≤ (k : Int) := by omega
  have u1 : IntKind.i64.wrap ((k : Int) + 1) = (k : Int) + 1 := IntWalk.i64_in _ (by omega)
  go_enter Try.func18, Try.ntmps18
  go_wp2
  go_step3
  go_wp2
  go_step3
  go_wp2
  generalize w.alloc (.cells #[.int .i64 0, .int .i64 0, .int .i64 0, .int .i64 0, .int .i64 0, .int .i64 0] 23) = w1 at *
  go_loop [5, 6] (fun q i => ∃ j f : Nat, q = .int .i64 8 ∧ k < j ∧ j ≤ s.size ∧ j ≤ k + 4 ∧ i = .int .i64 j ∧ Hid (j + f = s.size + 1) ∧ Hid (escTok s k (s.size - k) (k + 1) = escTok s k f j)) (fun _ i => s.size - (intOf i).toNat)
  case atStart => exact ⟨k + 1, s.size - k, rfl, by omega, by omega, by omega, by simp, Lib.hid (by omega), Lib.hid rfl⟩
  case round =>
    obtain ⟨j, f, rfl, hj, hjs, hj4, rfl, HF, HR⟩ := hrel
    have hl1 : w.heap.size < w1.heap.size := hR.out.lt
    have u6 : IntKind.i64.wrap ((j : Int) - k) = (j : Int) - k := IntWalk.i64_in _ (by omega)
    have u4 : IntKind.i64.wrap ((j : Int) + 1) = (j : Int) + 1 := IntWalk.i64_in _ (by omega)
    have u5 : IntKind.i64.wrap ((j : Int) + 1 - k) = (j : Int) + 1 - k := IntWalk.i64_in _ (by omega)
    by_cases hlt : j < s.size
    · obtain ⟨f, rfl⟩ : ∃ q, f = q + 1 := ⟨f - 1, by have := HF.out; omega⟩
      have hb := byteAt_le s j
      have he := byteAt_eq s j hlt
      have HU : Hid (escTok s k (f + 1) j = if inB (byteAt s j) 32 47 = true then (if j = k + 4 then ⟨9, 0, 0, 0, k, 5⟩ else escTok s k f (j + 1))
        else if inB (byteAt s j) 48 126 = true then plainTok (s.extract (k + 1) j) (byteAt s j) k ((j : Int) + 1 - k) else ⟨9, 0, 0, 0, k, (j : Int) - k⟩) := Lib.hid (by rw [escTok, if_pos hlt])
      rw [he] at hb HU
      clear he
      have v1 : (0 : Int) ≤ (j : Int) := by omega
      have v2 : (j : Int) < (s.size : Int) := by omega
      generalize hbb : (s[j].toNat : Int) = b at *
      by_cases c1 : 48 ≤ b
      · by_cases c2 : b ≤ 126
        · have HE : Hid (escTok s k (s.size - k) (k + 1) = plainTok (s.extract (k + 1) j) b k ((j : Int) + 1 - k)) := Lib.hid (by
            rw [HR.out, HU.out, if_neg (by simp [inB]; omega), if_pos (by simp [inB]; omega)])
          go_wp2_with fail
          refine (impl_escapeToken _ b w1 ?_).mono ?_
          · simp; omega
          rintro e w3 ⟨rfl, b3⟩
          have HP := Lib.hid (plainTok_at (s.extract (k + 1) j) b k ((j : Int) + 1 - k))
          generalize plainTok (s.extract (k + 1) j) b 0 0 = y at *
          have hR3 := Lib.hid (hR.out.keep b3)
          have b03 : Below w.heap.size w w3 := b0.trans (b3.mono b0.size)
          have ⟨r0, r1, r2, r3, r4, r5⟩ := hR3.out.cells
          have ⟨z0, z1, z2, z3, z4, z5⟩ := hR3.out.thaw
          simp only [zeroTok] at r0 r1 r2 r3 r4 r5
          have hl3 : w.heap.size < w3.heap.size := hR3.out.lt
          clear b3
          unfold tokV
          go_wp2
          have hT := (hR3.out.put ⟨y.k, y.a, y.b, y.c, k, (j : Int) + 1 - k⟩)
          exact tok_ret (y := ⟨y.k, y.a, y.b, y.c, k, (j : Int) + 1 - k⟩) (HE.out.trans HP.out) rfl rfl (hT.keep (below_one _ _)) Try.underlying23 rfl (by kernel_rfl) rfl ((below_put b03 (Nat.le_refl _) ⟨y.k, y.a, y.b, y.c, k, (j : Int) + 1 - k⟩).alloc (below_put b03 (Nat.le_refl _) ⟨y.k, y.a, y.b, y.c, k, (j : Int) + 1 - k⟩).size _)
        · have HE : Hid (escTok s k (s.size - k) (k + 1) = ⟨9, 0, 0, 0, k, (j : Int) - k⟩) := Lib.hid (by
            rw [HR.out, HU.out, if_neg (by simp [inB]; omega), if_neg (by simp [inB]; omega)])
          have c3 : 126 < b := by omega
          have c4 : 47 < b := by omega
          have ⟨r0, r1, r2, r3, r4, r5⟩ := hR.out.cells
          have ⟨z0, z1, z2, z3, z4, z5⟩ := hR.out.thaw
          simp only [zeroTok] at r0 r1 r2 r3 r4 r5
          clear c2
          go_wp2
          exact tok_ret (y := ⟨9, 0, 0, 0, k, (j : Int) - k⟩) HE.out rfl rfl (hR.out.put ⟨9, 0, 0, 0, k, (j : Int) - k⟩) Try.underlying23 rfl (by kernel_rfl) rfl (below_put b0 (Nat.le_refl _) ⟨9, 0, 0, 0, k, (j : Int) - k⟩)
      · have c3 : b < 48 := by omega
        have c4 : b ≤ 47 := by omega
        by_cases c2 : 32 ≤ b
        · by_cases h4 : j = k + 4
          · have HE : Hid (escTok s k (s.size - k) (k + 1) = ⟨9, 0, 0, 0, k, (j : Int) + 1 - k⟩) := Lib.hid (by
              rw [HR.out, HU.out, if_pos (by simp [inB]; omega), if_pos h4, show (j : Int) + 1 - k = 5 by omega])
            have h4' : (3 : Int) < (j : Int) - k := by omega
            have ⟨r0, r1, r2, r3, r4, r5⟩ := hR.out.cells
            have ⟨z0, z1, z2, z3, z4, z5⟩ := hR.out.thaw
            simp only [zeroTok] at r0 r1 r2 r3 r4 r5
            clear h4 c1
            go_wp2
            exact tok_ret (y := ⟨9, 0, 0, 0, k, (j : Int) + 1 - k⟩) HE.out rfl rfl (hR.out.put ⟨9, 0, 0, 0, k, (j : Int) + 1 - k⟩) Try.underlying23 rfl (by kernel_rfl) rfl (below_put b0 (Nat.le_refl _) ⟨9, 0, 0, 0, k, (j : Int) + 1 - k⟩)
          · have HE : Hid (escTok s k (s.size - k) (k + 1) = escTok s k f (j + 1)) := Lib.hid (by
              rw [HR.out, HU.out, if_pos (by simp [inB]; omega), if_neg h4])
            have h4' : (j : Int) - k ≤ 3 := by omega
            clear c1
            go_wp2
            go_round
            case rel => exact ⟨j + 1, f, rfl, by omega, by omega, by omega, by go_num, Lib.hid (by have := HF.out; omega), HE⟩
            case measure => simp [intOf]; omega
        · have HE : Hid (escTok s k (s.size - k) (k + 1) = ⟨9, 0, 0, 0, k, (j : Int) - k⟩) := Lib.hid (by
            rw [HR.out, HU.out, if_neg (by simp [inB]; omega), if_neg (by simp [inB]; omega)])
          have c5 : b < 32 := by omega
          have ⟨r0, r1, r2, r3, r4, r5⟩ := hR.out.cells
          have ⟨z0, z1, z2, z3, z4, z5⟩ := hR.out.thaw
          simp only [zeroTok] at r0 r1 r2 r3 r4 r5
          clear c1 c2
          go_wp2
          exact tok_ret (y := ⟨9, 0, 0, 0, k, (j : Int) - k⟩) HE.out rfl rfl (hR.out.put ⟨9, 0, 0, 0, k, (j : Int) - k⟩) Try.underlying23 rfl (by kernel_rfl) rfl (below_put b0 (Nat.le_refl _) ⟨9, 0, 0, 0, k, (j : Int) - k⟩)
    · have hje : j = s.size := by omega
      have HE : Hid (escTok s k (s.size - k) (k + 1) = ⟨8, 0, 0, 0, k, (j : Int) - k⟩) := Lib.hid (by
        rw [HR.out, hje]
        cases f with
        | zero => rfl
        | succ f => rw [escTok, if_neg (by omega)])
      have v2 : ¬ (j : Int) < (s.size : Int) := by omega
      have ⟨r0, r1, r2, r3, r4, r5⟩ := hR.out.cells
      have ⟨z0, z1, z2, z3, z4, z5⟩ := hR.out.thaw
      simp only [zeroTok] at r0 r1 r2 r3 r4 r5
      clear hje
      go_wp2
      exact tok_ret (y := ⟨8, 0, 0, 0, k, (j : Int) - k⟩) HE.out rfl rfl (hR.out.put ⟨8, 0, 0, 0, k, (j : Int) - k⟩) Try.underlying23 rfl (by kernel_rfl) rfl (below_put b0 (Nat.le_refl _) ⟨8, 0, 0, 0, k, (j : Int) - k⟩)

set_option maxHeartbeats 2000000 in
set_option maxRecDepth 100000 in
theorem impl_tokenAt (s : ByteArray) (k : Nat) (w : World) (hk : k < s.size) (hs : s.size ≤ 1048576) : Calls Try.prog 15 #[.string s, .int .i64 k] w (TokDone (nextTok s k) w) := by
  have hR0 := slot0 w
  have b0 := below_one w (.cells #[.int .i64 0, .int .i64 0, .int .i64 0, .int .i64 0, .int .i64 0, .int .i64 0] 23)
  have hb := byteAt_le s k
  have he := byteAt_eq s k hk
  have k0 : (0 : Int) ≤ (k : Int) := by omega
  have k1 : (k : Int) < (s.size : Int) := by omega
  by_cases c1 : byteAt s k = 27
  · have HE : Hid (nextTok s k = escTok s k (s.size - k) (k + 1)) := Lib.hid (by rw [nextTok, if_pos c1])
    have hb2 : (s[k].toNat : Int) = 27 := by omega
    clear he c1 hb
    go_enter Try.func15, Try.ntmps15
    go_wp2_with fail
    refine (impl_escapeAt s k _ hk hs).mono ?_
    rintro e w3 ⟨rfl, b3⟩
    have hR3 := Lib.hid (hR0.keep b3)
    have b03 : Below w.heap.size w w3 := b0.trans (b3.mono b0.size)
    have ⟨r0, r1, r2, r3, r4, r5⟩ := hR3.out.cells
    have ⟨z0, z1, z2, z3, z4, z5⟩ := hR3.out.thaw
    simp only [zeroTok] at r0 r1 r2 r3 r4 r5
    have hl3 : w.heap.size < w3.heap.size := hR3.out.lt
    generalize escTok s k (s.size - k) (k + 1) = y at *
    clear hR0 b0 b3
    unfold tokV
    go_wp2
    exact tok_ret (y := y) HE.out rfl rfl (hR3.out.put y) Try.underlying23 rfl (by kernel_rfl) rfl (below_put b03 (Nat.le_refl _) y)
  · have HE := Lib.hid (nextTok_byte s k c1)
    have e1 : ((s[k].toNat : Int) == 27) = false := by rw [beq_eq_false_iff_ne]; omega
    rw [he] at HE hb
    clear he c1
    go_enter Try.func15, Try.ntmps15
    go_wp2_with fail
    refine (impl_byteToken (s[k].toNat : Int) _ (by omega) (by omega)).mono ?_
    rintro e w3 ⟨rfl, b3⟩
    have hR3 := Lib.hid (hR0.keep b3)
    have b03 : Below w.heap.size w w3 := b0.trans (b3.mono b0.size)
    have ⟨r0, r1, r2, r3, r4, r5⟩ := hR3.out.cells
    have ⟨z0, z1, z2, z3, z4, z5⟩ := hR3.out.thaw
    simp only [zeroTok] at r0 r1 r2 r3 r4 r5
    have hl3 : w.heap.size < w3.heap.size := hR3.out.lt
    generalize byteTok (s[k].toNat : Int) = y at *
    clear hR0 b0 b3
    unfold tokV
    go_wp2
    have hT := (hR3.out.put ⟨y.k, y.a, y.b, y.c, k, 1⟩)
    exact tok_ret (y := ⟨y.k, y.a, y.b, y.c, k, 1⟩) HE.out rfl rfl (hT.keep (below_one _ _)) Try.underlying23 rfl (by kernel_rfl) rfl ((below_put b03 (Nat.le_refl _) ⟨y.k, y.a, y.b, y.c, k, 1⟩).alloc (below_put b03 (Nat.le_refl _) ⟨y.k, y.a, y.b, y.c, k, 1⟩).size _)

set_option maxHeartbeats 1000000 in
set_option maxRecDepth 100000 in
theorem impl_NextToken (s : ByteArray) (p : Int) (w : World) (hs : s.size ≤ 9223372036854775807) : Calls Try.prog 6 #[.string s, .int .i64 p] w (NtDone s p w) := by
  by_cases h1 : 65536 < s.size
  · have HC : Hid (ntC s p = 2) := Lib.hid (by simp [ntC, h1])
    have HT : Hid (ntT s p = zeroTok) := Lib.hid (by simp [ntT, HC.out])
    have h1' : (65536 : Int) < (s.size : Int) := by omega
    go_enter Try.func6, Try.ntmps6
    go_wp2
    exact tok_ret2 (y := zeroTok) rfl rfl rfl (heap_alloc_new _ _) Try.underlying23 rfl (by kernel_rfl) rfl ⟨by rw [HC.out, HT.out], below_one _ _⟩
  · have h1' : (s.size : Int) ≤ 65536 := by omega
    by_cases p0 : p < 0
    · have hp : inB p 0 ((s.size : Int) - 1) = false := by simp [inB]; omega
      have HC : Hid (ntC s p = 8) := Lib.hid (by simp [ntC, h1, hp])
      have HT : Hid (ntT s p = zeroTok) := Lib.hid (by simp [ntT, HC.out])
      clear hp
      go_enter Try.func6, Try.ntmps6
      go_wp2
      exact tok_ret2 (y := zeroTok) rfl rfl rfl (heap_alloc_new _ _) Try.underlying23 rfl (by kernel_rfl) rfl ⟨by rw [HC.out, HT.out], below_one _ _⟩
    · by_cases p1 : (s.size : Int) ≤ p
      · have hp : inB p 0 ((s.size : Int) - 1) = false := by simp [inB]; omega
        have HC : Hid (ntC s p = 8) := Lib.hid (by simp [ntC, h1, hp])
        have HT : Hid (ntT s p = zeroTok) := Lib.hid (by simp [ntT, HC.out])
        have p0' : 0 ≤ p := by omega
        clear hp p0
        go_enter Try.func6, Try.ntmps6
        go_wp2
        exact tok_ret2 (y := zeroTok) rfl rfl rfl (heap_alloc_new _ _) Try.underlying23 rfl (by kernel_rfl) rfl ⟨by rw [HC.out, HT.out], below_one _ _⟩
      · have hp : inB p 0 ((s.size : Int) - 1) = true := by simp [inB]; omega
        have HC : Hid (ntC s p = 0) := Lib.hid (by simp [ntC, h1, hp])
        have HT : Hid (ntT s p = nextTok s p.toNat) := Lib.hid (by simp [ntT, HC.out])
        obtain ⟨k, rfl⟩ := Int.eq_ofNat_of_zero_le (show 0 ≤ p by omega)
        rw [Int.toNat_natCast] at HT
        have hk : k < s.size := by omega
        have v1 : (k : Int) < (s.size : Int) := by omega
        have hR0 := slot0 w
        have b0 := below_one w (.cells #[.int .i64 0, .int .i64 0, .int .i64 0, .int .i64 0, .int .i64 0, .int .i64 0] 23)
        clear p0 p1 hp
        go_enter Try.func6, Try.ntmps6
        go_wp2_with fail
        refine (impl_tokenAt s k _ hk (by omega)).mono ?_
        rintro e w3 ⟨rfl, b3⟩
        have hR3 := Lib.hid (hR0.keep b3)
        have b03 : Below w.heap.size w w3 := b0.trans (b3.mono b0.size)
        have ⟨r0, r1, r2, r3, r4, r5⟩ := hR3.out.cells
        have ⟨z0, z1, z2, z3, z4, z5⟩ := hR3.out.thaw
        simp only [zeroTok] at r0 r1 r2 r3 r4 r5
        have hl3 : w.heap.size < w3.heap.size := hR3.out.lt
        generalize nextTok s k = y at *
        clear hR0 b0 b3
        unfold tokV
        go_wp2
        exact tok_ret2 (y := y) rfl rfl rfl (hR3.out.put y) Try.underlying23 rfl (by kernel_rfl) rfl ⟨by rw [HC.out, HT.out], below_put b03 (Nat.le_refl _) y⟩

end Go.Proofs.Ytlakpddabkmpoaa
