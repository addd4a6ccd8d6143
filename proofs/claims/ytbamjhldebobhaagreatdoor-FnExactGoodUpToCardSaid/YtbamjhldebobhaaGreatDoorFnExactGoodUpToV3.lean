/- The tied card of 'FnExactGoodUpTo': from the walk to the given statement. The listed package-level variables start as the program's text lays them (the given tie). Joined of: NextI, NextJ, RdT, RfD, RdV, RdU, RdWS, RfS, RdX, RdY, DcW, DcX, RdZ, DcY, SetsLaid, MaLaid, FnExactGoodUpToWalk, FnExactGoodUpToCard. -/
import Derived.Test.YtbamjhldebobhaaGreatDoorFnExactValidTextG2
import Derived.Test.YtbamjhldebobhaaGreatDoorTokC
import Derived.Test.YtbamjhldebobhaaGreatDoorByteI
import Derived.WalkMore
import Derived.Test.YtbamjhldebobhaaGreatDoorOwn
import Derived.Shelf.RegionOpen
import Derived.WalkKit
import Derived.OwnWalkIn
import Derived.TacticsInMore
import Derived.LoopNIn
import Derived.LoopIn
import Derived.OrdersHeld
import Derived.Defers
import Derived.Recover
import Derived.Test.YtbamjhldebobhaaGreatDoorSetsT
import Derived.Test.YtbamjhldebobhaaGreatDoorVars
import Derived.Lib.SmallJoins
import Derived.Test.YtbamjhldebobhaaGreatDoorMaB
import Derived.Test.YtbamjhldebobhaaGreatDoorCards
import Derived.Test.YtbamjhldebobhaaGreatDoorTie
import Derived.Lib.Hide

namespace Go.Proofs.YtbamjhldebobhaaGreatDoor
open Go.RowKit

set_option maxHeartbeats 2000000 in
theorem impl_shiftToken (f : Int) (w : World) : Calls Tryz.prog 203 #[.int .i64 f] w (TokDone (plainTok ⟨#[]⟩ f 0 0) w) := by
  by_cases c1 : f = 110
  · subst c1
    go_enter Tryz.func203, Tryz.ntmps203
    go_wp2
    exact tok_ret (y := ⟨5, 2, 0, 0, 0, 0⟩) rfl rfl rfl (heap_alloc_new _ _) Tryz.underlying102 rfl (by kernel_rfl) rfl (below_one _ _)
  by_cases c2 : f = 111
  · subst c2
    clear c1
    go_enter Tryz.func203, Tryz.ntmps203
    go_wp2
    exact tok_ret (y := ⟨5, 3, 0, 0, 0, 0⟩) rfl rfl rfl (heap_alloc_new _ _) Tryz.underlying102 rfl (by kernel_rfl) rfl (below_one _ _)
  by_cases c3 : f = 78
  · subst c3
    clear c1 c2
    go_enter Tryz.func203, Tryz.ntmps203
    go_wp2
    exact tok_ret (y := ⟨6, 2, 0, 0, 0, 0⟩) rfl rfl rfl (heap_alloc_new _ _) Tryz.underlying102 rfl (by kernel_rfl) rfl (below_one _ _)
  by_cases c4 : f = 79
  · subst c4
    clear c1 c2 c3
    go_enter Tryz.func203, Tryz.ntmps203
    go_wp2
    exact tok_ret (y := ⟨6, 3, 0, 0, 0, 0⟩) rfl rfl rfl (heap_alloc_new _ _) Tryz.underlying102 rfl (by kernel_rfl) rfl (below_one _ _)
  have HE : Hid (plainTok ⟨#[]⟩ f 0 0 = ⟨9, 0, 0, 0, 0, 0⟩) := Lib.hid (by
    have a1 : ¬ (f = 78 ∨ f = 79) := by omega
    have a2 : ¬ (f = 110 ∨ f = 111) := by omega
    simp [plainTok, a1, a2])
  have e1 : (f == 110) = false := by rw [beq_eq_false_iff_ne]; exact c1
  have e2 : (f == 111) = false := by rw [beq_eq_false_iff_ne]; exact c2
  have e3 : (f == 78) = false := by rw [beq_eq_false_iff_ne]; exact c3
  have e4 : (f == 79) = false := by rw [beq_eq_false_iff_ne]; exact c4
  clear c1 c2 c3 c4
  go_enter Tryz.func203, Tryz.ntmps203
  go_wp2
  exact tok_ret HE.out rfl rfl (heap_alloc_new _ _) Tryz.underlying102 rfl (by kernel_rfl) rfl (below_one _ _)

set_option maxHeartbeats 2000000 in
set_option maxRecDepth 100000 in
theorem impl_escapeToken (s : ByteArray) (f : Int) (w : World) (hs : s.size ≤ 1048576) : Calls Tryz.prog 183 #[.string s, .int .i64 f] w (TokDone (plainTok s f 0 0) w) := by
  by_cases hm : s = ⟨#[]⟩
  · subst hm
    have hR0 := slot0 w
    have b0 := below_one w (.cells #[.int .i64 0, .int .i64 0, .int .i64 0, .int .i64 0, .int .i64 0, .int .i64 0] 102)
    go_enter Tryz.func183, Tryz.ntmps183
    go_wp2_with fail
    refine (impl_shiftToken f _).mono ?_
    rintro e w3 ⟨rfl, b3⟩
    have hR3 := Lib.hid (hR0.keep b3)
    have b03 : Below w.heap.size w w3 := b0.trans (b3.mono b0.size)
    have ⟨r0, r1, r2, r3, r4, r5⟩ := hR3.out.cells
    have ⟨z0, z1, z2, z3, z4, z5⟩ := hR3.out.thaw
    simp only [zeroTok] at r0 r1 r2 r3 r4 r5
    have hl3 : w.heap.size < w3.heap.size := hR3.out.lt
    generalize plainTok ⟨#[]⟩ f 0 0 = y at *
    clear hR0 b0 b3
    unfold tokV
    go_wp2
    exact tok_ret (y := y) rfl rfl rfl (hR3.out.put y) Tryz.underlying102 rfl (by kernel_rfl) rfl (below_put b03 (Nat.le_refl _) y)
  · have HP := Lib.hid (plainTok_des s f 0 0 hm)
    have hm3 : s.toList.isEmpty = false := by
      rw [ByteArray.toList_eq]
      cases h : s.data.toList with
      | nil => exact absurd (ByteArray.ext (Array.toList_inj.1 h)) hm
      | cons _ _ => rfl
    have HD := Lib.hid (fun w => impl_designated s f w hm hs)
    unfold desV at HD
    clear hm
    generalize desG s = g at *
    generalize desK s f = k at *
    by_cases k0 : k = 0
    · have HE : Hid (plainTok s f 0 0 = ⟨9, 0, 0, 0, 0, 0⟩) := Lib.hid (by rw [HP.out, if_pos (.inl k0)])
      subst k0
      go_enter Tryz.func183, Tryz.ntmps183
      go_wp2_with fail
      refine (HD.out _).mono ?_
      rintro e w3 ⟨rfl, rfl⟩
      go_wp2
      exact tok_ret HE.out rfl rfl (heap_alloc_new _ _) Tryz.underlying102 rfl (by kernel_rfl) rfl (below_one _ _)
    · have e0 : (k == 0) = false := by rw [beq_eq_false_iff_ne]; exact k0
      by_cases f64 : f < 64
      · have HE : Hid (plainTok s f 0 0 = ⟨9, 0, 0, 0, 0, 0⟩) := Lib.hid (by rw [HP.out, if_pos (.inr f64)])
        clear k0
        go_enter Tryz.func183, Tryz.ntmps183
        go_wp2_with fail
        refine (HD.out _).mono ?_
        rintro e w3 ⟨rfl, rfl⟩
        go_wp2
        exact tok_ret HE.out rfl rfl (heap_alloc_new _ _) Tryz.underlying102 rfl (by kernel_rfl) rfl (below_one _ _)
      · have HE : Hid (plainTok s f 0 0 = ⟨7, g, k, f, 0, 0⟩) := Lib.hid (by rw [HP.out, if_neg (by omega)])
        have f64' : 64 ≤ f := by omega
        clear k0 f64
        go_enter Tryz.func183, Tryz.ntmps183
        go_wp2_with fail
        refine (HD.out _).mono ?_
        rintro e w3 ⟨rfl, rfl⟩
        go_wp2
        exact tok_ret HE.out rfl rfl (heap_alloc_new _ _) Tryz.underlying102 rfl (by kernel_rfl) rfl (below_one _ _)

end Go.Proofs.YtbamjhldebobhaaGreatDoor

namespace Go.Proofs.YtbamjhldebobhaaGreatDoor
open Go.RowKit

theorem plainTok_at (m : ByteArray) (f p n : Int) : plainTok m f p n = ⟨(plainTok m f 0 0).k, (plainTok m f 0 0).a, (plainTok m f 0 0).b, (plainTok m f 0 0).c, p, n⟩ := by
  unfold plainTok
  repeat' split
  all_goals rfl
theorem nextTok_byte (s : ByteArray) (k : Nat) (h : ¬ byteAt s k = 27) : nextTok s k = ⟨(byteTok (byteAt s k)).k, (byteTok (byteAt s k)).a, (byteTok (byteAt s k)).b, (byteTok (byteAt s k)).c, k, 1⟩ := by
  rw [nextTok, if_neg h]
  generalize byteAt s k = b
  unfold byteTok inB
  by_cases c1 : b = 15
  · subst c1; rfl
  by_cases c2 : b = 14
  · subst c2; rfl
  by_cases c3 : b = 142
  · subst c3; rfl
  by_cases c4 : b = 143
  · subst c4; rfl
  rw [if_neg (show ¬ (b = 14 ∨ b = 15) by omega), if_neg (show ¬ (b = 142 ∨ b = 143) by omega)]
  simp only [c1, c2, c3, c4, if_false]
  by_cases c5 : b = 32
  · simp [c5]
  by_cases c6 : 33 ≤ b ∧ b ≤ 126
  · simp [c5, c6.1, c6.2]
  by_cases c7 : 160 ≤ b
  · have c8 : ¬ b ≤ 126 := by omega
    simp [c5, c7, c8]
  · have c8 : ¬ (33 ≤ b ∧ b ≤ 126) := c6
    have c9 : (decide (33 ≤ b) && decide (b ≤ 126)) = false := by
      cases h : (decide (33 ≤ b) && decide (b ≤ 126))
      · rfl
      · simp at h; exact absurd h c8
    simp [c5, c7, c8]

set_option maxHeartbeats 4000000 in
set_option maxRecDepth 100000 in
theorem impl_escapeAt (s : ByteArray) (k : Nat) (w : World) (hk : k < s.size) (hs : s.size ≤ 1048576) :
    Calls Tryz.prog 154 #[.string s, .int .i64 k] w (TokDone (escTok s k (s.size - k) (k + 1)) w) := by
  have hR := Lib.hid (slot0 w)
  have b0 := below_one w (.cells #[.int .i64 0, .int .i64 0, .int .i64 0, .int .i64 0, .int .i64 0, .int .i64 0] 102)
  have k0 : (0 : Int) ≤ (k : Int) := by omega
  have u1 : IntKind.i64.wrap ((k : Int) + 1) = (k : Int) + 1 := IntWalk.i64_in _ (by omega)
  go_enter Tryz.func154, Tryz.ntmps154
  go_wp2
  go_step3
  go_wp2
  go_step3
  go_wp2
  generalize w.alloc (.cells #[.int .i64 0, .int .i64 0, .int .i64 0, .int .i64 0, .int .i64 0, .int .i64 0] 102) = w1 at *
  go_loop [5, 6] (fun q i => ∃ j f : Nat, q = .int .i64 8 ∧ k < j ∧ j ≤ s.size ∧ j ≤ k + 4 ∧ i = .int .i64 j ∧ Hid (j + f = s.size + 1) ∧ Hid (escTok s k (s.size - k) (k + 1) = escTok s k f j)) (fun _ i => s.size - (intOf i).toNat)
  case atStart => exact ⟨k + 1, s.size - k, rfl, by omega, by omega, by omega, by simp, Lib.hid (by omega), Lib.hid rfl⟩
  case round =>
    obtain ⟨j, f, rfl, hj, hjs, hj4, rfl, HF, HR⟩ := hrel
    have hl1 : w.heap.size < w1.heap.size := hR.out.lt
    have u6 : IntKind.i64.wrap ((j : Int) - k) = (j : Int) - k := IntWalk.i64_in _ (by omega)
    have u4 : IntKind.i64.wrap ((j : Int) + 1) = (j : Int) + 1 := IntWalk.i64_in _ (by omega)
    have u5 : IntKind.i64.wrap ((j : Int) + 1 - k) = (j : Int) + 1 - k := IntWalk.i64_in _ (by omega)
    by_cases hlt : j < s.size
    · obtain ⟨f, rfl⟩ : ∃ q, f = q + 1 := ⟨f - 1, by have := HF.out; omega⟩
      have hb := byteAt_le s j
      have he := byteAt_eq s j hlt
      have HU : Hid (escTok s k (f + 1) j = if inB (byteAt s j) 32 47 = true then (if j = k + 4 then ⟨9, 0, 0, 0, k, 5⟩ else escTok s k f (j + 1))
        else if inB (byteAt s j) 48 126 = true then plainTok (s.extract (k + 1) j) (byteAt s j) k ((j : Int) + 1 - k) else ⟨9, 0, 0, 0, k, (j : Int) - k⟩) := Lib.hid (by rw [escTok, if_pos hlt])
      rw [he] at hb HU
      clear he
      have v1 : (0 : Int) ≤ (j : Int) := by omega
      have v2 : (j : Int) < (s.size : Int) := by omega
      generalize hbb : (s[j].toNat : Int) = b at *
      by_cases c1 : 48 ≤ b
      · by_cases c2 : b ≤ 126
        · have HE : Hid (escTok s k (s.size - k) (k + 1) = plainTok (s.extract (k + 1) j) b k ((j : Int) + 1 - k)) := Lib.hid (by
            rw [HR.out, HU.out, if_neg (by simp [inB]; omega), if_pos (by simp [inB]; omega)])
          go_wp2_with fail
          refine (impl_escapeToken _ b w1 ?_).mono ?_
          · simp; omega
          rintro e w3 ⟨rfl, b3⟩
          have HP := Lib.hid (plainTok_at (s.extract (k + 1) j) b k ((j : Int) + 1 - k))
          generalize plainTok (s.extract (k + 1) j) b 0 0 = y at *
          have hR3 := Lib.hid (hR.out.keep b3)
          have b03 : Below w.heap.size w w3 := b0.trans (b3.mono b0.size)
          have ⟨r0, r1, r2, r3, r4, r5⟩ := hR3.out.cells
          have ⟨z0, z1, z2, z3, z4, z5⟩ := hR3.out.thaw
          simp only [zeroTok] at r0 r1 r2 r3 r4 r5
          have hl3 : w.heap.size < w3.heap.size := hR3.out.lt
          clear b3
          unfold tokV
          go_wp2
          have hT := (hR3.out.put ⟨y.k, y.a, y.b, y.c, k, (j : Int) + 1 - k⟩)
          exact tok_ret (y := ⟨y.k, y.a, y.b, y.c, k, (j : Int) + 1 - k⟩) (HE.out.trans HP.out) rfl rfl (hT.keep (below_one _ _)) Tryz.underlying102 rfl (by kernel_rfl) rfl ((below_put b03 (Nat.le_refl _) ⟨y.k, y.a, y.b, y.c, k, (j : Int) + 1 - k⟩).alloc (below_put b03 (Nat.le_refl _) ⟨y.k, y.a, y.b, y.c, k, (j : Int) + 1 - k⟩).size _)
        · have HE : Hid (escTok s k (s.size - k) (k + 1) = ⟨9, 0, 0, 0, k, (j : Int) - k⟩) := Lib.hid (by
            rw [HR.out, HU.out, if_neg (by simp [inB]; omega), if_neg (by simp [inB]; omega)])
          have c3 : 126 < b := by omega
          have c4 : 47 < b := by omega
          have ⟨r0, r1, r2, r3, r4, r5⟩ := hR.out.cells
          have ⟨z0, z1, z2, z3, z4, z5⟩ := hR.out.thaw
          simp only [zeroTok] at r0 r1 r2 r3 r4 r5
          clear c2
          go_wp2
          exact tok_ret (y := ⟨9, 0, 0, 0, k, (j : Int) - k⟩) HE.out rfl rfl (hR.out.put ⟨9, 0, 0, 0, k, (j : Int) - k⟩) Tryz.underlying102 rfl (by kernel_rfl) rfl (below_put b0 (Nat.le_refl _) ⟨9, 0, 0, 0, k, (j : Int) - k⟩)
      · have c3 : b < 48 := by omega
        have c4 : b ≤ 47 := by omega
        by_cases c2 : 32 ≤ b
        · by_cases h4 : j = k + 4
          · have HE : Hid (escTok s k (s.size - k) (k + 1) = ⟨9, 0, 0, 0, k, (j : Int) + 1 - k⟩) := Lib.hid (by
              rw [HR.out, HU.out, if_pos (by simp [inB]; omega), if_pos h4, show (j : Int) + 1 - k = 5 by omega])
            have h4' : (3 : Int) < (j : Int) - k := by omega
            have ⟨r0, r1, r2, r3, r4, r5⟩ := hR.out.cells
            have ⟨z0, z1, z2, z3, z4, z5⟩ := hR.out.thaw
            simp only [zeroTok] at r0 r1 r2 r3 r4 r5
            clear h4 c1
            go_wp2
            exact tok_ret (y := ⟨9, 0, 0, 0, k, (j : Int) + 1 - k⟩) HE.out rfl rfl (hR.out.put ⟨9, 0, 0, 0, k, (j : Int) + 1 - k⟩) Tryz.underlying102 rfl (by kernel_rfl) rfl (below_put b0 (Nat.le_refl _) ⟨9, 0, 0, 0, k, (j : Int) + 1 - k⟩)
          · have HE : Hid (escTok s k (s.size - k) (k + 1) = escTok s k f (j + 1)) := Lib.hid (by
              rw [HR.out, HU.out, if_pos (by simp [inB]; omega), if_neg h4])
            have h4' : (j : Int) - k ≤ 3 := by omega
            clear c1
            go_wp2
            go_round
            case rel => exact ⟨j + 1, f, rfl, by omega, by omega, by omega, by go_num, Lib.hid (by have := HF.out; omega), HE⟩
            case measure => simp [intOf]; omega
        · have HE : Hid (escTok s k (s.size - k) (k + 1) = ⟨9, 0, 0, 0, k, (j : Int) - k⟩) := Lib.hid (by
            rw [HR.out, HU.out, if_neg (by simp [inB]; omega), if_neg (by simp [inB]; omega)])
          have c5 : b < 32 := by omega
          have ⟨r0, r1, r2, r3, r4, r5⟩ := hR.out.cells
          have ⟨z0, z1, z2, z3, z4, z5⟩ := hR.out.thaw
          simp only [zeroTok] at r0 r1 r2 r3 r4 r5
          clear c1 c2
          go_wp2
          exact tok_ret (y := ⟨9, 0, 0, 0, k, (j : Int) - k⟩) HE.out rfl rfl (hR.out.put ⟨9, 0, 0, 0, k, (j : Int) - k⟩) Tryz.underlying102 rfl (by kernel_rfl) rfl (below_put b0 (Nat.le_refl _) ⟨9, 0, 0, 0, k, (j : Int) - k⟩)
    · have hje : j = s.size := by omega
      have HE : Hid (escTok s k (s.size - k) (k + 1) = ⟨8, 0, 0, 0, k, (j : Int) - k⟩) := Lib.hid (by
        rw [HR.out, hje]
        cases f with
        | zero => rfl
        | succ f => rw [escTok, if_neg (by omega)])
      have v2 : ¬ (j : Int) < (s.size : Int) := by omega
      have ⟨r0, r1, r2, r3, r4, r5⟩ := hR.out.cells
      have ⟨z0, z1, z2, z3, z4, z5⟩ := hR.out.thaw
      simp only [zeroTok] at r0 r1 r2 r3 r4 r5
      clear hje
      go_wp2
      exact tok_ret (y := ⟨8, 0, 0, 0, k, (j : Int) - k⟩) HE.out rfl rfl (hR.out.put ⟨8, 0, 0, 0, k, (j : Int) - k⟩) Tryz.underlying102 rfl (by kernel_rfl) rfl (below_put b0 (Nat.le_refl _) ⟨8, 0, 0, 0, k, (j : Int) - k⟩)

set_option maxHeartbeats 2000000 in
set_option maxRecDepth 100000 in
theorem impl_tokenAt (s : ByteArray) (k : Nat) (w : World) (hk : k < s.size) (hs : s.size ≤ 1048576) : Calls Tryz.prog 120 #[.string s, .int .i64 k] w (TokDone (nextTok s k) w) := by
  have hR0 := slot0 w
  have b0 := below_one w (.cells #[.int .i64 0, .int .i64 0, .int .i64 0, .int .i64 0, .int .i64 0, .int .i64 0] 102)
  have hb := byteAt_le s k
  have he := byteAt_eq s k hk
  have k0 : (0 : Int) ≤ (k : Int) := by omega
  have k1 : (k : Int) < (s.size : Int) := by omega
  by_cases c1 : byteAt s k = 27
  · have HE : Hid (nextTok s k = escTok s k (s.size - k) (k + 1)) := Lib.hid (by rw [nextTok, if_pos c1])
    have hb2 : (s[k].toNat : Int) = 27 := by omega
    clear he c1 hb
    go_enter Tryz.func120, Tryz.ntmps120
    go_wp2_with fail
    refine (impl_escapeAt s k _ hk hs).mono ?_
    rintro e w3 ⟨rfl, b3⟩
    have hR3 := Lib.hid (hR0.keep b3)
    have b03 : Below w.heap.size w w3 := b0.trans (b3.mono b0.size)
    have ⟨r0, r1, r2, r3, r4, r5⟩ := hR3.out.cells
    have ⟨z0, z1, z2, z3, z4, z5⟩ := hR3.out.thaw
    simp only [zeroTok] at r0 r1 r2 r3 r4 r5
    have hl3 : w.heap.size < w3.heap.size := hR3.out.lt
    generalize escTok s k (s.size - k) (k + 1) = y at *
    clear hR0 b0 b3
    unfold tokV
    go_wp2
    exact tok_ret (y := y) HE.out rfl rfl (hR3.out.put y) Tryz.underlying102 rfl (by kernel_rfl) rfl (below_put b03 (Nat.le_refl _) y)
  · have HE := Lib.hid (nextTok_byte s k c1)
    have e1 : ((s[k].toNat : Int) == 27) = false := by rw [beq_eq_false_iff_ne]; omega
    rw [he] at HE hb
    clear he c1
    go_enter Tryz.func120, Tryz.ntmps120
    go_wp2_with fail
    refine (impl_byteToken (s[k].toNat : Int) _ (by omega) (by omega)).mono ?_
    rintro e w3 ⟨rfl, b3⟩
    have hR3 := Lib.hid (hR0.keep b3)
    have b03 : Below w.heap.size w w3 := b0.trans (b3.mono b0.size)
    have ⟨r0, r1, r2, r3, r4, r5⟩ := hR3.out.cells
    have ⟨z0, z1, z2, z3, z4, z5⟩ := hR3.out.thaw
    simp only [zeroTok] at r0 r1 r2 r3 r4 r5
    have hl3 : w.heap.size < w3.heap.size := hR3.out.lt
    generalize byteTok (s[k].toNat : Int) = y at *
    clear hR0 b0 b3
    unfold tokV
    go_wp2
    have hT := (hR3.out.put ⟨y.k, y.a, y.b, y.c, k, 1⟩)
    exact tok_ret (y := ⟨y.k, y.a, y.b, y.c, k, 1⟩) HE.out rfl rfl (hT.keep (below_one _ _)) Tryz.underlying102 rfl (by kernel_rfl) rfl ((below_put b03 (Nat.le_refl _) ⟨y.k, y.a, y.b, y.c, k, 1⟩).alloc (below_put b03 (Nat.le_refl _) ⟨y.k, y.a, y.b, y.c, k, 1⟩).size _)

end Go.Proofs.YtbamjhldebobhaaGreatDoor

namespace Go.Proofs.YtbamjhldebobhaaGreatDoor
open Go.RowKit Go.Shelf

attribute [local go_sem] Oper.semAt_some

theorem roundIn_any {P : Program} {n m l : Nat} {f : FuncId} {tmps : Array Value} {assign body : Code} {w : World} {R : Ending → World → Prop} (h : RoundIn Fence.wide n P l f tmps assign body w R) : RoundIn Fence.wide m P l f tmps assign body w R :=
  ⟨h.1, fun c cs _ => h.2 c cs (room_wide _)⟩

set_option maxHeartbeats 1000000 in
theorem impl_tokensIn (s : ByteArray) (w : World) : Calls Tryz.prog 78 #[.string s] w fun e w' => e = .returned (.func (.func 119) #[] #[.pointer (some ⟨w.heap.size, 0, none⟩)]) ∧ w' = w.alloc (.cells #[.string s] 9) := by
  have hmf : ∀ (fn : Fn) (first cap : Array Value) (w : World), (Instr.makeFunc fn first cap).run Tryz.prog w = .ok (.func fn first cap) w := fun _ _ _ _ => rfl
  go_enter Tryz.func78, Tryz.ntmps78
  go_wp2
  go_ret
  exact ⟨rfl, rfl⟩

set_option maxHeartbeats 2000000 in
set_option maxRecDepth 100000 in
theorem impl_tokensIn1 (s : ByteArray) (hs : s.size ≤ 1048576) (w : World) (Bt : Nat) (ht : w.heap[Bt]? = some (.cells #[.string s] 9)) : SeqIdx Tryz.prog 119 #[.pointer (some ⟨Bt, 0, none⟩)] (fun k => #[tokV (nextTok s k)]) (fun k => k + (nextTok s k).n.toNat) s.size w Bt := by
  intro l J Jp W hJ hT hY h0
  refine callsIn_wide.2 ((callsIn_wide (n := 9)).1 ?_)
  refine callsIn_of_wp (F := Fence.wide) Tryz.func119 rfl trivial ?_ rfl
  simp only [Tryz.ntmps119, List.size_toArray, List.length_cons, List.length_nil, Nat.reduceAdd, Nat.reduceSub, Array.replicate_succ, Array.replicate_zero, List.push_toArray, List.append_toArray, List.nil_append, List.cons_append]
  gi_wp2
  gi_loopw [3] (fun i wr => ∃ k : Nat, k ≤ s.size ∧ i = .int .i64 k ∧ J k wr) (fun i _ => s.size - (intOf i).toNat)
  case atStart => exact ⟨0, by omega, rfl, h0⟩
  case round =>
    obtain ⟨k, hk, rfl, hJk⟩ := hrel
    have cT : wr.cell? ⟨Bt, 0, none⟩ = some (.string s) := by
      have := (hT k wr hJk).trans ht
      rw [cell_of_row _ _ _ _ _ _ this]; rfl
    by_cases hlt : k < s.size
    · have v2 : (k : Int) < (s.size : Int) := by omega
      have HA := Lib.hid (fun w => impl_tokenAt s k w hlt hs)
      have n1 := (nextTok_in s k hlt).2.1
      have n2 := (nextTok_in s k hlt).2.2
      have HY := Lib.hid (fun A B => hY k A B hlt)
      unfold TokDone at HA
      generalize nextTok s k = y at *
      unfold tokV at HA HY
      have e5 : (k : Int) + y.n = ((k + y.n.toNat : Nat) : Int) := by omega
      have u1 : IntKind.i64.wrap ((k : Int) + y.n) = (k : Int) + y.n := IntWalk.i64_in _ (by omega)
      gi_wp2_with (refine ⟨trivial, ?_⟩; gi_at_call 120; refine (callsIn_wide.2 (HA.out _)).mono ?_; rintro e w1 ⟨rfl, b1⟩)
      have hb : Below wr.heap.size wr (w1.alloc (.cells #[.int .i64 y.k, .int .i64 y.a, .int .i64 y.b, .int .i64 y.c, .int .i64 y.p, .int .i64 y.n] 102)) := b1.alloc b1.size _
      have hK : Hid (TokAt (w1.alloc (.cells #[.int .i64 y.k, .int .i64 y.a, .int .i64 y.b, .int .i64 y.c, .int .i64 y.p, .int .i64 y.n] 102)) w1.heap.size y) := Lib.hid (TokAt.new w1 y)
      have ⟨t0, t1, t2, t3, t4, t5⟩ := hK.out.cells
      obtain ⟨fn, tmps, assign, body, hy, hR⟩ := HY.out wr _ hJk hb
      have hw : wr.heap.size ≤ w1.heap.size := b1.size
      gi_wp2
      rw [hy]
      refine ⟨fun _ => by decide, RoundIn.mono (roundIn_any hR) ?_⟩
      rintro e W3 (⟨rfl, hJ3, hk3⟩ | ⟨ch, rfl, hJp⟩)
      · have hK3 : TokAt W3 w1.heap.size y := hk3.2 _ _ hw hK.out
        clear t0 t1 t2 t3 t4 t5
        have ⟨t0, t1, t2, t3, t4, t5⟩ := hK3.cells
        gi_wp2
        go_roundw
        case rel => exact ⟨k + y.n.toNat, by omega, by simp, hJ3⟩
        case measure => simp [intOf]; omega
      · dsimp only [Exit.then, Exit.inBlock]
        exact ⟨rfl, .inr ⟨ch, rfl, hJp⟩⟩
    · have v2 : ¬ (k : Int) < (s.size : Int) := by omega
      obtain rfl : k = s.size := by omega
      gi_wp2
      go_end0
      exact .inl ⟨⟨_, rfl⟩, hJk⟩

end Go.Proofs.YtbamjhldebobhaaGreatDoor

namespace Go.Proofs.YtbamjhldebobhaaGreatDoor
open Go Go.RowKit

variable {P : Program} {ops : Array Oper} {Q : Exit → Act → World → Prop} {md : Region.Mode} {S : World → Prop} {L : Nat}

/-- Whatever order is picked; S holds behind every operation but number L. -/
def wpAnyX (P : Program) (md : Region.Mode) (ops : Array Oper) (Q : Exit → Act → World → Prop) (S : World → Prop) (L : Nat) : Nat → Array Bool → Act → World → Prop
  | 0, listed, a, w => Region.ready md ops listed = [] ∧ Q .normal a w
  | fuel + 1, listed, a, w =>
    (Region.ready md ops listed = [] → Q .normal a w) ∧
    ∀ i ∈ Region.ready md ops listed, wpOp P ops Q i (fun a' w' => (i ≠ L → S w') ∧ wpAnyX P md ops Q S L fuel (listed.setIfInBounds i true) a' w') a w

theorem wpAny_of_X : ∀ (fuel : Nat) (listed : Array Bool) (a : Act) (w : World), wpAnyX P md ops Q S L fuel listed a w → wpAny P md ops Q fuel listed a w
  | 0, _, _, _, h => h
  | fuel + 1, _, _, _, h => ⟨h.1, fun i hi => wpOp_mono (fun a' w' h' => wpAny_of_X fuel _ a' w' h'.2) (h.2 i hi)⟩

/-- Operation L waits for operation i. -/
def waitsB (md : Region.Mode) (ops : Array Oper) (L i : Nat) : Bool := match ops[L]? with | some o => o.after.any (fun e => Region.binds md e && decide (e.on = i)) | none => false
theorem waits_not {i j : Nat} {listed : Array Bool} (hw : waitsB md ops L i = true) (hi : listed.getD i true = false) (hj : j ∈ Region.ready md ops listed) : j ≠ L := by
  intro e
  subst e
  obtain ⟨_, oj, hoj, hall⟩ := mem_ready.1 hj
  unfold waitsB at hw
  rw [hoj] at hw
  obtain ⟨e, he, h2⟩ := Array.any_eq_true'.1 hw
  rw [Bool.and_eq_true, decide_eq_true_eq] at h2
  have h1 := hall e he h2.1
  rw [h2.2] at h1
  rcases Nat.lt_or_ge i listed.size with h' | h'
  · simp [h'] at hi h1; rw [hi] at h1; cases h1
  · simp [Array.getElem?_eq_none h'] at h1

theorem wpAnyX_first {i : Nat} {oi : Oper} {v : Value} (hi : ops[i]? = some oi) (hsel : ∀ (j : Nat) (o : Oper) cs b, ops[j]? = some o → o.op ≠ .select cs b)
    (hQ : ∀ c a w, Q (.panic c) (a.put oi.dst v) w → Q (.panic c) a w) (hwt : waitsB md ops L i = true) :
    ∀ (fuel : Nat) (listed : Array Bool) (a : Act) (w : World),
      (∀ j oj, ops[j]? = some oj → j ≠ i → listed.getD j true = false → (∀ e ∈ oj.after, Region.binds md e = true → e.on ≠ i) → oi.apart ops oj = true) →
      i ∈ Region.ready md ops listed → YieldsIf P ops S oi v a → S w →
      wpAnyX P md ops Q S L fuel (listed.setIfInBounds i true) (a.put oi.dst v) w → wpAnyX P md ops Q S L (fuel + 1) listed a w := by
  intro fuel
  induction fuel with
  | zero =>
    intro listed a w _ hr hy hS H
    refine ⟨fun h => (by rw [h] at hr; cases hr), fun j hj => ?_⟩
    by_cases hji : j = i
    · subst hji; exact hy.wpOp hi hS ⟨fun _ => hS, H⟩
    · have := ready_mono hj hji
      rw [H.1] at this
      cases this
  | succ fuel ih =>
    intro listed a w hfree hr hy hS H
    refine ⟨fun h => (by rw [h] at hr; cases hr), fun j hj => ?_⟩
    by_cases hji : j = i
    · subst hji; exact hy.wpOp hi hS ⟨fun _ => hS, H⟩
    · have h1 := H.2 j (ready_mono hj hji)
      have hjL : j ≠ L := waits_not hwt (mem_ready.1 hr).1 hj
      obtain ⟨hjun, oj, hoj, hall⟩ := mem_ready.1 hj
      have hnot : ∀ e ∈ oj.after, Region.binds md e = true → e.on ≠ i := fun e he hb heq => by
        have h1 := hall e he hb
        have h0 := (mem_ready.1 hr).1
        rw [heq] at h1
        rcases Nat.lt_or_ge i listed.size with h' | h'
        · simp [h'] at h0 h1; rw [h0] at h1; cases h1
        · simp [Array.getElem?_eq_none h'] at h1
      have h2 := wpOp_putIf hoj (hfree j oj hoj hji hjun hnot) (fun cs b => hsel i oi cs b hi) (fun cs b => hsel j oj cs b hoj) hQ hy h1
      have hfree' : ∀ k ok, ops[k]? = some ok → k ≠ i → (listed.setIfInBounds j true).getD k true = false →
          (∀ e ∈ ok.after, Region.binds md e = true → e.on ≠ i) → oi.apart ops ok = true := fun k ok hk hki hun hno => by
        refine hfree k ok hk hki ?_ hno
        by_cases hjk : j = k
        · subst hjk; exact hjun
        · rw [getD_set_ne true hjk] at hun; exact hun
      refine wpOp_mono (fun a' w' h3 => ⟨h3.2.1, ih (listed.setIfInBounds j true) a' w' hfree' (ready_mono hr (Ne.symm hji)) h3.1 (h3.2.1 hjL) ?_⟩) h2
      rw [Array.setIfInBounds_comm _ _ hji]
      exact h3.2.2

theorem wpAnyX_take {i : Nat} {oi : Oper} {v : Value} {fuel : Nat} {listed : Array Bool} {a : Act} {w : World} (hi : ops[i]? = some oi)
    (hs : Region.noSelect ops = true) (hf : Region.free md ops listed i = true) (hr : (Region.ready md ops listed).contains i = true) (hwt : waitsB md ops L i = true)
    (hQ : ∀ c a w, Q (.panic c) (a.put oi.dst v) w → Q (.panic c) a w) (hy : YieldsIf P ops S oi v a) (hS : S w)
    (h : wpAnyX P md ops Q S L fuel (listed.setIfInBounds i true) (a.put oi.dst v) w) : wpAnyX P md ops Q S L (fuel + 1) listed a w :=
  wpAnyX_first hi (Region.noSelect_spec hs) hQ hwt fuel listed a w (Region.free_spec hi hf) (by simpa using hr) hy hS h

/-- The one operation that may come up comes up. -/
theorem wpAnyX_one {i : Nat} {o : Oper} {fuel : Nat} {listed : Array Bool} {a : Act} {w : World} (hr : Region.ready md ops listed = [i]) (ho : ops[i]? = some o)
    (h : ∀ K' : Act → World → Prop, Shut (∀ a w, (i ≠ L → S w) → ((i ≠ L → S w) → wpAnyX P md ops Q S L fuel (listed.setIfInBounds i true) a w) → K' a w) → if Region.wanted o (yielded ops a.tmps) = true then Oper.wp P o a w K' Q else K' (a.put o.dst undef) w) :
    wpAnyX P md ops Q S L (fuel + 1) listed a w :=
  ⟨fun h0 => (by rw [hr] at h0; cases h0), fun j hj => (by
    rw [hr] at hj
    obtain rfl : j = i := by simpa using hj
    exact wpOp_step ho (fun K' hK => h K' (fun a w hS hW => hK a w ⟨hS, hW hS⟩)))⟩

theorem wpAnyX_done {listed : Array Bool} {a : Act} {w : World} (hr : Region.ready md ops listed = []) (h : Q .normal a w) :
    ∀ fuel, wpAnyX P md ops Q S L fuel listed a w
  | 0 => ⟨hr, h⟩
  | _ + 1 => ⟨fun _ => h, by rw [hr]; simp⟩

theorem region_round_X {l id : Nat} {a : Act} {w : World} (hm : P.follows .mixedOrders = true) (hd : noDefer ops = true) (hQ : ¬ LetsOut Q)
    (h : wpAnyX P .any ops Q S L ops.size (Array.replicate ops.size false) a w.drew) : (Code.region id ops true).wpIn (Fence.wide.inRound l) 0 P Q a w :=
  region_round_any hm hd hQ (wpAny_of_X _ _ _ _ h)

end Go.Proofs.YtbamjhldebobhaaGreatDoor

namespace Go.Proofs.YtbamjhldebobhaaGreatDoor
open Go.RowKit Go.Shelf Go.Sort

theorem TokAt.gr {N : Nat} {A B : World} {g : Nat} {y : Tok} (h : TokAt A g y) (hg : Gr N A B) : TokAt B g y := hg.block _ _ h (.inl rfl)
theorem body_kept {A W w1 w2 : World} {b C N : Nat} {n : Int} {xs : St} {l : Value} {zs : List Int} (hA : RSt A b C n xs l zs) (hG : Gr N A W) (o1 : Only b W w1) (c2 : Chg l.ownBlock b w1 w2) : Kept A.heap.size W w2 ∧ KeptL W w2 := by
  have hW := hA.gr hG
  have hlt := fun g hg => (World.ownsRow.lt hA.own g hg).2
  have hs := o1.1.size
  refine ⟨⟨Nat.le_trans hs c2.1.size, fun g o hN hg => ?_⟩, fun g o hg hc _ => ?_⟩
  · have hgl := (Array.getElem?_eq_some_iff.1 hg).1
    have hb := hA.lt
    rw [c2.2 g (by omega) (fun e => by have := hlt g e; omega) (by omega), o1.2 g (by omega) hgl]
    exact hg
  · have hgl := (Array.getElem?_eq_some_iff.1 hg).1
    have hgb : g ≠ b := fun e => by
      obtain ⟨m, hm, _⟩ := hW
      subst e
      rw [hm] at hg
      cases hg
      cases hc
    have hgo : l.ownBlock ≠ some g := fun e => by
      obtain ⟨m, _, _, ho⟩ := hW
      rcases ho.2 with ⟨hv, _⟩ | ⟨j, cap, cur, a, _, c, _⟩
      · rw [hv] at e; cases e
      · rw [a] at e
        have ej : j = g := by simpa [Value.ownBlock] using e
        subst ej
        rw [c] at hg
        cases hg
        cases hc
    rw [c2.2 g hgb hgo (by omega), o1.2 g hgb hgl]
    exact hg
theorem body_str {A W w1 w2 : World} {b C N Bt : Nat} {n : Int} {xs : St} {l : Value} {zs : List Int} {s : ByteArray} (hA : RSt A b C n xs l zs) (hG : Gr N A W) (o1 : Only b W w1) (c2 : Chg l.ownBlock b w1 w2) (hB : A.heap[Bt]? = some (.cells #[.string s] 9)) : w2.heap[Bt]? = some (.cells #[.string s] 9) := by
  have hW := hA.gr hG
  have hBW := hG.block _ _ hB (.inl rfl)
  have hgl := (Array.getElem?_eq_some_iff.1 hBW).1
  have hs := o1.1.size
  have hgb : Bt ≠ b := fun e => by
    obtain ⟨m, hm, _⟩ := hW
    subst e
    rw [hm] at hBW
    cases hBW
  rw [c2.2 Bt hgb (hW.own.apart hBW (by decide)) (by omega), o1.2 Bt hgb hgl]
  exact hBW


end Go.Proofs.YtbamjhldebobhaaGreatDoor

namespace Go.Proofs.YtbamjhldebobhaaGreatDoor
open Go.RowKit Go.Sort

/-- What a step of the reading leaves. -/
def RsDone (n : Int) (x : St) (l : Value) (zs : List Int) (t : Tok) (b C : Nat) (w : World) (e : Ending) (w' : World) : Prop := e = .returned (.int .i64 (stepP n x t).c) ∧ ∃ l', RSt w' b C n (stepP n x t).y l' (addR zs (stepP n x t).r) ∧ Chg l.ownBlock b w w' ∧ ∀ g, l'.ownBlock = some g → l.ownBlock = some g ∨ w.heap.size ≤ g

set_option maxHeartbeats 4000000 in
set_option maxRecDepth 100000 in
theorem impl_rstep (n : Int) (x : St) (l : Value) (zs : List Int) (t : Tok) (b C : Nat) (w : World) (h : RSt w b C n x l zs) (hbC : b < C) (hC : C ≤ w.heap.size) (hT : ∀ W, Only b w W → TabM W) (hn : proB n = true) (hx : stOKB x = true) (hk : tokLP t) (hz : zs.length ≤ 1048576) :
    Calls Tryz.prog 79 #[.pointer (some ⟨b, 0, none⟩), tokV t] w (RsDone n x l zs t b C w) := by
  have B0 := Lib.hid (below_one w (.cells #[.int .i64 t.k, .int .i64 t.a, .int .i64 t.b, .int .i64 t.c, .int .i64 t.p, .int .i64 t.n] 102))
  have hbl : b < w.heap.size := h.lt
  have O0 := Lib.hid (only_below hbl B0.out)
  have K0 : Hid (TokAt (w.alloc (.cells #[.int .i64 t.k, .int .i64 t.a, .int .i64 t.b, .int .i64 t.c, .int .i64 t.p, .int .i64 t.n] 102)) w.heap.size t) := Lib.hid (heap_alloc_new _ _)
  have hs0 : (w.alloc (.cells #[.int .i64 t.k, .int .i64 t.a, .int .i64 t.b, .int .i64 t.c, .int .i64 t.p, .int .i64 t.n] 102)).heap.size = w.heap.size + 1 := by simp
  have hG := impl_gstepS n x l zs t b C (w.alloc (.cells #[.int .i64 t.k, .int .i64 t.a, .int .i64 t.b, .int .i64 t.c, .int .i64 t.p, .int .i64 t.n] 102)).drew (have hq : RSt (w.alloc (.cells #[.int .i64 t.k, .int .i64 t.a, .int .i64 t.b, .int .i64 t.c, .int .i64 t.p, .int .i64 t.n] 102)) b C n x l zs := h.keep B0.out hbC; hq) hbC (show C ≤ (w.alloc (.cells #[.int .i64 t.k, .int .i64 t.a, .int .i64 t.b, .int .i64 t.c, .int .i64 t.p, .int .i64 t.n] 102)).heap.size by omega) (fun W o => hT W (O0.out.trans ((show Only b (w.alloc (.cells #[.int .i64 t.k, .int .i64 t.a, .int .i64 t.b, .int .i64 t.c, .int .i64 t.p, .int .i64 t.n] 102)) (w.alloc (.cells #[.int .i64 t.k, .int .i64 t.a, .int .i64 t.b, .int .i64 t.c, .int .i64 t.p, .int .i64 t.n] 102)).drew from (Only.refl b _).drewN 1).trans o))) hn hx hk
  have hr := stepP_r (n := n) (x := x) hk
  have HLo := Lib.hid (fun g hg => (World.ownsRow.lt h.own g hg))
  unfold RsDone
  unfold mvV at hG
  obtain ⟨p, hp⟩ : ∃ p, stepP n x t = p := ⟨_, rfl⟩
  rw [hp] at hG hr ⊢
  obtain ⟨tr, htr⟩ : ∃ tr, toldR p = tr := ⟨_, rfl⟩
  obtain ⟨tb, htb⟩ : ∃ tb, toldB p = tb := ⟨_, rfl⟩
  rw [htr, htb] at hG
  have HG := Lib.hid hG
  clear h hT hG hx hk hn hp
  unfold tokV at HG ⊢
  go_enter Tryz.func79, Tryz.ntmps79
  go_wp2_with fail
  generalize w.alloc (.cells #[.int .i64 t.k, .int .i64 t.a, .int .i64 t.b, .int .i64 t.c, .int .i64 t.p, .int .i64 t.n] 102) = W at *
  have hSd : (fun W' : World => TokAt W' w.heap.size t) W.drew := K0.out
  have hS := hSd
  refine wp_region_held (S := (fun W' : World => TokAt W' w.heap.size t)) (by kernel_rfl) ?_
  refine wpAnyH_take (i := 0) (v := .pointer (some ⟨b, 0, none⟩)) rfl (by kernel_rfl) (by kernel_rfl) (by kernel_rfl) (fun _ _ _ h => h) (.inl ⟨by rfl, fun w' hS' => by go_simp⟩) hS ?_
  refine wpAnyH_take (i := 1) (v := .pointer (some ⟨b, 0, none⟩)) rfl (by kernel_rfl) (by kernel_rfl) (by kernel_rfl) (fun _ _ _ h => h) (.inl ⟨by rfl, fun w' hS' => by go_simp⟩) hS ?_
  refine wpAnyH_take (i := 2) (v := .pointer (some ⟨b, 0, none⟩)) rfl (by kernel_rfl) (by kernel_rfl) (by kernel_rfl) (fun _ _ _ h => h) (.inl ⟨by rfl, fun w' hS' => by go_simp⟩) hS ?_
  refine wpAnyH_take (i := 3) (v := .pointer (some ⟨b, 0, none⟩)) rfl (by kernel_rfl) (by kernel_rfl) (by kernel_rfl) (fun _ _ _ h => h) (.inl ⟨by rfl, fun w' hS' => by go_simp⟩) hS ?_
  refine wpAnyH_take (i := 4) (v := .pointer (some ⟨b, 0, none⟩)) rfl (by kernel_rfl) (by kernel_rfl) (by kernel_rfl) (fun _ _ _ h => h) (.inl ⟨by rfl, fun w' hS' => by go_simp⟩) hS ?_
  refine wpAnyH_take (i := 5) (v := .pointer (some ⟨b, 10, none⟩)) rfl (by kernel_rfl) (by kernel_rfl) (by kernel_rfl) (fun _ _ _ h => h) (.inl ⟨by rfl, fun w' hS' => by go_simp⟩) hS ?_
  refine wpAnyH_take (i := 6) (v := .agg #[.int .i64 t.k, .int .i64 t.a, .int .i64 t.b, .int .i64 t.c, .int .i64 t.p, .int .i64 t.n]) rfl (by kernel_rfl) (by kernel_rfl) (by kernel_rfl) (fun _ _ _ h => h) (.inl ⟨by rfl, fun w' hS' => by have ⟨t0, t1, t2, t3, t4, t5⟩ := TokAt.cells hS'; go_simp⟩) hS ?_
  refine wpAnyH_ready (rs := [7]) (by kernel_rfl) (by simp) (AllReadyH.cons rfl (fun K hK => ?_) AllReadyH.nil)
  clear hS hSd
  go_simp
  refine HG.out.mono ?_
  rintro e w1 ⟨rfl, hS1, o1⟩
  have o1' : Only b W w1 := (show Only b W W.drew from (Only.refl b W).drewN 1).trans o1
  have hX1 : TokAt w1 w.heap.size t := (o1'.2 _ (by omega) (by omega)).trans K0.out
  have hSS : (fun W' : World => TokAt W' w.heap.size t) w1 := hX1
  refine hK.out _ _ hSS (fun _ => ?_)
  clear hK K
  refine wpAnyH_take (i := 8) (v := .tuple #[.int .i64 tr, .bool tb, .int .i64 p.c]) rfl (by kernel_rfl) (by kernel_rfl) (by kernel_rfl) (fun _ _ _ h => h) (.inl ⟨by rfl, fun w' hS' => by go_simp⟩) hSS ?_
  refine wpAnyH_take (i := 9) (v := .int .i64 tr) rfl (by kernel_rfl) (by kernel_rfl) (by kernel_rfl) (fun _ _ _ h => h) (.inl ⟨by rfl, fun w' hS' => by go_simp⟩) hSS ?_
  refine wpAnyH_take (i := 10) (v := .bool tb) rfl (by kernel_rfl) (by kernel_rfl) (by kernel_rfl) (fun _ _ _ h => h) (.inl ⟨by rfl, fun w' hS' => by go_simp⟩) hSS ?_
  refine wpAnyH_take (i := 11) (v := .int .i64 p.c) rfl (by kernel_rfl) (by kernel_rfl) (by kernel_rfl) (fun _ _ _ h => h) (.inl ⟨by rfl, fun w' hS' => by go_simp⟩) hSS ?_
  refine wpAnyH_take (i := 12) (v := .int .i64 tr) rfl (by kernel_rfl) (by kernel_rfl) (by kernel_rfl) (fun _ _ _ h => h) (.inl ⟨by rfl, fun w' hS' => by go_simp⟩) hSS ?_
  refine wpAnyH_take (i := 13) (v := .bool tb) rfl (by kernel_rfl) (by kernel_rfl) (by kernel_rfl) (fun _ _ _ h => h) (.inl ⟨by rfl, fun w' hS' => by go_simp⟩) hSS ?_
  refine wpAnyH_take (i := 14) (v := .int .i64 p.c) rfl (by kernel_rfl) (by kernel_rfl) (by kernel_rfl) (fun _ _ _ h => h) (.inl ⟨by rfl, fun w' hS' => by go_simp⟩) hSS ?_
  refine wpAnyH_done (by kernel_rfl) ?_ _
  clear hSS hX1 HG
  have o1w : Only b w w1 := O0.out.trans o1'
  rcases hr with hr | hr
  · obtain rfl : tb = false := by rw [← htb, toldB, hr]; rfl
    have HE : Hid (addR zs p.r = zs) := Lib.hid (addR_none hr)
    have HC := Lib.hid (o1w.chg l.ownBlock)
    have HS := Lib.hid hS1
    clear htr htb hr hS1 o1 o1' o1w
    go_wp2
    go_ret
    exact ⟨rfl, l, by rw [HE.out]; exact HS.out, HC.out, fun g e => .inl e⟩
  · obtain rfl : tb = true := by rw [← htb, toldB, decide_eq_true hr]
    obtain rfl : tr = p.r := by rw [← htr, toldR, if_pos hr]
    have HE : Hid (addR zs p.r = zs ++ [p.r]) := Lib.hid (addR_some hr)
    obtain ⟨la, lc, hlf, _⟩ := hS1.own.shape
    have hb1 : b < w1.heap.size := hS1.lt
    have hC1 : C ≤ w1.heap.size := by have := o1w.1.size; omega
    have hw1 : w.heap.size ≤ w1.heap.size := o1w.1.size
    subst hlf
    have R2 := Lib.hid (hS1.keep (below_one w1 (.cells #[.int .i64 p.r] 3)) hbC)
    have hL2 : (w1.alloc (.cells #[.int .i64 p.r] 3)).heap[w1.heap.size]? = some (.cells #[.int .i64 p.r] 3) := heap_alloc_new w1 _
    have HC2 := Lib.hid ((o1w.trans (only_below hb1 (below_one w1 (.cells #[.int .i64 p.r] 3)))).chg (Value.slice la zs.length lc).ownBlock)
    have hs2 : (w1.alloc (.cells #[.int .i64 p.r] 3)).heap.size = w1.heap.size + 1 := by simp
    obtain ⟨m1, hm1, _⟩ := hS1
    have d17 : w1.cell? ⟨b, 17, none⟩ = some (.slice la zs.length lc) := hm1.cells.2.2.2.2.2.2.2.2.2
    clear htr htb hr o1 o1' o1w hm1
    go_wp2_with (at_builtin; refine app_i64x _ rfl _ _ rfl C _ zs rfl R2.out.own w1.heap.size 1 p.r rfl hL2 (by omega) (by omega) ?_)
    clear d17
    intro g2 cap2 w4 o4 g4 hg4
    obtain ⟨RA, cA⟩ := R2.out.app hbC o4 g4 (hg4.imp id (fun h => h.trans hs2.symm))
    have HRA := Lib.hid RA
    have HCA := Lib.hid (HC2.out.trans cA (fun g e => .inl e))
    have hg2 : Hid (∀ g, (Value.slice (some ⟨g2, 0, none⟩) (zs.length + 1) cap2).ownBlock = some g → (Value.slice la zs.length lc).ownBlock = some g ∨ w.heap.size ≤ g) := Lib.hid (fun g e => by
      have e' : g2 = g := by simpa [Value.ownBlock] using e
      subst e'
      exact hg4.imp id (fun h => by omega))
    obtain ⟨m2, hm2, _⟩ := R2.out
    have hm5 : RdAt w4 b n m2 p.y (.slice la zs.length lc) := (g4.block b hm2.lt (fun e => by have := (HLo.out b e.symm).1; omega)).trans hm2
    have d17 := hm5.cells.2.2.2.2.2.2.2.2.2
    have q17 := hm5.frozen 17
    have hl4 := hm5.lt
    clear o4 g4 hg4 RA cA hm2 hm5 R2
    go_wp2
    go_ret
    exact ⟨rfl, _, by rw [HE.out]; exact HRA.out, HCA.out, hg2.out⟩

end Go.Proofs.YtbamjhldebobhaaGreatDoor

namespace Go.Proofs.YtbamjhldebobhaaGreatDoor
open Go.RowKit Go.Shelf Go.Sort

/-- What holds between two rounds of the reading. -/
def RIS (n : Int) (s : ByteArray) (z0 : List Int) (b C Bt : Nat) (WB : World) (k : Nat) (W : World) : Prop := ∃ (f : Nat) (xs : St) (zs : List Int) (l : Value), (s.size ≤ k + f ∧ zs.length ≤ 2 * k + 1 ∧ k ≤ s.size) ∧ decT n s s.size 0 (startP n) z0 = decT n s f k xs zs ∧ stOKB xs = true ∧ RSt W b C n xs l zs ∧ Only b WB W ∧ W.heap[Bt]? = some (.cells #[.string s] 9)
theorem RIS.gr {n : Int} {s : ByteArray} {z0 : List Int} {b C Bt N : Nat} {WB : World} {k : Nat} {A B : World} (h : RIS n s z0 b C Bt WB k A) (hg : Gr N A B) (hN : WB.heap.size ≤ N) (hb : b < WB.heap.size) : RIS n s z0 b C Bt WB k B := by
  obtain ⟨f, xs, zs, l, h1, h2, h3, h4, h5, h6⟩ := h
  exact ⟨f, xs, zs, l, h1, h2, h3, h4.gr hg, h5.gr hg hN hb, hg.block _ _ h6 (.inl rfl)⟩

set_option maxHeartbeats 8000000 in
set_option maxRecDepth 100000 in
theorem impl_readS (n : Int) (s : ByteArray) (b : Nat) (w : World) (h : RdAt w b n (.map none) (startP n) (.slice none 0 0)) (hT : ∀ W, Only b w W → TabM W) (hn : proB n = true) (hs : s.size ≤ 4096) :
    Calls Tryz.prog 39 #[.pointer (some ⟨b, 0, none⟩), .string s, .func (.func 73) #[] #[]] w fun e w' => (e = .returned (.tuple #[]) ∧ ∃ x l z, decP n s = ⟨z, s.size, endC n x⟩ ∧ stOKB x = true ∧ RSt w' b (w.heap.size + 2) n x l z ∧ Only b w w') ∨ (∃ p c, e = .panicked (faultP p c) ∧ ∃ x l z, decP n s = ⟨z, p, c⟩ ∧ RSt w' b (w.heap.size + 2) n x l z ∧ Only b w w') := by
  have HTk := Lib.hid (fun w => impl_tokensIn s w)
  refine calls_of_wpF Tryz.func39 rfl ?_
  simp only [Tryz.ntmps39, List.size_toArray, List.length_cons, List.length_nil, Nat.reduceAdd, Nat.reduceSub, Array.replicate_succ, Array.replicate_zero, List.push_toArray, List.append_toArray, List.nil_append, List.cons_append]
  have RB : Hid (RSt ((w.alloc (.cells #[.pointer (some ⟨b, 0, none⟩)] 109)).alloc (.cells #[.func (.func 73) #[] #[]] 74)) b (w.heap.size + 2) n (startP n) (.slice none 0 0) []) := Lib.hid ⟨_, h.keep (below_two w _ _), .inl rfl, Own.nil _ _ _ _⟩
  have OB : Hid (Only b w ((w.alloc (.cells #[.pointer (some ⟨b, 0, none⟩)] 109)).alloc (.cells #[.func (.func 73) #[] #[]] 74))) := Lib.hid (only_below h.lt (below_two w _ _))
  have X3 : Hid (((w.alloc (.cells #[.pointer (some ⟨b, 0, none⟩)] 109)).alloc (.cells #[.func (.func 73) #[] #[]] 74)).heap[w.heap.size]? = some (.cells #[.pointer (some ⟨b, 0, none⟩)] 109)) := Lib.hid (heap_alloc2_old _ _ _)
  have X5 : Hid (((w.alloc (.cells #[.pointer (some ⟨b, 0, none⟩)] 109)).alloc (.cells #[.func (.func 73) #[] #[]] 74)).heap[w.heap.size + 1]? = some (.cells #[.func (.func 73) #[] #[]] 74)) := Lib.hid (heap_alloc2_new _ _ _)
  have HsB : Hid (((w.alloc (.cells #[.pointer (some ⟨b, 0, none⟩)] 109)).alloc (.cells #[.func (.func 73) #[] #[]] 74)).heap.size = w.heap.size + 2) := Lib.hid (by simp)
  have hbl : b < w.heap.size := h.lt
  have ⟨_, _, e2, _, _, _, _, _, _, _⟩ := (h.keep (below_two w (.cells #[.pointer (some ⟨b, 0, none⟩)] 109) (.cells #[.func (.func 73) #[] #[]] 74))).cells
  have e3 : ((w.alloc (.cells #[.pointer (some ⟨b, 0, none⟩)] 109)).alloc (.cells #[.func (.func 73) #[] #[]] 74)).cell? ⟨w.heap.size, 0, none⟩ = some (.pointer (some ⟨b, 0, none⟩)) := by rw [cell_of_row _ _ _ _ _ _ X3.out]; rfl
  have e5 : ((w.alloc (.cells #[.pointer (some ⟨b, 0, none⟩)] 109)).alloc (.cells #[.func (.func 73) #[] #[]] 74)).cell? ⟨w.heap.size + 1, 0, none⟩ = some (.func (.func 73) #[] #[]) := by rw [cell_of_row _ _ _ _ _ _ X5.out]; rfl
  clear h
  refine wpF_seq (wpF_of_wp ?_)
  go_wp2
  generalize ((w.alloc (.cells #[.pointer (some ⟨b, 0, none⟩)] 109)).alloc (.cells #[.func (.func 73) #[] #[]] 74)) = WB at *
  have HH : Hid (headB n s = hasPre s (prHead n)) := Lib.hid rfl
  have HPt := Lib.hid (fun w => str_HasPrefix s (prHead n) w)
  refine wpF_seq (wpF_of_wp ?_)
  cases hh : hasPre s (prHead n)
  · rw [hh] at HPt
    have HDp : Hid (decP n s = ⟨[], 0, 15⟩) := Lib.hid (by rw [decP, HH.out, hh]; rfl)
    have hsB := HsB.out
    have HRp := Lib.hid (impl_stop zeroTok 15 WB)
    unfold tokV zeroTok at HRp
    clear hsB
    go_wp2_with fail
    refine (HPt.out _).mono ?_
    rintro e w0 ⟨rfl, rfl⟩
    go_wp2_with fail
    refine HRp.out.mono ?_
    rintro e W0 ⟨rfl, b0⟩
    have hsB := HsB.out
    have o0 := only_below RB.out.lt b0
    exact .inr ⟨0, 15, rfl, startP n, .slice none 0 0, [], HDp.out, RB.out.keep b0 (by omega), OB.out.trans o0⟩
  · rw [hh] at HPt
    have HDp : Hid (decP n s = decT n s s.size 0 (startP n) []) := Lib.hid (by rw [decP, HH.out, hh]; rfl)
    have R0 := RB
    have O0 : Hid (Only b WB WB) := Lib.hid (Only.refl _ _)
    go_wp2_with fail
    refine (HPt.out _).mono ?_
    rintro e w0 ⟨rfl, rfl⟩
    clear e2 e3 e5
    go_wp2
    refine wpF_seq (wpF_of_wp ?_)
    go_wp2_with fail
    refine (HTk.out _).mono ?_
    rintro e w9 ⟨rfl, rfl⟩
    go_wp2
    refine wpF_block ?_
    have hBt : (WB.alloc (.cells #[.string s] 9)).heap[WB.heap.size]? = some (.cells #[.string s] 9) := heap_alloc_new _ _
    have hsB1 := Nat.le_of_eq HsB.out
    have hsB2 := Nat.le_of_eq HsB.out.symm
    have hs0 := O0.out.1.size
    have hs3 : (WB.alloc (.cells #[.string s] 9)).heap.size = WB.heap.size + 1 := by simp
    have I0 : RIS n s [] b (w.heap.size + 2) WB.heap.size WB 0 (WB.alloc (.cells #[.string s] 9)) :=
      ⟨s.size, startP n, [], _, ⟨by omega, by simp, by omega⟩, rfl, startP_ok n, R0.out.keep (below_one _ _) (by omega), O0.out.trans (only_below R0.out.lt (below_one _ _)), hBt⟩
    refine wpF_rangeFunc Tryz.func39 (gf := 119) (lb := #[.pointer (some ⟨WB.heap.size, 0, none⟩)]) rfl (enters_of Tryz.func119 (by kernel_rfl) rfl) (fun _ => rfl) (impl_tokensIn1 s (by omega) _ WB.heap.size hBt)
      (RIS n s [] b (w.heap.size + 2) WB.heap.size WB) (fun ch W => ∃ p c, ch = faultP p c ∧ ∃ x l z, decP n s = ⟨z, p, c⟩ ∧ RSt W b (w.heap.size + 2) n x l z ∧ Only b WB W)
      (fun k a W => ∃ XB, a = { tmps := #[.pointer (some ⟨b, 0, none⟩), .string s, .func (.func 73) #[] #[], .pointer (some ⟨w.heap.size, 0, none⟩), undef, .pointer (some ⟨w.heap.size + 1, 0, none⟩), .pointer (some ⟨XB, 0, none⟩), undef, .string s, .pointer (some ⟨b, 0, none⟩), .pointer (some ⟨b, 0, none⟩), .pointer (some ⟨b, 0, none⟩), .pointer (some ⟨b, 1, none⟩), .pointer (some ⟨b, 2, none⟩), .string (prHead n), .bool true, .bool false, undef, undef, undef, .string s, .func (.func 119) #[] #[.pointer (some ⟨WB.heap.size, 0, none⟩)], tokV (nextTok s k), undef, undef, undef, undef, undef, undef, undef, undef, undef], defers := [] } ∧ TokAt W XB (nextTok s k))
      (fun k A B h hg => h.gr hg (by omega) (by omega)) (fun k a A B h hg => by obtain ⟨XB, e, hX⟩ := h; exact ⟨XB, e, hX.gr hg⟩)
      (fun k A h => by obtain ⟨_, _, _, _, _, _, _, _, _, h6⟩ := h; rw [h6, hBt]) I0 ?assign ?body ?done ?panic
    case assign =>
      intro lp k W K hk hK
      clear I0
      generalize nextTok s k = y at *
      unfold tokV at *
      refine region_round (by kernel_rfl) (fun ⟨_, _, h⟩ => h) ?_
      go_wp2
      exact hK _ _ (below_one _ _) ⟨W.heap.size, rfl, TokAt.new W y⟩
    case body =>
      rintro lp k a1 A W hk ⟨f, xs, zs, l, ⟨hf, hz, hk'⟩, hR, hx, hSA, hOA, hBA⟩ hG ⟨XB, rfl, hX⟩
      clear I0 hBt
      have hSW := hSA.gr hG
      have hOW := hOA.gr hG (by omega) (by omega)
      have c3 : W.cell? ⟨w.heap.size, 0, none⟩ = some (.pointer (some ⟨b, 0, none⟩)) := by rw [cell_of_row _ _ _ _ _ _ ((hOW.2 w.heap.size (by omega) (by omega)).trans X3.out)]; rfl
      have hyk := nextTok_ok s k hk (by omega)
      have hTW : ∀ W', Only b W W' → TabM W' := fun W' o => hT W' (OB.out.trans (hOW.trans o))
      obtain ⟨y, hy⟩ : ∃ y, nextTok s k = y := ⟨_, rfl⟩
      rw [hy] at hX hyk
      simp only [hy]
      have n0 := (nextTok_in s k hk).1
      have n1 := (nextTok_in s k hk).2.1
      have n2 := (nextTok_in s k hk).2.2
      rw [hy] at n0 n1 n2
      have hCW : w.heap.size + 2 ≤ W.heap.size := by have := hOW.1.size; omega
      have HSt := Lib.hid (impl_rstep n xs l zs y b (w.heap.size + 2) W hSW (by omega) hCW hTW hn hx hyk (by omega))
      have HX2 := stepP_ok (n := n) hx hyk
      have hcode := fun h => stepP_code (n := n) (x := xs) (t := y) h
      unfold RsDone at HSt
      obtain ⟨p, hp⟩ : ∃ p, stepP n xs y = p := ⟨_, rfl⟩
      rw [hp] at HSt HX2 hcode
      have hdec : ∀ f', f = f' + 1 → decT n s f k xs zs = if p.c = 0 then decT n s f' (k + y.n.toNat) p.y (addR zs p.r) else ⟨zs, k, p.c⟩ := fun f' e => by rw [e, decT, if_pos hk, hy, hp]
      obtain ⟨f', hf'⟩ : ∃ f', f = f' + 1 := ⟨f - 1, by omega⟩
      have HD := Lib.hid (hdec f' hf')
      have HN0 := Lib.hid n0
      have hKB := fun {w2 : World} (c2 : Chg l.ownBlock b W w2) => body_kept hSA hG (Only.refl b W) c2
      have hSB := fun {w2 : World} (c2 : Chg l.ownBlock b W w2) => body_str hSA hG (Only.refl b W) c2 hBA
      have hlC : ∀ g, l.ownBlock = some g → WB.heap.size ≤ g := fun g e => by have := (World.ownsRow.lt hSA.own g e).1; omega
      have hOB := fun {w2 : World} (c2 : Chg l.ownBlock b W w2) => hOW.chg_trans c2 hlC
      have hlW := Lib.hid (fun g hg => (World.ownsRow.lt hSW.own g hg))
      have hwW : w.heap.size + 1 < W.heap.size := by omega
      have hz2 : (addR zs p.r).length ≤ 2 * (k + y.n.toNat) + 1 := by have : (addR zs p.r).length ≤ zs.length + 1 := (by unfold addR; split <;> simp); omega
      have hXl := hX.lt
      clear n0 hdec
      have ⟨t0, t1, t2, t3, t4, t5⟩ := hX.cells
      unfold tokV at HSt ⊢
      refine wpIn_block ?_
      refine wpIn_seq ?_
      refine region_round (by kernel_rfl) (fun ⟨_, _, h⟩ => h) ?_
      go_wp2_with fail
      refine HSt.out.mono ?_
      clear t0 t1 t2 t3 t4 t5
      rintro e w1 ⟨rfl, l1, hS1, c1, hl1⟩
      go_wp2
      refine wpIn_seq ?_
      refine region_round (by kernel_rfl) (fun ⟨_, _, h⟩ => h) ?_
      by_cases hc : p.c = 0
      · have ec : (p.c != 0) = false := by simpa using hc
        have HE : decT n s s.size 0 (startP n) [] = decT n s f' (k + y.n.toNat) p.y (addR zs p.r) := by rw [hR, HD.out, if_pos hc]
        clear hc
        go_wp2
        refine wpIn_cond_false rfl ?_
        refine wpIn_skip ?_
        exact ⟨⟨f', p.y, _, l1, ⟨by omega, hz2, by omega⟩, HE, HX2, hS1, hOB c1, hSB c1⟩, (hKB c1).1, (hKB c1).2⟩
      · have ec : (p.c != 0) = true := by simpa using hc
        have HE : decT n s s.size 0 (startP n) [] = ⟨zs, k, p.c⟩ := by rw [hR, HD.out, if_neg hc]
        obtain ⟨hpy, hpr⟩ := hcode hc
        rw [hpy, addR_none hpr] at hS1
        have e51 : w1.cell? ⟨w.heap.size + 1, 0, none⟩ = some (.func (.func 73) #[] #[]) := by rw [cell_of_row _ _ _ _ _ _ ((c1.2 (w.heap.size + 1) (by omega) (fun e => by have := (hlW.out _ e).1; omega) (by omega)).trans ((hOW.2 (w.heap.size + 1) (by omega) (by omega)).trans X5.out))]; rfl
        have hX1 : TokAt w1 XB y := (c1.2 XB (fun e => by
          obtain ⟨m, hm, _⟩ := hSW
          rw [e] at hX
          have := hX.symm.trans hm
          cases this) (hSW.own.apart hX (by decide)) hXl).trans hX
        have hC1 : w.heap.size + 2 ≤ w1.heap.size := by have := c1.1.size; omega
        have HRp := Lib.hid (impl_stop y p.c w1)
        unfold tokV at HRp
        have ⟨t0, t1, t2, t3, t4, t5⟩ := hX1.cells
        clear hc
        go_wp2
        refine wpIn_cond_true rfl ?_
        refine region_round (by kernel_rfl) (fun ⟨_, _, h⟩ => h) ?_
        go_wp2_with fail
        refine HRp.out.mono ?_
        clear t0 t1 t2 t3 t4 t5 e51
        rintro e w2 ⟨rfl, b2⟩
        have c2 : Chg l.ownBlock b W w2 := c1.trans ((only_below hS1.lt b2).chg l1.ownBlock) hl1
        exact ⟨rfl, ⟨y.p, p.c, rfl, xs, l1, zs, by rw [HDp.out, HE, HN0.out], hS1.keep b2 (by omega), hOB c2⟩, (hKB c2).2⟩
    case done =>
      intro D W hD hI hd
      obtain ⟨f, xs, zs, l, ⟨hf, hz, hk'⟩, hR, hx, hS, hO, hB⟩ := hI
      have hE : decP n s = ⟨zs, s.size, endC n xs⟩ := by
        rw [HDp.out, hR]
        cases f with
        | zero => rfl
        | succ f => rw [decT, if_neg (by omega)]
      have hg := Gr.put hD hd (.deferred none)
      have hO2 := OB.out.trans (hO.gr hg (by omega) (by omega))
      have hS2 := hS.gr hg
      refine ⟨by simp, .inl ⟨_, _, rfl, run_takeDeferred hd, ?_⟩⟩
      exact ⟨_, results_none rfl _ _ _, .inl ⟨rfl, xs, l, zs, hE, hx, hS2, hO2⟩⟩
    case panic =>
      rintro D ch W hD ⟨p, c, rfl, x, l, z, hE, hS, hO⟩ hd
      have hg := Gr.put hD hd (.deferred none)
      have hO2 := OB.out.trans (hO.gr hg (by omega) (by omega))
      have hS2 := hS.gr hg
      refine ⟨by simp, .inl ⟨_, _, rfl, run_takeDeferred hd, ?_⟩⟩
      exact .inr ⟨p, c, rfl, x, l, z, hE, hS2, hO2⟩

end Go.Proofs.YtbamjhldebobhaaGreatDoor

namespace Go.Proofs.YtbamjhldebobhaaGreatDoor
open Go Go.RowKit

variable {P : Program} {ops : Array Oper} {Q : Exit → Act → List Frame → World → Prop} {cs : List Frame}

theorem opsS_of_list (hQ : ¬ LetsOut (fun e a w => Q e a cs w)) : ∀ (l : List Oper) (j : Nat) (a : Act) (w : World), (∀ i, ops[j + i]? = l[i]?) → wpList P ops (fun e a' w' => Q e a' cs w') l a w → wpOpsS P ops Q (List.range' j l.length) a cs w
  | [], _, _, _, _, h => h
  | o :: l, j, a, w, ho, h => by
    have h0 : ops[j]? = some o := by have := ho 0; simpa using this
    have h1 : ∀ i, ops[j + 1 + i]? = l[i]? := fun i => by have := ho (i + 1); rw [show j + (i + 1) = j + 1 + i by omega] at this; simpa using this
    have ih := fun a w h => opsS_of_list hQ l (j + 1) a w h1 h
    rw [List.length_cons, List.range'_succ]
    unfold wpOpsS
    simp only [h0]
    unfold wpList at h
    split
    · rename_i hw
      rw [if_pos hw] at h
      rcases h with h | ⟨_, h⟩
      · have h' := Oper.wp_mono (fun a w h => ih a w h) h
        unfold Oper.wp at h'
        split
        · rename_i w' hr
          rw [hr] at h'
          exact h'.elim
        · exact h'
      · exact absurd h hQ
    · rename_i hw
      rw [if_neg hw] at h
      exact ih _ _ h

theorem wpS_region_recover {id : Nat} {o : Oper} {rest : List Oper} {a : Act} {w : World} {v : Value} {cs' : List Frame} (hQ : ¬ LetsOut (fun e a w => Q e a cs' w)) (hw : Region.wanted o (yielded (o :: rest).toArray a.tmps) = true) (hr : (execOp a.eval o).run P w = .ok .recover w)
    (hrec : recoverD cs = some (v, cs') ∨ (recoverD cs = none ∧ v = .nilIface ∧ cs' = cs)) (h : wpList P (o :: rest).toArray (fun e a' w' => Q e a' cs' w') rest (a.put o.dst v) w) : (Code.region id (o :: rest).toArray false).wpS P Q a cs w := by
  apply wpS_region
  have hlen : (o :: rest).toArray.size = rest.length + 1 := by simp
  rw [hlen, List.range_eq_range', List.range'_succ]
  unfold wpOpsS
  have h0 : (o :: rest).toArray[0]? = some o := by simp
  simp only [h0]
  rw [if_pos hw, hr]
  have key := opsS_of_list hQ rest 1 (a.put o.dst v) w (fun i => by simp [Nat.add_comm]) h
  rcases hrec with hrec | ⟨hrec, rfl, rfl⟩
  · simp only [hrec]; exact key
  · simp only [hrec]; exact key

end Go.Proofs.YtbamjhldebobhaaGreatDoor

namespace Go.Proofs.YtbamjhldebobhaaGreatDoor
open Go.RowKit Go.Sort

/-- What the deferred function leaves: the two results, all else as it was. -/
def Caught (ga gc : Nat) (p c : Int) (w w' : World) : Prop := w'.heap[ga]? = some (.cells #[.int .i64 p] 3) ∧ w'.heap[gc]? = some (.cells #[.int .i64 c] 3) ∧ (∀ g, g ≠ ga → g ≠ gc → g < w.heap.size → w'.heap[g]? = w.heap[g]?) ∧ w.heap.size ≤ w'.heap.size ∧ w'.os = w.os ∧ w'.tape = w.tape ∧ w'.output = w.output

set_option maxHeartbeats 2000000 in
set_option maxRecDepth 100000 in
theorem strict_catch (ga gc : Nat) (va vc p c : Int) (w : World) (ha : w.heap[ga]? = some (.cells #[.int .i64 va] 3)) (hc : w.heap[gc]? = some (.cells #[.int .i64 vc] 3)) (hne : ga ≠ gc) :
    CallsD Tryz.prog 72 #[.pointer (some ⟨ga, 0, none⟩), .pointer (some ⟨gc, 0, none⟩)] (.panicking (faultP p c)) w fun e u' w' =>
      e = .returned (.tuple #[]) ∧ u' = .panicking [{ v := .iface 111 (.agg #[.int .i64 p, .int .i64 c]), recovered := true }] ∧ Caught ga gc p c w w' := by
  have hta : ∀ w : World, (Instr.typeAssert (.iface 111 (.agg #[.int .i64 p, .int .i64 c])) 20 111 true).run Tryz.prog w = .ok (.tuple #[.agg #[.int .i64 p, .int .i64 c], .bool true]) w := fun _ => by kernel_rfl
  unfold faultP
  refine callsD_of_wpS Tryz.func72 rfl fun c₀ cs hu => ?_
  simp only [Tryz.ntmps72, List.size_toArray, List.length_cons, List.length_nil, Nat.reduceAdd, Nat.reduceSub, Array.replicate_succ, Array.replicate_zero, List.push_toArray, List.append_toArray, List.nil_append, List.cons_append]
  refine wpS_seq ?_
  refine wpS_region_recover (v := .iface 111 (.agg #[.int .i64 p, .int .i64 c])) (cs' := { c₀ with mode := .panicking [{ v := .iface 111 (.agg #[.int .i64 p, .int .i64 c]), recovered := true }] } :: cs) (by rintro ⟨a, w', h⟩; simp [Exit.thenS, bodyPostS] at h) (by rfl) (by rfl) (.inl (by simp [recoverD, hu])) ?_
  have hga : ga < w.heap.size := (Array.getElem?_eq_some_iff.1 ha).1
  have hgc : gc < w.heap.size := (Array.getElem?_eq_some_iff.1 hc).1
  have HA : Hid ((w.alloc (.cells #[.int .i64 p, .int .i64 c] 111)).heap[ga]? = some (.cells #[.int .i64 va] 3)) := Lib.hid (((below_one w (.cells #[.int .i64 p, .int .i64 c] 111)).block ga hga).trans ha)
  have HC : Hid ((w.alloc (.cells #[.int .i64 p, .int .i64 c] 111)).heap[gc]? = some (.cells #[.int .i64 vc] 3)) := Lib.hid (((below_one w (.cells #[.int .i64 p, .int .i64 c] 111)).block gc hgc).trans hc)
  have HF : Hid ((w.alloc (.cells #[.int .i64 p, .int .i64 c] 111)).heap[w.heap.size]? = some (.cells #[.int .i64 p, .int .i64 c] 111)) := Lib.hid (heap_alloc_new _ _)
  have B0 := Lib.hid (below_one w (.cells #[.int .i64 p, .int .i64 c] 111))
  have ca : (w.alloc (.cells #[.int .i64 p, .int .i64 c] 111)).cell? ⟨ga, 0, none⟩ = some (.int .i64 va) := by rw [cell_of_row _ _ _ _ _ _ HA.out]; rfl
  have cc : (w.alloc (.cells #[.int .i64 p, .int .i64 c] 111)).cell? ⟨gc, 0, none⟩ = some (.int .i64 vc) := by rw [cell_of_row _ _ _ _ _ _ HC.out]; rfl
  have cf0 : (w.alloc (.cells #[.int .i64 p, .int .i64 c] 111)).cell? ⟨w.heap.size, 0, none⟩ = some (.int .i64 p) := by rw [cell_of_row _ _ _ _ _ _ HF.out]; rfl
  have cf1 : (w.alloc (.cells #[.int .i64 p, .int .i64 c] 111)).cell? ⟨w.heap.size, 1, none⟩ = some (.int .i64 c) := by rw [cell_of_row _ _ _ _ _ _ HF.out]; rfl
  have fa := frozen_of_row _ ga 0 _ _ HA.out
  have fc := frozen_of_row _ gc 0 _ _ HC.out
  clear ha hc
  go_wp2
  dsimp only [Exit.thenS]
  refine wpS_of_wp ?_
  generalize w.alloc (.cells #[.int .i64 p, .int .i64 c] 111) = W at *
  have hla : ga < W.heap.size := (Array.getElem?_eq_some_iff.1 HA.out).1
  have hlc : gc < W.heap.size := (Array.getElem?_eq_some_iff.1 HC.out).1
  have na : ga ≠ w.heap.size := by omega
  have nc : gc ≠ w.heap.size := by omega
  have K : Hid (Caught ga gc p c w ((W.setCell ⟨ga, 0, none⟩ (.int .i64 p)).setCell ⟨gc, 0, none⟩ (.int .i64 c)).drew) := Lib.hid (by
    have e1 : (W.setCell ⟨ga, 0, none⟩ (.int .i64 p)).heap[ga]? = some (.cells #[.int .i64 p] 3) := heap_setCell_same W ga 0 _ _ (.int .i64 p) HA.out
    have e2 : (W.setCell ⟨ga, 0, none⟩ (.int .i64 p)).heap[gc]? = some (.cells #[.int .i64 vc] 3) := (Below.heap_setCell _ _ _ _ (by simpa using hne.symm)).trans HC.out
    have e3 : ((W.setCell ⟨ga, 0, none⟩ (.int .i64 p)).setCell ⟨gc, 0, none⟩ (.int .i64 c)).heap[gc]? = some (.cells #[.int .i64 c] 3) := heap_setCell_same _ gc 0 _ _ (.int .i64 c) e2
    have e4 : ((W.setCell ⟨ga, 0, none⟩ (.int .i64 p)).setCell ⟨gc, 0, none⟩ (.int .i64 c)).heap[ga]? = some (.cells #[.int .i64 p] 3) := (Below.heap_setCell _ _ _ _ (by simpa using hne)).trans e1
    refine ⟨e4, e3, fun g h1 h2 hl => ?_, ?_, B0.out.os, B0.out.tape, B0.out.output⟩
    · have : ((W.setCell ⟨ga, 0, none⟩ (.int .i64 p)).setCell ⟨gc, 0, none⟩ (.int .i64 c)).heap[g]? = W.heap[g]? := (Below.heap_setCell _ _ _ _ (by simpa using h2)).trans (Below.heap_setCell _ _ _ _ (by simpa using h1))
      exact this.trans (B0.out.block g hl)
    · have : ((W.setCell ⟨ga, 0, none⟩ (.int .i64 p)).setCell ⟨gc, 0, none⟩ (.int .i64 c)).heap.size = W.heap.size := by simp
      have h2 := B0.out.size
      show w.heap.size ≤ ((W.setCell ⟨ga, 0, none⟩ (.int .i64 p)).setCell ⟨gc, 0, none⟩ (.int .i64 c)).heap.size
      omega)
  go_wp2
  go_region
  all_goals exact ⟨rfl, _, rfl, _, results_none rfl _ _ _, rfl, rfl, K.out⟩

set_option maxHeartbeats 2000000 in
set_option maxRecDepth 100000 in
theorem strict_idle (ga gc : Nat) (w : World) :
    CallsD Tryz.prog 72 #[.pointer (some ⟨ga, 0, none⟩), .pointer (some ⟨gc, 0, none⟩)] .returning w fun e u' w' => e = .returned (.tuple #[]) ∧ u' = .returning ∧ Below w.heap.size w w' := by
  have hta : ∀ w : World, (Instr.typeAssert .nilIface 20 111 true).run Tryz.prog w = .ok (.tuple #[.agg #[.int .i64 0, .int .i64 0], .bool false]) w := fun _ => by kernel_rfl
  have B0 := Lib.hid (below_one w (.cells #[.int .i64 0, .int .i64 0] 111))
  refine callsD_of_wpS Tryz.func72 rfl fun c₀ cs hu => ?_
  simp only [Tryz.ntmps72, List.size_toArray, List.length_cons, List.length_nil, Nat.reduceAdd, Nat.reduceSub, Array.replicate_succ, Array.replicate_zero, List.push_toArray, List.append_toArray, List.nil_append, List.cons_append]
  refine wpS_seq ?_
  refine wpS_region_recover (v := .nilIface) (cs' := c₀ :: cs) (by rintro ⟨a, w', h⟩; simp [Exit.thenS, bodyPostS] at h) (by rfl) (by rfl) (.inr ⟨by simp [recoverD, hu], rfl, rfl⟩) ?_
  go_wp2
  dsimp only [Exit.thenS]
  refine wpS_of_wp ?_
  go_wp2
  refine ⟨rfl, .returning, ?_, _, results_none rfl _ _ _, rfl, rfl, B0.out⟩
  cases c₀
  simp_all

end Go.Proofs.YtbamjhldebobhaaGreatDoor

namespace Go.Proofs.YtbamjhldebobhaaGreatDoor
open Go.RowKit Go.Sort

/-- What a strict reading leaves. -/
def SyDone (n : Int) (s : ByteArray) (b : Nat) (w : World) (e : Ending) (w' : World) : Prop := e = .returned (.tuple #[.int .i64 (decP n s).p, .int .i64 (decP n s).c]) ∧ ∃ x l, RSt w' b w.heap.size n x l (decP n s).z ∧ Only b w w'
theorem RSt.lowB {w : World} {b C C' : Nat} {n : Int} {x : St} {l : Value} {zs : List Int} (h : RSt w b C n x l zs) (hC : C' ≤ C) : RSt w b C' n x l zs := by
  obtain ⟨m, h1, h2, h3⟩ := h
  refine ⟨m, h1, h2.imp id ?_, h3.low hC⟩
  rintro ⟨mb, h4, h5⟩
  exact ⟨mb, h4, fun w' hw => (h5 w' fun g o hg hr hl ho => hw g o (by omega) hr hl ho).low hC⟩

theorem RSt.moved {w w' : World} {b C : Nat} {n : Int} {x : St} {l : Value} {zs : List Int} (h : RSt w b C n x l zs) (hk : ∀ g o, (g = b ∨ C ≤ g) → w.heap[g]? = some o → w'.heap[g]? = some o) : RSt w' b C n x l zs := by
  obtain ⟨m, h1, h2, h3⟩ := h
  refine ⟨m, hk b _ (.inl rfl) h1, h2.imp id ?_, ?_⟩
  · rintro ⟨mb, h4, h5⟩
    exact ⟨mb, h4, fun w'' hw => h5 w'' fun g o hg hr hl ho => hw g o hg hr (hk g o (.inr hg) hl) ho⟩
  · refine ⟨h3.1, ?_⟩
    rcases h3.2 with h | ⟨g, cap, cur, a, b', c, d⟩
    · exact .inl h
    · exact .inr ⟨g, cap, cur, a, b', hk g _ (.inr b') c, d⟩
theorem strict_done {n : Int} {s : ByteArray} {b : Nat} {w W0 w2 w5 : World} {x : St} {l : Value} {z : List Int} {p c : Int} (hz : decP n s = ⟨z, p, c⟩) (hb : b < w.heap.size) (B0 : Below w.heap.size w W0) (hs : W0.heap.size = w.heap.size + 2) (hS : RSt w2 b (W0.heap.size + 2) n x l z) (hO : Only b W0 w2)
    (hk : ∀ g, g ≠ w.heap.size → g ≠ w.heap.size + 1 → g < w2.heap.size → w5.heap[g]? = w2.heap[g]?) (h1 : w2.heap.size ≤ w5.heap.size) (h2 : w5.os = w2.os) (h3 : w5.tape = w2.tape) (h4 : w5.output = w2.output) : SyDone n s b w (.returned (.tuple #[.int .i64 p, .int .i64 c])) w5 := by
  have o2 := (only_below hb B0).trans hO
  have hz1 := hO.1.size
  refine ⟨by rw [hz], x, l, ?_, ⟨h2.trans o2.1.os, h3.trans o2.1.tape, h4.trans o2.1.output, Nat.le_trans o2.1.size h1, fun k hk' => ?_⟩, fun g hg hl => ?_⟩
  · rw [hz]
    refine (hS.moved fun g o hg hl => ?_).lowB (show w.heap.size ≤ W0.heap.size + 2 by omega)
    have hgl := (Array.getElem?_eq_some_iff.1 hl).1
    rw [hk g (by omega) (by omega) hgl]
    exact hl
  · rw [hk k (by omega) (by omega) (by omega)]
    exact o2.1.block k hk'
  · rw [hk g (by omega) (by omega) (by omega)]
    exact o2.2 g hg hl

set_option maxHeartbeats 2000000 in
set_option maxRecDepth 100000 in
theorem impl_strictly (n : Int) (s : ByteArray) (b : Nat) (w : World) (h : RdAt w b n (.map none) (startP n) (.slice none 0 0)) (hT : ∀ W, Only b w W → TabM W) (hn : proB n = true) (hs : s.size ≤ 4096) :
    Calls Tryz.prog 37 #[.pointer (some ⟨b, 0, none⟩), .string s] w (SyDone n s b w) := by
  have hmf : ∀ (fn : Fn) (first cap : Array Value) (w : World), (Instr.makeFunc fn first cap).run Tryz.prog w = .ok (.func fn first cap) w := fun _ _ _ _ => rfl
  have hbl : b < w.heap.size := h.lt
  have B0 := Lib.hid (below_two w (.cells #[.int .i64 0] 3) (.cells #[.int .i64 1] 3))
  have HRd := Lib.hid (impl_readS n s b ((w.alloc (.cells #[.int .i64 0] 3)).alloc (.cells #[.int .i64 1] 3)) (h.keep B0.out) (fun W o => hT W ((only_below hbl B0.out).trans o)) hn hs)
  have GA : Hid (((w.alloc (.cells #[.int .i64 0] 3)).alloc (.cells #[.int .i64 1] 3)).heap[w.heap.size]? = some (.cells #[.int .i64 0] 3)) := Lib.hid (heap_alloc2_old _ _ _)
  have GC : Hid (((w.alloc (.cells #[.int .i64 0] 3)).alloc (.cells #[.int .i64 1] 3)).heap[w.heap.size + 1]? = some (.cells #[.int .i64 1] 3)) := Lib.hid (heap_alloc2_new _ _ _)
  have HsB : Hid (((w.alloc (.cells #[.int .i64 0] 3)).alloc (.cells #[.int .i64 1] 3)).heap.size = w.heap.size + 2) := Lib.hid (by simp)
  have HEc := Lib.hid (fun x m l W hR hx => impl_endCode n x m l b W hR hx)
  clear h hT
  go_enter_defers Tryz.func37, Tryz.ntmps37
  go_wp2_with fail
  refine HRd.out.mono ?_
  generalize (w.alloc (.cells #[.int .i64 0] 3)).alloc (.cells #[.int .i64 1] 3) = W0 at *
  rintro e w2 (⟨rfl, x, l, z, hz, hx, hS, hO⟩ | ⟨p, c, rfl, x, l, z, hz, hS, hO⟩)
  · have hsz := HsB.out
    have GA2 : w2.heap[w.heap.size]? = some (.cells #[.int .i64 0] 3) := (hO.2 _ (by omega) (by omega)).trans GA.out
    have GC2 : w2.heap[w.heap.size + 1]? = some (.cells #[.int .i64 1] 3) := (hO.2 _ (by omega) (by omega)).trans GC.out
    have HS := Lib.hid hS
    obtain ⟨m, hm, _⟩ := hS
    have HE := Lib.hid (HEc.out x m l w2 hm hx)
    have hsz1 := hO.1.size
    have hl1 : w.heap.size + 1 < w2.heap.size := by omega
    clear hsz hm
    go_wp2_with fail
    refine HE.out.mono ?_
    rintro e w3 ⟨rfl, q, rfl⟩
    have GA3 : Hid ((w2.drewN q).heap[w.heap.size]? = some (.cells #[.int .i64 0] 3)) := Lib.hid GA2
    have GC3 : Hid ((w2.drewN q).heap[w.heap.size + 1]? = some (.cells #[.int .i64 1] 3)) := Lib.hid GC2
    have HQ : Hid ((∀ g : Nat, (w2.drewN q).heap[g]? = w2.heap[g]?) ∧ (w2.drewN q).heap.size = w2.heap.size ∧ (w2.drewN q).os = w2.os ∧ (w2.drewN q).tape = w2.tape ∧ (w2.drewN q).output = w2.output) := Lib.hid ⟨fun _ => rfl, rfl, rfl, rfl, rfl⟩
    have hl3 : w.heap.size + 1 < (w2.drewN q).heap.size := hl1
    generalize w2.drewN q = W3 at *
    have a0 : W3.cell? ⟨w.heap.size, 0, none⟩ = some (.int .i64 0) := by rw [cell_of_row _ _ _ _ _ _ GA3.out]; rfl
    have c0 : W3.cell? ⟨w.heap.size + 1, 0, none⟩ = some (.int .i64 1) := by rw [cell_of_row _ _ _ _ _ _ GC3.out]; rfl
    have fa := frozen_of_row _ w.heap.size 0 _ _ GA3.out
    have fc := frozen_of_row _ (w.heap.size + 1) 0 _ _ GC3.out
    have ha0 : w.heap.size < W3.heap.size := by omega
    have e1 : Hid (((W3.setCell ⟨w.heap.size, 0, none⟩ (.int .i64 (s.size : Int))).setCell ⟨w.heap.size + 1, 0, none⟩ (.int .i64 (endC n x))).heap[w.heap.size]? = some (.cells #[.int .i64 (s.size : Int)] 3)) := Lib.hid ((Below.heap_setCell _ _ _ _ (by simp)).trans (heap_setCell_same W3 w.heap.size 0 _ _ (.int .i64 (s.size : Int)) GA3.out))
    have e2 : Hid (((W3.setCell ⟨w.heap.size, 0, none⟩ (.int .i64 (s.size : Int))).setCell ⟨w.heap.size + 1, 0, none⟩ (.int .i64 (endC n x))).heap[w.heap.size + 1]? = some (.cells #[.int .i64 (endC n x)] 3)) := Lib.hid (heap_setCell_same _ (w.heap.size + 1) 0 _ _ (.int .i64 (endC n x)) ((Below.heap_setCell _ _ _ _ (by simp)).trans GC3.out))
    have e3 : Hid (∀ g : Nat, g ≠ w.heap.size → g ≠ w.heap.size + 1 → ((W3.setCell ⟨w.heap.size, 0, none⟩ (.int .i64 (s.size : Int))).setCell ⟨w.heap.size + 1, 0, none⟩ (.int .i64 (endC n x))).heap[g]? = W3.heap[g]?) := Lib.hid (fun g h1 h2 => (Below.heap_setCell _ _ _ _ (by simpa using h2)).trans (Below.heap_setCell _ _ _ _ (by simpa using h1)))
    have e4 : Hid (((W3.setCell ⟨w.heap.size, 0, none⟩ (.int .i64 (s.size : Int))).setCell ⟨w.heap.size + 1, 0, none⟩ (.int .i64 (endC n x))).heap.size = W3.heap.size ∧ ((W3.setCell ⟨w.heap.size, 0, none⟩ (.int .i64 (s.size : Int))).setCell ⟨w.heap.size + 1, 0, none⟩ (.int .i64 (endC n x))).os = W3.os ∧ ((W3.setCell ⟨w.heap.size, 0, none⟩ (.int .i64 (s.size : Int))).setCell ⟨w.heap.size + 1, 0, none⟩ (.int .i64 (endC n x))).tape = W3.tape ∧ ((W3.setCell ⟨w.heap.size, 0, none⟩ (.int .i64 (s.size : Int))).setCell ⟨w.heap.size + 1, 0, none⟩ (.int .i64 (endC n x))).output = W3.output) := Lib.hid ⟨by simp, rfl, rfl, rfl⟩
    go_wp2
    refine leaves_cons (f := 72) (args := #[.pointer (some ⟨w.heap.size, 0, none⟩), .pointer (some ⟨w.heap.size + 1, 0, none⟩)]) (by simp) (by simp [go_sem]) ?_
    refine (strict_idle w.heap.size (w.heap.size + 1) _).mono ?_
    generalize ((W3.setCell ⟨w.heap.size, 0, none⟩ (.int .i64 (s.size : Int))).setCell ⟨w.heap.size + 1, 0, none⟩ (.int .i64 (endC n x))) = W4 at *
    rintro e u' w5 ⟨rfl, rfl, b5⟩
    have s4 := e4.out.1
    have s3 := HQ.out.2.1
    have c1 : w5.cell? ⟨w.heap.size, 0, none⟩ = some (.int .i64 (s.size : Int)) := by rw [cell_of_row _ _ _ _ _ _ ((b5.block _ (by omega)).trans e1.out)]; rfl
    have c2 : w5.cell? ⟨w.heap.size + 1, 0, none⟩ = some (.int .i64 (endC n x)) := by rw [cell_of_row _ _ _ _ _ _ ((b5.block _ (by omega)).trans e2.out)]; rfl
    refine ⟨.tuple #[.int .i64 (s.size : Int), .int .i64 (endC n x)], ?_, ?_⟩
    · simp [results, Tryz.results37, go_sem, c1, c2]
    · exact strict_done hz hbl B0.out HsB.out HS.out hO (fun g h1 h2 hl => by rw [b5.block g (by omega), e3.out g h1 h2, HQ.out.1 g]) (by have := b5.size; omega) (b5.os.trans (e4.out.2.1.trans HQ.out.2.2.1)) (b5.tape.trans (e4.out.2.2.1.trans HQ.out.2.2.2.1)) (b5.output.trans (e4.out.2.2.2.trans HQ.out.2.2.2.2))
  · have hsz := HsB.out
    have GA2 : w2.heap[w.heap.size]? = some (.cells #[.int .i64 0] 3) := (hO.2 _ (by omega) (by omega)).trans GA.out
    have GC2 : w2.heap[w.heap.size + 1]? = some (.cells #[.int .i64 1] 3) := (hO.2 _ (by omega) (by omega)).trans GC.out
    refine leaves_cons (f := 72) (args := #[.pointer (some ⟨w.heap.size, 0, none⟩), .pointer (some ⟨w.heap.size + 1, 0, none⟩)]) (by simp) (by simp [go_sem]) ?_
    refine (strict_catch w.heap.size (w.heap.size + 1) 0 1 p c w2 GA2 GC2 (by omega)).mono ?_
    rintro e u' w5 ⟨rfl, rfl, hK⟩
    have c1 : w5.cell? ⟨w.heap.size, 0, none⟩ = some (.int .i64 p) := by rw [cell_of_row _ _ _ _ _ _ hK.1]; rfl
    have c2 : w5.cell? ⟨w.heap.size + 1, 0, none⟩ = some (.int .i64 c) := by rw [cell_of_row _ _ _ _ _ _ hK.2.1]; rfl
    refine ⟨.tuple #[.int .i64 p, .int .i64 c], ?_, ?_⟩
    · simp [results, Tryz.results37, go_sem, c1, c2]
    · exact strict_done hz hbl B0.out HsB.out hS hO (fun g h1 h2 hl => hK.2.2.1 g h1 h2 hl) hK.2.2.2.1 hK.2.2.2.2.1 hK.2.2.2.2.2.1 hK.2.2.2.2.2.2

end Go.Proofs.YtbamjhldebobhaaGreatDoor

namespace Go.Proofs.YtbamjhldebobhaaGreatDoor
open Go.RowKit Go.Sort

/-- DecodeLoose handed back. -/
def LdDone (n : Int) (s : ByteArray) (w : World) (e : Ending) (w' : World) : Prop := ∃ v, e = .returned (.tuple #[v, .int .i64 (askC n s)]) ∧ Own .i64 3 w' w.heap.size v (looD n s) ∧ Below w.heap.size w w'
theorem addR_le (z : List Int) (r : Int) : (addR z r).length ≤ z.length + 1 := by
  unfold addR
  split <;> simp
theorem looT_le (n : Int) (s : ByteArray) : ∀ (f k : Nat) (x : St) (z : List Int), (looT n s f k x z).length ≤ z.length + 2 * f + 1
  | 0, _, x, z => by
    unfold looT pendZ
    split <;> simp
  | f + 1, k, x, z => by
    unfold looT
    split
    · split
      · have h1 := looT_le n s f (k + (nextTok s k).n.toNat) (stepP n x (nextTok s k)).y (addR z (stepP n x (nextTok s k)).r)
        have h2 := addR_le z (stepP n x (nextTok s k)).r
        omega
      · have h1 := looT_le n s f (k + (nextTok s k).n.toNat) (badX n x (nextTok s k)) (z ++ badZ (nextTok s k))
        have h2 : (badZ (nextTok s k)).length ≤ 2 := by unfold badZ; split <;> simp
        simp only [List.length_append] at h1
        omega
    · unfold pendZ
      split
      · simp only [List.length_append, List.length_cons, List.length_nil]; omega
      · omega
theorem looD_le (n : Int) (s : ByteArray) : (looD n s).length ≤ 1048576 := by
  unfold looD
  split
  · next h =>
    have hs : s.size ≤ 4096 := by
      unfold askC at h
      split at h
      · cases h
      · split at h
        · split at h
          · cases h
          · omega
        · cases h
    have h1 := looT_le n s s.size 0 (startP n) (if headB n s = true then [] else [65533])
    have h2 : (if headB n s = true then ([] : List Int) else [65533]).length ≤ 1 := by split <;> simp
    unfold looP
    omega
  · simp

end Go.Proofs.YtbamjhldebobhaaGreatDoor

namespace Go.Proofs.YtbamjhldebobhaaGreatDoor
open Go.RowKit Go.Sort

def DecodeDone (n : Int) (s : ByteArray) (w : World) (e : Ending) (w' : World) : Prop := ∃ v, e = .returned (.tuple #[v, .int .i64 (dcD n s).p, .int .i64 (dcD n s).c]) ∧ Own .i64 3 w' w.heap.size v (dcD n s).z ∧ Below w.heap.size w w'
def vtB (n : Int) (s : ByteArray) : Bool := decide (askC n s = 0) && ((decP n s).c == 0)
def ValidTextDone (n : Int) (s : ByteArray) (w : World) (e : Ending) (w' : World) : Prop := e = .returned (.tuple #[.bool (vtB n s), .int .i64 (askC n s)]) ∧ Below w.heap.size w w'
def guP (n : Int) (s : ByteArray) : Int := if askC n s = 0 then (decP n s).p else 0
def GoodUpToDone (n : Int) (s : ByteArray) (w : World) (e : Ending) (w' : World) : Prop := e = .returned (.tuple #[.int .i64 (guP n s), .int .i64 (askC n s)]) ∧ Below w.heap.size w w'
theorem vt_ok {n : Int} {s : ByteArray} {d : Dc} (hc : askC n s = 0) (hd : decP n s = d) : vtB n s = (d.c == 0) := by rw [vtB, hd, hc]; rfl
theorem vt_bad {n : Int} {s : ByteArray} (hc : ¬ askC n s = 0) : vtB n s = false := by rw [vtB, decide_eq_false hc]; rfl
theorem gu_ok {n : Int} {s : ByteArray} {d : Dc} (hc : askC n s = 0) (hd : decP n s = d) : guP n s = d.p := by rw [guP, if_pos hc, hd]
theorem gu_bad {n : Int} {s : ByteArray} (hc : ¬ askC n s = 0) : guP n s = 0 := by rw [guP, if_neg hc]
theorem dc_ok {n : Int} {s : ByteArray} {d : Dc} (hc : askC n s = 0) (hd : decP n s = d) : dcD n s = d := by rw [dcD, if_pos hc, hd]
theorem dc_bad {n : Int} {s : ByteArray} (hc : ¬ askC n s = 0) : dcD n s = ⟨[], 0, askC n s⟩ := by rw [dcD, if_neg hc]

end Go.Proofs.YtbamjhldebobhaaGreatDoor

namespace Go.Proofs.YtbamjhldebobhaaGreatDoor
open Go.RowKit Go.Sort

set_option maxHeartbeats 2000000 in
set_option maxRecDepth 100000 in
theorem impl_ValidText (n : Int) (s : ByteArray) (w : World) (ht : TabM w) : Calls Tryz.prog 18 #[.int .i64 n, .string s] w (ValidTextDone n s w) := by
  have HA := Lib.hid (fun w => impl_readingCode n s w)
  by_cases hc : askC n s = 0
  · have HC := Lib.hid hc
    have hsz : s.size ≤ 4096 ∧ proB n = true := by
      unfold askC at hc
      split at hc
      · cases hc
      · split at hc
        · split at hc
          · cases hc
          · exact ⟨by omega, by assumption⟩
        · cases hc
    have HR := Lib.hid (fun w ht => impl_readingOf n w ht hsz.2)
    have HW := Lib.hid (fun b w h hT => impl_strictly n s b w h hT hsz.2 hsz.1)
    have HT := Lib.hid ht
    rw [hc] at HA
    unfold rdV at HR
    unfold SyDone at HW
    clear hc hsz ht
    obtain ⟨d, hd⟩ : ∃ d, decP n s = d := ⟨_, rfl⟩
    have HD := Lib.hid hd
    rw [hd] at HW
    clear hd
    go_enter Tryz.func18, Tryz.ntmps18
    go_wp2_with fail
    refine (HA.out _).mono ?_
    rintro e w0 ⟨rfl, rfl⟩
    go_wp2_with fail
    refine (HR.out _ HT.out.1).mono ?_
    rintro e w1 ⟨rfl, b1⟩
    have R1 : Hid (RdAt (w1.alloc (.cells #[.int .i64 n, .string (prName n), .string (prHead n), .slice none 0 0, .bool (prRight n), .bool (prShifts n), .bool (prSingle n), .bool (prReset n), .bool (prClear n), (.map none), .int .i64 (startP n).g0, .int .i64 (startP n).g1, .int .i64 (startP n).g2, .int .i64 (startP n).g3, .int .i64 (startP n).l, .int .i64 (startP n).s, .int .i64 (startP n).d, (.slice none 0 0)] 69)) w1.heap.size n (.map none) (startP n) (.slice none 0 0)) := Lib.hid (heap_alloc_new _ _)
    have B1 : Hid (Below w.heap.size w (w1.alloc (.cells #[.int .i64 n, .string (prName n), .string (prHead n), .slice none 0 0, .bool (prRight n), .bool (prShifts n), .bool (prSingle n), .bool (prReset n), .bool (prClear n), (.map none), .int .i64 (startP n).g0, .int .i64 (startP n).g1, .int .i64 (startP n).g2, .int .i64 (startP n).g3, .int .i64 (startP n).l, .int .i64 (startP n).s, .int .i64 (startP n).d, (.slice none 0 0)] 69))) := Lib.hid (b1.alloc b1.size _)
    have hw1 : w.heap.size ≤ w1.heap.size := b1.size
    clear b1
    go_wp2_with fail
    generalize w1.alloc (.cells #[.int .i64 n, .string (prName n), .string (prHead n), .slice none 0 0, .bool (prRight n), .bool (prShifts n), .bool (prSingle n), .bool (prReset n), .bool (prClear n), (.map none), .int .i64 (startP n).g0, .int .i64 (startP n).g1, .int .i64 (startP n).g2, .int .i64 (startP n).g3, .int .i64 (startP n).l, .int .i64 (startP n).s, .int .i64 (startP n).d, (.slice none 0 0)] 69) = W1 at *
    refine (HW.out w1.heap.size W1 R1.out (fun W o => HT.out.keep (B1.out.trans (o.1.mono hw1)))).mono ?_
    rintro e w2 ⟨rfl, x, l, hS, hO⟩
    have B2 : Hid (Below w.heap.size w w2) := Lib.hid (B1.out.trans (hO.1.mono hw1))
    have hC2 : w.heap.size ≤ W1.heap.size := B1.out.size
    obtain ⟨m, hm, _, hOwn⟩ := hS
    have HO := Lib.hid hOwn
    have ⟨_, _, _, _, _, _, _, _, _, c17⟩ := hm.cells
    clear hO hm hOwn
    go_wp2
    go_ret2
    exact ⟨by rw [vt_ok HC.out HD.out, HC.out]; rfl, B2.out⟩
  · obtain ⟨cc, hcc⟩ : ∃ cc, askC n s = cc := ⟨_, rfl⟩
    have HCC := Lib.hid hcc
    have HN := Lib.hid hc
    have ec : (cc != 0) = true := by rw [← hcc]; simpa using hc
    rw [hcc] at HA
    clear hc hcc
    go_enter Tryz.func18, Tryz.ntmps18
    go_wp2_with fail
    refine (HA.out _).mono ?_
    rintro e w1 ⟨rfl, rfl⟩
    go_wp2
    go_ret2
    exact ⟨by rw [vt_bad HN.out, HCC.out]; rfl, Below.refl _ _⟩

set_option maxHeartbeats 2000000 in
set_option maxRecDepth 100000 in
theorem impl_GoodUpTo (n : Int) (s : ByteArray) (w : World) (ht : TabM w) : Calls Tryz.prog 20 #[.int .i64 n, .string s] w (GoodUpToDone n s w) := by
  have HA := Lib.hid (fun w => impl_readingCode n s w)
  by_cases hc : askC n s = 0
  · have HC := Lib.hid hc
    have hsz : s.size ≤ 4096 ∧ proB n = true := by
      unfold askC at hc
      split at hc
      · cases hc
      · split at hc
        · split at hc
          · cases hc
          · exact ⟨by omega, by assumption⟩
        · cases hc
    have HR := Lib.hid (fun w ht => impl_readingOf n w ht hsz.2)
    have HW := Lib.hid (fun b w h hT => impl_strictly n s b w h hT hsz.2 hsz.1)
    have HT := Lib.hid ht
    rw [hc] at HA
    unfold rdV at HR
    unfold SyDone at HW
    clear hc hsz ht
    obtain ⟨d, hd⟩ : ∃ d, decP n s = d := ⟨_, rfl⟩
    have HD := Lib.hid hd
    rw [hd] at HW
    clear hd
    go_enter Tryz.func20, Tryz.ntmps20
    go_wp2_with fail
    refine (HA.out _).mono ?_
    rintro e w0 ⟨rfl, rfl⟩
    go_wp2_with fail
    refine (HR.out _ HT.out.1).mono ?_
    rintro e w1 ⟨rfl, b1⟩
    have R1 : Hid (RdAt (w1.alloc (.cells #[.int .i64 n, .string (prName n), .string (prHead n), .slice none 0 0, .bool (prRight n), .bool (prShifts n), .bool (prSingle n), .bool (prReset n), .bool (prClear n), (.map none), .int .i64 (startP n).g0, .int .i64 (startP n).g1, .int .i64 (startP n).g2, .int .i64 (startP n).g3, .int .i64 (startP n).l, .int .i64 (startP n).s, .int .i64 (startP n).d, (.slice none 0 0)] 69)) w1.heap.size n (.map none) (startP n) (.slice none 0 0)) := Lib.hid (heap_alloc_new _ _)
    have B1 : Hid (Below w.heap.size w (w1.alloc (.cells #[.int .i64 n, .string (prName n), .string (prHead n), .slice none 0 0, .bool (prRight n), .bool (prShifts n), .bool (prSingle n), .bool (prReset n), .bool (prClear n), (.map none), .int .i64 (startP n).g0, .int .i64 (startP n).g1, .int .i64 (startP n).g2, .int .i64 (startP n).g3, .int .i64 (startP n).l, .int .i64 (startP n).s, .int .i64 (startP n).d, (.slice none 0 0)] 69))) := Lib.hid (b1.alloc b1.size _)
    have hw1 : w.heap.size ≤ w1.heap.size := b1.size
    clear b1
    go_wp2_with fail
    generalize w1.alloc (.cells #[.int .i64 n, .string (prName n), .string (prHead n), .slice none 0 0, .bool (prRight n), .bool (prShifts n), .bool (prSingle n), .bool (prReset n), .bool (prClear n), (.map none), .int .i64 (startP n).g0, .int .i64 (startP n).g1, .int .i64 (startP n).g2, .int .i64 (startP n).g3, .int .i64 (startP n).l, .int .i64 (startP n).s, .int .i64 (startP n).d, (.slice none 0 0)] 69) = W1 at *
    refine (HW.out w1.heap.size W1 R1.out (fun W o => HT.out.keep (B1.out.trans (o.1.mono hw1)))).mono ?_
    rintro e w2 ⟨rfl, x, l, hS, hO⟩
    have B2 : Hid (Below w.heap.size w w2) := Lib.hid (B1.out.trans (hO.1.mono hw1))
    have hC2 : w.heap.size ≤ W1.heap.size := B1.out.size
    obtain ⟨m, hm, _, hOwn⟩ := hS
    have HO := Lib.hid hOwn
    have ⟨_, _, _, _, _, _, _, _, _, c17⟩ := hm.cells
    clear hO hm hOwn
    go_wp2
    go_ret2
    exact ⟨by rw [gu_ok HC.out HD.out, HC.out]; rfl, B2.out⟩
  · obtain ⟨cc, hcc⟩ : ∃ cc, askC n s = cc := ⟨_, rfl⟩
    have HCC := Lib.hid hcc
    have HN := Lib.hid hc
    have ec : (cc != 0) = true := by rw [← hcc]; simpa using hc
    rw [hcc] at HA
    clear hc hcc
    go_enter Tryz.func20, Tryz.ntmps20
    go_wp2_with fail
    refine (HA.out _).mono ?_
    rintro e w1 ⟨rfl, rfl⟩
    go_wp2
    go_ret2
    exact ⟨by rw [gu_bad HN.out, HCC.out]; rfl, Below.refl _ _⟩

set_option maxHeartbeats 2000000 in
set_option maxRecDepth 100000 in
theorem impl_Decode (n : Int) (s : ByteArray) (w : World) (ht : TabM w) : Calls Tryz.prog 11 #[.int .i64 n, .string s] w (DecodeDone n s w) := by
  have HA := Lib.hid (fun w => impl_readingCode n s w)
  by_cases hc : askC n s = 0
  · have HC := Lib.hid hc
    have hsz : s.size ≤ 4096 ∧ proB n = true := by
      unfold askC at hc
      split at hc
      · cases hc
      · split at hc
        · split at hc
          · cases hc
          · exact ⟨by omega, by assumption⟩
        · cases hc
    have HR := Lib.hid (fun w ht => impl_readingOf n w ht hsz.2)
    have HW := Lib.hid (fun b w h hT => impl_strictly n s b w h hT hsz.2 hsz.1)
    have HT := Lib.hid ht
    rw [hc] at HA
    unfold rdV at HR
    unfold SyDone at HW
    clear hc hsz ht
    obtain ⟨d, hd⟩ : ∃ d, decP n s = d := ⟨_, rfl⟩
    have HD := Lib.hid hd
    rw [hd] at HW
    clear hd
    go_enter Tryz.func11, Tryz.ntmps11
    go_wp2_with fail
    refine (HA.out _).mono ?_
    rintro e w0 ⟨rfl, rfl⟩
    go_wp2_with fail
    refine (HR.out _ HT.out.1).mono ?_
    rintro e w1 ⟨rfl, b1⟩
    have R1 : Hid (RdAt (w1.alloc (.cells #[.int .i64 n, .string (prName n), .string (prHead n), .slice none 0 0, .bool (prRight n), .bool (prShifts n), .bool (prSingle n), .bool (prReset n), .bool (prClear n), (.map none), .int .i64 (startP n).g0, .int .i64 (startP n).g1, .int .i64 (startP n).g2, .int .i64 (startP n).g3, .int .i64 (startP n).l, .int .i64 (startP n).s, .int .i64 (startP n).d, (.slice none 0 0)] 69)) w1.heap.size n (.map none) (startP n) (.slice none 0 0)) := Lib.hid (heap_alloc_new _ _)
    have B1 : Hid (Below w.heap.size w (w1.alloc (.cells #[.int .i64 n, .string (prName n), .string (prHead n), .slice none 0 0, .bool (prRight n), .bool (prShifts n), .bool (prSingle n), .bool (prReset n), .bool (prClear n), (.map none), .int .i64 (startP n).g0, .int .i64 (startP n).g1, .int .i64 (startP n).g2, .int .i64 (startP n).g3, .int .i64 (startP n).l, .int .i64 (startP n).s, .int .i64 (startP n).d, (.slice none 0 0)] 69))) := Lib.hid (b1.alloc b1.size _)
    have hw1 : w.heap.size ≤ w1.heap.size := b1.size
    clear b1
    go_wp2_with fail
    generalize w1.alloc (.cells #[.int .i64 n, .string (prName n), .string (prHead n), .slice none 0 0, .bool (prRight n), .bool (prShifts n), .bool (prSingle n), .bool (prReset n), .bool (prClear n), (.map none), .int .i64 (startP n).g0, .int .i64 (startP n).g1, .int .i64 (startP n).g2, .int .i64 (startP n).g3, .int .i64 (startP n).l, .int .i64 (startP n).s, .int .i64 (startP n).d, (.slice none 0 0)] 69) = W1 at *
    refine (HW.out w1.heap.size W1 R1.out (fun W o => HT.out.keep (B1.out.trans (o.1.mono hw1)))).mono ?_
    rintro e w2 ⟨rfl, x, l, hS, hO⟩
    have B2 : Hid (Below w.heap.size w w2) := Lib.hid (B1.out.trans (hO.1.mono hw1))
    have hC2 : w.heap.size ≤ W1.heap.size := B1.out.size
    obtain ⟨m, hm, _, hOwn⟩ := hS
    have HO := Lib.hid hOwn
    have ⟨_, _, _, _, _, _, _, _, _, c17⟩ := hm.cells
    clear hO hm hOwn
    go_wp2
    go_ret3
    exact ⟨l, by rw [dc_ok HC.out HD.out]; rfl, by rw [dc_ok HC.out HD.out]; exact HO.out.low hC2, B2.out⟩
  · obtain ⟨cc, hcc⟩ : ∃ cc, askC n s = cc := ⟨_, rfl⟩
    have HCC := Lib.hid hcc
    have HN := Lib.hid hc
    have ec : (cc != 0) = true := by rw [← hcc]; simpa using hc
    rw [hcc] at HA
    clear hc hcc
    go_enter Tryz.func11, Tryz.ntmps11
    go_wp2_with fail
    refine (HA.out _).mono ?_
    rintro e w1 ⟨rfl, rfl⟩
    go_wp2
    go_ret3
    exact ⟨.slice none 0 0, by rw [dc_bad HN.out, HCC.out]; rfl, by rw [dc_bad HN.out]; exact Own.nil _ _ _ _, Below.refl _ _⟩

end Go.Proofs.YtbamjhldebobhaaGreatDoor

namespace Go.Proofs.YtbamjhldebobhaaGreatDoor
open Go.RowKit Go.Sort

set_option maxHeartbeats 1000000 in
theorem spec_ValidText (n : Int) (s : ByteArray) (w : World) : Calls Tryz.prog 17 #[.int .i64 n, .string s] w (ValidTextDone n s w) := by
  have HA := Lib.hid (fun w => spec_l06Ask n s w)
  by_cases h1 : 65536 < s.size
  · have h1' : (65536 : Int) < (s.size : Int) := by omega
    have HCC : Hid (askC n s = 2) := Lib.hid (by rw [askC, if_pos h1])
    have HN : Hid (¬ askC n s = 0) := Lib.hid (by rw [HCC.out]; decide)
    go_enter Tryz.func17, Tryz.ntmps17
    go_wp2
    go_ret2
    exact ⟨by rw [vt_bad HN.out, HCC.out]; rfl, Below.refl _ _⟩
  have h1' : ¬ (65536 : Int) < (s.size : Int) := by omega
  by_cases hc : askC n s = 0
  · have HC := Lib.hid hc
    have hsz : s.size ≤ 4096 ∧ proB n = true := by
      unfold askC at hc
      split at hc
      · cases hc
      · split at hc
        · split at hc
          · cases hc
          · exact ⟨by omega, by assumption⟩
        · cases hc
    have HL := Lib.hid (fun w => spec_l06Decode n s w hsz.1)
    unfold DecDone at HL
    rw [hc] at HA
    clear hc hsz
    obtain ⟨d, hd⟩ : ∃ d, decP n s = d := ⟨_, rfl⟩
    have HD := Lib.hid hd
    rw [hd] at HL
    clear hd
    go_enter Tryz.func17, Tryz.ntmps17
    go_wp2_with fail
    refine (HA.out _).mono ?_
    rintro e w1 ⟨rfl, rfl⟩
    go_wp2_with fail
    refine (HL.out _).mono ?_
    rintro e w2 ⟨l, rfl, hOwn, b2⟩
    have HO := Lib.hid hOwn
    have B2 := Lib.hid b2
    have hC2 : w.heap.size ≤ w.heap.size := Nat.le_refl _
    clear hOwn b2
    go_wp2
    go_ret2
    exact ⟨by rw [vt_ok HC.out HD.out, HC.out]; rfl, B2.out⟩
  · obtain ⟨cc, hcc⟩ : ∃ cc, askC n s = cc := ⟨_, rfl⟩
    have HCC := Lib.hid hcc
    have HN := Lib.hid hc
    have ec : (cc != 0) = true := by rw [← hcc]; simpa using hc
    rw [hcc] at HA
    clear hc hcc
    go_enter Tryz.func17, Tryz.ntmps17
    go_wp2_with fail
    refine (HA.out _).mono ?_
    rintro e w1 ⟨rfl, rfl⟩
    go_wp2
    go_ret2
    exact ⟨by rw [vt_bad HN.out, HCC.out]; rfl, Below.refl _ _⟩

set_option maxHeartbeats 1000000 in
theorem spec_GoodUpTo (n : Int) (s : ByteArray) (w : World) : Calls Tryz.prog 19 #[.int .i64 n, .string s] w (GoodUpToDone n s w) := by
  have HA := Lib.hid (fun w => spec_l06Ask n s w)
  by_cases h1 : 65536 < s.size
  · have h1' : (65536 : Int) < (s.size : Int) := by omega
    have HCC : Hid (askC n s = 2) := Lib.hid (by rw [askC, if_pos h1])
    have HN : Hid (¬ askC n s = 0) := Lib.hid (by rw [HCC.out]; decide)
    go_enter Tryz.func19, Tryz.ntmps19
    go_wp2
    go_ret2
    exact ⟨by rw [gu_bad HN.out, HCC.out]; rfl, Below.refl _ _⟩
  have h1' : ¬ (65536 : Int) < (s.size : Int) := by omega
  by_cases hc : askC n s = 0
  · have HC := Lib.hid hc
    have hsz : s.size ≤ 4096 ∧ proB n = true := by
      unfold askC at hc
      split at hc
      · cases hc
      · split at hc
        · split at hc
          · cases hc
          · exact ⟨by omega, by assumption⟩
        · cases hc
    have HL := Lib.hid (fun w => spec_l06Decode n s w hsz.1)
    unfold DecDone at HL
    rw [hc] at HA
    clear hc hsz
    obtain ⟨d, hd⟩ : ∃ d, decP n s = d := ⟨_, rfl⟩
    have HD := Lib.hid hd
    rw [hd] at HL
    clear hd
    go_enter Tryz.func19, Tryz.ntmps19
    go_wp2_with fail
    refine (HA.out _).mono ?_
    rintro e w1 ⟨rfl, rfl⟩
    go_wp2_with fail
    refine (HL.out _).mono ?_
    rintro e w2 ⟨l, rfl, hOwn, b2⟩
    have HO := Lib.hid hOwn
    have B2 := Lib.hid b2
    have hC2 : w.heap.size ≤ w.heap.size := Nat.le_refl _
    clear hOwn b2
    go_wp2
    go_ret2
    exact ⟨by rw [gu_ok HC.out HD.out, HC.out]; rfl, B2.out⟩
  · obtain ⟨cc, hcc⟩ : ∃ cc, askC n s = cc := ⟨_, rfl⟩
    have HCC := Lib.hid hcc
    have HN := Lib.hid hc
    have ec : (cc != 0) = true := by rw [← hcc]; simpa using hc
    rw [hcc] at HA
    clear hc hcc
    go_enter Tryz.func19, Tryz.ntmps19
    go_wp2_with fail
    refine (HA.out _).mono ?_
    rintro e w1 ⟨rfl, rfl⟩
    go_wp2
    go_ret2
    exact ⟨by rw [gu_bad HN.out, HCC.out]; rfl, Below.refl _ _⟩

set_option maxHeartbeats 1000000 in
theorem spec_Decode (n : Int) (s : ByteArray) (w : World) : Calls Tryz.prog 10 #[.int .i64 n, .string s] w (DecodeDone n s w) := by
  have HA := Lib.hid (fun w => spec_l06Ask n s w)
  have O0 : Hid (Own .i64 3 (w.alloc (.cells #[] 3)) w.heap.size (.slice (some ⟨w.heap.size, 0, none⟩) 0 0) []) := Lib.hid (Own.lit .i64 3 w w.heap.size [] (Nat.le_refl _) (by simp))
  have B0 := Lib.hid (below_one w (.cells #[] 3))
  by_cases h1 : 65536 < s.size
  · have h1' : (65536 : Int) < (s.size : Int) := by omega
    have HCC : Hid (askC n s = 2) := Lib.hid (by rw [askC, if_pos h1])
    have HN : Hid (¬ askC n s = 0) := Lib.hid (by rw [HCC.out]; decide)
    go_enter Tryz.func10, Tryz.ntmps10
    go_wp2
    go_ret3
    exact ⟨.slice (some ⟨w.heap.size, 0, none⟩) 0 0, by rw [dc_bad HN.out, HCC.out]; rfl, by rw [dc_bad HN.out]; exact O0.out, B0.out⟩
  have h1' : ¬ (65536 : Int) < (s.size : Int) := by omega
  by_cases hc : askC n s = 0
  · have HC := Lib.hid hc
    have hsz : s.size ≤ 4096 ∧ proB n = true := by
      unfold askC at hc
      split at hc
      · cases hc
      · split at hc
        · split at hc
          · cases hc
          · exact ⟨by omega, by assumption⟩
        · cases hc
    have HL := Lib.hid (fun w => spec_l06Decode n s w hsz.1)
    unfold DecDone at HL
    rw [hc] at HA
    clear hc hsz
    obtain ⟨d, hd⟩ : ∃ d, decP n s = d := ⟨_, rfl⟩
    have HD := Lib.hid hd
    rw [hd] at HL
    clear hd
    go_enter Tryz.func10, Tryz.ntmps10
    go_wp2_with fail
    refine (HA.out _).mono ?_
    rintro e w1 ⟨rfl, rfl⟩
    go_wp2_with fail
    refine (HL.out _).mono ?_
    rintro e w2 ⟨l, rfl, hOwn, b2⟩
    have HO := Lib.hid hOwn
    have B2 := Lib.hid b2
    have hC2 : w.heap.size ≤ w.heap.size := Nat.le_refl _
    clear hOwn b2
    go_wp2
    go_ret3
    exact ⟨l, by rw [dc_ok HC.out HD.out]; rfl, by rw [dc_ok HC.out HD.out]; exact HO.out.low hC2, B2.out⟩
  · obtain ⟨cc, hcc⟩ : ∃ cc, askC n s = cc := ⟨_, rfl⟩
    have HCC := Lib.hid hcc
    have HN := Lib.hid hc
    have ec : (cc != 0) = true := by rw [← hcc]; simpa using hc
    rw [hcc] at HA
    clear hc hcc
    go_enter Tryz.func10, Tryz.ntmps10
    go_wp2_with fail
    refine (HA.out _).mono ?_
    rintro e w1 ⟨rfl, rfl⟩
    go_wp2
    go_ret3
    exact ⟨.slice (some ⟨w.heap.size, 0, none⟩) 0 0, by rw [dc_bad HN.out, HCC.out]; rfl, by rw [dc_bad HN.out]; exact O0.out, B0.out⟩

end Go.Proofs.YtbamjhldebobhaaGreatDoor

namespace Go.Proofs.YtbamjhldebobhaaGreatDoor
open Go.ChangeShapes Go.WideShapes Go.ChangeAt Go.RowKit

theorem gReg : Tryz.prog.globalNamed "loop.example/g00748/impl.registry" = some 1 := by kernel_rfl
theorem tReg : (Tryz.prog.globals[1]?).map (·.type) = some 174 := by kernel_rfl
def spD {H : Type} (s : Sp) : DataW H := .agg [.lit (.int .i64 s.1), .lit (.int .i64 s.2.1), .lit (.int .i64 s.2.2)]
def setD {H : Type} (k : Nat) : DataW H := .agg [.lit (.string (setName k).data.toList), .lit (.int .i64 (setKind k)), .lit (.int .i64 (setFinal k)), .slice ((setSpans k).map spD) []]
def regD {H : Type} : List (DataW H) := .agg [.lit (.string []), .lit (.int .i64 0), .lit (.int .i64 0), .nil] :: [setD 1, setD 2, setD 3, setD 4, setD 5, setD 6, setD 7, setD 8]
theorem laid_reg {H : Type} : (Rows.laid_loop_example_g00748_impl_registry : DataW H) = .agg regD := by kernel_rfl
theorem regD_at {H : Type} (k : Nat) (h1 : 1 ≤ k) (h8 : k ≤ 8) : (regD (H := H))[k]? = some (setD k) := by
  have : k = 1 ∨ k = 2 ∨ k = 3 ∨ k = 4 ∨ k = 5 ∨ k = 6 ∨ k = 7 ∨ k = 8 := by omega
  rcases this with rfl | rfl | rfl | rfl | rfl | rfl | rfl | rfl <;> rfl

theorem one_of_take {cs : List Value} {i : Nat} {c : Value} (h : (cs.drop i).take 1 = [c]) : cs[i]? = some c := by
  have := congrArg (fun l => l[0]?) h
  simpa [List.getElem?_take, List.getElem?_drop] using this

set_option maxRecDepth 100000 in
/-- A slice of spans, read. -/
theorem spans_of {H : Type} {enc : TypeId × Value → H} {W : World} {held : Bool} {fuel : Nat} {c : Value} {sp : List Sp} {p : List MemPlace} (hne : sp ≠ [])
    (h : DataW.trod enc Tryz.prog W 0 (fun _ => true) held fuel 93 [c] = some (.slice (sp.map spD) [], p)) : SpAt W c sp := by
  rcases Deep.open_slice Tryz.underlying93 h with ⟨_, hx⟩ | ⟨a, len, cap, m, n, D, Pl, hcs, _, hl, _, hm, hx, hel⟩
  · simp at hx
  · simp only [if_true] at hm
    have e1 := congrArg Prod.fst hx
    simp only [DataW.slice.injEq] at e1
    obtain ⟨e2, e3⟩ := e1
    have hlen : len = sp.length := by simpa using (congrArg List.length e2).symm
    subst hlen
    have c3 : Tryz.prog.cellsOf 147 = 3 := by kernel_rfl
    rw [c3] at hel
    have key : ∀ i (hi : i < sp.length), W.cell? (a.add (i * 3)) = some (.int .i64 (sp[i]).1) ∧ W.cell? ((a.add (i * 3)).add 1) = some (.int .i64 (sp[i]).2.1) ∧ W.cell? ((a.add (i * 3)).add 2) = some (.int .i64 (sp[i]).2.2) := by
      intro i hi
      obtain ⟨cs', h1, h2⟩ := hel i (by omega)
      obtain ⟨_, hlen3, hc⟩ := World.cells?_some h1
      have hD : D i = spD (sp[i]) := by
        have := congrArg (fun l => l[i]?) e2
        simp only [List.getElem?_map, List.getElem?_eq_getElem hi, Option.map_some, List.getElem?_range hi, Option.some.injEq] at this
        exact this.symm
      obtain ⟨y0, y1, y2, q, hy, _, t0, t1, t2⟩ := Deep.trod_struct3 Tryz.underlying147 h2
      have c1 : Tryz.prog.cellsOf 3 = 1 := by kernel_rfl
      obtain ⟨n0, f0, rfl, _⟩ := DataW.trod_int Tryz.underlying3 t0
      obtain ⟨n1, f1, rfl, _⟩ := DataW.trod_int Tryz.underlying3 t1
      obtain ⟨n2, f2, rfl, _⟩ := DataW.trod_int Tryz.underlying3 t2
      have hy1 := congrArg Prod.fst hy
      rw [hD] at hy1
      simp only [spD, DataW.agg.injEq, List.cons.injEq, DataW.lit.injEq, Lit.int.injEq, true_and, and_true] at hy1
      obtain ⟨g0, g1, g2⟩ := hy1
      have k0 := one_of_take (c := .int .i64 n0) (i := 0) (by rw [← c1]; exact f0)
      have k1 := one_of_take (c := .int .i64 n1) (i := 1) (by rw [← c1]; exact f1)
      have k2 := one_of_take (c := .int .i64 n2) (i := 2) (by rw [← c1]; exact f2)
      refine ⟨?_, ?_, ?_⟩
      · have := hc 0 (by omega)
        rw [k0, ← g0] at this
        simpa [Addr.add] using this
      · rw [hc 1 (by omega), k1, ← g1]
      · rw [hc 2 (by omega), k2, ← g2]
    simp only [List.cons.injEq, and_true] at hcs
    subst hcs
    have hpos : 0 < sp.length := List.length_pos_iff.2 hne
    obtain ⟨b, off, spot⟩ := a
    have hspot : spot = none := by
      have := World.cell?_spot (key 0 hpos).1
      simpa [Addr.add] using this
    subst hspot
    refine .inr ⟨b, off, cap, rfl, fun i hi => ?_⟩
    have ⟨h1, h2, h3⟩ := key i hi
    rw [add_off, add_off] at h2 h3
    rw [add_off] at h1
    exact ⟨h1, h2, h3⟩

set_option maxRecDepth 100000 in
theorem sets_of_laid {W : World} (h : laidMetH Tryz.prog [("loop.example/g00748/impl.registry", Rows.laid_loop_example_g00748_impl_registry)] W) : TabSets W := by
  rw [MakeChecks.laidMetH_plain _ _ _ (by kernel_rfl)] at h
  obtain ⟨ps, ⟨g0, t0, cs0, f0, p0, q0, hg0, ht0, hv0, hd0, _, _⟩, _, _⟩ := h
  obtain rfl := Option.some.inj (gReg.symm.trans hg0)
  obtain rfl := Option.some.inj (tReg.symm.trans ht0)
  rw [laid_reg] at hd0
  obtain ⟨xs, m, rfl, hx, _, hlen, hel⟩ := DataW.trod_array Tryz.underlying174 hd0
  have hx1 : regD = xs.map (·.1) := by simpa using congrArg Prod.fst hx
  have c4 : Tryz.prog.cellsOf 95 = 4 := by kernel_rfl
  have c1 : Tryz.prog.cellsOf 3 = 1 := by kernel_rfl
  have c1s : Tryz.prog.cellsOf 9 = 1 := by kernel_rfl
  have c1l : Tryz.prog.cellsOf 93 = 1 := by kernel_rfl
  rw [c4] at hel
  intro k h1 h8
  have hk : k < xs.length := by omega
  have e1 := hel k (by omega)
  rw [List.getElem?_eq_getElem hk] at e1
  have e2 : (xs[k]).1 = setD k := by
    have e3 := regD_at (H := Unit) k h1 h8
    rw [hx1, List.getElem?_map, List.getElem?_eq_getElem hk] at e3
    simpa using e3
  obtain ⟨y0, y1, y2, y3, n, hy, _, t0, t1, t2, t3⟩ := Joins.trod_struct4 Tryz.underlying95 e1
  obtain ⟨s0, f0, rfl, _⟩ := DataW.trod_string Tryz.underlying9 t0
  obtain ⟨n1, f1, rfl, _⟩ := DataW.trod_int Tryz.underlying3 t1
  obtain ⟨n2, f2, rfl, _⟩ := DataW.trod_int Tryz.underlying3 t2
  have hy1 := congrArg Prod.fst hy
  rw [e2] at hy1
  simp only [setD, DataW.agg.injEq, List.cons.injEq, DataW.lit.injEq, Lit.int.injEq, Lit.string.injEq, true_and, and_true] at hy1
  obtain ⟨g0, g1, g2, g3⟩ := hy1
  have hs0 : setName (k : Int) = s0 := ByteArray.ext (Array.toList_inj.1 g0)
  have cell : ∀ j, W.cell? ⟨1, j, none⟩ = cs0[j]? := fun j => by simpa using World.var?_cell gReg hv0 j
  have el : ∀ (j : Nat) (c : Value), j < 4 → ((((cs0.toList.drop (k * 4)).take 4).drop j).take 1) = [c] → W.cell? ⟨1, k * 4 + j, none⟩ = some c := by
    intro j c hj h
    have h2 := one_of_take h
    rw [List.getElem?_take_of_lt hj, List.getElem?_drop, Array.getElem?_toList] at h2
    rw [cell, h2]
  have l3 : ∃ c, ((((cs0.toList.drop (k * 4)).take 4).drop 3).take 1) = [c] := by
    rw [c1l] at t3
    rcases Deep.open_slice Tryz.underlying93 t3 with ⟨h, _⟩ | ⟨a, len, cap, _, _, _, _, h, _⟩
    · exact ⟨_, h⟩
    · exact ⟨_, h⟩
  obtain ⟨c, hc⟩ := l3
  refine ⟨?_, ?_, ?_, c, el 3 c (by decide) hc, ?_⟩
  · rw [hs0]
    exact el 0 _ (by decide) (by rw [← c1s]; exact f0)
  · rw [g1]
    exact el 1 _ (by decide) (by rw [← c1]; exact f1)
  · rw [g2]
    exact el 2 _ (by decide) (by rw [← c1]; exact f2)
  · have t4 : DataW.trod (fun _ : TypeId × Value => ()) Tryz.prog W 0 (fun _ => true) false n 93 [c] = some y3 := by
      rw [← hc, ← c1l]; exact t3
    obtain ⟨y3a, y3b⟩ := y3
    simp only at g3
    rw [← g3] at t4
    exact spans_of (by have := (set_few (k : Int)).1; intro h; rw [h] at this; simp at this) t4

theorem sets_readable : ∀ n ∈ ["loop.example/g00748/impl.registry"], ∀ g t, Tryz.prog.globalNamed n = some g → (Tryz.prog.globals[g]?).map (·.type) = some t → Tryz.prog.readableRec t = true ∧ t < Tryz.prog.types.size := by
  intro n hn g t hg ht
  obtain rfl : n = _ := List.mem_singleton.1 hn
  obtain rfl := Option.some.inj (gReg.symm.trans hg)
  obtain rfl := Option.some.inj (tReg.symm.trans ht)
  exact ⟨by kernel_rfl, of_decide_eq_true (by kernel_rfl)⟩

end Go.Proofs.YtbamjhldebobhaaGreatDoor

namespace Go.Proofs.YtbamjhldebobhaaGreatDoor
open Go.ChangeShapes Go.WideShapes Go.ChangeAt Go.RowKit

set_option maxRecDepth 100000 in
theorem tabM_of_laid {W : World} (h : laidMetH Tryz.prog [("loop.example/g00748/impl.registry", Rows.laid_loop_example_g00748_impl_registry)] W) : TabM W := by
  refine ⟨sets_of_laid h, ?_⟩
  rw [MakeChecks.laidMetH_plain _ _ _ (by kernel_rfl)] at h
  obtain ⟨ps, ⟨g0, t0, cs0, f0, p0, q0, hg0, ht0, hv0, hd0, _, _⟩, _, _⟩ := h
  obtain rfl := Option.some.inj (gReg.symm.trans hg0)
  obtain rfl := Option.some.inj (tReg.symm.trans ht0)
  rw [laid_reg] at hd0
  obtain ⟨xs, m, rfl, hx, _, hlen, hel⟩ := DataW.trod_array Tryz.underlying174 hd0
  have hx1 : regD = xs.map (·.1) := by simpa using congrArg Prod.fst hx
  have c4 : Tryz.prog.cellsOf 95 = 4 := by kernel_rfl
  have c1 : Tryz.prog.cellsOf 3 = 1 := by kernel_rfl
  rw [c4] at hel
  have hk : 0 < xs.length := by omega
  have e1 := hel 0 (by omega)
  rw [List.getElem?_eq_getElem hk] at e1
  have e2 : (xs[0]).1 = .agg [.lit (.string []), .lit (.int .i64 0), .lit (.int .i64 0), .nil] := by
    have e3 : (regD (H := Unit))[0]? = some (.agg [.lit (.string []), .lit (.int .i64 0), .lit (.int .i64 0), .nil]) := rfl
    rw [hx1, List.getElem?_map, List.getElem?_eq_getElem hk] at e3
    simpa using e3
  obtain ⟨y0, y1, y2, y3, n, hy, _, t0, t1, t2, t3⟩ := Joins.trod_struct4 Tryz.underlying95 e1
  obtain ⟨n1, f1, rfl, _⟩ := DataW.trod_int Tryz.underlying3 t1
  have hy1 := congrArg Prod.fst hy
  rw [e2] at hy1
  simp only [DataW.agg.injEq, List.cons.injEq, DataW.lit.injEq, Lit.int.injEq, true_and, and_true] at hy1
  obtain ⟨_, g1, _⟩ := hy1
  have cell : ∀ j, W.cell? ⟨1, j, none⟩ = cs0[j]? := fun j => by simpa using World.var?_cell gReg hv0 j
  have h2 := one_of_take (by rw [← c1]; exact f1)
  rw [List.getElem?_take_of_lt (by decide), List.getElem?_drop, Array.getElem?_toList] at h2
  rw [cell]
  rw [← g1] at h2
  simpa using h2

end Go.Proofs.YtbamjhldebobhaaGreatDoor

namespace Go.Proofs.YtbamjhldebobhaaGreatDoor.fnExactGoodUpTo
open Go.RowKit

set_option maxHeartbeats 1000000 in
theorem walk (n : Int) (s : ByteArray) (w : World) (_hn : (Lit.int .i64 n).wf = true) (hs : s.size ≤ maxLen) (ht : TabM w) : Calls Tryz.prog 6 #[.int .i64 n, .string s] w fun e w' => e = .returned (.bool true) ∧ Below w.heap.size w w' := by
  have HT := Lib.hid ht
  have hs' : s.size ≤ 9223372036854775807 := hs
  clear ht
  by_cases hb : 1048576 < s.size
  · go_enter Tryz.func6, Tryz.ntmps6
    go_wp2
    go_ret
    exact ⟨rfl, Below.refl _ _⟩
  · have hs2 : s.size ≤ 1048576 := by omega
    have HS := Lib.hid (fun w => spec_GoodUpTo n s w)
    have HI := Lib.hid (fun w ht => impl_GoodUpTo n s w ht)
    unfold GoodUpToDone at HS HI
    generalize askC n s = rc at *
    generalize guP n s = rv at *
    go_enter Tryz.func6, Tryz.ntmps6
    go_wp2_with fail
    refine (HS.out _).mono ?_
    rintro e w1 ⟨rfl, b1⟩
    go_wp2_with fail
    refine (HI.out _ (HT.out.keep b1)).mono ?_
    rintro e w2 ⟨rfl, b2⟩
    have B2 : Hid (Below w.heap.size w w2) := Lib.hid (b1.trans (b2.mono b1.size))
    clear b1 b2
    go_wp2
    go_ret
    exact ⟨rfl, B2.out⟩

theorem table {W : World} (h : laidMetH Tryz.prog Rows.fnExactGoodUpToRow.laid W) : TabM W := tabM_of_laid h
theorem readable : ∀ n ∈ Rows.fnExactGoodUpToSpec.vars, ∀ g t, Tryz.prog.globalNamed n = some g → (Tryz.prog.globals[g]?).map (·.type) = some t → Tryz.prog.readableRec t = true ∧ t < Tryz.prog.types.size := sets_readable

end Go.Proofs.YtbamjhldebobhaaGreatDoor.fnExactGoodUpTo

namespace Go.Proofs.YtbamjhldebobhaaGreatDoor.fnExactGoodUpTo
open Go.ChangeShapes Go.WideShapes Go.ChangeAt Go.RowKit
open Go.ChangeMaps (open_string shut_string)
set_option linter.unusedVariables false

set_option maxRecDepth 100000 in
theorem contract (H : Type) (enc : TypeId × Value → H) (W : World) (base : Nat) (args : Array Value) (ds gs : List (DataW H)) (before : List MemPlace)
    (hval : ∀ (j : Nat) t v, Tryz.f6.params[j]? = some t → args[j]? = some v → Value.okWide Tryz.prog W .any base t v)
    (hW : DataW.Whole enc Tryz.prog Tryz.f6.params.toList Rows.fnExactGoodUpToSpec.vars false W args.toList ds gs before) (hL : laidMetH Tryz.prog Rows.fnExactGoodUpToRow.laid W) :
    Calls Tryz.prog 6 args W fun e W' => ∃ v, e = .returned v ∧ Rows.fnExactGoodUpToSpec.post enc Tryz.prog Tryz.f6 false true false false W args v W' := by
  have HT := Lib.hid (table hL)
  clear hL
  have hW' := hW
  obtain ⟨p, q, hA0, hV0, rfl, hfz, hnd⟩ := hW
  have hV : DataW.TrodVars enc Tryz.prog W (fun _ => true) ["loop.example/g00748/impl.registry"] gs q := hV0
  clear hV0
  have hA : DataW.TrodAll enc Tryz.prog W 0 (fun _ => true) true Tryz.f6.params.toList args.toList ds p := hA0
  rw [Tryz.params6] at hA hval
  obtain ⟨v0, vs0, d0, ds0, p0, q0, hargs, rfl, rfl, h0, r0⟩ := trodAll_cons hA
  obtain ⟨v1, vs1, d1, ds1, p1, q1, rfl, rfl, rfl, h1, r1⟩ := trodAll_cons r0
  obtain ⟨rfl, rfl, rfl⟩ := trodAll_nil r1
  obtain rfl : args = #[v0, v1] := by cases args; simp_all
  have hgs : ∃ d, gs = [d] := by obtain ⟨_, _, _, _, d, _, hgs, _⟩ := trodVars_one hV; exact ⟨d, hgs⟩
  obtain ⟨g1, rfl⟩ := hgs
  obtain ⟨a0, rfl, rfl, rfl, w0⟩ := open_int Tryz.underlying3 (hval 0 3 v0 rfl rfl) h0
  obtain ⟨a1, rfl, rfl, rfl, w1⟩ := open_string Tryz.underlying9 (hval 1 9 v1 rfl rfl) h1
  clear hA0
  refine (walk a0 a1 W w0 w1 HT.out).mono fun e W' ⟨he, bel⟩ => ?_
  subst he
  exact ⟨_, rfl, _, _, _, [], [], q, hW', trodAll_mk1 (shut_bool Tryz.underlying4 _), (trodAll_cons_mk (shut_int Tryz.underlying3 w0) (trodAll_cons_mk (shut_string Tryz.underlying9 w1) trodAll_mk0)), trodVars_below laidOut bel readable hV, bel.frame _, fun h => by cases h⟩

theorem laid_met (os : Os) : laidMetH Tryz.prog Rows.fnExactGoodUpToRow.laid ((World.doorLaid Tryz.prog 400 os).forCall (fun _ _ => 0) ⟨#[], #[.int .i64 0, .string ByteArray.empty], []⟩).memory :=
  laidMetH_of_parts3 (fuel := 8) (laidMet_of_run' 8 (by kernel_rfl) (by kernel_rfl)) (by kernel_rfl) (by kernel_rfl)
theorem reads (os : Os) {H : Type} (enc : TypeId × Value → H) : ∃ x, DataW.whole enc Tryz.prog ((World.doorLaid Tryz.prog 400 os).forCall (fun _ _ => 0) ⟨#[], #[.int .i64 0, .string ByteArray.empty], []⟩).memory Tryz.f6.params.toList Rows.fnExactGoodUpToSpec.vars false #[.int .i64 0, .string ByteArray.empty].toList 8 = some x :=
  Option.isSome_iff_exists.1 (by kernel_rfl)

set_option maxRecDepth 100000 in
theorem lifted (os : Os) (started : os.Started) (H : Type) (enc : TypeId × Value → H) (F : Stop.Interp) :
    ReturnsInHanded {} Tryz.checked os 6 .any ((OpenSpec.ofChange Rows.fnExactGoodUpToSpec).preRow enc Tryz.prog Tryz.f6 Rows.fnExactGoodUpToRow.domain false Rows.fnExactGoodUpToRow.laid) (((OpenSpec.ofChange Rows.fnExactGoodUpToSpec).at F).post enc Tryz.prog Tryz.f6 false true false false) := by
  obtain ⟨x, hx⟩ := reads os enc
  refine returnsInHanded_of_row (C := Tryz.checked) (s := OpenSpec.ofChange Rows.fnExactGoodUpToSpec) own started (by kernel_rfl) Tryz.func6
    (witness_row_atRef (enc := enc) (C := Tryz.checked) false (World.doorLaid Tryz.prog 400 os) #[.int .i64 0, .string ByteArray.empty] rfl (by kernel_rfl) (by kernel_rfl) (by kernel_rfl)
      (OpenSpec.preRow_of_cond 8 hx rfl (fun k hk => by cases hk) (by kernel_rfl) (laid_met os))) ?_
  intro W base args ds gs before hval hW _ _ _ hL _ _
  exact contract H enc W base args ds gs before hval hW hL

theorem said : Rows.FnExactGoodUpToSaid :=
  OpenClaim.holds_of_cond 6 Tryz.f6 rfl rfl rfl rfl rfl rfl rfl ⟨rfl, rfl, rfl, rfl, rfl⟩ rfl rfl rfl rfl rfl (by kernel_rfl) Tryz.func6 (by kernel_rfl)
    (of_decide_eq_true (by kernel_rfl)) (by unfold Func.isWrapper; first | (rw [if_pos (by decide +kernel)]; kernel_rfl) | (rw [if_neg (by decide +kernel)]; exact ⟨rfl, rfl⟩))
    (fun os started H enc _ F => by rw [OpenClaim.pre_eq_preRow]; exact lifted os started H enc F)

theorem plain (f : FuncId) (fn : Func) (hf : Tryz.pinned.checked.prog.funcNamed "loop.example/g00748/laws.FnExactGoodUpTo" = some f) (hfn : Tryz.pinned.checked.prog.funcs[f]? = some fn) :
    Rows.fnExactGoodUpToCard.stood.looks = Tryz.pinned.checked.prog.looks [] ∧ ∀ (j : Nat) t, fn.params[j]? = some t → Tryz.pinned.checked.prog.wantsStandIn t = false := by
  obtain rfl : f = 6 := Option.some.inj ((show Tryz.prog.funcNamed "loop.example/g00748/laws.FnExactGoodUpTo" = some 6 by kernel_rfl).symm.trans hf) |>.symm
  obtain rfl : fn = Tryz.f6 := (Option.some.inj (Tryz.func6.symm.trans hfn)).symm
  refine ⟨by kernel_rfl, fun j t ht => ?_⟩
  rw [Tryz.params6] at ht
  have hm := Array.mem_of_getElem? ht
  simp at hm
  rcases hm with rfl | rfl
  · exact (show Tryz.prog.wantsStandIn 3 = false by kernel_rfl)
  · exact (show Tryz.prog.wantsStandIn 9 = false by kernel_rfl)

theorem card : Rows.FnExactGoodUpToCardSaid :=
  Claim7.holds_tied_plain_at .later [] _ _ _ _ said (fun _ h => by cases h) (by kernel_rfl) (fun _ h => by cases h) fnExactGoodUpTo_row_tie rfl ⟨rfl, rfl⟩ (by kernel_rfl) rfl plain (by kernel_rfl)
end Go.Proofs.YtbamjhldebobhaaGreatDoor.fnExactGoodUpTo

namespace Go.Proofs.YtbamjhldebobhaaGreatDoor
theorem fnExactGoodUpTo_holds : Rows.FnExactGoodUpToCardSaid := fnExactGoodUpTo.card
end Go.Proofs.YtbamjhldebobhaaGreatDoor
