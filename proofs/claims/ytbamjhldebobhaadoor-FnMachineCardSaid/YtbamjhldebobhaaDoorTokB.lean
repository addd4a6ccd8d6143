/- The specification's tokens: escape sequences and the token at an offset. -/
import Derived.Test.YtbamjhldebobhaaDoorTokA
namespace Go.Proofs.YtbamjhldebobhaaDoor
open Go.RowKit

/-- A new slot for a token, and a call that leaves it. -/
theorem below_one (w : World) (o : Obj) : Below w.heap.size w (w.alloc o) := (Below.refl _ _).alloc (Nat.le_refl _) _
theorem slot0 (w : World) : TokAt (w.alloc (.cells #[.int .i64 0, .int .i64 0, .int .i64 0, .int .i64 0, .int .i64 0, .int .i64 0] 38)) w.heap.size zeroTok := heap_alloc_new _ _

set_option maxHeartbeats 2000000 in
set_option maxRecDepth 100000 in
theorem spec_l03Escape (s : ByteArray) (k : Nat) (w : World) (hk : k < s.size) (hs : s.size ≤ 1048576) :
    Calls Tryd.prog 76 #[.string s, .int .i64 k] w (TokDone (escTok s k (s.size - k) (k + 1)) w) := by
  have hR := Lib.hid (slot0 w)
  have b0 := below_one w (.cells #[.int .i64 0, .int .i64 0, .int .i64 0, .int .i64 0, .int .i64 0, .int .i64 0] 38)
  have k0 : (0 : Int) ≤ (k : Int) := by omega
  have u1 : IntKind.i64.wrap ((k : Int) + 1) = (k : Int) + 1 := IntWalk.i64_in _ (by omega)
  have u2 : IntKind.i64.wrap ((s.size : Int) - k) = (s.size : Int) - k := IntWalk.i64_in _ (by omega)
  have u3 : IntKind.i64.wrap ((k : Int) + 4) = (k : Int) + 4 := IntWalk.i64_in _ (by omega)
  go_enter Tryd.func76, Tryd.ntmps76
  go_wp2
  generalize w.alloc (.cells #[.int .i64 0, .int .i64 0, .int .i64 0, .int .i64 0, .int .i64 0, .int .i64 0] 38) = w1 at *
  go_loop [5] (fun i => ∃ j f : Nat, k < j ∧ j ≤ s.size ∧ i = .int .i64 j ∧ Hid (j + f = s.size + 1) ∧ Hid (escTok s k (s.size - k) (k + 1) = escTok s k f j)) (fun i => s.size - (intOf i).toNat)
  case atStart => exact ⟨k + 1, s.size - k, by omega, by omega, by simp, Lib.hid (by omega), Lib.hid rfl⟩
  case round =>
    obtain ⟨j, f, hj, hjs, rfl, HF, HR⟩ := hrel
    have ⟨r0, r1, r2, r3, r4, r5⟩ := hR.out.cells
    have ⟨z0, z1, z2, z3, z4, z5⟩ := hR.out.thaw
    simp only [zeroTok] at r0 r1 r2 r3 r4 r5
    have hl1 : w.heap.size < w1.heap.size := hR.out.lt
    by_cases hlt : j < s.size
    · obtain ⟨f, rfl⟩ : ∃ q, f = q + 1 := ⟨f - 1, by have := HF.out; omega⟩
      have hb := byteAt_le s j
      have he := byteAt_eq s j hlt
      have HU : Hid (escTok s k (f + 1) j = if inB (byteAt s j) 32 47 = true then (if j = k + 4 then ⟨9, 0, 0, 0, k, 5⟩ else escTok s k f (j + 1))
        else if inB (byteAt s j) 48 126 = true then plainTok (s.extract (k + 1) j) (byteAt s j) k ((j : Int) + 1 - k) else ⟨9, 0, 0, 0, k, (j : Int) - k⟩) := Lib.hid (by rw [escTok, if_pos hlt])
      rw [he] at hb HU
      clear he
      have v1 : (0 : Int) ≤ (j : Int) := by omega
      have v2 : (j : Int) < (s.size : Int) := by omega
      generalize hbb : (s[j].toNat : Int) = b at *
      clear r0 r1 r2 r3 r4 r5 z0 z1 z2 z3 z4 z5
      go_wp2_with fail
      refine (spec_l01In b 32 47 w1).mono ?_
      rintro e w2 ⟨rfl, rfl⟩
      have ⟨r0, r1, r2, r3, r4, r5⟩ := hR.out.cells
      have ⟨z0, z1, z2, z3, z4, z5⟩ := hR.out.thaw
      simp only [zeroTok] at r0 r1 r2 r3 r4 r5
      cases hm : inB b 32 47
      · cases hf : inB b 48 126
        · have HE : Hid (escTok s k (s.size - k) (k + 1) = ⟨9, 0, 0, 0, k, (j : Int) - k⟩) := Lib.hid (by rw [HR.out, HU.out, hm, hf]; simp)
          have u4 : IntKind.i64.wrap ((j : Int) - k) = (j : Int) - k := IntWalk.i64_in _ (by omega)
          go_wp2_with fail
          refine (spec_l01In b 48 126 w1).mono ?_
          rintro e w2 ⟨rfl, rfl⟩
          rw [hf]
          go_wp2
          exact tok_ret (y := ⟨9, 0, 0, 0, k, (j : Int) - k⟩) HE.out rfl rfl (hR.out.put ⟨9, 0, 0, 0, k, (j : Int) - k⟩) Tryd.underlying38 rfl (by kernel_rfl) rfl (below_put b0 (Nat.le_refl _) ⟨9, 0, 0, 0, k, (j : Int) - k⟩)
        · have HE : Hid (escTok s k (s.size - k) (k + 1) = plainTok (s.extract (k + 1) j) b k ((j : Int) + 1 - k)) := Lib.hid (by rw [HR.out, HU.out, hm, hf]; simp)
          have u4 : IntKind.i64.wrap ((j : Int) + 1) = (j : Int) + 1 := IntWalk.i64_in _ (by omega)
          have u5 : IntKind.i64.wrap ((j : Int) + 1 - k) = (j : Int) + 1 - k := IntWalk.i64_in _ (by omega)
          go_wp2_with fail
          refine (spec_l01In b 48 126 w1).mono ?_
          rintro e w2 ⟨rfl, rfl⟩
          rw [hf]
          clear r0 r1 r2 r3 r4 r5 z0 z1 z2 z3 z4 z5
          go_wp2_with fail
          refine (spec_l03Plain _ b k ((j : Int) + 1 - k) w1 (by omega) (by omega)).mono ?_
          rintro e w3 ⟨rfl, b3⟩
          have hR3 := Lib.hid (hR.out.keep b3)
          have b03 : Below w.heap.size w w3 := b0.trans (b3.mono b0.size)
          have ⟨r0, r1, r2, r3, r4, r5⟩ := hR3.out.cells
          have ⟨z0, z1, z2, z3, z4, z5⟩ := hR3.out.thaw
          simp only [zeroTok] at r0 r1 r2 r3 r4 r5
          have hl3 : w.heap.size < w3.heap.size := hR3.out.lt
          generalize plainTok (s.extract (k + 1) j) b k ((j : Int) + 1 - k) = y at *
          unfold tokV
          go_wp2
          exact tok_ret (y := y) HE.out rfl rfl (hR3.out.put y) Tryd.underlying38 rfl (by kernel_rfl) rfl (below_put b03 (Nat.le_refl _) y)
      · by_cases h4 : j = k + 4
        · have HE : Hid (escTok s k (s.size - k) (k + 1) = ⟨9, 0, 0, 0, k, 5⟩) := Lib.hid (by rw [HR.out, HU.out, hm, if_pos rfl, if_pos h4])
          have h4' : ((j : Int) == (k : Int) + 4) = true := by simp; omega
          clear h4
          go_wp2
          exact tok_ret (y := ⟨9, 0, 0, 0, k, 5⟩) HE.out rfl rfl (hR.out.put ⟨9, 0, 0, 0, k, 5⟩) Tryd.underlying38 rfl (by kernel_rfl) rfl (below_put b0 (Nat.le_refl _) ⟨9, 0, 0, 0, k, 5⟩)
        · have HE : Hid (escTok s k (s.size - k) (k + 1) = escTok s k f (j + 1)) := Lib.hid (by rw [HR.out, HU.out, hm, if_pos rfl, if_neg h4])
          have h4' : ((j : Int) == (k : Int) + 4) = false := by simp; omega
          clear h4 r0 r1 r2 r3 r4 r5 z0 z1 z2 z3 z4 z5
          go_wp2
          go_round
          case rel => exact ⟨j + 1, f, by omega, by omega, by go_num, Lib.hid (by have := HF.out; omega), HE⟩
          case measure => simp [intOf]; omega
    · have HE : Hid (escTok s k (s.size - k) (k + 1) = ⟨8, 0, 0, 0, k, (s.size : Int) - k⟩) := Lib.hid (by
        rw [HR.out]
        cases f with
        | zero => rfl
        | succ f => rw [escTok, if_neg hlt])
      go_wp2
      exact tok_ret (y := ⟨8, 0, 0, 0, k, (s.size : Int) - k⟩) HE.out rfl rfl (hR.out.put ⟨8, 0, 0, 0, k, (s.size : Int) - k⟩) Tryd.underlying38 rfl (by kernel_rfl) rfl (below_put b0 (Nat.le_refl _) ⟨8, 0, 0, 0, k, (s.size : Int) - k⟩)

set_option maxHeartbeats 4000000 in
set_option maxRecDepth 100000 in
theorem spec_l03Next (s : ByteArray) (k : Nat) (w : World) (hk : k < s.size) (hs : s.size ≤ 1048576) : Calls Tryd.prog 59 #[.string s, .int .i64 k] w (TokDone (nextTok s k) w) := by
  have hb := byteAt_le s k
  have he := byteAt_eq s k hk
  have k0 : (0 : Int) ≤ (k : Int) := by omega
  have k1 : (k : Int) < (s.size : Int) := by omega
  by_cases c1 : byteAt s k = 27
  · have HE : Hid (nextTok s k = escTok s k (s.size - k) (k + 1)) := Lib.hid (by rw [nextTok, if_pos c1])
    have hb2 : (s[k].toNat : Int) = 27 := by omega
    have hR0 : TokAt ((w.alloc (.cells #[.int .i64 0, .int .i64 0, .int .i64 0, .int .i64 0, .int .i64 0, .int .i64 0] 38)).alloc (.cells #[.int .i64 0, .int .i64 0, .int .i64 0, .int .i64 0, .int .i64 k, .int .i64 1] 38)) w.heap.size zeroTok := heap_alloc2_old _ _ _
    have b0 := below_two w (.cells #[.int .i64 0, .int .i64 0, .int .i64 0, .int .i64 0, .int .i64 0, .int .i64 0] 38) (.cells #[.int .i64 0, .int .i64 0, .int .i64 0, .int .i64 0, .int .i64 k, .int .i64 1] 38)
    clear he c1 hb
    go_enter Tryd.func59, Tryd.ntmps59
    go_wp2_with fail
    refine (spec_l03Escape s k _ hk hs).mono ?_
    rintro e w3 ⟨rfl, b3⟩
    have hR3 := Lib.hid (hR0.keep b3)
    have b03 : Below w.heap.size w w3 := b0.trans (b3.mono b0.size)
    have ⟨r0, r1, r2, r3, r4, r5⟩ := hR3.out.cells
    have ⟨z0, z1, z2, z3, z4, z5⟩ := hR3.out.thaw
    simp only [zeroTok] at r0 r1 r2 r3 r4 r5
    have hl3 : w.heap.size < w3.heap.size := hR3.out.lt
    generalize escTok s k (s.size - k) (k + 1) = y at *
    clear hR0 b0 b3
    unfold tokV
    go_wp2
    exact tok_ret (y := y) HE.out rfl rfl (hR3.out.put y) Tryd.underlying38 rfl (by kernel_rfl) rfl (below_put b03 (Nat.le_refl _) y)
  · have e1 : ((s[k].toNat : Int) == 27) = false := by simp; omega
    by_cases c2 : byteAt s k = 14 ∨ byteAt s k = 15
    · have HE : Hid (nextTok s k = ⟨5, 15 - byteAt s k, 0, 0, k, 1⟩) := Lib.hid (by rw [nextTok, if_neg c1, if_pos c2])
      rw [he] at HE c2
      clear he c1 hb
      rcases c2 with h14 | h14
      all_goals
        rw [h14] at HE
        go_enter Tryd.func59, Tryd.ntmps59
        go_wp2
        exact tok_ret HE.out rfl rfl (heap_alloc2_old _ _ _) Tryd.underlying38 rfl (by kernel_rfl) rfl (below_two _ _ _)
    have e2 : ((s[k].toNat : Int) == 14) = false := by simp; omega
    have e3 : ((s[k].toNat : Int) == 15) = false := by simp; omega
    by_cases c3 : byteAt s k = 142 ∨ byteAt s k = 143
    · have HE : Hid (nextTok s k = ⟨6, byteAt s k - 140, 0, 0, k, 1⟩) := Lib.hid (by rw [nextTok, if_neg c1, if_neg c2, if_pos c3])
      rw [he] at HE c3
      clear he c1 c2 hb
      rcases c3 with h14 | h14
      all_goals
        rw [h14] at HE
        go_enter Tryd.func59, Tryd.ntmps59
        go_wp2
        exact tok_ret HE.out rfl rfl (heap_alloc2_old _ _ _) Tryd.underlying38 rfl (by kernel_rfl) rfl (below_two _ _ _)
    have e4 : ((s[k].toNat : Int) == 142) = false := by simp; omega
    have e5 : ((s[k].toNat : Int) == 143) = false := by simp; omega
    by_cases c4 : byteAt s k = 32
    · have HE : Hid (nextTok s k = ⟨2, 0, 0, 0, k, 1⟩) := Lib.hid (by rw [nextTok, if_neg c1, if_neg c2, if_neg c3, if_pos c4])
      have h32 : (s[k].toNat : Int) = 32 := by omega
      clear he c1 c2 c3 c4 hb
      go_enter Tryd.func59, Tryd.ntmps59
      go_wp2
      exact tok_ret HE.out rfl rfl (heap_alloc2_old _ _ _) Tryd.underlying38 rfl (by kernel_rfl) rfl (below_two _ _ _)
    have e6 : ((s[k].toNat : Int) == 32) = false := by simp; omega
    cases c5 : inB (byteAt s k) 33 126
    · by_cases c6 : 160 ≤ byteAt s k
      · have HE : Hid (nextTok s k = ⟨4, byteAt s k - 128, 0, 0, k, 1⟩) := Lib.hid (by rw [nextTok, if_neg c1, if_neg c2, if_neg c3, if_neg c4, if_neg (by rw [c5]; decide), if_pos c6])
        rw [he] at HE c5 c6 hb
        have u1 : IntKind.i64.wrap ((s[k].toNat : Int) - 128) = (s[k].toNat : Int) - 128 := IntWalk.i64_in _ (by omega)
        clear he c1 c2 c3 c4
        go_enter Tryd.func59, Tryd.ntmps59
        go_wp2_with fail
        refine (spec_l01In (s[k].toNat : Int) 33 126 _).mono ?_
        rintro e w2 ⟨rfl, rfl⟩
        rw [c5]
        go_wp2
        exact tok_ret HE.out rfl rfl (heap_alloc2_old _ _ _) Tryd.underlying38 rfl (by kernel_rfl) rfl (below_two _ _ _)
      · have HE : Hid (nextTok s k = ⟨1, byteAt s k, 0, 0, k, 1⟩) := Lib.hid (by rw [nextTok, if_neg c1, if_neg c2, if_neg c3, if_neg c4, if_neg (by rw [c5]; decide), if_neg c6])
        rw [he] at HE c5 c6 hb
        have c7 : (s[k].toNat : Int) < 160 := by omega
        clear he c1 c2 c3 c4 c6
        go_enter Tryd.func59, Tryd.ntmps59
        go_wp2_with fail
        refine (spec_l01In (s[k].toNat : Int) 33 126 _).mono ?_
        rintro e w2 ⟨rfl, rfl⟩
        rw [c5]
        go_wp2
        exact tok_ret HE.out rfl rfl (heap_alloc2_old _ _ _) Tryd.underlying38 rfl (by kernel_rfl) rfl (below_two _ _ _)
    · have HE : Hid (nextTok s k = ⟨3, byteAt s k, 0, 0, k, 1⟩) := Lib.hid (by rw [nextTok, if_neg c1, if_neg c2, if_neg c3, if_neg c4, if_pos c5])
      rw [he] at HE c5 hb
      clear he c1 c2 c3 c4
      go_enter Tryd.func59, Tryd.ntmps59
      go_wp2_with fail
      refine (spec_l01In (s[k].toNat : Int) 33 126 _).mono ?_
      rintro e w2 ⟨rfl, rfl⟩
      rw [c5]
      go_wp2
      exact tok_ret HE.out rfl rfl (heap_alloc2_old _ _ _) Tryd.underlying38 rfl (by kernel_rfl) rfl (below_two _ _ _)

end Go.Proofs.YtbamjhldebobhaaDoor
