/- The specification's step of a token. -/
import Derived.Test.YtbamjhldebobhaaDoorStF
import Derived.Test.YtbamjhldebobhaaDoorTokG
namespace Go.Proofs.YtbamjhldebobhaaDoor
open Go.RowKit Go.Sort

theorem StAt.drew {w : World} {g : Nat} {x : St} (h : StAt w g x) : StAt w.drew g x := h

theorem step_blocks (w : World) (x : St) (t : Tok) : StAt (((w.alloc (.cells #[.int .i64 x.g0, .int .i64 x.g1, .int .i64 x.g2, .int .i64 x.g3, .int .i64 x.l, .int .i64 x.s, .int .i64 x.d] 24)).alloc (.cells #[.int .i64 t.k, .int .i64 t.a, .int .i64 t.b, .int .i64 t.c, .int .i64 t.p, .int .i64 t.n] 38)).alloc (.cells #[.int .i64 0, .int .i64 0, .int .i64 0, .int .i64 0, .int .i64 0, .int .i64 0, .int .i64 0] 24)) w.heap.size x ∧ TokAt (((w.alloc (.cells #[.int .i64 x.g0, .int .i64 x.g1, .int .i64 x.g2, .int .i64 x.g3, .int .i64 x.l, .int .i64 x.s, .int .i64 x.d] 24)).alloc (.cells #[.int .i64 t.k, .int .i64 t.a, .int .i64 t.b, .int .i64 t.c, .int .i64 t.p, .int .i64 t.n] 38)).alloc (.cells #[.int .i64 0, .int .i64 0, .int .i64 0, .int .i64 0, .int .i64 0, .int .i64 0, .int .i64 0] 24)) (w.heap.size + 1) t ∧ StAt (((w.alloc (.cells #[.int .i64 x.g0, .int .i64 x.g1, .int .i64 x.g2, .int .i64 x.g3, .int .i64 x.l, .int .i64 x.s, .int .i64 x.d] 24)).alloc (.cells #[.int .i64 t.k, .int .i64 t.a, .int .i64 t.b, .int .i64 t.c, .int .i64 t.p, .int .i64 t.n] 38)).alloc (.cells #[.int .i64 0, .int .i64 0, .int .i64 0, .int .i64 0, .int .i64 0, .int .i64 0, .int .i64 0] 24)) (w.heap.size + 2) zeroSt ∧ Below w.heap.size w (((w.alloc (.cells #[.int .i64 x.g0, .int .i64 x.g1, .int .i64 x.g2, .int .i64 x.g3, .int .i64 x.l, .int .i64 x.s, .int .i64 x.d] 24)).alloc (.cells #[.int .i64 t.k, .int .i64 t.a, .int .i64 t.b, .int .i64 t.c, .int .i64 t.p, .int .i64 t.n] 38)).alloc (.cells #[.int .i64 0, .int .i64 0, .int .i64 0, .int .i64 0, .int .i64 0, .int .i64 0, .int .i64 0] 24)) := by
  refine ⟨?_, ?_, ?_, below_three _ _ _ _⟩
  · exact ((below_one _ _).block _ (by simp; omega)).trans (heap_alloc2_old _ _ _)
  · exact ((below_one _ _).block _ (by simp)).trans (heap_alloc2_new _ _ _)
  · have := heap_alloc_new ((w.alloc (.cells #[.int .i64 x.g0, .int .i64 x.g1, .int .i64 x.g2, .int .i64 x.g3, .int .i64 x.l, .int .i64 x.s, .int .i64 x.d] 24)).alloc (.cells #[.int .i64 t.k, .int .i64 t.a, .int .i64 t.b, .int .i64 t.c, .int .i64 t.p, .int .i64 t.n] 38)) (.cells #[.int .i64 0, .int .i64 0, .int .i64 0, .int .i64 0, .int .i64 0, .int .i64 0, .int .i64 0] 24)
    simpa [StAt, zeroSt] using this

set_option maxHeartbeats 1000000 in
set_option maxRecDepth 100000 in
theorem spec_step3 (x : St) (a b c p n : Int) (w : World) (hx : stOKB x = true) (a0 : 0 ≤ a) (a1 : a ≤ 255) : Calls Tryd.prog 34 #[stV x, tokV ⟨3, a, b, c, p, n⟩] w (StpDone (stepT x ⟨3, a, b, c, p, n⟩) w) := by
  have ⟨h1, h2, h3⟩ := stOK_parts hx
  have ⟨d0, d1⟩ := lead_range h3
  have HG := Lib.hid (fun w => spec_l04Graphic x a false w h2 d0 d1 a0 a1)
  have HE : Hid (stepT x ⟨3, a, b, c, p, n⟩ = graphic x a false) := Lib.hid rfl
  clear hx h1 h2 h3 d0 d1 a0 a1
  generalize graphic x a false = g at *
  unfold StpDone stpV at HG
  unfold stV at HG ⊢
  have ⟨hB0, hT0, hS0, b0⟩ := step_blocks w x ⟨3, a, b, c, p, n⟩
  dsimp only at hB0 hT0 hS0 b0
  have HB0 := Lib.hid hB0
  have HT0 := Lib.hid hT0
  have HS0 := Lib.hid hS0
  have B0 := Lib.hid b0
  clear hB0 hT0 hS0 b0
  unfold tokV
  go_enter Tryd.func34, Tryd.ntmps34
  go_wp2_with fail
  refine (HG.out _).mono ?_
  generalize (((w.alloc (.cells #[.int .i64 x.g0, .int .i64 x.g1, .int .i64 x.g2, .int .i64 x.g3, .int .i64 x.l, .int .i64 x.s, .int .i64 x.d] 24)).alloc (.cells #[.int .i64 3, .int .i64 a, .int .i64 b, .int .i64 c, .int .i64 p, .int .i64 n] 38)).alloc (.cells #[.int .i64 0, .int .i64 0, .int .i64 0, .int .i64 0, .int .i64 0, .int .i64 0, .int .i64 0] 24)) = W0 at *
  rintro e W1 ⟨rfl, b1⟩
  have B1 : Hid (Below w.heap.size w W1) := Lib.hid (B0.out.trans (b1.mono B0.out.size))
  have HB1 := Lib.hid (HB0.out.keep b1)
  have HT1 := Lib.hid (HT0.out.keep b1)
  have HS1 := Lib.hid (HS0.out.keep b1)
  clear b1 HB0 HT0 HS0 B0
  have ⟨r0, r1, r2, r3, r4, r5, r6⟩ := HS1.out.cells
  have ⟨z0, z1, z2, z3, z4, z5, z6⟩ := HS1.out.thaw
  simp only [zeroSt] at r0 r1 r2 r3 r4 r5 r6
  have hl : w.heap.size + 2 < W1.heap.size := HS1.out.lt
  go_wp2
  exact st_ret3 (y := g.y) rfl rfl rfl rfl (HS1.out.put g.y) Tryd.underlying24 rfl (by kernel_rfl) rfl ⟨by rw [HE.out], below_putSt B1.out (by omega) g.y⟩

set_option maxHeartbeats 1000000 in
set_option maxRecDepth 100000 in
theorem spec_step4 (x : St) (a b c p n : Int) (w : World) (hx : stOKB x = true) (a0 : 0 ≤ a) (a1 : a ≤ 255) : Calls Tryd.prog 34 #[stV x, tokV ⟨4, a, b, c, p, n⟩] w (StpDone (stepT x ⟨4, a, b, c, p, n⟩) w) := by
  have ⟨h1, h2, h3⟩ := stOK_parts hx
  have ⟨d0, d1⟩ := lead_range h3
  have HG := Lib.hid (fun w => spec_l04Graphic x a true w h2 d0 d1 a0 a1)
  have HE : Hid (stepT x ⟨4, a, b, c, p, n⟩ = graphic x a true) := Lib.hid rfl
  clear hx h1 h2 h3 d0 d1 a0 a1
  generalize graphic x a true = g at *
  unfold StpDone stpV at HG
  unfold stV at HG ⊢
  have ⟨hB0, hT0, hS0, b0⟩ := step_blocks w x ⟨4, a, b, c, p, n⟩
  dsimp only at hB0 hT0 hS0 b0
  have HB0 := Lib.hid hB0
  have HT0 := Lib.hid hT0
  have HS0 := Lib.hid hS0
  have B0 := Lib.hid b0
  clear hB0 hT0 hS0 b0
  unfold tokV
  go_enter Tryd.func34, Tryd.ntmps34
  go_wp2_with fail
  refine (HG.out _).mono ?_
  generalize (((w.alloc (.cells #[.int .i64 x.g0, .int .i64 x.g1, .int .i64 x.g2, .int .i64 x.g3, .int .i64 x.l, .int .i64 x.s, .int .i64 x.d] 24)).alloc (.cells #[.int .i64 4, .int .i64 a, .int .i64 b, .int .i64 c, .int .i64 p, .int .i64 n] 38)).alloc (.cells #[.int .i64 0, .int .i64 0, .int .i64 0, .int .i64 0, .int .i64 0, .int .i64 0, .int .i64 0] 24)) = W0 at *
  rintro e W1 ⟨rfl, b1⟩
  have B1 : Hid (Below w.heap.size w W1) := Lib.hid (B0.out.trans (b1.mono B0.out.size))
  have HB1 := Lib.hid (HB0.out.keep b1)
  have HT1 := Lib.hid (HT0.out.keep b1)
  have HS1 := Lib.hid (HS0.out.keep b1)
  clear b1 HB0 HT0 HS0 B0
  have ⟨r0, r1, r2, r3, r4, r5, r6⟩ := HS1.out.cells
  have ⟨z0, z1, z2, z3, z4, z5, z6⟩ := HS1.out.thaw
  simp only [zeroSt] at r0 r1 r2 r3 r4 r5 r6
  have hl : w.heap.size + 2 < W1.heap.size := HS1.out.lt
  go_wp2
  exact st_ret3 (y := g.y) rfl rfl rfl rfl (HS1.out.put g.y) Tryd.underlying24 rfl (by kernel_rfl) rfl ⟨by rw [HE.out], below_putSt B1.out (by omega) g.y⟩

set_option maxHeartbeats 1000000 in
set_option maxRecDepth 100000 in
theorem spec_stepP (x : St) (k a b c p n : Int) (w : World) (hp : pendB x = true) (h2 : k ≠ 2) (h3 : k ≠ 3) (h4 : k ≠ 4) : Calls Tryd.prog 34 #[stV x, tokV ⟨k, a, b, c, p, n⟩] w (StpDone (stepT x ⟨k, a, b, c, p, n⟩) w) := by
  have HE : Hid (stepT x ⟨k, a, b, c, p, n⟩ = ⟨x, -1, 13⟩) := Lib.hid (by rw [stepT, if_neg h3, if_neg h4, if_pos hp, if_neg (fun h => h2 h.1)])
  have HP := Lib.hid (fun w => spec_l04Pending x w)
  rw [hp] at HP
  have e2 : (k == 2) = false := by rw [beq_eq_false_iff_ne]; exact h2
  have e3 : (k == 3) = false := by rw [beq_eq_false_iff_ne]; exact h3
  have e4 : (k == 4) = false := by rw [beq_eq_false_iff_ne]; exact h4
  clear hp h2 h3 h4
  unfold stV at HP ⊢
  have ⟨hB0, hT0, hS0, b0⟩ := step_blocks w x ⟨k, a, b, c, p, n⟩
  dsimp only at hB0 hT0 hS0 b0
  have HB0 := Lib.hid hB0
  have HT0 := Lib.hid hT0
  have HS0 := Lib.hid hS0
  have B0 := Lib.hid b0
  clear hB0 hT0 hS0 b0
  unfold tokV
  go_enter Tryd.func34, Tryd.ntmps34
  go_wp2_with fail
  refine (HP.out _).mono ?_
  generalize (((w.alloc (.cells #[.int .i64 x.g0, .int .i64 x.g1, .int .i64 x.g2, .int .i64 x.g3, .int .i64 x.l, .int .i64 x.s, .int .i64 x.d] 24)).alloc (.cells #[.int .i64 k, .int .i64 a, .int .i64 b, .int .i64 c, .int .i64 p, .int .i64 n] 38)).alloc (.cells #[.int .i64 0, .int .i64 0, .int .i64 0, .int .i64 0, .int .i64 0, .int .i64 0, .int .i64 0] 24)) = W0 at *
  rintro e W1 ⟨rfl, b1⟩
  have B1 : Hid (Below w.heap.size w W1) := Lib.hid (B0.out.trans (b1.mono B0.out.size))
  have HB1 := Lib.hid (HB0.out.keep b1)
  have HT1 := Lib.hid (HT0.out.keep b1)
  have HS1 := Lib.hid (HS0.out.keep b1)
  clear b1 HB0 HT0 HS0 B0
  have ⟨y0, y1, y2, y3, y4, y5, y6⟩ := HB1.out.cells
  have ⟨t0, t1, t2, t3, t4, t5⟩ := HT1.out.cells
  dsimp only at t0 t1 t2 t3 t4 t5
  have ⟨r0, r1, r2, r3, r4, r5, r6⟩ := HS1.out.cells
  have ⟨z0, z1, z2, z3, z4, z5, z6⟩ := HS1.out.thaw
  simp only [zeroSt] at r0 r1 r2 r3 r4 r5 r6
  have hl : w.heap.size + 2 < W1.heap.size := HS1.out.lt
  go_wp2
  exact st_ret3 (y := x) rfl rfl rfl rfl (HS1.out.put x) Tryd.underlying24 rfl (by kernel_rfl) rfl ⟨by rw [HE.out], below_putSt B1.out (by omega) x⟩

set_option maxHeartbeats 1000000 in
set_option maxRecDepth 100000 in
theorem spec_stepP2 (x : St) (a b c p n : Int) (w : World) (hx : stOKB x = true) (hp : pendB x = true) : Calls Tryd.prog 34 #[stV x, tokV ⟨2, a, b, c, p, n⟩] w (StpDone (stepT x ⟨2, a, b, c, p, n⟩) w) := by
  have ⟨h1, h2, h3⟩ := stOK_parts hx
  have ⟨d0, d1⟩ := lead_range h3
  have HP := Lib.hid (fun w => spec_l04Pending x w)
  rw [hp] at HP
  have HG := Lib.hid (fun w => spec_l04Graphic x 32 false w h2 d0 d1 (by decide) (by decide))
  by_cases hd : x.d = 0
  · have hs : x.s = 2 ∨ x.s = 3 := by
      have := (head_parts h2).2
      have hp' : 0 < x.s ∨ 0 < x.d := by simpa [pendB] using hp
      omega
    have HW := Lib.hid (fun w => spec_l04Wide x x.s w (by omega) (by omega))
    have ed : (x.d == 0) = true := by simpa using hd
    cases hw : wideB x x.s
    · have HE : Hid (stepT x ⟨2, a, b, c, p, n⟩ = ⟨x, -1, 13⟩) := Lib.hid (by rw [stepT, if_neg (by simp), if_neg (by simp), if_pos hp, if_neg (fun h => by rw [hw] at h; exact absurd h.2.2 (by decide))])
      rw [hw] at HW
      clear hx hp h1 h2 h3 d0 d1 hs HG hd hw
      unfold stV at HP HW ⊢
      have ⟨hB0, hT0, hS0, b0⟩ := step_blocks w x ⟨2, a, b, c, p, n⟩
      dsimp only at hB0 hT0 hS0 b0
      have HB0 := Lib.hid hB0
      have HT0 := Lib.hid hT0
      have HS0 := Lib.hid hS0
      have B0 := Lib.hid b0
      clear hB0 hT0 hS0 b0
      unfold tokV
      go_enter Tryd.func34, Tryd.ntmps34
      go_wp2_with fail
      refine (HP.out _).mono ?_
      generalize (((w.alloc (.cells #[.int .i64 x.g0, .int .i64 x.g1, .int .i64 x.g2, .int .i64 x.g3, .int .i64 x.l, .int .i64 x.s, .int .i64 x.d] 24)).alloc (.cells #[.int .i64 2, .int .i64 a, .int .i64 b, .int .i64 c, .int .i64 p, .int .i64 n] 38)).alloc (.cells #[.int .i64 0, .int .i64 0, .int .i64 0, .int .i64 0, .int .i64 0, .int .i64 0, .int .i64 0] 24)) = W0 at *
      rintro e W1 ⟨rfl, b1⟩
      have B1 : Hid (Below w.heap.size w W1) := Lib.hid (B0.out.trans (b1.mono B0.out.size))
      have HB1 := Lib.hid (HB0.out.keep b1)
      have HT1 := Lib.hid (HT0.out.keep b1)
      have HS1 := Lib.hid (HS0.out.keep b1)
      clear b1 HB0 HT0 HS0 B0
      have ⟨y0, y1, y2, y3, y4, y5, y6⟩ := HB1.out.cells
      have ⟨t0, t1, t2, t3, t4, t5⟩ := HT1.out.cells
      dsimp only at t0 t1 t2 t3 t4 t5
      go_wp2_with fail
      refine (HW.out _).mono ?_
      clear y0 y1 y2 y3 y4 y5 y6 t0 t1 t2 t3 t4 t5
      rintro e W2 ⟨rfl, b2⟩
      have B2 : Hid (Below w.heap.size w W2) := Lib.hid (B1.out.trans (b2.mono B1.out.size))
      have HB2 := Lib.hid (HB1.out.keep b2)
      have HT2 := Lib.hid (HT1.out.keep b2)
      have HS2 := Lib.hid (HS1.out.keep b2)
      clear b2 HB1 HT1 HS1 B1
      have ⟨y0, y1, y2, y3, y4, y5, y6⟩ := HB2.out.cells
      have ⟨t0, t1, t2, t3, t4, t5⟩ := HT2.out.cells
      dsimp only at t0 t1 t2 t3 t4 t5
      have ⟨r0, r1, r2, r3, r4, r5, r6⟩ := HS2.out.cells
      have ⟨z0, z1, z2, z3, z4, z5, z6⟩ := HS2.out.thaw
      simp only [zeroSt] at r0 r1 r2 r3 r4 r5 r6
      have hl : w.heap.size + 2 < W2.heap.size := HS2.out.lt
      go_wp2
      exact st_ret3 (y := x) rfl rfl rfl rfl (HS2.out.put x) Tryd.underlying24 rfl (by kernel_rfl) rfl ⟨by rw [HE.out], below_putSt B2.out (by omega) x⟩
    · have HE : Hid (stepT x ⟨2, a, b, c, p, n⟩ = graphic x 32 false) := Lib.hid (by rw [stepT, if_neg (by simp), if_neg (by simp), if_pos hp, if_pos ⟨rfl, hd, hw⟩])
      rw [hw] at HW
      clear hx hp h1 h2 h3 d0 d1 hs hd hw
      generalize graphic x 32 false = g at *
      unfold StpDone stpV at HG
      unfold stV at HP HW HG ⊢
      have ⟨hB0, hT0, hS0, b0⟩ := step_blocks w x ⟨2, a, b, c, p, n⟩
      dsimp only at hB0 hT0 hS0 b0
      have HB0 := Lib.hid hB0
      have HT0 := Lib.hid hT0
      have HS0 := Lib.hid hS0
      have B0 := Lib.hid b0
      clear hB0 hT0 hS0 b0
      unfold tokV
      go_enter Tryd.func34, Tryd.ntmps34
      go_wp2_with fail
      refine (HP.out _).mono ?_
      generalize (((w.alloc (.cells #[.int .i64 x.g0, .int .i64 x.g1, .int .i64 x.g2, .int .i64 x.g3, .int .i64 x.l, .int .i64 x.s, .int .i64 x.d] 24)).alloc (.cells #[.int .i64 2, .int .i64 a, .int .i64 b, .int .i64 c, .int .i64 p, .int .i64 n] 38)).alloc (.cells #[.int .i64 0, .int .i64 0, .int .i64 0, .int .i64 0, .int .i64 0, .int .i64 0, .int .i64 0] 24)) = W0 at *
      rintro e W1 ⟨rfl, b1⟩
      have B1 : Hid (Below w.heap.size w W1) := Lib.hid (B0.out.trans (b1.mono B0.out.size))
      have HB1 := Lib.hid (HB0.out.keep b1)
      have HT1 := Lib.hid (HT0.out.keep b1)
      have HS1 := Lib.hid (HS0.out.keep b1)
      clear b1 HB0 HT0 HS0 B0
      have ⟨y0, y1, y2, y3, y4, y5, y6⟩ := HB1.out.cells
      have ⟨t0, t1, t2, t3, t4, t5⟩ := HT1.out.cells
      dsimp only at t0 t1 t2 t3 t4 t5
      go_wp2_with fail
      refine (HW.out _).mono ?_
      clear y0 y1 y2 y3 y4 y5 y6 t0 t1 t2 t3 t4 t5
      rintro e W2 ⟨rfl, b2⟩
      have B2 : Hid (Below w.heap.size w W2) := Lib.hid (B1.out.trans (b2.mono B1.out.size))
      have HB2 := Lib.hid (HB1.out.keep b2)
      have HT2 := Lib.hid (HT1.out.keep b2)
      have HS2 := Lib.hid (HS1.out.keep b2)
      clear b2 HB1 HT1 HS1 B1
      have ⟨y0, y1, y2, y3, y4, y5, y6⟩ := HB2.out.cells
      have ⟨t0, t1, t2, t3, t4, t5⟩ := HT2.out.cells
      dsimp only at t0 t1 t2 t3 t4 t5
      go_wp2_with fail
      refine (HG.out _).mono ?_
      clear y0 y1 y2 y3 y4 y5 y6 t0 t1 t2 t3 t4 t5
      rintro e W3 ⟨rfl, b3⟩
      have B3 : Hid (Below w.heap.size w W3) := Lib.hid (B2.out.trans (b3.mono B2.out.size))
      have HB3 := Lib.hid (HB2.out.keep b3)
      have HT3 := Lib.hid (HT2.out.keep b3)
      have HS3 := Lib.hid (HS2.out.keep b3)
      clear b3 HB2 HT2 HS2 B2
      have ⟨r0, r1, r2, r3, r4, r5, r6⟩ := HS3.out.cells
      have ⟨z0, z1, z2, z3, z4, z5, z6⟩ := HS3.out.thaw
      simp only [zeroSt] at r0 r1 r2 r3 r4 r5 r6
      have hl : w.heap.size + 2 < W3.heap.size := HS3.out.lt
      go_wp2
      exact st_ret3 (y := g.y) rfl rfl rfl rfl (HS3.out.put g.y) Tryd.underlying24 rfl (by kernel_rfl) rfl ⟨by rw [HE.out], below_putSt B3.out (by omega) g.y⟩
  · have ed : (x.d == 0) = false := by rw [beq_eq_false_iff_ne]; exact hd
    have HE : Hid (stepT x ⟨2, a, b, c, p, n⟩ = ⟨x, -1, 13⟩) := Lib.hid (by rw [stepT, if_neg (by simp), if_neg (by simp), if_pos hp, if_neg (fun h => hd h.2.1)])
    clear hx hp h1 h2 h3 d0 d1 HG hd
    unfold stV at HP ⊢
    have ⟨hB0, hT0, hS0, b0⟩ := step_blocks w x ⟨2, a, b, c, p, n⟩
    dsimp only at hB0 hT0 hS0 b0
    have HB0 := Lib.hid hB0
    have HT0 := Lib.hid hT0
    have HS0 := Lib.hid hS0
    have B0 := Lib.hid b0
    clear hB0 hT0 hS0 b0
    unfold tokV
    go_enter Tryd.func34, Tryd.ntmps34
    go_wp2_with fail
    refine (HP.out _).mono ?_
    generalize (((w.alloc (.cells #[.int .i64 x.g0, .int .i64 x.g1, .int .i64 x.g2, .int .i64 x.g3, .int .i64 x.l, .int .i64 x.s, .int .i64 x.d] 24)).alloc (.cells #[.int .i64 2, .int .i64 a, .int .i64 b, .int .i64 c, .int .i64 p, .int .i64 n] 38)).alloc (.cells #[.int .i64 0, .int .i64 0, .int .i64 0, .int .i64 0, .int .i64 0, .int .i64 0, .int .i64 0] 24)) = W0 at *
    rintro e W1 ⟨rfl, b1⟩
    have B1 : Hid (Below w.heap.size w W1) := Lib.hid (B0.out.trans (b1.mono B0.out.size))
    have HB1 := Lib.hid (HB0.out.keep b1)
    have HT1 := Lib.hid (HT0.out.keep b1)
    have HS1 := Lib.hid (HS0.out.keep b1)
    clear b1 HB0 HT0 HS0 B0
    have ⟨y0, y1, y2, y3, y4, y5, y6⟩ := HB1.out.cells
    have ⟨t0, t1, t2, t3, t4, t5⟩ := HT1.out.cells
    dsimp only at t0 t1 t2 t3 t4 t5
    have ⟨r0, r1, r2, r3, r4, r5, r6⟩ := HS1.out.cells
    have ⟨z0, z1, z2, z3, z4, z5, z6⟩ := HS1.out.thaw
    simp only [zeroSt] at r0 r1 r2 r3 r4 r5 r6
    have hl : w.heap.size + 2 < W1.heap.size := HS1.out.lt
    go_wp2
    exact st_ret3 (y := x) rfl rfl rfl rfl (HS1.out.put x) Tryd.underlying24 rfl (by kernel_rfl) rfl ⟨by rw [HE.out], below_putSt B1.out (by omega) x⟩

set_option maxHeartbeats 1000000 in
set_option maxRecDepth 100000 in
theorem spec_step1 (x : St) (a b c p n : Int) (w : World) (hp : pendB x = false) : Calls Tryd.prog 34 #[stV x, tokV ⟨1, a, b, c, p, n⟩] w (StpDone (stepT x ⟨1, a, b, c, p, n⟩) w) := by
  have HP := Lib.hid (fun w => spec_l04Pending x w)
  rw [hp] at HP
  by_cases ha : 127 < a
  · have HE : Hid (stepT x ⟨1, a, b, c, p, n⟩ = ⟨x, -1, 10⟩) := Lib.hid (by rw [stepT, if_neg (by simp), if_neg (by simp), if_neg (by rw [hp]; decide), calm, if_pos rfl, if_pos ha])
    clear hp
    unfold stV at HP ⊢
    have ⟨hB0, hT0, hS0, b0⟩ := step_blocks w x ⟨1, a, b, c, p, n⟩
    dsimp only at hB0 hT0 hS0 b0
    have HB0 := Lib.hid hB0
    have HT0 := Lib.hid hT0
    have HS0 := Lib.hid hS0
    have B0 := Lib.hid b0
    clear hB0 hT0 hS0 b0
    unfold tokV
    go_enter Tryd.func34, Tryd.ntmps34
    go_wp2_with fail
    refine (HP.out _).mono ?_
    generalize (((w.alloc (.cells #[.int .i64 x.g0, .int .i64 x.g1, .int .i64 x.g2, .int .i64 x.g3, .int .i64 x.l, .int .i64 x.s, .int .i64 x.d] 24)).alloc (.cells #[.int .i64 1, .int .i64 a, .int .i64 b, .int .i64 c, .int .i64 p, .int .i64 n] 38)).alloc (.cells #[.int .i64 0, .int .i64 0, .int .i64 0, .int .i64 0, .int .i64 0, .int .i64 0, .int .i64 0] 24)) = W0 at *
    rintro e W1 ⟨rfl, b1⟩
    have B1 : Hid (Below w.heap.size w W1) := Lib.hid (B0.out.trans (b1.mono B0.out.size))
    have HB1 := Lib.hid (HB0.out.keep b1)
    have HT1 := Lib.hid (HT0.out.keep b1)
    have HS1 := Lib.hid (HS0.out.keep b1)
    clear b1 HB0 HT0 HS0 B0
    have ⟨y0, y1, y2, y3, y4, y5, y6⟩ := HB1.out.cells
    have ⟨t0, t1, t2, t3, t4, t5⟩ := HT1.out.cells
    dsimp only at t0 t1 t2 t3 t4 t5
    have ⟨r0, r1, r2, r3, r4, r5, r6⟩ := HS1.out.cells
    have ⟨z0, z1, z2, z3, z4, z5, z6⟩ := HS1.out.thaw
    simp only [zeroSt] at r0 r1 r2 r3 r4 r5 r6
    have hl : w.heap.size + 2 < W1.heap.size := HS1.out.lt
    go_wp2
    exact st_ret3 (y := x) rfl rfl rfl rfl (HS1.out.put x) Tryd.underlying24 rfl (by kernel_rfl) rfl ⟨by rw [HE.out], below_putSt B1.out (by omega) x⟩
  · have HE : Hid (stepT x ⟨1, a, b, c, p, n⟩ = ⟨x, a, 0⟩) := Lib.hid (by rw [stepT, if_neg (by simp), if_neg (by simp), if_neg (by rw [hp]; decide), calm, if_pos rfl, if_neg ha])
    clear hp
    unfold stV at HP ⊢
    have ⟨hB0, hT0, hS0, b0⟩ := step_blocks w x ⟨1, a, b, c, p, n⟩
    dsimp only at hB0 hT0 hS0 b0
    have HB0 := Lib.hid hB0
    have HT0 := Lib.hid hT0
    have HS0 := Lib.hid hS0
    have B0 := Lib.hid b0
    clear hB0 hT0 hS0 b0
    unfold tokV
    go_enter Tryd.func34, Tryd.ntmps34
    go_wp2_with fail
    refine (HP.out _).mono ?_
    generalize (((w.alloc (.cells #[.int .i64 x.g0, .int .i64 x.g1, .int .i64 x.g2, .int .i64 x.g3, .int .i64 x.l, .int .i64 x.s, .int .i64 x.d] 24)).alloc (.cells #[.int .i64 1, .int .i64 a, .int .i64 b, .int .i64 c, .int .i64 p, .int .i64 n] 38)).alloc (.cells #[.int .i64 0, .int .i64 0, .int .i64 0, .int .i64 0, .int .i64 0, .int .i64 0, .int .i64 0] 24)) = W0 at *
    rintro e W1 ⟨rfl, b1⟩
    have B1 : Hid (Below w.heap.size w W1) := Lib.hid (B0.out.trans (b1.mono B0.out.size))
    have HB1 := Lib.hid (HB0.out.keep b1)
    have HT1 := Lib.hid (HT0.out.keep b1)
    have HS1 := Lib.hid (HS0.out.keep b1)
    clear b1 HB0 HT0 HS0 B0
    have ⟨y0, y1, y2, y3, y4, y5, y6⟩ := HB1.out.cells
    have ⟨t0, t1, t2, t3, t4, t5⟩ := HT1.out.cells
    dsimp only at t0 t1 t2 t3 t4 t5
    have ⟨r0, r1, r2, r3, r4, r5, r6⟩ := HS1.out.cells
    have ⟨z0, z1, z2, z3, z4, z5, z6⟩ := HS1.out.thaw
    simp only [zeroSt] at r0 r1 r2 r3 r4 r5 r6
    have hl : w.heap.size + 2 < W1.heap.size := HS1.out.lt
    go_wp2
    go_region
    all_goals go_wp2
    all_goals exact st_ret3 (y := x) rfl rfl rfl rfl (HS1.out.put x).drew Tryd.underlying24 rfl (by kernel_rfl) rfl ⟨by rw [HE.out], below_drewN (below_putSt B1.out (by omega) x) 1⟩

set_option maxHeartbeats 1000000 in
set_option maxRecDepth 100000 in
theorem spec_step2 (x : St) (a b c p n : Int) (w : World) (hx : stOKB x = true) (hp : pendB x = false) : Calls Tryd.prog 34 #[stV x, tokV ⟨2, a, b, c, p, n⟩] w (StpDone (stepT x ⟨2, a, b, c, p, n⟩) w) := by
  have ⟨h1, h2, h3⟩ := stOK_parts hx
  have ⟨d0, d1⟩ := lead_range h3
  have hl := (head_parts h2).1
  have HP := Lib.hid (fun w => spec_l04Pending x w)
  rw [hp] at HP
  have HG := Lib.hid (fun w => spec_l04Graphic x 32 false w h2 d0 d1 (by decide) (by decide))
  have HW := Lib.hid (fun w => spec_l04Wide x x.l w hl.1 hl.2)
  cases hw : wideB x x.l
  · have HE : Hid (stepT x ⟨2, a, b, c, p, n⟩ = ⟨x, 32, 0⟩) := Lib.hid (by rw [stepT, if_neg (by simp), if_neg (by simp), if_neg (by rw [hp]; decide), calm, if_neg (by simp), if_pos rfl, if_neg (by rw [hw]; decide)])
    rw [hw] at HW
    clear hx hp h1 h2 h3 d0 d1 HG hw hl
    unfold stV at HP HW ⊢
    have ⟨hB0, hT0, hS0, b0⟩ := step_blocks w x ⟨2, a, b, c, p, n⟩
    dsimp only at hB0 hT0 hS0 b0
    have HB0 := Lib.hid hB0
    have HT0 := Lib.hid hT0
    have HS0 := Lib.hid hS0
    have B0 := Lib.hid b0
    clear hB0 hT0 hS0 b0
    unfold tokV
    go_enter Tryd.func34, Tryd.ntmps34
    go_wp2_with fail
    refine (HP.out _).mono ?_
    generalize (((w.alloc (.cells #[.int .i64 x.g0, .int .i64 x.g1, .int .i64 x.g2, .int .i64 x.g3, .int .i64 x.l, .int .i64 x.s, .int .i64 x.d] 24)).alloc (.cells #[.int .i64 2, .int .i64 a, .int .i64 b, .int .i64 c, .int .i64 p, .int .i64 n] 38)).alloc (.cells #[.int .i64 0, .int .i64 0, .int .i64 0, .int .i64 0, .int .i64 0, .int .i64 0, .int .i64 0] 24)) = W0 at *
    rintro e W1 ⟨rfl, b1⟩
    have B1 : Hid (Below w.heap.size w W1) := Lib.hid (B0.out.trans (b1.mono B0.out.size))
    have HB1 := Lib.hid (HB0.out.keep b1)
    have HT1 := Lib.hid (HT0.out.keep b1)
    have HS1 := Lib.hid (HS0.out.keep b1)
    clear b1 HB0 HT0 HS0 B0
    have ⟨y0, y1, y2, y3, y4, y5, y6⟩ := HB1.out.cells
    have ⟨t0, t1, t2, t3, t4, t5⟩ := HT1.out.cells
    dsimp only at t0 t1 t2 t3 t4 t5
    go_wp2_with fail
    refine (HW.out _).mono ?_
    clear y0 y1 y2 y3 y4 y5 y6 t0 t1 t2 t3 t4 t5
    rintro e W2 ⟨rfl, b2⟩
    have B2 : Hid (Below w.heap.size w W2) := Lib.hid (B1.out.trans (b2.mono B1.out.size))
    have HB2 := Lib.hid (HB1.out.keep b2)
    have HT2 := Lib.hid (HT1.out.keep b2)
    have HS2 := Lib.hid (HS1.out.keep b2)
    clear b2 HB1 HT1 HS1 B1
    have ⟨y0, y1, y2, y3, y4, y5, y6⟩ := HB2.out.cells
    have ⟨t0, t1, t2, t3, t4, t5⟩ := HT2.out.cells
    dsimp only at t0 t1 t2 t3 t4 t5
    have ⟨r0, r1, r2, r3, r4, r5, r6⟩ := HS2.out.cells
    have ⟨z0, z1, z2, z3, z4, z5, z6⟩ := HS2.out.thaw
    simp only [zeroSt] at r0 r1 r2 r3 r4 r5 r6
    have hl : w.heap.size + 2 < W2.heap.size := HS2.out.lt
    go_wp2
    exact st_ret3 (y := x) rfl rfl rfl rfl (HS2.out.put x) Tryd.underlying24 rfl (by kernel_rfl) rfl ⟨by rw [HE.out], below_putSt B2.out (by omega) x⟩
  · have HE : Hid (stepT x ⟨2, a, b, c, p, n⟩ = graphic x 32 false) := Lib.hid (by rw [stepT, if_neg (by simp), if_neg (by simp), if_neg (by rw [hp]; decide), calm, if_neg (by simp), if_pos rfl, if_pos hw])
    rw [hw] at HW
    clear hx hp h1 h2 h3 d0 d1 hw hl
    generalize graphic x 32 false = g at *
    unfold StpDone stpV at HG
    unfold stV at HP HW HG ⊢
    have ⟨hB0, hT0, hS0, b0⟩ := step_blocks w x ⟨2, a, b, c, p, n⟩
    dsimp only at hB0 hT0 hS0 b0
    have HB0 := Lib.hid hB0
    have HT0 := Lib.hid hT0
    have HS0 := Lib.hid hS0
    have B0 := Lib.hid b0
    clear hB0 hT0 hS0 b0
    unfold tokV
    go_enter Tryd.func34, Tryd.ntmps34
    go_wp2_with fail
    refine (HP.out _).mono ?_
    generalize (((w.alloc (.cells #[.int .i64 x.g0, .int .i64 x.g1, .int .i64 x.g2, .int .i64 x.g3, .int .i64 x.l, .int .i64 x.s, .int .i64 x.d] 24)).alloc (.cells #[.int .i64 2, .int .i64 a, .int .i64 b, .int .i64 c, .int .i64 p, .int .i64 n] 38)).alloc (.cells #[.int .i64 0, .int .i64 0, .int .i64 0, .int .i64 0, .int .i64 0, .int .i64 0, .int .i64 0] 24)) = W0 at *
    rintro e W1 ⟨rfl, b1⟩
    have B1 : Hid (Below w.heap.size w W1) := Lib.hid (B0.out.trans (b1.mono B0.out.size))
    have HB1 := Lib.hid (HB0.out.keep b1)
    have HT1 := Lib.hid (HT0.out.keep b1)
    have HS1 := Lib.hid (HS0.out.keep b1)
    clear b1 HB0 HT0 HS0 B0
    have ⟨y0, y1, y2, y3, y4, y5, y6⟩ := HB1.out.cells
    have ⟨t0, t1, t2, t3, t4, t5⟩ := HT1.out.cells
    dsimp only at t0 t1 t2 t3 t4 t5
    go_wp2_with fail
    refine (HW.out _).mono ?_
    clear y0 y1 y2 y3 y4 y5 y6 t0 t1 t2 t3 t4 t5
    rintro e W2 ⟨rfl, b2⟩
    have B2 : Hid (Below w.heap.size w W2) := Lib.hid (B1.out.trans (b2.mono B1.out.size))
    have HB2 := Lib.hid (HB1.out.keep b2)
    have HT2 := Lib.hid (HT1.out.keep b2)
    have HS2 := Lib.hid (HS1.out.keep b2)
    clear b2 HB1 HT1 HS1 B1
    have ⟨y0, y1, y2, y3, y4, y5, y6⟩ := HB2.out.cells
    have ⟨t0, t1, t2, t3, t4, t5⟩ := HT2.out.cells
    dsimp only at t0 t1 t2 t3 t4 t5
    go_wp2_with fail
    refine (HG.out _).mono ?_
    clear y0 y1 y2 y3 y4 y5 y6 t0 t1 t2 t3 t4 t5
    rintro e W3 ⟨rfl, b3⟩
    have B3 : Hid (Below w.heap.size w W3) := Lib.hid (B2.out.trans (b3.mono B2.out.size))
    have HB3 := Lib.hid (HB2.out.keep b3)
    have HT3 := Lib.hid (HT2.out.keep b3)
    have HS3 := Lib.hid (HS2.out.keep b3)
    clear b3 HB2 HT2 HS2 B2
    have ⟨r0, r1, r2, r3, r4, r5, r6⟩ := HS3.out.cells
    have ⟨z0, z1, z2, z3, z4, z5, z6⟩ := HS3.out.thaw
    simp only [zeroSt] at r0 r1 r2 r3 r4 r5 r6
    have hl : w.heap.size + 2 < W3.heap.size := HS3.out.lt
    go_wp2
    exact st_ret3 (y := g.y) rfl rfl rfl rfl (HS3.out.put g.y) Tryd.underlying24 rfl (by kernel_rfl) rfl ⟨by rw [HE.out], below_putSt B3.out (by omega) g.y⟩

set_option maxHeartbeats 1000000 in
set_option maxRecDepth 100000 in
theorem spec_step5 (x : St) (a b c p n : Int) (w : World) (hp : pendB x = false) : Calls Tryd.prog 34 #[stV x, tokV ⟨5, a, b, c, p, n⟩] w (StpDone (stepT x ⟨5, a, b, c, p, n⟩) w) := by
  have HE : Hid (stepT x ⟨5, a, b, c, p, n⟩ = ⟨⟨x.g0, x.g1, x.g2, x.g3, a, x.s, x.d⟩, -1, 0⟩) := Lib.hid (by rw [stepT, if_neg (by simp), if_neg (by simp), if_neg (by rw [hp]; decide), calm, if_neg (by simp), if_neg (by simp), if_pos rfl])
  have HP := Lib.hid (fun w => spec_l04Pending x w)
  rw [hp] at HP
  clear hp
  unfold stV at HP ⊢
  have ⟨hB0, hT0, hS0, b0⟩ := step_blocks w x ⟨5, a, b, c, p, n⟩
  dsimp only at hB0 hT0 hS0 b0
  have HB0 := Lib.hid hB0
  have HT0 := Lib.hid hT0
  have HS0 := Lib.hid hS0
  have B0 := Lib.hid b0
  clear hB0 hT0 hS0 b0
  unfold tokV
  go_enter Tryd.func34, Tryd.ntmps34
  go_wp2_with fail
  refine (HP.out _).mono ?_
  generalize (((w.alloc (.cells #[.int .i64 x.g0, .int .i64 x.g1, .int .i64 x.g2, .int .i64 x.g3, .int .i64 x.l, .int .i64 x.s, .int .i64 x.d] 24)).alloc (.cells #[.int .i64 5, .int .i64 a, .int .i64 b, .int .i64 c, .int .i64 p, .int .i64 n] 38)).alloc (.cells #[.int .i64 0, .int .i64 0, .int .i64 0, .int .i64 0, .int .i64 0, .int .i64 0, .int .i64 0] 24)) = W0 at *
  rintro e W1 ⟨rfl, b1⟩
  have B1 : Hid (Below w.heap.size w W1) := Lib.hid (B0.out.trans (b1.mono B0.out.size))
  have HB1 := Lib.hid (HB0.out.keep b1)
  have HT1 := Lib.hid (HT0.out.keep b1)
  have HS1 := Lib.hid (HS0.out.keep b1)
  clear b1 HB0 HT0 HS0 B0
  have ⟨y0, y1, y2, y3, y4, y5, y6⟩ := HB1.out.cells
  have ⟨t0, t1, t2, t3, t4, t5⟩ := HT1.out.cells
  dsimp only at t0 t1 t2 t3 t4 t5
  have ⟨q0, q1, q2, q3, q4, q5, q6⟩ := HB1.out.thaw
  have hl6 : w.heap.size < W1.heap.size := HB1.out.lt
  have HS3 : Hid (StAt (W1.setCell ⟨w.heap.size, 4, none⟩ (.int .i64 a)) (w.heap.size + 2) zeroSt) := Lib.hid (by
    unfold StAt
    rw [Below.heap_setCell _ _ _ _ (by simp)]
    exact HS1.out)
  have B3 : Hid (Below w.heap.size w (W1.setCell ⟨w.heap.size, 4, none⟩ (.int .i64 a))) := Lib.hid (B1.out.setCell (Nat.le_refl _) _)
  have ⟨r0, r1, r2, r3, r4, r5, r6⟩ := HS1.out.cells
  have ⟨z0, z1, z2, z3, z4, z5, z6⟩ := HS1.out.thaw
  simp only [zeroSt] at r0 r1 r2 r3 r4 r5 r6
  have hl : w.heap.size + 2 < W1.heap.size := HS1.out.lt
  go_wp2
  exact st_ret3 (y := ⟨x.g0, x.g1, x.g2, x.g3, a, x.s, x.d⟩) rfl rfl rfl rfl (HS3.out.put ⟨x.g0, x.g1, x.g2, x.g3, a, x.s, x.d⟩) Tryd.underlying24 rfl (by kernel_rfl) rfl ⟨by rw [HE.out], below_putSt B3.out (by omega) ⟨x.g0, x.g1, x.g2, x.g3, a, x.s, x.d⟩⟩

set_option maxHeartbeats 1000000 in
set_option maxRecDepth 100000 in
theorem spec_step6 (x : St) (a b c p n : Int) (w : World) (hp : pendB x = false) : Calls Tryd.prog 34 #[stV x, tokV ⟨6, a, b, c, p, n⟩] w (StpDone (stepT x ⟨6, a, b, c, p, n⟩) w) := by
  have HE : Hid (stepT x ⟨6, a, b, c, p, n⟩ = ⟨⟨x.g0, x.g1, x.g2, x.g3, x.l, a, x.d⟩, -1, 0⟩) := Lib.hid (by rw [stepT, if_neg (by simp), if_neg (by simp), if_neg (by rw [hp]; decide), calm, if_neg (by simp), if_neg (by simp), if_neg (by simp), if_pos rfl])
  have HP := Lib.hid (fun w => spec_l04Pending x w)
  rw [hp] at HP
  clear hp
  unfold stV at HP ⊢
  have ⟨hB0, hT0, hS0, b0⟩ := step_blocks w x ⟨6, a, b, c, p, n⟩
  dsimp only at hB0 hT0 hS0 b0
  have HB0 := Lib.hid hB0
  have HT0 := Lib.hid hT0
  have HS0 := Lib.hid hS0
  have B0 := Lib.hid b0
  clear hB0 hT0 hS0 b0
  unfold tokV
  go_enter Tryd.func34, Tryd.ntmps34
  go_wp2_with fail
  refine (HP.out _).mono ?_
  generalize (((w.alloc (.cells #[.int .i64 x.g0, .int .i64 x.g1, .int .i64 x.g2, .int .i64 x.g3, .int .i64 x.l, .int .i64 x.s, .int .i64 x.d] 24)).alloc (.cells #[.int .i64 6, .int .i64 a, .int .i64 b, .int .i64 c, .int .i64 p, .int .i64 n] 38)).alloc (.cells #[.int .i64 0, .int .i64 0, .int .i64 0, .int .i64 0, .int .i64 0, .int .i64 0, .int .i64 0] 24)) = W0 at *
  rintro e W1 ⟨rfl, b1⟩
  have B1 : Hid (Below w.heap.size w W1) := Lib.hid (B0.out.trans (b1.mono B0.out.size))
  have HB1 := Lib.hid (HB0.out.keep b1)
  have HT1 := Lib.hid (HT0.out.keep b1)
  have HS1 := Lib.hid (HS0.out.keep b1)
  clear b1 HB0 HT0 HS0 B0
  have ⟨y0, y1, y2, y3, y4, y5, y6⟩ := HB1.out.cells
  have ⟨t0, t1, t2, t3, t4, t5⟩ := HT1.out.cells
  dsimp only at t0 t1 t2 t3 t4 t5
  have ⟨q0, q1, q2, q3, q4, q5, q6⟩ := HB1.out.thaw
  have hl6 : w.heap.size < W1.heap.size := HB1.out.lt
  have HS3 : Hid (StAt (W1.setCell ⟨w.heap.size, 5, none⟩ (.int .i64 a)) (w.heap.size + 2) zeroSt) := Lib.hid (by
    unfold StAt
    rw [Below.heap_setCell _ _ _ _ (by simp)]
    exact HS1.out)
  have B3 : Hid (Below w.heap.size w (W1.setCell ⟨w.heap.size, 5, none⟩ (.int .i64 a))) := Lib.hid (B1.out.setCell (Nat.le_refl _) _)
  have ⟨r0, r1, r2, r3, r4, r5, r6⟩ := HS1.out.cells
  have ⟨z0, z1, z2, z3, z4, z5, z6⟩ := HS1.out.thaw
  simp only [zeroSt] at r0 r1 r2 r3 r4 r5 r6
  have hl : w.heap.size + 2 < W1.heap.size := HS1.out.lt
  go_wp2
  exact st_ret3 (y := ⟨x.g0, x.g1, x.g2, x.g3, x.l, a, x.d⟩) rfl rfl rfl rfl (HS3.out.put ⟨x.g0, x.g1, x.g2, x.g3, x.l, a, x.d⟩) Tryd.underlying24 rfl (by kernel_rfl) rfl ⟨by rw [HE.out], below_putSt B3.out (by omega) ⟨x.g0, x.g1, x.g2, x.g3, x.l, a, x.d⟩⟩

set_option maxHeartbeats 1000000 in
set_option maxRecDepth 100000 in
theorem spec_step7 (x : St) (a b c p n : Int) (w : World) (hp : pendB x = false) (a0 : 0 ≤ a) (a3 : a ≤ 3) : Calls Tryd.prog 34 #[stV x, tokV ⟨7, a, b, c, p, n⟩] w (StpDone (stepT x ⟨7, a, b, c, p, n⟩) w) := by
  have HP := Lib.hid (fun w => spec_l04Pending x w)
  rw [hp] at HP
  have HF := Lib.hid (fun w => spec_l02Find b c w)
  by_cases hf : findNo b c = 0
  · have HE : Hid (stepT x ⟨7, a, b, c, p, n⟩ = ⟨x, -1, 10⟩) := Lib.hid (by rw [stepT, if_neg (by simp), if_neg (by simp), if_neg (by rw [hp]; decide), calm, if_neg (by simp), if_neg (by simp), if_neg (by simp), if_neg (by simp), if_pos rfl, if_pos hf])
    rw [hf] at HF
    clear hp a0 a3 hf
    unfold stV at HP ⊢
    have ⟨hB0, hT0, hS0, b0⟩ := step_blocks w x ⟨7, a, b, c, p, n⟩
    dsimp only at hB0 hT0 hS0 b0
    have HB0 := Lib.hid hB0
    have HT0 := Lib.hid hT0
    have HS0 := Lib.hid hS0
    have B0 := Lib.hid b0
    clear hB0 hT0 hS0 b0
    unfold tokV
    go_enter Tryd.func34, Tryd.ntmps34
    go_wp2_with fail
    refine (HP.out _).mono ?_
    generalize (((w.alloc (.cells #[.int .i64 x.g0, .int .i64 x.g1, .int .i64 x.g2, .int .i64 x.g3, .int .i64 x.l, .int .i64 x.s, .int .i64 x.d] 24)).alloc (.cells #[.int .i64 7, .int .i64 a, .int .i64 b, .int .i64 c, .int .i64 p, .int .i64 n] 38)).alloc (.cells #[.int .i64 0, .int .i64 0, .int .i64 0, .int .i64 0, .int .i64 0, .int .i64 0, .int .i64 0] 24)) = W0 at *
    rintro e W1 ⟨rfl, b1⟩
    have B1 : Hid (Below w.heap.size w W1) := Lib.hid (B0.out.trans (b1.mono B0.out.size))
    have HB1 := Lib.hid (HB0.out.keep b1)
    have HT1 := Lib.hid (HT0.out.keep b1)
    have HS1 := Lib.hid (HS0.out.keep b1)
    clear b1 HB0 HT0 HS0 B0
    have ⟨y0, y1, y2, y3, y4, y5, y6⟩ := HB1.out.cells
    have ⟨t0, t1, t2, t3, t4, t5⟩ := HT1.out.cells
    dsimp only at t0 t1 t2 t3 t4 t5
    go_wp2_with fail
    refine (HF.out _).mono ?_
    clear y0 y1 y2 y3 y4 y5 y6 t0 t1 t2 t3 t4 t5
    rintro e W2 ⟨rfl, b2⟩
    have B2 : Hid (Below w.heap.size w W2) := Lib.hid (B1.out.trans (b2.mono B1.out.size))
    have HB2 := Lib.hid (HB1.out.keep b2)
    have HT2 := Lib.hid (HT1.out.keep b2)
    have HS2 := Lib.hid (HS1.out.keep b2)
    clear b2 HB1 HT1 HS1 B1
    have ⟨y0, y1, y2, y3, y4, y5, y6⟩ := HB2.out.cells
    have ⟨t0, t1, t2, t3, t4, t5⟩ := HT2.out.cells
    dsimp only at t0 t1 t2 t3 t4 t5
    have ⟨r0, r1, r2, r3, r4, r5, r6⟩ := HS2.out.cells
    have ⟨z0, z1, z2, z3, z4, z5, z6⟩ := HS2.out.thaw
    simp only [zeroSt] at r0 r1 r2 r3 r4 r5 r6
    have hl : w.heap.size + 2 < W2.heap.size := HS2.out.lt
    go_wp2
    exact st_ret3 (y := x) rfl rfl rfl rfl (HS2.out.put x) Tryd.underlying24 rfl (by kernel_rfl) rfl ⟨by rw [HE.out], below_putSt B2.out (by omega) x⟩
  · have HE : Hid (stepT x ⟨7, a, b, c, p, n⟩ = ⟨stPut x a (findNo b c), -1, 0⟩) := Lib.hid (by rw [stepT, if_neg (by simp), if_neg (by simp), if_neg (by rw [hp]; decide), calm, if_neg (by simp), if_neg (by simp), if_neg (by simp), if_neg (by simp), if_pos rfl, if_neg hf])
    have HU := Lib.hid (fun w => spec_l04Put x a (findNo b c) w a0 a3)
    have ef : (findNo b c == 0) = false := by rw [beq_eq_false_iff_ne]; exact hf
    clear hp a0 a3 hf
    generalize stPut x a (findNo b c) = y at *
    generalize findNo b c = f at *
    unfold StDone at HU
    unfold stV at HP HU ⊢
    have ⟨hB0, hT0, hS0, b0⟩ := step_blocks w x ⟨7, a, b, c, p, n⟩
    dsimp only at hB0 hT0 hS0 b0
    have HB0 := Lib.hid hB0
    have HT0 := Lib.hid hT0
    have HS0 := Lib.hid hS0
    have B0 := Lib.hid b0
    clear hB0 hT0 hS0 b0
    unfold tokV
    go_enter Tryd.func34, Tryd.ntmps34
    go_wp2_with fail
    refine (HP.out _).mono ?_
    generalize (((w.alloc (.cells #[.int .i64 x.g0, .int .i64 x.g1, .int .i64 x.g2, .int .i64 x.g3, .int .i64 x.l, .int .i64 x.s, .int .i64 x.d] 24)).alloc (.cells #[.int .i64 7, .int .i64 a, .int .i64 b, .int .i64 c, .int .i64 p, .int .i64 n] 38)).alloc (.cells #[.int .i64 0, .int .i64 0, .int .i64 0, .int .i64 0, .int .i64 0, .int .i64 0, .int .i64 0] 24)) = W0 at *
    rintro e W1 ⟨rfl, b1⟩
    have B1 : Hid (Below w.heap.size w W1) := Lib.hid (B0.out.trans (b1.mono B0.out.size))
    have HB1 := Lib.hid (HB0.out.keep b1)
    have HT1 := Lib.hid (HT0.out.keep b1)
    have HS1 := Lib.hid (HS0.out.keep b1)
    clear b1 HB0 HT0 HS0 B0
    have ⟨y0, y1, y2, y3, y4, y5, y6⟩ := HB1.out.cells
    have ⟨t0, t1, t2, t3, t4, t5⟩ := HT1.out.cells
    dsimp only at t0 t1 t2 t3 t4 t5
    go_wp2_with fail
    refine (HF.out _).mono ?_
    clear y0 y1 y2 y3 y4 y5 y6 t0 t1 t2 t3 t4 t5
    rintro e W2 ⟨rfl, b2⟩
    have B2 : Hid (Below w.heap.size w W2) := Lib.hid (B1.out.trans (b2.mono B1.out.size))
    have HB2 := Lib.hid (HB1.out.keep b2)
    have HT2 := Lib.hid (HT1.out.keep b2)
    have HS2 := Lib.hid (HS1.out.keep b2)
    clear b2 HB1 HT1 HS1 B1
    have ⟨y0, y1, y2, y3, y4, y5, y6⟩ := HB2.out.cells
    have ⟨t0, t1, t2, t3, t4, t5⟩ := HT2.out.cells
    dsimp only at t0 t1 t2 t3 t4 t5
    go_wp2_with fail
    refine (HU.out _).mono ?_
    clear y0 y1 y2 y3 y4 y5 y6 t0 t1 t2 t3 t4 t5
    rintro e W3 ⟨rfl, b3⟩
    have B3 : Hid (Below w.heap.size w W3) := Lib.hid (B2.out.trans (b3.mono B2.out.size))
    have HB3 := Lib.hid (HB2.out.keep b3)
    have HT3 := Lib.hid (HT2.out.keep b3)
    have HS3 := Lib.hid (HS2.out.keep b3)
    clear b3 HB2 HT2 HS2 B2
    have ⟨r0, r1, r2, r3, r4, r5, r6⟩ := HS3.out.cells
    have ⟨z0, z1, z2, z3, z4, z5, z6⟩ := HS3.out.thaw
    simp only [zeroSt] at r0 r1 r2 r3 r4 r5 r6
    have hl : w.heap.size + 2 < W3.heap.size := HS3.out.lt
    go_wp2
    exact st_ret3 (y := y) rfl rfl rfl rfl (HS3.out.put y) Tryd.underlying24 rfl (by kernel_rfl) rfl ⟨by rw [HE.out], below_putSt B3.out (by omega) y⟩

set_option maxHeartbeats 1000000 in
set_option maxRecDepth 100000 in
theorem spec_step8 (x : St) (a b c p n : Int) (w : World) (hp : pendB x = false) : Calls Tryd.prog 34 #[stV x, tokV ⟨8, a, b, c, p, n⟩] w (StpDone (stepT x ⟨8, a, b, c, p, n⟩) w) := by
  have HE : Hid (stepT x ⟨8, a, b, c, p, n⟩ = ⟨x, -1, 13⟩) := Lib.hid (by rw [stepT, if_neg (by simp), if_neg (by simp), if_neg (by rw [hp]; decide), calm, if_neg (by simp), if_neg (by simp), if_neg (by simp), if_neg (by simp), if_neg (by simp), if_pos rfl])
  have HP := Lib.hid (fun w => spec_l04Pending x w)
  rw [hp] at HP
  clear hp
  unfold stV at HP ⊢
  have ⟨hB0, hT0, hS0, b0⟩ := step_blocks w x ⟨8, a, b, c, p, n⟩
  dsimp only at hB0 hT0 hS0 b0
  have HB0 := Lib.hid hB0
  have HT0 := Lib.hid hT0
  have HS0 := Lib.hid hS0
  have B0 := Lib.hid b0
  clear hB0 hT0 hS0 b0
  unfold tokV
  go_enter Tryd.func34, Tryd.ntmps34
  go_wp2_with fail
  refine (HP.out _).mono ?_
  generalize (((w.alloc (.cells #[.int .i64 x.g0, .int .i64 x.g1, .int .i64 x.g2, .int .i64 x.g3, .int .i64 x.l, .int .i64 x.s, .int .i64 x.d] 24)).alloc (.cells #[.int .i64 8, .int .i64 a, .int .i64 b, .int .i64 c, .int .i64 p, .int .i64 n] 38)).alloc (.cells #[.int .i64 0, .int .i64 0, .int .i64 0, .int .i64 0, .int .i64 0, .int .i64 0, .int .i64 0] 24)) = W0 at *
  rintro e W1 ⟨rfl, b1⟩
  have B1 : Hid (Below w.heap.size w W1) := Lib.hid (B0.out.trans (b1.mono B0.out.size))
  have HB1 := Lib.hid (HB0.out.keep b1)
  have HT1 := Lib.hid (HT0.out.keep b1)
  have HS1 := Lib.hid (HS0.out.keep b1)
  clear b1 HB0 HT0 HS0 B0
  have ⟨y0, y1, y2, y3, y4, y5, y6⟩ := HB1.out.cells
  have ⟨t0, t1, t2, t3, t4, t5⟩ := HT1.out.cells
  dsimp only at t0 t1 t2 t3 t4 t5
  have ⟨r0, r1, r2, r3, r4, r5, r6⟩ := HS1.out.cells
  have ⟨z0, z1, z2, z3, z4, z5, z6⟩ := HS1.out.thaw
  simp only [zeroSt] at r0 r1 r2 r3 r4 r5 r6
  have hl : w.heap.size + 2 < W1.heap.size := HS1.out.lt
  go_wp2
  exact st_ret3 (y := x) rfl rfl rfl rfl (HS1.out.put x) Tryd.underlying24 rfl (by kernel_rfl) rfl ⟨by rw [HE.out], below_putSt B1.out (by omega) x⟩

set_option maxHeartbeats 1000000 in
set_option maxRecDepth 100000 in
theorem spec_step9 (x : St) (a b c p n : Int) (w : World) (hp : pendB x = false) : Calls Tryd.prog 34 #[stV x, tokV ⟨9, a, b, c, p, n⟩] w (StpDone (stepT x ⟨9, a, b, c, p, n⟩) w) := by
  have HE : Hid (stepT x ⟨9, a, b, c, p, n⟩ = ⟨x, -1, 10⟩) := Lib.hid (by rw [stepT, if_neg (by simp), if_neg (by simp), if_neg (by rw [hp]; decide), calm, if_neg (by simp), if_neg (by simp), if_neg (by simp), if_neg (by simp), if_neg (by simp), if_neg (by simp)])
  have HP := Lib.hid (fun w => spec_l04Pending x w)
  rw [hp] at HP
  clear hp
  unfold stV at HP ⊢
  have ⟨hB0, hT0, hS0, b0⟩ := step_blocks w x ⟨9, a, b, c, p, n⟩
  dsimp only at hB0 hT0 hS0 b0
  have HB0 := Lib.hid hB0
  have HT0 := Lib.hid hT0
  have HS0 := Lib.hid hS0
  have B0 := Lib.hid b0
  clear hB0 hT0 hS0 b0
  unfold tokV
  go_enter Tryd.func34, Tryd.ntmps34
  go_wp2_with fail
  refine (HP.out _).mono ?_
  generalize (((w.alloc (.cells #[.int .i64 x.g0, .int .i64 x.g1, .int .i64 x.g2, .int .i64 x.g3, .int .i64 x.l, .int .i64 x.s, .int .i64 x.d] 24)).alloc (.cells #[.int .i64 9, .int .i64 a, .int .i64 b, .int .i64 c, .int .i64 p, .int .i64 n] 38)).alloc (.cells #[.int .i64 0, .int .i64 0, .int .i64 0, .int .i64 0, .int .i64 0, .int .i64 0, .int .i64 0] 24)) = W0 at *
  rintro e W1 ⟨rfl, b1⟩
  have B1 : Hid (Below w.heap.size w W1) := Lib.hid (B0.out.trans (b1.mono B0.out.size))
  have HB1 := Lib.hid (HB0.out.keep b1)
  have HT1 := Lib.hid (HT0.out.keep b1)
  have HS1 := Lib.hid (HS0.out.keep b1)
  clear b1 HB0 HT0 HS0 B0
  have ⟨y0, y1, y2, y3, y4, y5, y6⟩ := HB1.out.cells
  have ⟨t0, t1, t2, t3, t4, t5⟩ := HT1.out.cells
  dsimp only at t0 t1 t2 t3 t4 t5
  have ⟨r0, r1, r2, r3, r4, r5, r6⟩ := HS1.out.cells
  have ⟨z0, z1, z2, z3, z4, z5, z6⟩ := HS1.out.thaw
  simp only [zeroSt] at r0 r1 r2 r3 r4 r5 r6
  have hl : w.heap.size + 2 < W1.heap.size := HS1.out.lt
  go_wp2
  exact st_ret3 (y := x) rfl rfl rfl rfl (HS1.out.put x) Tryd.underlying24 rfl (by kernel_rfl) rfl ⟨by rw [HE.out], below_putSt B1.out (by omega) x⟩

theorem spec_l04Step (x : St) (t : Tok) (w : World) (hx : stOKB x = true) (ht : tokLP t) : Calls Tryd.prog 34 #[stV x, tokV t] w (StpDone (stepT x t) w) := by
  obtain ⟨k, a, b, c, p, n⟩ := t
  have hk : k = 1 ∨ k = 2 ∨ k = 3 ∨ k = 4 ∨ k = 5 ∨ k = 6 ∨ k = 7 ∨ k = 8 ∨ k = 9 := by unfold tokLP at ht; dsimp only at ht; omega
  by_cases h3 : k = 3
  · subst h3
    exact spec_step3 x a b c p n w hx (by unfold tokLP at ht; dsimp only at ht; omega) (by unfold tokLP at ht; dsimp only at ht; omega)
  by_cases h4 : k = 4
  · subst h4
    exact spec_step4 x a b c p n w hx (by unfold tokLP at ht; dsimp only at ht; omega) (by unfold tokLP at ht; dsimp only at ht; omega)
  cases hp : pendB x
  · rcases hk with rfl | rfl | rfl | rfl | rfl | rfl | rfl | rfl | rfl
    · exact spec_step1 x a b c p n w hp
    · exact spec_step2 x a b c p n w hx hp
    · exact absurd rfl h3
    · exact absurd rfl h4
    · exact spec_step5 x a b c p n w hp
    · exact spec_step6 x a b c p n w hp
    · exact spec_step7 x a b c p n w hp (by unfold tokLP at ht; dsimp only at ht; omega) (by unfold tokLP at ht; dsimp only at ht; omega)
    · exact spec_step8 x a b c p n w hp
    · exact spec_step9 x a b c p n w hp
  · by_cases h2 : k = 2
    · subst h2
      exact spec_stepP2 x a b c p n w hx hp
    · exact spec_stepP x k a b c p n w hp h2 h3 h4

end Go.Proofs.YtbamjhldebobhaaDoor
