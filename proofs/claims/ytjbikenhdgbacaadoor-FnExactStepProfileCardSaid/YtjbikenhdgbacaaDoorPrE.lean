/- The specification's steps within a profile. -/
import Derived.Test.YtjbikenhdgbacaaDoorPrC
import Derived.Test.YtjbikenhdgbacaaDoorPrI
import Derived.Test.YtjbikenhdgbacaaDoorStI
namespace Go.Proofs.YtjbikenhdgbacaaDoor
open Go.RowKit Go.Sort

theorem SetsAt.form {w : World} {v : Value} {n : Int} (h : SetsAt w v n) : ∃ g c, v = .slice (some ⟨g, 0, none⟩) 4 c := by
  obtain ⟨g, c, _, _, _, _, rfl, _⟩ := h
  exact ⟨g, c, rfl⟩

set_option maxHeartbeats 4000000 in
theorem spec_l05Step7 (n : Int) (x : St) (t : Tok) (w : World) (hx : stOKB x = true) (ht : tokOKP t) (k7 : t.k = 7) : Calls Tryd.prog 92 #[.int .i64 n, stV x, tokV t] w (StpDone (stepP n x t) w) := by
  have HP := Lib.hid (fun w => spec_l05Profile n w)
  have HF := Lib.hid (fun w => spec_l02Find t.b t.c w)
  have HAl := Lib.hid (fun v w hv => spec_l05Allows n v t w hv ht)
  have HSt := Lib.hid (fun w => spec_l04Step x t w hx ht)
  have ⟨hB0, hT0, hS0, b0⟩ := step_blocks w x t
  have HB0 := Lib.hid hB0
  have HK0 := Lib.hid hT0
  have HS0 := Lib.hid hS0
  have B0 := Lib.hid b0
  have e8 : (t.k == 8) = false := by rw [k7]; rfl
  have e9 : (t.k == 9) = false := by rw [k7]; rfl
  have e7 : (t.k == 7) = true := by rw [k7]; rfl
  have e1 : (t.k == 1) = false := by rw [k7]; rfl
  have HE : Hid (stepP n x t = if findNo t.b t.c = 0 then ⟨x, -1, 10⟩ else if allowB n t = false then ⟨x, -1, 11⟩ else if (stepT x t).c ≠ 0 then ⟨x, -1, (stepT x t).c⟩ else ⟨(stepT x t).y, (stepT x t).r, 0⟩) := Lib.hid (by
    unfold stepP
    rw [if_neg (by omega : ¬ t.k = 8)]
    by_cases hf : findNo t.b t.c = 0
    · rw [if_pos (.inr ⟨k7, hf⟩), if_pos hf]
    · rw [if_neg (by rintro (h | ⟨_, h⟩); omega; exact hf h), if_neg hf, if_neg (by omega : ¬ (t.k = 1 ∧ t.a = 10))])
  clear hB0 hT0 hS0 b0 k7 ht hx
  unfold PrDone prV at HP
  unfold StpDone stpV at HSt
  unfold prV at HAl
  unfold stV at HSt ⊢
  unfold tokV at HAl HSt ⊢
  generalize stepP n x t = st at *
  generalize allowB n t = al at *
  generalize stepT x t = so at *
  obtain ⟨y, r, c⟩ := so
  dsimp only at HE HSt
  go_enter Tryd.func92, Tryd.ntmps92
  go_wp2_with fail
  refine (HP.out _).mono ?_
  generalize ((w.alloc (.cells #[.int .i64 x.g0, .int .i64 x.g1, .int .i64 x.g2, .int .i64 x.g3, .int .i64 x.l, .int .i64 x.s, .int .i64 x.d] 24)).alloc (.cells #[.int .i64 t.k, .int .i64 t.a, .int .i64 t.b, .int .i64 t.c, .int .i64 t.p, .int .i64 t.n] 38)).alloc (.cells #[.int .i64 0, .int .i64 0, .int .i64 0, .int .i64 0, .int .i64 0, .int .i64 0, .int .i64 0] 24) = W0 at *
  rintro e w1 ⟨v, rfl, hv, b1⟩
  obtain ⟨gs, cs, rfl⟩ := hv.form
  have B1 : Hid (Below w.heap.size w (w1.alloc (.cells #[.string (prName n), .string (prHead n), .slice (some ⟨gs, 0, none⟩) 4 cs, .bool (prRight n), .bool (prShifts n), .bool (prSingle n), .bool (prReset n), .bool (prClear n)] 55))) := Lib.hid ((B0.out.trans (b1.mono B0.out.size)).alloc (B0.out.trans (b1.mono B0.out.size)).size _)
  have HB1 := Lib.hid ((HB0.out.keep b1).keep (below_one w1 (.cells #[.string (prName n), .string (prHead n), .slice (some ⟨gs, 0, none⟩) 4 cs, .bool (prRight n), .bool (prShifts n), .bool (prSingle n), .bool (prReset n), .bool (prClear n)] 55)))
  have HK1 := Lib.hid ((HK0.out.keep b1).keep (below_one w1 (.cells #[.string (prName n), .string (prHead n), .slice (some ⟨gs, 0, none⟩) 4 cs, .bool (prRight n), .bool (prShifts n), .bool (prSingle n), .bool (prReset n), .bool (prClear n)] 55)))
  have HS1 := Lib.hid ((HS0.out.keep b1).keep (below_one w1 (.cells #[.string (prName n), .string (prHead n), .slice (some ⟨gs, 0, none⟩) 4 cs, .bool (prRight n), .bool (prShifts n), .bool (prSingle n), .bool (prReset n), .bool (prClear n)] 55)))
  have HA1 : Hid (PrAt (w1.alloc (.cells #[.string (prName n), .string (prHead n), .slice (some ⟨gs, 0, none⟩) 4 cs, .bool (prRight n), .bool (prShifts n), .bool (prSingle n), .bool (prReset n), .bool (prClear n)] 55)) w1.heap.size n (.slice (some ⟨gs, 0, none⟩) 4 cs)) := Lib.hid (heap_alloc_new _ _)
  have HV1 := Lib.hid (hv.keep (below_one w1 (.cells #[.string (prName n), .string (prHead n), .slice (some ⟨gs, 0, none⟩) 4 cs, .bool (prRight n), .bool (prShifts n), .bool (prSingle n), .bool (prReset n), .bool (prClear n)] 55)))
  clear b1 hv HB0 HK0 HS0
  have ⟨t0, t1, t2, t3, t4, t5⟩ := HK1.out.cells
  go_wp2_with fail
  refine (HF.out _).mono ?_
  generalize w1.alloc (.cells #[.string (prName n), .string (prHead n), .slice (some ⟨gs, 0, none⟩) 4 cs, .bool (prRight n), .bool (prShifts n), .bool (prSingle n), .bool (prReset n), .bool (prClear n)] 55) = W1 at *
  clear t0 t1 t2 t3 t4 t5
  rintro e w2 ⟨rfl, b2⟩
  have B2 : Hid (Below w.heap.size w w2) := Lib.hid (B1.out.trans (b2.mono B1.out.size))
  have HB2 := Lib.hid (HB1.out.keep b2)
  have HK2 := Lib.hid (HK1.out.keep b2)
  have HS2 := Lib.hid (HS1.out.keep b2)
  have HA2 := Lib.hid (HA1.out.keep b2)
  have HV2 := Lib.hid (HV1.out.keep b2)
  clear b2 B1 HB1 HK1 HS1 HA1 HV1
  have ⟨t0, t1, t2, t3, t4, t5⟩ := HK2.out.cells
  by_cases hf : findNo t.b t.c = 0
  · have HR : Hid (st = ⟨x, -1, 10⟩) := Lib.hid (by rw [HE.out, if_pos hf])
    have ef : (findNo t.b t.c == 0) = true := by simp [hf]
    generalize findNo t.b t.c = ff at *
    clear hf HE
    have ⟨y0, y1, y2, y3, y4, y5, y6⟩ := HB2.out.cells
    have ⟨r0, r1, r2, r3, r4, r5, r6⟩ := HS2.out.cells
    have ⟨z0, z1, z2, z3, z4, z5, z6⟩ := HS2.out.thaw
    simp only [zeroSt] at r0 r1 r2 r3 r4 r5 r6
    have hl : w.heap.size + 2 < w2.heap.size := HS2.out.lt
    go_wp2
    exact st_ret3 (y := x) (r := -1) (c := 10) rfl rfl rfl rfl (HS2.out.put x) Tryd.underlying24 rfl (by kernel_rfl) rfl ⟨by rw [HR.out], below_putSt B2.out (by omega) x⟩
  rw [if_neg hf] at HE
  have ef : (findNo t.b t.c == 0) = false := by simp [hf]
  generalize findNo t.b t.c = ff at *
  clear hf
  have ⟨p0, p1, p2, p3, p4, p5, p6, p7⟩ := row8_cells HA2.out
  go_wp2_with fail
  refine (HAl.out _ _ HV2.out).mono ?_
  clear p0 p1 p2 p3 p4 p5 p6 p7 t0 t1 t2 t3 t4 t5
  rintro e w3 ⟨rfl, b3⟩
  have B3 : Hid (Below w.heap.size w w3) := Lib.hid (B2.out.trans (b3.mono B2.out.size))
  have HB3 := Lib.hid (HB2.out.keep b3)
  have HK3 := Lib.hid (HK2.out.keep b3)
  have HS3 := Lib.hid (HS2.out.keep b3)
  have HA3 := Lib.hid (HA2.out.keep b3)
  have HV3 := Lib.hid (HV2.out.keep b3)
  clear b3 B2 HB2 HK2 HS2 HA2 HV2
  cases al
  · have HR : Hid (st = ⟨x, -1, 11⟩) := Lib.hid (by rw [HE.out]; rfl)
    have ⟨y0, y1, y2, y3, y4, y5, y6⟩ := HB3.out.cells
    have ⟨r0, r1, r2, r3, r4, r5, r6⟩ := HS3.out.cells
    have ⟨z0, z1, z2, z3, z4, z5, z6⟩ := HS3.out.thaw
    simp only [zeroSt] at r0 r1 r2 r3 r4 r5 r6
    have hl : w.heap.size + 2 < w3.heap.size := HS3.out.lt
    go_wp2
    exact st_ret3 (y := x) (r := -1) (c := 11) rfl rfl rfl rfl (HS3.out.put x) Tryd.underlying24 rfl (by kernel_rfl) rfl ⟨by rw [HR.out], below_putSt B3.out (by omega) x⟩
  have ⟨t0, t1, t2, t3, t4, t5⟩ := HK3.out.cells
  have ⟨y0, y1, y2, y3, y4, y5, y6⟩ := HB3.out.cells
  go_wp2_with fail
  refine (HSt.out _).mono ?_
  clear y0 y1 y2 y3 y4 y5 y6 t0 t1 t2 t3 t4 t5
  rintro e w4 ⟨rfl, b4⟩
  have b5 : Below w3.heap.size w3 (w4.alloc (.cells #[.int .i64 y.g0, .int .i64 y.g1, .int .i64 y.g2, .int .i64 y.g3, .int .i64 y.l, .int .i64 y.s, .int .i64 y.d] 24)) := b4.alloc b4.size _
  have hy4 : w.heap.size + 2 < w4.heap.size := (HS3.out.keep b4).lt
  have HB4x : Hid (Below w.heap.size w w4) := Lib.hid (B3.out.trans (b4.mono B3.out.size))
  clear b4
  have B5 : Hid (Below w.heap.size w (w4.alloc (.cells #[.int .i64 y.g0, .int .i64 y.g1, .int .i64 y.g2, .int .i64 y.g3, .int .i64 y.l, .int .i64 y.s, .int .i64 y.d] 24))) := Lib.hid (B3.out.trans (b5.mono B3.out.size))
  have HB5 := Lib.hid (HB3.out.keep b5)
  have HK5 := Lib.hid (HK3.out.keep b5)
  have HS5 := Lib.hid (HS3.out.keep b5)
  have HA5 := Lib.hid (HA3.out.keep b5)
  have HV5 := Lib.hid (HV3.out.keep b5)
  clear b5 B3 HB3 HK3 HS3 HA3 HV3
  have HY5 : Hid (StAt (w4.alloc (.cells #[.int .i64 y.g0, .int .i64 y.g1, .int .i64 y.g2, .int .i64 y.g3, .int .i64 y.l, .int .i64 y.s, .int .i64 y.d] 24)) w4.heap.size y) := Lib.hid (heap_alloc_new _ _)
  by_cases hc : c = 0
  · subst hc
    have HR : Hid (st = ⟨y, r, 0⟩) := Lib.hid (by rw [HE.out]; simp)
    have ⟨y0, y1, y2, y3, y4, y5, y6⟩ := HY5.out.cells
    have ⟨t0, t1, t2, t3, t4, t5⟩ := HK5.out.cells
    have HS4 : Hid (StAt w4 (w.heap.size + 2) zeroSt) := Lib.hid (((below_one w4 (.cells #[.int .i64 y.g0, .int .i64 y.g1, .int .i64 y.g2, .int .i64 y.g3, .int .i64 y.l, .int .i64 y.s, .int .i64 y.d] 24)).block _ hy4).symm.trans HS5.out)
    have B4 : Hid (Below w.heap.size w w4) := Lib.hid (HB4x.out)
    have ⟨r0, r1, r2, r3, r4, r5, r6⟩ := HS4.out.cells
    have ⟨z0, z1, z2, z3, z4, z5, z6⟩ := HS4.out.thaw
    simp only [zeroSt] at r0 r1 r2 r3 r4 r5 r6
    go_wp2
    exact st_ret3 (y := y) (r := r) (c := 0) rfl rfl rfl rfl ((HS4.out.put y).keep (below_one _ _)) Tryd.underlying24 rfl (by kernel_rfl) rfl ⟨by rw [HR.out], (below_putSt B4.out (by omega) y).alloc (below_putSt B4.out (by omega) y).size _⟩
  · have HR : Hid (st = ⟨x, -1, c⟩) := Lib.hid (by rw [HE.out]; simp [hc])
    have ec : (c != 0) = true := by simp [hc]
    have ⟨y0, y1, y2, y3, y4, y5, y6⟩ := HB5.out.cells
    have HS4 : Hid (StAt w4 (w.heap.size + 2) zeroSt) := Lib.hid (((below_one w4 (.cells #[.int .i64 y.g0, .int .i64 y.g1, .int .i64 y.g2, .int .i64 y.g3, .int .i64 y.l, .int .i64 y.s, .int .i64 y.d] 24)).block _ hy4).symm.trans HS5.out)
    have B4 : Hid (Below w.heap.size w w4) := Lib.hid (HB4x.out)
    have HB4 : Hid (StAt w4 w.heap.size x) := Lib.hid (((below_one w4 (.cells #[.int .i64 y.g0, .int .i64 y.g1, .int .i64 y.g2, .int .i64 y.g3, .int .i64 y.l, .int .i64 y.s, .int .i64 y.d] 24)).block _ (by omega)).symm.trans HB5.out)
    have ⟨q0, q1, q2, q3, q4, q5, q6⟩ := HB4.out.cells
    have ⟨r0, r1, r2, r3, r4, r5, r6⟩ := HS4.out.cells
    have ⟨z0, z1, z2, z3, z4, z5, z6⟩ := HS4.out.thaw
    simp only [zeroSt] at r0 r1 r2 r3 r4 r5 r6
    go_wp2
    exact st_ret3 (y := x) (r := -1) (c := c) rfl rfl rfl rfl ((HS4.out.put x).keep (below_one _ _)) Tryd.underlying24 rfl (by kernel_rfl) rfl ⟨by rw [HR.out], (below_putSt B4.out (by omega) x).alloc (below_putSt B4.out (by omega) x).size _⟩

set_option maxHeartbeats 4000000 in
theorem spec_l05StepO (n : Int) (x : St) (t : Tok) (w : World) (hx : stOKB x = true) (ht : tokOKP t) (k7 : t.k ≠ 7) : Calls Tryd.prog 92 #[.int .i64 n, stV x, tokV t] w (StpDone (stepP n x t) w) := by
  have HP := Lib.hid (fun w => spec_l05Profile n w)
  have HAl := Lib.hid (fun v w hv => spec_l05Allows n v t w hv ht)
  have HSt := Lib.hid (fun w => spec_l04Step x t w hx ht)
  have HRe := Lib.hid (fun v w => spec_l05Rest n v x w)
  have ⟨hB0, hT0, hS0, b0⟩ := step_blocks w x t
  have HB0 := Lib.hid hB0
  have HK0 := Lib.hid hT0
  have HS0 := Lib.hid hS0
  have B0 := Lib.hid b0
  have e7 : (t.k == 7) = false := by simp [k7]
  have HE : Hid (stepP n x t = if t.k = 8 then ⟨x, -1, 13⟩ else if t.k = 9 then ⟨x, -1, 10⟩ else if allowB n t = false then ⟨x, -1, 11⟩ else if (stepT x t).c ≠ 0 then ⟨x, -1, (stepT x t).c⟩ else if t.k = 1 ∧ t.a = 10 then (if restB n x = true then ⟨lineX n (stepT x t).y, (stepT x t).r, 0⟩ else ⟨x, -1, 14⟩) else ⟨(stepT x t).y, (stepT x t).r, 0⟩) := Lib.hid (by
    unfold stepP
    by_cases h8 : t.k = 8
    · rw [if_pos h8, if_pos h8]
    rw [if_neg h8, if_neg h8]
    by_cases h9 : t.k = 9
    · rw [if_pos (.inl h9), if_pos h9]
    · rw [if_neg (show ¬ (t.k = 9 ∨ (t.k = 7 ∧ findNo t.b t.c = 0)) by rintro (h | ⟨h, _⟩); exact h9 h; exact k7 h), if_neg h9])
  clear hB0 hT0 hS0 b0 k7 ht hx
  unfold PrDone prV at HP
  unfold StpDone stpV at HSt
  unfold prV at HAl HRe
  unfold stV at HSt HRe ⊢
  unfold tokV at HAl HSt ⊢
  generalize stepP n x t = st at *
  generalize allowB n t = al at *
  generalize stepT x t = so at *
  obtain ⟨y, r, c⟩ := so
  dsimp only at HE HSt
  go_enter Tryd.func92, Tryd.ntmps92
  go_wp2_with fail
  refine (HP.out _).mono ?_
  generalize ((w.alloc (.cells #[.int .i64 x.g0, .int .i64 x.g1, .int .i64 x.g2, .int .i64 x.g3, .int .i64 x.l, .int .i64 x.s, .int .i64 x.d] 24)).alloc (.cells #[.int .i64 t.k, .int .i64 t.a, .int .i64 t.b, .int .i64 t.c, .int .i64 t.p, .int .i64 t.n] 38)).alloc (.cells #[.int .i64 0, .int .i64 0, .int .i64 0, .int .i64 0, .int .i64 0, .int .i64 0, .int .i64 0] 24) = W0 at *
  rintro e w1 ⟨v, rfl, hv, b1⟩
  obtain ⟨gs, cs, rfl⟩ := hv.form
  have B1 : Hid (Below w.heap.size w (w1.alloc (.cells #[.string (prName n), .string (prHead n), .slice (some ⟨gs, 0, none⟩) 4 cs, .bool (prRight n), .bool (prShifts n), .bool (prSingle n), .bool (prReset n), .bool (prClear n)] 55))) := Lib.hid ((B0.out.trans (b1.mono B0.out.size)).alloc (B0.out.trans (b1.mono B0.out.size)).size _)
  have HB1 := Lib.hid ((HB0.out.keep b1).keep (below_one w1 (.cells #[.string (prName n), .string (prHead n), .slice (some ⟨gs, 0, none⟩) 4 cs, .bool (prRight n), .bool (prShifts n), .bool (prSingle n), .bool (prReset n), .bool (prClear n)] 55)))
  have HK1 := Lib.hid ((HK0.out.keep b1).keep (below_one w1 (.cells #[.string (prName n), .string (prHead n), .slice (some ⟨gs, 0, none⟩) 4 cs, .bool (prRight n), .bool (prShifts n), .bool (prSingle n), .bool (prReset n), .bool (prClear n)] 55)))
  have HS1 := Lib.hid ((HS0.out.keep b1).keep (below_one w1 (.cells #[.string (prName n), .string (prHead n), .slice (some ⟨gs, 0, none⟩) 4 cs, .bool (prRight n), .bool (prShifts n), .bool (prSingle n), .bool (prReset n), .bool (prClear n)] 55)))
  have HA1 : Hid (PrAt (w1.alloc (.cells #[.string (prName n), .string (prHead n), .slice (some ⟨gs, 0, none⟩) 4 cs, .bool (prRight n), .bool (prShifts n), .bool (prSingle n), .bool (prReset n), .bool (prClear n)] 55)) w1.heap.size n (.slice (some ⟨gs, 0, none⟩) 4 cs)) := Lib.hid (heap_alloc_new _ _)
  have HV1 := Lib.hid (hv.keep (below_one w1 (.cells #[.string (prName n), .string (prHead n), .slice (some ⟨gs, 0, none⟩) 4 cs, .bool (prRight n), .bool (prShifts n), .bool (prSingle n), .bool (prReset n), .bool (prClear n)] 55)))
  have HB1x := Lib.hid (HB0.out.keep b1)
  have HS1x := Lib.hid (HS0.out.keep b1)
  have B1x : Hid (Below w.heap.size w w1) := Lib.hid (B0.out.trans (b1.mono B0.out.size))
  clear b1 hv HB0 HK0 HS0
  have ⟨t0, t1, t2, t3, t4, t5⟩ := HK1.out.cells
  generalize hw2 : w1.alloc (.cells #[.string (prName n), .string (prHead n), .slice (some ⟨gs, 0, none⟩) 4 cs, .bool (prRight n), .bool (prShifts n), .bool (prSingle n), .bool (prReset n), .bool (prClear n)] 55) = w2 at *
  have B2 := B1
  have HB2 := HB1
  have HK2 := HK1
  have HS2 := HS1
  have HA2 := HA1
  have HV2 := HV1
  clear B1 HB1 HK1 HS1 HA1 HV1
  by_cases h8 : t.k = 8
  · have HR : Hid (st = ⟨x, -1, 13⟩) := Lib.hid (by rw [HE.out, if_pos h8])
    have e8 : (t.k == 8) = true := by simp [h8]
    subst hw2
    clear HE h8
    have HB3 : Hid (StAt w1 w.heap.size x) := HB1x
    have HS3 : Hid (StAt w1 (w.heap.size + 2) zeroSt) := HS1x
    have ⟨q0, q1, q2, q3, q4, q5, q6⟩ := HB3.out.cells
    have ⟨y0, y1, y2, y3, y4, y5, y6⟩ := HB2.out.cells
    have ⟨r0, r1, r2, r3, r4, r5, r6⟩ := HS3.out.cells
    have ⟨z0, z1, z2, z3, z4, z5, z6⟩ := HS3.out.thaw
    simp only [zeroSt] at r0 r1 r2 r3 r4 r5 r6
    have hl : w.heap.size + 2 < w1.heap.size := HS3.out.lt
    go_wp2
    exact st_ret3 (y := x) (r := -1) (c := 13) rfl rfl rfl rfl ((HS3.out.put x).keep (below_one _ _)) Tryd.underlying24 rfl (by kernel_rfl) rfl ⟨by rw [HR.out], (below_putSt B1x.out (by omega) x).alloc (below_putSt B1x.out (by omega) x).size _⟩
  rw [if_neg h8] at HE
  have e8 : (t.k == 8) = false := by simp [h8]
  by_cases h9 : t.k = 9
  · have HR : Hid (st = ⟨x, -1, 10⟩) := Lib.hid (by rw [HE.out, if_pos h9])
    have e9 : (t.k == 9) = true := by simp [h9]
    subst hw2
    clear HE h8 h9
    have HB3 : Hid (StAt w1 w.heap.size x) := HB1x
    have HS3 : Hid (StAt w1 (w.heap.size + 2) zeroSt) := HS1x
    have ⟨q0, q1, q2, q3, q4, q5, q6⟩ := HB3.out.cells
    have ⟨y0, y1, y2, y3, y4, y5, y6⟩ := HB2.out.cells
    have ⟨r0, r1, r2, r3, r4, r5, r6⟩ := HS3.out.cells
    have ⟨z0, z1, z2, z3, z4, z5, z6⟩ := HS3.out.thaw
    simp only [zeroSt] at r0 r1 r2 r3 r4 r5 r6
    have hl : w.heap.size + 2 < w1.heap.size := HS3.out.lt
    go_wp2
    exact st_ret3 (y := x) (r := -1) (c := 10) rfl rfl rfl rfl ((HS3.out.put x).keep (below_one _ _)) Tryd.underlying24 rfl (by kernel_rfl) rfl ⟨by rw [HR.out], (below_putSt B1x.out (by omega) x).alloc (below_putSt B1x.out (by omega) x).size _⟩
  rw [if_neg h9] at HE
  have e9 : (t.k == 9) = false := by simp [h9]
  subst hw2
  clear h8 h9
  have ⟨p0, p1, p2, p3, p4, p5, p6, p7⟩ := row8_cells HA2.out
  go_wp2_with fail
  refine (HAl.out _ _ HV2.out).mono ?_
  generalize w1.alloc (.cells #[.string (prName n), .string (prHead n), .slice (some ⟨gs, 0, none⟩) 4 cs, .bool (prRight n), .bool (prShifts n), .bool (prSingle n), .bool (prReset n), .bool (prClear n)] 55) = W1 at *
  clear p0 p1 p2 p3 p4 p5 p6 p7 t0 t1 t2 t3 t4 t5
  rintro e w3 ⟨rfl, b3⟩
  have B3 : Hid (Below w.heap.size w w3) := Lib.hid (B2.out.trans (b3.mono B2.out.size))
  have HB3 := Lib.hid (HB2.out.keep b3)
  have HK3 := Lib.hid (HK2.out.keep b3)
  have HS3 := Lib.hid (HS2.out.keep b3)
  have HA3 := Lib.hid (HA2.out.keep b3)
  have HV3 := Lib.hid (HV2.out.keep b3)
  clear b3 B2 HB2 HK2 HS2 HA2 HV2
  cases al
  · have HR : Hid (st = ⟨x, -1, 11⟩) := Lib.hid (by rw [HE.out]; rfl)
    have ⟨y0, y1, y2, y3, y4, y5, y6⟩ := HB3.out.cells
    have ⟨r0, r1, r2, r3, r4, r5, r6⟩ := HS3.out.cells
    have ⟨z0, z1, z2, z3, z4, z5, z6⟩ := HS3.out.thaw
    simp only [zeroSt] at r0 r1 r2 r3 r4 r5 r6
    have hl : w.heap.size + 2 < w3.heap.size := HS3.out.lt
    go_wp2
    exact st_ret3 (y := x) (r := -1) (c := 11) rfl rfl rfl rfl (HS3.out.put x) Tryd.underlying24 rfl (by kernel_rfl) rfl ⟨by rw [HR.out], below_putSt B3.out (by omega) x⟩
  have ⟨t0, t1, t2, t3, t4, t5⟩ := HK3.out.cells
  have ⟨y0, y1, y2, y3, y4, y5, y6⟩ := HB3.out.cells
  go_wp2_with fail
  refine (HSt.out _).mono ?_
  clear y0 y1 y2 y3 y4 y5 y6 t0 t1 t2 t3 t4 t5
  rintro e w4 ⟨rfl, b4⟩
  have b5 : Below w3.heap.size w3 (w4.alloc (.cells #[.int .i64 y.g0, .int .i64 y.g1, .int .i64 y.g2, .int .i64 y.g3, .int .i64 y.l, .int .i64 y.s, .int .i64 y.d] 24)) := b4.alloc b4.size _
  have hy4 : w.heap.size + 2 < w4.heap.size := (HS3.out.keep b4).lt
  have HB4x : Hid (Below w.heap.size w w4) := Lib.hid (B3.out.trans (b4.mono B3.out.size))
  clear b4
  have B5 : Hid (Below w.heap.size w (w4.alloc (.cells #[.int .i64 y.g0, .int .i64 y.g1, .int .i64 y.g2, .int .i64 y.g3, .int .i64 y.l, .int .i64 y.s, .int .i64 y.d] 24))) := Lib.hid (B3.out.trans (b5.mono B3.out.size))
  have HB5 := Lib.hid (HB3.out.keep b5)
  have HK5 := Lib.hid (HK3.out.keep b5)
  have HS5 := Lib.hid (HS3.out.keep b5)
  have HA5 := Lib.hid (HA3.out.keep b5)
  have HV5 := Lib.hid (HV3.out.keep b5)
  clear b5 B3 HB3 HK3 HS3 HA3 HV3
  have HY5 : Hid (StAt (w4.alloc (.cells #[.int .i64 y.g0, .int .i64 y.g1, .int .i64 y.g2, .int .i64 y.g3, .int .i64 y.l, .int .i64 y.s, .int .i64 y.d] 24)) w4.heap.size y) := Lib.hid (heap_alloc_new _ _)
  by_cases hc : c = 0
  · subst hc
    by_cases h1 : t.k = 1 ∧ t.a = 10
    · have e1 : (t.k == 1) = true := by simp [h1.1]
      have ea : (t.a == 10) = true := by simp [h1.2]
      cases hr : restB n x
      · have HR : Hid (st = ⟨x, -1, 14⟩) := Lib.hid (by rw [HE.out]; simp [h1, hr])
        rw [hr] at HRe
        clear h1 hr
        have ⟨p0, p1, p2, p3, p4, p5, p6, p7⟩ := row8_cells HA5.out
        have ⟨t0, t1, t2, t3, t4, t5⟩ := HK5.out.cells
        have ⟨y0, y1, y2, y3, y4, y5, y6⟩ := HB5.out.cells
        go_wp2_with fail
        refine (HRe.out _ _).mono ?_
        generalize w4.alloc (.cells #[.int .i64 y.g0, .int .i64 y.g1, .int .i64 y.g2, .int .i64 y.g3, .int .i64 y.l, .int .i64 y.s, .int .i64 y.d] 24) = W4 at *
        clear p0 p1 p2 p3 p4 p5 p6 p7 t0 t1 t2 t3 t4 t5 y0 y1 y2 y3 y4 y5 y6
        rintro e w6 ⟨rfl, b6⟩
        have B6 : Hid (Below w.heap.size w w6) := Lib.hid (B5.out.trans (b6.mono B5.out.size))
        have HB6 := Lib.hid (HB5.out.keep b6)
        have HK6 := Lib.hid (HK5.out.keep b6)
        have HS6 := Lib.hid (HS5.out.keep b6)
        have HA6 := Lib.hid (HA5.out.keep b6)
        have HV6 := Lib.hid (HV5.out.keep b6)
        clear b6 B5 HB5 HK5 HS5 HA5 HV5
        have ⟨y0, y1, y2, y3, y4, y5, y6⟩ := HB6.out.cells
        have ⟨r0, r1, r2, r3, r4, r5, r6⟩ := HS6.out.cells
        have ⟨z0, z1, z2, z3, z4, z5, z6⟩ := HS6.out.thaw
        simp only [zeroSt] at r0 r1 r2 r3 r4 r5 r6
        have hl : w.heap.size + 2 < w6.heap.size := HS6.out.lt
        go_wp2
        exact st_ret3 (y := x) (r := -1) (c := 14) rfl rfl rfl rfl (HS6.out.put x) Tryd.underlying24 rfl (by kernel_rfl) rfl ⟨by rw [HR.out], below_putSt B6.out (by omega) x⟩
      · have HR : Hid (st = ⟨lineX n y, r, 0⟩) := Lib.hid (by rw [HE.out]; simp [h1, hr])
        rw [hr] at HRe
        clear h1 hr
        have ⟨p0, p1, p2, p3, p4, p5, p6, p7⟩ := row8_cells HA5.out
        have ⟨t0, t1, t2, t3, t4, t5⟩ := HK5.out.cells
        have ⟨y0, y1, y2, y3, y4, y5, y6⟩ := HB5.out.cells
        go_wp2_with fail
        refine (HRe.out _ _).mono ?_
        generalize w4.alloc (.cells #[.int .i64 y.g0, .int .i64 y.g1, .int .i64 y.g2, .int .i64 y.g3, .int .i64 y.l, .int .i64 y.s, .int .i64 y.d] 24) = W4 at *
        clear p0 p1 p2 p3 p4 p5 p6 p7 t0 t1 t2 t3 t4 t5 y0 y1 y2 y3 y4 y5 y6
        rintro e w6 ⟨rfl, b6⟩
        have HY6 := Lib.hid (HY5.out.keep b6)
        have B6 : Hid (Below w.heap.size w w6) := Lib.hid (B5.out.trans (b6.mono B5.out.size))
        have HB6 := Lib.hid (HB5.out.keep b6)
        have HK6 := Lib.hid (HK5.out.keep b6)
        have HS6 := Lib.hid (HS5.out.keep b6)
        have HA6 := Lib.hid (HA5.out.keep b6)
        have HV6 := Lib.hid (HV5.out.keep b6)
        clear b6 B5 HB5 HK5 HS5 HA5 HV5
        have ⟨y0, y1, y2, y3, y4, y5, y6⟩ := HY6.out.cells
        have HLi := Lib.hid (fun w => spec_l05Line n y w)
        unfold StDone stV at HLi
        generalize lineX n y = z at *
        go_wp2_with fail
        refine (HLi.out _).mono ?_
        clear y0 y1 y2 y3 y4 y5 y6
        rintro e w7 ⟨rfl, b7⟩
        have HY7 := Lib.hid (HY6.out.keep b7)
        have B7 : Hid (Below w.heap.size w w7) := Lib.hid (B6.out.trans (b7.mono B6.out.size))
        have HB7 := Lib.hid (HB6.out.keep b7)
        have HK7 := Lib.hid (HK6.out.keep b7)
        have HS7 := Lib.hid (HS6.out.keep b7)
        have HA7 := Lib.hid (HA6.out.keep b7)
        have HV7 := Lib.hid (HV6.out.keep b7)
        clear b7 B6 HB6 HK6 HS6 HA6 HV6
        have HY8 := Lib.hid (HY7.out.put z)
        have HS8 : Hid (StAt (putSt w7 w4.heap.size z) (w.heap.size + 2) zeroSt) := Lib.hid (by
          unfold StAt
          rw [heap_putSt _ (by omega)]
          exact HS7.out)
        have B8 : Hid (Below w.heap.size w (putSt w7 w4.heap.size z)) := Lib.hid (below_putSt B7.out (by omega) z)
        have ⟨y0, y1, y2, y3, y4, y5, y6⟩ := HY7.out.cells
        have ⟨q0, q1, q2, q3, q4, q5, q6⟩ := HY7.out.thaw
        have ⟨r0, r1, r2, r3, r4, r5, r6⟩ := HS7.out.cells
        have ⟨z0, z1, z2, z3, z4, z5, z6⟩ := HS7.out.thaw
        simp only [zeroSt] at r0 r1 r2 r3 r4 r5 r6
        have hl7 : w4.heap.size < w7.heap.size := HY7.out.lt
        have hl8 : w.heap.size + 2 < w7.heap.size := HS7.out.lt
        have hne : w.heap.size + 2 ≠ w4.heap.size := by omega
        go_wp2
        exact st_ret3 (y := z) (r := r) (c := 0) rfl rfl rfl rfl (HS8.out.put z) Tryd.underlying24 rfl (by kernel_rfl) rfl ⟨by rw [HR.out], below_putSt B8.out (by omega) z⟩
    by_cases k1 : t.k = 1
    · have e1 : (t.k == 1) = true := by simp [k1]
      have ea : (t.a == 10) = false := by
        have : ¬ t.a = 10 := fun h => h1 ⟨k1, h⟩
        simp [this]
      have HR : Hid (st = ⟨y, r, 0⟩) := Lib.hid (by rw [HE.out]; simp [h1])
      clear h1 k1
      have ⟨y0, y1, y2, y3, y4, y5, y6⟩ := HY5.out.cells
      have ⟨t0, t1, t2, t3, t4, t5⟩ := HK5.out.cells
      have HS4 : Hid (StAt w4 (w.heap.size + 2) zeroSt) := Lib.hid (((below_one w4 (.cells #[.int .i64 y.g0, .int .i64 y.g1, .int .i64 y.g2, .int .i64 y.g3, .int .i64 y.l, .int .i64 y.s, .int .i64 y.d] 24)).block _ hy4).symm.trans HS5.out)
      have B4 : Hid (Below w.heap.size w w4) := Lib.hid (HB4x.out)
      have ⟨r0, r1, r2, r3, r4, r5, r6⟩ := HS4.out.cells
      have ⟨z0, z1, z2, z3, z4, z5, z6⟩ := HS4.out.thaw
      simp only [zeroSt] at r0 r1 r2 r3 r4 r5 r6
      go_wp2
      exact st_ret3 (y := y) (r := r) (c := 0) rfl rfl rfl rfl ((HS4.out.put y).keep (below_one _ _)) Tryd.underlying24 rfl (by kernel_rfl) rfl ⟨by rw [HR.out], (below_putSt B4.out (by omega) y).alloc (below_putSt B4.out (by omega) y).size _⟩
    · have e1 : (t.k == 1) = false := by simp [k1]
      have HR : Hid (st = ⟨y, r, 0⟩) := Lib.hid (by rw [HE.out]; simp [h1])
      clear h1 k1
      have ⟨y0, y1, y2, y3, y4, y5, y6⟩ := HY5.out.cells
      have ⟨t0, t1, t2, t3, t4, t5⟩ := HK5.out.cells
      have HS4 : Hid (StAt w4 (w.heap.size + 2) zeroSt) := Lib.hid (((below_one w4 (.cells #[.int .i64 y.g0, .int .i64 y.g1, .int .i64 y.g2, .int .i64 y.g3, .int .i64 y.l, .int .i64 y.s, .int .i64 y.d] 24)).block _ hy4).symm.trans HS5.out)
      have B4 : Hid (Below w.heap.size w w4) := Lib.hid (HB4x.out)
      have ⟨r0, r1, r2, r3, r4, r5, r6⟩ := HS4.out.cells
      have ⟨z0, z1, z2, z3, z4, z5, z6⟩ := HS4.out.thaw
      simp only [zeroSt] at r0 r1 r2 r3 r4 r5 r6
      go_wp2
      exact st_ret3 (y := y) (r := r) (c := 0) rfl rfl rfl rfl ((HS4.out.put y).keep (below_one _ _)) Tryd.underlying24 rfl (by kernel_rfl) rfl ⟨by rw [HR.out], (below_putSt B4.out (by omega) y).alloc (below_putSt B4.out (by omega) y).size _⟩
  · have HR : Hid (st = ⟨x, -1, c⟩) := Lib.hid (by rw [HE.out]; simp [hc])
    have ec : (c != 0) = true := by simp [hc]
    have ⟨y0, y1, y2, y3, y4, y5, y6⟩ := HB5.out.cells
    have HS4 : Hid (StAt w4 (w.heap.size + 2) zeroSt) := Lib.hid (((below_one w4 (.cells #[.int .i64 y.g0, .int .i64 y.g1, .int .i64 y.g2, .int .i64 y.g3, .int .i64 y.l, .int .i64 y.s, .int .i64 y.d] 24)).block _ hy4).symm.trans HS5.out)
    have B4 : Hid (Below w.heap.size w w4) := Lib.hid (HB4x.out)
    have HB4 : Hid (StAt w4 w.heap.size x) := Lib.hid (((below_one w4 (.cells #[.int .i64 y.g0, .int .i64 y.g1, .int .i64 y.g2, .int .i64 y.g3, .int .i64 y.l, .int .i64 y.s, .int .i64 y.d] 24)).block _ (by omega)).symm.trans HB5.out)
    have ⟨q0, q1, q2, q3, q4, q5, q6⟩ := HB4.out.cells
    have ⟨r0, r1, r2, r3, r4, r5, r6⟩ := HS4.out.cells
    have ⟨z0, z1, z2, z3, z4, z5, z6⟩ := HS4.out.thaw
    simp only [zeroSt] at r0 r1 r2 r3 r4 r5 r6
    go_wp2
    exact st_ret3 (y := x) (r := -1) (c := c) rfl rfl rfl rfl ((HS4.out.put x).keep (below_one _ _)) Tryd.underlying24 rfl (by kernel_rfl) rfl ⟨by rw [HR.out], (below_putSt B4.out (by omega) x).alloc (below_putSt B4.out (by omega) x).size _⟩

end Go.Proofs.YtjbikenhdgbacaaDoor
