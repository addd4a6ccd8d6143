/- Which register and kind the intermediate bytes of an escape sequence stand for, in the program. Joined of: PrE, PrF, PrG, RdM, RdG, RdH, PrH, RdN, DcM, DcS, DcT, DcU, RdS, RfA, RfB, RfC, RdR, RdD, LayI, DesI. -/
import Derived.Test.YtbamjhldebobhaaGreatDoorFnExactValidTextG1
import Derived.Test.YtbamjhldebobhaaGreatDoorPrI
import Derived.Test.YtbamjhldebobhaaGreatDoorPrM
import Derived.Laws.IdiomCopy
import Derived.RangeFuncNested
import Derived.RangeFuncBound
import Derived.RangeFuncCalls
import Derived.RangeFuncLeaves
import Derived.Shelf.Abstract
import Derived.WalkKit
import Derived.Below
import Derived.OrdersHeld
import Derived.OrdersIn
import Derived.TacticsIn
import Derived.StillTail
import Derived.Deep.RegionHeld
import Derived.Deep.RegionLaw
import Derived.Shelf.Strings.BuilderRune
import Derived.Shelf.Strings.Search1
import Derived.Shelf.Small.Strs
import Derived.Test.YtbamjhldebobhaaGreatDoorProg
import Derived.Test.YtbamjhldebobhaaGreatDoorTokB

namespace Go.Proofs.YtbamjhldebobhaaGreatDoor
open Go.RowKit Go.Sort

theorem SetsAt.form {w : World} {v : Value} {n : Int} (h : SetsAt w v n) : ∃ g c, v = .slice (some ⟨g, 0, none⟩) 4 c := by
  obtain ⟨g, c, _, _, _, _, rfl, _⟩ := h
  exact ⟨g, c, rfl⟩

set_option maxHeartbeats 4000000 in
theorem spec_l05Step7 (n : Int) (x : St) (t : Tok) (w : World) (hx : stOKB x = true) (ht : tokLP t) (k7 : t.k = 7) : Calls Tryz.prog 66 #[.int .i64 n, stV x, tokV t] w (StpDone (stepP n x t) w) := by
  have HP := Lib.hid (fun w => spec_l05Profile n w)
  have HF := Lib.hid (fun w => spec_l02Find t.b t.c w)
  have HAl := Lib.hid (fun v w hv => spec_l05Allows n v t w hv ht)
  have HSt := Lib.hid (fun w => spec_l04Step x t w hx ht)
  have ⟨hB0, hT0, hS0, b0⟩ := step_blocks w x t
  have HB0 := Lib.hid hB0
  have HK0 := Lib.hid hT0
  have HS0 := Lib.hid hS0
  have B0 := Lib.hid b0
  have e8 : (t.k == 8) = false := by rw [k7]; rfl
  have e9 : (t.k == 9) = false := by rw [k7]; rfl
  have e7 : (t.k == 7) = true := by rw [k7]; rfl
  have e1 : (t.k == 1) = false := by rw [k7]; rfl
  have HE : Hid (stepP n x t = if findNo t.b t.c = 0 then ⟨x, -1, 10⟩ else if allowB n t = false then ⟨x, -1, 11⟩ else if (stepT x t).c ≠ 0 then ⟨x, -1, (stepT x t).c⟩ else ⟨(stepT x t).y, (stepT x t).r, 0⟩) := Lib.hid (by
    unfold stepP
    rw [if_neg (by omega : ¬ t.k = 8)]
    by_cases hf : findNo t.b t.c = 0
    · rw [if_pos (.inr ⟨k7, hf⟩), if_pos hf]
    · rw [if_neg (by rintro (h | ⟨_, h⟩); omega; exact hf h), if_neg hf, if_neg (by omega : ¬ (t.k = 1 ∧ t.a = 10))])
  clear hB0 hT0 hS0 b0 k7 ht hx
  unfold PrDone prV at HP
  unfold StpDone stpV at HSt
  unfold prV at HAl
  unfold stV at HSt ⊢
  unfold tokV at HAl HSt ⊢
  generalize stepP n x t = st at *
  generalize allowB n t = al at *
  generalize stepT x t = so at *
  obtain ⟨y, r, c⟩ := so
  dsimp only at HE HSt
  go_enter Tryz.func66, Tryz.ntmps66
  go_wp2_with fail
  refine (HP.out _).mono ?_
  generalize ((w.alloc (.cells #[.int .i64 x.g0, .int .i64 x.g1, .int .i64 x.g2, .int .i64 x.g3, .int .i64 x.l, .int .i64 x.s, .int .i64 x.d] 39)).alloc (.cells #[.int .i64 t.k, .int .i64 t.a, .int .i64 t.b, .int .i64 t.c, .int .i64 t.p, .int .i64 t.n] 102)).alloc (.cells #[.int .i64 0, .int .i64 0, .int .i64 0, .int .i64 0, .int .i64 0, .int .i64 0, .int .i64 0] 39) = W0 at *
  rintro e w1 ⟨v, rfl, hv, b1⟩
  obtain ⟨gs, cs, rfl⟩ := hv.form
  have B1 : Hid (Below w.heap.size w (w1.alloc (.cells #[.string (prName n), .string (prHead n), .slice (some ⟨gs, 0, none⟩) 4 cs, .bool (prRight n), .bool (prShifts n), .bool (prSingle n), .bool (prReset n), .bool (prClear n)] 60))) := Lib.hid ((B0.out.trans (b1.mono B0.out.size)).alloc (B0.out.trans (b1.mono B0.out.size)).size _)
  have HB1 := Lib.hid ((HB0.out.keep b1).keep (below_one w1 (.cells #[.string (prName n), .string (prHead n), .slice (some ⟨gs, 0, none⟩) 4 cs, .bool (prRight n), .bool (prShifts n), .bool (prSingle n), .bool (prReset n), .bool (prClear n)] 60)))
  have HK1 := Lib.hid ((HK0.out.keep b1).keep (below_one w1 (.cells #[.string (prName n), .string (prHead n), .slice (some ⟨gs, 0, none⟩) 4 cs, .bool (prRight n), .bool (prShifts n), .bool (prSingle n), .bool (prReset n), .bool (prClear n)] 60)))
  have HS1 := Lib.hid ((HS0.out.keep b1).keep (below_one w1 (.cells #[.string (prName n), .string (prHead n), .slice (some ⟨gs, 0, none⟩) 4 cs, .bool (prRight n), .bool (prShifts n), .bool (prSingle n), .bool (prReset n), .bool (prClear n)] 60)))
  have HA1 : Hid (PrAt (w1.alloc (.cells #[.string (prName n), .string (prHead n), .slice (some ⟨gs, 0, none⟩) 4 cs, .bool (prRight n), .bool (prShifts n), .bool (prSingle n), .bool (prReset n), .bool (prClear n)] 60)) w1.heap.size n (.slice (some ⟨gs, 0, none⟩) 4 cs)) := Lib.hid (heap_alloc_new _ _)
  have HV1 := Lib.hid (hv.keep (below_one w1 (.cells #[.string (prName n), .string (prHead n), .slice (some ⟨gs, 0, none⟩) 4 cs, .bool (prRight n), .bool (prShifts n), .bool (prSingle n), .bool (prReset n), .bool (prClear n)] 60)))
  clear b1 hv HB0 HK0 HS0
  have ⟨t0, t1, t2, t3, t4, t5⟩ := HK1.out.cells
  go_wp2_with fail
  refine (HF.out _).mono ?_
  generalize w1.alloc (.cells #[.string (prName n), .string (prHead n), .slice (some ⟨gs, 0, none⟩) 4 cs, .bool (prRight n), .bool (prShifts n), .bool (prSingle n), .bool (prReset n), .bool (prClear n)] 60) = W1 at *
  clear t0 t1 t2 t3 t4 t5
  rintro e w2 ⟨rfl, b2⟩
  have B2 : Hid (Below w.heap.size w w2) := Lib.hid (B1.out.trans (b2.mono B1.out.size))
  have HB2 := Lib.hid (HB1.out.keep b2)
  have HK2 := Lib.hid (HK1.out.keep b2)
  have HS2 := Lib.hid (HS1.out.keep b2)
  have HA2 := Lib.hid (HA1.out.keep b2)
  have HV2 := Lib.hid (HV1.out.keep b2)
  clear b2 B1 HB1 HK1 HS1 HA1 HV1
  have ⟨t0, t1, t2, t3, t4, t5⟩ := HK2.out.cells
  by_cases hf : findNo t.b t.c = 0
  · have HR : Hid (st = ⟨x, -1, 10⟩) := Lib.hid (by rw [HE.out, if_pos hf])
    have ef : (findNo t.b t.c == 0) = true := by simp [hf]
    generalize findNo t.b t.c = ff at *
    clear hf HE
    have ⟨y0, y1, y2, y3, y4, y5, y6⟩ := HB2.out.cells
    have ⟨r0, r1, r2, r3, r4, r5, r6⟩ := HS2.out.cells
    have ⟨z0, z1, z2, z3, z4, z5, z6⟩ := HS2.out.thaw
    simp only [zeroSt] at r0 r1 r2 r3 r4 r5 r6
    have hl : w.heap.size + 2 < w2.heap.size := HS2.out.lt
    go_wp2
    exact st_ret3 (y := x) (r := -1) (c := 10) rfl rfl rfl rfl (HS2.out.put x) Tryz.underlying39 rfl (by kernel_rfl) rfl ⟨by rw [HR.out], below_putSt B2.out (by omega) x⟩
  rw [if_neg hf] at HE
  have ef : (findNo t.b t.c == 0) = false := by simp [hf]
  generalize findNo t.b t.c = ff at *
  clear hf
  have ⟨p0, p1, p2, p3, p4, p5, p6, p7⟩ := row8_cells HA2.out
  go_wp2_with fail
  refine (HAl.out _ _ HV2.out).mono ?_
  clear p0 p1 p2 p3 p4 p5 p6 p7 t0 t1 t2 t3 t4 t5
  rintro e w3 ⟨rfl, b3⟩
  have B3 : Hid (Below w.heap.size w w3) := Lib.hid (B2.out.trans (b3.mono B2.out.size))
  have HB3 := Lib.hid (HB2.out.keep b3)
  have HK3 := Lib.hid (HK2.out.keep b3)
  have HS3 := Lib.hid (HS2.out.keep b3)
  have HA3 := Lib.hid (HA2.out.keep b3)
  have HV3 := Lib.hid (HV2.out.keep b3)
  clear b3 B2 HB2 HK2 HS2 HA2 HV2
  cases al
  · have HR : Hid (st = ⟨x, -1, 11⟩) := Lib.hid (by rw [HE.out]; rfl)
    have ⟨y0, y1, y2, y3, y4, y5, y6⟩ := HB3.out.cells
    have ⟨r0, r1, r2, r3, r4, r5, r6⟩ := HS3.out.cells
    have ⟨z0, z1, z2, z3, z4, z5, z6⟩ := HS3.out.thaw
    simp only [zeroSt] at r0 r1 r2 r3 r4 r5 r6
    have hl : w.heap.size + 2 < w3.heap.size := HS3.out.lt
    go_wp2
    exact st_ret3 (y := x) (r := -1) (c := 11) rfl rfl rfl rfl (HS3.out.put x) Tryz.underlying39 rfl (by kernel_rfl) rfl ⟨by rw [HR.out], below_putSt B3.out (by omega) x⟩
  have ⟨t0, t1, t2, t3, t4, t5⟩ := HK3.out.cells
  have ⟨y0, y1, y2, y3, y4, y5, y6⟩ := HB3.out.cells
  go_wp2_with fail
  refine (HSt.out _).mono ?_
  clear y0 y1 y2 y3 y4 y5 y6 t0 t1 t2 t3 t4 t5
  rintro e w4 ⟨rfl, b4⟩
  have b5 : Below w3.heap.size w3 (w4.alloc (.cells #[.int .i64 y.g0, .int .i64 y.g1, .int .i64 y.g2, .int .i64 y.g3, .int .i64 y.l, .int .i64 y.s, .int .i64 y.d] 39)) := b4.alloc b4.size _
  have hy4 : w.heap.size + 2 < w4.heap.size := (HS3.out.keep b4).lt
  have HB4x : Hid (Below w.heap.size w w4) := Lib.hid (B3.out.trans (b4.mono B3.out.size))
  clear b4
  have B5 : Hid (Below w.heap.size w (w4.alloc (.cells #[.int .i64 y.g0, .int .i64 y.g1, .int .i64 y.g2, .int .i64 y.g3, .int .i64 y.l, .int .i64 y.s, .int .i64 y.d] 39))) := Lib.hid (B3.out.trans (b5.mono B3.out.size))
  have HB5 := Lib.hid (HB3.out.keep b5)
  have HK5 := Lib.hid (HK3.out.keep b5)
  have HS5 := Lib.hid (HS3.out.keep b5)
  have HA5 := Lib.hid (HA3.out.keep b5)
  have HV5 := Lib.hid (HV3.out.keep b5)
  clear b5 B3 HB3 HK3 HS3 HA3 HV3
  have HY5 : Hid (StAt (w4.alloc (.cells #[.int .i64 y.g0, .int .i64 y.g1, .int .i64 y.g2, .int .i64 y.g3, .int .i64 y.l, .int .i64 y.s, .int .i64 y.d] 39)) w4.heap.size y) := Lib.hid (heap_alloc_new _ _)
  by_cases hc : c = 0
  · subst hc
    have HR : Hid (st = ⟨y, r, 0⟩) := Lib.hid (by rw [HE.out]; simp)
    have ⟨y0, y1, y2, y3, y4, y5, y6⟩ := HY5.out.cells
    have ⟨t0, t1, t2, t3, t4, t5⟩ := HK5.out.cells
    have HS4 : Hid (StAt w4 (w.heap.size + 2) zeroSt) := Lib.hid (((below_one w4 (.cells #[.int .i64 y.g0, .int .i64 y.g1, .int .i64 y.g2, .int .i64 y.g3, .int .i64 y.l, .int .i64 y.s, .int .i64 y.d] 39)).block _ hy4).symm.trans HS5.out)
    have B4 : Hid (Below w.heap.size w w4) := Lib.hid (HB4x.out)
    have ⟨r0, r1, r2, r3, r4, r5, r6⟩ := HS4.out.cells
    have ⟨z0, z1, z2, z3, z4, z5, z6⟩ := HS4.out.thaw
    simp only [zeroSt] at r0 r1 r2 r3 r4 r5 r6
    go_wp2
    exact st_ret3 (y := y) (r := r) (c := 0) rfl rfl rfl rfl ((HS4.out.put y).keep (below_one _ _)) Tryz.underlying39 rfl (by kernel_rfl) rfl ⟨by rw [HR.out], (below_putSt B4.out (by omega) y).alloc (below_putSt B4.out (by omega) y).size _⟩
  · have HR : Hid (st = ⟨x, -1, c⟩) := Lib.hid (by rw [HE.out]; simp [hc])
    have ec : (c != 0) = true := by simp [hc]
    have ⟨y0, y1, y2, y3, y4, y5, y6⟩ := HB5.out.cells
    have HS4 : Hid (StAt w4 (w.heap.size + 2) zeroSt) := Lib.hid (((below_one w4 (.cells #[.int .i64 y.g0, .int .i64 y.g1, .int .i64 y.g2, .int .i64 y.g3, .int .i64 y.l, .int .i64 y.s, .int .i64 y.d] 39)).block _ hy4).symm.trans HS5.out)
    have B4 : Hid (Below w.heap.size w w4) := Lib.hid (HB4x.out)
    have HB4 : Hid (StAt w4 w.heap.size x) := Lib.hid (((below_one w4 (.cells #[.int .i64 y.g0, .int .i64 y.g1, .int .i64 y.g2, .int .i64 y.g3, .int .i64 y.l, .int .i64 y.s, .int .i64 y.d] 39)).block _ (by omega)).symm.trans HB5.out)
    have ⟨q0, q1, q2, q3, q4, q5, q6⟩ := HB4.out.cells
    have ⟨r0, r1, r2, r3, r4, r5, r6⟩ := HS4.out.cells
    have ⟨z0, z1, z2, z3, z4, z5, z6⟩ := HS4.out.thaw
    simp only [zeroSt] at r0 r1 r2 r3 r4 r5 r6
    go_wp2
    exact st_ret3 (y := x) (r := -1) (c := c) rfl rfl rfl rfl ((HS4.out.put x).keep (below_one _ _)) Tryz.underlying39 rfl (by kernel_rfl) rfl ⟨by rw [HR.out], (below_putSt B4.out (by omega) x).alloc (below_putSt B4.out (by omega) x).size _⟩

set_option maxHeartbeats 4000000 in
theorem spec_l05StepO (n : Int) (x : St) (t : Tok) (w : World) (hx : stOKB x = true) (ht : tokLP t) (k7 : t.k ≠ 7) : Calls Tryz.prog 66 #[.int .i64 n, stV x, tokV t] w (StpDone (stepP n x t) w) := by
  have HP := Lib.hid (fun w => spec_l05Profile n w)
  have HAl := Lib.hid (fun v w hv => spec_l05Allows n v t w hv ht)
  have HSt := Lib.hid (fun w => spec_l04Step x t w hx ht)
  have HRe := Lib.hid (fun v w => spec_l05Rest n v x w)
  have ⟨hB0, hT0, hS0, b0⟩ := step_blocks w x t
  have HB0 := Lib.hid hB0
  have HK0 := Lib.hid hT0
  have HS0 := Lib.hid hS0
  have B0 := Lib.hid b0
  have e7 : (t.k == 7) = false := by simp [k7]
  have HE : Hid (stepP n x t = if t.k = 8 then ⟨x, -1, 13⟩ else if t.k = 9 then ⟨x, -1, 10⟩ else if allowB n t = false then ⟨x, -1, 11⟩ else if (stepT x t).c ≠ 0 then ⟨x, -1, (stepT x t).c⟩ else if t.k = 1 ∧ t.a = 10 then (if restB n x = true then ⟨lineX n (stepT x t).y, (stepT x t).r, 0⟩ else ⟨x, -1, 14⟩) else ⟨(stepT x t).y, (stepT x t).r, 0⟩) := Lib.hid (by
    unfold stepP
    by_cases h8 : t.k = 8
    · rw [if_pos h8, if_pos h8]
    rw [if_neg h8, if_neg h8]
    by_cases h9 : t.k = 9
    · rw [if_pos (.inl h9), if_pos h9]
    · rw [if_neg (show ¬ (t.k = 9 ∨ (t.k = 7 ∧ findNo t.b t.c = 0)) by rintro (h | ⟨h, _⟩); exact h9 h; exact k7 h), if_neg h9])
  clear hB0 hT0 hS0 b0 k7 ht hx
  unfold PrDone prV at HP
  unfold StpDone stpV at HSt
  unfold prV at HAl HRe
  unfold stV at HSt HRe ⊢
  unfold tokV at HAl HSt ⊢
  generalize stepP n x t = st at *
  generalize allowB n t = al at *
  generalize stepT x t = so at *
  obtain ⟨y, r, c⟩ := so
  dsimp only at HE HSt
  go_enter Tryz.func66, Tryz.ntmps66
  go_wp2_with fail
  refine (HP.out _).mono ?_
  generalize ((w.alloc (.cells #[.int .i64 x.g0, .int .i64 x.g1, .int .i64 x.g2, .int .i64 x.g3, .int .i64 x.l, .int .i64 x.s, .int .i64 x.d] 39)).alloc (.cells #[.int .i64 t.k, .int .i64 t.a, .int .i64 t.b, .int .i64 t.c, .int .i64 t.p, .int .i64 t.n] 102)).alloc (.cells #[.int .i64 0, .int .i64 0, .int .i64 0, .int .i64 0, .int .i64 0, .int .i64 0, .int .i64 0] 39) = W0 at *
  rintro e w1 ⟨v, rfl, hv, b1⟩
  obtain ⟨gs, cs, rfl⟩ := hv.form
  have B1 : Hid (Below w.heap.size w (w1.alloc (.cells #[.string (prName n), .string (prHead n), .slice (some ⟨gs, 0, none⟩) 4 cs, .bool (prRight n), .bool (prShifts n), .bool (prSingle n), .bool (prReset n), .bool (prClear n)] 60))) := Lib.hid ((B0.out.trans (b1.mono B0.out.size)).alloc (B0.out.trans (b1.mono B0.out.size)).size _)
  have HB1 := Lib.hid ((HB0.out.keep b1).keep (below_one w1 (.cells #[.string (prName n), .string (prHead n), .slice (some ⟨gs, 0, none⟩) 4 cs, .bool (prRight n), .bool (prShifts n), .bool (prSingle n), .bool (prReset n), .bool (prClear n)] 60)))
  have HK1 := Lib.hid ((HK0.out.keep b1).keep (below_one w1 (.cells #[.string (prName n), .string (prHead n), .slice (some ⟨gs, 0, none⟩) 4 cs, .bool (prRight n), .bool (prShifts n), .bool (prSingle n), .bool (prReset n), .bool (prClear n)] 60)))
  have HS1 := Lib.hid ((HS0.out.keep b1).keep (below_one w1 (.cells #[.string (prName n), .string (prHead n), .slice (some ⟨gs, 0, none⟩) 4 cs, .bool (prRight n), .bool (prShifts n), .bool (prSingle n), .bool (prReset n), .bool (prClear n)] 60)))
  have HA1 : Hid (PrAt (w1.alloc (.cells #[.string (prName n), .string (prHead n), .slice (some ⟨gs, 0, none⟩) 4 cs, .bool (prRight n), .bool (prShifts n), .bool (prSingle n), .bool (prReset n), .bool (prClear n)] 60)) w1.heap.size n (.slice (some ⟨gs, 0, none⟩) 4 cs)) := Lib.hid (heap_alloc_new _ _)
  have HV1 := Lib.hid (hv.keep (below_one w1 (.cells #[.string (prName n), .string (prHead n), .slice (some ⟨gs, 0, none⟩) 4 cs, .bool (prRight n), .bool (prShifts n), .bool (prSingle n), .bool (prReset n), .bool (prClear n)] 60)))
  have HB1x := Lib.hid (HB0.out.keep b1)
  have HS1x := Lib.hid (HS0.out.keep b1)
  have B1x : Hid (Below w.heap.size w w1) := Lib.hid (B0.out.trans (b1.mono B0.out.size))
  clear b1 hv HB0 HK0 HS0
  have ⟨t0, t1, t2, t3, t4, t5⟩ := HK1.out.cells
  generalize hw2 : w1.alloc (.cells #[.string (prName n), .string (prHead n), .slice (some ⟨gs, 0, none⟩) 4 cs, .bool (prRight n), .bool (prShifts n), .bool (prSingle n), .bool (prReset n), .bool (prClear n)] 60) = w2 at *
  have B2 := B1
  have HB2 := HB1
  have HK2 := HK1
  have HS2 := HS1
  have HA2 := HA1
  have HV2 := HV1
  clear B1 HB1 HK1 HS1 HA1 HV1
  by_cases h8 : t.k = 8
  · have HR : Hid (st = ⟨x, -1, 13⟩) := Lib.hid (by rw [HE.out, if_pos h8])
    have e8 : (t.k == 8) = true := by simp [h8]
    subst hw2
    clear HE h8
    have HB3 : Hid (StAt w1 w.heap.size x) := HB1x
    have HS3 : Hid (StAt w1 (w.heap.size + 2) zeroSt) := HS1x
    have ⟨q0, q1, q2, q3, q4, q5, q6⟩ := HB3.out.cells
    have ⟨y0, y1, y2, y3, y4, y5, y6⟩ := HB2.out.cells
    have ⟨r0, r1, r2, r3, r4, r5, r6⟩ := HS3.out.cells
    have ⟨z0, z1, z2, z3, z4, z5, z6⟩ := HS3.out.thaw
    simp only [zeroSt] at r0 r1 r2 r3 r4 r5 r6
    have hl : w.heap.size + 2 < w1.heap.size := HS3.out.lt
    go_wp2
    exact st_ret3 (y := x) (r := -1) (c := 13) rfl rfl rfl rfl ((HS3.out.put x).keep (below_one _ _)) Tryz.underlying39 rfl (by kernel_rfl) rfl ⟨by rw [HR.out], (below_putSt B1x.out (by omega) x).alloc (below_putSt B1x.out (by omega) x).size _⟩
  rw [if_neg h8] at HE
  have e8 : (t.k == 8) = false := by simp [h8]
  by_cases h9 : t.k = 9
  · have HR : Hid (st = ⟨x, -1, 10⟩) := Lib.hid (by rw [HE.out, if_pos h9])
    have e9 : (t.k == 9) = true := by simp [h9]
    subst hw2
    clear HE h8 h9
    have HB3 : Hid (StAt w1 w.heap.size x) := HB1x
    have HS3 : Hid (StAt w1 (w.heap.size + 2) zeroSt) := HS1x
    have ⟨q0, q1, q2, q3, q4, q5, q6⟩ := HB3.out.cells
    have ⟨y0, y1, y2, y3, y4, y5, y6⟩ := HB2.out.cells
    have ⟨r0, r1, r2, r3, r4, r5, r6⟩ := HS3.out.cells
    have ⟨z0, z1, z2, z3, z4, z5, z6⟩ := HS3.out.thaw
    simp only [zeroSt] at r0 r1 r2 r3 r4 r5 r6
    have hl : w.heap.size + 2 < w1.heap.size := HS3.out.lt
    go_wp2
    exact st_ret3 (y := x) (r := -1) (c := 10) rfl rfl rfl rfl ((HS3.out.put x).keep (below_one _ _)) Tryz.underlying39 rfl (by kernel_rfl) rfl ⟨by rw [HR.out], (below_putSt B1x.out (by omega) x).alloc (below_putSt B1x.out (by omega) x).size _⟩
  rw [if_neg h9] at HE
  have e9 : (t.k == 9) = false := by simp [h9]
  subst hw2
  clear h8 h9
  have ⟨p0, p1, p2, p3, p4, p5, p6, p7⟩ := row8_cells HA2.out
  go_wp2_with fail
  refine (HAl.out _ _ HV2.out).mono ?_
  generalize w1.alloc (.cells #[.string (prName n), .string (prHead n), .slice (some ⟨gs, 0, none⟩) 4 cs, .bool (prRight n), .bool (prShifts n), .bool (prSingle n), .bool (prReset n), .bool (prClear n)] 60) = W1 at *
  clear p0 p1 p2 p3 p4 p5 p6 p7 t0 t1 t2 t3 t4 t5
  rintro e w3 ⟨rfl, b3⟩
  have B3 : Hid (Below w.heap.size w w3) := Lib.hid (B2.out.trans (b3.mono B2.out.size))
  have HB3 := Lib.hid (HB2.out.keep b3)
  have HK3 := Lib.hid (HK2.out.keep b3)
  have HS3 := Lib.hid (HS2.out.keep b3)
  have HA3 := Lib.hid (HA2.out.keep b3)
  have HV3 := Lib.hid (HV2.out.keep b3)
  clear b3 B2 HB2 HK2 HS2 HA2 HV2
  cases al
  · have HR : Hid (st = ⟨x, -1, 11⟩) := Lib.hid (by rw [HE.out]; rfl)
    have ⟨y0, y1, y2, y3, y4, y5, y6⟩ := HB3.out.cells
    have ⟨r0, r1, r2, r3, r4, r5, r6⟩ := HS3.out.cells
    have ⟨z0, z1, z2, z3, z4, z5, z6⟩ := HS3.out.thaw
    simp only [zeroSt] at r0 r1 r2 r3 r4 r5 r6
    have hl : w.heap.size + 2 < w3.heap.size := HS3.out.lt
    go_wp2
    exact st_ret3 (y := x) (r := -1) (c := 11) rfl rfl rfl rfl (HS3.out.put x) Tryz.underlying39 rfl (by kernel_rfl) rfl ⟨by rw [HR.out], below_putSt B3.out (by omega) x⟩
  have ⟨t0, t1, t2, t3, t4, t5⟩ := HK3.out.cells
  have ⟨y0, y1, y2, y3, y4, y5, y6⟩ := HB3.out.cells
  go_wp2_with fail
  refine (HSt.out _).mono ?_
  clear y0 y1 y2 y3 y4 y5 y6 t0 t1 t2 t3 t4 t5
  rintro e w4 ⟨rfl, b4⟩
  have b5 : Below w3.heap.size w3 (w4.alloc (.cells #[.int .i64 y.g0, .int .i64 y.g1, .int .i64 y.g2, .int .i64 y.g3, .int .i64 y.l, .int .i64 y.s, .int .i64 y.d] 39)) := b4.alloc b4.size _
  have hy4 : w.heap.size + 2 < w4.heap.size := (HS3.out.keep b4).lt
  have HB4x : Hid (Below w.heap.size w w4) := Lib.hid (B3.out.trans (b4.mono B3.out.size))
  clear b4
  have B5 : Hid (Below w.heap.size w (w4.alloc (.cells #[.int .i64 y.g0, .int .i64 y.g1, .int .i64 y.g2, .int .i64 y.g3, .int .i64 y.l, .int .i64 y.s, .int .i64 y.d] 39))) := Lib.hid (B3.out.trans (b5.mono B3.out.size))
  have HB5 := Lib.hid (HB3.out.keep b5)
  have HK5 := Lib.hid (HK3.out.keep b5)
  have HS5 := Lib.hid (HS3.out.keep b5)
  have HA5 := Lib.hid (HA3.out.keep b5)
  have HV5 := Lib.hid (HV3.out.keep b5)
  clear b5 B3 HB3 HK3 HS3 HA3 HV3
  have HY5 : Hid (StAt (w4.alloc (.cells #[.int .i64 y.g0, .int .i64 y.g1, .int .i64 y.g2, .int .i64 y.g3, .int .i64 y.l, .int .i64 y.s, .int .i64 y.d] 39)) w4.heap.size y) := Lib.hid (heap_alloc_new _ _)
  by_cases hc : c = 0
  · subst hc
    by_cases h1 : t.k = 1 ∧ t.a = 10
    · have e1 : (t.k == 1) = true := by simp [h1.1]
      have ea : (t.a == 10) = true := by simp [h1.2]
      cases hr : restB n x
      · have HR : Hid (st = ⟨x, -1, 14⟩) := Lib.hid (by rw [HE.out]; simp [h1, hr])
        rw [hr] at HRe
        clear h1 hr
        have ⟨p0, p1, p2, p3, p4, p5, p6, p7⟩ := row8_cells HA5.out
        have ⟨t0, t1, t2, t3, t4, t5⟩ := HK5.out.cells
        have ⟨y0, y1, y2, y3, y4, y5, y6⟩ := HB5.out.cells
        go_wp2_with fail
        refine (HRe.out _ _).mono ?_
        generalize w4.alloc (.cells #[.int .i64 y.g0, .int .i64 y.g1, .int .i64 y.g2, .int .i64 y.g3, .int .i64 y.l, .int .i64 y.s, .int .i64 y.d] 39) = W4 at *
        clear p0 p1 p2 p3 p4 p5 p6 p7 t0 t1 t2 t3 t4 t5 y0 y1 y2 y3 y4 y5 y6
        rintro e w6 ⟨rfl, b6⟩
        have B6 : Hid (Below w.heap.size w w6) := Lib.hid (B5.out.trans (b6.mono B5.out.size))
        have HB6 := Lib.hid (HB5.out.keep b6)
        have HK6 := Lib.hid (HK5.out.keep b6)
        have HS6 := Lib.hid (HS5.out.keep b6)
        have HA6 := Lib.hid (HA5.out.keep b6)
        have HV6 := Lib.hid (HV5.out.keep b6)
        clear b6 B5 HB5 HK5 HS5 HA5 HV5
        have ⟨y0, y1, y2, y3, y4, y5, y6⟩ := HB6.out.cells
        have ⟨r0, r1, r2, r3, r4, r5, r6⟩ := HS6.out.cells
        have ⟨z0, z1, z2, z3, z4, z5, z6⟩ := HS6.out.thaw
        simp only [zeroSt] at r0 r1 r2 r3 r4 r5 r6
        have hl : w.heap.size + 2 < w6.heap.size := HS6.out.lt
        go_wp2
        exact st_ret3 (y := x) (r := -1) (c := 14) rfl rfl rfl rfl (HS6.out.put x) Tryz.underlying39 rfl (by kernel_rfl) rfl ⟨by rw [HR.out], below_putSt B6.out (by omega) x⟩
      · have HR : Hid (st = ⟨lineX n y, r, 0⟩) := Lib.hid (by rw [HE.out]; simp [h1, hr])
        rw [hr] at HRe
        clear h1 hr
        have ⟨p0, p1, p2, p3, p4, p5, p6, p7⟩ := row8_cells HA5.out
        have ⟨t0, t1, t2, t3, t4, t5⟩ := HK5.out.cells
        have ⟨y0, y1, y2, y3, y4, y5, y6⟩ := HB5.out.cells
        go_wp2_with fail
        refine (HRe.out _ _).mono ?_
        generalize w4.alloc (.cells #[.int .i64 y.g0, .int .i64 y.g1, .int .i64 y.g2, .int .i64 y.g3, .int .i64 y.l, .int .i64 y.s, .int .i64 y.d] 39) = W4 at *
        clear p0 p1 p2 p3 p4 p5 p6 p7 t0 t1 t2 t3 t4 t5 y0 y1 y2 y3 y4 y5 y6
        rintro e w6 ⟨rfl, b6⟩
        have HY6 := Lib.hid (HY5.out.keep b6)
        have B6 : Hid (Below w.heap.size w w6) := Lib.hid (B5.out.trans (b6.mono B5.out.size))
        have HB6 := Lib.hid (HB5.out.keep b6)
        have HK6 := Lib.hid (HK5.out.keep b6)
        have HS6 := Lib.hid (HS5.out.keep b6)
        have HA6 := Lib.hid (HA5.out.keep b6)
        have HV6 := Lib.hid (HV5.out.keep b6)
        clear b6 B5 HB5 HK5 HS5 HA5 HV5
        have ⟨y0, y1, y2, y3, y4, y5, y6⟩ := HY6.out.cells
        have HLi := Lib.hid (fun w => spec_l05Line n y w)
        unfold StDone stV at HLi
        generalize lineX n y = z at *
        go_wp2_with fail
        refine (HLi.out _).mono ?_
        clear y0 y1 y2 y3 y4 y5 y6
        rintro e w7 ⟨rfl, b7⟩
        have HY7 := Lib.hid (HY6.out.keep b7)
        have B7 : Hid (Below w.heap.size w w7) := Lib.hid (B6.out.trans (b7.mono B6.out.size))
        have HB7 := Lib.hid (HB6.out.keep b7)
        have HK7 := Lib.hid (HK6.out.keep b7)
        have HS7 := Lib.hid (HS6.out.keep b7)
        have HA7 := Lib.hid (HA6.out.keep b7)
        have HV7 := Lib.hid (HV6.out.keep b7)
        clear b7 B6 HB6 HK6 HS6 HA6 HV6
        have HY8 := Lib.hid (HY7.out.put z)
        have HS8 : Hid (StAt (putSt w7 w4.heap.size z) (w.heap.size + 2) zeroSt) := Lib.hid (by
          unfold StAt
          rw [heap_putSt _ (by omega)]
          exact HS7.out)
        have B8 : Hid (Below w.heap.size w (putSt w7 w4.heap.size z)) := Lib.hid (below_putSt B7.out (by omega) z)
        have ⟨y0, y1, y2, y3, y4, y5, y6⟩ := HY7.out.cells
        have ⟨q0, q1, q2, q3, q4, q5, q6⟩ := HY7.out.thaw
        have ⟨r0, r1, r2, r3, r4, r5, r6⟩ := HS7.out.cells
        have ⟨z0, z1, z2, z3, z4, z5, z6⟩ := HS7.out.thaw
        simp only [zeroSt] at r0 r1 r2 r3 r4 r5 r6
        have hl7 : w4.heap.size < w7.heap.size := HY7.out.lt
        have hl8 : w.heap.size + 2 < w7.heap.size := HS7.out.lt
        have hne : w.heap.size + 2 ≠ w4.heap.size := by omega
        go_wp2
        exact st_ret3 (y := z) (r := r) (c := 0) rfl rfl rfl rfl (HS8.out.put z) Tryz.underlying39 rfl (by kernel_rfl) rfl ⟨by rw [HR.out], below_putSt B8.out (by omega) z⟩
    by_cases k1 : t.k = 1
    · have e1 : (t.k == 1) = true := by simp [k1]
      have ea : (t.a == 10) = false := by
        have : ¬ t.a = 10 := fun h => h1 ⟨k1, h⟩
        simp [this]
      have HR : Hid (st = ⟨y, r, 0⟩) := Lib.hid (by rw [HE.out]; simp [h1])
      clear h1 k1
      have ⟨y0, y1, y2, y3, y4, y5, y6⟩ := HY5.out.cells
      have ⟨t0, t1, t2, t3, t4, t5⟩ := HK5.out.cells
      have HS4 : Hid (StAt w4 (w.heap.size + 2) zeroSt) := Lib.hid (((below_one w4 (.cells #[.int .i64 y.g0, .int .i64 y.g1, .int .i64 y.g2, .int .i64 y.g3, .int .i64 y.l, .int .i64 y.s, .int .i64 y.d] 39)).block _ hy4).symm.trans HS5.out)
      have B4 : Hid (Below w.heap.size w w4) := Lib.hid (HB4x.out)
      have ⟨r0, r1, r2, r3, r4, r5, r6⟩ := HS4.out.cells
      have ⟨z0, z1, z2, z3, z4, z5, z6⟩ := HS4.out.thaw
      simp only [zeroSt] at r0 r1 r2 r3 r4 r5 r6
      go_wp2
      exact st_ret3 (y := y) (r := r) (c := 0) rfl rfl rfl rfl ((HS4.out.put y).keep (below_one _ _)) Tryz.underlying39 rfl (by kernel_rfl) rfl ⟨by rw [HR.out], (below_putSt B4.out (by omega) y).alloc (below_putSt B4.out (by omega) y).size _⟩
    · have e1 : (t.k == 1) = false := by simp [k1]
      have HR : Hid (st = ⟨y, r, 0⟩) := Lib.hid (by rw [HE.out]; simp [h1])
      clear h1 k1
      have ⟨y0, y1, y2, y3, y4, y5, y6⟩ := HY5.out.cells
      have ⟨t0, t1, t2, t3, t4, t5⟩ := HK5.out.cells
      have HS4 : Hid (StAt w4 (w.heap.size + 2) zeroSt) := Lib.hid (((below_one w4 (.cells #[.int .i64 y.g0, .int .i64 y.g1, .int .i64 y.g2, .int .i64 y.g3, .int .i64 y.l, .int .i64 y.s, .int .i64 y.d] 39)).block _ hy4).symm.trans HS5.out)
      have B4 : Hid (Below w.heap.size w w4) := Lib.hid (HB4x.out)
      have ⟨r0, r1, r2, r3, r4, r5, r6⟩ := HS4.out.cells
      have ⟨z0, z1, z2, z3, z4, z5, z6⟩ := HS4.out.thaw
      simp only [zeroSt] at r0 r1 r2 r3 r4 r5 r6
      go_wp2
      exact st_ret3 (y := y) (r := r) (c := 0) rfl rfl rfl rfl ((HS4.out.put y).keep (below_one _ _)) Tryz.underlying39 rfl (by kernel_rfl) rfl ⟨by rw [HR.out], (below_putSt B4.out (by omega) y).alloc (below_putSt B4.out (by omega) y).size _⟩
  · have HR : Hid (st = ⟨x, -1, c⟩) := Lib.hid (by rw [HE.out]; simp [hc])
    have ec : (c != 0) = true := by simp [hc]
    have ⟨y0, y1, y2, y3, y4, y5, y6⟩ := HB5.out.cells
    have HS4 : Hid (StAt w4 (w.heap.size + 2) zeroSt) := Lib.hid (((below_one w4 (.cells #[.int .i64 y.g0, .int .i64 y.g1, .int .i64 y.g2, .int .i64 y.g3, .int .i64 y.l, .int .i64 y.s, .int .i64 y.d] 39)).block _ hy4).symm.trans HS5.out)
    have B4 : Hid (Below w.heap.size w w4) := Lib.hid (HB4x.out)
    have HB4 : Hid (StAt w4 w.heap.size x) := Lib.hid (((below_one w4 (.cells #[.int .i64 y.g0, .int .i64 y.g1, .int .i64 y.g2, .int .i64 y.g3, .int .i64 y.l, .int .i64 y.s, .int .i64 y.d] 39)).block _ (by omega)).symm.trans HB5.out)
    have ⟨q0, q1, q2, q3, q4, q5, q6⟩ := HB4.out.cells
    have ⟨r0, r1, r2, r3, r4, r5, r6⟩ := HS4.out.cells
    have ⟨z0, z1, z2, z3, z4, z5, z6⟩ := HS4.out.thaw
    simp only [zeroSt] at r0 r1 r2 r3 r4 r5 r6
    go_wp2
    exact st_ret3 (y := x) (r := -1) (c := c) rfl rfl rfl rfl ((HS4.out.put x).keep (below_one _ _)) Tryz.underlying39 rfl (by kernel_rfl) rfl ⟨by rw [HR.out], (below_putSt B4.out (by omega) x).alloc (below_putSt B4.out (by omega) x).size _⟩

end Go.Proofs.YtbamjhldebobhaaGreatDoor

namespace Go.Proofs.YtbamjhldebobhaaGreatDoor
open Go.RowKit Go.Sort

theorem spec_l05Step (n : Int) (x : St) (t : Tok) (w : World) (hx : stOKB x = true) (ht : tokLP t) : Calls Tryz.prog 66 #[.int .i64 n, stV x, tokV t] w (StpDone (stepP n x t) w) := by
  by_cases h : t.k = 7
  · exact spec_l05Step7 n x t w hx ht h
  · exact spec_l05StepO n x t w hx ht h
theorem stepP_code {n : Int} {x : St} {t : Tok} (h : (stepP n x t).c ≠ 0) : (stepP n x t).y = x ∧ (stepP n x t).r = -1 := by
  unfold stepP at h ⊢
  repeat' split
  all_goals first | exact ⟨rfl, rfl⟩ | (exfalso; simp_all)
theorem stepP_r {n : Int} {x : St} {t : Tok} (ht : tokLP t) : (stepP n x t).r = -1 ∨ 0 ≤ (stepP n x t).r := by
  have h := stepT_r (x := x) ht
  unfold stepP
  repeat' split
  all_goals first | exact .inl rfl | exact h
/-- StepProfile: the step, or what is told of bad arguments. -/
def spP (n : Int) (x : St) (t : Tok) : Stp := if proB n = true then (if stOKB x = true ∧ tokOKB t = true then stepP n x t else ⟨zeroSt, -1, 1⟩) else ⟨zeroSt, -1, 5⟩
def SpDone (n : Int) (x : St) (t : Tok) (w : World) (e : Ending) (w' : World) : Prop := e = .returned (toldV (spP n x t)) ∧ Below w.heap.size w w'

end Go.Proofs.YtbamjhldebobhaaGreatDoor

namespace Go.Proofs.YtbamjhldebobhaaGreatDoor
open Go.RowKit Go.Sort

set_option maxHeartbeats 400000 in
theorem impl_namesSet (t : Tok) (w : World) (ht : TabSets w) (hb : 1 ≤ t.b) (hb3 : t.b ≤ 3) : Calls Tryz.prog 185 #[tokV t] w fun e w' => e = .returned (.bool (decide (findNo t.b t.c ≠ 0))) ∧ Below w.heap.size w w' := by
  have B0 := Lib.hid (below_one w (.cells #[.int .i64 t.k, .int .i64 t.a, .int .i64 t.b, .int .i64 t.c, .int .i64 t.p, .int .i64 t.n] 102))
  have HF := Lib.hid (impl_FindSet t.b t.c (w.alloc (.cells #[.int .i64 t.k, .int .i64 t.a, .int .i64 t.b, .int .i64 t.c, .int .i64 t.p, .int .i64 t.n] 102)) (ht.keep B0.out))
  have hi : inB t.b 1 3 = true := by simp [inB]; omega
  clear ht
  unfold tokV
  by_cases hf : findNo t.b t.c = 0
  · have HE : Hid (decide (findNo t.b t.c ≠ 0) = false) := Lib.hid (by simp [hf])
    rw [fsV_bad t.b t.c 5 (by simp [fsC, hi, hf]) (by decide)] at HF
    generalize decide (findNo t.b t.c ≠ 0) = q at *
    clear hf hi
    go_enter Tryz.func185, Tryz.ntmps185
    go_wp2_with fail
    refine HF.out.mono ?_
    rintro e w1 ⟨rfl, rfl⟩
    go_wp2
    go_ret
    exact ⟨ret_bool HE.out.symm, B0.out⟩
  · have HE : Hid (decide (findNo t.b t.c ≠ 0) = true) := Lib.hid (by simp [hf])
    rw [fsV_ok t.b t.c (by simp [fsC, hi, hf])] at HF
    generalize decide (findNo t.b t.c ≠ 0) = q at *
    generalize findNo t.b t.c = fn at *
    clear hf hi
    go_enter Tryz.func185, Tryz.ntmps185
    go_wp2_with fail
    refine HF.out.mono ?_
    rintro e w1 ⟨rfl, rfl⟩
    go_wp2
    go_ret
    exact ⟨ret_bool HE.out.symm, B0.out⟩

set_option maxHeartbeats 400000 in
theorem impl_endsLine (t : Tok) (w : World) : Calls Tryz.prog 80 #[tokV t] w fun e w' => e = .returned (.bool (decide (t.k = 1) && decide (t.a = 10))) ∧ Below w.heap.size w w' := by
  have B0 := Lib.hid (below_one w (.cells #[.int .i64 t.k, .int .i64 t.a, .int .i64 t.b, .int .i64 t.c, .int .i64 t.p, .int .i64 t.n] 102))
  unfold tokV
  by_cases h1 : t.k = 1
  · have HE : Hid ((t.a == 10) = (decide (t.k = 1) && decide (t.a = 10))) := Lib.hid (by rw [decide_eq_true h1]; rfl)
    have e1 : (t.k == 1) = true := by simp [h1]
    generalize (decide (t.k = 1) && decide (t.a = 10)) = q at *
    clear h1
    go_enter Tryz.func80, Tryz.ntmps80
    go_wp2
    go_ret
    exact ⟨ret_bool HE.out, B0.out⟩
  · have HE : Hid (false = (decide (t.k = 1) && decide (t.a = 10))) := Lib.hid (by rw [decide_eq_false h1]; rfl)
    have e1 : (t.k == 1) = false := by simp [h1]
    generalize (decide (t.k = 1) && decide (t.a = 10)) = q at *
    clear h1
    go_enter Tryz.func80, Tryz.ntmps80
    go_wp2
    go_ret
    exact ⟨ret_bool HE.out, B0.out⟩

/-- The code of a token that is refused whatever the state is. -/
def refC (n : Int) (t : Tok) : Int := if t.k = 8 then 13 else if t.k = 9 ∨ (t.k = 7 ∧ findNo t.b t.c = 0) then 10 else if allowB n t = false then 11 else 0
def RfDone (n : Int) (t : Tok) (g C : Nat) (w : World) (e : Ending) (w' : World) : Prop := e = .returned (.int .i64 (refC n t)) ∧ GuOK w' g n C ∧ Only g w w'

set_option maxHeartbeats 1000000 in
theorem impl_refusal (n : Int) (t : Tok) (g C : Nat) (w : World) (h : GuOK w g n C) (hg : g < C) (hC : C ≤ w.heap.size) (ht : ∀ W, Only g w W → TabSets W) (hn : proB n = true) (hk : tokLP t) :
    Calls Tryz.prog 156 #[.pointer (some ⟨g, 0, none⟩), tokV t] w (RfDone n t g C w) := by
  have B0 := Lib.hid (below_one w (.cells #[.int .i64 t.k, .int .i64 t.a, .int .i64 t.b, .int .i64 t.c, .int .i64 t.p, .int .i64 t.n] 102))
  have K0 : Hid (TokAt (w.alloc (.cells #[.int .i64 t.k, .int .i64 t.a, .int .i64 t.b, .int .i64 t.c, .int .i64 t.p, .int .i64 t.n] 102)) w.heap.size t) := Lib.hid (heap_alloc_new _ _)
  have hgl : g < w.heap.size := by omega
  have O0 : Hid (Only g w (w.alloc (.cells #[.int .i64 t.k, .int .i64 t.a, .int .i64 t.b, .int .i64 t.c, .int .i64 t.p, .int .i64 t.n] 102))) := Lib.hid (only_below hgl B0.out)
  have G0 := Lib.hid (h.keep B0.out)
  have hC0 : C ≤ (w.alloc (.cells #[.int .i64 t.k, .int .i64 t.a, .int .i64 t.b, .int .i64 t.c, .int .i64 t.p, .int .i64 t.n] 102)).heap.size := by simp; omega
  have HA := Lib.hid (fun W (hG : GuOK W g n C) (hCW : C ≤ W.heap.size) (hT : ∀ W', Only g W W' → TabSets W') => impl_allows n t g C W hG hg hCW hT hn hk)
  unfold GaDone at HA
  have HT := Lib.hid ht
  clear ht h hn
  unfold tokV at HA ⊢
  by_cases h8 : t.k = 8
  · have HE : Hid (refC n t = 13) := Lib.hid (by simp [refC, h8])
    have e8 : (t.k == 8) = true := by simp [h8]
    clear h8
    go_enter Tryz.func156, Tryz.ntmps156
    go_wp2
    go_ret
    exact ⟨ret_int HE.out.symm, G0.out, O0.out⟩
  have e8 : (t.k == 8) = false := by simp [h8]
  by_cases h9 : t.k = 9
  · have HE : Hid (refC n t = 10) := Lib.hid (by simp [refC, h9])
    have e9 : (t.k == 9) = true := by simp [h9]
    clear h8 h9
    go_enter Tryz.func156, Tryz.ntmps156
    go_wp2
    go_ret
    exact ⟨ret_int HE.out.symm, G0.out, O0.out⟩
  have e9 : (t.k == 9) = false := by simp [h9]
  by_cases h7 : t.k = 7
  · have e7 : (t.k == 7) = true := by simp [h7]
    have hb : 1 ≤ t.b ∧ t.b ≤ 3 := by
      obtain ⟨_, hk⟩ := hk
      omega
    have HNs := Lib.hid (fun W hT => impl_namesSet t W hT hb.1 hb.2)
    unfold tokV at HNs
    have HR : Hid (refC n t = if findNo t.b t.c = 0 then 10 else if allowB n t = false then 11 else 0) := Lib.hid (by
      unfold refC
      rw [if_neg h8]
      by_cases hf : findNo t.b t.c = 0
      · rw [if_pos (.inr ⟨h7, hf⟩), if_pos hf]
      · rw [if_neg (by rintro (h | ⟨_, h⟩); exact h9 h; exact hf h), if_neg hf])
    clear h8 h9 h7 hb hk
    have ⟨t0, t1, t2, t3, t4, t5⟩ := K0.out.cells
    by_cases hf : findNo t.b t.c = 0
    · have HE : Hid (refC n t = 10) := Lib.hid (by rw [HR.out, if_pos hf])
      rw [show decide (findNo t.b t.c ≠ 0) = false by simp [hf]] at HNs
      clear hf HR
      go_enter Tryz.func156, Tryz.ntmps156
      go_wp2_with fail
      refine (HNs.out _ (HT.out _ O0.out)).mono ?_
      generalize w.alloc (.cells #[.int .i64 t.k, .int .i64 t.a, .int .i64 t.b, .int .i64 t.c, .int .i64 t.p, .int .i64 t.n] 102) = W0 at *
      rintro e w1 ⟨rfl, b1⟩
      have O1 : Hid (Only g w w1) := Lib.hid (O0.out.trans (only_below (by omega) b1))
      have G1 := Lib.hid (G0.out.keep b1)
      clear b1 t0 t1 t2 t3 t4 t5
      go_wp2
      go_ret
      exact ⟨ret_int HE.out.symm, G1.out, O1.out⟩
    · rw [if_neg hf] at HR
      rw [show decide (findNo t.b t.c ≠ 0) = true by simp [hf]] at HNs
      clear hf
      generalize allowB n t = al at *
      go_enter Tryz.func156, Tryz.ntmps156
      go_wp2_with fail
      refine (HNs.out _ (HT.out _ O0.out)).mono ?_
      generalize w.alloc (.cells #[.int .i64 t.k, .int .i64 t.a, .int .i64 t.b, .int .i64 t.c, .int .i64 t.p, .int .i64 t.n] 102) = W0 at *
      clear t0 t1 t2 t3 t4 t5
      rintro e w1 ⟨rfl, b1⟩
      have hC1 : C ≤ w1.heap.size := Nat.le_trans hC0 b1.size
      have O1 : Hid (Only g w w1) := Lib.hid (O0.out.trans (only_below (by omega) b1))
      have G1 := Lib.hid (G0.out.keep b1)
      have K1 := Lib.hid (K0.out.keep b1)
      clear b1
      have ⟨t0, t1, t2, t3, t4, t5⟩ := K1.out.cells
      go_wp2_with fail
      refine (HA.out _ G1.out hC1 (fun W' o => HT.out W' (O1.out.trans o))).mono ?_
      clear t0 t1 t2 t3 t4 t5
      rintro e w2 ⟨rfl, hG2, o2⟩
      have HD : Hid (GuOK w2 g n C ∧ Only g w w2) := Lib.hid ⟨hG2, O1.out.trans o2⟩
      clear hG2 o2
      cases al
      · have HE : Hid (refC n t = 11) := Lib.hid (by rw [HR.out]; rfl)
        go_wp2
        go_ret
        exact ⟨ret_int HE.out.symm, HD.out⟩
      · have HE : Hid (refC n t = 0) := Lib.hid (by rw [HR.out]; rfl)
        go_wp2
        go_ret
        exact ⟨ret_int HE.out.symm, HD.out⟩
  · have e7 : (t.k == 7) = false := by simp [h7]
    have HR : Hid (refC n t = if allowB n t = false then 11 else 0) := Lib.hid (by
      unfold refC
      rw [if_neg h8, if_neg (by rintro (h | ⟨h, _⟩); exact h9 h; exact h7 h)])
    clear h8 h9 h7 hk
    have ⟨t0, t1, t2, t3, t4, t5⟩ := K0.out.cells
    generalize allowB n t = al at *
    go_enter Tryz.func156, Tryz.ntmps156
    go_wp2_with fail
    refine (HA.out _ G0.out hC0 (fun W' o => HT.out W' (O0.out.trans o))).mono ?_
    generalize w.alloc (.cells #[.int .i64 t.k, .int .i64 t.a, .int .i64 t.b, .int .i64 t.c, .int .i64 t.p, .int .i64 t.n] 102) = W0 at *
    clear t0 t1 t2 t3 t4 t5
    rintro e w2 ⟨rfl, hG2, o2⟩
    have HD : Hid (GuOK w2 g n C ∧ Only g w w2) := Lib.hid ⟨hG2, O0.out.trans o2⟩
    clear hG2 o2
    cases al
    · have HE : Hid (refC n t = 11) := Lib.hid (by rw [HR.out]; rfl)
      go_wp2
      go_ret
      exact ⟨ret_int HE.out.symm, HD.out⟩
    · have HE : Hid (refC n t = 0) := Lib.hid (by rw [HR.out]; rfl)
      go_wp2
      go_ret
      exact ⟨ret_int HE.out.symm, HD.out⟩

end Go.Proofs.YtbamjhldebobhaaGreatDoor

namespace Go.Proofs.YtbamjhldebobhaaGreatDoor
open Go.RowKit Go.Sort
variable {ζ : RZ}

def RfDoneR (ζ : RZ) (n : Int) (t : Tok) (g C : Nat) (w : World) (e : Ending) (w' : World) : Prop := e = .returned (.int .i64 (refC n t)) ∧ GRk ζ w' g n C ∧ Only g w w'

set_option maxHeartbeats 1000000 in
theorem impl_refusalR (n : Int) (t : Tok) (g C : Nat) (w : World) (h : GRk ζ w g n C) (hg : g < C) (hC : C ≤ w.heap.size) (ht : ∀ W, Only g w W → TabSets W) (hn : proB n = true) (hk : tokLP t) :
    Calls Tryz.prog 156 #[.pointer (some ⟨g, 0, none⟩), tokV t] w (RfDoneR ζ n t g C w) := by
  have B0 := Lib.hid (below_one w (.cells #[.int .i64 t.k, .int .i64 t.a, .int .i64 t.b, .int .i64 t.c, .int .i64 t.p, .int .i64 t.n] 102))
  have K0 : Hid (TokAt (w.alloc (.cells #[.int .i64 t.k, .int .i64 t.a, .int .i64 t.b, .int .i64 t.c, .int .i64 t.p, .int .i64 t.n] 102)) w.heap.size t) := Lib.hid (heap_alloc_new _ _)
  have hgl : g < w.heap.size := by omega
  have O0 : Hid (Only g w (w.alloc (.cells #[.int .i64 t.k, .int .i64 t.a, .int .i64 t.b, .int .i64 t.c, .int .i64 t.p, .int .i64 t.n] 102))) := Lib.hid (only_below hgl B0.out)
  have G0 := Lib.hid (h.keep B0.out)
  have hC0 : C ≤ (w.alloc (.cells #[.int .i64 t.k, .int .i64 t.a, .int .i64 t.b, .int .i64 t.c, .int .i64 t.p, .int .i64 t.n] 102)).heap.size := by simp; omega
  have HA := Lib.hid (fun W (hG : GRk ζ W g n C) (hCW : C ≤ W.heap.size) (hT : ∀ W', Only g W W' → TabSets W') => impl_allowsR (ζ := ζ) n t g C W hG hg hCW hT hn hk)
  unfold GaDoneR at HA
  have HT := Lib.hid ht
  clear ht h hn
  unfold tokV at HA ⊢
  by_cases h8 : t.k = 8
  · have HE : Hid (refC n t = 13) := Lib.hid (by simp [refC, h8])
    have e8 : (t.k == 8) = true := by simp [h8]
    clear h8
    go_enter Tryz.func156, Tryz.ntmps156
    go_wp2
    go_ret
    exact ⟨ret_int HE.out.symm, G0.out, O0.out⟩
  have e8 : (t.k == 8) = false := by simp [h8]
  by_cases h9 : t.k = 9
  · have HE : Hid (refC n t = 10) := Lib.hid (by simp [refC, h9])
    have e9 : (t.k == 9) = true := by simp [h9]
    clear h8 h9
    go_enter Tryz.func156, Tryz.ntmps156
    go_wp2
    go_ret
    exact ⟨ret_int HE.out.symm, G0.out, O0.out⟩
  have e9 : (t.k == 9) = false := by simp [h9]
  by_cases h7 : t.k = 7
  · have e7 : (t.k == 7) = true := by simp [h7]
    have hb : 1 ≤ t.b ∧ t.b ≤ 3 := by
      obtain ⟨_, hk⟩ := hk
      omega
    have HNs := Lib.hid (fun W hT => impl_namesSet t W hT hb.1 hb.2)
    unfold tokV at HNs
    have HR : Hid (refC n t = if findNo t.b t.c = 0 then 10 else if allowB n t = false then 11 else 0) := Lib.hid (by
      unfold refC
      rw [if_neg h8]
      by_cases hf : findNo t.b t.c = 0
      · rw [if_pos (.inr ⟨h7, hf⟩), if_pos hf]
      · rw [if_neg (by rintro (h | ⟨_, h⟩); exact h9 h; exact hf h), if_neg hf])
    clear h8 h9 h7 hb hk
    have ⟨t0, t1, t2, t3, t4, t5⟩ := K0.out.cells
    by_cases hf : findNo t.b t.c = 0
    · have HE : Hid (refC n t = 10) := Lib.hid (by rw [HR.out, if_pos hf])
      rw [show decide (findNo t.b t.c ≠ 0) = false by simp [hf]] at HNs
      clear hf HR
      go_enter Tryz.func156, Tryz.ntmps156
      go_wp2_with fail
      refine (HNs.out _ (HT.out _ O0.out)).mono ?_
      generalize w.alloc (.cells #[.int .i64 t.k, .int .i64 t.a, .int .i64 t.b, .int .i64 t.c, .int .i64 t.p, .int .i64 t.n] 102) = W0 at *
      rintro e w1 ⟨rfl, b1⟩
      have O1 : Hid (Only g w w1) := Lib.hid (O0.out.trans (only_below (by omega) b1))
      have G1 := Lib.hid (G0.out.keep b1)
      clear b1 t0 t1 t2 t3 t4 t5
      go_wp2
      go_ret
      exact ⟨ret_int HE.out.symm, G1.out, O1.out⟩
    · rw [if_neg hf] at HR
      rw [show decide (findNo t.b t.c ≠ 0) = true by simp [hf]] at HNs
      clear hf
      generalize allowB n t = al at *
      go_enter Tryz.func156, Tryz.ntmps156
      go_wp2_with fail
      refine (HNs.out _ (HT.out _ O0.out)).mono ?_
      generalize w.alloc (.cells #[.int .i64 t.k, .int .i64 t.a, .int .i64 t.b, .int .i64 t.c, .int .i64 t.p, .int .i64 t.n] 102) = W0 at *
      clear t0 t1 t2 t3 t4 t5
      rintro e w1 ⟨rfl, b1⟩
      have hC1 : C ≤ w1.heap.size := Nat.le_trans hC0 b1.size
      have O1 : Hid (Only g w w1) := Lib.hid (O0.out.trans (only_below (by omega) b1))
      have G1 := Lib.hid (G0.out.keep b1)
      have K1 := Lib.hid (K0.out.keep b1)
      clear b1
      have ⟨t0, t1, t2, t3, t4, t5⟩ := K1.out.cells
      go_wp2_with fail
      refine (HA.out _ G1.out hC1 (fun W' o => HT.out W' (O1.out.trans o))).mono ?_
      clear t0 t1 t2 t3 t4 t5
      rintro e w2 ⟨rfl, hG2, o2⟩
      have HD : Hid (GRk ζ w2 g n C ∧ Only g w w2) := Lib.hid ⟨hG2, O1.out.trans o2⟩
      clear hG2 o2
      cases al
      · have HE : Hid (refC n t = 11) := Lib.hid (by rw [HR.out]; rfl)
        go_wp2
        go_ret
        exact ⟨ret_int HE.out.symm, HD.out⟩
      · have HE : Hid (refC n t = 0) := Lib.hid (by rw [HR.out]; rfl)
        go_wp2
        go_ret
        exact ⟨ret_int HE.out.symm, HD.out⟩
  · have e7 : (t.k == 7) = false := by simp [h7]
    have HR : Hid (refC n t = if allowB n t = false then 11 else 0) := Lib.hid (by
      unfold refC
      rw [if_neg h8, if_neg (by rintro (h | ⟨h, _⟩); exact h9 h; exact h7 h)])
    clear h8 h9 h7 hk
    have ⟨t0, t1, t2, t3, t4, t5⟩ := K0.out.cells
    generalize allowB n t = al at *
    go_enter Tryz.func156, Tryz.ntmps156
    go_wp2_with fail
    refine (HA.out _ G0.out hC0 (fun W' o => HT.out W' (O0.out.trans o))).mono ?_
    generalize w.alloc (.cells #[.int .i64 t.k, .int .i64 t.a, .int .i64 t.b, .int .i64 t.c, .int .i64 t.p, .int .i64 t.n] 102) = W0 at *
    clear t0 t1 t2 t3 t4 t5
    rintro e w2 ⟨rfl, hG2, o2⟩
    have HD : Hid (GRk ζ w2 g n C ∧ Only g w w2) := Lib.hid ⟨hG2, O0.out.trans o2⟩
    clear hG2 o2
    cases al
    · have HE : Hid (refC n t = 11) := Lib.hid (by rw [HR.out]; rfl)
      go_wp2
      go_ret
      exact ⟨ret_int HE.out.symm, HD.out⟩
    · have HE : Hid (refC n t = 0) := Lib.hid (by rw [HR.out]; rfl)
      go_wp2
      go_ret
      exact ⟨ret_int HE.out.symm, HD.out⟩

end Go.Proofs.YtbamjhldebobhaaGreatDoor

namespace Go.Proofs.YtbamjhldebobhaaGreatDoor
open Go.RowKit Go.Sort
variable {κ : RK}

theorem mvDone_sameR {x : St} {p : Stp} {b : Nat} {w w' : World} {r : Int} (h : p = ⟨x, r, 0⟩) (hr : 0 ≤ r) (hm : MRt κ w b x) (hb : Below w.heap.size w w') : MvDoneR κ p b w (.returned (.tuple #[.int .i64 r, .bool true, .int .i64 0])) w' :=
  ⟨by rw [mv_some h hr], by rw [h]; exact hm.keep hb, only_below hm.lt hb⟩

theorem MvDoneR.from {p : Stp} {b : Nat} {w w1 w2 : World} {e : Ending} (h : MvDoneR κ p b w1 e w2) (hb : b < w.heap.size) (hw : Below w.heap.size w w1) : MvDoneR κ p b w e w2 :=
  ⟨h.1, h.2.1, (only_below hb hw).trans h.2.2⟩

set_option maxHeartbeats 1000000 in
set_option maxRecDepth 100000 in
theorem impl_spaceR (x : St) (b : Nat) (w : World) (h : MRt κ w b x) (ht : TabM w) (hx : stOKB x = true) : Calls Tryz.prog 188 #[.pointer (some ⟨b, 10, none⟩)] w (MvDoneR κ (spaceP x) b w) := by
  obtain ⟨h1, h2, h3⟩ := stOK_parts hx
  have HF := Lib.hid (fun w h => impl_setForR (κ := κ) x b 0 w h h2)
  rw [show ((0 : Int) == 128) = false from rfl] at HF
  obtain ⟨k, hk, k8⟩ := setAt_nat h1 false
  rw [hk] at HF
  have HG := Lib.hid (fun w h ht => impl_takeR (κ := κ) x b false 32 w h ht hx (by decide) (by decide))
  rw [show sideNo false = 0 from rfl] at HG
  have HP := Lib.hid (fun w h => impl_pendingR (κ := κ) x b w h)
  rw [pend_eq hx] at HP
  have HM := Lib.hid h
  have HT := Lib.hid ht
  have hb : b < w.heap.size := h.lt
  have HS : Hid (spaceP x = if x.d = 0 ∧ setKind (k : Int) = 2 ∧ (k : Int) ≠ 0 then graphic x 32 false else if pendB x = true then ⟨x, -1, 13⟩ else ⟨x, 32, 0⟩) := Lib.hid (by rw [spaceP, hk])
  have ⟨y0, y1, y2, y3, y4, y5, y6⟩ := h.cells
  have u1 : (0 : Int) ≤ (k : Int) := by omega
  have u2 : (k : Int) < 9 := by omega
  clear h ht hx h1 h2 h3 hk
  unfold MvDoneR mvV at HG
  by_cases z : x.d = 0
  · have ez : (x.d == 0) = true := by simpa using z
    have hk2 : (kind0 (k : Int) == 2) = true ↔ (setKind (k : Int) = 2 ∧ (k : Int) ≠ 0) := by
      unfold kind0
      by_cases k0 : (k : Int) = 0
      · rw [if_pos k0]; simp [k0]
      · rw [if_neg k0]
        exact ⟨fun h => ⟨by simpa using h, k0⟩, fun h => by simpa using h.1⟩
    cases h2 : (kind0 (k : Int) == 2)
    · have hn : ¬ (x.d = 0 ∧ setKind (k : Int) = 2 ∧ (k : Int) ≠ 0) := fun h => by rw [hk2.2 h.2] at h2; cases h2
      clear hk2
      cases hp : pendB x
      · have HE : Hid (spaceP x = ⟨x, 32, 0⟩) := Lib.hid (by rw [HS.out, if_neg hn, if_neg (by rw [hp]; decide)])
        rw [hp] at HP
        clear hn z HS
        go_enter Tryz.func188, Tryz.ntmps188
        go_wp2_with fail
        refine (HF.out w HM.out).mono ?_
        rintro e w1 ⟨rfl, b1⟩
        have c1 := (HT.out.keep b1).kind k k8
        generalize kind0 (k : Int) = kd at *
        clear y0 y1 y2 y3 y4 y5 y6
        go_wp2_with fail
        refine (HP.out w1 (HM.out.keep b1)).mono ?_
        rintro e w2 ⟨rfl, rfl⟩
        go_wp2
        go_ret3
        exact mvDone_sameR HE.out (by decide) HM.out b1
      · have HE : Hid (spaceP x = ⟨x, -1, 13⟩) := Lib.hid (by rw [HS.out, if_neg hn, if_pos hp])
        rw [hp] at HP
        clear hn z HS
        go_enter Tryz.func188, Tryz.ntmps188
        go_wp2_with fail
        refine (HF.out w HM.out).mono ?_
        rintro e w1 ⟨rfl, b1⟩
        have c1 := (HT.out.keep b1).kind k k8
        generalize kind0 (k : Int) = kd at *
        clear y0 y1 y2 y3 y4 y5 y6
        go_wp2_with fail
        refine (HP.out w1 (HM.out.keep b1)).mono ?_
        rintro e w2 ⟨rfl, rfl⟩
        go_wp2
        go_ret3
        exact mvDone_noneR HE.out HM.out b1
    · have HE : Hid (spaceP x = graphic x 32 false) := Lib.hid (by rw [HS.out, if_pos ⟨z, hk2.1 h2⟩])
      clear hk2 z HS
      generalize graphic x 32 false = g at *
      have HV : Hid (mvV g = .tuple #[.int .i64 (toldR g), .bool (toldB g), .int .i64 g.c]) := Lib.hid rfl
      generalize toldR g = tr at *
      generalize toldB g = tb at *
      go_enter Tryz.func188, Tryz.ntmps188
      go_wp2_with fail
      refine (HF.out w HM.out).mono ?_
      rintro e w1 ⟨rfl, b1⟩
      have c1 := (HT.out.keep b1).kind k k8
      generalize kind0 (k : Int) = kd at *
      clear y0 y1 y2 y3 y4 y5 y6
      go_wp2_with fail
      refine (HG.out w1 (HM.out.keep b1) (HT.out.keep b1)).mono ?_
      rintro e w2 ⟨rfl, m2, o2⟩
      go_wp2
      go_ret3
      refine MvDoneR.from ⟨?_, ?_, o2⟩ hb b1
      · rw [HE.out, HV.out]; rfl
      · rw [HE.out]; exact m2
  · have ez : (x.d == 0) = false := by rw [beq_eq_false_iff_ne]; exact z
    have hn : ¬ (x.d = 0 ∧ setKind (k : Int) = 2 ∧ (k : Int) ≠ 0) := fun h => z h.1
    cases hp : pendB x
    · have HE : Hid (spaceP x = ⟨x, 32, 0⟩) := Lib.hid (by rw [HS.out, if_neg hn, if_neg (by rw [hp]; decide)])
      rw [hp] at HP
      clear hn z HS
      go_enter Tryz.func188, Tryz.ntmps188
      go_wp2_with fail
      refine (HP.out w HM.out).mono ?_
      rintro e w2 ⟨rfl, rfl⟩
      go_wp2
      go_ret3
      exact mvDone_sameR HE.out (by decide) HM.out (Below.refl _ _)
    · have HE : Hid (spaceP x = ⟨x, -1, 13⟩) := Lib.hid (by rw [HS.out, if_neg hn, if_pos hp])
      rw [hp] at HP
      clear hn z HS
      go_enter Tryz.func188, Tryz.ntmps188
      go_wp2_with fail
      refine (HP.out w HM.out).mono ?_
      rintro e w2 ⟨rfl, rfl⟩
      go_wp2
      go_ret3
      exact mvDone_noneR HE.out HM.out (Below.refl _ _)

/-- A token changes the machine, and a code is told. -/
def ChDoneR (κ : RK) (p : Stp) (g : Nat) (w : World) (e : Ending) (w' : World) : Prop := e = .returned (.int .i64 p.c) ∧ MRt κ w' g p.y ∧ Only g w w'

theorem chDone_noneR {x : St} {p : Stp} {g : Nat} {w w' : World} {c : Int} (h : p = ⟨x, -1, c⟩) (hm : MRt κ w g x) (hb : Below w.heap.size w w') : ChDoneR κ p g w (.returned (.int .i64 c)) w' :=
  ⟨by rw [h], by rw [h]; exact hm.keep hb, only_below hm.lt hb⟩

theorem ChDoneR.drew {p : Stp} {g : Nat} {w w' : World} {e : Ending} (h : ChDoneR κ p g w e w') : ChDoneR κ p g w e w'.drew := ⟨h.1, h.2.1, h.2.2.drewN 1⟩

theorem chDone_setR {x y : St} {p : Stp} {g j : Nat} {v : Int} {w : World} {o : Obj} (h : p = ⟨y, -1, 0⟩) (hm : MRt κ w g x) (hy : MRt κ (w.setCell ⟨g, j, none⟩ (.int .i64 v)) g y) : ChDoneR κ p g w (.returned (.int .i64 0)) ((w.setCell ⟨g, j, none⟩ (.int .i64 v)).alloc o) :=
  ⟨by rw [h], by rw [h]; exact hy.keep (below_one _ _), (Only.set g j w _).alloc hm.lt o⟩

set_option maxHeartbeats 1000000 in
set_option maxRecDepth 100000 in
theorem impl_change5R (x : St) (g : Nat) (a b c p n : Int) (w : World) (h : MRt κ w g x) : Calls Tryz.prog 190 #[.pointer (some ⟨g, 10, none⟩), tokV ⟨5, a, b, c, p, n⟩] w (ChDoneR κ (calm x ⟨5, a, b, c, p, n⟩) g w) := by
  have HE : Hid (calm x ⟨5, a, b, c, p, n⟩ = ⟨⟨x.g0, x.g1, x.g2, x.g3, a, x.s, x.d⟩, -1, 0⟩) := Lib.hid rfl
  have B0 := Lib.hid (below_one w (.cells #[.int .i64 5, .int .i64 a, .int .i64 b, .int .i64 c, .int .i64 p, .int .i64 n] 102))
  have HM := Lib.hid h
  have HM0 := Lib.hid (h.keep B0.out)
  have hg : g < w.heap.size := h.lt
  clear h
  unfold tokV
  have ⟨y0, y1, y2, y3, y4, y5, y6⟩ := HM0.out.cells
  have ⟨q0, q1, q2, q3, q4, q5, q6⟩ := HM0.out.thaw
  have ⟨m0, m1, m2, m3, m4, m5, m6⟩ := HM.out.cells
  have ⟨n0, n1, n2, n3, n4, n5, n6⟩ := HM.out.thaw
  go_enter Tryz.func190, Tryz.ntmps190
  go_wp2
  go_ret
  exact chDone_setR HE.out HM.out (heap_setCell_same _ _ 14 _ _ (.int .i64 a) HM.out)

set_option maxHeartbeats 1000000 in
set_option maxRecDepth 100000 in
theorem impl_change6R (x : St) (g : Nat) (a b c p n : Int) (w : World) (h : MRt κ w g x) : Calls Tryz.prog 190 #[.pointer (some ⟨g, 10, none⟩), tokV ⟨6, a, b, c, p, n⟩] w (ChDoneR κ (calm x ⟨6, a, b, c, p, n⟩) g w) := by
  have HE : Hid (calm x ⟨6, a, b, c, p, n⟩ = ⟨⟨x.g0, x.g1, x.g2, x.g3, x.l, a, x.d⟩, -1, 0⟩) := Lib.hid rfl
  have B0 := Lib.hid (below_one w (.cells #[.int .i64 6, .int .i64 a, .int .i64 b, .int .i64 c, .int .i64 p, .int .i64 n] 102))
  have HM := Lib.hid h
  have HM0 := Lib.hid (h.keep B0.out)
  have hg : g < w.heap.size := h.lt
  clear h
  unfold tokV
  have ⟨y0, y1, y2, y3, y4, y5, y6⟩ := HM0.out.cells
  have ⟨q0, q1, q2, q3, q4, q5, q6⟩ := HM0.out.thaw
  have ⟨m0, m1, m2, m3, m4, m5, m6⟩ := HM.out.cells
  have ⟨n0, n1, n2, n3, n4, n5, n6⟩ := HM.out.thaw
  go_enter Tryz.func190, Tryz.ntmps190
  go_wp2
  go_ret
  exact chDone_setR HE.out HM.out (heap_setCell_same _ _ 15 _ _ (.int .i64 a) HM.out)

set_option maxHeartbeats 1000000 in
set_option maxRecDepth 100000 in
theorem impl_change8R (x : St) (g : Nat) (a b c p n : Int) (w : World) (h : MRt κ w g x) : Calls Tryz.prog 190 #[.pointer (some ⟨g, 10, none⟩), tokV ⟨8, a, b, c, p, n⟩] w (ChDoneR κ (calm x ⟨8, a, b, c, p, n⟩) g w) := by
  have HE : Hid (calm x ⟨8, a, b, c, p, n⟩ = ⟨x, -1, 13⟩) := Lib.hid rfl
  have B0 := Lib.hid (below_one w (.cells #[.int .i64 8, .int .i64 a, .int .i64 b, .int .i64 c, .int .i64 p, .int .i64 n] 102))
  have HM := Lib.hid h
  have HM0 := Lib.hid (h.keep B0.out)
  have hg : g < w.heap.size := h.lt
  clear h
  unfold tokV
  go_enter Tryz.func190, Tryz.ntmps190
  go_wp2
  go_ret
  exact chDone_noneR HE.out HM.out B0.out

set_option maxHeartbeats 1000000 in
set_option maxRecDepth 100000 in
theorem impl_change9R (x : St) (g : Nat) (a b c p n : Int) (w : World) (h : MRt κ w g x) : Calls Tryz.prog 190 #[.pointer (some ⟨g, 10, none⟩), tokV ⟨9, a, b, c, p, n⟩] w (ChDoneR κ (calm x ⟨9, a, b, c, p, n⟩) g w) := by
  have HE : Hid (calm x ⟨9, a, b, c, p, n⟩ = ⟨x, -1, 10⟩) := Lib.hid rfl
  have B0 := Lib.hid (below_one w (.cells #[.int .i64 9, .int .i64 a, .int .i64 b, .int .i64 c, .int .i64 p, .int .i64 n] 102))
  have HM := Lib.hid h
  have HM0 := Lib.hid (h.keep B0.out)
  have hg : g < w.heap.size := h.lt
  clear h
  unfold tokV
  go_enter Tryz.func190, Tryz.ntmps190
  go_wp2
  go_ret
  exact chDone_noneR HE.out HM.out B0.out

set_option maxHeartbeats 1000000 in
set_option maxRecDepth 100000 in
theorem impl_change7R (x : St) (g : Nat) (a b c p n : Int) (w : World) (h : MRt κ w g x) (ht : TabM w) (a0 : 0 ≤ a) (a3 : a ≤ 3) (b1 : 1 ≤ b) (b3 : b ≤ 3) : Calls Tryz.prog 190 #[.pointer (some ⟨g, 10, none⟩), tokV ⟨7, a, b, c, p, n⟩] w (ChDoneR κ (calm x ⟨7, a, b, c, p, n⟩) g w) := by
  have HF := Lib.hid (fun w ht => impl_FindSet b c w ht)
  have hb : inB b 1 3 = true := inB_of b1 b3
  have B0 := Lib.hid (below_one w (.cells #[.int .i64 7, .int .i64 a, .int .i64 b, .int .i64 c, .int .i64 p, .int .i64 n] 102))
  have HM := Lib.hid h
  have HM0 := Lib.hid (h.keep B0.out)
  have hg : g < w.heap.size := h.lt
  clear h
  unfold tokV
  have HT := Lib.hid (ht.keep B0.out)
  clear ht
  by_cases hf : findNo b c = 0
  · have HE : Hid (calm x ⟨7, a, b, c, p, n⟩ = ⟨x, -1, 10⟩) := Lib.hid (by rw [calm, if_neg (by simp), if_neg (by simp), if_neg (by simp), if_neg (by simp), if_pos rfl, if_pos hf])
    have hc : fsC b c = 5 := by unfold fsC; rw [if_pos hb, if_pos hf]
    rw [fsV_bad _ _ _ hc (by decide)] at HF
    clear hf hb hc a0 a3 b1 b3
    go_enter Tryz.func190, Tryz.ntmps190
    go_wp2_with fail
    refine (HF.out _ HT.out.1).mono ?_
    rintro e w2 ⟨rfl, rfl⟩
    go_wp2
    go_ret
    exact chDone_noneR HE.out HM.out B0.out
  have HE : Hid (calm x ⟨7, a, b, c, p, n⟩ = ⟨stPut x a (findNo b c), -1, 0⟩) := Lib.hid (by rw [calm, if_neg (by simp), if_neg (by simp), if_neg (by simp), if_neg (by simp), if_pos rfl, if_neg hf])
  have hc : fsC b c = 0 := by unfold fsC; rw [if_pos hb, if_neg hf]
  rw [fsV_ok _ _ hc] at HF
  have : a = 0 ∨ a = 1 ∨ a = 2 ∨ a = 3 := by omega
  clear hf hb hc a0 a3 b1 b3
  have ⟨y0, y1, y2, y3, y4, y5, y6⟩ := HM0.out.cells
  have ⟨q0, q1, q2, q3, q4, q5, q6⟩ := HM0.out.thaw
  have ⟨m0, m1, m2, m3, m4, m5, m6⟩ := HM.out.cells
  have ⟨n0, n1, n2, n3, n4, n5, n6⟩ := HM.out.thaw
  rcases this with rfl | rfl | rfl | rfl
  · have HP2 : Hid (stPut x 0 (findNo b c) = ⟨findNo b c, x.g1, x.g2, x.g3, x.l, x.s, x.d⟩) := Lib.hid rfl
    generalize findNo b c = f at *
    go_enter Tryz.func190, Tryz.ntmps190
    go_wp2_with fail
    refine (HF.out _ HT.out.1).mono ?_
    rintro e w2 ⟨rfl, rfl⟩
    go_wp2
    go_region
    all_goals go_wp2
    all_goals go_ret
    all_goals exact (chDone_setR (y := ⟨f, x.g1, x.g2, x.g3, x.l, x.s, x.d⟩) (HE.out.trans (by rw [HP2.out])) HM.out (heap_setCell_same _ _ 10 _ _ (.int .i64 f) HM.out)).drew
  · have HP2 : Hid (stPut x 1 (findNo b c) = ⟨x.g0, findNo b c, x.g2, x.g3, x.l, x.s, x.d⟩) := Lib.hid rfl
    generalize findNo b c = f at *
    go_enter Tryz.func190, Tryz.ntmps190
    go_wp2_with fail
    refine (HF.out _ HT.out.1).mono ?_
    rintro e w2 ⟨rfl, rfl⟩
    go_wp2
    go_region
    all_goals go_wp2
    all_goals go_ret
    all_goals exact (chDone_setR (y := ⟨x.g0, f, x.g2, x.g3, x.l, x.s, x.d⟩) (HE.out.trans (by rw [HP2.out])) HM.out (heap_setCell_same _ _ 11 _ _ (.int .i64 f) HM.out)).drew
  · have HP2 : Hid (stPut x 2 (findNo b c) = ⟨x.g0, x.g1, findNo b c, x.g3, x.l, x.s, x.d⟩) := Lib.hid rfl
    generalize findNo b c = f at *
    go_enter Tryz.func190, Tryz.ntmps190
    go_wp2_with fail
    refine (HF.out _ HT.out.1).mono ?_
    rintro e w2 ⟨rfl, rfl⟩
    go_wp2
    go_region
    all_goals go_wp2
    all_goals go_ret
    all_goals exact (chDone_setR (y := ⟨x.g0, x.g1, f, x.g3, x.l, x.s, x.d⟩) (HE.out.trans (by rw [HP2.out])) HM.out (heap_setCell_same _ _ 12 _ _ (.int .i64 f) HM.out)).drew
  · have HP2 : Hid (stPut x 3 (findNo b c) = ⟨x.g0, x.g1, x.g2, findNo b c, x.l, x.s, x.d⟩) := Lib.hid rfl
    generalize findNo b c = f at *
    go_enter Tryz.func190, Tryz.ntmps190
    go_wp2_with fail
    refine (HF.out _ HT.out.1).mono ?_
    rintro e w2 ⟨rfl, rfl⟩
    go_wp2
    go_region
    all_goals go_wp2
    all_goals go_ret
    all_goals exact (chDone_setR (y := ⟨x.g0, x.g1, x.g2, f, x.l, x.s, x.d⟩) (HE.out.trans (by rw [HP2.out])) HM.out (heap_setCell_same _ _ 13 _ _ (.int .i64 f) HM.out)).drew

theorem impl_changeR (x : St) (t : Tok) (g : Nat) (w : World) (h : MRt κ w g x) (ht : TabM w) (hk : tokLP t) (h5 : 5 ≤ t.k) : Calls Tryz.prog 190 #[.pointer (some ⟨g, 10, none⟩), tokV t] w (ChDoneR κ (calm x t) g w) := by
  obtain ⟨k, a, b, c, p, n⟩ := t
  have hk9 : k = 5 ∨ k = 6 ∨ k = 7 ∨ k = 8 ∨ k = 9 := by unfold tokLP at hk; dsimp only at hk h5; omega
  rcases hk9 with rfl | rfl | rfl | rfl | rfl
  · exact impl_change5R (κ := κ) x g a b c p n w h
  · exact impl_change6R (κ := κ) x g a b c p n w h
  · have h4 : 0 ≤ a ∧ a ≤ 3 ∧ 1 ≤ b ∧ b ≤ 3 := by unfold tokLP at hk; dsimp only at hk; omega
    exact impl_change7R (κ := κ) x g a b c p n w h ht h4.1 h4.2.1 h4.2.2.1 h4.2.2.2
  · exact impl_change8R (κ := κ) x g a b c p n w h
  · exact impl_change9R (κ := κ) x g a b c p n w h

end Go.Proofs.YtbamjhldebobhaaGreatDoor

namespace Go.Proofs.YtbamjhldebobhaaGreatDoor
open Go.RowKit Go.Sort
variable {κ : RK}

set_option maxHeartbeats 1000000 in
set_option maxRecDepth 100000 in
theorem impl_step3R (x : St) (g : Nat) (a b c p n : Int) (w : World) (h : MRt κ w g x) (ht : TabM w) (hx : stOKB x = true) (a0 : 0 ≤ a) (a1 : a ≤ 255) : Calls Tryz.prog 157 #[.pointer (some ⟨g, 10, none⟩), tokV ⟨3, a, b, c, p, n⟩] w (MvDoneR κ (stepT x ⟨3, a, b, c, p, n⟩) g w) := by
  have B0 := Lib.hid (below_one w (.cells #[.int .i64 3, .int .i64 a, .int .i64 b, .int .i64 c, .int .i64 p, .int .i64 n] 102))
  have HM := Lib.hid h
  have HM0 := Lib.hid (h.keep B0.out)
  have HT0 := Lib.hid (ht.keep B0.out)
  have hg : g < w.heap.size := h.lt
  have HG := Lib.hid (fun w h ht => impl_takeR (κ := κ) x g false a w h ht hx a0 a1)
  rw [show sideNo false = 0 from rfl] at HG
  have HE : Hid (stepT x ⟨3, a, b, c, p, n⟩ = graphic x a false) := Lib.hid rfl
  unfold MvDoneR mvV at HG
  generalize graphic x a false = q at *
  have HV : Hid (mvV q = .tuple #[.int .i64 (toldR q), .bool (toldB q), .int .i64 q.c]) := Lib.hid rfl
  generalize toldR q = tr at *
  generalize toldB q = tb at *
  clear h ht hx
  unfold tokV
  go_enter Tryz.func157, Tryz.ntmps157
  go_wp2_with fail
  refine (HG.out _ HM0.out HT0.out).mono ?_
  rintro e w2 ⟨rfl, m2, o2⟩
  go_wp2
  go_ret3
  refine MvDoneR.from ⟨?_, ?_, o2⟩ hg B0.out
  · rw [HE.out, HV.out]; rfl
  · rw [HE.out]; exact m2

set_option maxHeartbeats 1000000 in
set_option maxRecDepth 100000 in

theorem impl_step4R (x : St) (g : Nat) (a b c p n : Int) (w : World) (h : MRt κ w g x) (ht : TabM w) (hx : stOKB x = true) (a0 : 0 ≤ a) (a1 : a ≤ 255) : Calls Tryz.prog 157 #[.pointer (some ⟨g, 10, none⟩), tokV ⟨4, a, b, c, p, n⟩] w (MvDoneR κ (stepT x ⟨4, a, b, c, p, n⟩) g w) := by
  have B0 := Lib.hid (below_one w (.cells #[.int .i64 4, .int .i64 a, .int .i64 b, .int .i64 c, .int .i64 p, .int .i64 n] 102))
  have HM := Lib.hid h
  have HM0 := Lib.hid (h.keep B0.out)
  have HT0 := Lib.hid (ht.keep B0.out)
  have hg : g < w.heap.size := h.lt
  have HG := Lib.hid (fun w h ht => impl_takeR (κ := κ) x g true a w h ht hx a0 a1)
  rw [show sideNo true = 128 from rfl] at HG
  have HE : Hid (stepT x ⟨4, a, b, c, p, n⟩ = graphic x a true) := Lib.hid rfl
  unfold MvDoneR mvV at HG
  generalize graphic x a true = q at *
  have HV : Hid (mvV q = .tuple #[.int .i64 (toldR q), .bool (toldB q), .int .i64 q.c]) := Lib.hid rfl
  generalize toldR q = tr at *
  generalize toldB q = tb at *
  clear h ht hx
  unfold tokV
  go_enter Tryz.func157, Tryz.ntmps157
  go_wp2_with fail
  refine (HG.out _ HM0.out HT0.out).mono ?_
  rintro e w2 ⟨rfl, m2, o2⟩
  go_wp2
  go_ret3
  refine MvDoneR.from ⟨?_, ?_, o2⟩ hg B0.out
  · rw [HE.out, HV.out]; rfl
  · rw [HE.out]; exact m2

set_option maxHeartbeats 1000000 in
set_option maxRecDepth 100000 in
theorem impl_step2R (x : St) (g : Nat) (a b c p n : Int) (w : World) (h : MRt κ w g x) (ht : TabM w) (hx : stOKB x = true) : Calls Tryz.prog 157 #[.pointer (some ⟨g, 10, none⟩), tokV ⟨2, a, b, c, p, n⟩] w (MvDoneR κ (stepT x ⟨2, a, b, c, p, n⟩) g w) := by
  have B0 := Lib.hid (below_one w (.cells #[.int .i64 2, .int .i64 a, .int .i64 b, .int .i64 c, .int .i64 p, .int .i64 n] 102))
  have HM := Lib.hid h
  have HM0 := Lib.hid (h.keep B0.out)
  have HT0 := Lib.hid (ht.keep B0.out)
  have hg : g < w.heap.size := h.lt
  have HG := Lib.hid (fun w h ht => impl_spaceR (κ := κ) x g w h ht hx)
  have HE : Hid (stepT x ⟨2, a, b, c, p, n⟩ = spaceP x) := Lib.hid (space_eq hx _ rfl)
  unfold MvDoneR mvV at HG
  generalize spaceP x = q at *
  have HV : Hid (mvV q = .tuple #[.int .i64 (toldR q), .bool (toldB q), .int .i64 q.c]) := Lib.hid rfl
  generalize toldR q = tr at *
  generalize toldB q = tb at *
  clear h ht hx
  unfold tokV
  go_enter Tryz.func157, Tryz.ntmps157
  go_wp2_with fail
  refine (HG.out _ HM0.out HT0.out).mono ?_
  rintro e w2 ⟨rfl, m2, o2⟩
  go_wp2
  go_ret3
  refine MvDoneR.from ⟨?_, ?_, o2⟩ hg B0.out
  · rw [HE.out, HV.out]; rfl
  · rw [HE.out]; exact m2

set_option maxHeartbeats 1000000 in
set_option maxRecDepth 100000 in
theorem impl_stepPR (x : St) (g : Nat) (k a b c p n : Int) (w : World) (h : MRt κ w g x) (ht : TabM w) (hx : stOKB x = true) (hp : pendB x = true) (h2 : k ≠ 2) (h3 : k ≠ 3) (h4 : k ≠ 4) : Calls Tryz.prog 157 #[.pointer (some ⟨g, 10, none⟩), tokV ⟨k, a, b, c, p, n⟩] w (MvDoneR κ (stepT x ⟨k, a, b, c, p, n⟩) g w) := by
  have B0 := Lib.hid (below_one w (.cells #[.int .i64 k, .int .i64 a, .int .i64 b, .int .i64 c, .int .i64 p, .int .i64 n] 102))
  have HM := Lib.hid h
  have HM0 := Lib.hid (h.keep B0.out)
  have HT0 := Lib.hid (ht.keep B0.out)
  have hg : g < w.heap.size := h.lt
  have HP := Lib.hid (fun w h => impl_pendingR (κ := κ) x g w h)
  rw [pend_eq hx, hp] at HP
  have HE : Hid (stepT x ⟨k, a, b, c, p, n⟩ = ⟨x, -1, 13⟩) := Lib.hid (by rw [stepT, if_neg h3, if_neg h4, if_pos hp, if_neg (fun h => h2 h.1)])
  have e2 : (k == 2) = false := by rw [beq_eq_false_iff_ne]; exact h2
  have e3 : (k == 3) = false := by rw [beq_eq_false_iff_ne]; exact h3
  have e4 : (k == 4) = false := by rw [beq_eq_false_iff_ne]; exact h4
  clear hp h2 h3 h4
  clear h ht hx
  unfold tokV
  go_enter Tryz.func157, Tryz.ntmps157
  go_wp2_with fail
  refine (HP.out _ HM0.out).mono ?_
  rintro e w2 ⟨rfl, rfl⟩
  go_wp2
  go_ret3
  exact mvDone_noneR HE.out HM.out B0.out

set_option maxHeartbeats 1000000 in
set_option maxRecDepth 100000 in
theorem impl_step1R (x : St) (g : Nat) (a b c p n : Int) (w : World) (h : MRt κ w g x) (ht : TabM w) (hx : stOKB x = true) (hp : pendB x = false) (ha : 0 ≤ a) : Calls Tryz.prog 157 #[.pointer (some ⟨g, 10, none⟩), tokV ⟨1, a, b, c, p, n⟩] w (MvDoneR κ (stepT x ⟨1, a, b, c, p, n⟩) g w) := by
  have B0 := Lib.hid (below_one w (.cells #[.int .i64 1, .int .i64 a, .int .i64 b, .int .i64 c, .int .i64 p, .int .i64 n] 102))
  have HM := Lib.hid h
  have HM0 := Lib.hid (h.keep B0.out)
  have HT0 := Lib.hid (ht.keep B0.out)
  have hg : g < w.heap.size := h.lt
  have HP := Lib.hid (fun w h => impl_pendingR (κ := κ) x g w h)
  rw [pend_eq hx, hp] at HP
  have HC := Lib.hid (fun w => impl_control a w)
  clear h ht hx
  unfold tokV
  by_cases h1 : 127 < a
  · have HE : Hid (stepT x ⟨1, a, b, c, p, n⟩ = ⟨x, -1, 10⟩) := Lib.hid (by rw [stepT, if_neg (by simp), if_neg (by simp), if_neg (by rw [hp]; decide), calm, if_pos rfl, if_pos h1])
    rw [if_pos h1] at HC
    clear hp h1
    go_enter Tryz.func157, Tryz.ntmps157
    go_wp2_with fail
    refine (HP.out _ HM0.out).mono ?_
    rintro e w2 ⟨rfl, rfl⟩
    go_wp2_with fail
    refine (HC.out _).mono ?_
    rintro e w2 ⟨rfl, rfl⟩
    go_wp2
    go_ret3
    exact mvDone_noneR HE.out HM.out B0.out
  · have HE : Hid (stepT x ⟨1, a, b, c, p, n⟩ = ⟨x, a, 0⟩) := Lib.hid (by rw [stepT, if_neg (by simp), if_neg (by simp), if_neg (by rw [hp]; decide), calm, if_pos rfl, if_neg h1])
    rw [if_neg h1] at HC
    clear hp h1
    go_enter Tryz.func157, Tryz.ntmps157
    go_wp2_with fail
    refine (HP.out _ HM0.out).mono ?_
    rintro e w2 ⟨rfl, rfl⟩
    go_wp2_with fail
    refine (HC.out _).mono ?_
    rintro e w2 ⟨rfl, rfl⟩
    go_wp2
    go_ret3
    exact mvDone_sameR HE.out ha HM.out B0.out

theorem MvDoneR.ofCh {q : Stp} {g : Nat} {w w' : World} {c : Int} (hr : q.r = -1) (hc : c = q.c) (hm : MRt κ w' g q.y) (ho : Only g w w') : MvDoneR κ q g w (.returned (.tuple #[.int .i64 0, .bool false, .int .i64 c])) w' :=
  ⟨by rw [hc]; unfold mvV toldR toldB; rw [hr]; rfl, hm, ho⟩

set_option maxHeartbeats 1000000 in
set_option maxRecDepth 100000 in
theorem impl_step5R (x : St) (g : Nat) (k a b c p n : Int) (w : World) (h : MRt κ w g x) (ht : TabM w) (hx : stOKB x = true) (hp : pendB x = false) (hk : tokLP ⟨k, a, b, c, p, n⟩) (h5 : 5 ≤ k) : Calls Tryz.prog 157 #[.pointer (some ⟨g, 10, none⟩), tokV ⟨k, a, b, c, p, n⟩] w (MvDoneR κ (stepT x ⟨k, a, b, c, p, n⟩) g w) := by
  have B0 := Lib.hid (below_one w (.cells #[.int .i64 k, .int .i64 a, .int .i64 b, .int .i64 c, .int .i64 p, .int .i64 n] 102))
  have HM := Lib.hid h
  have HM0 := Lib.hid (h.keep B0.out)
  have HT0 := Lib.hid (ht.keep B0.out)
  have hg : g < w.heap.size := h.lt
  have HP := Lib.hid (fun w h => impl_pendingR (κ := κ) x g w h)
  rw [pend_eq hx, hp] at HP
  have HC := Lib.hid (fun w h ht => impl_changeR (κ := κ) x ⟨k, a, b, c, p, n⟩ g w h ht hk h5)
  have HE : Hid (stepT x ⟨k, a, b, c, p, n⟩ = calm x ⟨k, a, b, c, p, n⟩) := Lib.hid (by rw [stepT, if_neg (show ¬ k = 3 by omega), if_neg (show ¬ k = 4 by omega), if_neg (by rw [hp]; decide)])
  have HN := Lib.hid (calm_none (x := x) (t := ⟨k, a, b, c, p, n⟩) h5)
  unfold ChDoneR tokV at HC
  generalize calm x ⟨k, a, b, c, p, n⟩ = q at *
  have e1 : (k == 1) = false := by rw [beq_eq_false_iff_ne]; omega
  have e2 : (k == 2) = false := by rw [beq_eq_false_iff_ne]; omega
  have e3 : (k == 3) = false := by rw [beq_eq_false_iff_ne]; omega
  have e4 : (k == 4) = false := by rw [beq_eq_false_iff_ne]; omega
  clear hp hk h5
  clear h ht hx
  unfold tokV
  go_enter Tryz.func157, Tryz.ntmps157
  go_wp2_with fail
  refine (HP.out _ HM0.out).mono ?_
  rintro e w2 ⟨rfl, rfl⟩
  go_wp2_with fail
  refine (HC.out _ HM0.out HT0.out).mono ?_
  rintro e w2 ⟨rfl, m2, o2⟩
  go_wp2
  go_ret3
  rw [HE.out]
  exact MvDoneR.ofCh HN.out rfl m2 ((only_below hg B0.out).trans o2)

theorem impl_stepR (x : St) (t : Tok) (g : Nat) (w : World) (h : MRt κ w g x) (ht : TabM w) (hx : stOKB x = true) (hk : tokLP t) : Calls Tryz.prog 157 #[.pointer (some ⟨g, 10, none⟩), tokV t] w (MvDoneR κ (stepT x t) g w) := by
  obtain ⟨k, a, b, c, p, n⟩ := t
  have hk9 : 1 ≤ k ∧ k ≤ 9 := by unfold tokLP at hk; dsimp only at hk; omega
  by_cases h3 : k = 3
  · subst h3
    have ha : 0 ≤ a ∧ a ≤ 255 := by unfold tokLP at hk; dsimp only at hk; omega
    exact impl_step3R (κ := κ) x g a b c p n w h ht hx ha.1 ha.2
  by_cases h4 : k = 4
  · subst h4
    have ha : 0 ≤ a ∧ a ≤ 255 := by unfold tokLP at hk; dsimp only at hk; omega
    exact impl_step4R (κ := κ) x g a b c p n w h ht hx ha.1 ha.2
  by_cases h2 : k = 2
  · subst h2
    exact impl_step2R (κ := κ) x g a b c p n w h ht hx
  cases hp : pendB x
  · by_cases h1 : k = 1
    · subst h1
      have ha : 0 ≤ a := by unfold tokLP at hk; dsimp only at hk; omega
      exact impl_step1R (κ := κ) x g a b c p n w h ht hx hp ha
    · exact impl_step5R (κ := κ) x g k a b c p n w h ht hx hp hk (by omega)
  · exact impl_stepPR (κ := κ) x g k a b c p n w h ht hx hp h2 h3 h4

end Go.Proofs.YtbamjhldebobhaaGreatDoor

namespace Go.Proofs.YtbamjhldebobhaaGreatDoor
open Go.RowKit Go.Sort

/-- Only the blocks b and g may have changed. -/
def Only2 (b g : Nat) (w w' : World) : Prop := (∀ B, B ≤ b → B ≤ g → Below B w w') ∧ ∀ i, i ≠ b → i ≠ g → i < w.heap.size → w'.heap[i]? = w.heap[i]?
theorem Only2.refl (b g : Nat) (w : World) : Only2 b g w w := ⟨fun _ _ _ => Below.refl _ _, fun _ _ _ _ => rfl⟩
theorem Only.two_right {b g : Nat} {w w' : World} (h : Only g w w') : Only2 b g w w' := ⟨fun _ _ hB => h.1.mono hB, fun i _ hg hl => h.2 i hg hl⟩
theorem Only.two_left {b g : Nat} {w w' : World} (h : Only b w w') : Only2 b g w w' := ⟨fun _ hB _ => h.1.mono hB, fun i hb _ hl => h.2 i hb hl⟩
theorem Only2.size {b g : Nat} {w w' : World} (h : Only2 b g w w') : w.heap.size ≤ w'.heap.size := (h.1 0 (Nat.zero_le _) (Nat.zero_le _)).size
theorem Only2.trans {b g : Nat} {w w1 w2 : World} (h : Only2 b g w w1) (k : Only2 b g w1 w2) : Only2 b g w w2 :=
  ⟨fun B h1 h2 => (h.1 B h1 h2).trans (k.1 B h1 h2), fun i hb hg hl => by rw [k.2 i hb hg (Nat.lt_of_lt_of_le hl h.size), h.2 i hb hg hl]⟩

theorem stepT_ctl {x : St} {t : Tok} (h : t.k = 1) : (stepT x t).y = x := by
  unfold stepT calm
  rw [h]
  simp
  repeat' split
  all_goals rfl
def GsDone (n : Int) (x : St) (t : Tok) (b g C : Nat) (w : World) (e : Ending) (w' : World) : Prop := e = .returned (mvV (stepP n x t)) ∧ MAt w' b (stepP n x t).y ∧ GuOK w' g n C ∧ Only2 b g w w'
theorem gs_of {n : Int} {x : St} {t : Tok} {b g C : Nat} {w w' : World} {p : Stp} {v : Value} (hp : stepP n x t = p) (hv : mvV p = v) (hm : MAt w' b p.y) (hG : GuOK w' g n C) (ho : Only2 b g w w') : GsDone n x t b g C w (.returned v) w' := by
  subst hp
  exact ⟨by rw [hv], hm, hG, ho⟩
theorem stepP_ref {n : Int} {x : St} {t : Tok} (h : refC n t ≠ 0) : stepP n x t = ⟨x, -1, refC n t⟩ := by
  unfold refC at h ⊢
  unfold stepP
  repeat' split
  all_goals first | rfl | simp_all
theorem stepP_go {n : Int} {x : St} {t : Tok} (h : refC n t = 0) : stepP n x t = if (stepT x t).c ≠ 0 then ⟨x, -1, (stepT x t).c⟩ else
    if t.k = 1 ∧ t.a = 10 then (if restB n x = true then ⟨lineX n (stepT x t).y, (stepT x t).r, 0⟩ else ⟨x, -1, 14⟩) else ⟨(stepT x t).y, (stepT x t).r, 0⟩ := by
  unfold refC at h
  unfold stepP
  repeat' split at h
  all_goals simp_all
theorem GuOK.at {w : World} {g C : Nat} {n : Int} (h : GuOK w g n C) : ∃ m, GuAt w g n m := by
  obtain ⟨m, h1, _⟩ := h
  exact ⟨m, h1⟩

set_option maxHeartbeats 2000000 in
theorem impl_gstep (n : Int) (x : St) (t : Tok) (b g C : Nat) (w : World) (hm : MAt w b x) (h : GuOK w g n C) (hg : g < C) (hbC : b < C) (hne : b ≠ g) (hC : C ≤ w.heap.size) (ht : ∀ W, Only2 b g w W → TabM W) (hn : proB n = true) (hx : stOKB x = true) (hk : tokLP t) :
    Calls Tryz.prog 121 #[.pointer (some ⟨g, 0, none⟩), .pointer (some ⟨b, 0, none⟩), tokV t] w (GsDone n x t b g C w) := by
  have B0 := Lib.hid (below_one w (.cells #[.int .i64 t.k, .int .i64 t.a, .int .i64 t.b, .int .i64 t.c, .int .i64 t.p, .int .i64 t.n] 102))
  have K0 : Hid (TokAt (w.alloc (.cells #[.int .i64 t.k, .int .i64 t.a, .int .i64 t.b, .int .i64 t.c, .int .i64 t.p, .int .i64 t.n] 102)) w.heap.size t) := Lib.hid (heap_alloc_new _ _)
  have hgl : g < w.heap.size := by omega
  have hbl : b < w.heap.size := by omega
  have O0 : Hid (Only2 b g w (w.alloc (.cells #[.int .i64 t.k, .int .i64 t.a, .int .i64 t.b, .int .i64 t.c, .int .i64 t.p, .int .i64 t.n] 102))) := Lib.hid (only_below hgl B0.out).two_right
  have G0 := Lib.hid (h.keep B0.out)
  have M0 := Lib.hid (hm.keep B0.out)
  have hC0 : C ≤ (w.alloc (.cells #[.int .i64 t.k, .int .i64 t.a, .int .i64 t.b, .int .i64 t.c, .int .i64 t.p, .int .i64 t.n] 102)).heap.size := by simp; omega
  have HT := Lib.hid ht
  have HRf := Lib.hid (fun W (hG : GuOK W g n C) (hCW : C ≤ W.heap.size) (hT : ∀ W', Only g W W' → TabSets W') => impl_refusal n t g C W hG hg hCW hT hn hk)
  have HSt := Lib.hid (fun W (hM : MAt W b x) (hT : TabM W) => impl_step x t b W hM hT hx hk)
  have HEn := Lib.hid (fun W => impl_endsLine t W)
  have HEl := Lib.hid (fun m W (hG : GuAt W g n m) (hM : MAt W b (stepT x t).y) => impl_endLine n (stepT x t).y m g b W hG hM (stepT_ok hx hk))
  have HCo := Lib.hid (fun hc => stepT_code (x := x) (t := t) hc)
  have HY1 := Lib.hid (fun h1 => stepT_ctl (x := x) (t := t) h1)
  have HPr := Lib.hid (fun h => stepP_ref (n := n) (x := x) (t := t) h)
  have HPg := Lib.hid (fun h => stepP_go (n := n) (x := x) (t := t) h)
  unfold RfDone at HRf
  unfold MvDone mvV at HSt
  unfold ElDone at HEl
  unfold tokV at HRf HSt HEn ⊢
  clear ht h hm hn hx hk
  have ⟨t0, t1, t2, t3, t4, t5⟩ := K0.out.cells
  go_enter Tryz.func121, Tryz.ntmps121
  go_wp2_with fail
  refine (HRf.out _ G0.out hC0 (fun W' o => (HT.out W' (O0.out.trans o.two_right)).1)).mono ?_
  generalize w.alloc (.cells #[.int .i64 t.k, .int .i64 t.a, .int .i64 t.b, .int .i64 t.c, .int .i64 t.p, .int .i64 t.n] 102) = W0 at *
  clear t0 t1 t2 t3 t4 t5
  rintro e w1 ⟨rfl, hG1, o1⟩
  have M1 : Hid (MAt w1 b x) := Lib.hid ((o1.2 b hne M0.out.lt).trans M0.out)
  have K1 : Hid (TokAt w1 w.heap.size t) := Lib.hid ((o1.2 _ (by omega) K0.out.lt).trans K0.out)
  have O1 : Hid (Only2 b g w w1) := Lib.hid (O0.out.trans o1.two_right)
  have G1 := Lib.hid hG1
  clear o1 hG1 M0 K0 G0 O0
  by_cases hr : refC n t = 0
  · have HP := Lib.hid (HPg.out hr)
    have er : (refC n t != 0) = false := by simp [hr]
    generalize refC n t = rc at *
    clear hr HPr HPg
    have ⟨t0, t1, t2, t3, t4, t5⟩ := K1.out.cells
    go_wp2_with fail
    refine (HSt.out _ M1.out (HT.out _ O1.out)).mono ?_
    clear t0 t1 t2 t3 t4 t5
    rintro e w2 ⟨rfl, hM2, o2⟩
    have M2 := Lib.hid hM2
    have K2 : Hid (TokAt w2 w.heap.size t) := Lib.hid ((o2.2 _ (by omega) K1.out.lt).trans K1.out)
    have O2 : Hid (Only2 b g w w2) := Lib.hid (O1.out.trans o2.two_left)
    have G2 := Lib.hid (G1.out.only o2 hbC (by omega))
    clear o2 hM2 M1 K1 O1 G1
    by_cases hc : (stepT x t).c = 0
    · have HP2 : Hid (stepP n x t = if t.k = 1 ∧ t.a = 10 then (if restB n x = true then ⟨lineX n (stepT x t).y, (stepT x t).r, 0⟩ else ⟨x, -1, 14⟩) else ⟨(stepT x t).y, (stepT x t).r, 0⟩) := Lib.hid (by rw [HP.out]; simp [hc])
      rw [hc]
      clear HP HCo
      have ⟨t0, t1, t2, t3, t4, t5⟩ := K2.out.cells
      go_wp2_with fail
      refine (HEn.out _).mono ?_
      clear t0 t1 t2 t3 t4 t5
      rintro e w3 ⟨rfl, b3⟩
      have M3 := Lib.hid (M2.out.keep b3)
      have G3 := Lib.hid (G2.out.keep b3)
      have O3 : Hid (Only2 b g w w3) := Lib.hid (O2.out.trans (only_below M2.out.lt b3).two_left)
      clear b3 M2 G2 O2 K2
      by_cases h1 : t.k = 1 ∧ t.a = 10
      · have hy := HY1.out h1.1
        rw [show (decide (t.k = 1) && decide (t.a = 10)) = true by simp [h1]]
        obtain ⟨m, hGm⟩ := G3.out.at
        rw [hy] at HEl M3
        by_cases hrs : restB n x = true
        · have HP3 : Hid (stepP n x t = ⟨lineX n x, (stepT x t).r, 0⟩) := Lib.hid (by rw [HP2.out, if_pos h1, if_pos hrs, hy])
          have hec : elC n x = 0 := by simp [elC, hrs]
          have hex : elX n x = lineX n x := by simp [elX, hrs]
          rw [hec, hex] at HEl
          clear h1 hy HY1 hec hex hrs HP2
          go_wp2_with fail
          refine (HEl.out m _ hGm M3.out).mono ?_
          rintro e w4 ⟨rfl, hM4, o4⟩
          have HD : Hid (GsDone n x t b g C w (.returned (.tuple #[.int .i64 (toldR (stepT x t)), .bool (toldB (stepT x t)), .int .i64 0])) w4) := Lib.hid (gs_of HP3.out rfl hM4 (G3.out.only o4 hbC (by omega)) (O3.out.trans o4.two_left))
          clear hM4 o4 hGm
          generalize toldR (stepT x t) = tr at *
          generalize toldB (stepT x t) = tb at *
          go_wp2
          go_ret3
          exact HD.out
        · have HP3 : Hid (stepP n x t = ⟨x, -1, 14⟩) := Lib.hid (by rw [HP2.out, if_pos h1, if_neg hrs])
          have hec : elC n x = 14 := by simp [elC, hrs]
          have hex : elX n x = x := by simp [elX, hrs]
          rw [hec, hex] at HEl
          clear h1 hy HY1 hec hex hrs HP2
          go_wp2_with fail
          refine (HEl.out m _ hGm M3.out).mono ?_
          rintro e w4 ⟨rfl, hM4, o4⟩
          have HD : Hid (GsDone n x t b g C w (.returned (.tuple #[.int .i64 0, .bool false, .int .i64 14])) w4) := Lib.hid (gs_of HP3.out rfl hM4 (G3.out.only o4 hbC (by omega)) (O3.out.trans o4.two_left))
          clear hM4 o4 hGm
          go_wp2
          go_ret3
          exact HD.out
      · rw [show (decide (t.k = 1) && decide (t.a = 10)) = false by
          cases hd : (decide (t.k = 1) && decide (t.a = 10))
          · rfl
          · rw [Bool.and_eq_true, decide_eq_true_eq, decide_eq_true_eq] at hd
            exact absurd hd h1]
        have HD : Hid (GsDone n x t b g C w (.returned (.tuple #[.int .i64 (toldR (stepT x t)), .bool (toldB (stepT x t)), .int .i64 0])) w3) := Lib.hid (gs_of (p := ⟨(stepT x t).y, (stepT x t).r, 0⟩) (by rw [HP2.out, if_neg h1]) rfl M3.out G3.out O3.out)
        clear h1 HY1 HP2 HEl M3
        generalize toldR (stepT x t) = tr at *
        generalize toldB (stepT x t) = tb at *
        go_wp2
        go_ret3
        exact HD.out
    · have ⟨hy, hrm⟩ := HCo.out hc
      have ec : ((stepT x t).c != 0) = true := by simp [hc]
      have HD : Hid (GsDone n x t b g C w (.returned (.tuple #[.int .i64 (toldR (stepT x t)), .bool (toldB (stepT x t)), .int .i64 (stepT x t).c])) w2) := Lib.hid (by
        refine gs_of (p := ⟨x, -1, (stepT x t).c⟩) (by rw [HP.out, if_pos hc]) ?_ ?_ G2.out O2.out
        · unfold mvV toldR toldB
          rw [hrm]
        · have := M2.out
          rw [hy] at this
          exact this)
      clear hy hrm HCo HP hc M2 HEl HY1
      generalize toldR (stepT x t) = tr at *
      generalize toldB (stepT x t) = tb at *
      generalize (stepT x t).c = cc at *
      go_wp2
      go_ret3
      exact HD.out
  · have HD : Hid (GsDone n x t b g C w (.returned (.tuple #[.int .i64 0, .bool false, .int .i64 (refC n t)])) w1) := Lib.hid (gs_of (HPr.out hr) rfl M1.out G1.out O1.out)
    have er : (refC n t != 0) = true := by simp [hr]
    generalize refC n t = rc at *
    clear hr HPr HPg
    go_wp2
    go_ret3
    exact HD.out

end Go.Proofs.YtbamjhldebobhaaGreatDoor

namespace Go.Proofs.YtbamjhldebobhaaGreatDoor
open Go.RowKit Go.Sort

def GsDoneR (n : Int) (x : St) (l m0 : Value) (t : Tok) (b C : Nat) (w : World) (e : Ending) (w' : World) : Prop := e = .returned (mvV (stepP n x t)) ∧ GRk ⟨(stepP n x t).y, l, m0⟩ w' b n C ∧ Only b w w'
theorem gs_ofR {n : Int} {x : St} {l m0 : Value} {t : Tok} {b C : Nat} {w w' : World} {p : Stp} {v : Value} (hp : stepP n x t = p) (hv : mvV p = v) (hG : GRk ⟨p.y, l, m0⟩ w' b n C) (ho : Only b w w') : GsDoneR n x l m0 t b C w (.returned v) w' := by
  subst hp
  exact ⟨by rw [hv], hG, ho⟩

set_option maxHeartbeats 2000000 in
theorem impl_gstepR (n : Int) (x : St) (l m0 : Value) (t : Tok) (b C : Nat) (w : World) (h : GRk ⟨x, l, m0⟩ w b n C) (hbC : b < C) (hC : C ≤ w.heap.size) (ht : ∀ W, Only b w W → TabM W) (hn : proB n = true) (hx : stOKB x = true) (hk : tokLP t) :
    Calls Tryz.prog 121 #[.pointer (some ⟨b, 0, none⟩), .pointer (some ⟨b, 10, none⟩), tokV t] w (GsDoneR n x l m0 t b C w) := by
  have B0 := Lib.hid (below_one w (.cells #[.int .i64 t.k, .int .i64 t.a, .int .i64 t.b, .int .i64 t.c, .int .i64 t.p, .int .i64 t.n] 102))
  have K0 : Hid (TokAt (w.alloc (.cells #[.int .i64 t.k, .int .i64 t.a, .int .i64 t.b, .int .i64 t.c, .int .i64 t.p, .int .i64 t.n] 102)) w.heap.size t) := Lib.hid (heap_alloc_new _ _)
  have hbl : b < w.heap.size := by omega
  have O0 : Hid (Only b w (w.alloc (.cells #[.int .i64 t.k, .int .i64 t.a, .int .i64 t.b, .int .i64 t.c, .int .i64 t.p, .int .i64 t.n] 102))) := Lib.hid (only_below hbl B0.out)
  have G0 := Lib.hid (h.keep B0.out)
  have hC0 : C ≤ (w.alloc (.cells #[.int .i64 t.k, .int .i64 t.a, .int .i64 t.b, .int .i64 t.c, .int .i64 t.p, .int .i64 t.n] 102)).heap.size := by simp; omega
  have HT := Lib.hid ht
  have HRf := Lib.hid (fun W (hG : GRk ⟨x, l, m0⟩ W b n C) (hCW : C ≤ W.heap.size) (hT : ∀ W', Only b W W' → TabSets W') => impl_refusalR (ζ := ⟨x, l, m0⟩) n t b C W hG hbC hCW hT hn hk)
  have HSt := Lib.hid (fun m W (hM : MRt ⟨n, m, l⟩ W b x) (hT : TabM W) => impl_stepR (κ := ⟨n, m, l⟩) x t b W hM hT hx hk)
  have HEn := Lib.hid (fun W => impl_endsLine t W)
  have HEl := Lib.hid (fun m W (hM : RdAt W b n m (stepT x t).y l) => impl_endLineR n (stepT x t).y m l b W hM (stepT_ok hx hk))
  have HCo := Lib.hid (fun hc => stepT_code (x := x) (t := t) hc)
  have HY1 := Lib.hid (fun h1 => stepT_ctl (x := x) (t := t) h1)
  have HPr := Lib.hid (fun h => stepP_ref (n := n) (x := x) (t := t) h)
  have HPg := Lib.hid (fun h => stepP_go (n := n) (x := x) (t := t) h)
  unfold RfDoneR at HRf
  unfold MvDoneR mvV at HSt
  unfold ElDoneR at HEl
  unfold tokV at HRf HSt HEn ⊢
  clear ht h hn hx hk
  have ⟨t0, t1, t2, t3, t4, t5⟩ := K0.out.cells
  go_enter Tryz.func121, Tryz.ntmps121
  go_wp2_with fail
  refine (HRf.out _ G0.out hC0 (fun W' o => (HT.out W' (O0.out.trans o)).1)).mono ?_
  generalize w.alloc (.cells #[.int .i64 t.k, .int .i64 t.a, .int .i64 t.b, .int .i64 t.c, .int .i64 t.p, .int .i64 t.n] 102) = W0 at *
  clear t0 t1 t2 t3 t4 t5
  rintro e w1 ⟨rfl, hG1, o1⟩
  have K1 : Hid (TokAt w1 w.heap.size t) := Lib.hid ((o1.2 _ (by omega) K0.out.lt).trans K0.out)
  have O1 : Hid (Only b w w1) := Lib.hid (O0.out.trans o1)
  have G1 := Lib.hid hG1
  clear o1 hG1 K0 G0 O0
  by_cases hr : refC n t = 0
  · have HP := Lib.hid (HPg.out hr)
    have er : (refC n t != 0) = false := by simp [hr]
    generalize refC n t = rc at *
    clear hr HPr HPg
    have ⟨t0, t1, t2, t3, t4, t5⟩ := K1.out.cells
    go_wp2_with fail
    obtain ⟨m, hGm, hGp, hGq⟩ := G1.out
    have HGp := Lib.hid hGp
    have HGq := Lib.hid hGq
    clear hGp hGq
    refine (HSt.out m _ hGm (HT.out _ O1.out)).mono ?_
    clear t0 t1 t2 t3 t4 t5
    rintro e w2 ⟨rfl, hM2, o2⟩
    have K2 : Hid (TokAt w2 w.heap.size t) := Lib.hid ((o2.2 _ (by omega) K1.out.lt).trans K1.out)
    have O2 : Hid (Only b w w2) := Lib.hid (O1.out.trans o2)
    have G2 : Hid (GRk ⟨(stepT x t).y, l, m0⟩ w2 b n C) := Lib.hid ⟨m, hM2, HGp.out.imp id fun ⟨mb, h3, h4⟩ => ⟨mb, h3, h4.only o2 hbC⟩, HGq.out⟩
    have hb2 : b < w2.heap.size := hM2.lt
    clear o2 hM2 hGm HGp HGq K1 O1 G1
    by_cases hc : (stepT x t).c = 0
    · have HP2 : Hid (stepP n x t = if t.k = 1 ∧ t.a = 10 then (if restB n x = true then ⟨lineX n (stepT x t).y, (stepT x t).r, 0⟩ else ⟨x, -1, 14⟩) else ⟨(stepT x t).y, (stepT x t).r, 0⟩) := Lib.hid (by rw [HP.out]; simp [hc])
      rw [hc]
      clear HP HCo
      have ⟨t0, t1, t2, t3, t4, t5⟩ := K2.out.cells
      go_wp2_with fail
      refine (HEn.out _).mono ?_
      clear t0 t1 t2 t3 t4 t5
      rintro e w3 ⟨rfl, b3⟩
      have G3 := Lib.hid (G2.out.keep b3)
      have O3 : Hid (Only b w w3) := Lib.hid (O2.out.trans (only_below hb2 b3))
      clear b3 G2 O2 K2
      by_cases h1 : t.k = 1 ∧ t.a = 10
      · have hy := HY1.out h1.1
        rw [show (decide (t.k = 1) && decide (t.a = 10)) = true by simp [h1]]
        obtain ⟨m, hGm, hGp, hGq⟩ := G3.out
        have HGp := Lib.hid hGp
        have HGq := Lib.hid hGq
        clear hGp hGq
        rw [hy] at HEl hGm
        by_cases hrs : restB n x = true
        · have HP3 : Hid (stepP n x t = ⟨lineX n x, (stepT x t).r, 0⟩) := Lib.hid (by rw [HP2.out, if_pos h1, if_pos hrs, hy])
          have hec : elC n x = 0 := by simp [elC, hrs]
          have hex : elX n x = lineX n x := by simp [elX, hrs]
          rw [hec, hex] at HEl
          clear h1 hy HY1 hec hex hrs HP2
          go_wp2_with fail
          refine (HEl.out m _ hGm).mono ?_
          rintro e w4 ⟨rfl, hM4, o4⟩
          have HD : Hid (GsDoneR n x l m0 t b C w (.returned (.tuple #[.int .i64 (toldR (stepT x t)), .bool (toldB (stepT x t)), .int .i64 0])) w4) := Lib.hid (gs_ofR HP3.out rfl ⟨m, hM4, HGp.out.imp id fun ⟨mb, h3, h4⟩ => ⟨mb, h3, h4.only o4 hbC⟩, HGq.out⟩ (O3.out.trans o4))
          clear hM4 o4 hGm
          generalize toldR (stepT x t) = tr at *
          generalize toldB (stepT x t) = tb at *
          go_wp2
          go_ret3
          exact HD.out
        · have HP3 : Hid (stepP n x t = ⟨x, -1, 14⟩) := Lib.hid (by rw [HP2.out, if_pos h1, if_neg hrs])
          have hec : elC n x = 14 := by simp [elC, hrs]
          have hex : elX n x = x := by simp [elX, hrs]
          rw [hec, hex] at HEl
          clear h1 hy HY1 hec hex hrs HP2
          go_wp2_with fail
          refine (HEl.out m _ hGm).mono ?_
          rintro e w4 ⟨rfl, hM4, o4⟩
          have HD : Hid (GsDoneR n x l m0 t b C w (.returned (.tuple #[.int .i64 0, .bool false, .int .i64 14])) w4) := Lib.hid (gs_ofR HP3.out rfl ⟨m, hM4, HGp.out.imp id fun ⟨mb, h3, h4⟩ => ⟨mb, h3, h4.only o4 hbC⟩, HGq.out⟩ (O3.out.trans o4))
          clear hM4 o4 hGm
          go_wp2
          go_ret3
          exact HD.out
      · rw [show (decide (t.k = 1) && decide (t.a = 10)) = false by
          cases hd : (decide (t.k = 1) && decide (t.a = 10))
          · rfl
          · rw [Bool.and_eq_true, decide_eq_true_eq, decide_eq_true_eq] at hd
            exact absurd hd h1]
        have HD : Hid (GsDoneR n x l m0 t b C w (.returned (.tuple #[.int .i64 (toldR (stepT x t)), .bool (toldB (stepT x t)), .int .i64 0])) w3) := Lib.hid (gs_ofR (p := ⟨(stepT x t).y, (stepT x t).r, 0⟩) (by rw [HP2.out, if_neg h1]) rfl G3.out O3.out)
        clear h1 HY1 HP2 HEl
        generalize toldR (stepT x t) = tr at *
        generalize toldB (stepT x t) = tb at *
        go_wp2
        go_ret3
        exact HD.out
    · have ⟨hy, hrm⟩ := HCo.out hc
      have ec : ((stepT x t).c != 0) = true := by simp [hc]
      have HD : Hid (GsDoneR n x l m0 t b C w (.returned (.tuple #[.int .i64 (toldR (stepT x t)), .bool (toldB (stepT x t)), .int .i64 (stepT x t).c])) w2) := Lib.hid (by
        refine gs_ofR (p := ⟨x, -1, (stepT x t).c⟩) (by rw [HP.out, if_pos hc]) ?_ ?_ O2.out
        · unfold mvV toldR toldB
          rw [hrm]
        · have := G2.out
          rw [hy] at this
          exact this)
      clear hy hrm HCo HP hc HEl HY1
      generalize toldR (stepT x t) = tr at *
      generalize toldB (stepT x t) = tb at *
      generalize (stepT x t).c = cc at *
      go_wp2
      go_ret3
      exact HD.out
  · have HD : Hid (GsDoneR n x l m0 t b C w (.returned (.tuple #[.int .i64 0, .bool false, .int .i64 (refC n t)])) w1) := Lib.hid (gs_ofR (HPr.out hr) rfl G1.out O1.out)
    have er : (refC n t != 0) = true := by simp [hr]
    generalize refC n t = rc at *
    clear hr HPr HPg
    go_wp2
    go_ret3
    exact HD.out

end Go.Proofs.YtbamjhldebobhaaGreatDoor

namespace Go.Proofs.YtbamjhldebobhaaGreatDoor

/-- What Decode tells: the characters, the offset, the code. -/
structure Dc where
  z : List Int
  p : Int
  c : Int

/-- The code of a string that ends in a state. -/
def endC (n : Int) (x : St) : Int := if pendB x = true then 13 else if restB n x = true then 0 else 14
/-- From position k on, in state x, the characters z so far. -/
def decT (n : Int) (s : ByteArray) : Nat → Nat → St → List Int → Dc
  | 0, _, x, z => ⟨z, s.size, endC n x⟩
  | f + 1, k, x, z => if k < s.size then (if (stepP n x (nextTok s k)).c = 0 then decT n s f (k + (nextTok s k).n.toNat) (stepP n x (nextTok s k)).y (addR z (stepP n x (nextTok s k)).r) else ⟨z, k, (stepP n x (nextTok s k)).c⟩) else ⟨z, s.size, endC n x⟩
/-- The string begins with the header. -/
def hasPre (s h : ByteArray) : Bool := decide (h.size ≤ s.size) && ((s.extract 0 h.size).toList == h.toList)
def headB (n : Int) (s : ByteArray) : Bool := hasPre s (prHead n)
def decP (n : Int) (s : ByteArray) : Dc := if headB n s = true then decT n s s.size 0 (startP n) [] else ⟨[], 0, 15⟩
/-- The code of a string that is not read at all. -/
def askC (n : Int) (s : ByteArray) : Int := if 65536 < s.size then 2 else if proB n = true then (if 4096 < s.size then 8 else 0) else 5
def dcD (n : Int) (s : ByteArray) : Dc := if askC n s = 0 then decP n s else ⟨[], 0, askC n s⟩

/-- A line that begins behind a fault. -/
def anewX (n : Int) (x : St) : St := if prClear n = true then startP n else ⟨(startP n).g0, x.g1, x.g2, x.g3, 0, 0, 0⟩
/-- The state behind a token with a code, and the characters that it adds. -/
def badX (n : Int) (x : St) (t : Tok) : St := if t.k = 1 ∧ t.a = 10 then anewX n x else ⟨x.g0, x.g1, x.g2, x.g3, x.l, 0, 0⟩
def badZ (t : Tok) : List Int := if t.k = 1 ∧ t.a = 10 then [65533, 10] else [65533]
def pendZ (x : St) (z : List Int) : List Int := if pendB x = true then z ++ [65533] else z
def looT (n : Int) (s : ByteArray) : Nat → Nat → St → List Int → List Int
  | 0, _, x, z => pendZ x z
  | f + 1, k, x, z => if k < s.size then (if (stepP n x (nextTok s k)).c = 0 then looT n s f (k + (nextTok s k).n.toNat) (stepP n x (nextTok s k)).y (addR z (stepP n x (nextTok s k)).r) else looT n s f (k + (nextTok s k).n.toNat) (badX n x (nextTok s k)) (z ++ badZ (nextTok s k))) else pendZ x z
def looP (n : Int) (s : ByteArray) : List Int := looT n s s.size 0 (startP n) (if headB n s = true then [] else [65533])
def looD (n : Int) (s : ByteArray) : List Int := if askC n s = 0 then looP n s else []

end Go.Proofs.YtbamjhldebobhaaGreatDoor

namespace Go.Proofs.YtbamjhldebobhaaGreatDoor
open Go.RowKit Go.Sort

set_option maxHeartbeats 1000000 in
theorem str_HasPrefix (s h : ByteArray) (w : World) : Calls Tryz.prog 77 #[.string s, .string h] w fun e w' => e = .returned (.bool (hasPre s h)) ∧ w = w' := by
  by_cases hl : h.size ≤ s.size
  · have hl' : (h.size : Int) ≤ (s.size : Int) := by omega
    have HE : Hid (((s.extract 0 h.size).toList == h.toList) = hasPre s h) := Lib.hid (by rw [hasPre, decide_eq_true hl, Bool.true_and])
    go_enter Tryz.func77, Tryz.ntmps77
    go_wp2
    go_ret
    exact ⟨ret_bool HE.out, rfl⟩
  · have hl' : ¬ (h.size : Int) ≤ (s.size : Int) := by omega
    have HE : Hid (false = hasPre s h) := Lib.hid (by rw [hasPre, decide_eq_false hl, Bool.false_and])
    go_enter Tryz.func77, Tryz.ntmps77
    go_wp2
    go_ret
    exact ⟨ret_bool HE.out, rfl⟩

set_option maxHeartbeats 1000000 in
theorem spec_l06Header (n : Int) (v : Value) (s : ByteArray) (w : World) : Calls Tryz.prog 63 #[prV n v, .string s] w fun e w' => e = .returned (.bool (headB n s)) ∧ Below w.heap.size w w' := by
  have B0 := Lib.hid (below_one w (.cells #[.string (prName n), .string (prHead n), v, .bool (prRight n), .bool (prShifts n), .bool (prSingle n), .bool (prReset n), .bool (prClear n)] 60))
  unfold prV headB
  generalize prHead n = h at *
  have A0 : (w.alloc (.cells #[.string (prName n), .string h, v, .bool (prRight n), .bool (prShifts n), .bool (prSingle n), .bool (prReset n), .bool (prClear n)] 60)).heap[w.heap.size]? = some (.cells #[.string (prName n), .string h, v, .bool (prRight n), .bool (prShifts n), .bool (prSingle n), .bool (prReset n), .bool (prClear n)] 60) := heap_alloc_new _ _
  have c1 : (w.alloc (.cells #[.string (prName n), .string h, v, .bool (prRight n), .bool (prShifts n), .bool (prSingle n), .bool (prReset n), .bool (prClear n)] 60)).cell? ⟨w.heap.size, 1, none⟩ = some (.string h) := by rw [cell_of_row _ _ _ _ _ _ A0]; rfl
  clear A0
  by_cases hl : h.size ≤ s.size
  · have hl' : (h.size : Int) ≤ (s.size : Int) := by omega
    have HE : Hid (((s.extract 0 h.size).toList == h.toList) = hasPre s h) := Lib.hid (by rw [hasPre, decide_eq_true hl, Bool.true_and])
    go_enter Tryz.func63, Tryz.ntmps63
    go_wp2
    generalize w.alloc (.cells #[.string (prName n), .string h, v, .bool (prRight n), .bool (prShifts n), .bool (prSingle n), .bool (prReset n), .bool (prClear n)] 60) = W0 at *
    go_quiet (fail)
    go_wp2
    go_ret
    exact ⟨ret_bool HE.out, below_drewN B0.out _⟩
  · have hl' : ¬ (h.size : Int) ≤ (s.size : Int) := by omega
    have HE : Hid (false = hasPre s h) := Lib.hid (by rw [hasPre, decide_eq_false hl, Bool.false_and])
    go_enter Tryz.func63, Tryz.ntmps63
    go_wp2
    generalize w.alloc (.cells #[.string (prName n), .string h, v, .bool (prRight n), .bool (prShifts n), .bool (prSingle n), .bool (prReset n), .bool (prClear n)] 60) = W0 at *
    go_quiet (fail)
    go_wp2
    go_ret
    exact ⟨ret_bool HE.out, below_drewN B0.out _⟩

set_option maxHeartbeats 1000000 in
theorem spec_l06Ask (n : Int) (s : ByteArray) (w : World) : Calls Tryz.prog 33 #[.int .i64 n, .string s] w fun e w' => e = .returned (.int .i64 (askC n s)) ∧ w = w' := by
  have HN := Lib.hid (fun w => spec_l05No n w)
  by_cases h1 : 65536 < s.size
  · have h1' : (65536 : Int) < (s.size : Int) := by omega
    have HE : Hid (2 = askC n s) := Lib.hid (by rw [askC, if_pos h1])
    go_enter Tryz.func33, Tryz.ntmps33
    go_wp2
    go_ret
    exact ⟨ret_int HE.out, rfl⟩
  have h1' : ¬ (65536 : Int) < (s.size : Int) := by omega
  cases hn : proB n
  · have HE : Hid (5 = askC n s) := Lib.hid (by rw [askC, if_neg h1, hn]; rfl)
    rw [hn] at HN
    go_enter Tryz.func33, Tryz.ntmps33
    go_wp2_with fail
    refine (HN.out _).mono ?_
    rintro e w1 ⟨rfl, rfl⟩
    go_wp2
    go_ret
    exact ⟨ret_int HE.out, rfl⟩
  rw [hn] at HN
  by_cases h2 : 4096 < s.size
  · have h2' : (4096 : Int) < (s.size : Int) := by omega
    have HE : Hid (8 = askC n s) := Lib.hid (by rw [askC, if_neg h1, hn, if_pos rfl, if_pos h2])
    go_enter Tryz.func33, Tryz.ntmps33
    go_wp2_with fail
    refine (HN.out _).mono ?_
    rintro e w1 ⟨rfl, rfl⟩
    go_wp2
    go_ret
    exact ⟨ret_int HE.out, rfl⟩
  · have h2' : ¬ (4096 : Int) < (s.size : Int) := by omega
    have HE : Hid (0 = askC n s) := Lib.hid (by rw [askC, if_neg h1, hn, if_pos rfl, if_neg h2])
    go_enter Tryz.func33, Tryz.ntmps33
    go_wp2_with fail
    refine (HN.out _).mono ?_
    rintro e w1 ⟨rfl, rfl⟩
    go_wp2
    go_ret
    exact ⟨ret_int HE.out, rfl⟩

set_option maxHeartbeats 1000000 in
theorem spec_l06End (n : Int) (v : Value) (x : St) (w : World) (hv : ∃ g c, v = .slice (some ⟨g, 0, none⟩) 4 c) : Calls Tryz.prog 67 #[prV n v, stV x] w fun e w' => e = .returned (.int .i64 (endC n x)) ∧ Below w.heap.size w w' := by
  obtain ⟨vg, vc, rfl⟩ := hv
  have HP := Lib.hid (fun w => spec_l04Pending x w)
  have HR := Lib.hid (fun w => spec_l05Rest n (.slice (some ⟨vg, 0, none⟩) 4 vc) x w)
  have HE : Hid (endC n x = if pendB x = true then 13 else if restB n x = true then 0 else 14) := Lib.hid rfl
  have B0 := Lib.hid (below_two w (.cells #[.string (prName n), .string (prHead n), (.slice (some ⟨vg, 0, none⟩) 4 vc), .bool (prRight n), .bool (prShifts n), .bool (prSingle n), .bool (prReset n), .bool (prClear n)] 60) (.cells #[.int .i64 x.g0, .int .i64 x.g1, .int .i64 x.g2, .int .i64 x.g3, .int .i64 x.l, .int .i64 x.s, .int .i64 x.d] 39))
  have A0 : Hid (((w.alloc (.cells #[.string (prName n), .string (prHead n), (.slice (some ⟨vg, 0, none⟩) 4 vc), .bool (prRight n), .bool (prShifts n), .bool (prSingle n), .bool (prReset n), .bool (prClear n)] 60)).alloc (.cells #[.int .i64 x.g0, .int .i64 x.g1, .int .i64 x.g2, .int .i64 x.g3, .int .i64 x.l, .int .i64 x.s, .int .i64 x.d] 39)).heap[w.heap.size]? = some (.cells #[.string (prName n), .string (prHead n), (.slice (some ⟨vg, 0, none⟩) 4 vc), .bool (prRight n), .bool (prShifts n), .bool (prSingle n), .bool (prReset n), .bool (prClear n)] 60)) := Lib.hid (heap_alloc2_old _ _ _)
  have S0 : Hid (StAt ((w.alloc (.cells #[.string (prName n), .string (prHead n), (.slice (some ⟨vg, 0, none⟩) 4 vc), .bool (prRight n), .bool (prShifts n), .bool (prSingle n), .bool (prReset n), .bool (prClear n)] 60)).alloc (.cells #[.int .i64 x.g0, .int .i64 x.g1, .int .i64 x.g2, .int .i64 x.g3, .int .i64 x.l, .int .i64 x.s, .int .i64 x.d] 39)) (w.heap.size + 1) x) := Lib.hid (heap_alloc2_new _ _ _)
  unfold prV stV at *
  have ⟨y0, y1, y2, y3, y4, y5, y6⟩ := S0.out.cells
  cases hp : pendB x
  · rw [hp] at HP HE
    go_enter Tryz.func67, Tryz.ntmps67
    go_wp2_with fail
    refine (HP.out _).mono ?_
    generalize (w.alloc (.cells #[.string (prName n), .string (prHead n), (.slice (some ⟨vg, 0, none⟩) 4 vc), .bool (prRight n), .bool (prShifts n), .bool (prSingle n), .bool (prReset n), .bool (prClear n)] 60)).alloc (.cells #[.int .i64 x.g0, .int .i64 x.g1, .int .i64 x.g2, .int .i64 x.g3, .int .i64 x.l, .int .i64 x.s, .int .i64 x.d] 39) = W0 at *
    clear y0 y1 y2 y3 y4 y5 y6
    rintro e w1 ⟨rfl, b1⟩
    have B1 : Hid (Below w.heap.size w w1) := Lib.hid (B0.out.trans (b1.mono B0.out.size))
    have S1 := Lib.hid (S0.out.keep b1)
    have A1 := Lib.hid ((b1.block _ (Array.getElem?_eq_some_iff.1 A0.out).1).trans A0.out)
    clear b1 A0 S0
    have ⟨y0, y1, y2, y3, y4, y5, y6⟩ := S1.out.cells
    have ⟨p0, p1, p2, p3, p4, p5, p6, p7⟩ := row8_cells A1.out
    go_wp2_with fail
    refine (HR.out _).mono ?_
    clear y0 y1 y2 y3 y4 y5 y6 p0 p1 p2 p3 p4 p5 p6 p7
    rintro e w2 ⟨rfl, b2⟩
    have B2 : Hid (Below w.heap.size w w2) := Lib.hid (B1.out.trans (b2.mono B1.out.size))
    clear b2
    cases hr : restB n x
    · have HE2 : Hid (endC n x = 14) := Lib.hid (by rw [HE.out, hr]; rfl)
      go_wp2
      go_ret
      exact ⟨ret_int HE2.out.symm, B2.out⟩
    · have HE2 : Hid (endC n x = 0) := Lib.hid (by rw [HE.out, hr]; rfl)
      go_wp2
      go_ret
      exact ⟨ret_int HE2.out.symm, B2.out⟩
  · have HE2 : Hid (endC n x = 13) := Lib.hid (by rw [HE.out, hp]; rfl)
    rw [hp] at HP
    go_enter Tryz.func67, Tryz.ntmps67
    go_wp2_with fail
    refine (HP.out _).mono ?_
    generalize (w.alloc (.cells #[.string (prName n), .string (prHead n), (.slice (some ⟨vg, 0, none⟩) 4 vc), .bool (prRight n), .bool (prShifts n), .bool (prSingle n), .bool (prReset n), .bool (prClear n)] 60)).alloc (.cells #[.int .i64 x.g0, .int .i64 x.g1, .int .i64 x.g2, .int .i64 x.g3, .int .i64 x.l, .int .i64 x.s, .int .i64 x.d] 39) = W0 at *
    clear y0 y1 y2 y3 y4 y5 y6
    rintro e w1 ⟨rfl, b1⟩
    have B1 : Hid (Below w.heap.size w w1) := Lib.hid (B0.out.trans (b1.mono B0.out.size))
    clear b1
    go_wp2
    go_ret
    exact ⟨ret_int HE2.out.symm, B1.out⟩

end Go.Proofs.YtbamjhldebobhaaGreatDoor

namespace Go.Proofs.YtbamjhldebobhaaGreatDoor
open Go.RowKit Go.Sort

/-- Decode handed back: the characters in new memory, the offset, the code. -/
def DecDone (d : Dc) (w : World) (e : Ending) (w' : World) : Prop := ∃ v, e = .returned (.tuple #[v, .int .i64 d.p, .int .i64 d.c]) ∧ Own .i64 3 w' w.heap.size v d.z ∧ Below w.heap.size w w'
theorem startP_ok (n : Int) : stOKB (startP n) = true := by
  unfold startP
  split <;> decide
theorem lineX_ok {n : Int} {x : St} (h : stOKB x = true) : stOKB (lineX n x) = true := by
  unfold lineX
  split
  · exact startP_ok n
  · exact h
theorem stepP_ok {n : Int} {x : St} {t : Tok} (hx : stOKB x = true) (ht : tokLP t) : stOKB (stepP n x t).y = true := by
  have h1 := stepT_ok hx ht
  unfold stepP
  generalize stepT x t = q at *
  split
  · exact hx
  split
  · exact hx
  split
  · exact hx
  split
  · exact hx
  split
  · split
    · exact lineX_ok h1
    · exact hx
  · exact h1
/-- A slice of the call's own lies in no block of cells of another type. -/
theorem Own.apart {k : IntKind} {e t : TypeId} {w : World} {B g : Nat} {v : Value} {zs : List Int} {cs : Array Value} {fr : Nat × Nat} (h : Own k e w B v zs) (hg : w.heap[g]? = some (.cells cs t fr)) (ht : t ≠ e) : v.ownBlock ≠ some g := by
  rcases h.2 with ⟨hv, _⟩ | ⟨j, cap, cur, a, b, c, d⟩
  · rw [hv]; exact fun h => by cases h
  · rw [a]
    intro hj
    have hj' : j = g := by simpa [Value.ownBlock] using hj
    subst hj'
    rw [c] at hg
    cases hg
    exact ht rfl
theorem Own.blocks {k : IntKind} {e : TypeId} {w w' : World} {B : Nat} {v : Value} {zs : List Int} (h : Own k e w B v zs) (hb : ∀ g, v.ownBlock = some g → w'.heap[g]? = w.heap[g]?) : Own k e w' B v zs := by
  refine ⟨h.1, ?_⟩
  rcases h.2 with h | ⟨g, cap, cur, a, b, c, d⟩
  · exact .inl h
  · exact .inr ⟨g, cap, cur, a, b, by rw [hb g (by rw [a]; rfl)]; exact c, d⟩
theorem Own.putStN {k : IntKind} {e : TypeId} {w : World} {B g : Nat} {v : Value} {zs : List Int} (h : Own k e w B v zs) (hg : v.ownBlock ≠ some g) (y : St) : Own k e (Go.Proofs.YtbamjhldebobhaaGreatDoor.putSt w g y) B v zs :=
  h.blocks fun j hj => heap_putSt y (fun e => hg (by rw [hj, e]))

set_option maxHeartbeats 4000000 in
set_option maxRecDepth 100000 in
theorem spec_l06Decode (n : Int) (s : ByteArray) (w : World) (hs : s.size ≤ 4096) : Calls Tryz.prog 34 #[.int .i64 n, .string s] w (DecDone (decP n s) w) := by
  have HPf := Lib.hid (fun w => spec_l05Profile n w)
  have HH := Lib.hid (fun v w => spec_l06Header n v s w)
  have HSt := Lib.hid (fun w => spec_l05Start n w)
  unfold prV at HH
  unfold StDone stV at HSt
  go_enter Tryz.func34, Tryz.ntmps34
  go_wp2_with fail
  refine (HPf.out _).mono ?_
  rintro e w1 ⟨pv, rfl, hpv, b1⟩
  obtain ⟨pg, pc, rfl⟩ := hpv.form
  unfold prV
  have B1 : Hid (Below w.heap.size w (w1.alloc (.cells #[.string (prName n), .string (prHead n), (.slice (some ⟨pg, 0, none⟩) 4 pc), .bool (prRight n), .bool (prShifts n), .bool (prSingle n), .bool (prReset n), .bool (prClear n)] 60))) := Lib.hid (b1.alloc b1.size _)
  have P1 : Hid ((w1.alloc (.cells #[.string (prName n), .string (prHead n), (.slice (some ⟨pg, 0, none⟩) 4 pc), .bool (prRight n), .bool (prShifts n), .bool (prSingle n), .bool (prReset n), .bool (prClear n)] 60)).heap[w1.heap.size]? = some (.cells #[.string (prName n), .string (prHead n), (.slice (some ⟨pg, 0, none⟩) 4 pc), .bool (prRight n), .bool (prShifts n), .bool (prSingle n), .bool (prReset n), .bool (prClear n)] 60)) := Lib.hid (heap_alloc_new _ _)
  have hw1 : w.heap.size ≤ w1.heap.size := b1.size
  have P1a := Lib.hid ((heap_alloc2_old w1 (.cells #[.string (prName n), .string (prHead n), (.slice (some ⟨pg, 0, none⟩) 4 pc), .bool (prRight n), .bool (prShifts n), .bool (prSingle n), .bool (prReset n), .bool (prClear n)] 60) (.cells #[] 3)))
  have ⟨p0, p1, p2, p3, p4, p5, p6, p7⟩ := row8_cells P1a.out
  clear b1 hpv
  go_wp2_with fail
  refine (HH.out _ _).mono ?_
  clear p0 p1 p2 p3 p4 p5 p6 p7
  have O0 : Hid (Own .i64 3 ((w1.alloc (.cells #[.string (prName n), .string (prHead n), (.slice (some ⟨pg, 0, none⟩) 4 pc), .bool (prRight n), .bool (prShifts n), .bool (prSingle n), .bool (prReset n), .bool (prClear n)] 60)).alloc (.cells #[] 3)) w.heap.size (.slice (some ⟨w1.heap.size + 1, 0, none⟩) 0 0) []) := Lib.hid (by
    have h := Own.lit .i64 3 (w1.alloc (.cells #[.string (prName n), .string (prHead n), (.slice (some ⟨pg, 0, none⟩) 4 pc), .bool (prRight n), .bool (prShifts n), .bool (prSingle n), .bool (prReset n), .bool (prClear n)] 60)) w.heap.size [] (by simp; omega) (by simp)
    rw [show (w1.alloc (.cells #[.string (prName n), .string (prHead n), (.slice (some ⟨pg, 0, none⟩) 4 pc), .bool (prRight n), .bool (prShifts n), .bool (prSingle n), .bool (prReset n), .bool (prClear n)] 60)).heap.size = w1.heap.size + 1 by simp] at h
    exact h)
  have B0 : Hid (Below w.heap.size w ((w1.alloc (.cells #[.string (prName n), .string (prHead n), (.slice (some ⟨pg, 0, none⟩) 4 pc), .bool (prRight n), .bool (prShifts n), .bool (prSingle n), .bool (prReset n), .bool (prClear n)] 60)).alloc (.cells #[] 3))) := Lib.hid (B1.out.alloc B1.out.size _)
  have hW0 : ((w1.alloc (.cells #[.string (prName n), .string (prHead n), (.slice (some ⟨pg, 0, none⟩) 4 pc), .bool (prRight n), .bool (prShifts n), .bool (prSingle n), .bool (prReset n), .bool (prClear n)] 60)).alloc (.cells #[] 3)).heap.size = w1.heap.size + 2 := by simp
  clear B1 P1
  generalize (w1.alloc (.cells #[.string (prName n), .string (prHead n), (.slice (some ⟨pg, 0, none⟩) 4 pc), .bool (prRight n), .bool (prShifts n), .bool (prSingle n), .bool (prReset n), .bool (prClear n)] 60)).alloc (.cells #[] 3) = W0 at *
  rintro e w2 ⟨rfl, b2⟩
  have O2 := Lib.hid (O0.out.all b2)
  have B2 := Lib.hid (B0.out.trans (b2.mono B0.out.size))
  have P2 := Lib.hid ((b2.block _ (Array.getElem?_eq_some_iff.1 P1a.out).1).trans P1a.out)
  have hw2 : w1.heap.size + 2 ≤ w2.heap.size := by rw [← hW0]; exact b2.size
  clear b2 O0 B0 P1a hW0
  cases hh : headB n s
  · have HE : Hid (decP n s = ⟨[], 0, 15⟩) := Lib.hid (by rw [decP, hh]; rfl)
    go_wp2
    go_ret3
    exact ⟨_, by rw [HE.out]; rfl, by rw [HE.out]; exact O2.out, B2.out⟩
  have HD : Hid (decP n s = decT n s s.size 0 (startP n) []) := Lib.hid (by rw [decP, hh]; rfl)
  go_wp2_with fail
  refine (HSt.out _).mono ?_
  rintro e w3 ⟨rfl, b3⟩
  have O3 := Lib.hid ((O2.out.all b3).alloc (.cells #[.int .i64 (startP n).g0, .int .i64 (startP n).g1, .int .i64 (startP n).g2, .int .i64 (startP n).g3, .int .i64 (startP n).l, .int .i64 (startP n).s, .int .i64 (startP n).d] 39))
  have B3 := Lib.hid ((B2.out.trans (b3.mono B2.out.size)).alloc (B2.out.trans (b3.mono B2.out.size)).size (.cells #[.int .i64 (startP n).g0, .int .i64 (startP n).g1, .int .i64 (startP n).g2, .int .i64 (startP n).g3, .int .i64 (startP n).l, .int .i64 (startP n).s, .int .i64 (startP n).d] 39))
  have P3 := Lib.hid ((((b3.block _ (Array.getElem?_eq_some_iff.1 P2.out).1).trans P2.out)).trans rfl)
  have P4 : Hid ((w3.alloc (.cells #[.int .i64 (startP n).g0, .int .i64 (startP n).g1, .int .i64 (startP n).g2, .int .i64 (startP n).g3, .int .i64 (startP n).l, .int .i64 (startP n).s, .int .i64 (startP n).d] 39)).heap[w1.heap.size]? = some (.cells #[.string (prName n), .string (prHead n), (.slice (some ⟨pg, 0, none⟩) 4 pc), .bool (prRight n), .bool (prShifts n), .bool (prSingle n), .bool (prReset n), .bool (prClear n)] 60)) := Lib.hid (((below_one w3 (.cells #[.int .i64 (startP n).g0, .int .i64 (startP n).g1, .int .i64 (startP n).g2, .int .i64 (startP n).g3, .int .i64 (startP n).l, .int .i64 (startP n).s, .int .i64 (startP n).d] 39)).block _ (Array.getElem?_eq_some_iff.1 P3.out).1).trans P3.out)
  have S3 := Lib.hid (StAt.new w3 (startP n))
  have hw3 : w1.heap.size + 2 ≤ w3.heap.size := Nat.le_trans hw2 b3.size
  have hX0 := Lib.hid (startP_ok n)
  clear b3 O2 B2 P2 P3 hh hw2
  generalize startP n = x0 at *
  go_wp2
  generalize w3.alloc (.cells #[.int .i64 x0.g0, .int .i64 x0.g1, .int .i64 x0.g2, .int .i64 x0.g3, .int .i64 x0.l, .int .i64 x0.s, .int .i64 x0.d] 39) = W3 at *
  go_loopw [8, 10] (fun v i wr => ∃ (k f : Nat) (xs : St) (zs : List Int), k ≤ s.size ∧ i = .int .i64 k ∧ Hid (s.size ≤ k + f) ∧ zs.length ≤ k ∧ Hid (decT n s s.size 0 x0 [] = decT n s f k xs zs) ∧ Hid (stOKB xs = true) ∧ Hid (Own .i64 3 wr w.heap.size v zs) ∧ Hid (StAt wr w3.heap.size xs) ∧ Hid (wr.heap[w1.heap.size]? = some (.cells #[.string (prName n), .string (prHead n), (.slice (some ⟨pg, 0, none⟩) 4 pc), .bool (prRight n), .bool (prShifts n), .bool (prSingle n), .bool (prReset n), .bool (prClear n)] 60)) ∧ Hid (Below w.heap.size w wr)) (fun _ i _ => s.size - (intOf i).toNat)
  case atStart =>
    exact ⟨0, s.size, x0, [], by omega, rfl, Lib.hid (by omega), by simp, Lib.hid rfl, hX0, O3, S3, P4, B3⟩
  case round =>
    obtain ⟨k, f, xs, zs, hk, rfl, HF, hzs, HR, HX, HO, HB, HP, BW⟩ := hrel
    obtain ⟨a0, c0, hform, _⟩ := HO.out.shape
    subst hform
    clear O3 P4 S3 B3
    have hV3 := HO.out.apart HB.out (by decide)
    have hV1 := HO.out.apart HP.out (by decide)
    have hl3 : w3.heap.size < wr.heap.size := HB.out.lt
    have hl1 : w1.heap.size < wr.heap.size := (Array.getElem?_eq_some_iff.1 HP.out).1
    by_cases hlt : k < s.size
    · obtain ⟨f, rfl⟩ : ∃ q, f = q + 1 := ⟨f - 1, by have := HF.out; omega⟩
      have v2 : (k : Int) < (s.size : Int) := by omega
      have HU : Hid (decT n s (f + 1) k xs zs = if (stepP n xs (nextTok s k)).c = 0 then decT n s f (k + (nextTok s k).n.toNat) (stepP n xs (nextTok s k)).y (addR zs (stepP n xs (nextTok s k)).r) else ⟨zs, k, (stepP n xs (nextTok s k)).c⟩) := Lib.hid (by rw [decT, if_pos hlt])
      have n1 := (nextTok_in s k hlt).2.1
      have n2 := (nextTok_in s k hlt).2.2
      have HN := Lib.hid (fun w => spec_l03Next s k w hlt (by omega))
      have HG := Lib.hid (fun w => spec_l05Step n xs (nextTok s k) w HX.out (nextTok_ok s k hlt (by omega)))
      have hr := stepP_r (n := n) (x := xs) (nextTok_ok s k hlt (by omega))
      have HX2 := Lib.hid (stepP_ok (n := n) HX.out (nextTok_ok s k hlt (by omega)))
      unfold TokDone tokV at HN
      unfold StpDone stpV tokV stV at HG
      generalize nextTok s k = y at *
      generalize stepP n xs y = p at *
      have u1 : IntKind.i64.wrap ((k : Int) + y.n) = (k : Int) + y.n := IntWalk.i64_in _ (by omega)
      go_wp2_with fail
      refine (HN.out _).mono ?_
      rintro e w4 ⟨rfl, b1⟩
      have B1 := Lib.hid (BW.out.trans (b1.mono BW.out.size))
      have O1 := Lib.hid ((HO.out.all b1).all (below_one w4 (.cells #[.int .i64 y.k, .int .i64 y.a, .int .i64 y.b, .int .i64 y.c, .int .i64 y.p, .int .i64 y.n] 102)))
      have HB1 := Lib.hid ((HB.out.keep b1).keep (below_one w4 (.cells #[.int .i64 y.k, .int .i64 y.a, .int .i64 y.b, .int .i64 y.c, .int .i64 y.p, .int .i64 y.n] 102)))
      have HP0 := Lib.hid ((b1.block _ hl1).trans HP.out)
      have hl4 : w1.heap.size < w4.heap.size := Nat.lt_of_lt_of_le hl1 b1.size
      have hl43 : w3.heap.size < w4.heap.size := Nat.lt_of_lt_of_le hl3 b1.size
      have HP1 := Lib.hid (((below_one w4 (.cells #[.int .i64 y.k, .int .i64 y.a, .int .i64 y.b, .int .i64 y.c, .int .i64 y.p, .int .i64 y.n] 102)).block _ hl4).trans HP0.out)
      have HK1 := Lib.hid (TokAt.new w4 y)
      have B1b := Lib.hid (B1.out.alloc B1.out.size (.cells #[.int .i64 y.k, .int .i64 y.a, .int .i64 y.b, .int .i64 y.c, .int .i64 y.p, .int .i64 y.n] 102))
      have L1 := Lib.hid (fun g hg => World.ownsRow.lt (HO.out.all b1) g hg)
      clear b1 HO HB HP HP0 BW B1 HN
      have ⟨y0, y1, y2, y3, y4, y5, y6⟩ := HB1.out.cells
      have ⟨t0, t1, t2, t3, t4, t5⟩ := HK1.out.cells
      go_wp2_with fail
      refine (HG.out _).mono ?_
      clear y0 y1 y2 y3 y4 y5 y6 t0 t1 t2 t3 t4 t5
      generalize w4.alloc (.cells #[.int .i64 y.k, .int .i64 y.a, .int .i64 y.b, .int .i64 y.c, .int .i64 y.p, .int .i64 y.n] 102) = W4 at *
      rintro e w5 ⟨rfl, b2⟩
      have B2 := Lib.hid (B1b.out.trans (b2.mono B1b.out.size))
      have O2 := Lib.hid (O1.out.all b2)
      have HB2 := Lib.hid (HB1.out.keep b2)
      have HP2 := Lib.hid ((b2.block _ (Array.getElem?_eq_some_iff.1 HP1.out).1).trans HP1.out)
      have HK2 := Lib.hid (HK1.out.keep b2)
      clear b2 O1 HB1 HP1 HK1 B1b
      by_cases hc : p.c = 0
      · have ec : (p.c != 0) = false := by simpa using hc
        have ⟨q0, q1, q2, q3, q4, q5, q6⟩ := HB2.out.thaw
        have ⟨y0, y1, y2, y3, y4, y5, y6⟩ := HB2.out.cells
        have hl6 : w3.heap.size < w5.heap.size := HB2.out.lt
        have hk2 : w4.heap.size < w5.heap.size := HK2.out.lt
        have ⟨p0, p1, p2, p3, p4, p5, p6⟩ := (StAt.new w5 p.y).cells
        have ⟨t0, t1, t2, t3, t4, t5⟩ := HK2.out.cells
        have HN2 : Hid (∃ m : Nat, y.n = (m : Int) ∧ 1 ≤ m ∧ k + m ≤ s.size) := Lib.hid ⟨y.n.toNat, by omega, by omega, by omega⟩
        have BP := Lib.hid (below_putSt B2.out (show w.heap.size ≤ w3.heap.size by omega) p.y)
        have OP := Lib.hid (O2.out.putStN hV3 p.y)
        have HBP := Lib.hid (HB2.out.put p.y)
        have HPP : Hid ((putSt w5 w3.heap.size p.y).heap[w1.heap.size]? = some (.cells #[.string (prName n), .string (prHead n), (.slice (some ⟨pg, 0, none⟩) 4 pc), .bool (prRight n), .bool (prShifts n), .bool (prSingle n), .bool (prReset n), .bool (prClear n)] 60)) := Lib.hid ((heap_putSt p.y (by omega)).trans HP2.out)
        have hlP : w1.heap.size < (putSt w5 w3.heap.size p.y).heap.size := (Array.getElem?_eq_some_iff.1 HPP.out).1
        have HPQ := Lib.hid (((below_one (putSt w5 w3.heap.size p.y) (.cells #[.int .i64 p.y.g0, .int .i64 p.y.g1, .int .i64 p.y.g2, .int .i64 p.y.g3, .int .i64 p.y.l, .int .i64 p.y.s, .int .i64 p.y.d] 39)).block _ hlP).trans HPP.out)
        rcases hr with hr | hr
        · have HA : Hid (addR zs p.r = zs) := Lib.hid (addR_none hr)
          have vr : p.r < 0 := by omega
          obtain ⟨m, hm, m1, m2⟩ := HN2.out
          have HM := Lib.hid hm
          have e5 : (k : Int) + y.n = ((k + m : Nat) : Int) := by omega
          clear hm
          go_wp2
          go_roundw
          case rel => exact ⟨k + m, f, p.y, zs, m2, by simp, Lib.hid (by have := HF.out; omega), by omega, Lib.hid (by rw [HR.out, HU.out, if_pos hc, HA.out, HM.out]; simp), HX2, Lib.hid (OP.out.alloc _), Lib.hid (HBP.out.alloc _), HPQ, Lib.hid (BP.out.alloc BP.out.size _)⟩
          case measure => simp [intOf]; omega
        · have HA : Hid (addR zs p.r = zs ++ [p.r]) := Lib.hid (addR_some hr)
          have O3 := Lib.hid ((OP.out.alloc (.cells #[.int .i64 p.y.g0, .int .i64 p.y.g1, .int .i64 p.y.g2, .int .i64 p.y.g3, .int .i64 p.y.l, .int .i64 p.y.s, .int .i64 p.y.d] 39)).alloc (.cells #[.int .i64 p.r] 3))
          have HNW := Lib.hid (World.news_of_block (show (((putSt w5 w3.heap.size p.y).alloc (.cells #[.int .i64 p.y.g0, .int .i64 p.y.g1, .int .i64 p.y.g2, .int .i64 p.y.g3, .int .i64 p.y.l, .int .i64 p.y.s, .int .i64 p.y.d] 39)).alloc (.cells #[.int .i64 p.r] 3)).heap[w5.heap.size + 1]? = some (.cells ([p.r].map (Value.int .i64)).toArray 3) from by
            have := heap_alloc2_new (putSt w5 w3.heap.size p.y) (.cells #[.int .i64 p.y.g0, .int .i64 p.y.g1, .int .i64 p.y.g2, .int .i64 p.y.g3, .int .i64 p.y.l, .int .i64 p.y.s, .int .i64 p.y.d] 39) (.cells #[.int .i64 p.r] 3)
            rw [size_putSt] at this
            exact this))
          have hB3 : w.heap.size ≤ (((putSt w5 w3.heap.size p.y).alloc (.cells #[.int .i64 p.y.g0, .int .i64 p.y.g1, .int .i64 p.y.g2, .int .i64 p.y.g3, .int .i64 p.y.l, .int .i64 p.y.s, .int .i64 p.y.d] 39)).alloc (.cells #[.int .i64 p.r] 3)).heap.size := by
            simp only [World.size_alloc, size_putSt]; omega
          have HPR := Lib.hid (((below_one ((putSt w5 w3.heap.size p.y).alloc (.cells #[.int .i64 p.y.g0, .int .i64 p.y.g1, .int .i64 p.y.g2, .int .i64 p.y.g3, .int .i64 p.y.l, .int .i64 p.y.s, .int .i64 p.y.d] 39)) (.cells #[.int .i64 p.r] 3)).block _ (Array.getElem?_eq_some_iff.1 HPQ.out).1).trans HPQ.out)
          go_wp2_with (at_builtin; refine app_i64 _ rfl _ _ rfl w.heap.size _ zs rfl O3.out ⟨w5.heap.size + 1, 0, none⟩ 1 1 [p.r] rfl rfl (by decide) HNW.out (by omega) hB3 ?_)
          intro g cap2 w6 o4 g4 lt4
          have hx4 : TokAt w6 w4.heap.size y := (g4.block _ (by simp; omega) (fun h => by have := (L1.out _ h.symm).2; omega)).trans (((HK2.out.other p.y (by omega)).keep (below_one _ (.cells #[.int .i64 p.y.g0, .int .i64 p.y.g1, .int .i64 p.y.g2, .int .i64 p.y.g3, .int .i64 p.y.l, .int .i64 p.y.s, .int .i64 p.y.d] 39))).keep (below_one _ (.cells #[.int .i64 p.r] 3)))
          have HB4 := Lib.hid ((g4.block w3.heap.size (by simp; omega) (fun h => hV3 h.symm)).trans ((HBP.out.alloc (.cells #[.int .i64 p.y.g0, .int .i64 p.y.g1, .int .i64 p.y.g2, .int .i64 p.y.g3, .int .i64 p.y.l, .int .i64 p.y.s, .int .i64 p.y.d] 39)).alloc (.cells #[.int .i64 p.r] 3)))
          have HP4 := Lib.hid ((g4.block w1.heap.size (by simp; omega) (fun h => hV1 h.symm)).trans HPR.out)
          have B3 := BP.out.alloc BP.out.size (.cells #[.int .i64 p.y.g0, .int .i64 p.y.g1, .int .i64 p.y.g2, .int .i64 p.y.g3, .int .i64 p.y.l, .int .i64 p.y.s, .int .i64 p.y.d] 39)
          have B4 := Lib.hid ((B3.alloc B3.size (.cells #[.int .i64 p.r] 3)).grown g4 (by simp only [World.size_alloc, size_putSt]; omega) (fun j hj => by have := (L1.out j hj).1; omega))
          have O4 := Lib.hid o4
          clear o4 g4 B3
          clear y0 y1 y2 y3 y4 y5 y6 q0 q1 q2 q3 q4 q5 q6 p0 p1 p2 p3 p4 p5 p6 t0 t1 t2 t3 t4 t5
          have ⟨_, _, _, _, _, t5⟩ := hx4.cells
          clear hx4
          obtain ⟨m, hm, m1, m2⟩ := HN2.out
          have HM := Lib.hid hm
          have e5 : (k : Int) + y.n = ((k + m : Nat) : Int) := by omega
          clear hm
          go_wp2
          go_roundw
          case rel => exact ⟨k + m, f, p.y, zs ++ [p.r], m2, by simp, Lib.hid (by have := HF.out; omega), by simp; omega, Lib.hid (by rw [HR.out, HU.out, if_pos hc, HA.out, HM.out]; simp), HX2, O4, HB4, HP4, B4⟩
          case measure => simp [intOf]; omega
      · have ec : (p.c != 0) = true := by simpa using hc
        have HE : Hid (decP n s = ⟨zs, k, p.c⟩) := Lib.hid (by rw [HD.out, HR.out, HU.out, if_neg hc])
        go_wp2
        go_ret3
        exact ⟨_, by rw [HE.out]; rfl, by rw [HE.out]; exact O2.out.alloc _, B2.out.alloc B2.out.size _⟩
    · have v2 : ¬ (k : Int) < (s.size : Int) := by omega
      have HE : Hid (decP n s = ⟨zs, s.size, endC n xs⟩) := Lib.hid (by
        rw [HD.out, HR.out]
        cases f with
        | zero => rfl
        | succ f => rw [decT, if_neg hlt])
      have HEn := Lib.hid (fun w => spec_l06End n (.slice (some ⟨pg, 0, none⟩) 4 pc) xs w ⟨pg, pc, rfl⟩)
      unfold prV stV at HEn
      have ⟨y0, y1, y2, y3, y4, y5, y6⟩ := HB.out.cells
      have ⟨p0, p1, p2, p3, p4, p5, p6, p7⟩ := row8_cells HP.out
      go_wp2_with fail
      refine (HEn.out _).mono ?_
      clear y0 y1 y2 y3 y4 y5 y6 p0 p1 p2 p3 p4 p5 p6 p7
      rintro e w4 ⟨rfl, b1⟩
      have B1 := Lib.hid (BW.out.trans (b1.mono BW.out.size))
      have O1 := Lib.hid (HO.out.all b1)
      clear b1
      go_wp2
      go_ret3
      exact ⟨_, by rw [HE.out]; rfl, by rw [HE.out]; exact O1.out, B1.out⟩

end Go.Proofs.YtbamjhldebobhaaGreatDoor

namespace Go.Proofs.YtbamjhldebobhaaGreatDoor
open Go.RowKit Go.Sort

theorem anewX_clear {n : Int} {x : St} (h : prClear n = true) : anewX n x = startP n := by rw [anewX, if_pos h]
theorem startP_form (n : Int) : startP n = ⟨1, (startP n).g1, 0, 0, 0, 0, 0⟩ := by
  unfold startP
  split <;> rfl
theorem anewX_keep {n : Int} {x : St} (h : prClear n = false) : anewX n x = ⟨(startP n).g0, x.g1, x.g2, x.g3, (startP n).l, (startP n).s, (startP n).d⟩ := by
  rw [anewX, h, startP_form]; rfl

set_option maxHeartbeats 1000000 in
theorem spec_l06Anew (n : Int) (x : St) (w : World) : Calls Tryz.prog 75 #[.int .i64 n, stV x] w (StDone (anewX n x) w) := by
  have HP := Lib.hid (fun w => spec_l05Profile n w)
  have HS := Lib.hid (fun w => spec_l05Start n w)
  have F7 := prField7
  have B0 := Lib.hid (below_two w (.cells #[.int .i64 x.g0, .int .i64 x.g1, .int .i64 x.g2, .int .i64 x.g3, .int .i64 x.l, .int .i64 x.s, .int .i64 x.d] 39) (.cells #[.int .i64 0, .int .i64 0, .int .i64 0, .int .i64 0, .int .i64 0, .int .i64 0, .int .i64 0] 39))
  have HB0 : Hid (StAt ((w.alloc (.cells #[.int .i64 x.g0, .int .i64 x.g1, .int .i64 x.g2, .int .i64 x.g3, .int .i64 x.l, .int .i64 x.s, .int .i64 x.d] 39)).alloc (.cells #[.int .i64 0, .int .i64 0, .int .i64 0, .int .i64 0, .int .i64 0, .int .i64 0, .int .i64 0] 39)) w.heap.size x) := Lib.hid (heap_alloc2_old _ _ _)
  have HS0 : Hid (StAt ((w.alloc (.cells #[.int .i64 x.g0, .int .i64 x.g1, .int .i64 x.g2, .int .i64 x.g3, .int .i64 x.l, .int .i64 x.s, .int .i64 x.d] 39)).alloc (.cells #[.int .i64 0, .int .i64 0, .int .i64 0, .int .i64 0, .int .i64 0, .int .i64 0, .int .i64 0] 39)) (w.heap.size + 1) zeroSt) := Lib.hid (heap_alloc2_new _ _ _)
  unfold PrDone prV at HP
  unfold StDone stV at HS
  unfold stV
  have HC1 := Lib.hid (fun h => anewX_clear (n := n) (x := x) h)
  have HC2 := Lib.hid (fun h => anewX_keep (n := n) (x := x) h)
  generalize startP n = z at *
  generalize anewX n x = q at *
  go_enter Tryz.func75, Tryz.ntmps75
  go_wp2_with fail
  refine (HS.out _).mono ?_
  generalize (w.alloc (.cells #[.int .i64 x.g0, .int .i64 x.g1, .int .i64 x.g2, .int .i64 x.g3, .int .i64 x.l, .int .i64 x.s, .int .i64 x.d] 39)).alloc (.cells #[.int .i64 0, .int .i64 0, .int .i64 0, .int .i64 0, .int .i64 0, .int .i64 0, .int .i64 0] 39) = W0 at *
  rintro e w1 ⟨rfl, b1⟩
  have B1 : Hid (Below w.heap.size w (w1.alloc (.cells #[.int .i64 z.g0, .int .i64 z.g1, .int .i64 z.g2, .int .i64 z.g3, .int .i64 z.l, .int .i64 z.s, .int .i64 z.d] 39))) := Lib.hid ((B0.out.trans (b1.mono B0.out.size)).alloc (B0.out.trans (b1.mono B0.out.size)).size _)
  have HB1 := Lib.hid ((HB0.out.keep b1).alloc (.cells #[.int .i64 z.g0, .int .i64 z.g1, .int .i64 z.g2, .int .i64 z.g3, .int .i64 z.l, .int .i64 z.s, .int .i64 z.d] 39))
  have HS1 := Lib.hid ((HS0.out.keep b1).alloc (.cells #[.int .i64 z.g0, .int .i64 z.g1, .int .i64 z.g2, .int .i64 z.g3, .int .i64 z.l, .int .i64 z.s, .int .i64 z.d] 39))
  have HY1 := Lib.hid (StAt.new w1 z)
  have hs1 : w.heap.size + 1 < w1.heap.size := (HS0.out.keep b1).lt
  clear b1 HB0 HS0 HS
  go_wp2_with fail
  refine (HP.out _).mono ?_
  generalize w1.alloc (.cells #[.int .i64 z.g0, .int .i64 z.g1, .int .i64 z.g2, .int .i64 z.g3, .int .i64 z.l, .int .i64 z.s, .int .i64 z.d] 39) = W1 at *
  rintro e w2 ⟨v, rfl, _, b2⟩
  have B2 : Hid (Below w.heap.size w w2) := Lib.hid (B1.out.trans (b2.mono B1.out.size))
  have HB2 := Lib.hid (HB1.out.keep b2)
  have HS2 := Lib.hid (HS1.out.keep b2)
  have HY2 := Lib.hid (HY1.out.keep b2)
  clear b2 HB1 HS1 HY1 B1
  have hl : w.heap.size + 1 < w2.heap.size := HS2.out.lt
  have hl2 : w1.heap.size < w2.heap.size := HY2.out.lt
  cases hc : prClear n
  · have HE := Lib.hid (HC2.out hc)
    clear HC1 HC2
    have ⟨y0, y1, y2, y3, y4, y5, y6⟩ := HB2.out.cells
    have ⟨s0, s1, s2, s3, s4, s5, s6⟩ := HY2.out.cells
    have ⟨u0, u1, u2, u3, u4, u5, u6⟩ := HY2.out.thaw
    have ⟨r0, r1, r2, r3, r4, r5, r6⟩ := HS2.out.cells
    have ⟨z0, z1, z2, z3, z4, z5, z6⟩ := HS2.out.thaw
    simp only [zeroSt] at r0 r1 r2 r3 r4 r5 r6
    have HS3 : Hid (StAt (((w2.setCell ⟨w1.heap.size, 1, none⟩ (.int .i64 x.g1)).setCell ⟨w1.heap.size, 2, none⟩ (.int .i64 x.g2)).setCell ⟨w1.heap.size, 3, none⟩ (.int .i64 x.g3)) (w.heap.size + 1) zeroSt) := Lib.hid (by
      unfold StAt
      rw [Below.heap_setCell _ _ _ _ (by simp; omega), Below.heap_setCell _ _ _ _ (by simp; omega), Below.heap_setCell _ _ _ _ (by simp; omega)]
      exact HS2.out)
    have B3 : Hid (Below w.heap.size w (((w2.setCell ⟨w1.heap.size, 1, none⟩ (.int .i64 x.g1)).setCell ⟨w1.heap.size, 2, none⟩ (.int .i64 x.g2)).setCell ⟨w1.heap.size, 3, none⟩ (.int .i64 x.g3))) := Lib.hid (((B2.out.setCell (show w.heap.size ≤ w1.heap.size by omega) _).setCell (show w.heap.size ≤ w1.heap.size by omega) _).setCell (show w.heap.size ≤ w1.heap.size by omega) _)
    go_wp2
    exact st_ret (y := ⟨z.g0, x.g1, x.g2, x.g3, z.l, z.s, z.d⟩) HE.out rfl rfl (HS3.out.put ⟨z.g0, x.g1, x.g2, x.g3, z.l, z.s, z.d⟩) Tryz.underlying39 rfl (by kernel_rfl) rfl (below_putSt B3.out (Nat.le_succ _) ⟨z.g0, x.g1, x.g2, x.g3, z.l, z.s, z.d⟩)
  · have HE := Lib.hid (HC1.out hc)
    clear HC1 HC2
    have ⟨s0, s1, s2, s3, s4, s5, s6⟩ := HY2.out.cells
    have ⟨r0, r1, r2, r3, r4, r5, r6⟩ := HS2.out.cells
    have ⟨z0, z1, z2, z3, z4, z5, z6⟩ := HS2.out.thaw
    simp only [zeroSt] at r0 r1 r2 r3 r4 r5 r6
    go_wp2
    exact st_ret (y := z) HE.out rfl rfl (HS2.out.put z) Tryz.underlying39 rfl (by kernel_rfl) rfl (below_putSt B2.out (Nat.le_succ _) z)

theorem rest_ok {x : St} (h : stOKB x = true) : stOKB ⟨x.g0, x.g1, x.g2, x.g3, x.l, 0, 0⟩ = true := by
  obtain ⟨h1, h2, h3⟩ := stOK_parts h
  have e1 : regsOK ⟨x.g0, x.g1, x.g2, x.g3, x.l, 0, 0⟩ = true := by rw [regs_same (x := x) (y := ⟨x.g0, x.g1, x.g2, x.g3, x.l, 0, 0⟩) rfl rfl rfl rfl]; exact h1
  have e2 : headOK ⟨x.g0, x.g1, x.g2, x.g3, x.l, 0, 0⟩ = true := by
    unfold headOK at h2 ⊢
    rw [Bool.and_eq_true] at h2
    rw [h2.1]; rfl
  unfold stOKB
  rw [e1, e2]; rfl
theorem anewX_ok {n : Int} {x : St} (h : stOKB x = true) : stOKB (anewX n x) = true := by
  unfold anewX
  split
  · exact startP_ok n
  · obtain ⟨h1, h2, h3⟩ := stOK_parts h
    rw [startP_form]
    unfold regsOK at h1
    rw [Bool.and_eq_true] at h1
    have e1 : regsOK ⟨1, x.g1, x.g2, x.g3, 0, 0, 0⟩ = true := by
      unfold regsOK
      rw [Bool.and_eq_true]
      refine ⟨by rfl, ?_⟩
      have := h1.2
      unfold regOK at this ⊢
      exact this
    have e2 : headOK ⟨1, x.g1, x.g2, x.g3, 0, 0, 0⟩ = true := by rfl
    unfold stOKB
    rw [e1, e2]; rfl
theorem badX_ok {n : Int} {x : St} {t : Tok} (h : stOKB x = true) : stOKB (badX n x t) = true := by
  unfold badX
  split
  · exact anewX_ok h
  · exact rest_ok h

def LooDone (z : List Int) (w : World) (e : Ending) (w' : World) : Prop := ∃ v, e = .returned v ∧ Own .i64 3 w' w.heap.size v z ∧ Below w.heap.size w w'

set_option maxHeartbeats 8000000 in
set_option maxRecDepth 100000 in
theorem spec_l06Loose (n : Int) (s : ByteArray) (w : World) (hs : s.size ≤ 4096) : Calls Tryz.prog 38 #[.int .i64 n, .string s] w (LooDone (looP n s) w) := by
  have HPf := Lib.hid (fun w => spec_l05Profile n w)
  have HH := Lib.hid (fun v w => spec_l06Header n v s w)
  have HSt := Lib.hid (fun w => spec_l05Start n w)
  unfold prV at HH
  unfold StDone stV at HSt
  go_enter Tryz.func38, Tryz.ntmps38
  go_wp2_with fail
  refine (HPf.out _).mono ?_
  rintro e w1 ⟨pv, rfl, hpv, b1⟩
  obtain ⟨pg, pc, rfl⟩ := hpv.form
  unfold prV
  have B1 : Hid (Below w.heap.size w (w1.alloc (.cells #[.string (prName n), .string (prHead n), (.slice (some ⟨pg, 0, none⟩) 4 pc), .bool (prRight n), .bool (prShifts n), .bool (prSingle n), .bool (prReset n), .bool (prClear n)] 60))) := Lib.hid (b1.alloc b1.size _)
  have P1 : Hid ((w1.alloc (.cells #[.string (prName n), .string (prHead n), (.slice (some ⟨pg, 0, none⟩) 4 pc), .bool (prRight n), .bool (prShifts n), .bool (prSingle n), .bool (prReset n), .bool (prClear n)] 60)).heap[w1.heap.size]? = some (.cells #[.string (prName n), .string (prHead n), (.slice (some ⟨pg, 0, none⟩) 4 pc), .bool (prRight n), .bool (prShifts n), .bool (prSingle n), .bool (prReset n), .bool (prClear n)] 60)) := Lib.hid (heap_alloc_new _ _)
  have hw1 : w.heap.size ≤ w1.heap.size := b1.size
  have P1a := Lib.hid ((heap_alloc2_old w1 (.cells #[.string (prName n), .string (prHead n), (.slice (some ⟨pg, 0, none⟩) 4 pc), .bool (prRight n), .bool (prShifts n), .bool (prSingle n), .bool (prReset n), .bool (prClear n)] 60) (.cells #[] 3)))
  have ⟨p0, p1, p2, p3, p4, p5, p6, p7⟩ := row8_cells P1a.out
  clear b1 hpv
  go_wp2_with fail
  refine (HH.out _ _).mono ?_
  clear p0 p1 p2 p3 p4 p5 p6 p7
  have O0 : Hid (Own .i64 3 ((w1.alloc (.cells #[.string (prName n), .string (prHead n), (.slice (some ⟨pg, 0, none⟩) 4 pc), .bool (prRight n), .bool (prShifts n), .bool (prSingle n), .bool (prReset n), .bool (prClear n)] 60)).alloc (.cells #[] 3)) w.heap.size (.slice (some ⟨w1.heap.size + 1, 0, none⟩) 0 0) []) := Lib.hid (by
    have h := Own.lit .i64 3 (w1.alloc (.cells #[.string (prName n), .string (prHead n), (.slice (some ⟨pg, 0, none⟩) 4 pc), .bool (prRight n), .bool (prShifts n), .bool (prSingle n), .bool (prReset n), .bool (prClear n)] 60)) w.heap.size [] (by simp; omega) (by simp)
    rw [show (w1.alloc (.cells #[.string (prName n), .string (prHead n), (.slice (some ⟨pg, 0, none⟩) 4 pc), .bool (prRight n), .bool (prShifts n), .bool (prSingle n), .bool (prReset n), .bool (prClear n)] 60)).heap.size = w1.heap.size + 1 by simp] at h
    exact h)
  have B0 : Hid (Below w.heap.size w ((w1.alloc (.cells #[.string (prName n), .string (prHead n), (.slice (some ⟨pg, 0, none⟩) 4 pc), .bool (prRight n), .bool (prShifts n), .bool (prSingle n), .bool (prReset n), .bool (prClear n)] 60)).alloc (.cells #[] 3))) := Lib.hid (B1.out.alloc B1.out.size _)
  have hW0 : ((w1.alloc (.cells #[.string (prName n), .string (prHead n), (.slice (some ⟨pg, 0, none⟩) 4 pc), .bool (prRight n), .bool (prShifts n), .bool (prSingle n), .bool (prReset n), .bool (prClear n)] 60)).alloc (.cells #[] 3)).heap.size = w1.heap.size + 2 := by simp
  clear B1 P1
  generalize (w1.alloc (.cells #[.string (prName n), .string (prHead n), (.slice (some ⟨pg, 0, none⟩) 4 pc), .bool (prRight n), .bool (prShifts n), .bool (prSingle n), .bool (prReset n), .bool (prClear n)] 60)).alloc (.cells #[] 3) = W0 at *
  rintro e w2 ⟨rfl, b2⟩
  have O2 := Lib.hid (O0.out.all b2)
  have B2 := Lib.hid (B0.out.trans (b2.mono B0.out.size))
  have P2 := Lib.hid ((b2.block _ (Array.getElem?_eq_some_iff.1 P1a.out).1).trans P1a.out)
  have hw2 : w1.heap.size + 2 ≤ w2.heap.size := by rw [← hW0]; exact b2.size
  clear b2 O0 B0 P1a hW0
  cases hh : headB n s
  · have HD : Hid (looP n s = looT n s s.size 0 (startP n) [65533]) := Lib.hid (by rw [looP, hh]; rfl)
    have L1 := Lib.hid (fun g hg => World.ownsRow.lt O2.out g hg)
    have hV1 := O2.out.apart P2.out (by decide)
    have O2a := Lib.hid (O2.out.alloc (.cells #[.int .i64 65533] 3))
    have HNW := Lib.hid (World.news_of_block (show (w2.alloc (.cells #[.int .i64 65533] 3)).heap[w2.heap.size]? = some (.cells (([65533] : List Int).map (Value.int .i64)).toArray 3) from heap_alloc_new _ _))
    have hB3 : w.heap.size ≤ (w2.alloc (.cells #[.int .i64 65533] 3)).heap.size := by have := B2.out.size; simp only [World.size_alloc]; omega
    have hlp : w1.heap.size < w2.heap.size := by omega
    clear hh
    go_wp2_with (at_builtin; refine app_i64 _ rfl _ _ rfl w.heap.size _ [] rfl O2a.out ⟨w2.heap.size, 0, none⟩ 1 1 [65533] rfl rfl (by decide) HNW.out (by simp) hB3 ?_)
    intro g cap2 w2b o4 g4 lt4
    have P2b := Lib.hid ((g4.block w1.heap.size (by simp; omega) (fun h => hV1 h.symm)).trans (((below_one w2 (.cells #[.int .i64 65533] 3)).block _ hlp).trans P2.out))
    have B2b := Lib.hid ((B2.out.alloc B2.out.size (.cells #[.int .i64 65533] 3)).grown g4 (by have := B2.out.size; simp only [World.size_alloc]; omega) (fun j hj => by have := (L1.out j hj).1; omega))
    have O2b := Lib.hid o4
    have hw2b : w1.heap.size + 2 ≤ w2b.heap.size := by
      have := g4.size
      simp only [World.size_alloc] at this
      omega
    clear o4 g4 O2 O2a P2 B2 hw2 hV1
    go_wp2_with fail
    refine (HSt.out _).mono ?_
    rintro e w3 ⟨rfl, b3⟩
    have O3 := Lib.hid ((O2b.out.all b3).alloc (.cells #[.int .i64 (startP n).g0, .int .i64 (startP n).g1, .int .i64 (startP n).g2, .int .i64 (startP n).g3, .int .i64 (startP n).l, .int .i64 (startP n).s, .int .i64 (startP n).d] 39))
    have B3 := Lib.hid ((B2b.out.trans (b3.mono B2b.out.size)).alloc (B2b.out.trans (b3.mono B2b.out.size)).size (.cells #[.int .i64 (startP n).g0, .int .i64 (startP n).g1, .int .i64 (startP n).g2, .int .i64 (startP n).g3, .int .i64 (startP n).l, .int .i64 (startP n).s, .int .i64 (startP n).d] 39))
    have P3 := Lib.hid ((((b3.block _ (Array.getElem?_eq_some_iff.1 P2b.out).1).trans P2b.out)).trans rfl)
    have P4 : Hid ((w3.alloc (.cells #[.int .i64 (startP n).g0, .int .i64 (startP n).g1, .int .i64 (startP n).g2, .int .i64 (startP n).g3, .int .i64 (startP n).l, .int .i64 (startP n).s, .int .i64 (startP n).d] 39)).heap[w1.heap.size]? = some (.cells #[.string (prName n), .string (prHead n), (.slice (some ⟨pg, 0, none⟩) 4 pc), .bool (prRight n), .bool (prShifts n), .bool (prSingle n), .bool (prReset n), .bool (prClear n)] 60)) := Lib.hid (((below_one w3 (.cells #[.int .i64 (startP n).g0, .int .i64 (startP n).g1, .int .i64 (startP n).g2, .int .i64 (startP n).g3, .int .i64 (startP n).l, .int .i64 (startP n).s, .int .i64 (startP n).d] 39)).block _ (Array.getElem?_eq_some_iff.1 P3.out).1).trans P3.out)
    have S3 := Lib.hid (StAt.new w3 (startP n))
    have hw3 : w1.heap.size + 2 ≤ w3.heap.size := Nat.le_trans hw2b b3.size
    have hX0 := Lib.hid (startP_ok n)
    clear b3 O2b B2b P2b P3 hw2b
    generalize startP n = x0 at *
    go_wp2
    generalize w3.alloc (.cells #[.int .i64 x0.g0, .int .i64 x0.g1, .int .i64 x0.g2, .int .i64 x0.g3, .int .i64 x0.l, .int .i64 x0.s, .int .i64 x0.d] 39) = W3 at *
    go_loopw [6, 8] (fun v i wr => ∃ (k f : Nat) (xs : St) (zs : List Int), k ≤ s.size ∧ i = .int .i64 k ∧ Hid (s.size ≤ k + f) ∧ zs.length ≤ 2 * k + 1 ∧ Hid (looT n s s.size 0 x0 [65533] = looT n s f k xs zs) ∧ Hid (stOKB xs = true) ∧ Hid (Own .i64 3 wr w.heap.size v zs) ∧ Hid (StAt wr w3.heap.size xs) ∧ Hid (wr.heap[w1.heap.size]? = some (.cells #[.string (prName n), .string (prHead n), (.slice (some ⟨pg, 0, none⟩) 4 pc), .bool (prRight n), .bool (prShifts n), .bool (prSingle n), .bool (prReset n), .bool (prClear n)] 60)) ∧ Hid (Below w.heap.size w wr)) (fun _ i _ => s.size - (intOf i).toNat)
    case atStart =>
      exact ⟨0, s.size, x0, [65533], by omega, rfl, Lib.hid (by omega), by simp, Lib.hid rfl, hX0, O3, S3, P4, B3⟩
    case round =>
      obtain ⟨k, f, xs, zs, hk, rfl, HF, hzs, HR, HX, HO, HB, HP, BW⟩ := hrel
      obtain ⟨a0, c0, hform, _⟩ := HO.out.shape
      subst hform
      clear O3 P4 S3 B3
      have hV3 := HO.out.apart HB.out (by decide)
      have hV1 := HO.out.apart HP.out (by decide)
      have hl3 : w3.heap.size < wr.heap.size := HB.out.lt
      have hl1 : w1.heap.size < wr.heap.size := (Array.getElem?_eq_some_iff.1 HP.out).1
      by_cases hlt : k < s.size
      · obtain ⟨f, rfl⟩ : ∃ q, f = q + 1 := ⟨f - 1, by have := HF.out; omega⟩
        have v2 : (k : Int) < (s.size : Int) := by omega
        have HU : Hid (looT n s (f + 1) k xs zs = if (stepP n xs (nextTok s k)).c = 0 then looT n s f (k + (nextTok s k).n.toNat) (stepP n xs (nextTok s k)).y (addR zs (stepP n xs (nextTok s k)).r) else looT n s f (k + (nextTok s k).n.toNat) (badX n xs (nextTok s k)) (zs ++ badZ (nextTok s k))) := Lib.hid (by rw [looT, if_pos hlt])
        have n1 := (nextTok_in s k hlt).2.1
        have n2 := (nextTok_in s k hlt).2.2
        have HN := Lib.hid (fun w => spec_l03Next s k w hlt (by omega))
        have HG := Lib.hid (fun w => spec_l05Step n xs (nextTok s k) w HX.out (nextTok_ok s k hlt (by omega)))
        have hr := stepP_r (n := n) (x := xs) (nextTok_ok s k hlt (by omega))
        have HX3 := Lib.hid (badX_ok (n := n) (t := nextTok s k) HX.out)
        have HX2 := Lib.hid (stepP_ok (n := n) HX.out (nextTok_ok s k hlt (by omega)))
        unfold TokDone tokV at HN
        unfold StpDone stpV tokV stV at HG
        generalize nextTok s k = y at *
        generalize stepP n xs y = p at *
        have u1 : IntKind.i64.wrap ((k : Int) + y.n) = (k : Int) + y.n := IntWalk.i64_in _ (by omega)
        go_wp2_with fail
        refine (HN.out _).mono ?_
        rintro e w4 ⟨rfl, b1⟩
        have B1 := Lib.hid (BW.out.trans (b1.mono BW.out.size))
        have O1 := Lib.hid ((HO.out.all b1).all (below_one w4 (.cells #[.int .i64 y.k, .int .i64 y.a, .int .i64 y.b, .int .i64 y.c, .int .i64 y.p, .int .i64 y.n] 102)))
        have HB1 := Lib.hid ((HB.out.keep b1).keep (below_one w4 (.cells #[.int .i64 y.k, .int .i64 y.a, .int .i64 y.b, .int .i64 y.c, .int .i64 y.p, .int .i64 y.n] 102)))
        have HP0 := Lib.hid ((b1.block _ hl1).trans HP.out)
        have hl4 : w1.heap.size < w4.heap.size := Nat.lt_of_lt_of_le hl1 b1.size
        have hl43 : w3.heap.size < w4.heap.size := Nat.lt_of_lt_of_le hl3 b1.size
        have HP1 := Lib.hid (((below_one w4 (.cells #[.int .i64 y.k, .int .i64 y.a, .int .i64 y.b, .int .i64 y.c, .int .i64 y.p, .int .i64 y.n] 102)).block _ hl4).trans HP0.out)
        have HK1 := Lib.hid (TokAt.new w4 y)
        have B1b := Lib.hid (B1.out.alloc B1.out.size (.cells #[.int .i64 y.k, .int .i64 y.a, .int .i64 y.b, .int .i64 y.c, .int .i64 y.p, .int .i64 y.n] 102))
        have L1 := Lib.hid (fun g hg => World.ownsRow.lt (HO.out.all b1) g hg)
        clear b1 HO HB HP HP0 BW B1 HN
        have ⟨y0, y1, y2, y3, y4, y5, y6⟩ := HB1.out.cells
        have ⟨t0, t1, t2, t3, t4, t5⟩ := HK1.out.cells
        go_wp2_with fail
        refine (HG.out _).mono ?_
        clear y0 y1 y2 y3 y4 y5 y6 t0 t1 t2 t3 t4 t5
        generalize w4.alloc (.cells #[.int .i64 y.k, .int .i64 y.a, .int .i64 y.b, .int .i64 y.c, .int .i64 y.p, .int .i64 y.n] 102) = W4 at *
        rintro e w5 ⟨rfl, b2⟩
        have B2 := Lib.hid (B1b.out.trans (b2.mono B1b.out.size))
        have O2 := Lib.hid (O1.out.all b2)
        have HB2 := Lib.hid (HB1.out.keep b2)
        have HP2 := Lib.hid ((b2.block _ (Array.getElem?_eq_some_iff.1 HP1.out).1).trans HP1.out)
        have HK2 := Lib.hid (HK1.out.keep b2)
        clear b2 O1 HB1 HP1 HK1 B1b
        by_cases hc : p.c = 0
        · have ec : (p.c != 0) = false := by simpa using hc
          have ⟨q0, q1, q2, q3, q4, q5, q6⟩ := HB2.out.thaw
          have ⟨y0, y1, y2, y3, y4, y5, y6⟩ := HB2.out.cells
          have hl6 : w3.heap.size < w5.heap.size := HB2.out.lt
          have hk2 : w4.heap.size < w5.heap.size := HK2.out.lt
          have ⟨p0, p1, p2, p3, p4, p5, p6⟩ := (StAt.new w5 p.y).cells
          have ⟨t0, t1, t2, t3, t4, t5⟩ := HK2.out.cells
          have HN2 : Hid (∃ m : Nat, y.n = (m : Int) ∧ 1 ≤ m ∧ k + m ≤ s.size) := Lib.hid ⟨y.n.toNat, by omega, by omega, by omega⟩
          have BP := Lib.hid (below_putSt B2.out (show w.heap.size ≤ w3.heap.size by omega) p.y)
          have OP := Lib.hid (O2.out.putStN hV3 p.y)
          have HBP := Lib.hid (HB2.out.put p.y)
          have HPP : Hid ((putSt w5 w3.heap.size p.y).heap[w1.heap.size]? = some (.cells #[.string (prName n), .string (prHead n), (.slice (some ⟨pg, 0, none⟩) 4 pc), .bool (prRight n), .bool (prShifts n), .bool (prSingle n), .bool (prReset n), .bool (prClear n)] 60)) := Lib.hid ((heap_putSt p.y (by omega)).trans HP2.out)
          have hlP : w1.heap.size < (putSt w5 w3.heap.size p.y).heap.size := (Array.getElem?_eq_some_iff.1 HPP.out).1
          have HPQ := Lib.hid (((below_one (putSt w5 w3.heap.size p.y) (.cells #[.int .i64 p.y.g0, .int .i64 p.y.g1, .int .i64 p.y.g2, .int .i64 p.y.g3, .int .i64 p.y.l, .int .i64 p.y.s, .int .i64 p.y.d] 39)).block _ hlP).trans HPP.out)
          rcases hr with hr | hr
          · have HA : Hid (addR zs p.r = zs) := Lib.hid (addR_none hr)
            have vr : p.r < 0 := by omega
            obtain ⟨m, hm, m1, m2⟩ := HN2.out
            have HM := Lib.hid hm
            have e5 : (k : Int) + y.n = ((k + m : Nat) : Int) := by omega
            clear hm
            go_wp2
            go_roundw
            case rel => exact ⟨k + m, f, p.y, zs, m2, by simp, Lib.hid (by have := HF.out; omega), by omega, Lib.hid (by rw [HR.out, HU.out, if_pos hc, HA.out, HM.out]; simp), HX2, Lib.hid (OP.out.alloc _), Lib.hid (HBP.out.alloc _), HPQ, Lib.hid (BP.out.alloc BP.out.size _)⟩
            case measure => simp [intOf]; omega
          · have HA : Hid (addR zs p.r = zs ++ [p.r]) := Lib.hid (addR_some hr)
            have O3 := Lib.hid ((OP.out.alloc (.cells #[.int .i64 p.y.g0, .int .i64 p.y.g1, .int .i64 p.y.g2, .int .i64 p.y.g3, .int .i64 p.y.l, .int .i64 p.y.s, .int .i64 p.y.d] 39)).alloc (.cells #[.int .i64 p.r] 3))
            have HNW := Lib.hid (World.news_of_block (show (((putSt w5 w3.heap.size p.y).alloc (.cells #[.int .i64 p.y.g0, .int .i64 p.y.g1, .int .i64 p.y.g2, .int .i64 p.y.g3, .int .i64 p.y.l, .int .i64 p.y.s, .int .i64 p.y.d] 39)).alloc (.cells #[.int .i64 p.r] 3)).heap[w5.heap.size + 1]? = some (.cells ([p.r].map (Value.int .i64)).toArray 3) from by
              have := heap_alloc2_new (putSt w5 w3.heap.size p.y) (.cells #[.int .i64 p.y.g0, .int .i64 p.y.g1, .int .i64 p.y.g2, .int .i64 p.y.g3, .int .i64 p.y.l, .int .i64 p.y.s, .int .i64 p.y.d] 39) (.cells #[.int .i64 p.r] 3)
              rw [size_putSt] at this
              exact this))
            have hB3 : w.heap.size ≤ (((putSt w5 w3.heap.size p.y).alloc (.cells #[.int .i64 p.y.g0, .int .i64 p.y.g1, .int .i64 p.y.g2, .int .i64 p.y.g3, .int .i64 p.y.l, .int .i64 p.y.s, .int .i64 p.y.d] 39)).alloc (.cells #[.int .i64 p.r] 3)).heap.size := by
              simp only [World.size_alloc, size_putSt]; omega
            have HPR := Lib.hid (((below_one ((putSt w5 w3.heap.size p.y).alloc (.cells #[.int .i64 p.y.g0, .int .i64 p.y.g1, .int .i64 p.y.g2, .int .i64 p.y.g3, .int .i64 p.y.l, .int .i64 p.y.s, .int .i64 p.y.d] 39)) (.cells #[.int .i64 p.r] 3)).block _ (Array.getElem?_eq_some_iff.1 HPQ.out).1).trans HPQ.out)
            go_wp2_with (at_builtin; refine app_i64 _ rfl _ _ rfl w.heap.size _ zs rfl O3.out ⟨w5.heap.size + 1, 0, none⟩ 1 1 [p.r] rfl rfl (by decide) HNW.out (by omega) hB3 ?_)
            intro g cap2 w6 o4 g4 lt4
            have hx4 : TokAt w6 w4.heap.size y := (g4.block _ (by simp; omega) (fun h => by have := (L1.out _ h.symm).2; omega)).trans (((HK2.out.other p.y (by omega)).keep (below_one _ (.cells #[.int .i64 p.y.g0, .int .i64 p.y.g1, .int .i64 p.y.g2, .int .i64 p.y.g3, .int .i64 p.y.l, .int .i64 p.y.s, .int .i64 p.y.d] 39))).keep (below_one _ (.cells #[.int .i64 p.r] 3)))
            have HB4 := Lib.hid ((g4.block w3.heap.size (by simp; omega) (fun h => hV3 h.symm)).trans ((HBP.out.alloc (.cells #[.int .i64 p.y.g0, .int .i64 p.y.g1, .int .i64 p.y.g2, .int .i64 p.y.g3, .int .i64 p.y.l, .int .i64 p.y.s, .int .i64 p.y.d] 39)).alloc (.cells #[.int .i64 p.r] 3)))
            have HP4 := Lib.hid ((g4.block w1.heap.size (by simp; omega) (fun h => hV1 h.symm)).trans HPR.out)
            have B3 := BP.out.alloc BP.out.size (.cells #[.int .i64 p.y.g0, .int .i64 p.y.g1, .int .i64 p.y.g2, .int .i64 p.y.g3, .int .i64 p.y.l, .int .i64 p.y.s, .int .i64 p.y.d] 39)
            have B4 := Lib.hid ((B3.alloc B3.size (.cells #[.int .i64 p.r] 3)).grown g4 (by simp only [World.size_alloc, size_putSt]; omega) (fun j hj => by have := (L1.out j hj).1; omega))
            have O4 := Lib.hid o4
            clear o4 g4 B3
            clear y0 y1 y2 y3 y4 y5 y6 q0 q1 q2 q3 q4 q5 q6 p0 p1 p2 p3 p4 p5 p6 t0 t1 t2 t3 t4 t5
            have ⟨_, _, _, _, _, t5⟩ := hx4.cells
            clear hx4
            obtain ⟨m, hm, m1, m2⟩ := HN2.out
            have HM := Lib.hid hm
            have e5 : (k : Int) + y.n = ((k + m : Nat) : Int) := by omega
            clear hm
            go_wp2
            go_roundw
            case rel => exact ⟨k + m, f, p.y, zs ++ [p.r], m2, by simp, Lib.hid (by have := HF.out; omega), by simp; omega, Lib.hid (by rw [HR.out, HU.out, if_pos hc, HA.out, HM.out]; simp), HX2, O4, HB4, HP4, B4⟩
            case measure => simp [intOf]; omega
        · have ec : (p.c != 0) = true := by simpa using hc
          have ec2 : (p.c == 0) = false := by simpa using hc
          have HN2 : Hid (∃ m : Nat, y.n = (m : Int) ∧ 1 ≤ m ∧ k + m ≤ s.size) := Lib.hid ⟨y.n.toNat, by omega, by omega, by omega⟩
          have HU2 : Hid (looT n s s.size 0 x0 [65533] = looT n s f (k + y.n.toNat) (badX n xs y) (zs ++ badZ y)) := Lib.hid (by rw [HR.out, HU.out, if_neg hc])
          have hl6 : w3.heap.size < w5.heap.size := HB2.out.lt
          have hk2 : w4.heap.size < w5.heap.size := HK2.out.lt
          have O3 := Lib.hid ((O2.out.alloc (.cells #[.int .i64 p.y.g0, .int .i64 p.y.g1, .int .i64 p.y.g2, .int .i64 p.y.g3, .int .i64 p.y.l, .int .i64 p.y.s, .int .i64 p.y.d] 39)).alloc (.cells #[.int .i64 65533] 3))
          have HNW := Lib.hid (World.news_of_block (show ((w5.alloc (.cells #[.int .i64 p.y.g0, .int .i64 p.y.g1, .int .i64 p.y.g2, .int .i64 p.y.g3, .int .i64 p.y.l, .int .i64 p.y.s, .int .i64 p.y.d] 39)).alloc (.cells #[.int .i64 65533] 3)).heap[w5.heap.size + 1]? = some (.cells (([65533] : List Int).map (Value.int .i64)).toArray 3) from heap_alloc2_new _ _ _))
          have hB3 : w.heap.size ≤ ((w5.alloc (.cells #[.int .i64 p.y.g0, .int .i64 p.y.g1, .int .i64 p.y.g2, .int .i64 p.y.g3, .int .i64 p.y.l, .int .i64 p.y.s, .int .i64 p.y.d] 39)).alloc (.cells #[.int .i64 65533] 3)).heap.size := by simp only [World.size_alloc]; omega
          have HPR : Hid (((w5.alloc (.cells #[.int .i64 p.y.g0, .int .i64 p.y.g1, .int .i64 p.y.g2, .int .i64 p.y.g3, .int .i64 p.y.l, .int .i64 p.y.s, .int .i64 p.y.d] 39)).alloc (.cells #[.int .i64 65533] 3)).heap[w1.heap.size]? = some (.cells #[.string (prName n), .string (prHead n), (.slice (some ⟨pg, 0, none⟩) 4 pc), .bool (prRight n), .bool (prShifts n), .bool (prSingle n), .bool (prReset n), .bool (prClear n)] 60)) := Lib.hid (((below_two w5 (.cells #[.int .i64 p.y.g0, .int .i64 p.y.g1, .int .i64 p.y.g2, .int .i64 p.y.g3, .int .i64 p.y.l, .int .i64 p.y.s, .int .i64 p.y.d] 39) (.cells #[.int .i64 65533] 3)).block _ (Array.getElem?_eq_some_iff.1 HP2.out).1).trans HP2.out)
          clear HU HR
          go_wp2_with (at_builtin; refine app_i64 _ rfl _ _ rfl w.heap.size _ zs rfl O3.out ⟨w5.heap.size + 1, 0, none⟩ 1 1 [65533] rfl rfl (by decide) HNW.out (by omega) hB3 ?_)
          intro g cap2 w6 o4 g4 lt4
          have hx4 : TokAt w6 w4.heap.size y := (g4.block _ (by simp; omega) (fun h => by have := (L1.out _ h.symm).2; omega)).trans ((HK2.out.keep (below_one _ (.cells #[.int .i64 p.y.g0, .int .i64 p.y.g1, .int .i64 p.y.g2, .int .i64 p.y.g3, .int .i64 p.y.l, .int .i64 p.y.s, .int .i64 p.y.d] 39))).keep (below_one _ (.cells #[.int .i64 65533] 3)))
          have HB4 : Hid (StAt w6 w3.heap.size xs) := Lib.hid ((g4.block w3.heap.size (by simp; omega) (fun h => hV3 h.symm)).trans ((HB2.out.alloc (.cells #[.int .i64 p.y.g0, .int .i64 p.y.g1, .int .i64 p.y.g2, .int .i64 p.y.g3, .int .i64 p.y.l, .int .i64 p.y.s, .int .i64 p.y.d] 39)).alloc (.cells #[.int .i64 65533] 3)))
          have HP4 := Lib.hid ((g4.block w1.heap.size (by simp; omega) (fun h => hV1 h.symm)).trans HPR.out)
          have B3 := B2.out.alloc B2.out.size (.cells #[.int .i64 p.y.g0, .int .i64 p.y.g1, .int .i64 p.y.g2, .int .i64 p.y.g3, .int .i64 p.y.l, .int .i64 p.y.s, .int .i64 p.y.d] 39)
          have B4 := Lib.hid ((B3.alloc B3.size (.cells #[.int .i64 65533] 3)).grown g4 (by simp only [World.size_alloc]; omega) (fun j hj => by have := (L1.out j hj).1; omega))
          have hV6 := o4.apart HB4.out (by decide)
          have O7 : Hid (Own .i64 3 ((w6.setCell ⟨w3.heap.size, 5, none⟩ (.int .i64 0)).setCell ⟨w3.heap.size, 6, none⟩ (.int .i64 0)) w.heap.size (.slice (some ⟨g, 0, none⟩) (zs.length + 1) cap2) (zs ++ [65533])) := Lib.hid (by
            refine o4.blocks ?_
            intro j hj
            have hne : j ≠ w3.heap.size := fun e => hV6 (by rw [hj, e])
            rw [Below.heap_setCell _ _ _ _ (by simpa using hne), Below.heap_setCell _ _ _ _ (by simpa using hne)])
          have HB7 : Hid (StAt ((w6.setCell ⟨w3.heap.size, 5, none⟩ (.int .i64 0)).setCell ⟨w3.heap.size, 6, none⟩ (.int .i64 0)) w3.heap.size ⟨xs.g0, xs.g1, xs.g2, xs.g3, xs.l, 0, 0⟩) := Lib.hid (heap_setCell_same _ _ 6 _ _ (.int .i64 0) (heap_setCell_same _ _ 5 _ _ (.int .i64 0) HB4.out))
          have HK7 : Hid (TokAt ((w6.setCell ⟨w3.heap.size, 5, none⟩ (.int .i64 0)).setCell ⟨w3.heap.size, 6, none⟩ (.int .i64 0)) w4.heap.size y) := Lib.hid (by
            unfold TokAt
            rw [Below.heap_setCell _ _ _ _ (by simp; omega), Below.heap_setCell _ _ _ _ (by simp; omega)]
            exact hx4)
          have HP7 : Hid ((((w6.setCell ⟨w3.heap.size, 5, none⟩ (.int .i64 0)).setCell ⟨w3.heap.size, 6, none⟩ (.int .i64 0))).heap[w1.heap.size]? = some (.cells #[.string (prName n), .string (prHead n), (.slice (some ⟨pg, 0, none⟩) 4 pc), .bool (prRight n), .bool (prShifts n), .bool (prSingle n), .bool (prReset n), .bool (prClear n)] 60)) := Lib.hid (by
            rw [Below.heap_setCell _ _ _ _ (by simp; omega), Below.heap_setCell _ _ _ _ (by simp; omega)]
            exact HP4.out)
          have B7 : Hid (Below w.heap.size w ((w6.setCell ⟨w3.heap.size, 5, none⟩ (.int .i64 0)).setCell ⟨w3.heap.size, 6, none⟩ (.int .i64 0))) := Lib.hid ((B4.out.setCell (show w.heap.size ≤ w3.heap.size by omega) _).setCell (show w.heap.size ≤ w3.heap.size by omega) _)
          have ⟨y0, y1, y2, y3, y4, y5, y6⟩ := HB4.out.cells
          have ⟨q0, q1, q2, q3, q4, q5, q6⟩ := HB4.out.thaw
          have hl4s : w3.heap.size < w6.heap.size := HB4.out.lt
          have ⟨t0, t1, t2, t3, t4, t5⟩ := HK7.out.cells
          clear o4 g4 B3 hx4
          obtain ⟨m, hm, m1, m2⟩ := HN2.out
          have HM := Lib.hid hm
          have e5 : (k : Int) + y.n = ((k + m : Nat) : Int) := by omega
          clear hm
          by_cases hb : y.k = 1 ∧ y.a = 10
          · have HU3 : Hid (looT n s s.size 0 x0 [65533] = looT n s f (k + y.n.toNat) (anewX n xs) (zs ++ [65533, 10])) := Lib.hid (by rw [HU2.out, badX, badZ, if_pos hb, if_pos hb])
            have HX4 : Hid (stOKB (anewX n xs) = true) := Lib.hid (anewX_ok HX.out)
            have HAn := Lib.hid (fun w => spec_l06Anew n ⟨xs.g0, xs.g1, xs.g2, xs.g3, xs.l, 0, 0⟩ w)
            have hAe : anewX n ⟨xs.g0, xs.g1, xs.g2, xs.g3, xs.l, 0, 0⟩ = anewX n xs := rfl
            rw [hAe] at HAn
            unfold StDone stV at HAn
            have ek : (y.k == 1) = true := by simp [hb.1]
            have ea : (y.a == 10) = true := by simp [hb.2]
            have O8 := Lib.hid (O7.out.alloc (.cells #[.int .i64 10] 3))
            have HNW8 := Lib.hid (World.news_of_block (show (((w6.setCell ⟨w3.heap.size, 5, none⟩ (.int .i64 0)).setCell ⟨w3.heap.size, 6, none⟩ (.int .i64 0)).alloc (.cells #[.int .i64 10] 3)).heap[w6.heap.size]? = some (.cells (([10] : List Int).map (Value.int .i64)).toArray 3) from (by
              have := heap_alloc_new ((w6.setCell ⟨w3.heap.size, 5, none⟩ (.int .i64 0)).setCell ⟨w3.heap.size, 6, none⟩ (.int .i64 0)) (.cells #[.int .i64 10] 3)
              rw [World.size_setCell, World.size_setCell] at this
              exact this)))
            have hB8 : w.heap.size ≤ (((w6.setCell ⟨w3.heap.size, 5, none⟩ (.int .i64 0)).setCell ⟨w3.heap.size, 6, none⟩ (.int .i64 0)).alloc (.cells #[.int .i64 10] 3)).heap.size := by have := B7.out.size; simp only [World.size_alloc]; omega
            have lt7 := Lib.hid (World.ownsRow.lt O7.out g rfl)
            clear hb HX3 HU2
            generalize anewX n xs = xa at *
            go_wp2_with (at_builtin; refine app_i64 _ rfl _ _ rfl w.heap.size _ (zs ++ [65533]) rfl O8.out ⟨w6.heap.size, 0, none⟩ 1 1 [10] rfl rfl (by decide) HNW8.out (by simp; omega) hB8 ?_)
            intro g8 cap8 w8 o8 g48 lt8
            have hb8 : ∀ j, j < (((w6.setCell ⟨w3.heap.size, 5, none⟩ (.int .i64 0)).setCell ⟨w3.heap.size, 6, none⟩ (.int .i64 0))).heap.size → j ≠ g → w8.heap[j]? = (((w6.setCell ⟨w3.heap.size, 5, none⟩ (.int .i64 0)).setCell ⟨w3.heap.size, 6, none⟩ (.int .i64 0))).heap[j]? := fun j hj hne => (g48.block j (by simp only [World.size_alloc]; omega) (fun h => hne (by simpa [Value.ownBlock] using h))).trans ((below_one ((w6.setCell ⟨w3.heap.size, 5, none⟩ (.int .i64 0)).setCell ⟨w3.heap.size, 6, none⟩ (.int .i64 0)) (.cells #[.int .i64 10] 3)).block j hj)
            have hg3 : w3.heap.size ≠ g := fun h => hV6 (by rw [h]; rfl)
            have HB8 : Hid (StAt w8 w3.heap.size ⟨xs.g0, xs.g1, xs.g2, xs.g3, xs.l, 0, 0⟩) := Lib.hid ((hb8 _ HB7.out.lt hg3).trans HB7.out)
            have hgk : w4.heap.size ≠ g := fun h => by
              have h1 := O7.out.apart HK7.out (by decide)
              exact h1 (by rw [h]; rfl)
            have hgp : w1.heap.size ≠ g := fun h => by
              have h1 := O7.out.apart HP7.out (by decide)
              exact h1 (by rw [h]; rfl)
            have HK8 : Hid (TokAt w8 w4.heap.size y) := Lib.hid ((hb8 _ HK7.out.lt hgk).trans HK7.out)
            have HP8 : Hid (w8.heap[w1.heap.size]? = some (.cells #[.string (prName n), .string (prHead n), (.slice (some ⟨pg, 0, none⟩) 4 pc), .bool (prRight n), .bool (prShifts n), .bool (prSingle n), .bool (prReset n), .bool (prClear n)] 60)) := Lib.hid ((hb8 _ (Array.getElem?_eq_some_iff.1 HP7.out).1 hgp).trans HP7.out)
            have B8 := Lib.hid ((B7.out.alloc B7.out.size (.cells #[.int .i64 10] 3)).grown g48 (by have := B7.out.size; simp only [World.size_alloc]; omega) (fun j hj => by rw [← show g = j from by simpa [Value.ownBlock] using hj]; exact lt7.out.1))
            have O8b := Lib.hid o8
            clear o8 g48 hb8
            clear y0 y1 y2 y3 y4 y5 y6 q0 q1 q2 q3 q4 q5 q6 t0 t1 t2 t3 t4 t5
            have ⟨y0, y1, y2, y3, y4, y5, y6⟩ := HB8.out.cells
            dsimp only at y0 y1 y2 y3 y4 y5 y6
            go_wp2_with fail
            refine (HAn.out _).mono ?_
            clear y0 y1 y2 y3 y4 y5 y6
            rintro e w9 ⟨rfl, b9⟩
            have HB9 := Lib.hid (HB8.out.keep b9)
            have HK9 := Lib.hid (HK8.out.keep b9)
            have HP9 := Lib.hid ((b9.block _ (Array.getElem?_eq_some_iff.1 HP8.out).1).trans HP8.out)
            have O9 := Lib.hid (O8b.out.all b9)
            have B9 := Lib.hid (B8.out.trans (b9.mono B8.out.size))
            clear b9 HB8 HK8 HP8 O8b B8
            have hV9 := O9.out.apart HB9.out (by decide)
            have HBA := Lib.hid (HB9.out.put xa)
            have HKA := Lib.hid (HK9.out.other xa (show w4.heap.size ≠ w3.heap.size by omega))
            have HPA : Hid ((putSt w9 w3.heap.size xa).heap[w1.heap.size]? = some (.cells #[.string (prName n), .string (prHead n), (.slice (some ⟨pg, 0, none⟩) 4 pc), .bool (prRight n), .bool (prShifts n), .bool (prSingle n), .bool (prReset n), .bool (prClear n)] 60)) := Lib.hid ((heap_putSt xa (by omega)).trans HP9.out)
            have OA := Lib.hid (O9.out.putStN hV9 xa)
            have BA := Lib.hid (below_putSt B9.out (show w.heap.size ≤ w3.heap.size by omega) xa)
            have ⟨y0, y1, y2, y3, y4, y5, y6⟩ := HB9.out.cells
            have ⟨q0, q1, q2, q3, q4, q5, q6⟩ := HB9.out.thaw
            have ⟨_, _, _, _, _, t5⟩ := HK9.out.cells
            have hl9 : w3.heap.size < w9.heap.size := HB9.out.lt
            go_wp2
            go_roundw
            case rel => exact ⟨k + m, f, xa, zs ++ [65533, 10], m2, by simp, Lib.hid (by have := HF.out; omega), by simp; omega, Lib.hid (by rw [HU3.out, HM.out]; simp), HX4, OA, HBA, HPA, BA⟩
            case measure => simp [intOf]; omega
          · have HU3 : Hid (looT n s s.size 0 x0 [65533] = looT n s f (k + y.n.toNat) ⟨xs.g0, xs.g1, xs.g2, xs.g3, xs.l, 0, 0⟩ (zs ++ [65533])) := Lib.hid (by rw [HU2.out, badX, badZ, if_neg hb, if_neg hb])
            have HX4 : Hid (stOKB ⟨xs.g0, xs.g1, xs.g2, xs.g3, xs.l, 0, 0⟩ = true) := Lib.hid (rest_ok HX.out)
            by_cases h1 : y.k = 1
            · have ek : (y.k == 1) = true := by simp [h1]
              have ea : (y.a == 10) = false := by
                have : y.a ≠ 10 := fun h => hb ⟨h1, h⟩
                simpa using this
              clear hb h1
              go_wp2
              go_roundw
              case rel => exact ⟨k + m, f, ⟨xs.g0, xs.g1, xs.g2, xs.g3, xs.l, 0, 0⟩, zs ++ [65533], m2, by simp, Lib.hid (by have := HF.out; omega), by simp; omega, Lib.hid (by rw [HU3.out, HM.out]; simp), HX4, O7, HB7, HP7, B7⟩
              case measure => simp [intOf]; omega
            · have ek : (y.k == 1) = false := by simpa using h1
              clear hb h1
              go_wp2
              go_roundw
              case rel => exact ⟨k + m, f, ⟨xs.g0, xs.g1, xs.g2, xs.g3, xs.l, 0, 0⟩, zs ++ [65533], m2, by simp, Lib.hid (by have := HF.out; omega), by simp; omega, Lib.hid (by rw [HU3.out, HM.out]; simp), HX4, O7, HB7, HP7, B7⟩
              case measure => simp [intOf]; omega
      · have v2 : ¬ (k : Int) < (s.size : Int) := by omega
        have HE : Hid (looP n s = pendZ xs zs) := Lib.hid (by
          rw [HD.out, HR.out]
          cases f with
          | zero => rfl
          | succ f => rw [looT, if_neg hlt])
        have HPn := Lib.hid (fun w => spec_l04Pending xs w)
        unfold stV at HPn
        have ⟨y0, y1, y2, y3, y4, y5, y6⟩ := HB.out.cells
        cases hp : pendB xs
        · have HE2 : Hid (looP n s = zs) := Lib.hid (by rw [HE.out, pendZ, hp]; rfl)
          rw [hp] at HPn
          go_wp2_with fail
          refine (HPn.out _).mono ?_
          clear y0 y1 y2 y3 y4 y5 y6
          rintro e w4 ⟨rfl, b1⟩
          have B1 := Lib.hid (BW.out.trans (b1.mono BW.out.size))
          have O1 := Lib.hid (HO.out.all b1)
          clear b1
          go_wp2
          go_ret
          exact ⟨_, rfl, by rw [HE2.out]; exact O1.out, B1.out⟩
        · have HE2 : Hid (looP n s = zs ++ [65533]) := Lib.hid (by rw [HE.out, pendZ, hp]; rfl)
          rw [hp] at HPn
          go_wp2_with fail
          refine (HPn.out _).mono ?_
          clear y0 y1 y2 y3 y4 y5 y6
          rintro e w4 ⟨rfl, b1⟩
          have B1 := Lib.hid (BW.out.trans (b1.mono BW.out.size))
          have O1 := Lib.hid ((HO.out.all b1).alloc (.cells #[.int .i64 65533] 3))
          have L1 := Lib.hid (fun g hg => World.ownsRow.lt (HO.out.all b1) g hg)
          have HNW := Lib.hid (World.news_of_block (show (w4.alloc (.cells #[.int .i64 65533] 3)).heap[w4.heap.size]? = some (.cells (([65533] : List Int).map (Value.int .i64)).toArray 3) from heap_alloc_new _ _))
          have hB3 : w.heap.size ≤ (w4.alloc (.cells #[.int .i64 65533] 3)).heap.size := by have := B1.out.size; simp only [World.size_alloc]; omega
          clear b1
          go_wp2_with (at_builtin; refine app_i64 _ rfl _ _ rfl w.heap.size _ zs rfl O1.out ⟨w4.heap.size, 0, none⟩ 1 1 [65533] rfl rfl (by decide) HNW.out (by omega) hB3 ?_)
          intro g cap2 w6 o4 g4 lt4
          have B4 := Lib.hid ((B1.out.alloc B1.out.size (.cells #[.int .i64 65533] 3)).grown g4 (by have := B1.out.size; simp only [World.size_alloc]; omega) (fun j hj => by have := (L1.out j hj).1; omega))
          have O4 := Lib.hid o4
          clear o4 g4
          go_wp2
          go_ret
          exact ⟨_, rfl, by rw [HE2.out]; exact O4.out, B4.out⟩
  · have HD : Hid (looP n s = looT n s s.size 0 (startP n) []) := Lib.hid (by rw [looP, hh]; rfl)
    clear hh
    go_wp2_with fail
    refine (HSt.out _).mono ?_
    rintro e w3 ⟨rfl, b3⟩
    have O3 := Lib.hid ((O2.out.all b3).alloc (.cells #[.int .i64 (startP n).g0, .int .i64 (startP n).g1, .int .i64 (startP n).g2, .int .i64 (startP n).g3, .int .i64 (startP n).l, .int .i64 (startP n).s, .int .i64 (startP n).d] 39))
    have B3 := Lib.hid ((B2.out.trans (b3.mono B2.out.size)).alloc (B2.out.trans (b3.mono B2.out.size)).size (.cells #[.int .i64 (startP n).g0, .int .i64 (startP n).g1, .int .i64 (startP n).g2, .int .i64 (startP n).g3, .int .i64 (startP n).l, .int .i64 (startP n).s, .int .i64 (startP n).d] 39))
    have P3 := Lib.hid ((((b3.block _ (Array.getElem?_eq_some_iff.1 P2.out).1).trans P2.out)).trans rfl)
    have P4 : Hid ((w3.alloc (.cells #[.int .i64 (startP n).g0, .int .i64 (startP n).g1, .int .i64 (startP n).g2, .int .i64 (startP n).g3, .int .i64 (startP n).l, .int .i64 (startP n).s, .int .i64 (startP n).d] 39)).heap[w1.heap.size]? = some (.cells #[.string (prName n), .string (prHead n), (.slice (some ⟨pg, 0, none⟩) 4 pc), .bool (prRight n), .bool (prShifts n), .bool (prSingle n), .bool (prReset n), .bool (prClear n)] 60)) := Lib.hid (((below_one w3 (.cells #[.int .i64 (startP n).g0, .int .i64 (startP n).g1, .int .i64 (startP n).g2, .int .i64 (startP n).g3, .int .i64 (startP n).l, .int .i64 (startP n).s, .int .i64 (startP n).d] 39)).block _ (Array.getElem?_eq_some_iff.1 P3.out).1).trans P3.out)
    have S3 := Lib.hid (StAt.new w3 (startP n))
    have hw3 : w1.heap.size + 2 ≤ w3.heap.size := Nat.le_trans hw2 b3.size
    have hX0 := Lib.hid (startP_ok n)
    clear b3 O2 B2 P2 P3 hw2
    generalize startP n = x0 at *
    go_wp2
    generalize w3.alloc (.cells #[.int .i64 x0.g0, .int .i64 x0.g1, .int .i64 x0.g2, .int .i64 x0.g3, .int .i64 x0.l, .int .i64 x0.s, .int .i64 x0.d] 39) = W3 at *
    go_loopw [6, 8] (fun v i wr => ∃ (k f : Nat) (xs : St) (zs : List Int), k ≤ s.size ∧ i = .int .i64 k ∧ Hid (s.size ≤ k + f) ∧ zs.length ≤ 2 * k + 1 ∧ Hid (looT n s s.size 0 x0 [] = looT n s f k xs zs) ∧ Hid (stOKB xs = true) ∧ Hid (Own .i64 3 wr w.heap.size v zs) ∧ Hid (StAt wr w3.heap.size xs) ∧ Hid (wr.heap[w1.heap.size]? = some (.cells #[.string (prName n), .string (prHead n), (.slice (some ⟨pg, 0, none⟩) 4 pc), .bool (prRight n), .bool (prShifts n), .bool (prSingle n), .bool (prReset n), .bool (prClear n)] 60)) ∧ Hid (Below w.heap.size w wr)) (fun _ i _ => s.size - (intOf i).toNat)
    case atStart =>
      exact ⟨0, s.size, x0, [], by omega, rfl, Lib.hid (by omega), by simp, Lib.hid rfl, hX0, O3, S3, P4, B3⟩
    case round =>
      obtain ⟨k, f, xs, zs, hk, rfl, HF, hzs, HR, HX, HO, HB, HP, BW⟩ := hrel
      obtain ⟨a0, c0, hform, _⟩ := HO.out.shape
      subst hform
      clear O3 P4 S3 B3
      have hV3 := HO.out.apart HB.out (by decide)
      have hV1 := HO.out.apart HP.out (by decide)
      have hl3 : w3.heap.size < wr.heap.size := HB.out.lt
      have hl1 : w1.heap.size < wr.heap.size := (Array.getElem?_eq_some_iff.1 HP.out).1
      by_cases hlt : k < s.size
      · obtain ⟨f, rfl⟩ : ∃ q, f = q + 1 := ⟨f - 1, by have := HF.out; omega⟩
        have v2 : (k : Int) < (s.size : Int) := by omega
        have HU : Hid (looT n s (f + 1) k xs zs = if (stepP n xs (nextTok s k)).c = 0 then looT n s f (k + (nextTok s k).n.toNat) (stepP n xs (nextTok s k)).y (addR zs (stepP n xs (nextTok s k)).r) else looT n s f (k + (nextTok s k).n.toNat) (badX n xs (nextTok s k)) (zs ++ badZ (nextTok s k))) := Lib.hid (by rw [looT, if_pos hlt])
        have n1 := (nextTok_in s k hlt).2.1
        have n2 := (nextTok_in s k hlt).2.2
        have HN := Lib.hid (fun w => spec_l03Next s k w hlt (by omega))
        have HG := Lib.hid (fun w => spec_l05Step n xs (nextTok s k) w HX.out (nextTok_ok s k hlt (by omega)))
        have hr := stepP_r (n := n) (x := xs) (nextTok_ok s k hlt (by omega))
        have HX3 := Lib.hid (badX_ok (n := n) (t := nextTok s k) HX.out)
        have HX2 := Lib.hid (stepP_ok (n := n) HX.out (nextTok_ok s k hlt (by omega)))
        unfold TokDone tokV at HN
        unfold StpDone stpV tokV stV at HG
        generalize nextTok s k = y at *
        generalize stepP n xs y = p at *
        have u1 : IntKind.i64.wrap ((k : Int) + y.n) = (k : Int) + y.n := IntWalk.i64_in _ (by omega)
        go_wp2_with fail
        refine (HN.out _).mono ?_
        rintro e w4 ⟨rfl, b1⟩
        have B1 := Lib.hid (BW.out.trans (b1.mono BW.out.size))
        have O1 := Lib.hid ((HO.out.all b1).all (below_one w4 (.cells #[.int .i64 y.k, .int .i64 y.a, .int .i64 y.b, .int .i64 y.c, .int .i64 y.p, .int .i64 y.n] 102)))
        have HB1 := Lib.hid ((HB.out.keep b1).keep (below_one w4 (.cells #[.int .i64 y.k, .int .i64 y.a, .int .i64 y.b, .int .i64 y.c, .int .i64 y.p, .int .i64 y.n] 102)))
        have HP0 := Lib.hid ((b1.block _ hl1).trans HP.out)
        have hl4 : w1.heap.size < w4.heap.size := Nat.lt_of_lt_of_le hl1 b1.size
        have hl43 : w3.heap.size < w4.heap.size := Nat.lt_of_lt_of_le hl3 b1.size
        have HP1 := Lib.hid (((below_one w4 (.cells #[.int .i64 y.k, .int .i64 y.a, .int .i64 y.b, .int .i64 y.c, .int .i64 y.p, .int .i64 y.n] 102)).block _ hl4).trans HP0.out)
        have HK1 := Lib.hid (TokAt.new w4 y)
        have B1b := Lib.hid (B1.out.alloc B1.out.size (.cells #[.int .i64 y.k, .int .i64 y.a, .int .i64 y.b, .int .i64 y.c, .int .i64 y.p, .int .i64 y.n] 102))
        have L1 := Lib.hid (fun g hg => World.ownsRow.lt (HO.out.all b1) g hg)
        clear b1 HO HB HP HP0 BW B1 HN
        have ⟨y0, y1, y2, y3, y4, y5, y6⟩ := HB1.out.cells
        have ⟨t0, t1, t2, t3, t4, t5⟩ := HK1.out.cells
        go_wp2_with fail
        refine (HG.out _).mono ?_
        clear y0 y1 y2 y3 y4 y5 y6 t0 t1 t2 t3 t4 t5
        generalize w4.alloc (.cells #[.int .i64 y.k, .int .i64 y.a, .int .i64 y.b, .int .i64 y.c, .int .i64 y.p, .int .i64 y.n] 102) = W4 at *
        rintro e w5 ⟨rfl, b2⟩
        have B2 := Lib.hid (B1b.out.trans (b2.mono B1b.out.size))
        have O2 := Lib.hid (O1.out.all b2)
        have HB2 := Lib.hid (HB1.out.keep b2)
        have HP2 := Lib.hid ((b2.block _ (Array.getElem?_eq_some_iff.1 HP1.out).1).trans HP1.out)
        have HK2 := Lib.hid (HK1.out.keep b2)
        clear b2 O1 HB1 HP1 HK1 B1b
        by_cases hc : p.c = 0
        · have ec : (p.c != 0) = false := by simpa using hc
          have ⟨q0, q1, q2, q3, q4, q5, q6⟩ := HB2.out.thaw
          have ⟨y0, y1, y2, y3, y4, y5, y6⟩ := HB2.out.cells
          have hl6 : w3.heap.size < w5.heap.size := HB2.out.lt
          have hk2 : w4.heap.size < w5.heap.size := HK2.out.lt
          have ⟨p0, p1, p2, p3, p4, p5, p6⟩ := (StAt.new w5 p.y).cells
          have ⟨t0, t1, t2, t3, t4, t5⟩ := HK2.out.cells
          have HN2 : Hid (∃ m : Nat, y.n = (m : Int) ∧ 1 ≤ m ∧ k + m ≤ s.size) := Lib.hid ⟨y.n.toNat, by omega, by omega, by omega⟩
          have BP := Lib.hid (below_putSt B2.out (show w.heap.size ≤ w3.heap.size by omega) p.y)
          have OP := Lib.hid (O2.out.putStN hV3 p.y)
          have HBP := Lib.hid (HB2.out.put p.y)
          have HPP : Hid ((putSt w5 w3.heap.size p.y).heap[w1.heap.size]? = some (.cells #[.string (prName n), .string (prHead n), (.slice (some ⟨pg, 0, none⟩) 4 pc), .bool (prRight n), .bool (prShifts n), .bool (prSingle n), .bool (prReset n), .bool (prClear n)] 60)) := Lib.hid ((heap_putSt p.y (by omega)).trans HP2.out)
          have hlP : w1.heap.size < (putSt w5 w3.heap.size p.y).heap.size := (Array.getElem?_eq_some_iff.1 HPP.out).1
          have HPQ := Lib.hid (((below_one (putSt w5 w3.heap.size p.y) (.cells #[.int .i64 p.y.g0, .int .i64 p.y.g1, .int .i64 p.y.g2, .int .i64 p.y.g3, .int .i64 p.y.l, .int .i64 p.y.s, .int .i64 p.y.d] 39)).block _ hlP).trans HPP.out)
          rcases hr with hr | hr
          · have HA : Hid (addR zs p.r = zs) := Lib.hid (addR_none hr)
            have vr : p.r < 0 := by omega
            obtain ⟨m, hm, m1, m2⟩ := HN2.out
            have HM := Lib.hid hm
            have e5 : (k : Int) + y.n = ((k + m : Nat) : Int) := by omega
            clear hm
            go_wp2
            go_roundw
            case rel => exact ⟨k + m, f, p.y, zs, m2, by simp, Lib.hid (by have := HF.out; omega), by omega, Lib.hid (by rw [HR.out, HU.out, if_pos hc, HA.out, HM.out]; simp), HX2, Lib.hid (OP.out.alloc _), Lib.hid (HBP.out.alloc _), HPQ, Lib.hid (BP.out.alloc BP.out.size _)⟩
            case measure => simp [intOf]; omega
          · have HA : Hid (addR zs p.r = zs ++ [p.r]) := Lib.hid (addR_some hr)
            have O3 := Lib.hid ((OP.out.alloc (.cells #[.int .i64 p.y.g0, .int .i64 p.y.g1, .int .i64 p.y.g2, .int .i64 p.y.g3, .int .i64 p.y.l, .int .i64 p.y.s, .int .i64 p.y.d] 39)).alloc (.cells #[.int .i64 p.r] 3))
            have HNW := Lib.hid (World.news_of_block (show (((putSt w5 w3.heap.size p.y).alloc (.cells #[.int .i64 p.y.g0, .int .i64 p.y.g1, .int .i64 p.y.g2, .int .i64 p.y.g3, .int .i64 p.y.l, .int .i64 p.y.s, .int .i64 p.y.d] 39)).alloc (.cells #[.int .i64 p.r] 3)).heap[w5.heap.size + 1]? = some (.cells ([p.r].map (Value.int .i64)).toArray 3) from by
              have := heap_alloc2_new (putSt w5 w3.heap.size p.y) (.cells #[.int .i64 p.y.g0, .int .i64 p.y.g1, .int .i64 p.y.g2, .int .i64 p.y.g3, .int .i64 p.y.l, .int .i64 p.y.s, .int .i64 p.y.d] 39) (.cells #[.int .i64 p.r] 3)
              rw [size_putSt] at this
              exact this))
            have hB3 : w.heap.size ≤ (((putSt w5 w3.heap.size p.y).alloc (.cells #[.int .i64 p.y.g0, .int .i64 p.y.g1, .int .i64 p.y.g2, .int .i64 p.y.g3, .int .i64 p.y.l, .int .i64 p.y.s, .int .i64 p.y.d] 39)).alloc (.cells #[.int .i64 p.r] 3)).heap.size := by
              simp only [World.size_alloc, size_putSt]; omega
            have HPR := Lib.hid (((below_one ((putSt w5 w3.heap.size p.y).alloc (.cells #[.int .i64 p.y.g0, .int .i64 p.y.g1, .int .i64 p.y.g2, .int .i64 p.y.g3, .int .i64 p.y.l, .int .i64 p.y.s, .int .i64 p.y.d] 39)) (.cells #[.int .i64 p.r] 3)).block _ (Array.getElem?_eq_some_iff.1 HPQ.out).1).trans HPQ.out)
            go_wp2_with (at_builtin; refine app_i64 _ rfl _ _ rfl w.heap.size _ zs rfl O3.out ⟨w5.heap.size + 1, 0, none⟩ 1 1 [p.r] rfl rfl (by decide) HNW.out (by omega) hB3 ?_)
            intro g cap2 w6 o4 g4 lt4
            have hx4 : TokAt w6 w4.heap.size y := (g4.block _ (by simp; omega) (fun h => by have := (L1.out _ h.symm).2; omega)).trans (((HK2.out.other p.y (by omega)).keep (below_one _ (.cells #[.int .i64 p.y.g0, .int .i64 p.y.g1, .int .i64 p.y.g2, .int .i64 p.y.g3, .int .i64 p.y.l, .int .i64 p.y.s, .int .i64 p.y.d] 39))).keep (below_one _ (.cells #[.int .i64 p.r] 3)))
            have HB4 := Lib.hid ((g4.block w3.heap.size (by simp; omega) (fun h => hV3 h.symm)).trans ((HBP.out.alloc (.cells #[.int .i64 p.y.g0, .int .i64 p.y.g1, .int .i64 p.y.g2, .int .i64 p.y.g3, .int .i64 p.y.l, .int .i64 p.y.s, .int .i64 p.y.d] 39)).alloc (.cells #[.int .i64 p.r] 3)))
            have HP4 := Lib.hid ((g4.block w1.heap.size (by simp; omega) (fun h => hV1 h.symm)).trans HPR.out)
            have B3 := BP.out.alloc BP.out.size (.cells #[.int .i64 p.y.g0, .int .i64 p.y.g1, .int .i64 p.y.g2, .int .i64 p.y.g3, .int .i64 p.y.l, .int .i64 p.y.s, .int .i64 p.y.d] 39)
            have B4 := Lib.hid ((B3.alloc B3.size (.cells #[.int .i64 p.r] 3)).grown g4 (by simp only [World.size_alloc, size_putSt]; omega) (fun j hj => by have := (L1.out j hj).1; omega))
            have O4 := Lib.hid o4
            clear o4 g4 B3
            clear y0 y1 y2 y3 y4 y5 y6 q0 q1 q2 q3 q4 q5 q6 p0 p1 p2 p3 p4 p5 p6 t0 t1 t2 t3 t4 t5
            have ⟨_, _, _, _, _, t5⟩ := hx4.cells
            clear hx4
            obtain ⟨m, hm, m1, m2⟩ := HN2.out
            have HM := Lib.hid hm
            have e5 : (k : Int) + y.n = ((k + m : Nat) : Int) := by omega
            clear hm
            go_wp2
            go_roundw
            case rel => exact ⟨k + m, f, p.y, zs ++ [p.r], m2, by simp, Lib.hid (by have := HF.out; omega), by simp; omega, Lib.hid (by rw [HR.out, HU.out, if_pos hc, HA.out, HM.out]; simp), HX2, O4, HB4, HP4, B4⟩
            case measure => simp [intOf]; omega
        · have ec : (p.c != 0) = true := by simpa using hc
          have ec2 : (p.c == 0) = false := by simpa using hc
          have HN2 : Hid (∃ m : Nat, y.n = (m : Int) ∧ 1 ≤ m ∧ k + m ≤ s.size) := Lib.hid ⟨y.n.toNat, by omega, by omega, by omega⟩
          have HU2 : Hid (looT n s s.size 0 x0 [] = looT n s f (k + y.n.toNat) (badX n xs y) (zs ++ badZ y)) := Lib.hid (by rw [HR.out, HU.out, if_neg hc])
          have hl6 : w3.heap.size < w5.heap.size := HB2.out.lt
          have hk2 : w4.heap.size < w5.heap.size := HK2.out.lt
          have O3 := Lib.hid ((O2.out.alloc (.cells #[.int .i64 p.y.g0, .int .i64 p.y.g1, .int .i64 p.y.g2, .int .i64 p.y.g3, .int .i64 p.y.l, .int .i64 p.y.s, .int .i64 p.y.d] 39)).alloc (.cells #[.int .i64 65533] 3))
          have HNW := Lib.hid (World.news_of_block (show ((w5.alloc (.cells #[.int .i64 p.y.g0, .int .i64 p.y.g1, .int .i64 p.y.g2, .int .i64 p.y.g3, .int .i64 p.y.l, .int .i64 p.y.s, .int .i64 p.y.d] 39)).alloc (.cells #[.int .i64 65533] 3)).heap[w5.heap.size + 1]? = some (.cells (([65533] : List Int).map (Value.int .i64)).toArray 3) from heap_alloc2_new _ _ _))
          have hB3 : w.heap.size ≤ ((w5.alloc (.cells #[.int .i64 p.y.g0, .int .i64 p.y.g1, .int .i64 p.y.g2, .int .i64 p.y.g3, .int .i64 p.y.l, .int .i64 p.y.s, .int .i64 p.y.d] 39)).alloc (.cells #[.int .i64 65533] 3)).heap.size := by simp only [World.size_alloc]; omega
          have HPR : Hid (((w5.alloc (.cells #[.int .i64 p.y.g0, .int .i64 p.y.g1, .int .i64 p.y.g2, .int .i64 p.y.g3, .int .i64 p.y.l, .int .i64 p.y.s, .int .i64 p.y.d] 39)).alloc (.cells #[.int .i64 65533] 3)).heap[w1.heap.size]? = some (.cells #[.string (prName n), .string (prHead n), (.slice (some ⟨pg, 0, none⟩) 4 pc), .bool (prRight n), .bool (prShifts n), .bool (prSingle n), .bool (prReset n), .bool (prClear n)] 60)) := Lib.hid (((below_two w5 (.cells #[.int .i64 p.y.g0, .int .i64 p.y.g1, .int .i64 p.y.g2, .int .i64 p.y.g3, .int .i64 p.y.l, .int .i64 p.y.s, .int .i64 p.y.d] 39) (.cells #[.int .i64 65533] 3)).block _ (Array.getElem?_eq_some_iff.1 HP2.out).1).trans HP2.out)
          clear HU HR
          go_wp2_with (at_builtin; refine app_i64 _ rfl _ _ rfl w.heap.size _ zs rfl O3.out ⟨w5.heap.size + 1, 0, none⟩ 1 1 [65533] rfl rfl (by decide) HNW.out (by omega) hB3 ?_)
          intro g cap2 w6 o4 g4 lt4
          have hx4 : TokAt w6 w4.heap.size y := (g4.block _ (by simp; omega) (fun h => by have := (L1.out _ h.symm).2; omega)).trans ((HK2.out.keep (below_one _ (.cells #[.int .i64 p.y.g0, .int .i64 p.y.g1, .int .i64 p.y.g2, .int .i64 p.y.g3, .int .i64 p.y.l, .int .i64 p.y.s, .int .i64 p.y.d] 39))).keep (below_one _ (.cells #[.int .i64 65533] 3)))
          have HB4 : Hid (StAt w6 w3.heap.size xs) := Lib.hid ((g4.block w3.heap.size (by simp; omega) (fun h => hV3 h.symm)).trans ((HB2.out.alloc (.cells #[.int .i64 p.y.g0, .int .i64 p.y.g1, .int .i64 p.y.g2, .int .i64 p.y.g3, .int .i64 p.y.l, .int .i64 p.y.s, .int .i64 p.y.d] 39)).alloc (.cells #[.int .i64 65533] 3)))
          have HP4 := Lib.hid ((g4.block w1.heap.size (by simp; omega) (fun h => hV1 h.symm)).trans HPR.out)
          have B3 := B2.out.alloc B2.out.size (.cells #[.int .i64 p.y.g0, .int .i64 p.y.g1, .int .i64 p.y.g2, .int .i64 p.y.g3, .int .i64 p.y.l, .int .i64 p.y.s, .int .i64 p.y.d] 39)
          have B4 := Lib.hid ((B3.alloc B3.size (.cells #[.int .i64 65533] 3)).grown g4 (by simp only [World.size_alloc]; omega) (fun j hj => by have := (L1.out j hj).1; omega))
          have hV6 := o4.apart HB4.out (by decide)
          have O7 : Hid (Own .i64 3 ((w6.setCell ⟨w3.heap.size, 5, none⟩ (.int .i64 0)).setCell ⟨w3.heap.size, 6, none⟩ (.int .i64 0)) w.heap.size (.slice (some ⟨g, 0, none⟩) (zs.length + 1) cap2) (zs ++ [65533])) := Lib.hid (by
            refine o4.blocks ?_
            intro j hj
            have hne : j ≠ w3.heap.size := fun e => hV6 (by rw [hj, e])
            rw [Below.heap_setCell _ _ _ _ (by simpa using hne), Below.heap_setCell _ _ _ _ (by simpa using hne)])
          have HB7 : Hid (StAt ((w6.setCell ⟨w3.heap.size, 5, none⟩ (.int .i64 0)).setCell ⟨w3.heap.size, 6, none⟩ (.int .i64 0)) w3.heap.size ⟨xs.g0, xs.g1, xs.g2, xs.g3, xs.l, 0, 0⟩) := Lib.hid (heap_setCell_same _ _ 6 _ _ (.int .i64 0) (heap_setCell_same _ _ 5 _ _ (.int .i64 0) HB4.out))
          have HK7 : Hid (TokAt ((w6.setCell ⟨w3.heap.size, 5, none⟩ (.int .i64 0)).setCell ⟨w3.heap.size, 6, none⟩ (.int .i64 0)) w4.heap.size y) := Lib.hid (by
            unfold TokAt
            rw [Below.heap_setCell _ _ _ _ (by simp; omega), Below.heap_setCell _ _ _ _ (by simp; omega)]
            exact hx4)
          have HP7 : Hid ((((w6.setCell ⟨w3.heap.size, 5, none⟩ (.int .i64 0)).setCell ⟨w3.heap.size, 6, none⟩ (.int .i64 0))).heap[w1.heap.size]? = some (.cells #[.string (prName n), .string (prHead n), (.slice (some ⟨pg, 0, none⟩) 4 pc), .bool (prRight n), .bool (prShifts n), .bool (prSingle n), .bool (prReset n), .bool (prClear n)] 60)) := Lib.hid (by
            rw [Below.heap_setCell _ _ _ _ (by simp; omega), Below.heap_setCell _ _ _ _ (by simp; omega)]
            exact HP4.out)
          have B7 : Hid (Below w.heap.size w ((w6.setCell ⟨w3.heap.size, 5, none⟩ (.int .i64 0)).setCell ⟨w3.heap.size, 6, none⟩ (.int .i64 0))) := Lib.hid ((B4.out.setCell (show w.heap.size ≤ w3.heap.size by omega) _).setCell (show w.heap.size ≤ w3.heap.size by omega) _)
          have ⟨y0, y1, y2, y3, y4, y5, y6⟩ := HB4.out.cells
          have ⟨q0, q1, q2, q3, q4, q5, q6⟩ := HB4.out.thaw
          have hl4s : w3.heap.size < w6.heap.size := HB4.out.lt
          have ⟨t0, t1, t2, t3, t4, t5⟩ := HK7.out.cells
          clear o4 g4 B3 hx4
          obtain ⟨m, hm, m1, m2⟩ := HN2.out
          have HM := Lib.hid hm
          have e5 : (k : Int) + y.n = ((k + m : Nat) : Int) := by omega
          clear hm
          by_cases hb : y.k = 1 ∧ y.a = 10
          · have HU3 : Hid (looT n s s.size 0 x0 [] = looT n s f (k + y.n.toNat) (anewX n xs) (zs ++ [65533, 10])) := Lib.hid (by rw [HU2.out, badX, badZ, if_pos hb, if_pos hb])
            have HX4 : Hid (stOKB (anewX n xs) = true) := Lib.hid (anewX_ok HX.out)
            have HAn := Lib.hid (fun w => spec_l06Anew n ⟨xs.g0, xs.g1, xs.g2, xs.g3, xs.l, 0, 0⟩ w)
            have hAe : anewX n ⟨xs.g0, xs.g1, xs.g2, xs.g3, xs.l, 0, 0⟩ = anewX n xs := rfl
            rw [hAe] at HAn
            unfold StDone stV at HAn
            have ek : (y.k == 1) = true := by simp [hb.1]
            have ea : (y.a == 10) = true := by simp [hb.2]
            have O8 := Lib.hid (O7.out.alloc (.cells #[.int .i64 10] 3))
            have HNW8 := Lib.hid (World.news_of_block (show (((w6.setCell ⟨w3.heap.size, 5, none⟩ (.int .i64 0)).setCell ⟨w3.heap.size, 6, none⟩ (.int .i64 0)).alloc (.cells #[.int .i64 10] 3)).heap[w6.heap.size]? = some (.cells (([10] : List Int).map (Value.int .i64)).toArray 3) from (by
              have := heap_alloc_new ((w6.setCell ⟨w3.heap.size, 5, none⟩ (.int .i64 0)).setCell ⟨w3.heap.size, 6, none⟩ (.int .i64 0)) (.cells #[.int .i64 10] 3)
              rw [World.size_setCell, World.size_setCell] at this
              exact this)))
            have hB8 : w.heap.size ≤ (((w6.setCell ⟨w3.heap.size, 5, none⟩ (.int .i64 0)).setCell ⟨w3.heap.size, 6, none⟩ (.int .i64 0)).alloc (.cells #[.int .i64 10] 3)).heap.size := by have := B7.out.size; simp only [World.size_alloc]; omega
            have lt7 := Lib.hid (World.ownsRow.lt O7.out g rfl)
            clear hb HX3 HU2
            generalize anewX n xs = xa at *
            go_wp2_with (at_builtin; refine app_i64 _ rfl _ _ rfl w.heap.size _ (zs ++ [65533]) rfl O8.out ⟨w6.heap.size, 0, none⟩ 1 1 [10] rfl rfl (by decide) HNW8.out (by simp; omega) hB8 ?_)
            intro g8 cap8 w8 o8 g48 lt8
            have hb8 : ∀ j, j < (((w6.setCell ⟨w3.heap.size, 5, none⟩ (.int .i64 0)).setCell ⟨w3.heap.size, 6, none⟩ (.int .i64 0))).heap.size → j ≠ g → w8.heap[j]? = (((w6.setCell ⟨w3.heap.size, 5, none⟩ (.int .i64 0)).setCell ⟨w3.heap.size, 6, none⟩ (.int .i64 0))).heap[j]? := fun j hj hne => (g48.block j (by simp only [World.size_alloc]; omega) (fun h => hne (by simpa [Value.ownBlock] using h))).trans ((below_one ((w6.setCell ⟨w3.heap.size, 5, none⟩ (.int .i64 0)).setCell ⟨w3.heap.size, 6, none⟩ (.int .i64 0)) (.cells #[.int .i64 10] 3)).block j hj)
            have hg3 : w3.heap.size ≠ g := fun h => hV6 (by rw [h]; rfl)
            have HB8 : Hid (StAt w8 w3.heap.size ⟨xs.g0, xs.g1, xs.g2, xs.g3, xs.l, 0, 0⟩) := Lib.hid ((hb8 _ HB7.out.lt hg3).trans HB7.out)
            have hgk : w4.heap.size ≠ g := fun h => by
              have h1 := O7.out.apart HK7.out (by decide)
              exact h1 (by rw [h]; rfl)
            have hgp : w1.heap.size ≠ g := fun h => by
              have h1 := O7.out.apart HP7.out (by decide)
              exact h1 (by rw [h]; rfl)
            have HK8 : Hid (TokAt w8 w4.heap.size y) := Lib.hid ((hb8 _ HK7.out.lt hgk).trans HK7.out)
            have HP8 : Hid (w8.heap[w1.heap.size]? = some (.cells #[.string (prName n), .string (prHead n), (.slice (some ⟨pg, 0, none⟩) 4 pc), .bool (prRight n), .bool (prShifts n), .bool (prSingle n), .bool (prReset n), .bool (prClear n)] 60)) := Lib.hid ((hb8 _ (Array.getElem?_eq_some_iff.1 HP7.out).1 hgp).trans HP7.out)
            have B8 := Lib.hid ((B7.out.alloc B7.out.size (.cells #[.int .i64 10] 3)).grown g48 (by have := B7.out.size; simp only [World.size_alloc]; omega) (fun j hj => by rw [← show g = j from by simpa [Value.ownBlock] using hj]; exact lt7.out.1))
            have O8b := Lib.hid o8
            clear o8 g48 hb8
            clear y0 y1 y2 y3 y4 y5 y6 q0 q1 q2 q3 q4 q5 q6 t0 t1 t2 t3 t4 t5
            have ⟨y0, y1, y2, y3, y4, y5, y6⟩ := HB8.out.cells
            dsimp only at y0 y1 y2 y3 y4 y5 y6
            go_wp2_with fail
            refine (HAn.out _).mono ?_
            clear y0 y1 y2 y3 y4 y5 y6
            rintro e w9 ⟨rfl, b9⟩
            have HB9 := Lib.hid (HB8.out.keep b9)
            have HK9 := Lib.hid (HK8.out.keep b9)
            have HP9 := Lib.hid ((b9.block _ (Array.getElem?_eq_some_iff.1 HP8.out).1).trans HP8.out)
            have O9 := Lib.hid (O8b.out.all b9)
            have B9 := Lib.hid (B8.out.trans (b9.mono B8.out.size))
            clear b9 HB8 HK8 HP8 O8b B8
            have hV9 := O9.out.apart HB9.out (by decide)
            have HBA := Lib.hid (HB9.out.put xa)
            have HKA := Lib.hid (HK9.out.other xa (show w4.heap.size ≠ w3.heap.size by omega))
            have HPA : Hid ((putSt w9 w3.heap.size xa).heap[w1.heap.size]? = some (.cells #[.string (prName n), .string (prHead n), (.slice (some ⟨pg, 0, none⟩) 4 pc), .bool (prRight n), .bool (prShifts n), .bool (prSingle n), .bool (prReset n), .bool (prClear n)] 60)) := Lib.hid ((heap_putSt xa (by omega)).trans HP9.out)
            have OA := Lib.hid (O9.out.putStN hV9 xa)
            have BA := Lib.hid (below_putSt B9.out (show w.heap.size ≤ w3.heap.size by omega) xa)
            have ⟨y0, y1, y2, y3, y4, y5, y6⟩ := HB9.out.cells
            have ⟨q0, q1, q2, q3, q4, q5, q6⟩ := HB9.out.thaw
            have ⟨_, _, _, _, _, t5⟩ := HK9.out.cells
            have hl9 : w3.heap.size < w9.heap.size := HB9.out.lt
            go_wp2
            go_roundw
            case rel => exact ⟨k + m, f, xa, zs ++ [65533, 10], m2, by simp, Lib.hid (by have := HF.out; omega), by simp; omega, Lib.hid (by rw [HU3.out, HM.out]; simp), HX4, OA, HBA, HPA, BA⟩
            case measure => simp [intOf]; omega
          · have HU3 : Hid (looT n s s.size 0 x0 [] = looT n s f (k + y.n.toNat) ⟨xs.g0, xs.g1, xs.g2, xs.g3, xs.l, 0, 0⟩ (zs ++ [65533])) := Lib.hid (by rw [HU2.out, badX, badZ, if_neg hb, if_neg hb])
            have HX4 : Hid (stOKB ⟨xs.g0, xs.g1, xs.g2, xs.g3, xs.l, 0, 0⟩ = true) := Lib.hid (rest_ok HX.out)
            by_cases h1 : y.k = 1
            · have ek : (y.k == 1) = true := by simp [h1]
              have ea : (y.a == 10) = false := by
                have : y.a ≠ 10 := fun h => hb ⟨h1, h⟩
                simpa using this
              clear hb h1
              go_wp2
              go_roundw
              case rel => exact ⟨k + m, f, ⟨xs.g0, xs.g1, xs.g2, xs.g3, xs.l, 0, 0⟩, zs ++ [65533], m2, by simp, Lib.hid (by have := HF.out; omega), by simp; omega, Lib.hid (by rw [HU3.out, HM.out]; simp), HX4, O7, HB7, HP7, B7⟩
              case measure => simp [intOf]; omega
            · have ek : (y.k == 1) = false := by simpa using h1
              clear hb h1
              go_wp2
              go_roundw
              case rel => exact ⟨k + m, f, ⟨xs.g0, xs.g1, xs.g2, xs.g3, xs.l, 0, 0⟩, zs ++ [65533], m2, by simp, Lib.hid (by have := HF.out; omega), by simp; omega, Lib.hid (by rw [HU3.out, HM.out]; simp), HX4, O7, HB7, HP7, B7⟩
              case measure => simp [intOf]; omega
      · have v2 : ¬ (k : Int) < (s.size : Int) := by omega
        have HE : Hid (looP n s = pendZ xs zs) := Lib.hid (by
          rw [HD.out, HR.out]
          cases f with
          | zero => rfl
          | succ f => rw [looT, if_neg hlt])
        have HPn := Lib.hid (fun w => spec_l04Pending xs w)
        unfold stV at HPn
        have ⟨y0, y1, y2, y3, y4, y5, y6⟩ := HB.out.cells
        cases hp : pendB xs
        · have HE2 : Hid (looP n s = zs) := Lib.hid (by rw [HE.out, pendZ, hp]; rfl)
          rw [hp] at HPn
          go_wp2_with fail
          refine (HPn.out _).mono ?_
          clear y0 y1 y2 y3 y4 y5 y6
          rintro e w4 ⟨rfl, b1⟩
          have B1 := Lib.hid (BW.out.trans (b1.mono BW.out.size))
          have O1 := Lib.hid (HO.out.all b1)
          clear b1
          go_wp2
          go_ret
          exact ⟨_, rfl, by rw [HE2.out]; exact O1.out, B1.out⟩
        · have HE2 : Hid (looP n s = zs ++ [65533]) := Lib.hid (by rw [HE.out, pendZ, hp]; rfl)
          rw [hp] at HPn
          go_wp2_with fail
          refine (HPn.out _).mono ?_
          clear y0 y1 y2 y3 y4 y5 y6
          rintro e w4 ⟨rfl, b1⟩
          have B1 := Lib.hid (BW.out.trans (b1.mono BW.out.size))
          have O1 := Lib.hid ((HO.out.all b1).alloc (.cells #[.int .i64 65533] 3))
          have L1 := Lib.hid (fun g hg => World.ownsRow.lt (HO.out.all b1) g hg)
          have HNW := Lib.hid (World.news_of_block (show (w4.alloc (.cells #[.int .i64 65533] 3)).heap[w4.heap.size]? = some (.cells (([65533] : List Int).map (Value.int .i64)).toArray 3) from heap_alloc_new _ _))
          have hB3 : w.heap.size ≤ (w4.alloc (.cells #[.int .i64 65533] 3)).heap.size := by have := B1.out.size; simp only [World.size_alloc]; omega
          clear b1
          go_wp2_with (at_builtin; refine app_i64 _ rfl _ _ rfl w.heap.size _ zs rfl O1.out ⟨w4.heap.size, 0, none⟩ 1 1 [65533] rfl rfl (by decide) HNW.out (by omega) hB3 ?_)
          intro g cap2 w6 o4 g4 lt4
          have B4 := Lib.hid ((B1.out.alloc B1.out.size (.cells #[.int .i64 65533] 3)).grown g4 (by have := B1.out.size; simp only [World.size_alloc]; omega) (fun j hj => by have := (L1.out j hj).1; omega))
          have O4 := Lib.hid o4
          clear o4 g4
          go_wp2
          go_ret
          exact ⟨_, rfl, by rw [HE2.out]; exact O4.out, B4.out⟩

end Go.Proofs.YtbamjhldebobhaaGreatDoor

namespace Go.Proofs.YtbamjhldebobhaaGreatDoor
open Go.RowKit Go.Sort

/-- The panic of a fault. -/
def faultP (p c : Int) : List PanicEntry := [{ v := .iface 111 (.agg #[.int .i64 p, .int .i64 c]), recovered := false }]

set_option maxHeartbeats 1000000 in
theorem impl_stop (t : Tok) (c : Int) (w : World) : Calls Tryz.prog 73 #[tokV t, .int .i64 c] w fun e w' => e = .panicked (faultP t.p c) ∧ Below w.heap.size w w' := by
  have B0 := Lib.hid (below_one w (.cells #[.int .i64 t.k, .int .i64 t.a, .int .i64 t.b, .int .i64 t.c, .int .i64 t.p, .int .i64 t.n] 102))
  unfold tokV
  go_enter Tryz.func73, Tryz.ntmps73
  go_wp2
  exact ⟨rfl, rfl, B0.out⟩

theorem impl_textCode (s : ByteArray) (w : World) : Calls Tryz.prog 69 #[.string s] w fun e w' => e = .returned (.int .i64 (if 65536 < s.size then 2 else if 4096 < s.size then 8 else 0)) ∧ w = w' := by
  by_cases h1 : 65536 < s.size
  · have h1' : (65536 : Int) < (s.size : Int) := by omega
    rw [if_pos h1]
    go_enter Tryz.func69, Tryz.ntmps69
    go_wp2
    go_ret
    exact ⟨rfl, rfl⟩
  have h1' : ¬ (65536 : Int) < (s.size : Int) := by omega
  rw [if_neg h1]
  by_cases h2 : 4096 < s.size
  · have h2' : (4096 : Int) < (s.size : Int) := by omega
    rw [if_pos h2]
    go_enter Tryz.func69, Tryz.ntmps69
    go_wp2
    go_ret
    exact ⟨rfl, rfl⟩
  · have h2' : ¬ (4096 : Int) < (s.size : Int) := by omega
    rw [if_neg h2]
    go_enter Tryz.func69, Tryz.ntmps69
    go_wp2
    go_ret
    exact ⟨rfl, rfl⟩

set_option maxHeartbeats 1000000 in
theorem impl_readingCode (n : Int) (s : ByteArray) (w : World) : Calls Tryz.prog 35 #[.int .i64 n, .string s] w fun e w' => e = .returned (.int .i64 (askC n s)) ∧ w = w' := by
  have HN := Lib.hid (fun w => impl_isProfile n w)
  have HC := Lib.hid (fun w => impl_textCode s w)
  by_cases h1 : 65536 < s.size
  · have h1' : ¬ (s.size : Int) ≤ (65536 : Int) := by omega
    have HE : Hid (2 = askC n s) := Lib.hid (by rw [askC, if_pos h1])
    rw [if_pos h1] at HC
    go_enter Tryz.func35, Tryz.ntmps35
    go_wp2_with fail
    refine (HC.out _).mono ?_
    rintro e w1 ⟨rfl, rfl⟩
    go_wp2
    go_ret
    exact ⟨ret_int HE.out, rfl⟩
  have h1' : (s.size : Int) ≤ (65536 : Int) := by omega
  rw [if_neg h1] at HC
  cases hn : proB n
  · have HE : Hid (5 = askC n s) := Lib.hid (by rw [askC, if_neg h1, hn]; rfl)
    rw [hn] at HN
    go_enter Tryz.func35, Tryz.ntmps35
    go_wp2_with fail
    refine (HN.out _).mono ?_
    rintro e w1 ⟨rfl, rfl⟩
    go_wp2
    go_ret
    exact ⟨ret_int HE.out, rfl⟩
  rw [hn] at HN
  have HE : Hid ((if 4096 < s.size then 8 else 0) = askC n s) := Lib.hid (by rw [askC, if_neg h1, hn, if_pos rfl])
  generalize (if 4096 < s.size then (8 : Int) else 0) = c at *
  go_enter Tryz.func35, Tryz.ntmps35
  go_wp2_with fail
  refine (HN.out _).mono ?_
  rintro e w1 ⟨rfl, rfl⟩
  go_wp2_with fail
  refine (HC.out _).mono ?_
  rintro e w2 ⟨rfl, rfl⟩
  go_wp2
  go_ret
  exact ⟨ret_int HE.out, rfl⟩

set_option maxHeartbeats 1000000 in
theorem impl_endCode (n : Int) (x : St) (m l : Value) (b : Nat) (w : World) (h : RdAt w b n m x l) (hx : stOKB x = true) : Calls Tryz.prog 74 #[.pointer (some ⟨b, 0, none⟩)] w fun e w' => e = .returned (.int .i64 (endC n x)) ∧ ∃ q, w' = w.drewN q := by
  have HP := Lib.hid (fun w h => impl_pendingR (κ := ⟨n, m, l⟩) x b w h)
  rw [pend_eq hx] at HP
  have HA := Lib.hid (fun q => impl_atRestR n x m l b (w.drewN q) (show RdAt (w.drewN q) b n m x l from h) hx)
  have HM := Lib.hid h
  have HE : Hid (endC n x = if pendB x = true then 13 else if restB n x = true then 0 else 14) := Lib.hid rfl
  clear h hx
  cases hp : pendB x
  · rw [hp] at HP HE
    cases hr : restB n x
    · have HE2 : Hid (14 = endC n x) := Lib.hid (by rw [HE.out, hr]; rfl)
      rw [hr] at HA
      go_enter Tryz.func74, Tryz.ntmps74
      go_wp2_with fail
      refine (HP.out _ HM.out).mono ?_
      rintro e w1 ⟨rfl, rfl⟩
      go_wp2_with fail
      go_quiet ((go_at_call 117; exact Calls.quiet_of_same ((HA.out _).mono fun _ _ ⟨he, hw⟩ => ⟨he, hw.symm⟩)))
      go_wp2
      go_ret
      exact ⟨ret_int HE2.out, _, rfl⟩
    · have HE2 : Hid (0 = endC n x) := Lib.hid (by rw [HE.out, hr]; rfl)
      rw [hr] at HA
      go_enter Tryz.func74, Tryz.ntmps74
      go_wp2_with fail
      refine (HP.out _ HM.out).mono ?_
      rintro e w1 ⟨rfl, rfl⟩
      go_wp2_with fail
      go_quiet ((go_at_call 117; exact Calls.quiet_of_same ((HA.out _).mono fun _ _ ⟨he, hw⟩ => ⟨he, hw.symm⟩)))
      go_wp2
      go_ret
      exact ⟨ret_int HE2.out, _, rfl⟩
  · have HE2 : Hid (13 = endC n x) := Lib.hid (by rw [HE.out, hp]; rfl)
    rw [hp] at HP
    go_enter Tryz.func74, Tryz.ntmps74
    go_wp2_with fail
    refine (HP.out _ HM.out).mono ?_
    rintro e w1 ⟨rfl, rfl⟩
    go_wp2
    go_ret
    exact ⟨ret_int HE2.out, 0, rfl⟩

set_option maxHeartbeats 1000000 in
set_option maxRecDepth 100000 in
theorem impl_startLine (n : Int) (x : St) (m l : Value) (b : Nat) (w : World) (h : RdAt w b n m x l) : Calls Tryz.prog 81 #[.pointer (some ⟨b, 0, none⟩)] w fun e w' => e = .returned (.tuple #[]) ∧ RdAt w' b n m (anewX n x) l ∧ Only b w w' := by
  have HS := Lib.hid (fun w => impl_startOf n w)
  have HF := Lib.hid (fun y w => impl_machineOf y w)
  unfold StDone stV at HS HF
  have HM := Lib.hid h
  have HC1 := Lib.hid (fun h => anewX_clear (n := n) (x := x) h)
  have HC2 := Lib.hid (fun h => anewX_keep (n := n) (x := x) h)
  have ⟨c0, c1, c2, c3, c4, c5, c6, c7, c8, c9⟩ := grt_cells h.gr
  have ⟨y0, y1, y2, y3, y4, y5, y6⟩ := h.mr.cells
  have hl : b < w.heap.size := h.lt
  clear h c1 c2 c3 c4 c5 c6 c7 c9 y4 y5 y6
  go_enter Tryz.func81, Tryz.ntmps81
  go_wp2_with fail
  refine (HS.out _).mono ?_
  have F0 : Hid ((w.alloc (.cells #[.int .i64 x.g0, .int .i64 x.g1, .int .i64 x.g2, .int .i64 x.g3] 65)).heap[w.heap.size]? = some (.cells #[.int .i64 x.g0, .int .i64 x.g1, .int .i64 x.g2, .int .i64 x.g3] 65)) := Lib.hid (heap_alloc_new _ _)
  have M0 := Lib.hid (HM.out.keep (below_one w (.cells #[.int .i64 x.g0, .int .i64 x.g1, .int .i64 x.g2, .int .i64 x.g3] 65)))
  have O0 := Lib.hid (only_below hl (below_one w (.cells #[.int .i64 x.g0, .int .i64 x.g1, .int .i64 x.g2, .int .i64 x.g3] 65)))
  clear c0 c8 y0 y1 y2 y3 HM
  generalize w.alloc (.cells #[.int .i64 x.g0, .int .i64 x.g1, .int .i64 x.g2, .int .i64 x.g3] 65) = W0 at *
  rintro e w1 ⟨rfl, b1⟩
  go_wp2_with fail
  refine (HF.out (startP n) _).mono ?_
  rintro e w2 ⟨rfl, b2⟩
  have b12 := b1.trans (b2.mono b1.size)
  have F2 := Lib.hid ((b12.block _ (Array.getElem?_eq_some_iff.1 F0.out).1).trans F0.out)
  have M2 := Lib.hid (M0.out.keep b12)
  have O2 := Lib.hid (O0.out.trans (only_below M0.out.lt b12))
  clear b1 b2 b12 F0 M0 O0
  have M3 := Lib.hid (putR_row M2.out (startP n))
  have O3 := Lib.hid (O2.out.trans (only_putStR b w2 (startP n)))
  have ⟨r0, r1, r2, r3, r4, r5, r6⟩ := M2.out.mr.cells
  have ⟨z0, z1, z2, z3, z4, z5, z6⟩ := M2.out.mr.thaw
  have ⟨_, _, _, _, _, _, _, _, c8, _⟩ := grt_cells M2.out.gr
  have hl2 : b < w2.heap.size := M2.out.lt
  generalize startP n = y at *
  cases hc : prClear n
  · have HE := Lib.hid (HC2.out hc)
    rw [hc] at c8
    have hlw : b ≠ w.heap.size := by omega
    have F3 : Hid ((putStR w2 b y).heap[w.heap.size]? = some (.cells #[.int .i64 x.g0, .int .i64 x.g1, .int .i64 x.g2, .int .i64 x.g3] 65)) := Lib.hid ((((only_putStR b w2 y).2 _ (fun e => hlw e.symm) (Array.getElem?_eq_some_iff.1 F2.out).1)).trans F2.out)
    go_wp2
    clear r0 r1 r2 r3 r4 r5 r6 z0 z1 z2 z3 z4 z5 z6 c8
    refine still_tail_w 6 ((putStR w2 b y).drewN 1) (by unfold putStR; rfl) (by kernel_rfl) (by kernel_rfl) ?_
    generalize putStR w2 b y = WP at *
    have M4 : Hid (RdAt (WP.drewN 1) b n m y l) := Lib.hid M3.out
    have F4 : Hid ((WP.drewN 1).heap[w.heap.size]? = some (.cells #[.int .i64 x.g0, .int .i64 x.g1, .int .i64 x.g2, .int .i64 x.g3] 65)) := Lib.hid F3.out
    have O4 : Hid (Only b w (WP.drewN 1)) := Lib.hid (O3.out.drewN 1)
    clear F2 F3 M2 M3 O2 O3
    generalize WP.drewN 1 = W3 at *
    have hcp : ∀ ty, (Builtin.copy_ #[22, 22] ty #[.slice (some ⟨b, 11, none⟩) 3 3, .slice (some ⟨w.heap.size, 1, none⟩) 3 3]).run Tryz.prog W3 = .ok (goInt 3) (((W3.setCell ⟨b, 11, none⟩ (.int .i64 x.g1)).setCell ⟨b, 12, none⟩ (.int .i64 x.g2)).setCell ⟨b, 13, none⟩ (.int .i64 x.g3)) := fun ty =>
      run_copy_cells W3 22 22 ty 3 b 11 3 3 ⟨w.heap.size, 1, none⟩ 3 3 [.int .i64 x.g1, .int .i64 x.g2, .int .i64 x.g3] Tryz.underlying22 (by kernel_rfl) rfl
        (by
          intro j v hj
          match j with
          | 0 => cases hj; rw [show (⟨w.heap.size, 1, none⟩ : Addr).add 0 = ⟨w.heap.size, 1, none⟩ from rfl, cell_of_row _ _ _ _ _ _ F4.out]; rfl
          | 1 => cases hj; rw [show (⟨w.heap.size, 1, none⟩ : Addr).add 1 = ⟨w.heap.size, 2, none⟩ from rfl, cell_of_row _ _ _ _ _ _ F4.out]; rfl
          | 2 => cases hj; rw [show (⟨w.heap.size, 1, none⟩ : Addr).add 2 = ⟨w.heap.size, 3, none⟩ from rfl, cell_of_row _ _ _ _ _ _ F4.out]; rfl
          | j + 3 => cases hj)
        (by
          have ⟨_, q1, q2, q3, _, _, _⟩ := M4.out.mr.cells
          intro j hj
          match j with
          | 0 => rw [q1]; rfl
          | 1 => rw [q2]; rfl
          | 2 => rw [q3]; rfl
          | j + 3 => exact absurd hj (by simp only [List.length_cons, List.length_nil]; omega))
        (by
          have ⟨_, q1, q2, q3, _, _, _⟩ := M4.out.mr.thaw
          intro j hj
          match j with
          | 0 => exact q1
          | 1 => exact q2
          | 2 => exact q3
          | j + 3 => exact absurd hj (by simp only [List.length_cons, List.length_nil]; omega))
        (by intro v hv; simp only [List.mem_cons, List.not_mem_nil, or_false] at hv; rcases hv with rfl | rfl | rfl <;> rfl)
    have M5 : Hid (RdAt (((W3.setCell ⟨b, 11, none⟩ (.int .i64 x.g1)).setCell ⟨b, 12, none⟩ (.int .i64 x.g2)).setCell ⟨b, 13, none⟩ (.int .i64 x.g3)) b n m ⟨y.g0, x.g1, x.g2, x.g3, y.l, y.s, y.d⟩ l) := Lib.hid (heap_setCell_same _ _ 13 _ _ (.int .i64 x.g3) (heap_setCell_same _ _ 12 _ _ (.int .i64 x.g2) (heap_setCell_same _ _ 11 _ _ (.int .i64 x.g1) M4.out)))
    have O5 : Hid (Only b w (((W3.setCell ⟨b, 11, none⟩ (.int .i64 x.g1)).setCell ⟨b, 12, none⟩ (.int .i64 x.g2)).setCell ⟨b, 13, none⟩ (.int .i64 x.g3))) := Lib.hid (((O4.out.trans (Only.set b 11 _ _)).trans (Only.set b 12 _ _)).trans (Only.set b 13 _ _))
    simp only [List.take_succ_cons, List.take_zero, List.drop_succ_cons, List.drop_zero]
    repeat still_step
    refine wpStill_nil ?_
    go_wp2
    go_end0
    exact ⟨rfl, by rw [HE.out]; exact M5.out, O5.out⟩
  · have HE := Lib.hid (HC1.out hc)
    rw [hc] at c8
    go_wp2
    go_end0
    exact ⟨rfl, by rw [HE.out]; exact M3.out, O3.out⟩

end Go.Proofs.YtbamjhldebobhaaGreatDoor

namespace Go.Proofs.YtbamjhldebobhaaGreatDoor
open Go Go.RowKit

variable {P : Program}

/-- A walk in a frame of the function f. -/
def wpF (f : FuncId) (P : Program) (c : Code) (Q : Exit → Act → World → Prop) (a : Act) (w : World) : Prop :=
  ∀ (b : Frame) (k : List Item) (cs : List Frame), b.roundOf = none → b.fn = f →
    ∃ e a' w', Q e a' w' ∧ ArrivesIn (Machine.fenced P Fence.wide) P (lone (b.atR a (.code c :: k)) cs w) b k cs e a' w'

theorem wpF_of_wp {f : FuncId} {c : Code} {Q : Exit → Act → World → Prop} {a : Act} {w : World} (h : c.wp P Q a w) : wpF f P c Q a w :=
  fun b k cs hro _ => (wpIn_wide (n := 0)).2 h b k cs hro trivial (room_wide _)

theorem wpF_seq {f : FuncId} {x y : Code} {Q : Exit → Act → World → Prop} {a : Act} {w : World} (h : wpF f P x (Exit.then (wpF f P y Q) Q) a w) : wpF f P (Code.seq x y) Q a w := by
  intro b k cs hro hb
  have h0 : (lone (b.atR a (.code (.seq x y) :: k)) cs w).fenced P Fence.wide := fenced_wide _ _
  obtain ⟨e, a₁, w₁, hq, harr⟩ := h b (.code y :: k) cs hro hb
  cases e with
  | normal =>
    obtain ⟨e₂, a₂, w₂, hq₂, harr₂⟩ := hq b k cs hro hb
    exact ⟨e₂, a₂, w₂, hq₂, .of_steps (.head h0 stepR_seq harr) harr₂⟩
  | exit id => exact ⟨_, a₁, w₁, hq, .of_steps (.one h0 stepR_seq) (.pass (x := .code y) rfl (fun _ _ => .inl (by simp)) harr)⟩
  | goto l => exact ⟨_, a₁, w₁, hq, .of_steps (.one h0 stepR_seq) (.pass (x := .code y) rfl (fun _ _ => .inl (by simp)) harr)⟩
  | ret => exact ⟨_, a₁, w₁, hq, .of_steps (.one h0 stepR_seq) (.pass (x := .code y) rfl (fun _ _ => .inl (by simp)) harr)⟩
  | panic ch => exact ⟨_, a₁, w₁, hq, .of_steps (.one h0 stepR_seq) (.pass (x := .code y) rfl (fun _ _ => .inl (by simp)) harr)⟩
  | outgrown => exact ⟨_, a₁, w₁, hq, .of_steps (.one h0 stepR_seq) (.pass (x := .code y) rfl (fun _ _ => .inl (by simp)) harr)⟩

/-- A block that nothing leaves by its own exit. -/
theorem wpF_block {f : FuncId} {id : Nat} {c : Code} {Q : Exit → Act → World → Prop} {a : Act} {w : World} (h : wpF f P c (Exit.inBlock id Q) a w) : wpF f P (Code.block id c) Q a w := by
  intro b k cs hro hb
  have h0 : (lone (b.atR a (.code (.block id c) :: k)) cs w).fenced P Fence.wide := fenced_wide _ _
  obtain ⟨e, a₁, w₁, hq, harr⟩ := h b (.inBlock id :: k) cs hro hb
  cases e with
  | normal => exact ⟨.normal, a₁, w₁, hq, .head h0 stepR_block (StepsIn.trans harr (.one (fenced_wide _ _) stepR_inBlock))⟩
  | exit id' =>
    by_cases hid : id' = id
    · simp only [Exit.inBlock, hid, if_true] at hq
      exact ⟨.normal, a₁, w₁, hq, .head h0 stepR_block (harr.1 k (by simp [exitTo, hid]))⟩
    · simp only [Exit.inBlock, hid, if_false] at hq
      have this : (id == id') = false := by simp; exact fun h => hid h.symm
      have hx : exitTo id' (.inBlock id :: k) = exitTo id' k := by simp [exitTo, this]
      exact ⟨.exit id', a₁, w₁, hq, fun k' hk => .head h0 stepR_block (harr.1 k' (by rw [hx]; exact hk)),
        fun hr' hk => let ⟨k₁, h1, h2⟩ := harr.2 hr' (by rw [hx]; exact hk); ⟨k₁, h1, .head h0 stepR_block h2⟩⟩
  | goto l =>
    have hx : gotoIn l (.inBlock id :: k) = gotoIn l k := by simp [gotoIn]
    exact ⟨.goto l, a₁, w₁, hq, fun k' hk => .head h0 stepR_block (harr.1 k' (by rw [hx]; exact hk)),
      fun hr' hk => let ⟨k₁, h1, h2⟩ := harr.2 hr' (by rw [hx]; exact hk); ⟨k₁, h1, .head h0 stepR_block h2⟩⟩
  | ret => exact ⟨.ret, a₁, w₁, hq, fun hr => let ⟨todo, hs⟩ := harr.1 hr; ⟨todo, .head h0 stepR_block hs⟩, fun hr => let ⟨k₁, hs⟩ := harr.2 hr; ⟨k₁, .head h0 stepR_block hs⟩⟩
  | panic ch =>
    obtain ⟨todo, hs⟩ := harr
    exact ⟨.panic ch, a₁, w₁, hq, todo, .head h0 stepR_block hs⟩
  | outgrown => exact ⟨.outgrown, a₁, w₁, hq, harr.imp (fun h => h) (Outgrown.of_steps (.one stepR_block))⟩

/-- A function's contract from such a walk of its body. -/
theorem calls_of_wpF {f : FuncId} {fn : Func} {c : Code} {args : Array Value} {w : World} {R : Ending → World → Prop}
    (hf : P.funcs[f]? = some fn) (hb : fn.body = some c)
    (h : wpF f P c (bodyPostM Fence.wide 0 P fn R) { tmps := args ++ Array.replicate (fn.ntmps - args.size) undef, defers := [] } w) : Calls P f args w R := by
  refine (callsIn_wide (n := 0)).1 ⟨trivial, fun cs hr => ?_⟩
  let b : Frame := { (default : Frame) with fn := f, kind := .normal, roundOf := none }
  have henter : Frame.enter P f args .normal =
      b.atR { tmps := args ++ Array.replicate (fn.ntmps - args.size) undef, defers := [] } [.code c] := by
    simp [Frame.enter, Frame.atR, hf, hb, b]
  obtain ⟨e, a', w', hq, harr⟩ := h b [] cs rfl rfl
  rw [← henter] at harr
  cases e with
  | normal =>
    obtain ⟨e', w'', fr', hR, hs, hfn, hl⟩ := leaves_stepsInM a'.defers .returning w' { b.atR a' [] with mode := .returning } cs rfl rfl rfl hf rfl trivial hr hq
    exact ⟨e', w'', fr', hR, ComesIn.of_steps (StepsIn.trans harr (.one (fenced_wide _ _) (stepR_end rfl))) hs, hfn, hl⟩
  | ret =>
    obtain ⟨todo, hs₀⟩ := harr.1 rfl
    obtain ⟨e', w'', fr', hR, hs, hfn, hl⟩ := leaves_stepsInM a'.defers .returning w' { b.atR a' todo with mode := .returning } cs rfl rfl rfl hf rfl trivial hr hq
    exact ⟨e', w'', fr', hR, ComesIn.of_steps hs₀ hs, hfn, hl⟩
  | panic chain =>
    obtain ⟨todo, hs₀⟩ := harr
    obtain ⟨e', w'', fr', hR, hs, hfn, hl⟩ := leaves_stepsInM a'.defers (.panicking chain) w' { b.atR a' todo with mode := .panicking chain } cs rfl rfl rfl hf rfl trivial hr hq
    exact ⟨e', w'', fr', hR, ComesIn.of_steps hs₀ hs, hfn, hl⟩
  | exit id => exact hq.elim
  | goto l => exact hq.elim
  | outgrown => exact ⟨.outgrown, w', b, hq, harr.resolve_left (by simp [b]), rfl, trivial⟩

/-! ### One round -/

/-- How a round's body may be left: off its end, or by a panic. -/
def roundPostP (P : Program) (l : Nat) (R : Ending → World → Prop) : Exit → Act → World → Prop
  | .normal, _, w => ∃ v w', (Instr.endRound l none).run P w = .ok v w' ∧ R (.returned v) w'
  | .panic ch, a, w => a.defers = [] ∧ R (.panicked ch) w
  | _, _, _ => False

theorem roundIn_of_wpP {l : Nat} {f : FuncId} {fn : Func} (hf : P.funcs[f]? = some fn) {tmps : Array Value} {assign body : Code} {w : World} {R : Ending → World → Prop}
    (h : assign.wpIn (Fence.wide.inRound l) 0 P (Exit.then (fun a₁ w₁ => ∃ w₂, (Instr.beginRound l).run P w₁ = .ok () w₂ ∧ body.wpIn (Fence.wide.inRound l) 0 P (roundPostP P l R) a₁ w₂) (fun _ _ _ => False))
      { tmps := tmps, defers := [] } w) :
    RoundIn Fence.wide 0 P l f tmps assign body w R := by
  refine ⟨trivial, fun c cs hr => ?_⟩
  let b : Frame := { (default : Frame) with fn := f, kind := .normal, roundOf := some l }
  have hb0 : Frame.round l f tmps assign body .normal = b.atR { tmps := tmps, defers := [] } [.code assign, .beginRound, .code body] := by
    simp [Frame.round, Frame.atR, b]
  have hr' : (Fence.wide.inRound l).room ((c :: cs).length + 1 + 0) := hr
  have hF' : (Fence.wide.inRound l).fn b.fn := trivial
  obtain ⟨e, a₁, w₁, hq, harr⟩ := h b [.beginRound, .code body] (c :: cs) rfl hF' hr'
  rw [← hb0] at harr
  cases e with
  | normal =>
    obtain ⟨w₂, hbr, hbody⟩ := hq
    have s1 : StepsIn (Machine.fenced P (Fence.wide.inRound l)) P (lone (b.atR a₁ [.beginRound, .code body]) (c :: cs) w₁) (lone (b.atR a₁ [.code body]) (c :: cs) w₂) :=
      .one (fenced_calm (fr := b.atR a₁ [.beginRound, .code body]) hF' hr' rfl) (stepR_beginRound rfl hbr)
    obtain ⟨e₂, a₂, w₃, hq₂, harr₂⟩ := hbody b [] (c :: cs) rfl hF' hr'
    cases e₂ with
    | normal =>
      obtain ⟨v, w₄, hend, hR⟩ := hq₂
      exact ⟨.returned v, w₄, hR, (StepsIn.trans harr s1).trans (StepsIn.trans harr₂ (.one (fenced_calm (fr := b.atR a₂ []) hF' hr' rfl) (stepR_round_end rfl rfl hend)))⟩
    | panic chain =>
      obtain ⟨hd, hR⟩ := hq₂
      obtain ⟨todo, hs⟩ := harr₂
      refine ⟨.panicked chain, w₃, hR, (StepsIn.trans harr s1).trans (StepsIn.trans hs (.one (fenced_wide _ _) ?_))⟩
      exact step_leave_panicked ⟨rfl, hd, fn, hf⟩
    | ret => exact hq₂.elim
    | exit id => exact hq₂.elim
    | goto t => exact hq₂.elim
    | outgrown => exact hq₂.elim
  | exit id => exact hq.elim
  | goto t => exact hq.elim
  | ret => exact hq.elim
  | panic chain => exact hq.elim
  | outgrown => exact hq.elim

end Go.Proofs.YtbamjhldebobhaaGreatDoor

namespace Go.Proofs.YtbamjhldebobhaaGreatDoor
open Go Go.RowKit

variable {P : Program}

/-- The record of a loop, or its block of deferred calls. -/
def isLoop : Obj → Bool
  | .loop _ => true
  | .deferred _ => true
  | _ => false
/-- All but the records of loops from block N on lies as it lay. -/
structure Gr (N : Nat) (A B : World) : Prop where
  os : B.os = A.os
  tape : B.tape = A.tape
  output : B.output = A.output
  size : A.heap.size ≤ B.heap.size
  block : ∀ (g : Nat) (o : Obj), A.heap[g]? = some o → (isLoop o = false ∨ g < N) → B.heap[g]? = some o
theorem Gr.refl (N : Nat) (A : World) : Gr N A A := ⟨rfl, rfl, rfl, Nat.le_refl _, fun _ _ h _ => h⟩
theorem Gr.trans {N : Nat} {A B C : World} (h : Gr N A B) (k : Gr N B C) : Gr N A C := ⟨k.os.trans h.os, k.tape.trans h.tape, k.output.trans h.output, Nat.le_trans h.size k.size, fun g o hg ho => k.block g o (h.block g o hg ho) ho⟩
theorem Gr.below {N : Nat} {A B : World} (h : Below A.heap.size A B) : Gr N A B := ⟨h.os, h.tape, h.output, h.size, fun g _ hg _ => (h.block g (Array.getElem?_eq_some_iff.1 hg).1).trans hg⟩
theorem Gr.put {N : Nat} {A : World} {l : Nat} {ol : Obj} (hN : N ≤ l) (h : A.heap[l]? = some ol) (o' : Obj) (hol : isLoop ol = true := by rfl) : Gr N A (A.putObj l o') := by
  refine ⟨rfl, rfl, rfl, by simp [World.putObj], fun g o hg ho => ?_⟩
  have hne : g ≠ l := fun e => by
    subst e
    rw [h] at hg
    cases hg
    rcases ho with ho | ho
    · rw [hol] at ho; cases ho
    · omega
  exact (World.putObj_heap_other hne).trans hg
/-- What was made from N on lies as it lay. -/
def Kept (N : Nat) (B B' : World) : Prop := B.heap.size ≤ B'.heap.size ∧ ∀ (g : Nat) (o : Obj), N ≤ g → B.heap[g]? = some o → B'.heap[g]? = some o
theorem Kept.trans {N : Nat} {A B C : World} (h : Kept N A B) (k : Kept N B C) : Kept N A C := ⟨Nat.le_trans h.1 k.1, fun g o hN hg => k.2 g o hN (h.2 g o hN hg)⟩
/-- The records of loops and the blocks of deferred calls lie as they lay. -/
def KeptL (B B' : World) : Prop := ∀ (g : Nat) (o : Obj), B.heap[g]? = some o → o.isCells = false → (isLoop o = true ∨ ∃ d, o = .deferred d) → B'.heap[g]? = some o
theorem KeptL.trans {A B C : World} (h : KeptL A B) (k : KeptL B C) : KeptL A C := fun g o hg hc hd => k g o (h g o hg hc hd) hc hd

/-- The word of an iterator over N values. -/
def SeqIdx (P : Program) (gf : Nat) (lb : Array Value) (enc : Nat → Array Value) (nx : Nat → Nat) (N : Nat) (w : World) (Bt : Nat) : Prop :=
  ∀ (l : Nat) (J : Nat → World → Prop) (Jp : List PanicEntry → World → Prop) (W : World),
    (∀ k A B, J k A → Below A.heap.size A B → J k B) →
    (∀ k A, J k A → A.heap[Bt]? = w.heap[Bt]?) →
    (∀ k A B, k < N → J k A → Below A.heap.size A B → YieldAt Fence.wide 0 P l (enc k) B fun e B' =>
      (e = .returned (.bool true) ∧ J (nx k) B' ∧ Kept A.heap.size B B') ∨ (∃ ch, e = .panicked ch ∧ Jp ch B')) →
    J 0 W →
    CallsIn Fence.wide 0 P gf (#[.func (.yield l) #[] #[]] ++ lb) W fun e W' => (∃ v, e = .returned v ∧ J N W') ∨ (∃ ch, e = .panicked ch ∧ Jp ch W')

/-- How the body of a round may be left. -/
def bodyPostR (I : Nat → World → Prop) (Ip : List PanicEntry → World → Prop) (k N : Nat) (W : World) : Exit → Act → World → Prop
  | .normal, _, W' => I k W' ∧ Kept N W W' ∧ KeptL W W'
  | .panic ch, a, W' => a.defers = [] ∧ Ip ch W' ∧ KeptL W W'
  | _, _, _ => False

/-- **The law.** -/
theorem wpF_rangeFunc {f : FuncId} {fn : Func} (hf : P.funcs[f]? = some fn) {g : Operand} {ps : Array Tmp} {assign body : Code} {Q : Exit → Act → World → Prop} {a : Act} {w : World}
    {gf : Nat} {lb : Array Value} (hg : a.eval g = .func (.func gf) #[] lb) (eg : ∀ args w, (callFunc gf args).run P w = .ok (.enter gf args) w)
    {enc : Nat → Array Value} {nx : Nat → Nat} {N : Nat} (hps : ∀ k, (enc k).size = ps.size) {Bt : Nat} (hseq : SeqIdx P gf lb enc nx N w Bt)
    (I : Nat → World → Prop) (Ip : List PanicEntry → World → Prop) (Ax : Nat → Act → World → Prop)
    (hI : ∀ k A B, I k A → Gr w.heap.size A B → I k B) (hAx : ∀ k a A B, Ax k a A → Gr w.heap.size A B → Ax k a B) (hIw : ∀ k A, I k A → A.heap[Bt]? = w.heap[Bt]?) (h0 : I 0 w)
    (hassign : ∀ (l k : Nat) (W : World) (K : Act → World → Prop), k < N → (∀ a₁ W₁, Below W.heap.size W W₁ → Ax k a₁ W₁ → K a₁ W₁) →
      assign.wpIn (Fence.wide.inRound l) 0 P (Exit.then K (fun _ _ _ => False)) { tmps := (ps.zip (enc k)).foldl (fun t (p, v) => t.setIfInBounds p v) a.tmps, defers := [] } W)
    (hbody : ∀ (l k : Nat) (a₁ : Act) (A W : World), k < N → I k A → Gr w.heap.size A W → Ax k a₁ W → body.wpIn (Fence.wide.inRound l) 0 P (bodyPostR I Ip (nx k) A.heap.size W) a₁ W)
    (hdone : ∀ (D : Nat) (W : World), w.heap.size ≤ D → I N W → W.heap[D]? = some (.deferred (some [])) → Q .normal { a with defers := { target := .collected D, args := #[] } :: a.defers } W)
    (hpanic : ∀ (D : Nat) (ch : List PanicEntry) (W : World), w.heap.size ≤ D → Ip ch W → W.heap[D]? = some (.deferred (some [])) → Q (.panic ch) { a with defers := { target := .collected D, args := #[] } :: a.defers } W) :
    wpF f P (Code.rangeFunc g ps assign body) Q a w := by
  intro b k cs hro hb
  obtain ⟨rec, hrec⟩ : ∃ rec : LoopState → Option Code → Loop, rec = fun st pe => { state := st, pending := pe, fn := f, tmps := a.tmps, params := ps, assign, body, defers := w.heap.size } := ⟨_, rfl⟩
  obtain ⟨W1, hW1⟩ : ∃ W1, (w.alloc (.deferred (some []))).alloc (.loop (rec .ready none)) = W1 := ⟨_, rfl⟩
  have hL1 : W1.heap[w.heap.size + 1]? = some (.loop (rec .ready none)) := by
    rw [← hW1]; have := World.alloc_heap_new (w.alloc (.deferred (some []))) (.loop (rec .ready none)); rwa [World.size_alloc] at this
  have hK1 : W1.heap[w.heap.size]? = some (.deferred (some [])) := by
    rw [← hW1]; exact (Below.heap_alloc _ _ _ (by simp)).trans (World.alloc_heap_new w _)
  have hb1 : Below w.heap.size w W1 := by
    rw [← hW1]; exact ((Below.refl _ w).alloc (Nat.le_refl _) _).alloc (by simp) _
  have hI1 : I 0 W1 := hI _ _ _ h0 (Gr.below hb1)
  -- the iterator's call
  have hcall : CallsIn Fence.wide 0 P gf (#[.func (.yield (w.heap.size + 1)) #[] #[]] ++ lb) W1 (fun e W' => (∃ v, e = .returned v ∧ (I N W' ∧ W'.heap[w.heap.size + 1]? = some (.loop (rec .ready none)) ∧ W'.heap[w.heap.size]? = some (.deferred (some [])))) ∨ (∃ ch, e = .panicked ch ∧ (Ip ch W' ∧ W'.heap[w.heap.size]? = some (.deferred (some []))))) := by
    refine hseq (w.heap.size + 1)
      (fun k W => I k W ∧ W.heap[w.heap.size + 1]? = some (.loop (rec .ready none)) ∧ W.heap[w.heap.size]? = some (.deferred (some [])))
      (fun ch W => Ip ch W ∧ W.heap[w.heap.size]? = some (.deferred (some []))) W1 ?_ (fun k A h => hIw k A h.1) ?_ ⟨hI1, hL1, hK1⟩
    · rintro k A B ⟨hi, hl, hd⟩ hB
      exact ⟨hI _ _ _ hi (Gr.below hB), (hB.block _ (Array.getElem?_eq_some_iff.1 hl).1).trans hl, (hB.block _ (Array.getElem?_eq_some_iff.1 hd).1).trans hd⟩
    · rintro k A B hk ⟨hi, hl, hd⟩ hB
      have hl2 : B.heap[w.heap.size + 1]? = some (.loop (rec .ready none)) := (hB.block _ (Array.getElem?_eq_some_iff.1 hl).1).trans hl
      have hd2 : B.heap[w.heap.size]? = some (.deferred (some [])) := (hB.block _ (Array.getElem?_eq_some_iff.1 hd).1).trans hd
      have hlA : w.heap.size + 1 < A.heap.size := (Array.getElem?_eq_some_iff.1 hl).1
      have hy := run_yield (P := P) (args := enc k) hl2 (by rw [hrec]; exact hps k)
      rw [hrec] at hy
      refine ⟨f, _, assign, body, hy, roundIn_of_wpP hf ?_⟩
      refine hassign _ k B _ hk ?_
      intro a₁ B1 hB1 hax
      have hl3 : B1.heap[w.heap.size + 1]? = some (.loop (rec .ready none)) := (hB1.block _ (Array.getElem?_eq_some_iff.1 hl2).1).trans hl2
      have hd3 : B1.heap[w.heap.size]? = some (.deferred (some [])) := (hB1.block _ (Array.getElem?_eq_some_iff.1 hd2).1).trans hd2
      refine ⟨_, run_beginRound hl3 (by rw [hrec]), ?_⟩
      obtain ⟨B2, hB2⟩ : ∃ B2, B1.putObj (w.heap.size + 1) (.loop { rec .ready none with state := .busy }) = B2 := ⟨_, rfl⟩
      have g12 : Gr w.heap.size B1 B2 := by rw [← hB2]; exact Gr.put (by omega) hl3 _
      have hl4 : B2.heap[w.heap.size + 1]? = some (.loop { rec .ready none with state := .busy }) := by rw [← hB2]; exact World.putObj_heap_same (Array.getElem?_eq_some_iff.1 hl3).1
      have hd4 : B2.heap[w.heap.size]? = some (.deferred (some [])) := by rw [← hB2]; exact (World.putObj_heap_other (by omega)).trans hd3
      have k12 : Kept A.heap.size B1 B2 := ⟨g12.size, fun g o hN hg => by rw [← hB2]; exact (World.putObj_heap_other (by omega)).trans hg⟩
      have k01 : Kept A.heap.size B B1 := ⟨hB1.size, fun g o _ hg => (hB1.block g (Array.getElem?_eq_some_iff.1 hg).1).trans hg⟩
      have gAB : Gr w.heap.size A B2 := ((Gr.below hB).trans (Gr.below hB1)).trans g12
      rw [hB2]
      refine wpIn_mono (hbody _ k a₁ A B2 hk hi gAB (hAx _ _ _ _ hax g12)) ?_
      rintro e a3 W3 hp
      cases e with
      | normal =>
        obtain ⟨hi3, hk3, hkl3⟩ := hp
        have hl5 := hkl3 _ _ hl4 rfl (.inl rfl)
        have hd5 := hkl3 _ _ hd4 rfl (.inr ⟨_, rfl⟩)
        have hr := run_endRound (P := P) none hl5
        refine ⟨_, _, hr, .inl ⟨rfl, ⟨hI _ _ _ hi3 (Gr.put (by omega) hl5 _), ?_, ?_⟩, ?_⟩⟩
        · rw [World.putObj_heap_same (Array.getElem?_eq_some_iff.1 hl5).1, hrec]; rfl
        · exact (World.putObj_heap_other (by omega)).trans hd5
        · exact ((k01.trans k12).trans hk3).trans ⟨by simp [World.putObj], fun g o hN hg => (World.putObj_heap_other (by omega)).trans hg⟩
      | panic ch =>
        obtain ⟨hd0, hi3, hkl3⟩ := hp
        exact ⟨hd0, .inr ⟨ch, rfl, hi3, hkl3 _ _ hd4 rfl (.inr ⟨_, rfl⟩)⟩⟩
      | ret => exact hp.elim
      | exit id => exact hp.elim
      | goto t => exact hp.elim
      | outgrown => exact hp.elim
  -- the statement's steps
  have he : (Instr.enterLoop b.fn a.tmps ps assign body b.roundOf).run P w = .ok (w.heap.size + 1, [{ target := .collected w.heap.size, args := #[] }]) W1 := by
    rw [hro, hb, ← hW1, hrec]; exact run_enterLoop_outer _ _ _ _ _
  have hres : (resolve a.eval (rangeCall g (w.heap.size + 1)) 0).run P W1 = .ok { target := .fn (.func gf) lb, args := #[.func (.yield (w.heap.size + 1)) #[] #[]] } W1 := by
    simp only [resolve, hg]
    simp [go_sem]
  have hinv : (invoke (.fn (.func gf) lb) #[.func (.yield (w.heap.size + 1)) #[] #[]]).run P W1 = .ok (.enter gf (#[.func (.yield (w.heap.size + 1)) #[] #[]] ++ lb)) W1 := by
    simp [invoke, go_sem, eg]
  have henter := stepR_rangeFunc (P := P) (b := b) (a := a) (k := k) (cs := cs) (w := w) he hres hinv
  obtain ⟨e, w₃, fr, hR, hsteps, hfn, hleave⟩ := hcall.2 (b.atR { a with defers := [{ target := .collected w.heap.size, args := #[] }] ++ a.defers } (.inRangeFunc (w.heap.size + 1) :: k) :: cs) (room_wide _)
  have h0 : ∀ m : Machine, m.fenced P Fence.wide := fun m => fenced_wide P m
  rcases hR with ⟨v, rfl, hi, hl, hd⟩ | ⟨ch, rfl, hi, hd⟩
  · have hend := run_endLoop (P := P) hl (by rw [hrec]; simp)
    have sback : StepsIn (Machine.fenced P Fence.wide) P (lone (b.atR a (.code (.rangeFunc g ps assign body) :: k)) cs w) (lone (b.atR { a with defers := [{ target := .collected w.heap.size, args := #[] }] ++ a.defers } (((rec .ready none).pending.map Item.code).toList ++ k)) cs (w₃.putObj (w.heap.size + 1) (.loop { rec .ready none with state := .exhausted }))) := by
      refine .head (h0 _) henter (StepsIn.trans hsteps (.head (h0 _) ?_ (.one (h0 _) (stepR_endRangeFunc hend))))
      rw [← finish_atR_inRangeFunc (w.heap.size + 1) v]; exact step_leave_returned hleave
    refine ⟨.normal, _, _, hdone w.heap.size (w₃.putObj (w.heap.size + 1) (.loop { rec .ready none with state := .exhausted })) (Nat.le_refl _) (hI _ _ _ hi (Gr.put (by omega) hl _)) ((World.putObj_heap_other (by omega)).trans hd), ?_⟩
    have hpend : ((rec .ready none).pending.map Item.code).toList ++ k = k := by rw [hrec]; rfl
    rw [hpend] at sback
    exact sback
  · refine ⟨.panic ch, _, w₃, hpanic w.heap.size ch w₃ (Nat.le_refl _) hi hd, .inRangeFunc (w.heap.size + 1) :: k, .head (h0 _) henter (StepsIn.trans hsteps (.one (h0 _) ?_))⟩
    have := step_leave_panicked (P := P) (c := b.atR { a with defers := [{ target := .collected w.heap.size, args := #[] }] ++ a.defers } (.inRangeFunc (w.heap.size + 1) :: k)) (cs := cs) hleave
    rw [Frame.raise_atR] at this
    exact this

end Go.Proofs.YtbamjhldebobhaaGreatDoor

namespace Go.Proofs.YtbamjhldebobhaaGreatDoor
open Go Go.RowKit

variable {P : Program} {ops : Array Oper} {Q : Exit → Act → World → Prop} {md : Region.Mode}

/-- No operation defers. -/
def noDefer (ops : Array Oper) : Bool := ops.all fun o => match o.op with | .defer _ => false | _ => true
theorem noDefer_spec (h : noDefer ops = true) {i : Nat} {o : Oper} (ho : ops[i]? = some o) (c : Call) : o.op ≠ .defer c := by
  have hm : o ∈ ops := Array.mem_of_getElem? ho
  have := Array.all_eq_true_iff_forall_mem.1 h o hm
  intro e
  rw [e] at this
  cases this

theorem opIn_of_op {l : Nat} {o : Oper} {a : Act} {w : World} {K : Act → World → Prop} (hd : ∀ c, o.op ≠ .defer c) (h : o.wp P a w K Q) : o.wpIn (Fence.wide.inRound l) 0 P a w K Q := by
  refine ⟨fun _ _ => trivial, ?_⟩
  rw [Oper.semAt_eq _ _ _ hd]
  unfold Oper.wp at h
  generalize (execOp a.eval o).run P w = r at *
  have hdep : (Fence.wide.inRound l).depth.isSome = true → 1 ≤ 0 := fun h => by simp [Fence.inRound, Fence.wide] at h
  cases r with
  | ok x w' =>
    cases x with
    | enter f args => exact ⟨hdep, CallsIn.inRound l (callsIn_wide.2 h)⟩
    | row r args => exact ⟨hdep, fun c cs _ => let ⟨v, w', hv, hs⟩ := h c cs; ⟨v, w', hv, stepsIn_wide.2 hs⟩⟩
    | value v => exact h
    | skip => exact h
    | defer d => exact h
    | _ => exact h.elim
  | halt x w' => cases x <;> exact h

theorem anyIn_of_any {l : Nat} (hd : noDefer ops = true) (hQ : ¬ LetsOut Q) : ∀ (fuel : Nat) (listed : Array Bool) (a : Act) (w : World), wpAny P md ops Q fuel listed a w → wpAnyIn (Fence.wide.inRound l) 0 P md ops Q fuel listed a w
  | 0, _, _, _, h => h
  | fuel + 1, listed, a, w, h => by
    refine ⟨h.1, fun i hi => ?_⟩
    have h1 := h.2 i hi
    unfold wpOp at h1
    unfold wpOpIn
    cases ho : ops[i]? with
    | none => simp only [ho] at h1 ⊢; exact anyIn_of_any hd hQ fuel _ a w h1
    | some o =>
      simp only [ho] at h1 ⊢
      split
      · rename_i hw
        rw [if_pos hw] at h1
        rcases h1 with h1 | ⟨_, h1⟩
        · exact opIn_of_op (noDefer_spec hd ho) (Oper.wp_mono (fun a' w' h' => anyIn_of_any hd hQ fuel _ a' w' h') h1)
        · exact absurd h1 hQ
      · rename_i hw
        rw [if_neg hw] at h1
        exact ⟨fun _ _ => trivial, anyIn_of_any hd hQ fuel _ _ w h1⟩

theorem region_round_any {l id : Nat} {a : Act} {w : World} (hm : P.follows .mixedOrders = true) (hd : noDefer ops = true) (hQ : ¬ LetsOut Q)
    (h : wpAny P .any ops Q ops.size (Array.replicate ops.size false) a w.drew) : (Code.region id ops true).wpIn (Fence.wide.inRound l) 0 P Q a w :=
  wpIn_region_any hm (anyIn_of_any hd hQ _ _ _ _ h)

theorem region_round_held {S : World → Prop} {l id : Nat} {a : Act} {w : World} (hm : P.follows .mixedOrders = true) (hd : noDefer ops = true) (hQ : ¬ LetsOut Q)
    (h : wpAnyH P .any ops Q S ops.size (Array.replicate ops.size false) a w.drew) : (Code.region id ops true).wpIn (Fence.wide.inRound l) 0 P Q a w :=
  region_round_any hm hd hQ (wpAny_of_held _ _ _ _ h)

theorem listIn_of_list {l : Nat} (hQ : ¬ LetsOut Q) : ∀ (rest : List Oper) (a : Act) (w : World), (∀ o ∈ rest, ∀ c, o.op ≠ .defer c) → wpList P ops Q rest a w → wpListIn (Fence.wide.inRound l) 0 P ops Q rest a w
  | [], _, _, _, h => h
  | o :: rest, a, w, hd, h => by
    unfold wpList at h
    unfold wpListIn
    split
    · rename_i hw
      rw [if_pos hw] at h
      rcases h with h1 | ⟨_, h1⟩
      · exact opIn_of_op (hd o (by simp)) (Oper.wp_mono (fun a' w' h' => listIn_of_list hQ rest a' w' (fun o' ho' => hd o' (by simp [ho'])) h') h1)
      · exact absurd h1 hQ
    · rename_i hw
      rw [if_neg hw] at h
      exact ⟨fun _ _ => trivial, listIn_of_list hQ rest _ w (fun o' ho' => hd o' (by simp [ho'])) h⟩

theorem region_round {l id : Nat} {a : Act} {w : World} {rest : List Oper} (hd : noDefer rest.toArray = true) (hQ : ¬ LetsOut Q)
    (h : wpList P rest.toArray Q rest a w) : (Code.region id rest.toArray false).wpIn (Fence.wide.inRound l) 0 P Q a w :=
  wpIn_region_lit (listIn_of_list hQ rest a w (fun o ho c => by
    obtain ⟨i, hi⟩ := List.getElem?_of_mem ho
    exact noDefer_spec hd (i := i) (by simpa using hi) c) h)

theorem letsOut_then {K : Act → World → Prop} (h : ¬ LetsOut Q) : ¬ LetsOut (Exit.then K Q) := h
theorem letsOut_block {id : Nat} (h : ¬ LetsOut Q) : ¬ LetsOut (Exit.inBlock id Q) := h
theorem letsOut_body (I : Nat → World → Prop) (Ip : List PanicEntry → World → Prop) (k N : Nat) (W : World) : ¬ LetsOut (bodyPostR I Ip k N W) := fun ⟨_, _, h⟩ => h

end Go.Proofs.YtbamjhldebobhaaGreatDoor

namespace Go.Proofs.YtbamjhldebobhaaGreatDoor
open Go.RowKit Go.Sort

/-- Only the blocks b and r may have changed. -/
def Chg (r : Option Nat) (b : Nat) (w w' : World) : Prop := Below b w w' ∧ ∀ g, g ≠ b → r ≠ some g → g < w.heap.size → w'.heap[g]? = w.heap[g]?
theorem Chg.refl (r : Option Nat) (b : Nat) (w : World) : Chg r b w w := ⟨Below.refl _ _, fun _ _ _ _ => rfl⟩
theorem Only.chg {b : Nat} {w w' : World} (h : Only b w w') (r : Option Nat) : Chg r b w w' := ⟨h.1, fun g hg _ hl => h.2 g hg hl⟩
theorem Chg.trans {r r' : Option Nat} {b : Nat} {w w1 w2 : World} (h : Chg r b w w1) (k : Chg r' b w1 w2) (hr : ∀ g, r' = some g → r = some g ∨ w.heap.size ≤ g) : Chg r b w w2 :=
  ⟨h.1.trans k.1, fun g hg hne hl => by
    rw [k.2 g hg (fun e => (hr g e).elim hne (fun h => absurd hl (by omega))) (Nat.lt_of_lt_of_le hl h.1.size), h.2 g hg hne hl]⟩
theorem PlacesAt.moveL {w w' : World} {C mb : Nat} (h : PlacesAt w C mb) (hk : ∀ i o, C ≤ i → w.heap[i]? = some o → isLoop o = false → w'.heap[i]? = some o) : PlacesAt w' C mb := by
  obtain ⟨blk, h1, h2, hC, es, h3, h4⟩ := h
  exact ⟨blk, fun k hk10 => ⟨(h1 k hk10).1, hk _ _ (h1 k hk10).1 (h1 k hk10).2 rfl⟩, h2, hC, es, hk _ _ hC h3 rfl, h4⟩
/-- The places do not lie in block r. -/
def PlFree (w : World) (C mb : Nat) (r : Option Nat) : Prop := ∀ w' : World, (∀ g o, C ≤ g → r ≠ some g → w.heap[g]? = some o → isLoop o = false → w'.heap[g]? = some o) → PlacesAt w' C mb
theorem PlFree.at {w : World} {C mb : Nat} {r : Option Nat} (h : PlFree w C mb r) : PlacesAt w C mb := h w fun _ _ _ _ h _ => h
theorem PlFree.of {w : World} {C T mb : Nat} {r : Option Nat} (h : PlacesAt w T mb) (hC : C ≤ T) (hr : ∀ g, r = some g → g < T) : PlFree w C mb r := fun w' hw =>
  (h.moveL fun i o hi hl ho => hw i o (by omega) (fun e => by have := hr i e; omega) hl ho).low hC
theorem PlFree.chg {w w' : World} {C mb b : Nat} {r r' : Option Nat} (h : PlFree w C mb r) (hc : Chg r b w w') (hb : b < C) (hr : ∀ g, r' = some g → r = some g ∨ w.heap.size ≤ g) : PlFree w' C mb r' := fun w'' hw =>
  h w'' fun g o hC hne hl ho => by
    have hlt := (Array.getElem?_eq_some_iff.1 hl).1
    exact hw g o hC (fun e => (hr g e).elim hne (fun h => absurd hlt (by omega))) ((hc.2 g (by omega) hne hlt).trans hl) ho
theorem PlFree.gr {w w' : World} {N C mb : Nat} {r : Option Nat} (h : PlFree w C mb r) (hg : Gr N w w') : PlFree w' C mb r := fun w'' hw =>
  h w'' fun g o hC hne hl ho => hw g o hC hne (hg.block g o hl (.inl ho)) ho

theorem Own.onlyB {k : IntKind} {e : TypeId} {w w' : World} {B g : Nat} {v : Value} {zs : List Int} (h : Own k e w B v zs) (ho : Only g w w') (hg : g < B) : Own k e w' B v zs :=
  h.blocks fun j hj => ho.2 j (by have := (World.ownsRow.lt h j hj).1; omega) (World.ownsRow.lt h j hj).2

/-- A reading in block b: the profile n, the state x, the list l that holds zs. -/
def RSt (w : World) (b C : Nat) (n : Int) (x : St) (l : Value) (zs : List Int) : Prop := ∃ m, RdAt w b n m x l ∧ (m = .map none ∨ ∃ mb, m = .map (some mb) ∧ PlFree w C mb l.ownBlock) ∧ Own .i64 3 w C l zs
theorem RSt.lt {w : World} {b C : Nat} {n : Int} {x : St} {l : Value} {zs : List Int} (h : RSt w b C n x l zs) : b < w.heap.size := by obtain ⟨m, h1, _⟩ := h; exact h1.lt
theorem RSt.own {w : World} {b C : Nat} {n : Int} {x : St} {l : Value} {zs : List Int} (h : RSt w b C n x l zs) : Own .i64 3 w C l zs := by obtain ⟨m, _, _, h3⟩ := h; exact h3
theorem RSt.only {w w' : World} {b C : Nat} {n : Int} {x y : St} {l : Value} {zs : List Int} (h : RSt w b C n x l zs) (ho : Only b w w') (hb : b < C) (hm : ∀ m, RdAt w b n m x l → RdAt w' b n m y l) : RSt w' b C n y l zs := by
  obtain ⟨m, h1, h2, h3⟩ := h
  refine ⟨m, hm m h1, h2.imp id ?_, h3.onlyB ho hb⟩
  rintro ⟨mb, h4, h5⟩
  exact ⟨mb, h4, h5.chg (ho.chg _) hb fun g e => .inl e⟩
theorem RdAt.map_eq {w : World} {b : Nat} {n : Int} {m m' l : Value} {x : St} (h : RdAt w b n m x l) (h' : RdAt w b n m' x l) : m = m' := by
  have c1 := h.cells.2.2.2.2.2.2.2.2.1
  have c2 := h'.cells.2.2.2.2.2.2.2.2.1
  rw [c1] at c2
  exact Option.some.inj c2
theorem RSt.step {w w' : World} {b C : Nat} {n : Int} {x y : St} {m l : Value} {zs : List Int} (h : RSt w b C n x l zs) (h1 : RdAt w b n m x l) (ho : Only b w w') (hb : b < C) (h2 : RdAt w' b n m y l) : RSt w' b C n y l zs :=
  h.only ho hb fun m' hm' => by rw [← h1.map_eq hm']; exact h2
theorem RSt.keep {w w' : World} {b C : Nat} {n : Int} {x : St} {l : Value} {zs : List Int} (h : RSt w b C n x l zs) (hw : Below w.heap.size w w') (hb : b < C) : RSt w' b C n x l zs :=
  h.only (only_below h.lt hw) hb fun _ hm => hm.keep hw
theorem RdAt.gr' {N : Nat} {w w' : World} {b : Nat} {n : Int} {m l : Value} {x : St} (h : RdAt w b n m x l) (hg : Gr N w w') : RdAt w' b n m x l := hg.block _ _ h (.inl rfl)
theorem Own.gr {k : IntKind} {e : TypeId} {N : Nat} {w w' : World} {B : Nat} {v : Value} {zs : List Int} (h : Own k e w B v zs) (hg : Gr N w w') : Own k e w' B v zs := by
  refine ⟨h.1, ?_⟩
  rcases h.2 with h | ⟨g, cap, cur, a, b, c, d⟩
  · exact .inl h
  · exact .inr ⟨g, cap, cur, a, b, hg.block _ _ c (.inl rfl), d⟩
theorem RSt.gr {N : Nat} {w w' : World} {b C : Nat} {n : Int} {x : St} {l : Value} {zs : List Int} (h : RSt w b C n x l zs) (hg : Gr N w w') : RSt w' b C n x l zs := by
  obtain ⟨m, h1, h2, h3⟩ := h
  refine ⟨m, h1.gr' hg, h2.imp id ?_, h3.gr hg⟩
  rintro ⟨mb, h4, h5⟩
  exact ⟨mb, h4, h5.gr hg⟩
theorem Only.gr {N b : Nat} {w A B : World} (h : Only b w A) (hg : Gr N A B) (hN : w.heap.size ≤ N) (hb : b < w.heap.size) : Only b w B := by
  refine ⟨⟨hg.os.trans h.1.os, hg.tape.trans h.1.tape, hg.output.trans h.1.output, Nat.le_trans h.1.size hg.size, fun k hk => ?_⟩, fun g hgb hl => ?_⟩
  · have hl : k < w.heap.size := by omega
    have hs : w.heap[k]? = some w.heap[k] := Array.getElem?_eq_getElem hl
    rw [hg.block k _ ((h.1.block k hk).trans hs) (.inr (by omega)), hs]
  · have hs : w.heap[g]? = some w.heap[g] := Array.getElem?_eq_getElem hl
    rw [hg.block g _ ((h.2 g hgb hl).trans hs) (.inr (by omega)), hs]
theorem Only.chg_trans {r : Option Nat} {b : Nat} {w A B : World} (h : Only b w A) (k : Chg r b A B) (hr : ∀ g, r = some g → w.heap.size ≤ g) : Only b w B :=
  ⟨h.1.trans k.1, fun g hg hl => by rw [k.2 g hg (fun e => by have := hr g e; omega) (Nat.lt_of_lt_of_le hl h.1.size), h.2 g hg hl]⟩

/-- A list that has grown by an append, stored back. -/
theorem RSt.app {w w4 : World} {b C g cap k : Nat} {n : Int} {x : St} {l : Value} {zs zs' : List Int} (h : RSt w b C n x l zs) (hb : b < C) (ho : Own .i64 3 w4 C (.slice (some ⟨g, 0, none⟩) k cap) zs') (hg : w.grownBy w4 l.ownBlock) (hr : l.ownBlock = some g ∨ g = w.heap.size) :
    RSt (w4.setCell ⟨b, 17, none⟩ (.slice (some ⟨g, 0, none⟩) k cap)) b C n x (.slice (some ⟨g, 0, none⟩) k cap) zs' ∧ Chg l.ownBlock b w (w4.setCell ⟨b, 17, none⟩ (.slice (some ⟨g, 0, none⟩) k cap)) := by
  obtain ⟨m, h1, h2, h3⟩ := h
  have hlow := fun j hj => (World.ownsRow.lt h3 j hj).1
  have hbo : some b ≠ l.ownBlock := fun e => by have := hlow b e.symm; omega
  have h4 : RdAt w4 b n m x l := (hg.block b h1.lt hbo).trans h1
  have hgC : C ≤ g := (World.ownsRow.lt ho g rfl).1
  have c1 : Chg l.ownBlock b w (w4.setCell ⟨b, 17, none⟩ (.slice (some ⟨g, 0, none⟩) k cap)) := by
    refine ⟨((Below.refl b w).grown hg (Nat.le_of_lt h1.lt) (fun j hj => by have := hlow j hj; omega)).setCell (Nat.le_refl _) _, fun j hj hne hl => ?_⟩
    rw [Below.heap_setCell _ _ _ _ (by simpa using hj)]
    exact hg.block j hl (fun e => hne e.symm)
  refine ⟨⟨m, heap_setCell_same _ _ 17 _ _ _ h4, h2.imp id ?_, ?_⟩, c1⟩
  · rintro ⟨mb, h5, h6⟩
    refine ⟨mb, h5, h6.chg c1 hb fun j hj => ?_⟩
    have e : g = j := by simpa [Value.ownBlock] using hj
    subst e
    exact hr.imp id (fun h => by omega)
  · exact ho.blocks fun j hj => Below.heap_setCell _ _ _ _ (by
      have e : g = j := by simpa [Value.ownBlock] using hj
      simp; omega)

/-- 'append(s, x ..)' at a step of a region that draws its order; where the row lies behind it. -/
theorem step_i64x (w : World) {ops : Array Oper} {o : Oper} {a : Act} {L : Act → World → Prop} {Q : Exit → Act → World → Prop} {E : Prop} (hg : o.guard = none) (s x : Operand)
    (hop : o.op = Op.call { callee := Callee.builtin Builtin.append, args := #[s, x], argTypes := #[22, 22] }) (B : Nat) (v : Value) (zs : List Int) (hs : a.eval s = v) (hown : Own .i64 3 w B v zs)
    (b c : Nat) (r : Int) (hx : a.eval x = .slice (some ⟨b, 0, none⟩) 1 c)
    (hc : w.heap[b]? = some (.cells #[.int .i64 r] 3)) (hb : zs.length + 1 ≤ 1099511627776) (hB : B ≤ w.heap.size)
    (K : ∀ g cap w', Own .i64 3 w' B (.slice (some ⟨g, 0, none⟩) (zs.length + 1) cap) (zs ++ [r]) → w.grownBy w' v.ownBlock → (v.ownBlock = some g ∨ g = w.heap.size) → L (a.put o.dst (.slice (some ⟨g, 0, none⟩) (zs.length + 1) cap)) w') :
    if Region.wanted o (yielded ops a.tmps) = true then Oper.wp Tryz.prog o a w L Q else E := by
  obtain ⟨i, h1, h2, h3, h4⟩ := info_i64
  refine step_append_lies w hg s x 22 hop B 3 i (.int .i64 0) 1 8 Tryz.underlying22 h1 h2 h3 h4 rfl (by decide) v _ _ hs hown ⟨b, 0, none⟩ 1 c [.int .i64 r] hx (by simp) (World.news_of_block hc) ?_ (by decide) (by unfold maxLen; omega) (by omega) hB _ rfl ?_
  · intro u hu
    rw [List.mem_singleton] at hu
    rw [hu]
    rfl
  · intro g cap w' h' hg' hgg _
    exact K g cap w' (by unfold Own; rw [List.map_append, List.length_append]; exact h') hg' hgg

theorem app_i64x (w : World) {ops : Array Oper} {rest : List Oper} {o : Oper} {a : Act} {Q : Exit → Act → World → Prop} (hg : o.guard = none) (s x : Operand)
    (hop : o.op = Op.call { callee := Callee.builtin Builtin.append, args := #[s, x], argTypes := #[22, 22] }) (B : Nat) (v : Value) (zs : List Int) (hs : a.eval s = v) (hown : Own .i64 3 w B v zs)
    (b c : Nat) (r : Int) (hx : a.eval x = .slice (some ⟨b, 0, none⟩) 1 c)
    (hc : w.heap[b]? = some (.cells #[.int .i64 r] 3)) (hb : zs.length + 1 ≤ 1099511627776) (hB : B ≤ w.heap.size)
    (K : ∀ g cap w', Own .i64 3 w' B (.slice (some ⟨g, 0, none⟩) (zs.length + 1) cap) (zs ++ [r]) → w.grownBy w' v.ownBlock → (v.ownBlock = some g ∨ g = w.heap.size) → wpList Tryz.prog ops Q rest (a.put o.dst (.slice (some ⟨g, 0, none⟩) (zs.length + 1) cap)) w') : wpList Tryz.prog ops Q (o :: rest) a w := by
  obtain ⟨i, h1, h2, h3, h4⟩ := info_i64
  refine wpList_append_lies w hg s x 22 hop B 3 i (.int .i64 0) 1 8 Tryz.underlying22 h1 h2 h3 h4 rfl (by decide) v _ _ hs hown ⟨b, 0, none⟩ 1 c [.int .i64 r] hx (by simp) (World.news_of_block hc) ?_ (by decide) (by unfold maxLen; omega) (by omega) hB _ rfl ?_
  · intro u hu
    rw [List.mem_singleton] at hu
    rw [hu]
    rfl
  · intro g cap w' h' hg' hgg _
    exact K g cap w' (by unfold Own; rw [List.map_append, List.length_append]; exact h') hg' hgg

set_option maxHeartbeats 1000000 in
theorem impl_gstepS (n : Int) (x : St) (l : Value) (zs : List Int) (t : Tok) (b C : Nat) (w : World) (h : RSt w b C n x l zs) (hbC : b < C) (hC : C ≤ w.heap.size) (ht : ∀ W, Only b w W → TabM W) (hn : proB n = true) (hx : stOKB x = true) (hk : tokLP t) :
    Calls Tryz.prog 121 #[.pointer (some ⟨b, 0, none⟩), .pointer (some ⟨b, 10, none⟩), tokV t] w fun e w' => e = .returned (mvV (stepP n x t)) ∧ RSt w' b C n (stepP n x t).y l zs ∧ Only b w w' := by
  obtain ⟨m, h1, h2, h3⟩ := h
  have hlt := fun g hg => (World.ownsRow.lt h3 g hg).2
  rcases h2 with rfl | ⟨mb, rfl, h4⟩
  · refine (impl_gstepR n x l (.map none) t b w.heap.size w ⟨_, h1, .inl rfl, .inl rfl⟩ h1.lt (Nat.le_refl _) ht hn hx hk).mono ?_
    rintro e w' ⟨he, ⟨m', h5, h6, _⟩, ho⟩
    refine ⟨he, ⟨m', h5, h6.imp id ?_, h3.onlyB ho hbC⟩, ho⟩
    rintro ⟨mb, h7, h8⟩
    exact ⟨mb, h7, PlFree.of h8 hC hlt⟩
  · refine (impl_gstepR n x l (.map (some mb)) t b C w ⟨_, h1, .inr ⟨mb, rfl, h4.at⟩, .inl rfl⟩ hbC hC ht hn hx hk).mono ?_
    rintro e w' ⟨he, ⟨m', h5, h6, hq⟩, ho⟩
    have hm : m' = .map (some mb) := hq.elim id (fun h => by cases h)
    subst hm
    exact ⟨he, ⟨_, h5, .inr ⟨mb, rfl, h4.chg (ho.chg _) hbC fun g e => .inl e⟩, h3.onlyB ho hbC⟩, ho⟩

/-- What a replacement leaves. -/
def RpDone (n : Int) (x : St) (l : Value) (zs : List Int) (t : Tok) (b C : Nat) (w : World) (e : Ending) (w' : World) : Prop := e = .returned (.tuple #[]) ∧ ∃ l', RSt w' b C n (badX n x t) l' (zs ++ badZ t) ∧ Chg l.ownBlock b w w' ∧ ∀ g, l'.ownBlock = some g → l.ownBlock = some g ∨ w.heap.size ≤ g

set_option maxHeartbeats 4000000 in
set_option maxRecDepth 100000 in
theorem impl_replace (n : Int) (x : St) (l : Value) (zs : List Int) (t : Tok) (c : Int) (b C : Nat) (w : World) (h : RSt w b C n x l zs) (hbC : b < C) (hC : C ≤ w.heap.size) (hz : zs.length ≤ 1048576) :
    Calls Tryz.prog 40 #[.pointer (some ⟨b, 0, none⟩), tokV t, .int .i64 c] w (RpDone n x l zs t b C w) := by
  have B0 := Lib.hid (below_one w (.cells #[.int .i64 t.k, .int .i64 t.a, .int .i64 t.b, .int .i64 t.c, .int .i64 t.p, .int .i64 t.n] 102))
  have K0 : Hid (TokAt (w.alloc (.cells #[.int .i64 t.k, .int .i64 t.a, .int .i64 t.b, .int .i64 t.c, .int .i64 t.p, .int .i64 t.n] 102)) w.heap.size t) := Lib.hid (heap_alloc_new _ _)
  have R0 := Lib.hid (h.keep B0.out hbC)
  have hbl : b < w.heap.size := h.lt
  have hLO := Lib.hid (fun g hg => (World.ownsRow.lt h.own g hg))
  have c00 : Hid (Chg l.ownBlock b w (w.alloc (.cells #[.int .i64 t.k, .int .i64 t.a, .int .i64 t.b, .int .i64 t.c, .int .i64 t.p, .int .i64 t.n] 102))) := Lib.hid ((only_below hbl B0.out).chg _)
  obtain ⟨la, lc, hlf, _⟩ := h.own.shape
  have HEn := Lib.hid (fun W => impl_endsLine t W)
  have hs0 : (w.alloc (.cells #[.int .i64 t.k, .int .i64 t.a, .int .i64 t.b, .int .i64 t.c, .int .i64 t.p, .int .i64 t.n] 102)).heap.size = w.heap.size + 1 := by simp
  clear h
  subst hlf
  unfold tokV at HEn ⊢
  have R1 : Hid (RSt ((w.alloc (.cells #[.int .i64 t.k, .int .i64 t.a, .int .i64 t.b, .int .i64 t.c, .int .i64 t.p, .int .i64 t.n] 102)).alloc (.cells #[.int .i64 65533] 3)) b C n x (.slice la zs.length lc) zs) := Lib.hid (R0.out.keep (below_one _ _) hbC)
  have c01 : Hid (Chg (Value.slice la zs.length lc).ownBlock b w ((w.alloc (.cells #[.int .i64 t.k, .int .i64 t.a, .int .i64 t.b, .int .i64 t.c, .int .i64 t.p, .int .i64 t.n] 102)).alloc (.cells #[.int .i64 65533] 3))) := Lib.hid (c00.out.trans ((only_below R0.out.lt (below_one (w.alloc (.cells #[.int .i64 t.k, .int .i64 t.a, .int .i64 t.b, .int .i64 t.c, .int .i64 t.p, .int .i64 t.n] 102)) (.cells #[.int .i64 65533] 3))).chg (Value.slice la zs.length lc).ownBlock) (fun g e => .inl e))
  have HK1 : Hid (TokAt ((w.alloc (.cells #[.int .i64 t.k, .int .i64 t.a, .int .i64 t.b, .int .i64 t.c, .int .i64 t.p, .int .i64 t.n] 102)).alloc (.cells #[.int .i64 65533] 3)) w.heap.size t) := Lib.hid (K0.out.keep (below_one _ _))
  have hs1 : ((w.alloc (.cells #[.int .i64 t.k, .int .i64 t.a, .int .i64 t.b, .int .i64 t.c, .int .i64 t.p, .int .i64 t.n] 102)).alloc (.cells #[.int .i64 65533] 3)).heap.size = w.heap.size + 2 := by simp
  have hL1 : ((w.alloc (.cells #[.int .i64 t.k, .int .i64 t.a, .int .i64 t.b, .int .i64 t.c, .int .i64 t.p, .int .i64 t.n] 102)).alloc (.cells #[.int .i64 65533] 3)).heap[w.heap.size + 1]? = some (.cells #[.int .i64 65533] 3) := heap_alloc2_new _ _ _
  obtain ⟨m, hm, _, _⟩ := R0.out
  have ⟨_, _, _, _, _, _, _, _, _, c17⟩ := hm.cells
  clear hm
  go_enter Tryz.func40, Tryz.ntmps40
  go_wp2_with (at_builtin; refine app_i64x _ rfl _ _ rfl C _ zs rfl R1.out.own (w.heap.size + 1) 1 65533 rfl hL1 (by omega) (by omega) ?_)
  clear c17
  generalize (w.alloc (.cells #[.int .i64 t.k, .int .i64 t.a, .int .i64 t.b, .int .i64 t.c, .int .i64 t.p, .int .i64 t.n] 102)).alloc (.cells #[.int .i64 65533] 3) = W1 at *
  intro g2 cap2 w4 o4 g4 hg4
  have HK4 : Hid (TokAt w4 w.heap.size t) := Lib.hid ((g4.block w.heap.size (by omega) (fun e => by have := (hLO.out _ e.symm).2; omega)).trans HK1.out)
  obtain ⟨RA, cA⟩ := R1.out.app hbC o4 g4 (hg4.imp id (fun h => h.trans hs1.symm))
  have HRA := Lib.hid RA
  have HcA := Lib.hid (c01.out.trans cA (fun g e => .inl e))
  have hg2 : Hid (∀ g, some g2 = some g → (Value.slice la zs.length lc).ownBlock = some g ∨ w.heap.size ≤ g) := Lib.hid (fun g e => by cases e; exact hg4.imp id (fun h => by omega))
  obtain ⟨m4, hm4, _, _⟩ := R1.out
  have hm5 : RdAt w4 b n m4 x (.slice la zs.length lc) := (g4.block b hm4.lt (fun e => by have := (hLO.out b e.symm).1; omega)).trans hm4
  have ⟨_, _, _, _, _, _, _, _, _, d17⟩ := hm5.cells
  have q17 := hm5.frozen 17
  have hl4 := hm5.lt
  have ⟨_, _, _, _, _, y5, y6⟩ := hm5.mr.cells
  have ⟨_, _, _, _, _, z5, z6⟩ := hm5.mr.thaw
  have ⟨t0, t1, t2, t3, t4, t5⟩ := HK4.out.cells
  have hne4 : w.heap.size ≠ b := by omega
  have HK5 : Hid (TokAt (((w4.setCell ⟨b, 17, none⟩ (.slice (some ⟨g2, 0, none⟩) (zs.length + 1) cap2)).setCell ⟨b, 15, none⟩ (.int .i64 0)).setCell ⟨b, 16, none⟩ (.int .i64 0)) w.heap.size t) := Lib.hid (by
    unfold TokAt
    rw [Below.heap_setCell _ _ _ _ (by simpa using hne4), Below.heap_setCell _ _ _ _ (by simpa using hne4), Below.heap_setCell _ _ _ _ (by simpa using hne4)]
    exact HK4.out)
  have O5 : Hid (Only b (w4.setCell ⟨b, 17, none⟩ (.slice (some ⟨g2, 0, none⟩) (zs.length + 1) cap2)) (((w4.setCell ⟨b, 17, none⟩ (.slice (some ⟨g2, 0, none⟩) (zs.length + 1) cap2)).setCell ⟨b, 15, none⟩ (.int .i64 0)).setCell ⟨b, 16, none⟩ (.int .i64 0))) := Lib.hid ((Only.set b 15 _ _).trans (Only.set b 16 _ _))
  have R5 : Hid (RSt (((w4.setCell ⟨b, 17, none⟩ (.slice (some ⟨g2, 0, none⟩) (zs.length + 1) cap2)).setCell ⟨b, 15, none⟩ (.int .i64 0)).setCell ⟨b, 16, none⟩ (.int .i64 0)) b C n ⟨x.g0, x.g1, x.g2, x.g3, x.l, 0, 0⟩ (.slice (some ⟨g2, 0, none⟩) (zs.length + 1) cap2) (zs ++ [65533])) := Lib.hid (HRA.out.only O5.out hbC fun m hm => heap_setCell_same _ _ 16 _ _ (.int .i64 0) (heap_setCell_same _ _ 15 _ _ (.int .i64 0) hm))
  have c5 : Hid (Chg (Value.slice la zs.length lc).ownBlock b w (((w4.setCell ⟨b, 17, none⟩ (.slice (some ⟨g2, 0, none⟩) (zs.length + 1) cap2)).setCell ⟨b, 15, none⟩ (.int .i64 0)).setCell ⟨b, 16, none⟩ (.int .i64 0))) := Lib.hid (HcA.out.trans (O5.out.chg (Value.slice la zs.length lc).ownBlock) (fun g e => .inl e))
  have hw5 : w.heap.size ≤ ((((w4.setCell ⟨b, 17, none⟩ (.slice (some ⟨g2, 0, none⟩) (zs.length + 1) cap2)).setCell ⟨b, 15, none⟩ (.int .i64 0)).setCell ⟨b, 16, none⟩ (.int .i64 0))).heap.size := c5.out.1.size
  clear o4 g4 hg4 RA cA hm4 hm5 R1 c01 HRA HcA O5
  go_wp2_with fail
  refine (HEn.out _).mono ?_
  clear y5 y6 z5 z6 t0 t1 t2 t3 t4 t5 d17 q17
  generalize (((w4.setCell ⟨b, 17, none⟩ (.slice (some ⟨g2, 0, none⟩) (zs.length + 1) cap2)).setCell ⟨b, 15, none⟩ (.int .i64 0)).setCell ⟨b, 16, none⟩ (.int .i64 0)) = W5 at *
  rintro e w6 ⟨rfl, b6⟩
  have R6 := Lib.hid (R5.out.keep b6 hbC)
  have c6 : Hid (Chg (Value.slice la zs.length lc).ownBlock b w w6) := Lib.hid (c5.out.trans ((only_below R5.out.lt b6).chg (Value.slice la zs.length lc).ownBlock) (fun g e => .inl e))
  have hw6 : w.heap.size ≤ w6.heap.size := c6.out.1.size
  clear b6 R5 c5 HK5 HK4
  by_cases hb : t.k = 1 ∧ t.a = 10
  · rw [show (decide (t.k = 1) && decide (t.a = 10)) = true by simp [hb]]
    have HX : Hid (badX n x t = anewX n ⟨x.g0, x.g1, x.g2, x.g3, x.l, 0, 0⟩ ∧ badZ t = [65533, 10]) := Lib.hid ⟨by rw [badX, if_pos hb]; rfl, by rw [badZ, if_pos hb]⟩
    have R7 : Hid (RSt (w6.alloc (.cells #[.int .i64 10] 3)) b C n ⟨x.g0, x.g1, x.g2, x.g3, x.l, 0, 0⟩ (.slice (some ⟨g2, 0, none⟩) (zs.length + 1) cap2) (zs ++ [65533])) := Lib.hid (R6.out.keep (below_one _ _) hbC)
    have c7 : Hid (Chg (Value.slice la zs.length lc).ownBlock b w (w6.alloc (.cells #[.int .i64 10] 3))) := Lib.hid (c6.out.trans ((only_below R6.out.lt (below_one w6 (.cells #[.int .i64 10] 3))).chg (Value.slice la zs.length lc).ownBlock) (fun g e => .inl e))
    have hL7 : (w6.alloc (.cells #[.int .i64 10] 3)).heap[w6.heap.size]? = some (.cells #[.int .i64 10] 3) := heap_alloc_new _ _
    obtain ⟨m6, hm6, _, _⟩ := R6.out
    have ⟨_, _, _, _, _, _, _, _, _, c17⟩ := hm6.cells
    have hs7 : (w6.alloc (.cells #[.int .i64 10] 3)).heap.size = w6.heap.size + 1 := by simp
    have HSl := Lib.hid (fun m l W h => impl_startLine n ⟨x.g0, x.g1, x.g2, x.g3, x.l, 0, 0⟩ m l b W h)
    have hlen : (zs ++ [65533]).length = zs.length + 1 := by simp
    clear hm6 hb
    go_wp2_with (at_builtin; refine app_i64x _ rfl _ _ rfl C _ (zs ++ [65533]) rfl R7.out.own w6.heap.size 1 10 rfl hL7 (by omega) (by omega) ?_)
    clear c17
    generalize w6.alloc (.cells #[.int .i64 10] 3) = W7 at *
    intro g8 cap8 w8 o8 g48 hg8
    have hLO7 := Lib.hid (fun g hg => (World.ownsRow.lt R7.out.own g hg))
    obtain ⟨RB, cB⟩ := R7.out.app hbC o8 g48 (hg8.imp id (fun h => h.trans hs7.symm))
    have HRB := Lib.hid RB
    have HcB := Lib.hid (c7.out.trans cB hg2.out)
    have hg9 : Hid (∀ g, some g8 = some g → (Value.slice la zs.length lc).ownBlock = some g ∨ w.heap.size ≤ g) := Lib.hid (fun g e => by
      cases e
      rcases hg8 with h | h
      · exact hg2.out _ h
      · exact .inr (by omega))
    obtain ⟨m7, hm7, _, _⟩ := R7.out
    have hm8 : RdAt w8 b n m7 ⟨x.g0, x.g1, x.g2, x.g3, x.l, 0, 0⟩ (.slice (some ⟨g2, 0, none⟩) (zs.length + 1) cap2) := (g48.block b hm7.lt (fun e => by have := (hLO7.out b e.symm).1; omega)).trans hm7
    have ⟨_, _, _, _, _, _, _, _, _, d17⟩ := hm8.cells
    have q17 := hm8.frozen 17
    have hl8 := hm8.lt
    clear o8 g48 hg8 RB cB hm7 hm8 R7 c7 hLO7
    go_wp2_with fail
    obtain ⟨m9, hm9, _, _⟩ := HRB.out
    refine (HSl.out m9 _ _ hm9).mono ?_
    generalize (w8.setCell ⟨b, 17, none⟩ (.slice (some ⟨g8, 0, none⟩) (zs.length + 1 + 1) cap8)) = W8 at *
    rintro e w9 ⟨rfl, hA9, o9⟩
    have R9 := Lib.hid (HRB.out.step hm9 o9 hbC hA9)
    have c9 : Hid (Chg (Value.slice la zs.length lc).ownBlock b w w9) := Lib.hid (HcB.out.trans (o9.chg (Value.slice la zs.length lc).ownBlock) (fun g e => .inl e))
    clear hm9 hA9 o9 d17 q17
    go_wp2
    go_end0
    exact ⟨rfl, .slice (some ⟨g8, 0, none⟩) (zs.length + 1 + 1) cap8, by rw [HX.out.1, HX.out.2]; exact R9.out, c9.out, fun g e => hg9.out g e⟩
  · rw [show (decide (t.k = 1) && decide (t.a = 10)) = false by
      cases hd : (decide (t.k = 1) && decide (t.a = 10))
      · rfl
      · rw [Bool.and_eq_true, decide_eq_true_eq, decide_eq_true_eq] at hd
        exact absurd hd hb]
    have HX : Hid (badX n x t = ⟨x.g0, x.g1, x.g2, x.g3, x.l, 0, 0⟩ ∧ badZ t = [65533]) := Lib.hid ⟨by rw [badX, if_neg hb], by rw [badZ, if_neg hb]⟩
    go_wp2
    go_end0
    exact ⟨rfl, .slice (some ⟨g2, 0, none⟩) (zs.length + 1) cap2, by rw [HX.out.1, HX.out.2]; exact R6.out, c6.out, fun g e => hg2.out g e⟩

end Go.Proofs.YtbamjhldebobhaaGreatDoor

namespace Go.Proofs.YtbamjhldebobhaaGreatDoor
open Go.RowKit Go.Sort

def rdV (n : Int) (m : Value) (y : St) (l : Value) : Value := .agg #[.int .i64 n, .string (prName n), .string (prHead n), .slice none 0 0, .bool (prRight n), .bool (prShifts n), .bool (prSingle n), .bool (prReset n), .bool (prClear n), m, .int .i64 y.g0, .int .i64 y.g1, .int .i64 y.g2, .int .i64 y.g3, .int .i64 y.l, .int .i64 y.s, .int .i64 y.d, l]
def put18 (w : World) (g : Nat) (n : Int) (y : St) : World := ((((((((((((((((((w.setCell ⟨g, 0, none⟩ (.int .i64 n)).setCell ⟨g, 1, none⟩ (.string (prName n))).setCell ⟨g, 2, none⟩ (.string (prHead n))).setCell ⟨g, 3, none⟩ (.slice none 0 0)).setCell ⟨g, 4, none⟩ (.bool (prRight n))).setCell ⟨g, 5, none⟩ (.bool (prShifts n))).setCell ⟨g, 6, none⟩ (.bool (prSingle n))).setCell ⟨g, 7, none⟩ (.bool (prReset n))).setCell ⟨g, 8, none⟩ (.bool (prClear n))).setCell ⟨g, 9, none⟩ (.map none)).setCell ⟨g, 10, none⟩ (.int .i64 y.g0)).setCell ⟨g, 11, none⟩ (.int .i64 y.g1)).setCell ⟨g, 12, none⟩ (.int .i64 y.g2)).setCell ⟨g, 13, none⟩ (.int .i64 y.g3)).setCell ⟨g, 14, none⟩ (.int .i64 y.l)).setCell ⟨g, 15, none⟩ (.int .i64 y.s)).setCell ⟨g, 16, none⟩ (.int .i64 y.d)).setCell ⟨g, 17, none⟩ (.slice none 0 0))
theorem put18_row {w : World} {g : Nat} (n : Int) (y : St) (h : w.heap[g]? = some (.cells #[.int .i64 0, .string ⟨#[]⟩, .string ⟨#[]⟩, .slice none 0 0, .bool false, .bool false, .bool false, .bool false, .bool false, .map none, .int .i64 0, .int .i64 0, .int .i64 0, .int .i64 0, .int .i64 0, .int .i64 0, .int .i64 0, .slice none 0 0] 69)) : RdAt (put18 w g n y) g n (.map none) y (.slice none 0 0) := by
  have k0 : (w.setCell ⟨g, 0, none⟩ (.int .i64 n)).heap[g]? = some (.cells #[.int .i64 n, .string ⟨#[]⟩, .string ⟨#[]⟩, .slice none 0 0, .bool false, .bool false, .bool false, .bool false, .bool false, .map none, .int .i64 0, .int .i64 0, .int .i64 0, .int .i64 0, .int .i64 0, .int .i64 0, .int .i64 0, .slice none 0 0] 69) := heap_setCell_same _ g 0 _ _ (.int .i64 n) h
  have k1 : ((w.setCell ⟨g, 0, none⟩ (.int .i64 n)).setCell ⟨g, 1, none⟩ (.string (prName n))).heap[g]? = some (.cells #[.int .i64 n, .string (prName n), .string ⟨#[]⟩, .slice none 0 0, .bool false, .bool false, .bool false, .bool false, .bool false, .map none, .int .i64 0, .int .i64 0, .int .i64 0, .int .i64 0, .int .i64 0, .int .i64 0, .int .i64 0, .slice none 0 0] 69) := heap_setCell_same _ g 1 _ _ (.string (prName n)) k0
  have k2 : (((w.setCell ⟨g, 0, none⟩ (.int .i64 n)).setCell ⟨g, 1, none⟩ (.string (prName n))).setCell ⟨g, 2, none⟩ (.string (prHead n))).heap[g]? = some (.cells #[.int .i64 n, .string (prName n), .string (prHead n), .slice none 0 0, .bool false, .bool false, .bool false, .bool false, .bool false, .map none, .int .i64 0, .int .i64 0, .int .i64 0, .int .i64 0, .int .i64 0, .int .i64 0, .int .i64 0, .slice none 0 0] 69) := heap_setCell_same _ g 2 _ _ (.string (prHead n)) k1
  have k3 : ((((w.setCell ⟨g, 0, none⟩ (.int .i64 n)).setCell ⟨g, 1, none⟩ (.string (prName n))).setCell ⟨g, 2, none⟩ (.string (prHead n))).setCell ⟨g, 3, none⟩ (.slice none 0 0)).heap[g]? = some (.cells #[.int .i64 n, .string (prName n), .string (prHead n), .slice none 0 0, .bool false, .bool false, .bool false, .bool false, .bool false, .map none, .int .i64 0, .int .i64 0, .int .i64 0, .int .i64 0, .int .i64 0, .int .i64 0, .int .i64 0, .slice none 0 0] 69) := heap_setCell_same _ g 3 _ _ (.slice none 0 0) k2
  have k4 : (((((w.setCell ⟨g, 0, none⟩ (.int .i64 n)).setCell ⟨g, 1, none⟩ (.string (prName n))).setCell ⟨g, 2, none⟩ (.string (prHead n))).setCell ⟨g, 3, none⟩ (.slice none 0 0)).setCell ⟨g, 4, none⟩ (.bool (prRight n))).heap[g]? = some (.cells #[.int .i64 n, .string (prName n), .string (prHead n), .slice none 0 0, .bool (prRight n), .bool false, .bool false, .bool false, .bool false, .map none, .int .i64 0, .int .i64 0, .int .i64 0, .int .i64 0, .int .i64 0, .int .i64 0, .int .i64 0, .slice none 0 0] 69) := heap_setCell_same _ g 4 _ _ (.bool (prRight n)) k3
  have k5 : ((((((w.setCell ⟨g, 0, none⟩ (.int .i64 n)).setCell ⟨g, 1, none⟩ (.string (prName n))).setCell ⟨g, 2, none⟩ (.string (prHead n))).setCell ⟨g, 3, none⟩ (.slice none 0 0)).setCell ⟨g, 4, none⟩ (.bool (prRight n))).setCell ⟨g, 5, none⟩ (.bool (prShifts n))).heap[g]? = some (.cells #[.int .i64 n, .string (prName n), .string (prHead n), .slice none 0 0, .bool (prRight n), .bool (prShifts n), .bool false, .bool false, .bool false, .map none, .int .i64 0, .int .i64 0, .int .i64 0, .int .i64 0, .int .i64 0, .int .i64 0, .int .i64 0, .slice none 0 0] 69) := heap_setCell_same _ g 5 _ _ (.bool (prShifts n)) k4
  have k6 : (((((((w.setCell ⟨g, 0, none⟩ (.int .i64 n)).setCell ⟨g, 1, none⟩ (.string (prName n))).setCell ⟨g, 2, none⟩ (.string (prHead n))).setCell ⟨g, 3, none⟩ (.slice none 0 0)).setCell ⟨g, 4, none⟩ (.bool (prRight n))).setCell ⟨g, 5, none⟩ (.bool (prShifts n))).setCell ⟨g, 6, none⟩ (.bool (prSingle n))).heap[g]? = some (.cells #[.int .i64 n, .string (prName n), .string (prHead n), .slice none 0 0, .bool (prRight n), .bool (prShifts n), .bool (prSingle n), .bool false, .bool false, .map none, .int .i64 0, .int .i64 0, .int .i64 0, .int .i64 0, .int .i64 0, .int .i64 0, .int .i64 0, .slice none 0 0] 69) := heap_setCell_same _ g 6 _ _ (.bool (prSingle n)) k5
  have k7 : ((((((((w.setCell ⟨g, 0, none⟩ (.int .i64 n)).setCell ⟨g, 1, none⟩ (.string (prName n))).setCell ⟨g, 2, none⟩ (.string (prHead n))).setCell ⟨g, 3, none⟩ (.slice none 0 0)).setCell ⟨g, 4, none⟩ (.bool (prRight n))).setCell ⟨g, 5, none⟩ (.bool (prShifts n))).setCell ⟨g, 6, none⟩ (.bool (prSingle n))).setCell ⟨g, 7, none⟩ (.bool (prReset n))).heap[g]? = some (.cells #[.int .i64 n, .string (prName n), .string (prHead n), .slice none 0 0, .bool (prRight n), .bool (prShifts n), .bool (prSingle n), .bool (prReset n), .bool false, .map none, .int .i64 0, .int .i64 0, .int .i64 0, .int .i64 0, .int .i64 0, .int .i64 0, .int .i64 0, .slice none 0 0] 69) := heap_setCell_same _ g 7 _ _ (.bool (prReset n)) k6
  have k8 : (((((((((w.setCell ⟨g, 0, none⟩ (.int .i64 n)).setCell ⟨g, 1, none⟩ (.string (prName n))).setCell ⟨g, 2, none⟩ (.string (prHead n))).setCell ⟨g, 3, none⟩ (.slice none 0 0)).setCell ⟨g, 4, none⟩ (.bool (prRight n))).setCell ⟨g, 5, none⟩ (.bool (prShifts n))).setCell ⟨g, 6, none⟩ (.bool (prSingle n))).setCell ⟨g, 7, none⟩ (.bool (prReset n))).setCell ⟨g, 8, none⟩ (.bool (prClear n))).heap[g]? = some (.cells #[.int .i64 n, .string (prName n), .string (prHead n), .slice none 0 0, .bool (prRight n), .bool (prShifts n), .bool (prSingle n), .bool (prReset n), .bool (prClear n), .map none, .int .i64 0, .int .i64 0, .int .i64 0, .int .i64 0, .int .i64 0, .int .i64 0, .int .i64 0, .slice none 0 0] 69) := heap_setCell_same _ g 8 _ _ (.bool (prClear n)) k7
  have k9 : ((((((((((w.setCell ⟨g, 0, none⟩ (.int .i64 n)).setCell ⟨g, 1, none⟩ (.string (prName n))).setCell ⟨g, 2, none⟩ (.string (prHead n))).setCell ⟨g, 3, none⟩ (.slice none 0 0)).setCell ⟨g, 4, none⟩ (.bool (prRight n))).setCell ⟨g, 5, none⟩ (.bool (prShifts n))).setCell ⟨g, 6, none⟩ (.bool (prSingle n))).setCell ⟨g, 7, none⟩ (.bool (prReset n))).setCell ⟨g, 8, none⟩ (.bool (prClear n))).setCell ⟨g, 9, none⟩ (.map none)).heap[g]? = some (.cells #[.int .i64 n, .string (prName n), .string (prHead n), .slice none 0 0, .bool (prRight n), .bool (prShifts n), .bool (prSingle n), .bool (prReset n), .bool (prClear n), .map none, .int .i64 0, .int .i64 0, .int .i64 0, .int .i64 0, .int .i64 0, .int .i64 0, .int .i64 0, .slice none 0 0] 69) := heap_setCell_same _ g 9 _ _ (.map none) k8
  have k10 : (((((((((((w.setCell ⟨g, 0, none⟩ (.int .i64 n)).setCell ⟨g, 1, none⟩ (.string (prName n))).setCell ⟨g, 2, none⟩ (.string (prHead n))).setCell ⟨g, 3, none⟩ (.slice none 0 0)).setCell ⟨g, 4, none⟩ (.bool (prRight n))).setCell ⟨g, 5, none⟩ (.bool (prShifts n))).setCell ⟨g, 6, none⟩ (.bool (prSingle n))).setCell ⟨g, 7, none⟩ (.bool (prReset n))).setCell ⟨g, 8, none⟩ (.bool (prClear n))).setCell ⟨g, 9, none⟩ (.map none)).setCell ⟨g, 10, none⟩ (.int .i64 y.g0)).heap[g]? = some (.cells #[.int .i64 n, .string (prName n), .string (prHead n), .slice none 0 0, .bool (prRight n), .bool (prShifts n), .bool (prSingle n), .bool (prReset n), .bool (prClear n), .map none, .int .i64 y.g0, .int .i64 0, .int .i64 0, .int .i64 0, .int .i64 0, .int .i64 0, .int .i64 0, .slice none 0 0] 69) := heap_setCell_same _ g 10 _ _ (.int .i64 y.g0) k9
  have k11 : ((((((((((((w.setCell ⟨g, 0, none⟩ (.int .i64 n)).setCell ⟨g, 1, none⟩ (.string (prName n))).setCell ⟨g, 2, none⟩ (.string (prHead n))).setCell ⟨g, 3, none⟩ (.slice none 0 0)).setCell ⟨g, 4, none⟩ (.bool (prRight n))).setCell ⟨g, 5, none⟩ (.bool (prShifts n))).setCell ⟨g, 6, none⟩ (.bool (prSingle n))).setCell ⟨g, 7, none⟩ (.bool (prReset n))).setCell ⟨g, 8, none⟩ (.bool (prClear n))).setCell ⟨g, 9, none⟩ (.map none)).setCell ⟨g, 10, none⟩ (.int .i64 y.g0)).setCell ⟨g, 11, none⟩ (.int .i64 y.g1)).heap[g]? = some (.cells #[.int .i64 n, .string (prName n), .string (prHead n), .slice none 0 0, .bool (prRight n), .bool (prShifts n), .bool (prSingle n), .bool (prReset n), .bool (prClear n), .map none, .int .i64 y.g0, .int .i64 y.g1, .int .i64 0, .int .i64 0, .int .i64 0, .int .i64 0, .int .i64 0, .slice none 0 0] 69) := heap_setCell_same _ g 11 _ _ (.int .i64 y.g1) k10
  have k12 : (((((((((((((w.setCell ⟨g, 0, none⟩ (.int .i64 n)).setCell ⟨g, 1, none⟩ (.string (prName n))).setCell ⟨g, 2, none⟩ (.string (prHead n))).setCell ⟨g, 3, none⟩ (.slice none 0 0)).setCell ⟨g, 4, none⟩ (.bool (prRight n))).setCell ⟨g, 5, none⟩ (.bool (prShifts n))).setCell ⟨g, 6, none⟩ (.bool (prSingle n))).setCell ⟨g, 7, none⟩ (.bool (prReset n))).setCell ⟨g, 8, none⟩ (.bool (prClear n))).setCell ⟨g, 9, none⟩ (.map none)).setCell ⟨g, 10, none⟩ (.int .i64 y.g0)).setCell ⟨g, 11, none⟩ (.int .i64 y.g1)).setCell ⟨g, 12, none⟩ (.int .i64 y.g2)).heap[g]? = some (.cells #[.int .i64 n, .string (prName n), .string (prHead n), .slice none 0 0, .bool (prRight n), .bool (prShifts n), .bool (prSingle n), .bool (prReset n), .bool (prClear n), .map none, .int .i64 y.g0, .int .i64 y.g1, .int .i64 y.g2, .int .i64 0, .int .i64 0, .int .i64 0, .int .i64 0, .slice none 0 0] 69) := heap_setCell_same _ g 12 _ _ (.int .i64 y.g2) k11
  have k13 : ((((((((((((((w.setCell ⟨g, 0, none⟩ (.int .i64 n)).setCell ⟨g, 1, none⟩ (.string (prName n))).setCell ⟨g, 2, none⟩ (.string (prHead n))).setCell ⟨g, 3, none⟩ (.slice none 0 0)).setCell ⟨g, 4, none⟩ (.bool (prRight n))).setCell ⟨g, 5, none⟩ (.bool (prShifts n))).setCell ⟨g, 6, none⟩ (.bool (prSingle n))).setCell ⟨g, 7, none⟩ (.bool (prReset n))).setCell ⟨g, 8, none⟩ (.bool (prClear n))).setCell ⟨g, 9, none⟩ (.map none)).setCell ⟨g, 10, none⟩ (.int .i64 y.g0)).setCell ⟨g, 11, none⟩ (.int .i64 y.g1)).setCell ⟨g, 12, none⟩ (.int .i64 y.g2)).setCell ⟨g, 13, none⟩ (.int .i64 y.g3)).heap[g]? = some (.cells #[.int .i64 n, .string (prName n), .string (prHead n), .slice none 0 0, .bool (prRight n), .bool (prShifts n), .bool (prSingle n), .bool (prReset n), .bool (prClear n), .map none, .int .i64 y.g0, .int .i64 y.g1, .int .i64 y.g2, .int .i64 y.g3, .int .i64 0, .int .i64 0, .int .i64 0, .slice none 0 0] 69) := heap_setCell_same _ g 13 _ _ (.int .i64 y.g3) k12
  have k14 : (((((((((((((((w.setCell ⟨g, 0, none⟩ (.int .i64 n)).setCell ⟨g, 1, none⟩ (.string (prName n))).setCell ⟨g, 2, none⟩ (.string (prHead n))).setCell ⟨g, 3, none⟩ (.slice none 0 0)).setCell ⟨g, 4, none⟩ (.bool (prRight n))).setCell ⟨g, 5, none⟩ (.bool (prShifts n))).setCell ⟨g, 6, none⟩ (.bool (prSingle n))).setCell ⟨g, 7, none⟩ (.bool (prReset n))).setCell ⟨g, 8, none⟩ (.bool (prClear n))).setCell ⟨g, 9, none⟩ (.map none)).setCell ⟨g, 10, none⟩ (.int .i64 y.g0)).setCell ⟨g, 11, none⟩ (.int .i64 y.g1)).setCell ⟨g, 12, none⟩ (.int .i64 y.g2)).setCell ⟨g, 13, none⟩ (.int .i64 y.g3)).setCell ⟨g, 14, none⟩ (.int .i64 y.l)).heap[g]? = some (.cells #[.int .i64 n, .string (prName n), .string (prHead n), .slice none 0 0, .bool (prRight n), .bool (prShifts n), .bool (prSingle n), .bool (prReset n), .bool (prClear n), .map none, .int .i64 y.g0, .int .i64 y.g1, .int .i64 y.g2, .int .i64 y.g3, .int .i64 y.l, .int .i64 0, .int .i64 0, .slice none 0 0] 69) := heap_setCell_same _ g 14 _ _ (.int .i64 y.l) k13
  have k15 : ((((((((((((((((w.setCell ⟨g, 0, none⟩ (.int .i64 n)).setCell ⟨g, 1, none⟩ (.string (prName n))).setCell ⟨g, 2, none⟩ (.string (prHead n))).setCell ⟨g, 3, none⟩ (.slice none 0 0)).setCell ⟨g, 4, none⟩ (.bool (prRight n))).setCell ⟨g, 5, none⟩ (.bool (prShifts n))).setCell ⟨g, 6, none⟩ (.bool (prSingle n))).setCell ⟨g, 7, none⟩ (.bool (prReset n))).setCell ⟨g, 8, none⟩ (.bool (prClear n))).setCell ⟨g, 9, none⟩ (.map none)).setCell ⟨g, 10, none⟩ (.int .i64 y.g0)).setCell ⟨g, 11, none⟩ (.int .i64 y.g1)).setCell ⟨g, 12, none⟩ (.int .i64 y.g2)).setCell ⟨g, 13, none⟩ (.int .i64 y.g3)).setCell ⟨g, 14, none⟩ (.int .i64 y.l)).setCell ⟨g, 15, none⟩ (.int .i64 y.s)).heap[g]? = some (.cells #[.int .i64 n, .string (prName n), .string (prHead n), .slice none 0 0, .bool (prRight n), .bool (prShifts n), .bool (prSingle n), .bool (prReset n), .bool (prClear n), .map none, .int .i64 y.g0, .int .i64 y.g1, .int .i64 y.g2, .int .i64 y.g3, .int .i64 y.l, .int .i64 y.s, .int .i64 0, .slice none 0 0] 69) := heap_setCell_same _ g 15 _ _ (.int .i64 y.s) k14
  have k16 : (((((((((((((((((w.setCell ⟨g, 0, none⟩ (.int .i64 n)).setCell ⟨g, 1, none⟩ (.string (prName n))).setCell ⟨g, 2, none⟩ (.string (prHead n))).setCell ⟨g, 3, none⟩ (.slice none 0 0)).setCell ⟨g, 4, none⟩ (.bool (prRight n))).setCell ⟨g, 5, none⟩ (.bool (prShifts n))).setCell ⟨g, 6, none⟩ (.bool (prSingle n))).setCell ⟨g, 7, none⟩ (.bool (prReset n))).setCell ⟨g, 8, none⟩ (.bool (prClear n))).setCell ⟨g, 9, none⟩ (.map none)).setCell ⟨g, 10, none⟩ (.int .i64 y.g0)).setCell ⟨g, 11, none⟩ (.int .i64 y.g1)).setCell ⟨g, 12, none⟩ (.int .i64 y.g2)).setCell ⟨g, 13, none⟩ (.int .i64 y.g3)).setCell ⟨g, 14, none⟩ (.int .i64 y.l)).setCell ⟨g, 15, none⟩ (.int .i64 y.s)).setCell ⟨g, 16, none⟩ (.int .i64 y.d)).heap[g]? = some (.cells #[.int .i64 n, .string (prName n), .string (prHead n), .slice none 0 0, .bool (prRight n), .bool (prShifts n), .bool (prSingle n), .bool (prReset n), .bool (prClear n), .map none, .int .i64 y.g0, .int .i64 y.g1, .int .i64 y.g2, .int .i64 y.g3, .int .i64 y.l, .int .i64 y.s, .int .i64 y.d, .slice none 0 0] 69) := heap_setCell_same _ g 16 _ _ (.int .i64 y.d) k15
  have k17 : ((((((((((((((((((w.setCell ⟨g, 0, none⟩ (.int .i64 n)).setCell ⟨g, 1, none⟩ (.string (prName n))).setCell ⟨g, 2, none⟩ (.string (prHead n))).setCell ⟨g, 3, none⟩ (.slice none 0 0)).setCell ⟨g, 4, none⟩ (.bool (prRight n))).setCell ⟨g, 5, none⟩ (.bool (prShifts n))).setCell ⟨g, 6, none⟩ (.bool (prSingle n))).setCell ⟨g, 7, none⟩ (.bool (prReset n))).setCell ⟨g, 8, none⟩ (.bool (prClear n))).setCell ⟨g, 9, none⟩ (.map none)).setCell ⟨g, 10, none⟩ (.int .i64 y.g0)).setCell ⟨g, 11, none⟩ (.int .i64 y.g1)).setCell ⟨g, 12, none⟩ (.int .i64 y.g2)).setCell ⟨g, 13, none⟩ (.int .i64 y.g3)).setCell ⟨g, 14, none⟩ (.int .i64 y.l)).setCell ⟨g, 15, none⟩ (.int .i64 y.s)).setCell ⟨g, 16, none⟩ (.int .i64 y.d)).setCell ⟨g, 17, none⟩ (.slice none 0 0)).heap[g]? = some (.cells #[.int .i64 n, .string (prName n), .string (prHead n), .slice none 0 0, .bool (prRight n), .bool (prShifts n), .bool (prSingle n), .bool (prReset n), .bool (prClear n), .map none, .int .i64 y.g0, .int .i64 y.g1, .int .i64 y.g2, .int .i64 y.g3, .int .i64 y.l, .int .i64 y.s, .int .i64 y.d, .slice none 0 0] 69) := heap_setCell_same _ g 17 _ _ (.slice none 0 0) k16
  exact k17
theorem put18_below {B : Nat} {a w : World} (h : Below B a w) {g : Nat} (hg : B ≤ g) (n : Int) (y : St) : Below B a (put18 w g n y) := ((((((((((((((((((h.setCell hg _).setCell hg _).setCell hg _).setCell hg _).setCell hg _).setCell hg _).setCell hg _).setCell hg _).setCell hg _).setCell hg _).setCell hg _).setCell hg _).setCell hg _).setCell hg _).setCell hg _).setCell hg _).setCell hg _).setCell hg _)
theorem row18_cells {w : World} {g : Nat} (h : w.heap[g]? = some (.cells #[.int .i64 0, .string ⟨#[]⟩, .string ⟨#[]⟩, .slice none 0 0, .bool false, .bool false, .bool false, .bool false, .bool false, .map none, .int .i64 0, .int .i64 0, .int .i64 0, .int .i64 0, .int .i64 0, .int .i64 0, .int .i64 0, .slice none 0 0] 69)) : w.cell? ⟨g, 0, none⟩ = some (.int .i64 0) ∧ w.cell? ⟨g, 1, none⟩ = some (.string ⟨#[]⟩) ∧ w.cell? ⟨g, 2, none⟩ = some (.string ⟨#[]⟩) ∧ w.cell? ⟨g, 3, none⟩ = some (.slice none 0 0) ∧ w.cell? ⟨g, 4, none⟩ = some (.bool false) ∧ w.cell? ⟨g, 5, none⟩ = some (.bool false) ∧ w.cell? ⟨g, 6, none⟩ = some (.bool false) ∧ w.cell? ⟨g, 7, none⟩ = some (.bool false) ∧ w.cell? ⟨g, 8, none⟩ = some (.bool false) ∧ w.cell? ⟨g, 9, none⟩ = some (.map none) ∧ w.cell? ⟨g, 10, none⟩ = some (.int .i64 0) ∧ w.cell? ⟨g, 11, none⟩ = some (.int .i64 0) ∧ w.cell? ⟨g, 12, none⟩ = some (.int .i64 0) ∧ w.cell? ⟨g, 13, none⟩ = some (.int .i64 0) ∧ w.cell? ⟨g, 14, none⟩ = some (.int .i64 0) ∧ w.cell? ⟨g, 15, none⟩ = some (.int .i64 0) ∧ w.cell? ⟨g, 16, none⟩ = some (.int .i64 0) ∧ w.cell? ⟨g, 17, none⟩ = some (.slice none 0 0) := by
  refine ⟨?_, ?_, ?_, ?_, ?_, ?_, ?_, ?_, ?_, ?_, ?_, ?_, ?_, ?_, ?_, ?_, ?_, ?_⟩ <;> (rw [cell_of_row _ _ _ _ _ _ h]; rfl)
theorem row18_thaw {w : World} {g : Nat} {cs : Array Value} {t : TypeId} (h : w.heap[g]? = some (.cells cs t)) : w.frozen? ⟨g, 0, none⟩ = false ∧ w.frozen? ⟨g, 1, none⟩ = false ∧ w.frozen? ⟨g, 2, none⟩ = false ∧ w.frozen? ⟨g, 3, none⟩ = false ∧ w.frozen? ⟨g, 4, none⟩ = false ∧ w.frozen? ⟨g, 5, none⟩ = false ∧ w.frozen? ⟨g, 6, none⟩ = false ∧ w.frozen? ⟨g, 7, none⟩ = false ∧ w.frozen? ⟨g, 8, none⟩ = false ∧ w.frozen? ⟨g, 9, none⟩ = false ∧ w.frozen? ⟨g, 10, none⟩ = false ∧ w.frozen? ⟨g, 11, none⟩ = false ∧ w.frozen? ⟨g, 12, none⟩ = false ∧ w.frozen? ⟨g, 13, none⟩ = false ∧ w.frozen? ⟨g, 14, none⟩ = false ∧ w.frozen? ⟨g, 15, none⟩ = false ∧ w.frozen? ⟨g, 16, none⟩ = false ∧ w.frozen? ⟨g, 17, none⟩ = false :=
  ⟨frozen_of_row w _ 0 _ _ h, frozen_of_row w _ 1 _ _ h, frozen_of_row w _ 2 _ _ h, frozen_of_row w _ 3 _ _ h, frozen_of_row w _ 4 _ _ h, frozen_of_row w _ 5 _ _ h, frozen_of_row w _ 6 _ _ h, frozen_of_row w _ 7 _ _ h, frozen_of_row w _ 8 _ _ h, frozen_of_row w _ 9 _ _ h, frozen_of_row w _ 10 _ _ h, frozen_of_row w _ 11 _ _ h, frozen_of_row w _ 12 _ _ h, frozen_of_row w _ 13 _ _ h, frozen_of_row w _ 14 _ _ h, frozen_of_row w _ 15 _ _ h, frozen_of_row w _ 16 _ _ h, frozen_of_row w _ 17 _ _ h⟩

set_option maxHeartbeats 2000000 in
set_option maxRecDepth 100000 in
theorem impl_readingOf (n : Int) (w : World) (ht : TabSets w) (hn : proB n = true) : Calls Tryz.prog 36 #[.int .i64 n] w fun e w' => e = .returned (rdV n (.map none) (startP n) (.slice none 0 0)) ∧ Below w.heap.size w w' := by
  have HG := Lib.hid (fun w ht => impl_guideOf n w ht hn)
  have HS := Lib.hid (fun w => impl_startOf n w)
  have HF := Lib.hid (fun y w => impl_machineOf y w)
  unfold guV at HG
  unfold StDone stV at HS HF
  have HT := Lib.hid ht
  have B0 := Lib.hid (below_one w (.cells #[.int .i64 0, .string ⟨#[]⟩, .string ⟨#[]⟩, .slice none 0 0, .bool false, .bool false, .bool false, .bool false, .bool false, .map none, .int .i64 0, .int .i64 0, .int .i64 0, .int .i64 0, .int .i64 0, .int .i64 0, .int .i64 0, .slice none 0 0] 69))
  have S0 : Hid ((w.alloc (.cells #[.int .i64 0, .string ⟨#[]⟩, .string ⟨#[]⟩, .slice none 0 0, .bool false, .bool false, .bool false, .bool false, .bool false, .map none, .int .i64 0, .int .i64 0, .int .i64 0, .int .i64 0, .int .i64 0, .int .i64 0, .int .i64 0, .slice none 0 0] 69)).heap[w.heap.size]? = some (.cells #[.int .i64 0, .string ⟨#[]⟩, .string ⟨#[]⟩, .slice none 0 0, .bool false, .bool false, .bool false, .bool false, .bool false, .map none, .int .i64 0, .int .i64 0, .int .i64 0, .int .i64 0, .int .i64 0, .int .i64 0, .int .i64 0, .slice none 0 0] 69)) := Lib.hid (heap_alloc_new _ _)
  have HT0 := Lib.hid (HT.out.keep B0.out)
  clear ht
  unfold rdV
  generalize startP n = y at *
  go_enter Tryz.func36, Tryz.ntmps36
  go_wp2_with fail
  refine (HG.out _ HT0.out).mono ?_
  generalize w.alloc (.cells #[.int .i64 0, .string ⟨#[]⟩, .string ⟨#[]⟩, .slice none 0 0, .bool false, .bool false, .bool false, .bool false, .bool false, .map none, .int .i64 0, .int .i64 0, .int .i64 0, .int .i64 0, .int .i64 0, .int .i64 0, .int .i64 0, .slice none 0 0] 69) = W0 at *
  rintro e w1 ⟨rfl, b1⟩
  go_wp2_with fail
  refine (HS.out _).mono ?_
  rintro e w2 ⟨rfl, b2⟩
  go_wp2_with fail
  refine (HF.out y _).mono ?_
  rintro e w3 ⟨rfl, b3⟩
  have b13 := (b1.trans (b2.mono b1.size)).trans (b3.mono (b1.trans (b2.mono b1.size)).size)
  have S3 := Lib.hid ((b13.block _ (Array.getElem?_eq_some_iff.1 S0.out).1).trans S0.out)
  have B3 : Hid (Below w.heap.size w w3) := Lib.hid (B0.out.trans (b13.mono B0.out.size))
  clear b1 b2 b3 b13 S0
  have ⟨c0, c1, c2, c3, c4, c5, c6, c7, c8, c9, c10, c11, c12, c13, c14, c15, c16, c17⟩ := row18_cells S3.out
  have ⟨f0, f1, f2, f3, f4, f5, f6, f7, f8, f9, f10, f11, f12, f13, f14, f15, f16, f17⟩ := row18_thaw S3.out
  have hl3 : w.heap.size < w3.heap.size := (Array.getElem?_eq_some_iff.1 S3.out).1
  go_wp2
  exact bodyPost_ret (results_cell_row rfl _ _ w.heap.size _ _ _ _ rfl (put18_row n y S3.out) Tryz.underlying69 rfl (by kernel_rfl)) rfl ⟨rfl, put18_below B3.out (Nat.le_refl _) n y⟩


end Go.Proofs.YtbamjhldebobhaaGreatDoor

namespace Go.Proofs
open Go.Shelf
def Tryz.layI_ren : Go.Shelf.Ren := ⟨fun | 137 => 211 | 217 => 221 | 266 => 224 | n => n, fun | 3 => 3 | 5 => 5 | 9 => 9 | n => n, fun | n => n⟩
theorem Tryz.layI137 : Lays.n137 Tryz.prog Tryz.layI_ren := {
  mixed := by kernel_rfl
  f137 := Tryz.func211.trans (congrArg some (by kernel_rfl))
  f217 := Tryz.func221.trans (congrArg some (by kernel_rfl))
  f266 := Tryz.func224.trans (congrArg some (by kernel_rfl))
  t3 := Tryz.underlying3
  a3 := Tryz.isAgg3
  z3 := Tryz.sizeOf3
  v3 := Tryz.zeroValue3
  t5 := Tryz.underlying5
  a5 := Tryz.isAgg5
  z5 := Tryz.sizeOf5
  v5 := Tryz.zeroValue5
  t9 := Tryz.underlying9
  a9 := Tryz.isAgg9
  z9 := Tryz.sizeOf9
  v9 := Tryz.zeroValue9 }
end Go.Proofs

namespace Go.Proofs.YtbamjhldebobhaaGreatDoor
open Go.RowKit

def idx94 (b : Int) : Int := if 40 ≤ b ∧ b ≤ 43 then b - 40 else -1
def idx96 (b : Int) : Int := if 45 ≤ b ∧ b ≤ 47 then b - 45 else -1
theorem idx94_all : ∀ n : Fin 256, Lib.indexByte (⟨#[40, 41, 42, 43]⟩ : ByteArray).data.toList ((n.val : Int).toNat.toUInt8) = idx94 (n.val : Int) := by decide +kernel
theorem idx96_all : ∀ n : Fin 256, Lib.indexByte (⟨#[45, 46, 47]⟩ : ByteArray).data.toList ((n.val : Int).toNat.toUInt8) = idx96 (n.val : Int) := by decide +kernel
theorem str_idx94 (c : Int) (w : World) (h0 : 0 ≤ c) (h1 : c < 256) : Calls Tryz.prog 211 #[.string ⟨#[40, 41, 42, 43]⟩, .int .u8 c] w fun e w' => e = .returned (.int .i64 (idx94 c)) ∧ w = w' := by
  refine (Any.strings_IndexByte Tryz.layI137 ⟨#[40, 41, 42, 43]⟩ c w).mono ?_
  rintro e w' ⟨rfl, rfl⟩
  have := idx94_all ⟨c.toNat, by omega⟩
  simp only at this
  have hc : ((c.toNat : Nat) : Int) = c := by omega
  rw [hc] at this
  exact ⟨by rw [this], rfl⟩
theorem str_idx96 (c : Int) (w : World) (h0 : 0 ≤ c) (h1 : c < 256) : Calls Tryz.prog 211 #[.string ⟨#[45, 46, 47]⟩, .int .u8 c] w fun e w' => e = .returned (.int .i64 (idx96 c)) ∧ w = w' := by
  refine (Any.strings_IndexByte Tryz.layI137 ⟨#[45, 46, 47]⟩ c w).mono ?_
  rintro e w' ⟨rfl, rfl⟩
  have := idx96_all ⟨c.toNat, by omega⟩
  simp only at this
  have hc : ((c.toNat : Nat) : Int) = c := by omega
  rw [hc] at this
  exact ⟨by rw [this], rfl⟩

theorem placeOf_none (s : ByteArray) : ∀ (l : List ByteArray) (k : Int), (∀ t ∈ l, ¬ t = s) → placeOf s l k = -1
  | [], _, _ => rfl
  | t :: r, k, h => by
    rw [placeOf, if_neg (h t (by simp))]
    exact placeOf_none s r (k + 1) (fun u hu => h u (by simp [hu]))
theorem one_all : ∀ n : Fin 256, midNo ⟨#[n.val.toUInt8]⟩ = if 0 ≤ idx94 (n.val : Int) then idx94 (n.val : Int) else if 0 ≤ idx96 (n.val : Int) then idx96 (n.val : Int) + 4 else if (n.val : Int) = 36 then 7 else -1 := by decide +kernel
theorem two_all : ∀ n : Fin 256, midNo ⟨#[36, n.val.toUInt8]⟩ = if 0 ≤ idx94 (n.val : Int) then idx94 (n.val : Int) + 8 else -1 := by decide +kernel

theorem mid_long (s : ByteArray) (h : 2 < s.size) : midNo s = -1 := by
  refine placeOf_none s mids 0 (fun t ht e => ?_)
  have h2 : ∀ t ∈ mids, t.size ≤ 2 := by decide
  have := h2 t ht
  rw [e] at this
  omega
theorem mid_one (s : ByteArray) (h : s.size = 1) : s = ⟨#[s[0].toNat.toUInt8]⟩ := by
  apply ByteArray.ext
  apply Array.ext
  · exact h
  · intro i h1 h2
    have : i = 0 := by simp at h2; omega
    subst this
    simp
    rfl
theorem mid_two (s : ByteArray) (h : s.size = 2) : s = ⟨#[s[0].toNat.toUInt8, s[1].toNat.toUInt8]⟩ := by
  apply ByteArray.ext
  apply Array.ext
  · exact h
  · intro i h1 h2
    have : i = 0 ∨ i = 1 := by simp at h2; omega
    rcases this with rfl | rfl
    · simp
      rfl
    · simp
      rfl
theorem midNo_one (s : ByteArray) (h : s.size = 1) : midNo s = if (0 : Int) ≤ idx94 (s[0].toNat : Int) then idx94 (s[0].toNat : Int) else if (0 : Int) ≤ idx96 (s[0].toNat : Int) then idx96 (s[0].toNat : Int) + 4 else if (s[0].toNat : Int) = 36 then 7 else -1 := by
  have := one_all ⟨s[0].toNat, s[0].toNat_lt⟩
  simp only at this
  rw [← mid_one s h] at this
  exact this
theorem midNo_two (s : ByteArray) (h : s.size = 2) (h36 : (s[0].toNat : Int) = 36) : midNo s = if (0 : Int) ≤ idx94 (s[1].toNat : Int) then idx94 (s[1].toNat : Int) + 8 else -1 := by
  have := two_all ⟨s[1].toNat, s[1].toNat_lt⟩
  simp only at this
  have h0 : s[0].toNat.toUInt8 = 36 := by
    have : s[0].toNat = 36 := by omega
    rw [this]; rfl
  rw [← h0, ← mid_two s h] at this
  exact this
theorem midNo_two' (s : ByteArray) (h : s.size = 2) (h36 : ¬ (s[0].toNat : Int) = 36) : midNo s = -1 := by
  refine placeOf_none s mids 0 (fun t ht e => ?_)
  have h2 : ∀ t ∈ mids, t.size = 2 → byteAt t 0 = 36 := by decide
  have := h2 t ht (by rw [e]; exact h)
  rw [e, byteAt_eq s 0 (by omega)] at this
  exact h36 this
theorem is36 (s : ByteArray) (h : s.size = 1) : s = ⟨#[36]⟩ ↔ (s[0].toNat : Int) = 36 := by
  constructor
  · intro e; subst e; rfl
  · intro e
    rw [mid_one s h]
    have : s[0].toNat = 36 := by omega
    rw [this]; rfl

def desK (s : ByteArray) (f : Int) : Int := if s = ⟨#[36]⟩ then (if f ≤ 66 then 3 else 0) else midK s
def desG (s : ByteArray) : Int := if s = ⟨#[36]⟩ ∨ midNo s < 0 then 0 else midG s
def desV (s : ByteArray) (f : Int) : Value := .tuple #[.int .i64 (desG s), .int .i64 (desK s f)]
theorem desV_of {s : ByteArray} {f g k : Int} (hg : desG s = g) (hk : desK s f = k) : desV s f = .tuple #[.int .i64 g, .int .i64 k] := by rw [desV, hg, hk]

/-- A whole escape sequence with intermediates, told by them. -/
theorem plainTok_des (s : ByteArray) (f p n : Int) (hm : ¬ s = ⟨#[]⟩) : plainTok s f p n = if desK s f = 0 ∨ f < 64 then ⟨9, 0, 0, 0, p, n⟩ else ⟨7, desG s, desK s f, f, p, n⟩ := by
  have hr := midNo_range s
  unfold plainTok desK desG
  rw [if_neg hm]
  by_cases h36 : s = ⟨#[36]⟩
  · subst h36
    have e1 : midG ⟨#[36]⟩ = 0 := by decide
    have e2 : midK ⟨#[36]⟩ = 3 := by decide
    simp only [e1, e2, true_and, if_true, true_or]
    by_cases hf : f ≤ 66
    · simp only [hf, if_true]
      by_cases h64 : f < 64
      · simp [h64]
      · have h66 : ¬ 66 < f := by omega
        simp [h64, h66]
    · have h66 : 66 < f := by omega
      simp [hf, h66]
  · simp only [h36, if_false, false_and, false_or, or_false]
    rcases hr with h | ⟨h1, h2⟩
    · have e1 : midG s < 0 := by simp [midG, h]
      have e2 : midK s = 0 := by simp [midK, h]
      simp [e1, e2]
    · have e1 : ¬ midG s < 0 := by unfold midG; repeat' split
                                   all_goals omega
      have e2 : ¬ midK s = 0 := by unfold midK; repeat' split
                                   all_goals omega
      have e3 : ¬ midNo s < 0 := by omega
      simp [e1, e2, e3]

theorem idx94_le (b : Int) : -1 ≤ idx94 b ∧ idx94 b ≤ 3 := by unfold idx94; split <;> omega
theorem idx96_le (b : Int) : -1 ≤ idx96 b ∧ idx96 b ≤ 2 := by unfold idx96; split <;> omega
theorem des_of {s : ByteArray} {f n : Int} (h36 : ¬ s = ⟨#[36]⟩) (hn : midNo s = n) : desG s = (if n < 0 then 0 else if n < 4 then n else if n < 7 then n - 3 else if n = 7 then 0 else n - 8) ∧ desK s f = (if n < 0 then 0 else if n < 4 then 1 else if n < 7 then 2 else 3) := by
  subst hn
  refine ⟨?_, ?_⟩
  · unfold desG midG
    by_cases h : midNo s < 0
    · simp [h36, h]
    · simp [h36, h]
  · unfold desK midK
    simp [h36]

theorem des_94 {s : ByteArray} {f x : Int} (h36 : ¬ s = ⟨#[36]⟩) (hn : midNo s = x) (h0 : 0 ≤ x) (h1 : x ≤ 3) : desV s f = .tuple #[.int .i64 x, .int .i64 1] := by
  have ⟨a, b⟩ := des_of (f := f) h36 hn
  rw [if_neg (by omega), if_pos (by omega)] at a b
  exact desV_of a b
theorem des_96 {s : ByteArray} {f y : Int} (h36 : ¬ s = ⟨#[36]⟩) (hn : midNo s = y + 4) (h0 : 0 ≤ y) (h1 : y ≤ 2) : desV s f = .tuple #[.int .i64 (y + 1), .int .i64 2] := by
  have ⟨a, b⟩ := des_of (f := f) h36 hn
  rw [if_neg (by omega), if_neg (by omega), if_pos (by omega)] at a b
  exact desV_of (by omega) b
theorem des_pair {s : ByteArray} {f x : Int} (h36 : ¬ s = ⟨#[36]⟩) (hn : midNo s = x + 8) (h0 : 0 ≤ x) : desV s f = .tuple #[.int .i64 x, .int .i64 3] := by
  have ⟨a, b⟩ := des_of (f := f) h36 hn
  rw [if_neg (by omega), if_neg (by omega), if_neg (by omega)] at a b
  rw [if_neg (by omega)] at a
  exact desV_of (by omega) b
theorem des_none {s : ByteArray} {f : Int} (h36 : ¬ s = ⟨#[36]⟩) (hn : midNo s = -1) : desV s f = .tuple #[.int .i64 0, .int .i64 0] := by
  have ⟨a, b⟩ := des_of (f := f) h36 hn
  exact desV_of a b

set_option maxHeartbeats 2000000 in
theorem des_one (s : ByteArray) (f : Int) (w : World) (h1 : s.size = 1) : Calls Tryz.prog 204 #[.string s, .int .i64 f] w fun e w' => e = .returned (desV s f) ∧ w = w' := by
  have hi := is36 s h1
  have hn := midNo_one s h1
  have hb := byteAt_le s 0
  rw [byteAt_eq s 0 (by omega)] at hb
  have hz : (s.size : Int) = 1 := by omega
  by_cases h36 : s = ⟨#[36]⟩
  · have hb36 := hi.1 h36
    have t1 : (s.toList == [36]) = true := by rw [h36, list36]; rfl
    by_cases hf : f ≤ 66
    · have HE := Lib.hid (desV_of (s := s) (f := f) (g := 0) (k := 3) (by simp [desG, h36]) (by simp [desK, h36, hf]))
      clear hi hn hb hb36 h36
      go_enter Tryz.func204, Tryz.ntmps204
      go_wp2
      go_ret2
      exact ⟨ret_val HE.out.symm, rfl⟩
    · have HE := Lib.hid (desV_of (s := s) (f := f) (g := 0) (k := 0) (by simp [desG, h36]) (by simp [desK, h36, hf]))
      have i1 : idx94 36 = -1 := by decide
      have i2 : idx96 36 = -1 := by decide
      clear hi hn h36
      go_enter Tryz.func204, Tryz.ntmps204
      go_wp2_with fail
      refine (str_idx94 36 w (by omega) (by omega)).mono ?_
      rintro e w1 ⟨rfl, rfl⟩
      rw [i1]
      go_wp2_with fail
      refine (str_idx96 36 w (by omega) (by omega)).mono ?_
      rintro e w1 ⟨rfl, rfl⟩
      rw [i2]
      go_wp2
      go_ret2
      exact ⟨ret_val HE.out.symm, rfl⟩
  · have t1 : (s.toList == [36]) = false := by have := str_eqf h36; rwa [list36] at this
    have hb36 : ¬ (s[0].toNat : Int) = 36 := fun h => h36 (hi.2 h)
    clear hi
    generalize hbb : (s[0].toNat : Int) = b at *
    have hx := idx94_le b
    have hy := idx96_le b
    have HX := Lib.hid (fun w => str_idx94 b w (by omega) (by omega))
    have HY := Lib.hid (fun w => str_idx96 b w (by omega) (by omega))
    generalize idx94 b = x at *
    generalize idx96 b = y at *
    by_cases x0 : 0 ≤ x
    · have HE := Lib.hid (des_94 (f := f) h36 (by rw [hn, if_pos x0]) x0 hx.2)
      clear hn h36 hb36
      go_enter Tryz.func204, Tryz.ntmps204
      go_wp2_with fail
      refine (HX.out w).mono ?_
      rintro e w1 ⟨rfl, rfl⟩
      go_wp2
      go_ret2
      exact ⟨ret_val HE.out.symm, rfl⟩
    · rw [if_neg x0] at hn
      by_cases y0 : 0 ≤ y
      · rw [if_pos y0] at hn
        have HE := Lib.hid (des_96 (f := f) h36 hn y0 hy.2)
        clear hn h36 hb36
        go_enter Tryz.func204, Tryz.ntmps204
        go_wp2_with fail
        refine (HX.out w).mono ?_
        rintro e w1 ⟨rfl, rfl⟩
        go_wp2_with fail
        refine (HY.out w).mono ?_
        rintro e w1 ⟨rfl, rfl⟩
        go_wp2
        go_ret2
        exact ⟨ret_val HE.out.symm, rfl⟩
      · rw [if_neg y0, if_neg hb36] at hn
        have HE := Lib.hid (des_none (f := f) h36 hn)
        clear hn h36 hb36
        go_enter Tryz.func204, Tryz.ntmps204
        go_wp2_with fail
        refine (HX.out w).mono ?_
        rintro e w1 ⟨rfl, rfl⟩
        go_wp2_with fail
        refine (HY.out w).mono ?_
        rintro e w1 ⟨rfl, rfl⟩
        go_wp2
        go_ret2
        exact ⟨ret_val HE.out.symm, rfl⟩

set_option maxHeartbeats 2000000 in
theorem des_two (s : ByteArray) (f : Int) (w : World) (h1 : s.size = 2) : Calls Tryz.prog 204 #[.string s, .int .i64 f] w fun e w' => e = .returned (desV s f) ∧ w = w' := by
  have hz : (s.size : Int) = 2 := by omega
  have h36 : ¬ s = ⟨#[36]⟩ := fun h => by subst h; simp [ByteArray.size] at h1
  have t1 : (s.toList == [36]) = false := by have := str_eqf h36; rwa [list36] at this
  have hb := byteAt_le s 1
  rw [byteAt_eq s 1 (by omega)] at hb
  have hb0 := byteAt_le s 0
  rw [byteAt_eq s 0 (by omega)] at hb0
  by_cases b36 : (s[0].toNat : Int) = 36
  · have hn := midNo_two s h1 b36
    generalize hbb : (s[1].toNat : Int) = b at *
    have hx := idx94_le b
    have HX := Lib.hid (fun w => str_idx94 b w (by omega) (by omega))
    have HY := Lib.hid (fun w => str_idx96 b w (by omega) (by omega))
    generalize idx94 b = x at *
    generalize idx96 b = y at *
    by_cases x0 : 0 ≤ x
    · rw [if_pos x0] at hn
      have HE := Lib.hid (des_pair (f := f) h36 hn x0)
      clear hn h36 hb0
      go_enter Tryz.func204, Tryz.ntmps204
      go_wp2_with fail
      refine (HX.out w).mono ?_
      rintro e w1 ⟨rfl, rfl⟩
      go_wp2
      go_ret2
      exact ⟨ret_val HE.out.symm, rfl⟩
    · rw [if_neg x0] at hn
      have HE := Lib.hid (des_none (f := f) h36 hn)
      clear hn h36 hb0
      go_enter Tryz.func204, Tryz.ntmps204
      go_wp2_with fail
      refine (HX.out w).mono ?_
      rintro e w1 ⟨rfl, rfl⟩
      go_wp2_with fail
      refine (HY.out w).mono ?_
      rintro e w1 ⟨rfl, rfl⟩
      by_cases y0 : 0 ≤ y
      all_goals
        go_wp2
        go_ret2
        exact ⟨ret_val HE.out.symm, rfl⟩
  · have hn := midNo_two' s h1 b36
    have HE := Lib.hid (des_none (f := f) h36 hn)
    have c36 : ((s[0].toNat : Int) == 36) = false := by simpa using b36
    clear hn h36 b36 hb
    go_enter Tryz.func204, Tryz.ntmps204
    go_wp2
    go_ret2
    exact ⟨ret_val HE.out.symm, rfl⟩

set_option maxHeartbeats 2000000 in
theorem impl_designated (s : ByteArray) (f : Int) (w : World) (hm : ¬ s = ⟨#[]⟩) (hs : s.size ≤ 1048576) : Calls Tryz.prog 204 #[.string s, .int .i64 f] w fun e w' => e = .returned (desV s f) ∧ w = w' := by
  by_cases h1 : s.size = 1
  · exact des_one s f w h1
  by_cases h2 : s.size = 2
  · exact des_two s f w h2
  have h0 : ¬ s.size = 0 := fun h => hm (ByteArray.ext (Array.eq_empty_of_size_eq_zero h))
  have h3 : 2 < s.size := by omega
  have h36 : ¬ s = ⟨#[36]⟩ := fun h => by subst h; simp [ByteArray.size] at h1
  have t1 : (s.toList == [36]) = false := by have := str_eqf h36; rwa [list36] at this
  have hn := mid_long s h3
  have HE := Lib.hid (des_none (f := f) h36 hn)
  have c1 : ((s.size : Int) == 2) = false := by simp; omega
  have c2 : ((s.size : Int) != 1) = true := by simp; omega
  clear hn h36 hm h0 h1 h2
  go_enter Tryz.func204, Tryz.ntmps204
  go_wp2
  go_ret2
  exact ⟨ret_val HE.out.symm, rfl⟩

end Go.Proofs.YtbamjhldebobhaaGreatDoor
