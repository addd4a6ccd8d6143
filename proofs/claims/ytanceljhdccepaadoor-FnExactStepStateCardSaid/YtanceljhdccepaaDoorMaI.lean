/- The program's StepState. -/
import Derived.Test.YtanceljhdccepaaDoorMaH
namespace Go.Proofs.YtanceljhdccepaaDoor
open Go.RowKit Go.Sort

set_option maxHeartbeats 1000000 in
set_option maxRecDepth 100000 in
theorem impl_StepState (x : St) (t : Tok) (w : World) (ht : TabM w) (hw : Wide64 x) : Calls Tryd.prog 18 #[stV x, tokV t] w (SsDone x t w) := by
  have ⟨hB0, hT0, hS0, b0⟩ := step_blocks w x t
  have HB0 := Lib.hid hB0
  have HK0 := Lib.hid hT0
  have HS0 := Lib.hid hS0
  have B0 := Lib.hid b0
  clear hB0 hT0 hS0 b0
  have HF := Lib.hid (fun w => impl_machineOf x w)
  have HO := Lib.hid (fun b w h ht => impl_ok x b w h ht hw.1 hw.2)
  have HTK := Lib.hid (fun w => impl_tokenOK t w)
  have HST := Lib.hid (fun y b w h => impl_state y b w h)
  have HT := Lib.hid ht
  clear ht hw
  unfold StDone stV at HF HST
  unfold tokV at HTK ⊢
  unfold stV
  cases ho : stOKB x
  · have HE : Hid (toldV (ssP x t) = .tuple #[stV zeroSt, .int .i64 0, .bool false, .int .i64 1]) := Lib.hid (told_bad (by rw [ssP, if_neg (fun h => by rw [ho] at h; exact absurd h.1 (by decide))]))
    rw [ho] at HO
    go_enter Tryd.func18, Tryd.ntmps18
    go_wp2_with fail
    refine (HF.out _).mono ?_
    generalize ((w.alloc (.cells #[.int .i64 x.g0, .int .i64 x.g1, .int .i64 x.g2, .int .i64 x.g3, .int .i64 x.l, .int .i64 x.s, .int .i64 x.d] 24)).alloc (.cells #[.int .i64 t.k, .int .i64 t.a, .int .i64 t.b, .int .i64 t.c, .int .i64 t.p, .int .i64 t.n] 38)).alloc (.cells #[.int .i64 0, .int .i64 0, .int .i64 0, .int .i64 0, .int .i64 0, .int .i64 0, .int .i64 0] 24) = W0 at *
    rintro e w1 ⟨rfl, b1⟩
    have B1 : Hid (Below w.heap.size w w1) := Lib.hid (B0.out.trans (b1.mono B0.out.size))
    have HB1 := Lib.hid ((HB0.out.keep b1).keep (below_one w1 (.cells #[.int .i64 x.g0, .int .i64 x.g1, .int .i64 x.g2, .int .i64 x.g3, .int .i64 x.l, .int .i64 x.s, .int .i64 x.d] 74)))
    have HK1 := Lib.hid ((HK0.out.keep b1).keep (below_one w1 (.cells #[.int .i64 x.g0, .int .i64 x.g1, .int .i64 x.g2, .int .i64 x.g3, .int .i64 x.l, .int .i64 x.s, .int .i64 x.d] 74)))
    have HS1 := Lib.hid ((HS0.out.keep b1).keep (below_one w1 (.cells #[.int .i64 x.g0, .int .i64 x.g1, .int .i64 x.g2, .int .i64 x.g3, .int .i64 x.l, .int .i64 x.s, .int .i64 x.d] 74)))
    have hw1 : w.heap.size + 2 < w1.heap.size := (HS0.out.keep b1).lt
    have B2 : Hid (Below w.heap.size w (w1.alloc (.cells #[.int .i64 x.g0, .int .i64 x.g1, .int .i64 x.g2, .int .i64 x.g3, .int .i64 x.l, .int .i64 x.s, .int .i64 x.d] 74))) := Lib.hid (B1.out.alloc B1.out.size _)
    have HM := Lib.hid (MAt.new w1 x)
    have HT2 := Lib.hid (HT.out.keep B2.out)
    clear b1 HB0 HK0 HS0 B0
    go_wp2_with fail
    refine (HO.out w1.heap.size _ HM.out HT2.out).mono ?_
    generalize w1.alloc (.cells #[.int .i64 x.g0, .int .i64 x.g1, .int .i64 x.g2, .int .i64 x.g3, .int .i64 x.l, .int .i64 x.s, .int .i64 x.d] 74) = W1 at *
    rintro e W2 ⟨rfl, b2⟩
    have B3 : Hid (Below w.heap.size w W2) := Lib.hid (B2.out.trans (b2.mono B2.out.size))
    have HK3 := Lib.hid (HK1.out.keep b2)
    have HS3 := Lib.hid (HS1.out.keep b2)
    have HM3 := Lib.hid (HM.out.keep b2)
    have HT3 := Lib.hid (HT2.out.keep b2)
    have hb3 : w1.heap.size < W2.heap.size := HM3.out.lt
    clear b2 B2 HM HT2 HB1 HS1 HK1
    have ⟨r0, r1, r2, r3, r4, r5, r6⟩ := HS3.out.cells
    have ⟨z0, z1, z2, z3, z4, z5, z6⟩ := HS3.out.thaw
    simp only [zeroSt] at r0 r1 r2 r3 r4 r5 r6
    have hl : w.heap.size + 2 < W2.heap.size := HS3.out.lt
    go_wp2
    exact st_ret4 (y := zeroSt) (r := .int .i64 0) (m := .bool false) (c := .int .i64 1) rfl rfl rfl rfl rfl (HS3.out.put zeroSt) Tryd.underlying24 rfl (by kernel_rfl) rfl ⟨by rw [HE.out], below_putSt B3.out (by omega) zeroSt⟩
  rw [ho] at HO
  cases hk : tokOKB t
  · have HE : Hid (toldV (ssP x t) = .tuple #[stV zeroSt, .int .i64 0, .bool false, .int .i64 1]) := Lib.hid (told_bad (by rw [ssP, if_neg (fun h => by rw [hk] at h; exact absurd h.2 (by decide))]))
    rw [hk] at HTK
    go_enter Tryd.func18, Tryd.ntmps18
    go_wp2_with fail
    refine (HF.out _).mono ?_
    generalize ((w.alloc (.cells #[.int .i64 x.g0, .int .i64 x.g1, .int .i64 x.g2, .int .i64 x.g3, .int .i64 x.l, .int .i64 x.s, .int .i64 x.d] 24)).alloc (.cells #[.int .i64 t.k, .int .i64 t.a, .int .i64 t.b, .int .i64 t.c, .int .i64 t.p, .int .i64 t.n] 38)).alloc (.cells #[.int .i64 0, .int .i64 0, .int .i64 0, .int .i64 0, .int .i64 0, .int .i64 0, .int .i64 0] 24) = W0 at *
    rintro e w1 ⟨rfl, b1⟩
    have B1 : Hid (Below w.heap.size w w1) := Lib.hid (B0.out.trans (b1.mono B0.out.size))
    have HB1 := Lib.hid ((HB0.out.keep b1).keep (below_one w1 (.cells #[.int .i64 x.g0, .int .i64 x.g1, .int .i64 x.g2, .int .i64 x.g3, .int .i64 x.l, .int .i64 x.s, .int .i64 x.d] 74)))
    have HK1 := Lib.hid ((HK0.out.keep b1).keep (below_one w1 (.cells #[.int .i64 x.g0, .int .i64 x.g1, .int .i64 x.g2, .int .i64 x.g3, .int .i64 x.l, .int .i64 x.s, .int .i64 x.d] 74)))
    have HS1 := Lib.hid ((HS0.out.keep b1).keep (below_one w1 (.cells #[.int .i64 x.g0, .int .i64 x.g1, .int .i64 x.g2, .int .i64 x.g3, .int .i64 x.l, .int .i64 x.s, .int .i64 x.d] 74)))
    have hw1 : w.heap.size + 2 < w1.heap.size := (HS0.out.keep b1).lt
    have B2 : Hid (Below w.heap.size w (w1.alloc (.cells #[.int .i64 x.g0, .int .i64 x.g1, .int .i64 x.g2, .int .i64 x.g3, .int .i64 x.l, .int .i64 x.s, .int .i64 x.d] 74))) := Lib.hid (B1.out.alloc B1.out.size _)
    have HM := Lib.hid (MAt.new w1 x)
    have HT2 := Lib.hid (HT.out.keep B2.out)
    clear b1 HB0 HK0 HS0 B0
    go_wp2_with fail
    refine (HO.out w1.heap.size _ HM.out HT2.out).mono ?_
    generalize w1.alloc (.cells #[.int .i64 x.g0, .int .i64 x.g1, .int .i64 x.g2, .int .i64 x.g3, .int .i64 x.l, .int .i64 x.s, .int .i64 x.d] 74) = W1 at *
    rintro e W2 ⟨rfl, b2⟩
    have B3 : Hid (Below w.heap.size w W2) := Lib.hid (B2.out.trans (b2.mono B2.out.size))
    have HK3 := Lib.hid (HK1.out.keep b2)
    have HS3 := Lib.hid (HS1.out.keep b2)
    have HM3 := Lib.hid (HM.out.keep b2)
    have HT3 := Lib.hid (HT2.out.keep b2)
    have hb3 : w1.heap.size < W2.heap.size := HM3.out.lt
    clear b2 B2 HM HT2 HB1 HS1 HK1
    have ⟨t0, t1, t2, t3, t4, t5⟩ := HK3.out.cells
    go_wp2_with fail
    refine (HTK.out _).mono ?_
    clear t0 t1 t2 t3 t4 t5
    rintro e W4 ⟨rfl, b4⟩
    have B4 : Hid (Below w.heap.size w W4) := Lib.hid (B3.out.trans (b4.mono B3.out.size))
    have HK4 := Lib.hid (HK3.out.keep b4)
    have HS4 := Lib.hid (HS3.out.keep b4)
    have HM4 := Lib.hid (HM3.out.keep b4)
    have HT4 := Lib.hid (HT3.out.keep b4)
    clear b4 B3 HS3 HM3 HT3 HK3 hb3
    have ⟨r0, r1, r2, r3, r4, r5, r6⟩ := HS4.out.cells
    have ⟨z0, z1, z2, z3, z4, z5, z6⟩ := HS4.out.thaw
    simp only [zeroSt] at r0 r1 r2 r3 r4 r5 r6
    have hl : w.heap.size + 2 < W4.heap.size := HS4.out.lt
    go_wp2
    exact st_ret4 (y := zeroSt) (r := .int .i64 0) (m := .bool false) (c := .int .i64 1) rfl rfl rfl rfl rfl (HS4.out.put zeroSt) Tryd.underlying24 rfl (by kernel_rfl) rfl ⟨by rw [HE.out], below_putSt B4.out (by omega) zeroSt⟩
  have HG := Lib.hid (fun b w h ht => impl_step x t b w h ht ho ((tokOKB_iff t).1 hk))
  rw [hk] at HTK
  unfold MvDone mvV tokV at HG
  have HE : Hid (toldV (ssP x t) = .tuple #[stV (stepT x t).y, .int .i64 (toldR (stepT x t)), .bool (toldB (stepT x t)), .int .i64 (stepT x t).c]) := Lib.hid (by rw [ssP, if_pos ⟨ho, hk⟩]; rfl)
  clear ho hk
  generalize stepT x t = q at *
  generalize toldR q = tr at *
  generalize toldB q = tb at *
  go_enter Tryd.func18, Tryd.ntmps18
  go_wp2_with fail
  refine (HF.out _).mono ?_
  generalize ((w.alloc (.cells #[.int .i64 x.g0, .int .i64 x.g1, .int .i64 x.g2, .int .i64 x.g3, .int .i64 x.l, .int .i64 x.s, .int .i64 x.d] 24)).alloc (.cells #[.int .i64 t.k, .int .i64 t.a, .int .i64 t.b, .int .i64 t.c, .int .i64 t.p, .int .i64 t.n] 38)).alloc (.cells #[.int .i64 0, .int .i64 0, .int .i64 0, .int .i64 0, .int .i64 0, .int .i64 0, .int .i64 0] 24) = W0 at *
  rintro e w1 ⟨rfl, b1⟩
  have B1 : Hid (Below w.heap.size w w1) := Lib.hid (B0.out.trans (b1.mono B0.out.size))
  have HB1 := Lib.hid ((HB0.out.keep b1).keep (below_one w1 (.cells #[.int .i64 x.g0, .int .i64 x.g1, .int .i64 x.g2, .int .i64 x.g3, .int .i64 x.l, .int .i64 x.s, .int .i64 x.d] 74)))
  have HK1 := Lib.hid ((HK0.out.keep b1).keep (below_one w1 (.cells #[.int .i64 x.g0, .int .i64 x.g1, .int .i64 x.g2, .int .i64 x.g3, .int .i64 x.l, .int .i64 x.s, .int .i64 x.d] 74)))
  have HS1 := Lib.hid ((HS0.out.keep b1).keep (below_one w1 (.cells #[.int .i64 x.g0, .int .i64 x.g1, .int .i64 x.g2, .int .i64 x.g3, .int .i64 x.l, .int .i64 x.s, .int .i64 x.d] 74)))
  have hw1 : w.heap.size + 2 < w1.heap.size := (HS0.out.keep b1).lt
  have B2 : Hid (Below w.heap.size w (w1.alloc (.cells #[.int .i64 x.g0, .int .i64 x.g1, .int .i64 x.g2, .int .i64 x.g3, .int .i64 x.l, .int .i64 x.s, .int .i64 x.d] 74))) := Lib.hid (B1.out.alloc B1.out.size _)
  have HM := Lib.hid (MAt.new w1 x)
  have HT2 := Lib.hid (HT.out.keep B2.out)
  clear b1 HB0 HK0 HS0 B0
  go_wp2_with fail
  refine (HO.out w1.heap.size _ HM.out HT2.out).mono ?_
  generalize w1.alloc (.cells #[.int .i64 x.g0, .int .i64 x.g1, .int .i64 x.g2, .int .i64 x.g3, .int .i64 x.l, .int .i64 x.s, .int .i64 x.d] 74) = W1 at *
  rintro e W2 ⟨rfl, b2⟩
  have B3 : Hid (Below w.heap.size w W2) := Lib.hid (B2.out.trans (b2.mono B2.out.size))
  have HK3 := Lib.hid (HK1.out.keep b2)
  have HS3 := Lib.hid (HS1.out.keep b2)
  have HM3 := Lib.hid (HM.out.keep b2)
  have HT3 := Lib.hid (HT2.out.keep b2)
  have hb3 : w1.heap.size < W2.heap.size := HM3.out.lt
  clear b2 B2 HM HT2 HB1 HS1 HK1
  have ⟨t0, t1, t2, t3, t4, t5⟩ := HK3.out.cells
  go_wp2_with fail
  refine (HTK.out _).mono ?_
  clear t0 t1 t2 t3 t4 t5
  rintro e W4 ⟨rfl, b4⟩
  have B4 : Hid (Below w.heap.size w W4) := Lib.hid (B3.out.trans (b4.mono B3.out.size))
  have HK4 := Lib.hid (HK3.out.keep b4)
  have HS4 := Lib.hid (HS3.out.keep b4)
  have HM4 := Lib.hid (HM3.out.keep b4)
  have HT4 := Lib.hid (HT3.out.keep b4)
  clear b4 B3 HS3 HM3 HT3 HK3 hb3
  have ⟨t0, t1, t2, t3, t4, t5⟩ := HK4.out.cells
  go_wp2_with fail
  refine (HG.out w1.heap.size W4 HM4.out HT4.out).mono ?_
  clear t0 t1 t2 t3 t4 t5
  rintro e W5 ⟨rfl, HM5, O5⟩
  have HS5 : Hid (StAt W5 (w.heap.size + 2) zeroSt) := Lib.hid ((O5.2 _ (by omega) HS4.out.lt).trans HS4.out)
  have B5 : Hid (Below w.heap.size w W5) := Lib.hid (B4.out.trans (O5.1.mono (by omega)))
  go_wp2_with fail
  refine (HST.out q.y w1.heap.size W5 HM5).mono ?_
  rintro e W6 ⟨rfl, b6⟩
  have B6 : Hid (Below w.heap.size w W6) := Lib.hid (B5.out.trans (b6.mono B5.out.size))
  have HS6 := Lib.hid (HS5.out.keep b6)
  have ⟨r0, r1, r2, r3, r4, r5, r6⟩ := HS6.out.cells
  have ⟨z0, z1, z2, z3, z4, z5, z6⟩ := HS6.out.thaw
  simp only [zeroSt] at r0 r1 r2 r3 r4 r5 r6
  have hl : w.heap.size + 2 < W6.heap.size := HS6.out.lt
  clear b6 O5 HM5
  go_wp2
  exact st_ret4 (y := q.y) (r := .int .i64 tr) (m := .bool tb) (c := .int .i64 q.c) rfl rfl rfl rfl rfl (HS6.out.put q.y) Tryd.underlying24 rfl (by kernel_rfl) rfl ⟨by rw [HE.out], below_putSt B6.out (by omega) q.y⟩

end Go.Proofs.YtanceljhdccepaaDoor
