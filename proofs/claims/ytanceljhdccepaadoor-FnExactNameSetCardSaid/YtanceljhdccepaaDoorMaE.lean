/- The program's NameSet. -/
import Derived.Test.YtanceljhdccepaaDoorMaD
import Derived.Test.YtanceljhdccepaaDoorStE
namespace Go.Proofs.YtanceljhdccepaaDoor
open Go.RowKit Go.Sort

set_option maxHeartbeats 2000000 in
set_option maxRecDepth 100000 in
theorem impl_NameSet (x : St) (g n : Int) (w : World) (ht : TabM w) (hw : Wide64 x) : Calls Tryd.prog 23 #[stV x, .int .i64 g, .int .i64 n] w (NsDone x g n w) := by
  have HF := Lib.hid (fun w => impl_machineOf x w)
  have HO := Lib.hid (fun b w h ht => impl_ok x b w h ht hw.1 hw.2)
  have HT := Lib.hid ht
  have HP := Lib.hid (fun b w h => impl_pending x b w h)
  have HEO := Lib.hid (fun w ht => impl_EscapeOf g n w ht)
  have HST := Lib.hid (fun y b w h => impl_state y b w h)
  have B0 := Lib.hid (below_two w (.cells #[.int .i64 x.g0, .int .i64 x.g1, .int .i64 x.g2, .int .i64 x.g3, .int .i64 x.l, .int .i64 x.s, .int .i64 x.d] 24) (.cells #[.int .i64 0, .int .i64 0, .int .i64 0, .int .i64 0, .int .i64 0, .int .i64 0, .int .i64 0] 24))
  have HB0 : Hid (StAt ((w.alloc (.cells #[.int .i64 x.g0, .int .i64 x.g1, .int .i64 x.g2, .int .i64 x.g3, .int .i64 x.l, .int .i64 x.s, .int .i64 x.d] 24)).alloc (.cells #[.int .i64 0, .int .i64 0, .int .i64 0, .int .i64 0, .int .i64 0, .int .i64 0, .int .i64 0] 24)) w.heap.size x) := Lib.hid (heap_alloc2_old _ _ _)
  have HS0 : Hid (StAt ((w.alloc (.cells #[.int .i64 x.g0, .int .i64 x.g1, .int .i64 x.g2, .int .i64 x.g3, .int .i64 x.l, .int .i64 x.s, .int .i64 x.d] 24)).alloc (.cells #[.int .i64 0, .int .i64 0, .int .i64 0, .int .i64 0, .int .i64 0, .int .i64 0, .int .i64 0] 24)) (w.heap.size + 1) zeroSt) := Lib.hid (heap_alloc2_new _ _ _)
  clear ht hw
  unfold StDone stV at HF HST
  unfold stV
  cases ho : stOKB x
  · have HC : Hid (nsC x g n = 1) := Lib.hid (by simp [nsC, ho])
    have HE : Hid (nsX x g n = zeroSt) := Lib.hid (by simp [nsX, HC.out])
    rw [ho] at HO
    go_enter Tryd.func23, Tryd.ntmps23
    go_wp2_with fail
    refine (HF.out _).mono ?_
    generalize (w.alloc (.cells #[.int .i64 x.g0, .int .i64 x.g1, .int .i64 x.g2, .int .i64 x.g3, .int .i64 x.l, .int .i64 x.s, .int .i64 x.d] 24)).alloc (.cells #[.int .i64 0, .int .i64 0, .int .i64 0, .int .i64 0, .int .i64 0, .int .i64 0, .int .i64 0] 24) = W0 at *
    rintro e w1 ⟨rfl, b1⟩
    have B1 : Hid (Below w.heap.size w w1) := Lib.hid (B0.out.trans (b1.mono B0.out.size))
    have HB1 := Lib.hid ((HB0.out.keep b1).keep (below_one w1 (.cells #[.int .i64 x.g0, .int .i64 x.g1, .int .i64 x.g2, .int .i64 x.g3, .int .i64 x.l, .int .i64 x.s, .int .i64 x.d] 74)))
    have HS1 := Lib.hid ((HS0.out.keep b1).keep (below_one w1 (.cells #[.int .i64 x.g0, .int .i64 x.g1, .int .i64 x.g2, .int .i64 x.g3, .int .i64 x.l, .int .i64 x.s, .int .i64 x.d] 74)))
    have B2 : Hid (Below w.heap.size w (w1.alloc (.cells #[.int .i64 x.g0, .int .i64 x.g1, .int .i64 x.g2, .int .i64 x.g3, .int .i64 x.l, .int .i64 x.s, .int .i64 x.d] 74))) := Lib.hid (B1.out.alloc B1.out.size _)
    have HM := Lib.hid (MAt.new w1 x)
    have HT2 := Lib.hid (HT.out.keep B2.out)
    have hw1 : w.heap.size + 1 < w1.heap.size := (HS0.out.keep b1).lt
    clear b1 HB0 HS0
    go_wp2_with fail
    refine (HO.out w1.heap.size _ HM.out HT2.out).mono ?_
    generalize w1.alloc (.cells #[.int .i64 x.g0, .int .i64 x.g1, .int .i64 x.g2, .int .i64 x.g3, .int .i64 x.l, .int .i64 x.s, .int .i64 x.d] 74) = W1 at *
    rintro e W2 ⟨rfl, b2⟩
    have B3 : Hid (Below w.heap.size w W2) := Lib.hid (B2.out.trans (b2.mono B2.out.size))
    have HB3 := Lib.hid (HB1.out.keep b2)
    have HS3 := Lib.hid (HS1.out.keep b2)
    have HM3 := Lib.hid (HM.out.keep b2)
    have HT3 := Lib.hid (HT2.out.keep b2)
    have hb3 : w1.heap.size < W2.heap.size := HM3.out.lt
    clear b2 B2 HM HT2 HB1 HS1
    have ⟨r0, r1, r2, r3, r4, r5, r6⟩ := HS3.out.cells
    have ⟨z0, z1, z2, z3, z4, z5, z6⟩ := HS3.out.thaw
    simp only [zeroSt] at r0 r1 r2 r3 r4 r5 r6
    have hl : w.heap.size + 1 < W2.heap.size := HS3.out.lt
    go_wp2
    exact st_ret2 (y := zeroSt) rfl rfl rfl (HS3.out.put zeroSt) Tryd.underlying24 rfl (by kernel_rfl) rfl ⟨by rw [HC.out, HE.out], below_putSt B3.out (Nat.le_succ _) zeroSt⟩
  rw [ho] at HO
  unfold eoV at HEO
  generalize eoT g n = et at *
  by_cases he : eoC g n = 0
  · have ⟨g0, g3⟩ := eoC_in he
    rw [he] at HEO
    cases hp : pendI x
    · have HC : Hid (nsC x g n = 0) := Lib.hid (by rw [pend_eq ho] at hp; simp [nsC, ho, he, hp])
      have HE : Hid (nsX x g n = stPut x g n) := Lib.hid (by simp [nsX, HC.out])
      rw [hp] at HP
      clear hp he
      go_enter Tryd.func23, Tryd.ntmps23
      go_wp2_with fail
      refine (HF.out _).mono ?_
      generalize (w.alloc (.cells #[.int .i64 x.g0, .int .i64 x.g1, .int .i64 x.g2, .int .i64 x.g3, .int .i64 x.l, .int .i64 x.s, .int .i64 x.d] 24)).alloc (.cells #[.int .i64 0, .int .i64 0, .int .i64 0, .int .i64 0, .int .i64 0, .int .i64 0, .int .i64 0] 24) = W0 at *
      rintro e w1 ⟨rfl, b1⟩
      have B1 : Hid (Below w.heap.size w w1) := Lib.hid (B0.out.trans (b1.mono B0.out.size))
      have HB1 := Lib.hid ((HB0.out.keep b1).keep (below_one w1 (.cells #[.int .i64 x.g0, .int .i64 x.g1, .int .i64 x.g2, .int .i64 x.g3, .int .i64 x.l, .int .i64 x.s, .int .i64 x.d] 74)))
      have HS1 := Lib.hid ((HS0.out.keep b1).keep (below_one w1 (.cells #[.int .i64 x.g0, .int .i64 x.g1, .int .i64 x.g2, .int .i64 x.g3, .int .i64 x.l, .int .i64 x.s, .int .i64 x.d] 74)))
      have B2 : Hid (Below w.heap.size w (w1.alloc (.cells #[.int .i64 x.g0, .int .i64 x.g1, .int .i64 x.g2, .int .i64 x.g3, .int .i64 x.l, .int .i64 x.s, .int .i64 x.d] 74))) := Lib.hid (B1.out.alloc B1.out.size _)
      have HM := Lib.hid (MAt.new w1 x)
      have HT2 := Lib.hid (HT.out.keep B2.out)
      have hw1 : w.heap.size + 1 < w1.heap.size := (HS0.out.keep b1).lt
      clear b1 HB0 HS0
      go_wp2_with fail
      refine (HO.out w1.heap.size _ HM.out HT2.out).mono ?_
      generalize w1.alloc (.cells #[.int .i64 x.g0, .int .i64 x.g1, .int .i64 x.g2, .int .i64 x.g3, .int .i64 x.l, .int .i64 x.s, .int .i64 x.d] 74) = W1 at *
      rintro e W2 ⟨rfl, b2⟩
      have B3 : Hid (Below w.heap.size w W2) := Lib.hid (B2.out.trans (b2.mono B2.out.size))
      have HB3 := Lib.hid (HB1.out.keep b2)
      have HS3 := Lib.hid (HS1.out.keep b2)
      have HM3 := Lib.hid (HM.out.keep b2)
      have HT3 := Lib.hid (HT2.out.keep b2)
      have hb3 : w1.heap.size < W2.heap.size := HM3.out.lt
      clear b2 B2 HM HT2 HB1 HS1
      go_wp2_with fail
      refine (HEO.out _ HT3.out.1).mono ?_
      rintro e W4 ⟨rfl, b4⟩
      have B4 : Hid (Below w.heap.size w W4) := Lib.hid (B3.out.trans (b4.mono B3.out.size))
      have HB4 := Lib.hid (HB3.out.keep b4)
      have HS4 := Lib.hid (HS3.out.keep b4)
      have HM4 := Lib.hid (HM3.out.keep b4)
      clear b4 B3 HB3 HS3 HM3 HT3 hb3
      go_wp2_with fail
      refine (HP.out _ _ HM4.out).mono ?_
      rintro e W5 ⟨rfl, rfl⟩
      have ⟨y0, y1, y2, y3, y4, y5, y6⟩ := HM4.out.cells
      have ⟨q0, q1, q2, q3, q4, q5, q6⟩ := HM4.out.thaw
      have hl6 : w1.heap.size < W4.heap.size := HM4.out.lt
      have : g = 0 ∨ g = 1 ∨ g = 2 ∨ g = 3 := by omega
      clear g0 g3
      rcases this with rfl | rfl | rfl | rfl
      · have HP2 : Hid (stPut x 0 n = ⟨n, x.g1, x.g2, x.g3, x.l, x.s, x.d⟩) := Lib.hid rfl
        have HM5 : Hid (MAt (W4.setCell ⟨w1.heap.size, 0, none⟩ (.int .i64 n)) w1.heap.size ⟨n, x.g1, x.g2, x.g3, x.l, x.s, x.d⟩) := Lib.hid (heap_setCell_same _ _ 0 _ _ (.int .i64 n) HM4.out)
        have HS5 : Hid (StAt (W4.setCell ⟨w1.heap.size, 0, none⟩ (.int .i64 n)) (w.heap.size + 1) zeroSt) := Lib.hid (by
          unfold StAt
          rw [Below.heap_setCell _ _ _ _ (by simp; omega)]
          exact HS4.out)
        have B5 : Hid (Below w.heap.size w (W4.setCell ⟨w1.heap.size, 0, none⟩ (.int .i64 n))) := Lib.hid (B4.out.setCell (show w.heap.size ≤ w1.heap.size by omega) _)
        go_wp2_with fail
        refine (HST.out ⟨n, x.g1, x.g2, x.g3, x.l, x.s, x.d⟩ w1.heap.size _ HM5.out).mono ?_
        clear y0 y1 y2 y3 y4 y5 y6 q0 q1 q2 q3 q4 q5 q6 hl6
        generalize W4.setCell ⟨w1.heap.size, 0, none⟩ (.int .i64 n) = W5 at *
        rintro e W6 ⟨rfl, b6⟩
        have B6 : Hid (Below w.heap.size w W6) := Lib.hid (B5.out.trans (b6.mono B5.out.size))
        have HS6 := Lib.hid (HS5.out.keep b6)
        have ⟨r0, r1, r2, r3, r4, r5, r6⟩ := HS6.out.cells
        have ⟨z0, z1, z2, z3, z4, z5, z6⟩ := HS6.out.thaw
        simp only [zeroSt] at r0 r1 r2 r3 r4 r5 r6
        have hl : w.heap.size + 1 < W6.heap.size := HS6.out.lt
        dsimp only
        go_wp2
        exact st_ret2 (y := ⟨n, x.g1, x.g2, x.g3, x.l, x.s, x.d⟩) rfl rfl rfl (HS6.out.put ⟨n, x.g1, x.g2, x.g3, x.l, x.s, x.d⟩) Tryd.underlying24 rfl (by kernel_rfl) rfl ⟨by rw [HC.out, HE.out, HP2.out], below_putSt B6.out (Nat.le_succ _) ⟨n, x.g1, x.g2, x.g3, x.l, x.s, x.d⟩⟩
      · have HP2 : Hid (stPut x 1 n = ⟨x.g0, n, x.g2, x.g3, x.l, x.s, x.d⟩) := Lib.hid rfl
        have HM5 : Hid (MAt (W4.setCell ⟨w1.heap.size, 1, none⟩ (.int .i64 n)) w1.heap.size ⟨x.g0, n, x.g2, x.g3, x.l, x.s, x.d⟩) := Lib.hid (heap_setCell_same _ _ 1 _ _ (.int .i64 n) HM4.out)
        have HS5 : Hid (StAt (W4.setCell ⟨w1.heap.size, 1, none⟩ (.int .i64 n)) (w.heap.size + 1) zeroSt) := Lib.hid (by
          unfold StAt
          rw [Below.heap_setCell _ _ _ _ (by simp; omega)]
          exact HS4.out)
        have B5 : Hid (Below w.heap.size w (W4.setCell ⟨w1.heap.size, 1, none⟩ (.int .i64 n))) := Lib.hid (B4.out.setCell (show w.heap.size ≤ w1.heap.size by omega) _)
        go_wp2_with fail
        refine (HST.out ⟨x.g0, n, x.g2, x.g3, x.l, x.s, x.d⟩ w1.heap.size _ HM5.out).mono ?_
        clear y0 y1 y2 y3 y4 y5 y6 q0 q1 q2 q3 q4 q5 q6 hl6
        generalize W4.setCell ⟨w1.heap.size, 1, none⟩ (.int .i64 n) = W5 at *
        rintro e W6 ⟨rfl, b6⟩
        have B6 : Hid (Below w.heap.size w W6) := Lib.hid (B5.out.trans (b6.mono B5.out.size))
        have HS6 := Lib.hid (HS5.out.keep b6)
        have ⟨r0, r1, r2, r3, r4, r5, r6⟩ := HS6.out.cells
        have ⟨z0, z1, z2, z3, z4, z5, z6⟩ := HS6.out.thaw
        simp only [zeroSt] at r0 r1 r2 r3 r4 r5 r6
        have hl : w.heap.size + 1 < W6.heap.size := HS6.out.lt
        dsimp only
        go_wp2
        exact st_ret2 (y := ⟨x.g0, n, x.g2, x.g3, x.l, x.s, x.d⟩) rfl rfl rfl (HS6.out.put ⟨x.g0, n, x.g2, x.g3, x.l, x.s, x.d⟩) Tryd.underlying24 rfl (by kernel_rfl) rfl ⟨by rw [HC.out, HE.out, HP2.out], below_putSt B6.out (Nat.le_succ _) ⟨x.g0, n, x.g2, x.g3, x.l, x.s, x.d⟩⟩
      · have HP2 : Hid (stPut x 2 n = ⟨x.g0, x.g1, n, x.g3, x.l, x.s, x.d⟩) := Lib.hid rfl
        have HM5 : Hid (MAt (W4.setCell ⟨w1.heap.size, 2, none⟩ (.int .i64 n)) w1.heap.size ⟨x.g0, x.g1, n, x.g3, x.l, x.s, x.d⟩) := Lib.hid (heap_setCell_same _ _ 2 _ _ (.int .i64 n) HM4.out)
        have HS5 : Hid (StAt (W4.setCell ⟨w1.heap.size, 2, none⟩ (.int .i64 n)) (w.heap.size + 1) zeroSt) := Lib.hid (by
          unfold StAt
          rw [Below.heap_setCell _ _ _ _ (by simp; omega)]
          exact HS4.out)
        have B5 : Hid (Below w.heap.size w (W4.setCell ⟨w1.heap.size, 2, none⟩ (.int .i64 n))) := Lib.hid (B4.out.setCell (show w.heap.size ≤ w1.heap.size by omega) _)
        go_wp2_with fail
        refine (HST.out ⟨x.g0, x.g1, n, x.g3, x.l, x.s, x.d⟩ w1.heap.size _ HM5.out).mono ?_
        clear y0 y1 y2 y3 y4 y5 y6 q0 q1 q2 q3 q4 q5 q6 hl6
        generalize W4.setCell ⟨w1.heap.size, 2, none⟩ (.int .i64 n) = W5 at *
        rintro e W6 ⟨rfl, b6⟩
        have B6 : Hid (Below w.heap.size w W6) := Lib.hid (B5.out.trans (b6.mono B5.out.size))
        have HS6 := Lib.hid (HS5.out.keep b6)
        have ⟨r0, r1, r2, r3, r4, r5, r6⟩ := HS6.out.cells
        have ⟨z0, z1, z2, z3, z4, z5, z6⟩ := HS6.out.thaw
        simp only [zeroSt] at r0 r1 r2 r3 r4 r5 r6
        have hl : w.heap.size + 1 < W6.heap.size := HS6.out.lt
        dsimp only
        go_wp2
        exact st_ret2 (y := ⟨x.g0, x.g1, n, x.g3, x.l, x.s, x.d⟩) rfl rfl rfl (HS6.out.put ⟨x.g0, x.g1, n, x.g3, x.l, x.s, x.d⟩) Tryd.underlying24 rfl (by kernel_rfl) rfl ⟨by rw [HC.out, HE.out, HP2.out], below_putSt B6.out (Nat.le_succ _) ⟨x.g0, x.g1, n, x.g3, x.l, x.s, x.d⟩⟩
      · have HP2 : Hid (stPut x 3 n = ⟨x.g0, x.g1, x.g2, n, x.l, x.s, x.d⟩) := Lib.hid rfl
        have HM5 : Hid (MAt (W4.setCell ⟨w1.heap.size, 3, none⟩ (.int .i64 n)) w1.heap.size ⟨x.g0, x.g1, x.g2, n, x.l, x.s, x.d⟩) := Lib.hid (heap_setCell_same _ _ 3 _ _ (.int .i64 n) HM4.out)
        have HS5 : Hid (StAt (W4.setCell ⟨w1.heap.size, 3, none⟩ (.int .i64 n)) (w.heap.size + 1) zeroSt) := Lib.hid (by
          unfold StAt
          rw [Below.heap_setCell _ _ _ _ (by simp; omega)]
          exact HS4.out)
        have B5 : Hid (Below w.heap.size w (W4.setCell ⟨w1.heap.size, 3, none⟩ (.int .i64 n))) := Lib.hid (B4.out.setCell (show w.heap.size ≤ w1.heap.size by omega) _)
        go_wp2_with fail
        refine (HST.out ⟨x.g0, x.g1, x.g2, n, x.l, x.s, x.d⟩ w1.heap.size _ HM5.out).mono ?_
        clear y0 y1 y2 y3 y4 y5 y6 q0 q1 q2 q3 q4 q5 q6 hl6
        generalize W4.setCell ⟨w1.heap.size, 3, none⟩ (.int .i64 n) = W5 at *
        rintro e W6 ⟨rfl, b6⟩
        have B6 : Hid (Below w.heap.size w W6) := Lib.hid (B5.out.trans (b6.mono B5.out.size))
        have HS6 := Lib.hid (HS5.out.keep b6)
        have ⟨r0, r1, r2, r3, r4, r5, r6⟩ := HS6.out.cells
        have ⟨z0, z1, z2, z3, z4, z5, z6⟩ := HS6.out.thaw
        simp only [zeroSt] at r0 r1 r2 r3 r4 r5 r6
        have hl : w.heap.size + 1 < W6.heap.size := HS6.out.lt
        dsimp only
        go_wp2
        exact st_ret2 (y := ⟨x.g0, x.g1, x.g2, n, x.l, x.s, x.d⟩) rfl rfl rfl (HS6.out.put ⟨x.g0, x.g1, x.g2, n, x.l, x.s, x.d⟩) Tryd.underlying24 rfl (by kernel_rfl) rfl ⟨by rw [HC.out, HE.out, HP2.out], below_putSt B6.out (Nat.le_succ _) ⟨x.g0, x.g1, x.g2, n, x.l, x.s, x.d⟩⟩
    · have HC : Hid (nsC x g n = 13) := Lib.hid (by rw [pend_eq ho] at hp; simp [nsC, ho, he, hp])
      have HE : Hid (nsX x g n = x) := Lib.hid (by simp [nsX, HC.out])
      rw [hp] at HP
      clear hp he
      go_enter Tryd.func23, Tryd.ntmps23
      go_wp2_with fail
      refine (HF.out _).mono ?_
      generalize (w.alloc (.cells #[.int .i64 x.g0, .int .i64 x.g1, .int .i64 x.g2, .int .i64 x.g3, .int .i64 x.l, .int .i64 x.s, .int .i64 x.d] 24)).alloc (.cells #[.int .i64 0, .int .i64 0, .int .i64 0, .int .i64 0, .int .i64 0, .int .i64 0, .int .i64 0] 24) = W0 at *
      rintro e w1 ⟨rfl, b1⟩
      have B1 : Hid (Below w.heap.size w w1) := Lib.hid (B0.out.trans (b1.mono B0.out.size))
      have HB1 := Lib.hid ((HB0.out.keep b1).keep (below_one w1 (.cells #[.int .i64 x.g0, .int .i64 x.g1, .int .i64 x.g2, .int .i64 x.g3, .int .i64 x.l, .int .i64 x.s, .int .i64 x.d] 74)))
      have HS1 := Lib.hid ((HS0.out.keep b1).keep (below_one w1 (.cells #[.int .i64 x.g0, .int .i64 x.g1, .int .i64 x.g2, .int .i64 x.g3, .int .i64 x.l, .int .i64 x.s, .int .i64 x.d] 74)))
      have B2 : Hid (Below w.heap.size w (w1.alloc (.cells #[.int .i64 x.g0, .int .i64 x.g1, .int .i64 x.g2, .int .i64 x.g3, .int .i64 x.l, .int .i64 x.s, .int .i64 x.d] 74))) := Lib.hid (B1.out.alloc B1.out.size _)
      have HM := Lib.hid (MAt.new w1 x)
      have HT2 := Lib.hid (HT.out.keep B2.out)
      have hw1 : w.heap.size + 1 < w1.heap.size := (HS0.out.keep b1).lt
      clear b1 HB0 HS0
      go_wp2_with fail
      refine (HO.out w1.heap.size _ HM.out HT2.out).mono ?_
      generalize w1.alloc (.cells #[.int .i64 x.g0, .int .i64 x.g1, .int .i64 x.g2, .int .i64 x.g3, .int .i64 x.l, .int .i64 x.s, .int .i64 x.d] 74) = W1 at *
      rintro e W2 ⟨rfl, b2⟩
      have B3 : Hid (Below w.heap.size w W2) := Lib.hid (B2.out.trans (b2.mono B2.out.size))
      have HB3 := Lib.hid (HB1.out.keep b2)
      have HS3 := Lib.hid (HS1.out.keep b2)
      have HM3 := Lib.hid (HM.out.keep b2)
      have HT3 := Lib.hid (HT2.out.keep b2)
      have hb3 : w1.heap.size < W2.heap.size := HM3.out.lt
      clear b2 B2 HM HT2 HB1 HS1
      go_wp2_with fail
      refine (HEO.out _ HT3.out.1).mono ?_
      rintro e W4 ⟨rfl, b4⟩
      have B4 : Hid (Below w.heap.size w W4) := Lib.hid (B3.out.trans (b4.mono B3.out.size))
      have HB4 := Lib.hid (HB3.out.keep b4)
      have HS4 := Lib.hid (HS3.out.keep b4)
      have HM4 := Lib.hid (HM3.out.keep b4)
      clear b4 B3 HB3 HS3 HM3 HT3 hb3
      go_wp2_with fail
      refine (HP.out _ _ HM4.out).mono ?_
      rintro e W5 ⟨rfl, rfl⟩
      have ⟨y0, y1, y2, y3, y4, y5, y6⟩ := HB4.out.cells
      have ⟨r0, r1, r2, r3, r4, r5, r6⟩ := HS4.out.cells
      have ⟨z0, z1, z2, z3, z4, z5, z6⟩ := HS4.out.thaw
      simp only [zeroSt] at r0 r1 r2 r3 r4 r5 r6
      have hl : w.heap.size + 1 < W4.heap.size := HS4.out.lt
      go_wp2
      exact st_ret2 (y := x) rfl rfl rfl (HS4.out.put x) Tryd.underlying24 rfl (by kernel_rfl) rfl ⟨by rw [HC.out, HE.out], below_putSt B4.out (Nat.le_succ _) x⟩
  · have HC : Hid (nsC x g n = eoC g n) := Lib.hid (by simp [nsC, ho, he])
    have HE : Hid (nsX x g n = zeroSt) := Lib.hid (by
      rw [nsX, HC.out, if_neg he, if_neg (by have := eoC_vals g n; omega)])
    generalize eoC g n = c at *
    have ec : (c != 0) = true := by simpa using he
    clear he
    go_enter Tryd.func23, Tryd.ntmps23
    go_wp2_with fail
    refine (HF.out _).mono ?_
    generalize (w.alloc (.cells #[.int .i64 x.g0, .int .i64 x.g1, .int .i64 x.g2, .int .i64 x.g3, .int .i64 x.l, .int .i64 x.s, .int .i64 x.d] 24)).alloc (.cells #[.int .i64 0, .int .i64 0, .int .i64 0, .int .i64 0, .int .i64 0, .int .i64 0, .int .i64 0] 24) = W0 at *
    rintro e w1 ⟨rfl, b1⟩
    have B1 : Hid (Below w.heap.size w w1) := Lib.hid (B0.out.trans (b1.mono B0.out.size))
    have HB1 := Lib.hid ((HB0.out.keep b1).keep (below_one w1 (.cells #[.int .i64 x.g0, .int .i64 x.g1, .int .i64 x.g2, .int .i64 x.g3, .int .i64 x.l, .int .i64 x.s, .int .i64 x.d] 74)))
    have HS1 := Lib.hid ((HS0.out.keep b1).keep (below_one w1 (.cells #[.int .i64 x.g0, .int .i64 x.g1, .int .i64 x.g2, .int .i64 x.g3, .int .i64 x.l, .int .i64 x.s, .int .i64 x.d] 74)))
    have B2 : Hid (Below w.heap.size w (w1.alloc (.cells #[.int .i64 x.g0, .int .i64 x.g1, .int .i64 x.g2, .int .i64 x.g3, .int .i64 x.l, .int .i64 x.s, .int .i64 x.d] 74))) := Lib.hid (B1.out.alloc B1.out.size _)
    have HM := Lib.hid (MAt.new w1 x)
    have HT2 := Lib.hid (HT.out.keep B2.out)
    have hw1 : w.heap.size + 1 < w1.heap.size := (HS0.out.keep b1).lt
    clear b1 HB0 HS0
    go_wp2_with fail
    refine (HO.out w1.heap.size _ HM.out HT2.out).mono ?_
    generalize w1.alloc (.cells #[.int .i64 x.g0, .int .i64 x.g1, .int .i64 x.g2, .int .i64 x.g3, .int .i64 x.l, .int .i64 x.s, .int .i64 x.d] 74) = W1 at *
    rintro e W2 ⟨rfl, b2⟩
    have B3 : Hid (Below w.heap.size w W2) := Lib.hid (B2.out.trans (b2.mono B2.out.size))
    have HB3 := Lib.hid (HB1.out.keep b2)
    have HS3 := Lib.hid (HS1.out.keep b2)
    have HM3 := Lib.hid (HM.out.keep b2)
    have HT3 := Lib.hid (HT2.out.keep b2)
    have hb3 : w1.heap.size < W2.heap.size := HM3.out.lt
    clear b2 B2 HM HT2 HB1 HS1
    go_wp2_with fail
    refine (HEO.out _ HT3.out.1).mono ?_
    rintro e W4 ⟨rfl, b4⟩
    have B4 : Hid (Below w.heap.size w W4) := Lib.hid (B3.out.trans (b4.mono B3.out.size))
    have HB4 := Lib.hid (HB3.out.keep b4)
    have HS4 := Lib.hid (HS3.out.keep b4)
    have HM4 := Lib.hid (HM3.out.keep b4)
    clear b4 B3 HB3 HS3 HM3 HT3 hb3
    have ⟨r0, r1, r2, r3, r4, r5, r6⟩ := HS4.out.cells
    have ⟨z0, z1, z2, z3, z4, z5, z6⟩ := HS4.out.thaw
    simp only [zeroSt] at r0 r1 r2 r3 r4 r5 r6
    have hl : w.heap.size + 1 < W4.heap.size := HS4.out.lt
    go_wp2
    exact st_ret2 (y := zeroSt) rfl rfl rfl (HS4.out.put zeroSt) Tryd.underlying24 rfl (by kernel_rfl) rfl ⟨by rw [HC.out, HE.out], below_putSt B4.out (Nat.le_succ _) zeroSt⟩

end Go.Proofs.YtanceljhdccepaaDoor
