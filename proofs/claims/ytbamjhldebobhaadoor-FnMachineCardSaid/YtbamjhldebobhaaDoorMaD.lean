/- The program's Pending, RegisterOf. -/
import Derived.Test.YtbamjhldebobhaaDoorMaC
import Derived.Test.YtbamjhldebobhaaDoorStN
namespace Go.Proofs.YtbamjhldebobhaaDoor
open Go.RowKit Go.Sort

theorem pend_eq {x : St} (h : stOKB x = true) : pendI x = pendB x := by
  obtain ⟨_, h2, h3⟩ := stOK_parts h
  have a := (head_parts h2).2
  have b := lead_range h3
  unfold pendI pendB
  have e1 : (x.s != 0) = decide (0 < x.s) := by
    rw [Bool.eq_iff_iff]; simp; omega
  have e2 : (x.d != 0) = decide (0 < x.d) := by
    rw [Bool.eq_iff_iff]; simp; omega
  rw [e1, e2]

set_option maxHeartbeats 1000000 in
set_option maxRecDepth 100000 in
theorem impl_Pending (x : St) (w : World) (ht : TabM w) (hw : Wide64 x) : Calls Tryd.prog 13 #[stV x] w fun e w' => e = .returned (.bool (peB x)) ∧ Below w.heap.size w w' := by
  have HF := Lib.hid (fun w => impl_machineOf x w)
  have HO := Lib.hid (fun b w h ht => impl_ok x b w h ht hw.1 hw.2)
  have HT := Lib.hid ht
  have B0 := Lib.hid (below_one w (.cells #[.int .i64 x.g0, .int .i64 x.g1, .int .i64 x.g2, .int .i64 x.g3, .int .i64 x.l, .int .i64 x.s, .int .i64 x.d] 24))
  clear ht hw
  unfold StDone stV at HF
  have HP := Lib.hid (fun b w h => impl_pending x b w h)
  unfold stV
  cases ho : stOKB x
  · have HE : Hid (peB x = false) := Lib.hid (by rw [peB, ho]; rfl)
    rw [ho] at HO
    go_enter Tryd.func13, Tryd.ntmps13
    go_wp2_with fail
    refine (HF.out _).mono ?_
    rintro e w1 ⟨rfl, b1⟩
    have B1 : Hid (Below w.heap.size w w1) := Lib.hid (B0.out.trans (b1.mono B0.out.size))
    have B2 : Hid (Below w.heap.size w (w1.alloc (.cells #[.int .i64 x.g0, .int .i64 x.g1, .int .i64 x.g2, .int .i64 x.g3, .int .i64 x.l, .int .i64 x.s, .int .i64 x.d] 52))) := Lib.hid (B1.out.alloc B1.out.size _)
    have HM := Lib.hid (MAt.new w1 x)
    have HT2 := Lib.hid (HT.out.keep B2.out)
    clear b1
    go_wp2_with fail
    refine (HO.out w1.heap.size _ HM.out HT2.out).mono ?_
    generalize w1.alloc (.cells #[.int .i64 x.g0, .int .i64 x.g1, .int .i64 x.g2, .int .i64 x.g3, .int .i64 x.l, .int .i64 x.s, .int .i64 x.d] 52) = W1 at *
    rintro e w2 ⟨rfl, b2⟩
    have B3 : Hid (Below w.heap.size w w2) := Lib.hid (B2.out.trans (b2.mono B2.out.size))
    have HM3 := Lib.hid (HM.out.keep b2)
    have HT3 := Lib.hid (HT2.out.keep b2)
    have hb3 : w1.heap.size < w2.heap.size := HM3.out.lt
    clear b2 B2 HM HT2
    go_wp2
    go_ret
    exact ⟨ret_bool HE.out.symm, B3.out⟩
  · have HE : Hid (peB x = pendI x) := Lib.hid (by rw [peB, ho, pend_eq ho]; rfl)
    rw [ho] at HO
    go_enter Tryd.func13, Tryd.ntmps13
    go_wp2_with fail
    refine (HF.out _).mono ?_
    rintro e w1 ⟨rfl, b1⟩
    have B1 : Hid (Below w.heap.size w w1) := Lib.hid (B0.out.trans (b1.mono B0.out.size))
    have B2 : Hid (Below w.heap.size w (w1.alloc (.cells #[.int .i64 x.g0, .int .i64 x.g1, .int .i64 x.g2, .int .i64 x.g3, .int .i64 x.l, .int .i64 x.s, .int .i64 x.d] 52))) := Lib.hid (B1.out.alloc B1.out.size _)
    have HM := Lib.hid (MAt.new w1 x)
    have HT2 := Lib.hid (HT.out.keep B2.out)
    clear b1
    go_wp2_with fail
    refine (HO.out w1.heap.size _ HM.out HT2.out).mono ?_
    generalize w1.alloc (.cells #[.int .i64 x.g0, .int .i64 x.g1, .int .i64 x.g2, .int .i64 x.g3, .int .i64 x.l, .int .i64 x.s, .int .i64 x.d] 52) = W1 at *
    rintro e w2 ⟨rfl, b2⟩
    have B3 : Hid (Below w.heap.size w w2) := Lib.hid (B2.out.trans (b2.mono B2.out.size))
    have HM3 := Lib.hid (HM.out.keep b2)
    have HT3 := Lib.hid (HT2.out.keep b2)
    have hb3 : w1.heap.size < w2.heap.size := HM3.out.lt
    clear b2 B2 HM HT2
    go_wp2_with fail
    refine (HP.out _ _ HM3.out).mono ?_
    rintro e w3 ⟨rfl, rfl⟩
    generalize pendI x = pv at *
    go_wp2
    go_ret
    exact ⟨ret_bool HE.out.symm, B3.out⟩

set_option maxHeartbeats 1000000 in
set_option maxRecDepth 100000 in
theorem impl_RegisterOf (x : St) (n : Int) (w : World) (ht : TabM w) (hw : Wide64 x) : Calls Tryd.prog 18 #[stV x, .int .i64 n] w fun e w' => e = .returned (rgoV x n) ∧ Below w.heap.size w w' := by
  have HF := Lib.hid (fun w => impl_machineOf x w)
  have HO := Lib.hid (fun b w h ht => impl_ok x b w h ht hw.1 hw.2)
  have HT := Lib.hid ht
  have B0 := Lib.hid (below_one w (.cells #[.int .i64 x.g0, .int .i64 x.g1, .int .i64 x.g2, .int .i64 x.g3, .int .i64 x.l, .int .i64 x.s, .int .i64 x.d] 24))
  clear ht hw
  unfold StDone stV at HF
  have HI := Lib.hid (fun w => impl_isRegister n w)
  unfold stV
  cases ho : stOKB x
  · have HE := Lib.hid (rgoV_bad (x := x) (n := n) (c := 1) (by simp [rgoC, ho]) (by decide))
    rw [ho] at HO
    go_enter Tryd.func18, Tryd.ntmps18
    go_wp2_with fail
    refine (HF.out _).mono ?_
    rintro e w1 ⟨rfl, b1⟩
    have B1 : Hid (Below w.heap.size w w1) := Lib.hid (B0.out.trans (b1.mono B0.out.size))
    have B2 : Hid (Below w.heap.size w (w1.alloc (.cells #[.int .i64 x.g0, .int .i64 x.g1, .int .i64 x.g2, .int .i64 x.g3, .int .i64 x.l, .int .i64 x.s, .int .i64 x.d] 52))) := Lib.hid (B1.out.alloc B1.out.size _)
    have HM := Lib.hid (MAt.new w1 x)
    have HT2 := Lib.hid (HT.out.keep B2.out)
    clear b1
    go_wp2_with fail
    refine (HO.out w1.heap.size _ HM.out HT2.out).mono ?_
    generalize w1.alloc (.cells #[.int .i64 x.g0, .int .i64 x.g1, .int .i64 x.g2, .int .i64 x.g3, .int .i64 x.l, .int .i64 x.s, .int .i64 x.d] 52) = W1 at *
    rintro e w2 ⟨rfl, b2⟩
    have B3 : Hid (Below w.heap.size w w2) := Lib.hid (B2.out.trans (b2.mono B2.out.size))
    have HM3 := Lib.hid (HM.out.keep b2)
    have HT3 := Lib.hid (HT2.out.keep b2)
    have hb3 : w1.heap.size < w2.heap.size := HM3.out.lt
    clear b2 B2 HM HT2
    go_wp2
    go_ret2
    exact ⟨ret_val HE.out.symm, B3.out⟩
  rw [ho] at HO
  cases hn : inB n 0 3
  · have HE := Lib.hid (rgoV_bad (x := x) (n := n) (c := 4) (by simp [rgoC, ho, hn]) (by decide))
    rw [hn] at HI
    go_enter Tryd.func18, Tryd.ntmps18
    go_wp2_with fail
    refine (HF.out _).mono ?_
    rintro e w1 ⟨rfl, b1⟩
    have B1 : Hid (Below w.heap.size w w1) := Lib.hid (B0.out.trans (b1.mono B0.out.size))
    have B2 : Hid (Below w.heap.size w (w1.alloc (.cells #[.int .i64 x.g0, .int .i64 x.g1, .int .i64 x.g2, .int .i64 x.g3, .int .i64 x.l, .int .i64 x.s, .int .i64 x.d] 52))) := Lib.hid (B1.out.alloc B1.out.size _)
    have HM := Lib.hid (MAt.new w1 x)
    have HT2 := Lib.hid (HT.out.keep B2.out)
    clear b1
    go_wp2_with fail
    refine (HO.out w1.heap.size _ HM.out HT2.out).mono ?_
    generalize w1.alloc (.cells #[.int .i64 x.g0, .int .i64 x.g1, .int .i64 x.g2, .int .i64 x.g3, .int .i64 x.l, .int .i64 x.s, .int .i64 x.d] 52) = W1 at *
    rintro e w2 ⟨rfl, b2⟩
    have B3 : Hid (Below w.heap.size w w2) := Lib.hid (B2.out.trans (b2.mono B2.out.size))
    have HM3 := Lib.hid (HM.out.keep b2)
    have HT3 := Lib.hid (HT2.out.keep b2)
    have hb3 : w1.heap.size < w2.heap.size := HM3.out.lt
    clear b2 B2 HM HT2
    go_wp2_with fail
    refine (HI.out _).mono ?_
    rintro e w3 ⟨rfl, rfl⟩
    go_wp2
    go_ret2
    exact ⟨ret_val HE.out.symm, B3.out⟩
  have HE := Lib.hid (rgoV_ok (x := x) (n := n) (by simp [rgoC, ho, hn]))
  rw [hn] at HI
  have ⟨n0, n3⟩ := inB_true hn
  have : n = 0 ∨ n = 1 ∨ n = 2 ∨ n = 3 := by omega
  clear hn n0 n3
  have HGT : Hid (stGet x 0 = x.g0 ∧ stGet x 1 = x.g1 ∧ stGet x 2 = x.g2 ∧ stGet x 3 = x.g3) := Lib.hid ⟨rfl, rfl, rfl, rfl⟩
  rcases this with rfl | rfl | rfl | rfl
  · have HE2 : Hid (rgoV x 0 = .tuple #[.int .i64 x.g0, .int .i64 0]) := Lib.hid HE.out
    go_enter Tryd.func18, Tryd.ntmps18
    go_wp2_with fail
    refine (HF.out _).mono ?_
    rintro e w1 ⟨rfl, b1⟩
    have B1 : Hid (Below w.heap.size w w1) := Lib.hid (B0.out.trans (b1.mono B0.out.size))
    have B2 : Hid (Below w.heap.size w (w1.alloc (.cells #[.int .i64 x.g0, .int .i64 x.g1, .int .i64 x.g2, .int .i64 x.g3, .int .i64 x.l, .int .i64 x.s, .int .i64 x.d] 52))) := Lib.hid (B1.out.alloc B1.out.size _)
    have HM := Lib.hid (MAt.new w1 x)
    have HT2 := Lib.hid (HT.out.keep B2.out)
    clear b1
    go_wp2_with fail
    refine (HO.out w1.heap.size _ HM.out HT2.out).mono ?_
    generalize w1.alloc (.cells #[.int .i64 x.g0, .int .i64 x.g1, .int .i64 x.g2, .int .i64 x.g3, .int .i64 x.l, .int .i64 x.s, .int .i64 x.d] 52) = W1 at *
    rintro e w2 ⟨rfl, b2⟩
    have B3 : Hid (Below w.heap.size w w2) := Lib.hid (B2.out.trans (b2.mono B2.out.size))
    have HM3 := Lib.hid (HM.out.keep b2)
    have HT3 := Lib.hid (HT2.out.keep b2)
    have hb3 : w1.heap.size < w2.heap.size := HM3.out.lt
    clear b2 B2 HM HT2
    go_wp2_with fail
    refine (HI.out _).mono ?_
    rintro e w3 ⟨rfl, rfl⟩
    have ⟨y0, y1, y2, y3, y4, y5, y6⟩ := HM3.out.cells
    go_wp2
    go_ret2
    exact ⟨ret_val HE2.out.symm, B3.out⟩
  · have HE2 : Hid (rgoV x 1 = .tuple #[.int .i64 x.g1, .int .i64 0]) := Lib.hid HE.out
    go_enter Tryd.func18, Tryd.ntmps18
    go_wp2_with fail
    refine (HF.out _).mono ?_
    rintro e w1 ⟨rfl, b1⟩
    have B1 : Hid (Below w.heap.size w w1) := Lib.hid (B0.out.trans (b1.mono B0.out.size))
    have B2 : Hid (Below w.heap.size w (w1.alloc (.cells #[.int .i64 x.g0, .int .i64 x.g1, .int .i64 x.g2, .int .i64 x.g3, .int .i64 x.l, .int .i64 x.s, .int .i64 x.d] 52))) := Lib.hid (B1.out.alloc B1.out.size _)
    have HM := Lib.hid (MAt.new w1 x)
    have HT2 := Lib.hid (HT.out.keep B2.out)
    clear b1
    go_wp2_with fail
    refine (HO.out w1.heap.size _ HM.out HT2.out).mono ?_
    generalize w1.alloc (.cells #[.int .i64 x.g0, .int .i64 x.g1, .int .i64 x.g2, .int .i64 x.g3, .int .i64 x.l, .int .i64 x.s, .int .i64 x.d] 52) = W1 at *
    rintro e w2 ⟨rfl, b2⟩
    have B3 : Hid (Below w.heap.size w w2) := Lib.hid (B2.out.trans (b2.mono B2.out.size))
    have HM3 := Lib.hid (HM.out.keep b2)
    have HT3 := Lib.hid (HT2.out.keep b2)
    have hb3 : w1.heap.size < w2.heap.size := HM3.out.lt
    clear b2 B2 HM HT2
    go_wp2_with fail
    refine (HI.out _).mono ?_
    rintro e w3 ⟨rfl, rfl⟩
    have ⟨y0, y1, y2, y3, y4, y5, y6⟩ := HM3.out.cells
    go_wp2
    go_ret2
    exact ⟨ret_val HE2.out.symm, B3.out⟩
  · have HE2 : Hid (rgoV x 2 = .tuple #[.int .i64 x.g2, .int .i64 0]) := Lib.hid HE.out
    go_enter Tryd.func18, Tryd.ntmps18
    go_wp2_with fail
    refine (HF.out _).mono ?_
    rintro e w1 ⟨rfl, b1⟩
    have B1 : Hid (Below w.heap.size w w1) := Lib.hid (B0.out.trans (b1.mono B0.out.size))
    have B2 : Hid (Below w.heap.size w (w1.alloc (.cells #[.int .i64 x.g0, .int .i64 x.g1, .int .i64 x.g2, .int .i64 x.g3, .int .i64 x.l, .int .i64 x.s, .int .i64 x.d] 52))) := Lib.hid (B1.out.alloc B1.out.size _)
    have HM := Lib.hid (MAt.new w1 x)
    have HT2 := Lib.hid (HT.out.keep B2.out)
    clear b1
    go_wp2_with fail
    refine (HO.out w1.heap.size _ HM.out HT2.out).mono ?_
    generalize w1.alloc (.cells #[.int .i64 x.g0, .int .i64 x.g1, .int .i64 x.g2, .int .i64 x.g3, .int .i64 x.l, .int .i64 x.s, .int .i64 x.d] 52) = W1 at *
    rintro e w2 ⟨rfl, b2⟩
    have B3 : Hid (Below w.heap.size w w2) := Lib.hid (B2.out.trans (b2.mono B2.out.size))
    have HM3 := Lib.hid (HM.out.keep b2)
    have HT3 := Lib.hid (HT2.out.keep b2)
    have hb3 : w1.heap.size < w2.heap.size := HM3.out.lt
    clear b2 B2 HM HT2
    go_wp2_with fail
    refine (HI.out _).mono ?_
    rintro e w3 ⟨rfl, rfl⟩
    have ⟨y0, y1, y2, y3, y4, y5, y6⟩ := HM3.out.cells
    go_wp2
    go_ret2
    exact ⟨ret_val HE2.out.symm, B3.out⟩
  · have HE2 : Hid (rgoV x 3 = .tuple #[.int .i64 x.g3, .int .i64 0]) := Lib.hid HE.out
    go_enter Tryd.func18, Tryd.ntmps18
    go_wp2_with fail
    refine (HF.out _).mono ?_
    rintro e w1 ⟨rfl, b1⟩
    have B1 : Hid (Below w.heap.size w w1) := Lib.hid (B0.out.trans (b1.mono B0.out.size))
    have B2 : Hid (Below w.heap.size w (w1.alloc (.cells #[.int .i64 x.g0, .int .i64 x.g1, .int .i64 x.g2, .int .i64 x.g3, .int .i64 x.l, .int .i64 x.s, .int .i64 x.d] 52))) := Lib.hid (B1.out.alloc B1.out.size _)
    have HM := Lib.hid (MAt.new w1 x)
    have HT2 := Lib.hid (HT.out.keep B2.out)
    clear b1
    go_wp2_with fail
    refine (HO.out w1.heap.size _ HM.out HT2.out).mono ?_
    generalize w1.alloc (.cells #[.int .i64 x.g0, .int .i64 x.g1, .int .i64 x.g2, .int .i64 x.g3, .int .i64 x.l, .int .i64 x.s, .int .i64 x.d] 52) = W1 at *
    rintro e w2 ⟨rfl, b2⟩
    have B3 : Hid (Below w.heap.size w w2) := Lib.hid (B2.out.trans (b2.mono B2.out.size))
    have HM3 := Lib.hid (HM.out.keep b2)
    have HT3 := Lib.hid (HT2.out.keep b2)
    have hb3 : w1.heap.size < w2.heap.size := HM3.out.lt
    clear b2 B2 HM HT2
    go_wp2_with fail
    refine (HI.out _).mono ?_
    rintro e w3 ⟨rfl, rfl⟩
    have ⟨y0, y1, y2, y3, y4, y5, y6⟩ := HM3.out.cells
    go_wp2
    go_ret2
    exact ⟨ret_val HE2.out.symm, B3.out⟩

end Go.Proofs.YtbamjhldebobhaaDoor
