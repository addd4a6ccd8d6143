/- The program's valid states: leadOK, ok, StateOK, Pending, RegisterOf. -/
import Derived.Test.YtbamjhldebobhaaDoorMaB
import Derived.Test.YtbamjhldebobhaaDoorStD
namespace Go.Proofs.YtbamjhldebobhaaDoor
open Go.RowKit Go.Sort

theorem impl_isRegister (n : Int) (w : World) : Calls Tryd.prog 40 #[.int .i64 n] w fun e w' => e = .returned (.bool (inB n 0 3)) ∧ w = w' := by
  by_cases h1 : 0 ≤ n
  · by_cases h3 : n ≤ 3
    all_goals
      have HF := Lib.hid (show inB n 0 3 = decide (n ≤ 3) by simp [inB, h1])
      go_enter Tryd.func40, Tryd.ntmps40
      go_wp2
      go_ret
      exact ⟨ret_bool (by rw [HF.out]; simp [h3]), rfl⟩
  · have HF := Lib.hid (show inB n 0 3 = false by simp [inB, h1])
    go_enter Tryd.func40, Tryd.ntmps40
    go_wp2
    go_ret
    exact ⟨ret_bool HF.out.symm, rfl⟩

theorem impl_isSingle (n : Int) (w : World) : Calls Tryd.prog 50 #[.int .i64 n] w fun e w' => e = .returned (.bool (inB n 2 3)) ∧ w = w' := by
  by_cases h1 : n = 2
  · subst h1
    go_enter Tryd.func50, Tryd.ntmps50
    go_wp2
    go_ret
    exact ⟨rfl, rfl⟩
  · have e1 : (n == 2) = false := by simpa using h1
    have HX : Hid ((n == 3) = inB n 2 3) := Lib.hid (by
      by_cases h3 : n = 3
      · subst h3; rfl
      · have : inB n 2 3 = false := by simp [inB]; omega
        rw [this]; simpa using h3)
    clear h1
    go_enter Tryd.func50, Tryd.ntmps50
    go_wp2
    go_ret
    exact ⟨ret_bool HX.out, rfl⟩

theorem regs_range {x : St} (h : regsOK x = true) : (0 ≤ x.g0 ∧ x.g0 ≤ 8) ∧ (0 ≤ x.g1 ∧ x.g1 ≤ 8) ∧ (0 ≤ x.g2 ∧ x.g2 ≤ 8) ∧ (0 ≤ x.g3 ∧ x.g3 ≤ 8) := by
  simp only [regsOK, Bool.and_eq_true] at h
  obtain ⟨h0, h1, h2, h3⟩ := h
  unfold regOK at h0 h1 h2 h3
  rw [Bool.and_eq_true] at h0 h1 h2 h3
  exact ⟨inB_true h0.1, inB_true h1.1, inB_true h2.1, inB_true h3.1⟩
theorem setAt_range {x : St} (h : regsOK x = true) (r : Bool) : 0 ≤ setAt x r ∧ setAt x r ≤ 8 := by
  obtain ⟨h0, h1, h2, h3⟩ := regs_range h
  unfold setAt stGet
  repeat' split
  all_goals assumption
theorem setAt_nat {x : St} (h : regsOK x = true) (r : Bool) : ∃ k : Nat, setAt x r = (k : Int) ∧ k ≤ 8 := by
  have ⟨a, b⟩ := setAt_range h r
  exact ⟨(setAt x r).toNat, by omega, by omega⟩

/-- The first byte of a pair, as the program asks. -/
def leadI (x : St) : Bool := decide (x.d = 0) || (inB (x.d - halfN x.d) 33 126 && (kind0 (setAt x (halfN x.d == 128)) == 3))
theorem leadI_eq {x : St} (hr : regsOK x = true) : leadI x = leadOK x := by
  unfold leadI leadOK
  by_cases h0 : x.d = 0
  · simp [h0]
  have e0 : decide (x.d = 0) = false := by simpa using h0
  rw [e0, Bool.false_or, Bool.false_or]
  by_cases h1 : 33 ≤ x.d ∧ x.d ≤ 126
  · have hh : halfN x.d = 0 := by unfold halfN; rw [if_neg (by omega)]
    have hm : x.d.tmod 128 = x.d := by rw [Int.tmod_eq_emod_of_nonneg (by omega)]; omega
    have hd : decide (128 < x.d) = false := decide_eq_false (by omega)
    have e1 : inB x.d 33 126 = true := by simp [inB, h1.1, h1.2]
    have e2 : inB x.d 33 254 = true := by simp [inB]; omega
    rw [hh, hm, hd, Int.sub_zero, e1, e2, Bool.true_and, Bool.true_and, Bool.true_and]
    have := setAt_range hr false
    show (kind0 (setAt x false) == 3) = (decide (0 < setAt x false) && decide (setKind (setAt x false) = 3))
    generalize setAt x false = q at *
    unfold kind0
    by_cases hq : q = 0
    · subst hq; rfl
    · have : 0 < q := by omega
      simp [hq, this]
      rfl
  by_cases h2 : 161 ≤ x.d ∧ x.d ≤ 254
  · have hh : halfN x.d = 128 := by unfold halfN; rw [if_pos (by omega)]
    have hm : x.d.tmod 128 = x.d - 128 := by rw [Int.tmod_eq_emod_of_nonneg (by omega)]; omega
    have hd : decide (128 < x.d) = true := decide_eq_true (by omega)
    have e1 : inB (x.d - 128) 33 126 = true := by simp [inB]; omega
    have e2 : inB x.d 33 254 = true := by simp [inB]; omega
    rw [hh, hm, hd, e1, e2, Bool.true_and, Bool.true_and, Bool.true_and]
    have := setAt_range hr true
    show (kind0 (setAt x true) == 3) = (decide (0 < setAt x true) && decide (setKind (setAt x true) = 3))
    generalize setAt x true = q at *
    unfold kind0
    by_cases hq : q = 0
    · subst hq; rfl
    · have : 0 < q := by omega
      simp [hq, this]
      rfl
  have e1 : inB (x.d - halfN x.d) 33 126 = false := by
    apply inB_false_of
    unfold halfN
    split <;> omega
  rw [e1, Bool.false_and]
  by_cases h3 : inB x.d 33 254 = true
  · have ⟨a, b⟩ := inB_true h3
    have : inB (x.d.tmod 128) 33 126 = false := by
      apply inB_false_of
      rw [Int.tmod_eq_emod_of_nonneg (by omega)]
      omega
    rw [this]; rfl
  · have : inB x.d 33 254 = false := by simpa using h3
    rw [this]
    cases inB (x.d.tmod 128) 33 126 <;> rfl

set_option maxHeartbeats 1000000 in
set_option maxRecDepth 100000 in
theorem impl_leadOK (x : St) (b : Nat) (w : World) (h : MAt w b x) (ht : TabM w) (hr : regsOK x = true) (hh : headOK x = true) (hl : -9223372036854775808 ≤ x.d) (hu : x.d ≤ 9223372036854775807) : Calls Tryd.prog 51 #[.pointer (some ⟨b, 0, none⟩)] w fun e w' => e = .returned (.bool (leadOK x)) ∧ Below w.heap.size w w' := by
  rw [← leadI_eq hr]
  have HL : Hid (leadI x = (decide (x.d = 0) || (inB (x.d - halfN x.d) 33 126 && (kind0 (setAt x (halfN x.d == 128)) == 3)))) := Lib.hid rfl
  have ⟨y0, y1, y2, y3, y4, y5, y6⟩ := h.cells
  by_cases d0 : x.d = 0
  · have HE : Hid (leadI x = true) := Lib.hid (by rw [HL.out]; simp [d0])
    rw [d0] at y6
    clear h ht hr hh hl hu HL
    go_enter Tryd.func51, Tryd.ntmps51
    go_wp2
    go_ret
    exact ⟨ret_bool HE.out.symm, Below.refl _ _⟩
  have ed : (x.d == 0) = false := by simpa using d0
  have HH := Lib.hid (impl_halfOf x.d w)
  have HD : Hid (leadI x = (inB (x.d - halfN x.d) 33 126 && (kind0 (setAt x (halfN x.d == 128)) == 3))) := Lib.hid (by rw [HL.out]; simp [d0])
  have hv : halfN x.d = 0 ∨ halfN x.d = 128 ∧ 128 ≤ x.d := by
    unfold halfN
    split
    · next h => exact .inr ⟨rfl, h⟩
    · exact .inl rfl
  have HS := Lib.hid (fun w h => impl_setFor x b (halfN x.d) w h hh)
  obtain ⟨k, hk, k8⟩ := setAt_nat hr (halfN x.d == 128)
  rw [hk] at HS HD
  clear hk HL hh hr d0
  generalize halfN x.d = hf at *
  have um : IntKind.i64.wrap (x.d - hf) = x.d - hf := IntWalk.i64_in _ (by omega)
  have HM := Lib.hid h
  have HT := Lib.hid ht
  clear h ht hl hu hv
  go_enter Tryd.func51, Tryd.ntmps51
  go_wp2_with fail
  refine HH.out.mono ?_
  rintro e w1 ⟨rfl, rfl⟩
  cases hc : inB (x.d - hf) 33 126
  · have HE : Hid (leadI x = false) := Lib.hid (by rw [HD.out, hc]; rfl)
    go_wp2_with fail
    refine (impl_isCode94 (x.d - hf) w).mono ?_
    rintro e w1 ⟨rfl, rfl⟩
    rw [hc]
    go_wp2
    go_ret
    exact ⟨ret_bool HE.out.symm, Below.refl _ _⟩
  · go_wp2_with fail
    refine (impl_isCode94 (x.d - hf) w).mono ?_
    rintro e w1 ⟨rfl, rfl⟩
    rw [hc]
    go_wp2_with fail
    refine (HS.out w HM.out).mono ?_
    rintro e w2 ⟨rfl, b2⟩
    have c1 := (HT.out.keep b2).kind k k8
    have u1 : (0 : Int) ≤ (k : Int) := by omega
    have u2 : (k : Int) < 9 := by omega
    have HE : Hid (leadI x = (kind0 k == 3)) := Lib.hid (by rw [HD.out, hc]; rfl)
    clear y0 y1 y2 y3 y4 y5 y6
    generalize kind0 (k : Int) = kd at *
    go_wp2
    go_ret
    exact ⟨ret_bool HE.out.symm, b2⟩

theorem head_split (x : St) : stOKB x = (regsOK x && ((inB x.l 0 3 && (decide (x.s = 0) || inB x.s 2 3)) && leadOK x)) := rfl

set_option maxHeartbeats 1000000 in
set_option maxRecDepth 100000 in
theorem impl_ok (x : St) (b : Nat) (w : World) (h : MAt w b x) (ht : TabM w) (hl : -9223372036854775808 ≤ x.d) (hu : x.d ≤ 9223372036854775807) : Calls Tryd.prog 25 #[.pointer (some ⟨b, 0, none⟩)] w fun e w' => e = .returned (.bool (stOKB x)) ∧ Below w.heap.size w w' := by
  have HO := Lib.hid (head_split x)
  have HR := Lib.hid (impl_regsOK x b w h ht)
  have HD := Lib.hid (fun w h ht hr hh => impl_leadOK x b w h ht hr hh hl hu)
  have HM := Lib.hid h
  have HT := Lib.hid ht
  have HH : Hid (headOK x = (inB x.l 0 3 && (decide (x.s = 0) || inB x.s 2 3))) := Lib.hid rfl
  clear h ht hl hu
  cases hr : regsOK x
  · have HE : Hid (stOKB x = false) := Lib.hid (by rw [HO.out, hr]; rfl)
    rw [hr] at HR
    go_enter Tryd.func25, Tryd.ntmps25
    go_wp2_with fail
    refine HR.out.mono ?_
    rintro e w1 ⟨rfl, b1⟩
    go_wp2
    go_ret
    exact ⟨ret_bool HE.out.symm, b1⟩
  rw [hr] at HR
  go_enter Tryd.func25, Tryd.ntmps25
  go_wp2_with fail
  refine HR.out.mono ?_
  rintro e w1 ⟨rfl, b1⟩
  have HM1 := Lib.hid (HM.out.keep b1)
  have HT1 := Lib.hid (HT.out.keep b1)
  have B1 := Lib.hid b1
  have ⟨y0, y1, y2, y3, y4, y5, y6⟩ := HM1.out.cells
  clear HR HM HT b1
  cases h1 : inB x.l 0 3
  · have HE : Hid (stOKB x = false) := Lib.hid (by rw [HO.out, hr, h1]; rfl)
    have HI := Lib.hid (fun w => impl_isRegister x.l w)
    rw [h1] at HI
    go_wp2_with fail
    refine (HI.out w1).mono ?_
    rintro e w2 ⟨rfl, rfl⟩
    go_wp2
    go_ret
    exact ⟨ret_bool HE.out.symm, B1.out⟩
  have HI := Lib.hid (fun w => impl_isRegister x.l w)
  rw [h1] at HI
  go_wp2_with fail
  refine (HI.out w1).mono ?_
  rintro e w2 ⟨rfl, rfl⟩
  by_cases s0 : x.s = 0
  · have es : (x.s == 0) = true := by simpa using s0
    have hh : headOK x = true := by rw [HH.out, h1, s0]; rfl
    have HE : Hid (stOKB x = leadOK x) := Lib.hid (by rw [HO.out, hr, h1, s0]; rfl)
    go_wp2_with fail
    refine (HD.out w1 HM1.out HT1.out hr hh).mono ?_
    rintro e w3 ⟨rfl, b3⟩
    have B3 : Below w.heap.size w w3 := B1.out.trans (b3.mono B1.out.size)
    clear y0 y1 y2 y3 y4 y5 y6 b3
    generalize leadOK x = lb at *
    go_wp2
    go_ret
    exact ⟨ret_bool HE.out.symm, B3⟩
  · have es : (x.s == 0) = false := by simpa using s0
    have es' : decide (x.s = 0) = false := by simpa using s0
    have HJ := Lib.hid (fun w => impl_isSingle x.s w)
    cases h2 : inB x.s 2 3
    · have HE : Hid (stOKB x = false) := Lib.hid (by rw [HO.out, hr, h1, h2, es']; rfl)
      rw [h2] at HJ
      go_wp2_with fail
      refine (HJ.out w1).mono ?_
      rintro e w2 ⟨rfl, rfl⟩
      go_wp2
      go_ret
      exact ⟨ret_bool HE.out.symm, B1.out⟩
    · have hh : headOK x = true := by rw [HH.out, h1, h2, es']; rfl
      have HE : Hid (stOKB x = leadOK x) := Lib.hid (by rw [HO.out, hr, h1, h2, es']; rfl)
      rw [h2] at HJ
      go_wp2_with fail
      refine (HJ.out w1).mono ?_
      rintro e w2 ⟨rfl, rfl⟩
      go_wp2_with fail
      refine (HD.out w1 HM1.out HT1.out hr hh).mono ?_
      rintro e w3 ⟨rfl, b3⟩
      have B3 : Below w.heap.size w w3 := B1.out.trans (b3.mono B1.out.size)
      clear y0 y1 y2 y3 y4 y5 y6 b3
      generalize leadOK x = lb at *
      go_wp2
      go_ret
      exact ⟨ret_bool HE.out.symm, B3⟩

/-- The ints of a state are 64-bit ints. -/
def Wide64 (x : St) : Prop := -9223372036854775808 ≤ x.d ∧ x.d ≤ 9223372036854775807

theorem MAt.new (w : World) (x : St) : MAt (w.alloc (.cells #[.int .i64 x.g0, .int .i64 x.g1, .int .i64 x.g2, .int .i64 x.g3, .int .i64 x.l, .int .i64 x.s, .int .i64 x.d] 52)) w.heap.size x := heap_alloc_new _ _

set_option maxHeartbeats 1000000 in
set_option maxRecDepth 100000 in
theorem impl_StateOK (x : St) (w : World) (ht : TabM w) (hw : Wide64 x) : Calls Tryd.prog 9 #[stV x] w fun e w' => e = .returned (.bool (stOKB x)) ∧ Below w.heap.size w w' := by
  have HF := Lib.hid (fun w => impl_machineOf x w)
  have HO := Lib.hid (fun b w h ht => impl_ok x b w h ht hw.1 hw.2)
  have HT := Lib.hid ht
  have B0 := Lib.hid (below_one w (.cells #[.int .i64 x.g0, .int .i64 x.g1, .int .i64 x.g2, .int .i64 x.g3, .int .i64 x.l, .int .i64 x.s, .int .i64 x.d] 24))
  clear ht hw
  unfold StDone stV at HF
  unfold stV
  generalize stOKB x = ok at *
  go_enter Tryd.func9, Tryd.ntmps9
  go_wp2_with fail
  refine (HF.out _).mono ?_
  rintro e w1 ⟨rfl, b1⟩
  have B1 : Hid (Below w.heap.size w w1) := Lib.hid (B0.out.trans (b1.mono B0.out.size))
  have B2 : Hid (Below w.heap.size w (w1.alloc (.cells #[.int .i64 x.g0, .int .i64 x.g1, .int .i64 x.g2, .int .i64 x.g3, .int .i64 x.l, .int .i64 x.s, .int .i64 x.d] 52))) := Lib.hid (B1.out.alloc B1.out.size _)
  have HM := Lib.hid (MAt.new w1 x)
  have HT2 := Lib.hid (HT.out.keep B2.out)
  clear b1
  go_wp2_with fail
  refine (HO.out w1.heap.size _ HM.out HT2.out).mono ?_
  rintro e w2 ⟨rfl, b2⟩
  have B3 : Below w.heap.size w w2 := B2.out.trans (b2.mono B2.out.size)
  go_wp2
  go_ret
  exact ⟨rfl, B3⟩

end Go.Proofs.YtbamjhldebobhaaDoor
