/- The program's valid states: leadOK, ok, StateOK, Pending, RegisterOf. -/
import Derived.Test.YtibadnfagoehmaaGreatDoorMaB
import Derived.Test.YtibadnfagoehmaaGreatDoorStD
namespace Go.Proofs.YtibadnfagoehmaaGreatDoor
open Go.RowKit Go.Sort

theorem impl_isRegister (n : Int) (w : World) : Calls Tryz.prog 149 #[.int .i64 n] w fun e w' => e = .returned (.bool (inB n 0 3)) ∧ w = w' := by
  by_cases h1 : 0 ≤ n
  · by_cases h3 : n ≤ 3
    all_goals
      have HF := Lib.hid (show inB n 0 3 = decide (n ≤ 3) by simp [inB, h1])
      go_enter Tryz.func149, Tryz.ntmps149
      go_wp2
      go_ret
      exact ⟨ret_bool (by rw [HF.out]; simp [h3]), rfl⟩
  · have HF := Lib.hid (show inB n 0 3 = false by simp [inB, h1])
    go_enter Tryz.func149, Tryz.ntmps149
    go_wp2
    go_ret
    exact ⟨ret_bool HF.out.symm, rfl⟩

theorem regs_range {x : St} (h : regsOK x = true) : (0 ≤ x.g0 ∧ x.g0 ≤ 8) ∧ (0 ≤ x.g1 ∧ x.g1 ≤ 8) ∧ (0 ≤ x.g2 ∧ x.g2 ≤ 8) ∧ (0 ≤ x.g3 ∧ x.g3 ≤ 8) := by
  simp only [regsOK, Bool.and_eq_true] at h
  obtain ⟨h0, h1, h2, h3⟩ := h
  unfold regOK at h0 h1 h2 h3
  rw [Bool.and_eq_true] at h0 h1 h2 h3
  exact ⟨inB_true h0.1, inB_true h1.1, inB_true h2.1, inB_true h3.1⟩
theorem setAt_range {x : St} (h : regsOK x = true) (r : Bool) : 0 ≤ setAt x r ∧ setAt x r ≤ 8 := by
  obtain ⟨h0, h1, h2, h3⟩ := regs_range h
  unfold setAt stGet
  repeat' split
  all_goals assumption
theorem setAt_nat {x : St} (h : regsOK x = true) (r : Bool) : ∃ k : Nat, setAt x r = (k : Int) ∧ k ≤ 8 := by
  have ⟨a, b⟩ := setAt_range h r
  exact ⟨(setAt x r).toNat, by omega, by omega⟩

/-- The first byte of a pair, as the program asks. -/
def leadI (x : St) : Bool := decide (x.d = 0) || (inB (x.d - halfN x.d) 33 126 && (kind0 (setAt x (halfN x.d == 128)) == 3))
theorem leadI_eq {x : St} (hr : regsOK x = true) : leadI x = leadOK x := by
  unfold leadI leadOK
  by_cases h0 : x.d = 0
  · simp [h0]
  have e0 : decide (x.d = 0) = false := by simpa using h0
  rw [e0, Bool.false_or, Bool.false_or]
  by_cases h1 : 33 ≤ x.d ∧ x.d ≤ 126
  · have hh : halfN x.d = 0 := by unfold halfN; rw [if_neg (by omega)]
    have hm : x.d.tmod 128 = x.d := by rw [Int.tmod_eq_emod_of_nonneg (by omega)]; omega
    have hd : decide (128 < x.d) = false := decide_eq_false (by omega)
    have e1 : inB x.d 33 126 = true := by simp [inB, h1.1, h1.2]
    have e2 : inB x.d 33 254 = true := by simp [inB]; omega
    rw [hh, hm, hd, Int.sub_zero, e1, e2, Bool.true_and, Bool.true_and, Bool.true_and]
    have := setAt_range hr false
    show (kind0 (setAt x false) == 3) = (decide (0 < setAt x false) && decide (setKind (setAt x false) = 3))
    generalize setAt x false = q at *
    unfold kind0
    by_cases hq : q = 0
    · subst hq; rfl
    · have : 0 < q := by omega
      simp [hq, this]
      rfl
  by_cases h2 : 161 ≤ x.d ∧ x.d ≤ 254
  · have hh : halfN x.d = 128 := by unfold halfN; rw [if_pos (by omega)]
    have hm : x.d.tmod 128 = x.d - 128 := by rw [Int.tmod_eq_emod_of_nonneg (by omega)]; omega
    have hd : decide (128 < x.d) = true := decide_eq_true (by omega)
    have e1 : inB (x.d - 128) 33 126 = true := by simp [inB]; omega
    have e2 : inB x.d 33 254 = true := by simp [inB]; omega
    rw [hh, hm, hd, e1, e2, Bool.true_and, Bool.true_and, Bool.true_and]
    have := setAt_range hr true
    show (kind0 (setAt x true) == 3) = (decide (0 < setAt x true) && decide (setKind (setAt x true) = 3))
    generalize setAt x true = q at *
    unfold kind0
    by_cases hq : q = 0
    · subst hq; rfl
    · have : 0 < q := by omega
      simp [hq, this]
      rfl
  have e1 : inB (x.d - halfN x.d) 33 126 = false := by
    apply inB_false_of
    unfold halfN
    split <;> omega
  rw [e1, Bool.false_and]
  by_cases h3 : inB x.d 33 254 = true
  · have ⟨a, b⟩ := inB_true h3
    have : inB (x.d.tmod 128) 33 126 = false := by
      apply inB_false_of
      rw [Int.tmod_eq_emod_of_nonneg (by omega)]
      omega
    rw [this]; rfl
  · have : inB x.d 33 254 = false := by simpa using h3
    rw [this]
    cases inB (x.d.tmod 128) 33 126 <;> rfl

theorem head_split (x : St) : stOKB x = (regsOK x && ((inB x.l 0 3 && (decide (x.s = 0) || inB x.s 2 3)) && leadOK x)) := rfl

/-- The ints of a state are 64-bit ints. -/
def Wide64 (x : St) : Prop := -9223372036854775808 ≤ x.d ∧ x.d ≤ 9223372036854775807

theorem MAt.new (w : World) (x : St) : MAt (w.alloc (.cells #[.int .i64 x.g0, .int .i64 x.g1, .int .i64 x.g2, .int .i64 x.g3, .int .i64 x.l, .int .i64 x.s, .int .i64 x.d] 53)) w.heap.size x := heap_alloc_new _ _

end Go.Proofs.YtibadnfagoehmaaGreatDoor
