/- The program's valid tokens. -/
import Derived.Test.YthflfiacjgeelaaDoorTokD
import Derived.Test.YthflfiacjgeelaaDoorByteI
import Derived.Test.YthflfiacjgeelaaDoorEscI
namespace Go.Proofs.YthflfiacjgeelaaDoor
open Go.RowKit

theorem tokField0 (y : Tok) (w : World) : (Instr.field 38 (.agg #[.int .i64 y.k, .int .i64 y.a, .int .i64 y.b, .int .i64 y.c, .int .i64 y.p, .int .i64 y.n]) 0).run Tryd.prog w = .ok (.int .i64 y.k) w := by kernel_rfl

def ctlB (a : Int) : Bool := decide (0 ≤ a) && decide (a < 160) && decide (a ≠ 27) && decide ((byteTok a).k = 1)
theorem ctlB_iff (a : Int) : ctlB a = true ↔ ((0 ≤ a ∧ a ≤ 13) ∨ (16 ≤ a ∧ a ≤ 31 ∧ a ≠ 27) ∨ a = 127 ∨ (128 ≤ a ∧ a ≤ 159 ∧ a ≠ 142 ∧ a ≠ 143)) := by
  simp only [ctlB, Bool.and_eq_true, decide_eq_true_eq]
  unfold byteTok
  repeat' split
  all_goals dsimp only
  all_goals omega

set_option maxHeartbeats 1000000 in
theorem impl_isControl (a : Int) (w : World) : Calls Tryd.prog 132 #[.int .i64 a] w fun e w' => e = .returned (.bool (ctlB a)) ∧ Below w.heap.size w w' := by
  by_cases h0 : a < 0
  · have HE : Hid (ctlB a = false) := Lib.hid (by simp [ctlB]; omega)
    go_enter Tryd.func132, Tryd.ntmps132
    go_wp2
    go_ret
    exact ⟨ret_bool HE.out.symm, Below.refl _ _⟩
  have h0' : 0 ≤ a := by omega
  by_cases h1 : 160 ≤ a
  · have HE : Hid (ctlB a = false) := Lib.hid (by simp [ctlB]; omega)
    clear h0
    go_enter Tryd.func132, Tryd.ntmps132
    go_wp2
    go_ret
    exact ⟨ret_bool HE.out.symm, Below.refl _ _⟩
  have h1' : a < 160 := by omega
  by_cases h2 : a = 27
  · subst h2
    clear h0 h1 h0' h1'
    go_enter Tryd.func132, Tryd.ntmps132
    go_wp2
    go_ret
    exact ⟨ret_bool (by decide), Below.refl _ _⟩
  have HE : Hid (ctlB a = ((byteTok a).k == 1)) := Lib.hid (by
    have q0 : decide (0 ≤ a) = true := by simpa using h0'
    have q1 : decide (a < 160) = true := by simpa using h1'
    have q2 : decide (a ≠ 27) = true := by simpa using h2
    rw [ctlB, q0, q1, q2]
    rfl)
  have e2 : (a != 27) = true := by simpa using h2
  have HF := Lib.hid (tokField0 (byteTok a))
  clear h0 h1 h2
  generalize hy : byteTok a = y at *
  have HY := Lib.hid hy
  clear hy
  have fy := HF.out
  go_enter Tryd.func132, Tryd.ntmps132
  go_wp2_with fail
  refine (impl_byteToken a w h0' (by omega)).mono ?_
  rintro e w1 ⟨rfl, b1⟩
  rw [HY.out]
  unfold tokV
  go_wp2
  go_ret
  exact ⟨ret_bool HE.out.symm, b1⟩

def valB (k a : Int) : Bool :=
  if k = 1 then ctlB a else if k = 3 then inB a 33 126 else if k = 4 then inB a 32 127 else if k = 5 then inB a 0 3 else if k = 6 then decide (a = 2 ∨ a = 3)
  else if k = 2 ∨ k = 8 ∨ k = 9 then decide (a = 0) else false

set_option maxHeartbeats 2000000 in
theorem impl_tokenValueOK (k a : Int) (w : World) : Calls Tryd.prog 116 #[.int .i64 k, .int .i64 a] w fun e w' => e = .returned (.bool (valB k a)) ∧ Below w.heap.size w w' := by
  by_cases k1 : k = 1
  · subst k1
    go_enter Tryd.func116, Tryd.ntmps116
    go_wp2_with fail
    refine (impl_isControl a w).mono ?_
    rintro e w1 ⟨rfl, b1⟩
    go_wp2
    go_ret
    exact ⟨rfl, b1⟩
  by_cases k3 : k = 3
  · subst k3
    clear k1
    go_enter Tryd.func116, Tryd.ntmps116
    go_wp2_with fail
    refine (impl_isCode94 a w).mono ?_
    rintro e w1 ⟨rfl, rfl⟩
    go_wp2
    go_ret
    exact ⟨rfl, Below.refl _ _⟩
  by_cases k4 : k = 4
  · subst k4
    clear k1 k3
    have HE : Hid (valB 4 a = (decide (32 ≤ a) && decide (a ≤ 127))) := Lib.hid rfl
    rw [HE.out]
    by_cases h1 : 32 ≤ a
    · by_cases h2 : a ≤ 127
      all_goals
        go_enter Tryd.func116, Tryd.ntmps116
        go_wp2
        go_ret
        exact ⟨ret_bool (by simp [h1, h2]), Below.refl _ _⟩
    · have HF := Lib.hid (show decide (32 ≤ a) = false by simpa using h1)
      go_enter Tryd.func116, Tryd.ntmps116
      go_wp2
      go_ret
      exact ⟨ret_bool (by rw [HF.out]; rfl), Below.refl _ _⟩
  by_cases k5 : k = 5
  · subst k5
    clear k1 k3 k4
    have HE : Hid (valB 5 a = (decide (0 ≤ a) && decide (a ≤ 3))) := Lib.hid rfl
    rw [HE.out]
    by_cases h1 : 0 ≤ a
    · by_cases h2 : a ≤ 3
      all_goals
        go_enter Tryd.func116, Tryd.ntmps116
        go_wp2
        go_ret
        exact ⟨ret_bool (by simp [h1, h2]), Below.refl _ _⟩
    · have HF := Lib.hid (show decide (0 ≤ a) = false by simpa using h1)
      go_enter Tryd.func116, Tryd.ntmps116
      go_wp2
      go_ret
      exact ⟨ret_bool (by rw [HF.out]; rfl), Below.refl _ _⟩
  by_cases k6 : k = 6
  · subst k6
    clear k1 k3 k4 k5
    have HE : Hid (valB 6 a = decide (a = 2 ∨ a = 3)) := Lib.hid rfl
    rw [HE.out]
    by_cases h1 : a = 2
    · subst h1
      go_enter Tryd.func116, Tryd.ntmps116
      go_wp2
      go_ret
      exact ⟨ret_bool (by decide), Below.refl _ _⟩
    · have e1 : (a == 2) = false := by simpa using h1
      have HX : Hid ((a == 3) = decide (a = 2 ∨ a = 3)) := Lib.hid (by simp [h1]; rfl)
      clear h1
      go_enter Tryd.func116, Tryd.ntmps116
      go_wp2
      go_ret
      exact ⟨ret_bool HX.out, Below.refl _ _⟩
  by_cases k2 : k = 2 ∨ k = 8 ∨ k = 9
  · have HE : Hid ((a == 0) = valB k a) := Lib.hid (by
      rw [valB, if_neg k1, if_neg k3, if_neg k4, if_neg k5, if_neg k6, if_pos k2]
      rfl)
    clear k1 k3 k4 k5 k6
    rcases k2 with rfl | rfl | rfl
    all_goals
      go_enter Tryd.func116, Tryd.ntmps116
      go_wp2
      go_ret
      exact ⟨ret_bool HE.out, Below.refl _ _⟩
  · have HE : Hid (false = valB k a) := Lib.hid (by rw [valB, if_neg k1, if_neg k3, if_neg k4, if_neg k5, if_neg k6, if_neg k2])
    have e1 : (k == 1) = false := by rw [beq_eq_false_iff_ne]; exact k1
    have e3 : (k == 3) = false := by rw [beq_eq_false_iff_ne]; exact k3
    have e4 : (k == 4) = false := by rw [beq_eq_false_iff_ne]; exact k4
    have e5 : (k == 5) = false := by rw [beq_eq_false_iff_ne]; exact k5
    have e6 : (k == 6) = false := by rw [beq_eq_false_iff_ne]; exact k6
    have e2 : (k == 2) = false := by rw [beq_eq_false_iff_ne]; omega
    have e8 : (k == 8) = false := by rw [beq_eq_false_iff_ne]; omega
    have e9 : (k == 9) = false := by rw [beq_eq_false_iff_ne]; omega
    clear k1 k2 k3 k4 k5 k6
    go_enter Tryd.func116, Tryd.ntmps116
    go_wp2
    go_ret
    exact ⟨ret_bool HE.out, Below.refl _ _⟩

def fldB (x : Tok) : Bool := if x.k = 7 then inB x.b 1 3 && (regB x.b x.a && (decide (64 ≤ x.c) && decide (x.c ≤ 126))) else valB x.k x.a && (decide (x.b = 0) && decide (x.c = 0))

set_option maxHeartbeats 2000000 in
set_option maxRecDepth 100000 in
theorem impl_tokenFieldsOK (x : Tok) (w : World) : Calls Tryd.prog 80 #[tokV x] w fun e w' => e = .returned (.bool (fldB x)) ∧ Below w.heap.size w w' := by
  obtain ⟨k, a, b, c, p, n⟩ := x
  have b0 := below_one w (.cells #[.int .i64 k, .int .i64 a, .int .i64 b, .int .i64 c, .int .i64 p, .int .i64 n] 38)
  have hX := TokAt.new w ⟨k, a, b, c, p, n⟩
  unfold tokV
  by_cases k7 : k = 7
  · have HE : Hid (fldB ⟨k, a, b, c, p, n⟩ = (inB b 1 3 && (regB b a && (decide (64 ≤ c) && decide (c ≤ 126))))) := Lib.hid (by rw [fldB, if_pos k7])
    rw [HE.out]
    subst k7
    clear hX HE
    have HK := Lib.hid (impl_isKind b)
    have HR := Lib.hid (impl_isRegisterFor b a)
    generalize inB b 1 3 = kb at *
    generalize regB b a = rb at *
    cases kb
    · go_enter Tryd.func80, Tryd.ntmps80
      go_wp2_with fail
      refine (HK.out _).mono ?_
      rintro e w1 ⟨rfl, rfl⟩
      go_wp2
      go_ret
      exact ⟨rfl, b0⟩
    cases rb
    · go_enter Tryd.func80, Tryd.ntmps80
      go_wp2_with fail
      refine (HK.out _).mono ?_
      rintro e w1 ⟨rfl, rfl⟩
      go_wp2_with fail
      refine (HR.out _).mono ?_
      rintro e w1 ⟨rfl, rfl⟩
      go_wp2
      go_ret
      exact ⟨rfl, b0⟩
    by_cases c1 : 64 ≤ c
    · have HD : Hid (decide (c ≤ 126) = (true && (true && (decide (64 ≤ c) && decide (c ≤ 126))))) := Lib.hid (by simp [c1])
      rw [← HD.out]
      go_enter Tryd.func80, Tryd.ntmps80
      go_wp2_with fail
      refine (HK.out _).mono ?_
      rintro e w1 ⟨rfl, rfl⟩
      go_wp2_with fail
      refine (HR.out _).mono ?_
      rintro e w1 ⟨rfl, rfl⟩
      go_wp2
      go_ret
      exact ⟨rfl, b0⟩
    · have HD : Hid (false = (true && (true && (decide (64 ≤ c) && decide (c ≤ 126))))) := Lib.hid (by simp [c1])
      rw [← HD.out]
      go_enter Tryd.func80, Tryd.ntmps80
      go_wp2_with fail
      refine (HK.out _).mono ?_
      rintro e w1 ⟨rfl, rfl⟩
      go_wp2_with fail
      refine (HR.out _).mono ?_
      rintro e w1 ⟨rfl, rfl⟩
      go_wp2
      go_ret
      exact ⟨rfl, b0⟩
  · have HE : Hid (fldB ⟨k, a, b, c, p, n⟩ = (valB k a && (decide (b = 0) && decide (c = 0)))) := Lib.hid (by rw [fldB, if_neg k7])
    have e7 : (k == 7) = false := by rw [beq_eq_false_iff_ne]; exact k7
    rw [HE.out]
    clear k7
    go_enter Tryd.func80, Tryd.ntmps80
    go_wp2_with fail
    refine (impl_tokenValueOK k a _).mono ?_
    rintro e w1 ⟨rfl, b1⟩
    have B1 : Below w.heap.size w w1 := b0.trans (b1.mono b0.size)
    have ⟨y0, y1, y2, y3, y4, y5⟩ := (hX.keep b1).cells
    clear hX b0 b1
    cases hv : valB k a
    · have HV := Lib.hid hv
      go_wp2
      go_ret
      exact ⟨ret_bool (by rw [HV.out]; rfl), B1⟩
    · by_cases hb : b = 0
      · subst hb
        go_wp2
        go_ret
        exact ⟨ret_bool rfl, B1⟩
      · have eb : (b == 0) = false := by rw [beq_eq_false_iff_ne]; exact hb
        go_wp2
        go_ret
        exact ⟨ret_bool (by simp [hb]), B1⟩

def lenB (x : Tok) : Bool :=
  if x.k = 5 ∧ 2 ≤ x.a then decide (x.n = 2) else if x.k = 6 then decide (x.n = 1 ∨ x.n = 2) else if x.k = 7 then decide (x.n = 3 ∨ x.n = 4) else if x.k = 8 ∨ x.k = 9 then decide (1 ≤ x.n) && decide (x.n ≤ 65536) else decide (x.n = 1)

set_option maxHeartbeats 2000000 in
set_option maxRecDepth 100000 in
theorem impl_tokenLengthOK (x : Tok) (w : World) : Calls Tryd.prog 81 #[tokV x] w fun e w' => e = .returned (.bool (lenB x)) ∧ Below w.heap.size w w' := by
  obtain ⟨k, a, b, c, p, n⟩ := x
  have b0 := Lib.hid (below_one w (.cells #[.int .i64 k, .int .i64 a, .int .i64 b, .int .i64 c, .int .i64 p, .int .i64 n] 38))
  unfold tokV
  by_cases k5 : k = 5
  · by_cases a2 : 2 ≤ a
    · have HE : Hid ((n == 2) = lenB ⟨k, a, b, c, p, n⟩) := Lib.hid (by rw [lenB, if_pos ⟨k5, a2⟩]; rfl)
      subst k5
      go_enter Tryd.func81, Tryd.ntmps81
      go_wp2
      go_ret
      exact ⟨ret_bool HE.out, b0.out⟩
    · have HE : Hid ((n == 1) = lenB ⟨k, a, b, c, p, n⟩) := Lib.hid (by rw [lenB, if_neg (fun h => a2 h.2), if_neg (by dsimp only; omega), if_neg (by dsimp only; omega), if_neg (by dsimp only; omega)]; rfl)
      subst k5
      go_enter Tryd.func81, Tryd.ntmps81
      go_wp2
      go_ret
      exact ⟨ret_bool HE.out, b0.out⟩
  have e5 : (k == 5) = false := by rw [beq_eq_false_iff_ne]; exact k5
  by_cases k6 : k = 6
  · have HE : Hid (lenB ⟨k, a, b, c, p, n⟩ = decide (n = 1 ∨ n = 2)) := Lib.hid (by rw [lenB, if_neg (fun h => k5 h.1), if_pos k6])
    rw [HE.out]
    subst k6
    clear k5 e5
    by_cases n1 : n = 1
    · subst n1
      go_enter Tryd.func81, Tryd.ntmps81
      go_wp2
      go_ret
      exact ⟨ret_bool (by decide), b0.out⟩
    · have e1 : (n == 1) = false := by rw [beq_eq_false_iff_ne]; exact n1
      go_enter Tryd.func81, Tryd.ntmps81
      go_wp2
      go_ret
      exact ⟨ret_bool (by simp [n1]; rfl), b0.out⟩
  have e6 : (k == 6) = false := by rw [beq_eq_false_iff_ne]; exact k6
  by_cases k7 : k = 7
  · have HE : Hid (lenB ⟨k, a, b, c, p, n⟩ = decide (n = 3 ∨ n = 4)) := Lib.hid (by rw [lenB, if_neg (fun h => k5 h.1), if_neg k6, if_pos k7])
    rw [HE.out]
    subst k7
    clear k5 e5 k6 e6
    by_cases n1 : n = 3
    · subst n1
      go_enter Tryd.func81, Tryd.ntmps81
      go_wp2
      go_ret
      exact ⟨ret_bool (by decide), b0.out⟩
    · have e1 : (n == 3) = false := by rw [beq_eq_false_iff_ne]; exact n1
      go_enter Tryd.func81, Tryd.ntmps81
      go_wp2
      go_ret
      exact ⟨ret_bool (by simp [n1]; rfl), b0.out⟩
  have e7 : (k == 7) = false := by rw [beq_eq_false_iff_ne]; exact k7
  by_cases k8 : k = 8 ∨ k = 9
  · have HE : Hid (lenB ⟨k, a, b, c, p, n⟩ = (decide (1 ≤ n) && decide (n ≤ 65536))) := Lib.hid (by rw [lenB, if_neg (fun h => k5 h.1), if_neg k6, if_neg k7, if_pos k8])
    rw [HE.out]
    clear k5 e5 k6 e6 k7 e7 HE
    by_cases n1 : 1 ≤ n
    · by_cases n2 : n ≤ 65536
      all_goals
        rcases k8 with rfl | rfl
        all_goals
          go_enter Tryd.func81, Tryd.ntmps81
          go_wp2
          go_ret
          exact ⟨ret_bool (by simp [n1, n2]), b0.out⟩
    · have HF := Lib.hid (show decide (1 ≤ n) = false by simpa using n1)
      rcases k8 with rfl | rfl
      all_goals
        go_enter Tryd.func81, Tryd.ntmps81
        go_wp2
        go_ret
        exact ⟨ret_bool (by rw [HF.out]; rfl), b0.out⟩
  · have e8 : (k == 8) = false := by rw [beq_eq_false_iff_ne]; omega
    have e9 : (k == 9) = false := by rw [beq_eq_false_iff_ne]; omega
    have HE : Hid ((n == 1) = lenB ⟨k, a, b, c, p, n⟩) := Lib.hid (by rw [lenB, if_neg (fun h => k5 h.1), if_neg k6, if_neg k7, if_neg k8]; rfl)
    clear k5 k6 k7 k8
    go_enter Tryd.func81, Tryd.ntmps81
    go_wp2
    go_ret
    exact ⟨ret_bool HE.out, b0.out⟩

def tokOKI (x : Tok) : Bool := decide (0 ≤ x.p) && (decide (x.p ≤ 65536) && (fldB x && lenB x))
theorem regB_iff (kd g : Int) : regB kd g = true ↔ (0 ≤ g ∧ g ≤ 3) ∧ ¬ (kd = 2 ∧ g = 0) := by
  unfold regB inB
  rw [Bool.and_eq_true, Bool.and_eq_true, decide_eq_true_eq, decide_eq_true_eq, Bool.not_eq_true', Bool.and_eq_false_iff, decide_eq_false_iff_not, decide_eq_false_iff_not]
  omega
theorem okI1 (a b c p n : Int) : tokOKI ⟨1, a, b, c, p, n⟩ = true ↔ tokOKP ⟨1, a, b, c, p, n⟩ := by
  show (decide (0 ≤ p) && (decide (p ≤ 65536) && ((ctlB a && (decide (b = 0) && decide (c = 0))) && decide (n = 1)))) = true ↔ _
  unfold tokOKP
  simp only [Bool.and_eq_true, decide_eq_true_eq, ctlB_iff, Int.reduceEq, false_and, true_and, or_false]
  omega
theorem okI2 (a b c p n : Int) : tokOKI ⟨2, a, b, c, p, n⟩ = true ↔ tokOKP ⟨2, a, b, c, p, n⟩ := by
  show (decide (0 ≤ p) && (decide (p ≤ 65536) && ((decide (a = 0) && (decide (b = 0) && decide (c = 0))) && decide (n = 1)))) = true ↔ _
  unfold tokOKP
  simp only [Bool.and_eq_true, decide_eq_true_eq, Int.reduceEq, false_and, true_and, false_or, or_false]
  omega
theorem okI3 (a b c p n : Int) : tokOKI ⟨3, a, b, c, p, n⟩ = true ↔ tokOKP ⟨3, a, b, c, p, n⟩ := by
  show (decide (0 ≤ p) && (decide (p ≤ 65536) && ((inB a 33 126 && (decide (b = 0) && decide (c = 0))) && decide (n = 1)))) = true ↔ _
  unfold tokOKP
  simp only [Bool.and_eq_true, decide_eq_true_eq, inB, Int.reduceEq, false_and, true_and, false_or, or_false]
  omega
theorem okI4 (a b c p n : Int) : tokOKI ⟨4, a, b, c, p, n⟩ = true ↔ tokOKP ⟨4, a, b, c, p, n⟩ := by
  show (decide (0 ≤ p) && (decide (p ≤ 65536) && ((inB a 32 127 && (decide (b = 0) && decide (c = 0))) && decide (n = 1)))) = true ↔ _
  unfold tokOKP
  simp only [Bool.and_eq_true, decide_eq_true_eq, inB, Int.reduceEq, false_and, true_and, false_or, or_false]
  omega
theorem okI6 (a b c p n : Int) : tokOKI ⟨6, a, b, c, p, n⟩ = true ↔ tokOKP ⟨6, a, b, c, p, n⟩ := by
  show (decide (0 ≤ p) && (decide (p ≤ 65536) && ((decide (a = 2 ∨ a = 3) && (decide (b = 0) && decide (c = 0))) && decide (n = 1 ∨ n = 2)))) = true ↔ _
  unfold tokOKP
  simp only [Bool.and_eq_true, decide_eq_true_eq, Int.reduceEq, false_and, true_and, false_or, or_false]
  omega
theorem okI7 (a b c p n : Int) : tokOKI ⟨7, a, b, c, p, n⟩ = true ↔ tokOKP ⟨7, a, b, c, p, n⟩ := by
  show (decide (0 ≤ p) && (decide (p ≤ 65536) && ((inB b 1 3 && (regB b a && (decide (64 ≤ c) && decide (c ≤ 126)))) && decide (n = 3 ∨ n = 4)))) = true ↔ _
  unfold tokOKP
  simp only [Bool.and_eq_true, decide_eq_true_eq, inB, regB_iff, Int.reduceEq, false_and, true_and, false_or, or_false]
  omega
theorem okI8 (a b c p n : Int) : tokOKI ⟨8, a, b, c, p, n⟩ = true ↔ tokOKP ⟨8, a, b, c, p, n⟩ := by
  show (decide (0 ≤ p) && (decide (p ≤ 65536) && ((decide (a = 0) && (decide (b = 0) && decide (c = 0))) && (decide (1 ≤ n) && decide (n ≤ 65536))))) = true ↔ _
  unfold tokOKP
  simp only [Bool.and_eq_true, decide_eq_true_eq, Int.reduceEq, false_and, true_and, false_or, or_false]
  omega
theorem okI9 (a b c p n : Int) : tokOKI ⟨9, a, b, c, p, n⟩ = true ↔ tokOKP ⟨9, a, b, c, p, n⟩ := by
  show (decide (0 ≤ p) && (decide (p ≤ 65536) && ((decide (a = 0) && (decide (b = 0) && decide (c = 0))) && (decide (1 ≤ n) && decide (n ≤ 65536))))) = true ↔ _
  unfold tokOKP
  simp only [Bool.and_eq_true, decide_eq_true_eq, Int.reduceEq, false_and, true_and, false_or]
  omega
theorem okI5 (a b c p n : Int) : tokOKI ⟨5, a, b, c, p, n⟩ = true ↔ tokOKP ⟨5, a, b, c, p, n⟩ := by
  by_cases a2 : 2 ≤ a
  · have hl : lenB ⟨5, a, b, c, p, n⟩ = decide (n = 2) := by rw [lenB, if_pos ⟨rfl, a2⟩]
    show (decide (0 ≤ p) && (decide (p ≤ 65536) && ((inB a 0 3 && (decide (b = 0) && decide (c = 0))) && lenB ⟨5, a, b, c, p, n⟩))) = true ↔ _
    rw [hl]
    unfold tokOKP
    simp only [Bool.and_eq_true, decide_eq_true_eq, inB, Int.reduceEq, false_and, true_and, false_or, or_false]
    omega
  · have hl : lenB ⟨5, a, b, c, p, n⟩ = decide (n = 1) := by rw [lenB, if_neg (fun h => a2 h.2)]; rfl
    show (decide (0 ≤ p) && (decide (p ≤ 65536) && ((inB a 0 3 && (decide (b = 0) && decide (c = 0))) && lenB ⟨5, a, b, c, p, n⟩))) = true ↔ _
    rw [hl]
    unfold tokOKP
    simp only [Bool.and_eq_true, decide_eq_true_eq, inB, Int.reduceEq, false_and, true_and, false_or, or_false]
    omega
theorem tokOKI_eq (x : Tok) : tokOKI x = tokOKB x := by
  refine tokOKB_of ?_
  obtain ⟨k, a, b, c, p, n⟩ := x
  by_cases hk : k < 1 ∨ 9 < k
  · have h1 : valB k a = false := by
      rw [valB, if_neg (by omega), if_neg (by omega), if_neg (by omega), if_neg (by omega), if_neg (by omega), if_neg (by omega)]
    have h2 : fldB ⟨k, a, b, c, p, n⟩ = false := by
      rw [fldB, if_neg (by dsimp only; omega)]
      dsimp only
      rw [h1]
      rfl
    unfold tokOKI
    rw [h2]
    unfold tokOKP
    constructor
    · intro h; simp at h
    · intro h; exfalso; dsimp only at h; omega
  · have : k = 1 ∨ k = 2 ∨ k = 3 ∨ k = 4 ∨ k = 5 ∨ k = 6 ∨ k = 7 ∨ k = 8 ∨ k = 9 := by omega
    rcases this with rfl | rfl | rfl | rfl | rfl | rfl | rfl | rfl | rfl
    · exact okI1 a b c p n
    · exact okI2 a b c p n
    · exact okI3 a b c p n
    · exact okI4 a b c p n
    · exact okI5 a b c p n
    · exact okI6 a b c p n
    · exact okI7 a b c p n
    · exact okI8 a b c p n
    · exact okI9 a b c p n

set_option maxHeartbeats 2000000 in
set_option maxRecDepth 100000 in
theorem impl_tokenOK (x : Tok) (w : World) : Calls Tryd.prog 44 #[tokV x] w fun e w' => e = .returned (.bool (tokOKB x)) ∧ Below w.heap.size w w' := by
  have HO := Lib.hid (tokOKI_eq x)
  rw [← HO.out]
  have HF := Lib.hid (impl_tokenFieldsOK x)
  have HL := Lib.hid (impl_tokenLengthOK x)
  have HX := Lib.hid (show tokOKI x = (decide (0 ≤ x.p) && (decide (x.p ≤ 65536) && (fldB x && lenB x))) from rfl)
  rw [HX.out]
  generalize fldB x = fb at *
  generalize lenB x = lb at *
  clear HO HX
  obtain ⟨k, a, b, c, p, n⟩ := x
  have b0 := below_one w (.cells #[.int .i64 k, .int .i64 a, .int .i64 b, .int .i64 c, .int .i64 p, .int .i64 n] 38)
  have hX := TokAt.new w ⟨k, a, b, c, p, n⟩
  unfold tokV at HF HL ⊢
  dsimp only at *
  by_cases p0 : 0 ≤ p
  · by_cases p1 : p ≤ 65536
    · have HD : Hid ((decide (0 ≤ p) && (decide (p ≤ 65536) && (fb && lb))) = (fb && lb)) := Lib.hid (by simp [p0, p1])
      rw [HD.out]
      go_enter Tryd.func44, Tryd.ntmps44
      go_wp2_with fail
      refine (HF.out _).mono ?_
      rintro e w1 ⟨rfl, b1⟩
      have B1 : Below w.heap.size w w1 := b0.trans (b1.mono b0.size)
      have ⟨y0, y1, y2, y3, y4, y5⟩ := (hX.keep b1).cells
      dsimp only at y0 y1 y2 y3 y4 y5
      clear hX b0 b1
      cases fb
      · go_wp2
        go_ret
        exact ⟨rfl, B1⟩
      · go_wp2_with fail
        refine (HL.out _).mono ?_
        rintro e w2 ⟨rfl, b2⟩
        have B2 : Below w.heap.size w w2 := B1.trans (b2.mono B1.size)
        go_wp2
        go_ret
        exact ⟨ret_bool (by simp), B2⟩
    · have HD : Hid ((decide (0 ≤ p) && (decide (p ≤ 65536) && (fb && lb))) = false) := Lib.hid (by simp [p1])
      rw [HD.out]
      clear hX
      go_enter Tryd.func44, Tryd.ntmps44
      go_wp2
      go_ret
      exact ⟨rfl, b0⟩
  · have HD : Hid ((decide (0 ≤ p) && (decide (p ≤ 65536) && (fb && lb))) = false) := Lib.hid (by simp [p0])
    rw [HD.out]
    clear hX
    go_enter Tryd.func44, Tryd.ntmps44
    go_wp2
    go_ret
    exact ⟨rfl, b0⟩

end Go.Proofs.YthflfiacjgeelaaDoor
