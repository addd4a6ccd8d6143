/- The program's valid tokens. -/
import Derived.Test.YtbamjhldebobhaaGreatDoorTokD
import Derived.Test.YtbamjhldebobhaaGreatDoorByteI
import Derived.Test.YtbamjhldebobhaaGreatDoorEscI
namespace Go.Proofs.YtbamjhldebobhaaGreatDoor
open Go.RowKit

theorem tokField0 (y : Tok) (w : World) : (Instr.field 102 (.agg #[.int .i64 y.k, .int .i64 y.a, .int .i64 y.b, .int .i64 y.c, .int .i64 y.p, .int .i64 y.n]) 0).run Tryz.prog w = .ok (.int .i64 y.k) w := by kernel_rfl

def ctlB (a : Int) : Bool := decide (0 ≤ a) && decide (a < 160) && decide (a ≠ 27) && decide ((byteTok a).k = 1)
theorem ctlB_iff (a : Int) : ctlB a = true ↔ ((0 ≤ a ∧ a ≤ 13) ∨ (16 ≤ a ∧ a ≤ 31 ∧ a ≠ 27) ∨ a = 127 ∨ (128 ≤ a ∧ a ≤ 159 ∧ a ≠ 142 ∧ a ≠ 143)) := by
  simp only [ctlB, Bool.and_eq_true, decide_eq_true_eq]
  unfold byteTok
  repeat' split
  all_goals dsimp only
  all_goals omega

set_option maxHeartbeats 1000000 in
theorem impl_isControl (a : Int) (w : World) : Calls Tryz.prog 137 #[.int .i64 a] w fun e w' => e = .returned (.bool (ctlB a)) ∧ Below w.heap.size w w' := by
  by_cases h0 : a < 0
  · have HE : Hid (ctlB a = false) := Lib.hid (by simp [ctlB]; omega)
    go_enter Tryz.func137, Tryz.ntmps137
    go_wp2
    go_ret
    exact ⟨ret_bool HE.out.symm, Below.refl _ _⟩
  have h0' : 0 ≤ a := by omega
  by_cases h1 : 160 ≤ a
  · have HE : Hid (ctlB a = false) := Lib.hid (by simp [ctlB]; omega)
    clear h0
    go_enter Tryz.func137, Tryz.ntmps137
    go_wp2
    go_ret
    exact ⟨ret_bool HE.out.symm, Below.refl _ _⟩
  have h1' : a < 160 := by omega
  by_cases h2 : a = 27
  · subst h2
    clear h0 h1 h0' h1'
    go_enter Tryz.func137, Tryz.ntmps137
    go_wp2
    go_ret
    exact ⟨ret_bool (by decide), Below.refl _ _⟩
  have HE : Hid (ctlB a = ((byteTok a).k == 1)) := Lib.hid (by
    have q0 : decide (0 ≤ a) = true := by simpa using h0'
    have q1 : decide (a < 160) = true := by simpa using h1'
    have q2 : decide (a ≠ 27) = true := by simpa using h2
    rw [ctlB, q0, q1, q2]
    rfl)
  have e2 : (a != 27) = true := by simpa using h2
  have HF := Lib.hid (tokField0 (byteTok a))
  clear h0 h1 h2
  generalize hy : byteTok a = y at *
  have HY := Lib.hid hy
  clear hy
  have fy := HF.out
  go_enter Tryz.func137, Tryz.ntmps137
  go_wp2_with fail
  refine (impl_byteToken a w h0' (by omega)).mono ?_
  rintro e w1 ⟨rfl, b1⟩
  rw [HY.out]
  unfold tokV
  go_wp2
  go_ret
  exact ⟨ret_bool HE.out.symm, b1⟩

def valB (k a : Int) : Bool :=
  if k = 1 then ctlB a else if k = 3 then inB a 33 126 else if k = 4 then inB a 32 127 else if k = 5 then inB a 0 3 else if k = 6 then decide (a = 2 ∨ a = 3)
  else if k = 2 ∨ k = 8 ∨ k = 9 then decide (a = 0) else false

def fldB (x : Tok) : Bool := if x.k = 7 then inB x.b 1 3 && (regB x.b x.a && (decide (64 ≤ x.c) && decide (x.c ≤ 126))) else valB x.k x.a && (decide (x.b = 0) && decide (x.c = 0))

def lenB (x : Tok) : Bool :=
  if x.k = 5 ∧ 2 ≤ x.a then decide (x.n = 2) else if x.k = 6 then decide (x.n = 1 ∨ x.n = 2) else if x.k = 7 then decide (x.n = 3 ∨ x.n = 4) else if x.k = 8 ∨ x.k = 9 then decide (1 ≤ x.n) && decide (x.n ≤ 65536) else decide (x.n = 1)

def tokOKI (x : Tok) : Bool := decide (0 ≤ x.p) && (decide (x.p ≤ 65536) && (fldB x && lenB x))
theorem regB_iff (kd g : Int) : regB kd g = true ↔ (0 ≤ g ∧ g ≤ 3) ∧ ¬ (kd = 2 ∧ g = 0) := by
  unfold regB inB
  rw [Bool.and_eq_true, Bool.and_eq_true, decide_eq_true_eq, decide_eq_true_eq, Bool.not_eq_true', Bool.and_eq_false_iff, decide_eq_false_iff_not, decide_eq_false_iff_not]
  omega
theorem okI1 (a b c p n : Int) : tokOKI ⟨1, a, b, c, p, n⟩ = true ↔ tokOKP ⟨1, a, b, c, p, n⟩ := by
  show (decide (0 ≤ p) && (decide (p ≤ 65536) && ((ctlB a && (decide (b = 0) && decide (c = 0))) && decide (n = 1)))) = true ↔ _
  unfold tokOKP
  simp only [Bool.and_eq_true, decide_eq_true_eq, ctlB_iff, Int.reduceEq, false_and, true_and, or_false]
  omega
theorem okI2 (a b c p n : Int) : tokOKI ⟨2, a, b, c, p, n⟩ = true ↔ tokOKP ⟨2, a, b, c, p, n⟩ := by
  show (decide (0 ≤ p) && (decide (p ≤ 65536) && ((decide (a = 0) && (decide (b = 0) && decide (c = 0))) && decide (n = 1)))) = true ↔ _
  unfold tokOKP
  simp only [Bool.and_eq_true, decide_eq_true_eq, Int.reduceEq, false_and, true_and, false_or, or_false]
  omega
theorem okI3 (a b c p n : Int) : tokOKI ⟨3, a, b, c, p, n⟩ = true ↔ tokOKP ⟨3, a, b, c, p, n⟩ := by
  show (decide (0 ≤ p) && (decide (p ≤ 65536) && ((inB a 33 126 && (decide (b = 0) && decide (c = 0))) && decide (n = 1)))) = true ↔ _
  unfold tokOKP
  simp only [Bool.and_eq_true, decide_eq_true_eq, inB, Int.reduceEq, false_and, true_and, false_or, or_false]
  omega
theorem okI4 (a b c p n : Int) : tokOKI ⟨4, a, b, c, p, n⟩ = true ↔ tokOKP ⟨4, a, b, c, p, n⟩ := by
  show (decide (0 ≤ p) && (decide (p ≤ 65536) && ((inB a 32 127 && (decide (b = 0) && decide (c = 0))) && decide (n = 1)))) = true ↔ _
  unfold tokOKP
  simp only [Bool.and_eq_true, decide_eq_true_eq, inB, Int.reduceEq, false_and, true_and, false_or, or_false]
  omega
theorem okI6 (a b c p n : Int) : tokOKI ⟨6, a, b, c, p, n⟩ = true ↔ tokOKP ⟨6, a, b, c, p, n⟩ := by
  show (decide (0 ≤ p) && (decide (p ≤ 65536) && ((decide (a = 2 ∨ a = 3) && (decide (b = 0) && decide (c = 0))) && decide (n = 1 ∨ n = 2)))) = true ↔ _
  unfold tokOKP
  simp only [Bool.and_eq_true, decide_eq_true_eq, Int.reduceEq, false_and, true_and, false_or, or_false]
  omega
theorem okI7 (a b c p n : Int) : tokOKI ⟨7, a, b, c, p, n⟩ = true ↔ tokOKP ⟨7, a, b, c, p, n⟩ := by
  show (decide (0 ≤ p) && (decide (p ≤ 65536) && ((inB b 1 3 && (regB b a && (decide (64 ≤ c) && decide (c ≤ 126)))) && decide (n = 3 ∨ n = 4)))) = true ↔ _
  unfold tokOKP
  simp only [Bool.and_eq_true, decide_eq_true_eq, inB, regB_iff, Int.reduceEq, false_and, true_and, false_or, or_false]
  omega
theorem okI8 (a b c p n : Int) : tokOKI ⟨8, a, b, c, p, n⟩ = true ↔ tokOKP ⟨8, a, b, c, p, n⟩ := by
  show (decide (0 ≤ p) && (decide (p ≤ 65536) && ((decide (a = 0) && (decide (b = 0) && decide (c = 0))) && (decide (1 ≤ n) && decide (n ≤ 65536))))) = true ↔ _
  unfold tokOKP
  simp only [Bool.and_eq_true, decide_eq_true_eq, Int.reduceEq, false_and, true_and, false_or, or_false]
  omega
theorem okI9 (a b c p n : Int) : tokOKI ⟨9, a, b, c, p, n⟩ = true ↔ tokOKP ⟨9, a, b, c, p, n⟩ := by
  show (decide (0 ≤ p) && (decide (p ≤ 65536) && ((decide (a = 0) && (decide (b = 0) && decide (c = 0))) && (decide (1 ≤ n) && decide (n ≤ 65536))))) = true ↔ _
  unfold tokOKP
  simp only [Bool.and_eq_true, decide_eq_true_eq, Int.reduceEq, false_and, true_and, false_or]
  omega
theorem okI5 (a b c p n : Int) : tokOKI ⟨5, a, b, c, p, n⟩ = true ↔ tokOKP ⟨5, a, b, c, p, n⟩ := by
  by_cases a2 : 2 ≤ a
  · have hl : lenB ⟨5, a, b, c, p, n⟩ = decide (n = 2) := by rw [lenB, if_pos ⟨rfl, a2⟩]
    show (decide (0 ≤ p) && (decide (p ≤ 65536) && ((inB a 0 3 && (decide (b = 0) && decide (c = 0))) && lenB ⟨5, a, b, c, p, n⟩))) = true ↔ _
    rw [hl]
    unfold tokOKP
    simp only [Bool.and_eq_true, decide_eq_true_eq, inB, Int.reduceEq, false_and, true_and, false_or, or_false]
    omega
  · have hl : lenB ⟨5, a, b, c, p, n⟩ = decide (n = 1) := by rw [lenB, if_neg (fun h => a2 h.2)]; rfl
    show (decide (0 ≤ p) && (decide (p ≤ 65536) && ((inB a 0 3 && (decide (b = 0) && decide (c = 0))) && lenB ⟨5, a, b, c, p, n⟩))) = true ↔ _
    rw [hl]
    unfold tokOKP
    simp only [Bool.and_eq_true, decide_eq_true_eq, inB, Int.reduceEq, false_and, true_and, false_or, or_false]
    omega
theorem tokOKI_eq (x : Tok) : tokOKI x = tokOKB x := by
  refine tokOKB_of ?_
  obtain ⟨k, a, b, c, p, n⟩ := x
  by_cases hk : k < 1 ∨ 9 < k
  · have h1 : valB k a = false := by
      rw [valB, if_neg (by omega), if_neg (by omega), if_neg (by omega), if_neg (by omega), if_neg (by omega), if_neg (by omega)]
    have h2 : fldB ⟨k, a, b, c, p, n⟩ = false := by
      rw [fldB, if_neg (by dsimp only; omega)]
      dsimp only
      rw [h1]
      rfl
    unfold tokOKI
    rw [h2]
    unfold tokOKP
    constructor
    · intro h; simp at h
    · intro h; exfalso; dsimp only at h; omega
  · have : k = 1 ∨ k = 2 ∨ k = 3 ∨ k = 4 ∨ k = 5 ∨ k = 6 ∨ k = 7 ∨ k = 8 ∨ k = 9 := by omega
    rcases this with rfl | rfl | rfl | rfl | rfl | rfl | rfl | rfl | rfl
    · exact okI1 a b c p n
    · exact okI2 a b c p n
    · exact okI3 a b c p n
    · exact okI4 a b c p n
    · exact okI5 a b c p n
    · exact okI6 a b c p n
    · exact okI7 a b c p n
    · exact okI8 a b c p n
    · exact okI9 a b c p n

end Go.Proofs.YtbamjhldebobhaaGreatDoor
