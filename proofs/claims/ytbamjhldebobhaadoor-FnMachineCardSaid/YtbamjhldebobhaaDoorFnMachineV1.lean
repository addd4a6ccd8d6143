/- The program's NameSet. Joined of: ByteI, TokH, MaG, MaH, MaI, StI, LayI, DesI, NextI, NextJ, MaJ, SetsLaid, MaLaid, MchM, Marks, TokL, EnW, StE, MaE. -/
import Derived.Test.YtbamjhldebobhaaDoorTokB
import Derived.Test.YtbamjhldebobhaaDoorTokD
import Derived.Test.YtbamjhldebobhaaDoorEscI
import Derived.Test.YtbamjhldebobhaaDoorMaF
import Derived.Test.YtbamjhldebobhaaDoorStH
import Derived.Test.YtbamjhldebobhaaDoorOwn
import Derived.Shelf.Strings.BuilderRune
import Derived.Shelf.Strings.Search1
import Derived.Shelf.Small.Strs
import Derived.Test.YtbamjhldebobhaaDoorProg
import Derived.Test.YtbamjhldebobhaaDoorTokC
import Derived.WalkMore
import Derived.Test.YtbamjhldebobhaaDoorSetsT
import Derived.Test.YtbamjhldebobhaaDoorVars
import Derived.Lib.SmallJoins
import Derived.Test.YtbamjhldebobhaaDoorMaB
import Derived.Test.YtbamjhldebobhaaDoorStN
import Derived.Test.YtbamjhldebobhaaDoorInts
import Derived.Test.YtbamjhldebobhaaDoorDraw
import Derived.Test.YtbamjhldebobhaaDoorConv
import Derived.OrdersHeld
import Derived.RegionTactic
import Derived.Deep.RegionHeld
import Derived.Test.YtbamjhldebobhaaDoorStD
import Derived.Test.YtbamjhldebobhaaDoorEscA
import Derived.Test.YtbamjhldebobhaaDoorMaD

namespace Go.Proofs.YtbamjhldebobhaaDoor
open Go.RowKit

/-- The token, without its place, of a byte other than ESC. -/
def byteTok (b : Int) : Tok :=
  if b = 15 then ⟨5, 0, 0, 0, 0, 0⟩ else if b = 14 then ⟨5, 1, 0, 0, 0, 0⟩ else if b = 142 then ⟨6, 2, 0, 0, 0, 0⟩ else if b = 143 then ⟨6, 3, 0, 0, 0, 0⟩
  else if b = 32 then ⟨2, 0, 0, 0, 0, 0⟩ else if 33 ≤ b ∧ b ≤ 126 then ⟨3, b, 0, 0, 0, 0⟩ else if 160 ≤ b then ⟨4, b - 128, 0, 0, 0, 0⟩ else ⟨1, b, 0, 0, 0, 0⟩

set_option maxHeartbeats 2000000 in
theorem impl_byteToken (b : Int) (w : World) (h0 : 0 ≤ b) (h1 : b ≤ 65536) : Calls Tryd.prog 53 #[.int .i64 b] w (TokDone (byteTok b) w) := by
  by_cases c1 : b = 15
  · subst c1
    go_enter Tryd.func53, Tryd.ntmps53
    go_wp2
    exact tok_ret (y := ⟨5, 0, 0, 0, 0, 0⟩) rfl rfl rfl (heap_alloc_new _ _) Tryd.underlying38 rfl (by kernel_rfl) rfl (below_one _ _)
  by_cases c2 : b = 14
  · subst c2
    clear c1
    go_enter Tryd.func53, Tryd.ntmps53
    go_wp2
    exact tok_ret (y := ⟨5, 1, 0, 0, 0, 0⟩) rfl rfl rfl (heap_alloc_new _ _) Tryd.underlying38 rfl (by kernel_rfl) rfl (below_one _ _)
  by_cases c3 : b = 142
  · subst c3
    clear c1 c2
    go_enter Tryd.func53, Tryd.ntmps53
    go_wp2
    exact tok_ret (y := ⟨6, 2, 0, 0, 0, 0⟩) rfl rfl rfl (heap_alloc_new _ _) Tryd.underlying38 rfl (by kernel_rfl) rfl (below_one _ _)
  by_cases c4 : b = 143
  · subst c4
    clear c1 c2 c3
    go_enter Tryd.func53, Tryd.ntmps53
    go_wp2
    exact tok_ret (y := ⟨6, 3, 0, 0, 0, 0⟩) rfl rfl rfl (heap_alloc_new _ _) Tryd.underlying38 rfl (by kernel_rfl) rfl (below_one _ _)
  by_cases c5 : b = 32
  · subst c5
    clear c1 c2 c3 c4
    go_enter Tryd.func53, Tryd.ntmps53
    go_wp2
    exact tok_ret (y := ⟨2, 0, 0, 0, 0, 0⟩) rfl rfl rfl (heap_alloc_new _ _) Tryd.underlying38 rfl (by kernel_rfl) rfl (below_one _ _)
  have e1 : (b == 15) = false := by rw [beq_eq_false_iff_ne]; exact c1
  have e2 : (b == 14) = false := by rw [beq_eq_false_iff_ne]; exact c2
  have e3 : (b == 142) = false := by rw [beq_eq_false_iff_ne]; exact c3
  have e4 : (b == 143) = false := by rw [beq_eq_false_iff_ne]; exact c4
  have e5 : (b == 32) = false := by rw [beq_eq_false_iff_ne]; exact c5
  by_cases c6 : 33 ≤ b
  · by_cases c7 : b ≤ 126
    · have HE : Hid (byteTok b = ⟨3, b, 0, 0, 0, 0⟩) := Lib.hid (by rw [byteTok, if_neg c1, if_neg c2, if_neg c3, if_neg c4, if_neg c5, if_pos ⟨c6, c7⟩])
      clear c1 c2 c3 c4 c5
      go_enter Tryd.func53, Tryd.ntmps53
      go_wp2
      exact tok_ret HE.out rfl rfl (heap_alloc_new _ _) Tryd.underlying38 rfl (by kernel_rfl) rfl (below_one _ _)
    · have c8 : 126 < b := by omega
      by_cases c9 : 160 ≤ b
      · have HE : Hid (byteTok b = ⟨4, b - 128, 0, 0, 0, 0⟩) := Lib.hid (by rw [byteTok, if_neg c1, if_neg c2, if_neg c3, if_neg c4, if_neg c5, if_neg (by omega), if_pos c9])
        have u1 : IntKind.i64.wrap (b - 128) = b - 128 := IntWalk.i64_in _ (by omega)
        clear c1 c2 c3 c4 c5 c7
        go_enter Tryd.func53, Tryd.ntmps53
        go_wp2
        exact tok_ret HE.out rfl rfl (heap_alloc_new _ _) Tryd.underlying38 rfl (by kernel_rfl) rfl (below_one _ _)
      · have HE : Hid (byteTok b = ⟨1, b, 0, 0, 0, 0⟩) := Lib.hid (by rw [byteTok, if_neg c1, if_neg c2, if_neg c3, if_neg c4, if_neg c5, if_neg (by omega), if_neg c9])
        have c10 : b < 160 := by omega
        clear c1 c2 c3 c4 c5 c7 c9
        go_enter Tryd.func53, Tryd.ntmps53
        go_wp2
        exact tok_ret HE.out rfl rfl (heap_alloc_new _ _) Tryd.underlying38 rfl (by kernel_rfl) rfl (below_one _ _)
  · have HE : Hid (byteTok b = ⟨1, b, 0, 0, 0, 0⟩) := Lib.hid (by rw [byteTok, if_neg c1, if_neg c2, if_neg c3, if_neg c4, if_neg c5, if_neg (by omega), if_neg (by omega)])
    have c10 : b < 33 := by omega
    clear c1 c2 c3 c4 c5 c6
    go_enter Tryd.func53, Tryd.ntmps53
    go_wp2
    exact tok_ret HE.out rfl rfl (heap_alloc_new _ _) Tryd.underlying38 rfl (by kernel_rfl) rfl (below_one _ _)

end Go.Proofs.YtbamjhldebobhaaDoor

namespace Go.Proofs.YtbamjhldebobhaaDoor
open Go.RowKit

theorem tokField0 (y : Tok) (w : World) : (Instr.field 38 (.agg #[.int .i64 y.k, .int .i64 y.a, .int .i64 y.b, .int .i64 y.c, .int .i64 y.p, .int .i64 y.n]) 0).run Tryd.prog w = .ok (.int .i64 y.k) w := by kernel_rfl

def ctlB (a : Int) : Bool := decide (0 ≤ a) && decide (a < 160) && decide (a ≠ 27) && decide ((byteTok a).k = 1)
theorem ctlB_iff (a : Int) : ctlB a = true ↔ ((0 ≤ a ∧ a ≤ 13) ∨ (16 ≤ a ∧ a ≤ 31 ∧ a ≠ 27) ∨ a = 127 ∨ (128 ≤ a ∧ a ≤ 159 ∧ a ≠ 142 ∧ a ≠ 143)) := by
  simp only [ctlB, Bool.and_eq_true, decide_eq_true_eq]
  unfold byteTok
  repeat' split
  all_goals dsimp only
  all_goals omega

set_option maxHeartbeats 1000000 in
theorem impl_isControl (a : Int) (w : World) : Calls Tryd.prog 86 #[.int .i64 a] w fun e w' => e = .returned (.bool (ctlB a)) ∧ Below w.heap.size w w' := by
  by_cases h0 : a < 0
  · have HE : Hid (ctlB a = false) := Lib.hid (by simp [ctlB]; omega)
    go_enter Tryd.func86, Tryd.ntmps86
    go_wp2
    go_ret
    exact ⟨ret_bool HE.out.symm, Below.refl _ _⟩
  have h0' : 0 ≤ a := by omega
  by_cases h1 : 160 ≤ a
  · have HE : Hid (ctlB a = false) := Lib.hid (by simp [ctlB]; omega)
    clear h0
    go_enter Tryd.func86, Tryd.ntmps86
    go_wp2
    go_ret
    exact ⟨ret_bool HE.out.symm, Below.refl _ _⟩
  have h1' : a < 160 := by omega
  by_cases h2 : a = 27
  · subst h2
    clear h0 h1 h0' h1'
    go_enter Tryd.func86, Tryd.ntmps86
    go_wp2
    go_ret
    exact ⟨ret_bool (by decide), Below.refl _ _⟩
  have HE : Hid (ctlB a = ((byteTok a).k == 1)) := Lib.hid (by
    have q0 : decide (0 ≤ a) = true := by simpa using h0'
    have q1 : decide (a < 160) = true := by simpa using h1'
    have q2 : decide (a ≠ 27) = true := by simpa using h2
    rw [ctlB, q0, q1, q2]
    rfl)
  have e2 : (a != 27) = true := by simpa using h2
  have HF := Lib.hid (tokField0 (byteTok a))
  clear h0 h1 h2
  generalize hy : byteTok a = y at *
  have HY := Lib.hid hy
  clear hy
  have fy := HF.out
  go_enter Tryd.func86, Tryd.ntmps86
  go_wp2_with fail
  refine (impl_byteToken a w h0' (by omega)).mono ?_
  rintro e w1 ⟨rfl, b1⟩
  rw [HY.out]
  unfold tokV
  go_wp2
  go_ret
  exact ⟨ret_bool HE.out.symm, b1⟩

def valB (k a : Int) : Bool :=
  if k = 1 then ctlB a else if k = 3 then inB a 33 126 else if k = 4 then inB a 32 127 else if k = 5 then inB a 0 3 else if k = 6 then decide (a = 2 ∨ a = 3)
  else if k = 2 ∨ k = 8 ∨ k = 9 then decide (a = 0) else false

set_option maxHeartbeats 2000000 in
theorem impl_tokenValueOK (k a : Int) (w : World) : Calls Tryd.prog 78 #[.int .i64 k, .int .i64 a] w fun e w' => e = .returned (.bool (valB k a)) ∧ Below w.heap.size w w' := by
  by_cases k1 : k = 1
  · subst k1
    go_enter Tryd.func78, Tryd.ntmps78
    go_wp2_with fail
    refine (impl_isControl a w).mono ?_
    rintro e w1 ⟨rfl, b1⟩
    go_wp2
    go_ret
    exact ⟨rfl, b1⟩
  by_cases k3 : k = 3
  · subst k3
    clear k1
    go_enter Tryd.func78, Tryd.ntmps78
    go_wp2_with fail
    refine (impl_isCode94 a w).mono ?_
    rintro e w1 ⟨rfl, rfl⟩
    go_wp2
    go_ret
    exact ⟨rfl, Below.refl _ _⟩
  by_cases k4 : k = 4
  · subst k4
    clear k1 k3
    have HE : Hid (valB 4 a = (decide (32 ≤ a) && decide (a ≤ 127))) := Lib.hid rfl
    rw [HE.out]
    by_cases h1 : 32 ≤ a
    · by_cases h2 : a ≤ 127
      all_goals
        go_enter Tryd.func78, Tryd.ntmps78
        go_wp2
        go_ret
        exact ⟨ret_bool (by simp [h1, h2]), Below.refl _ _⟩
    · have HF := Lib.hid (show decide (32 ≤ a) = false by simpa using h1)
      go_enter Tryd.func78, Tryd.ntmps78
      go_wp2
      go_ret
      exact ⟨ret_bool (by rw [HF.out]; rfl), Below.refl _ _⟩
  by_cases k5 : k = 5
  · subst k5
    clear k1 k3 k4
    have HE : Hid (valB 5 a = (decide (0 ≤ a) && decide (a ≤ 3))) := Lib.hid rfl
    rw [HE.out]
    by_cases h1 : 0 ≤ a
    · by_cases h2 : a ≤ 3
      all_goals
        go_enter Tryd.func78, Tryd.ntmps78
        go_wp2
        go_ret
        exact ⟨ret_bool (by simp [h1, h2]), Below.refl _ _⟩
    · have HF := Lib.hid (show decide (0 ≤ a) = false by simpa using h1)
      go_enter Tryd.func78, Tryd.ntmps78
      go_wp2
      go_ret
      exact ⟨ret_bool (by rw [HF.out]; rfl), Below.refl _ _⟩
  by_cases k6 : k = 6
  · subst k6
    clear k1 k3 k4 k5
    have HE : Hid (valB 6 a = decide (a = 2 ∨ a = 3)) := Lib.hid rfl
    rw [HE.out]
    by_cases h1 : a = 2
    · subst h1
      go_enter Tryd.func78, Tryd.ntmps78
      go_wp2
      go_ret
      exact ⟨ret_bool (by decide), Below.refl _ _⟩
    · have e1 : (a == 2) = false := by simpa using h1
      have HX : Hid ((a == 3) = decide (a = 2 ∨ a = 3)) := Lib.hid (by simp [h1]; rfl)
      clear h1
      go_enter Tryd.func78, Tryd.ntmps78
      go_wp2
      go_ret
      exact ⟨ret_bool HX.out, Below.refl _ _⟩
  by_cases k2 : k = 2 ∨ k = 8 ∨ k = 9
  · have HE : Hid ((a == 0) = valB k a) := Lib.hid (by
      rw [valB, if_neg k1, if_neg k3, if_neg k4, if_neg k5, if_neg k6, if_pos k2]
      rfl)
    clear k1 k3 k4 k5 k6
    rcases k2 with rfl | rfl | rfl
    all_goals
      go_enter Tryd.func78, Tryd.ntmps78
      go_wp2
      go_ret
      exact ⟨ret_bool HE.out, Below.refl _ _⟩
  · have HE : Hid (false = valB k a) := Lib.hid (by rw [valB, if_neg k1, if_neg k3, if_neg k4, if_neg k5, if_neg k6, if_neg k2])
    have e1 : (k == 1) = false := by rw [beq_eq_false_iff_ne]; exact k1
    have e3 : (k == 3) = false := by rw [beq_eq_false_iff_ne]; exact k3
    have e4 : (k == 4) = false := by rw [beq_eq_false_iff_ne]; exact k4
    have e5 : (k == 5) = false := by rw [beq_eq_false_iff_ne]; exact k5
    have e6 : (k == 6) = false := by rw [beq_eq_false_iff_ne]; exact k6
    have e2 : (k == 2) = false := by rw [beq_eq_false_iff_ne]; omega
    have e8 : (k == 8) = false := by rw [beq_eq_false_iff_ne]; omega
    have e9 : (k == 9) = false := by rw [beq_eq_false_iff_ne]; omega
    clear k1 k2 k3 k4 k5 k6
    go_enter Tryd.func78, Tryd.ntmps78
    go_wp2
    go_ret
    exact ⟨ret_bool HE.out, Below.refl _ _⟩

def fldB (x : Tok) : Bool := if x.k = 7 then inB x.b 1 3 && (regB x.b x.a && (decide (64 ≤ x.c) && decide (x.c ≤ 126))) else valB x.k x.a && (decide (x.b = 0) && decide (x.c = 0))

set_option maxHeartbeats 2000000 in
set_option maxRecDepth 100000 in
theorem impl_tokenFieldsOK (x : Tok) (w : World) : Calls Tryd.prog 60 #[tokV x] w fun e w' => e = .returned (.bool (fldB x)) ∧ Below w.heap.size w w' := by
  obtain ⟨k, a, b, c, p, n⟩ := x
  have b0 := below_one w (.cells #[.int .i64 k, .int .i64 a, .int .i64 b, .int .i64 c, .int .i64 p, .int .i64 n] 38)
  have hX := TokAt.new w ⟨k, a, b, c, p, n⟩
  unfold tokV
  by_cases k7 : k = 7
  · have HE : Hid (fldB ⟨k, a, b, c, p, n⟩ = (inB b 1 3 && (regB b a && (decide (64 ≤ c) && decide (c ≤ 126))))) := Lib.hid (by rw [fldB, if_pos k7])
    rw [HE.out]
    subst k7
    clear hX HE
    have HK := Lib.hid (impl_isKind b)
    have HR := Lib.hid (impl_isRegisterFor b a)
    generalize inB b 1 3 = kb at *
    generalize regB b a = rb at *
    cases kb
    · go_enter Tryd.func60, Tryd.ntmps60
      go_wp2_with fail
      refine (HK.out _).mono ?_
      rintro e w1 ⟨rfl, rfl⟩
      go_wp2
      go_ret
      exact ⟨rfl, b0⟩
    cases rb
    · go_enter Tryd.func60, Tryd.ntmps60
      go_wp2_with fail
      refine (HK.out _).mono ?_
      rintro e w1 ⟨rfl, rfl⟩
      go_wp2_with fail
      refine (HR.out _).mono ?_
      rintro e w1 ⟨rfl, rfl⟩
      go_wp2
      go_ret
      exact ⟨rfl, b0⟩
    by_cases c1 : 64 ≤ c
    · have HD : Hid (decide (c ≤ 126) = (true && (true && (decide (64 ≤ c) && decide (c ≤ 126))))) := Lib.hid (by simp [c1])
      rw [← HD.out]
      go_enter Tryd.func60, Tryd.ntmps60
      go_wp2_with fail
      refine (HK.out _).mono ?_
      rintro e w1 ⟨rfl, rfl⟩
      go_wp2_with fail
      refine (HR.out _).mono ?_
      rintro e w1 ⟨rfl, rfl⟩
      go_wp2
      go_ret
      exact ⟨rfl, b0⟩
    · have HD : Hid (false = (true && (true && (decide (64 ≤ c) && decide (c ≤ 126))))) := Lib.hid (by simp [c1])
      rw [← HD.out]
      go_enter Tryd.func60, Tryd.ntmps60
      go_wp2_with fail
      refine (HK.out _).mono ?_
      rintro e w1 ⟨rfl, rfl⟩
      go_wp2_with fail
      refine (HR.out _).mono ?_
      rintro e w1 ⟨rfl, rfl⟩
      go_wp2
      go_ret
      exact ⟨rfl, b0⟩
  · have HE : Hid (fldB ⟨k, a, b, c, p, n⟩ = (valB k a && (decide (b = 0) && decide (c = 0)))) := Lib.hid (by rw [fldB, if_neg k7])
    have e7 : (k == 7) = false := by rw [beq_eq_false_iff_ne]; exact k7
    rw [HE.out]
    clear k7
    go_enter Tryd.func60, Tryd.ntmps60
    go_wp2_with fail
    refine (impl_tokenValueOK k a _).mono ?_
    rintro e w1 ⟨rfl, b1⟩
    have B1 : Below w.heap.size w w1 := b0.trans (b1.mono b0.size)
    have ⟨y0, y1, y2, y3, y4, y5⟩ := (hX.keep b1).cells
    clear hX b0 b1
    cases hv : valB k a
    · have HV := Lib.hid hv
      go_wp2
      go_ret
      exact ⟨ret_bool (by rw [HV.out]; rfl), B1⟩
    · by_cases hb : b = 0
      · subst hb
        go_wp2
        go_ret
        exact ⟨ret_bool rfl, B1⟩
      · have eb : (b == 0) = false := by rw [beq_eq_false_iff_ne]; exact hb
        go_wp2
        go_ret
        exact ⟨ret_bool (by simp [hb]), B1⟩

def lenB (x : Tok) : Bool :=
  if x.k = 5 ∧ 2 ≤ x.a then decide (x.n = 2) else if x.k = 6 then decide (x.n = 1 ∨ x.n = 2) else if x.k = 7 then decide (x.n = 3 ∨ x.n = 4) else if x.k = 8 ∨ x.k = 9 then decide (1 ≤ x.n) && decide (x.n ≤ 65536) else decide (x.n = 1)

set_option maxHeartbeats 2000000 in
set_option maxRecDepth 100000 in
theorem impl_tokenLengthOK (x : Tok) (w : World) : Calls Tryd.prog 61 #[tokV x] w fun e w' => e = .returned (.bool (lenB x)) ∧ Below w.heap.size w w' := by
  obtain ⟨k, a, b, c, p, n⟩ := x
  have b0 := Lib.hid (below_one w (.cells #[.int .i64 k, .int .i64 a, .int .i64 b, .int .i64 c, .int .i64 p, .int .i64 n] 38))
  unfold tokV
  by_cases k5 : k = 5
  · by_cases a2 : 2 ≤ a
    · have HE : Hid ((n == 2) = lenB ⟨k, a, b, c, p, n⟩) := Lib.hid (by rw [lenB, if_pos ⟨k5, a2⟩]; rfl)
      subst k5
      go_enter Tryd.func61, Tryd.ntmps61
      go_wp2
      go_ret
      exact ⟨ret_bool HE.out, b0.out⟩
    · have HE : Hid ((n == 1) = lenB ⟨k, a, b, c, p, n⟩) := Lib.hid (by rw [lenB, if_neg (fun h => a2 h.2), if_neg (by dsimp only; omega), if_neg (by dsimp only; omega), if_neg (by dsimp only; omega)]; rfl)
      subst k5
      go_enter Tryd.func61, Tryd.ntmps61
      go_wp2
      go_ret
      exact ⟨ret_bool HE.out, b0.out⟩
  have e5 : (k == 5) = false := by rw [beq_eq_false_iff_ne]; exact k5
  by_cases k6 : k = 6
  · have HE : Hid (lenB ⟨k, a, b, c, p, n⟩ = decide (n = 1 ∨ n = 2)) := Lib.hid (by rw [lenB, if_neg (fun h => k5 h.1), if_pos k6])
    rw [HE.out]
    subst k6
    clear k5 e5
    by_cases n1 : n = 1
    · subst n1
      go_enter Tryd.func61, Tryd.ntmps61
      go_wp2
      go_ret
      exact ⟨ret_bool (by decide), b0.out⟩
    · have e1 : (n == 1) = false := by rw [beq_eq_false_iff_ne]; exact n1
      go_enter Tryd.func61, Tryd.ntmps61
      go_wp2
      go_ret
      exact ⟨ret_bool (by simp [n1]; rfl), b0.out⟩
  have e6 : (k == 6) = false := by rw [beq_eq_false_iff_ne]; exact k6
  by_cases k7 : k = 7
  · have HE : Hid (lenB ⟨k, a, b, c, p, n⟩ = decide (n = 3 ∨ n = 4)) := Lib.hid (by rw [lenB, if_neg (fun h => k5 h.1), if_neg k6, if_pos k7])
    rw [HE.out]
    subst k7
    clear k5 e5 k6 e6
    by_cases n1 : n = 3
    · subst n1
      go_enter Tryd.func61, Tryd.ntmps61
      go_wp2
      go_ret
      exact ⟨ret_bool (by decide), b0.out⟩
    · have e1 : (n == 3) = false := by rw [beq_eq_false_iff_ne]; exact n1
      go_enter Tryd.func61, Tryd.ntmps61
      go_wp2
      go_ret
      exact ⟨ret_bool (by simp [n1]; rfl), b0.out⟩
  have e7 : (k == 7) = false := by rw [beq_eq_false_iff_ne]; exact k7
  by_cases k8 : k = 8 ∨ k = 9
  · have HE : Hid (lenB ⟨k, a, b, c, p, n⟩ = (decide (1 ≤ n) && decide (n ≤ 65536))) := Lib.hid (by rw [lenB, if_neg (fun h => k5 h.1), if_neg k6, if_neg k7, if_pos k8])
    rw [HE.out]
    clear k5 e5 k6 e6 k7 e7 HE
    by_cases n1 : 1 ≤ n
    · by_cases n2 : n ≤ 65536
      all_goals
        rcases k8 with rfl | rfl
        all_goals
          go_enter Tryd.func61, Tryd.ntmps61
          go_wp2
          go_ret
          exact ⟨ret_bool (by simp [n1, n2]), b0.out⟩
    · have HF := Lib.hid (show decide (1 ≤ n) = false by simpa using n1)
      rcases k8 with rfl | rfl
      all_goals
        go_enter Tryd.func61, Tryd.ntmps61
        go_wp2
        go_ret
        exact ⟨ret_bool (by rw [HF.out]; rfl), b0.out⟩
  · have e8 : (k == 8) = false := by rw [beq_eq_false_iff_ne]; omega
    have e9 : (k == 9) = false := by rw [beq_eq_false_iff_ne]; omega
    have HE : Hid ((n == 1) = lenB ⟨k, a, b, c, p, n⟩) := Lib.hid (by rw [lenB, if_neg (fun h => k5 h.1), if_neg k6, if_neg k7, if_neg k8]; rfl)
    clear k5 k6 k7 k8
    go_enter Tryd.func61, Tryd.ntmps61
    go_wp2
    go_ret
    exact ⟨ret_bool HE.out, b0.out⟩

def tokOKI (x : Tok) : Bool := decide (0 ≤ x.p) && (decide (x.p ≤ 65536) && (fldB x && lenB x))
theorem regB_iff (kd g : Int) : regB kd g = true ↔ (0 ≤ g ∧ g ≤ 3) ∧ ¬ (kd = 2 ∧ g = 0) := by
  unfold regB inB
  rw [Bool.and_eq_true, Bool.and_eq_true, decide_eq_true_eq, decide_eq_true_eq, Bool.not_eq_true', Bool.and_eq_false_iff, decide_eq_false_iff_not, decide_eq_false_iff_not]
  omega
theorem okI1 (a b c p n : Int) : tokOKI ⟨1, a, b, c, p, n⟩ = true ↔ tokOKP ⟨1, a, b, c, p, n⟩ := by
  show (decide (0 ≤ p) && (decide (p ≤ 65536) && ((ctlB a && (decide (b = 0) && decide (c = 0))) && decide (n = 1)))) = true ↔ _
  unfold tokOKP
  simp only [Bool.and_eq_true, decide_eq_true_eq, ctlB_iff, Int.reduceEq, false_and, true_and, or_false]
  omega
theorem okI2 (a b c p n : Int) : tokOKI ⟨2, a, b, c, p, n⟩ = true ↔ tokOKP ⟨2, a, b, c, p, n⟩ := by
  show (decide (0 ≤ p) && (decide (p ≤ 65536) && ((decide (a = 0) && (decide (b = 0) && decide (c = 0))) && decide (n = 1)))) = true ↔ _
  unfold tokOKP
  simp only [Bool.and_eq_true, decide_eq_true_eq, Int.reduceEq, false_and, true_and, false_or, or_false]
  omega
theorem okI3 (a b c p n : Int) : tokOKI ⟨3, a, b, c, p, n⟩ = true ↔ tokOKP ⟨3, a, b, c, p, n⟩ := by
  show (decide (0 ≤ p) && (decide (p ≤ 65536) && ((inB a 33 126 && (decide (b = 0) && decide (c = 0))) && decide (n = 1)))) = true ↔ _
  unfold tokOKP
  simp only [Bool.and_eq_true, decide_eq_true_eq, inB, Int.reduceEq, false_and, true_and, false_or, or_false]
  omega
theorem okI4 (a b c p n : Int) : tokOKI ⟨4, a, b, c, p, n⟩ = true ↔ tokOKP ⟨4, a, b, c, p, n⟩ := by
  show (decide (0 ≤ p) && (decide (p ≤ 65536) && ((inB a 32 127 && (decide (b = 0) && decide (c = 0))) && decide (n = 1)))) = true ↔ _
  unfold tokOKP
  simp only [Bool.and_eq_true, decide_eq_true_eq, inB, Int.reduceEq, false_and, true_and, false_or, or_false]
  omega
theorem okI6 (a b c p n : Int) : tokOKI ⟨6, a, b, c, p, n⟩ = true ↔ tokOKP ⟨6, a, b, c, p, n⟩ := by
  show (decide (0 ≤ p) && (decide (p ≤ 65536) && ((decide (a = 2 ∨ a = 3) && (decide (b = 0) && decide (c = 0))) && decide (n = 1 ∨ n = 2)))) = true ↔ _
  unfold tokOKP
  simp only [Bool.and_eq_true, decide_eq_true_eq, Int.reduceEq, false_and, true_and, false_or, or_false]
  omega
theorem okI7 (a b c p n : Int) : tokOKI ⟨7, a, b, c, p, n⟩ = true ↔ tokOKP ⟨7, a, b, c, p, n⟩ := by
  show (decide (0 ≤ p) && (decide (p ≤ 65536) && ((inB b 1 3 && (regB b a && (decide (64 ≤ c) && decide (c ≤ 126)))) && decide (n = 3 ∨ n = 4)))) = true ↔ _
  unfold tokOKP
  simp only [Bool.and_eq_true, decide_eq_true_eq, inB, regB_iff, Int.reduceEq, false_and, true_and, false_or, or_false]
  omega
theorem okI8 (a b c p n : Int) : tokOKI ⟨8, a, b, c, p, n⟩ = true ↔ tokOKP ⟨8, a, b, c, p, n⟩ := by
  show (decide (0 ≤ p) && (decide (p ≤ 65536) && ((decide (a = 0) && (decide (b = 0) && decide (c = 0))) && (decide (1 ≤ n) && decide (n ≤ 65536))))) = true ↔ _
  unfold tokOKP
  simp only [Bool.and_eq_true, decide_eq_true_eq, Int.reduceEq, false_and, true_and, false_or, or_false]
  omega
theorem okI9 (a b c p n : Int) : tokOKI ⟨9, a, b, c, p, n⟩ = true ↔ tokOKP ⟨9, a, b, c, p, n⟩ := by
  show (decide (0 ≤ p) && (decide (p ≤ 65536) && ((decide (a = 0) && (decide (b = 0) && decide (c = 0))) && (decide (1 ≤ n) && decide (n ≤ 65536))))) = true ↔ _
  unfold tokOKP
  simp only [Bool.and_eq_true, decide_eq_true_eq, Int.reduceEq, false_and, true_and, false_or]
  omega
theorem okI5 (a b c p n : Int) : tokOKI ⟨5, a, b, c, p, n⟩ = true ↔ tokOKP ⟨5, a, b, c, p, n⟩ := by
  by_cases a2 : 2 ≤ a
  · have hl : lenB ⟨5, a, b, c, p, n⟩ = decide (n = 2) := by rw [lenB, if_pos ⟨rfl, a2⟩]
    show (decide (0 ≤ p) && (decide (p ≤ 65536) && ((inB a 0 3 && (decide (b = 0) && decide (c = 0))) && lenB ⟨5, a, b, c, p, n⟩))) = true ↔ _
    rw [hl]
    unfold tokOKP
    simp only [Bool.and_eq_true, decide_eq_true_eq, inB, Int.reduceEq, false_and, true_and, false_or, or_false]
    omega
  · have hl : lenB ⟨5, a, b, c, p, n⟩ = decide (n = 1) := by rw [lenB, if_neg (fun h => a2 h.2)]; rfl
    show (decide (0 ≤ p) && (decide (p ≤ 65536) && ((inB a 0 3 && (decide (b = 0) && decide (c = 0))) && lenB ⟨5, a, b, c, p, n⟩))) = true ↔ _
    rw [hl]
    unfold tokOKP
    simp only [Bool.and_eq_true, decide_eq_true_eq, inB, Int.reduceEq, false_and, true_and, false_or, or_false]
    omega
theorem tokOKI_eq (x : Tok) : tokOKI x = tokOKB x := by
  refine tokOKB_of ?_
  obtain ⟨k, a, b, c, p, n⟩ := x
  by_cases hk : k < 1 ∨ 9 < k
  · have h1 : valB k a = false := by
      rw [valB, if_neg (by omega), if_neg (by omega), if_neg (by omega), if_neg (by omega), if_neg (by omega), if_neg (by omega)]
    have h2 : fldB ⟨k, a, b, c, p, n⟩ = false := by
      rw [fldB, if_neg (by dsimp only; omega)]
      dsimp only
      rw [h1]
      rfl
    unfold tokOKI
    rw [h2]
    unfold tokOKP
    constructor
    · intro h; simp at h
    · intro h; exfalso; dsimp only at h; omega
  · have : k = 1 ∨ k = 2 ∨ k = 3 ∨ k = 4 ∨ k = 5 ∨ k = 6 ∨ k = 7 ∨ k = 8 ∨ k = 9 := by omega
    rcases this with rfl | rfl | rfl | rfl | rfl | rfl | rfl | rfl | rfl
    · exact okI1 a b c p n
    · exact okI2 a b c p n
    · exact okI3 a b c p n
    · exact okI4 a b c p n
    · exact okI5 a b c p n
    · exact okI6 a b c p n
    · exact okI7 a b c p n
    · exact okI8 a b c p n
    · exact okI9 a b c p n

set_option maxHeartbeats 2000000 in
set_option maxRecDepth 100000 in
theorem impl_tokenOK (x : Tok) (w : World) : Calls Tryd.prog 32 #[tokV x] w fun e w' => e = .returned (.bool (tokOKB x)) ∧ Below w.heap.size w w' := by
  have HO := Lib.hid (tokOKI_eq x)
  rw [← HO.out]
  have HF := Lib.hid (impl_tokenFieldsOK x)
  have HL := Lib.hid (impl_tokenLengthOK x)
  have HX := Lib.hid (show tokOKI x = (decide (0 ≤ x.p) && (decide (x.p ≤ 65536) && (fldB x && lenB x))) from rfl)
  rw [HX.out]
  generalize fldB x = fb at *
  generalize lenB x = lb at *
  clear HO HX
  obtain ⟨k, a, b, c, p, n⟩ := x
  have b0 := below_one w (.cells #[.int .i64 k, .int .i64 a, .int .i64 b, .int .i64 c, .int .i64 p, .int .i64 n] 38)
  have hX := TokAt.new w ⟨k, a, b, c, p, n⟩
  unfold tokV at HF HL ⊢
  dsimp only at *
  by_cases p0 : 0 ≤ p
  · by_cases p1 : p ≤ 65536
    · have HD : Hid ((decide (0 ≤ p) && (decide (p ≤ 65536) && (fb && lb))) = (fb && lb)) := Lib.hid (by simp [p0, p1])
      rw [HD.out]
      go_enter Tryd.func32, Tryd.ntmps32
      go_wp2_with fail
      refine (HF.out _).mono ?_
      rintro e w1 ⟨rfl, b1⟩
      have B1 : Below w.heap.size w w1 := b0.trans (b1.mono b0.size)
      have ⟨y0, y1, y2, y3, y4, y5⟩ := (hX.keep b1).cells
      dsimp only at y0 y1 y2 y3 y4 y5
      clear hX b0 b1
      cases fb
      · go_wp2
        go_ret
        exact ⟨rfl, B1⟩
      · go_wp2_with fail
        refine (HL.out _).mono ?_
        rintro e w2 ⟨rfl, b2⟩
        have B2 : Below w.heap.size w w2 := B1.trans (b2.mono B1.size)
        go_wp2
        go_ret
        exact ⟨ret_bool (by simp), B2⟩
    · have HD : Hid ((decide (0 ≤ p) && (decide (p ≤ 65536) && (fb && lb))) = false) := Lib.hid (by simp [p1])
      rw [HD.out]
      clear hX
      go_enter Tryd.func32, Tryd.ntmps32
      go_wp2
      go_ret
      exact ⟨rfl, b0⟩
  · have HD : Hid ((decide (0 ≤ p) && (decide (p ≤ 65536) && (fb && lb))) = false) := Lib.hid (by simp [p0])
    rw [HD.out]
    clear hX
    go_enter Tryd.func32, Tryd.ntmps32
    go_wp2
    go_ret
    exact ⟨rfl, b0⟩

end Go.Proofs.YtbamjhldebobhaaDoor

namespace Go.Proofs.YtbamjhldebobhaaDoor
open Go.RowKit Go.Sort

/-- A space in a state: a code of a set of 96, or a character of its own. -/
def spaceP (x : St) : Stp := if x.d = 0 ∧ setKind (setAt x false) = 2 ∧ setAt x false ≠ 0 then graphic x 32 false else if pendB x = true then ⟨x, -1, 13⟩ else ⟨x, 32, 0⟩
theorem space_eq {x : St} (hx : stOKB x = true) (t : Tok) (ht : t.k = 2) : stepT x t = spaceP x := by
  obtain ⟨h1, h2, h3⟩ := stOK_parts hx
  have hs := (head_parts h2).2
  have hl := lead_range h3
  have hr := setAt_range h1 false
  unfold stepT
  rw [if_neg (by omega), if_neg (by omega)]
  unfold spaceP
  have hw : ∀ n, 0 ≤ stGet x n → (wideB x n = true ↔ setKind (stGet x n) = 2 ∧ stGet x n ≠ 0) := by
    intro n hn
    unfold wideB
    rw [Bool.and_eq_true, decide_eq_true_eq, decide_eq_true_eq]
    constructor
    · intro ⟨a, b⟩; exact ⟨b, by omega⟩
    · intro ⟨a, b⟩; exact ⟨by omega, a⟩
  by_cases hp : pendB x = true
  · rw [if_pos hp]
    by_cases hd : x.d = 0
    · have hs2 : 0 < x.s := by
        unfold pendB at hp
        rw [Bool.or_eq_true, decide_eq_true_eq, decide_eq_true_eq] at hp
        omega
      have he : setAt x false = stGet x x.s := by unfold setAt sideOf; rw [if_pos hs2]
      rw [he] at hr ⊢
      have := hw x.s hr.1
      by_cases hc : wideB x x.s = true
      · rw [if_pos ⟨ht, hd, hc⟩, if_pos ⟨hd, this.1 hc⟩]
      · rw [if_neg (fun h => hc h.2.2), if_neg (fun h => hc (this.2 h.2)), if_pos hp]
    · rw [if_neg (fun h => hd h.2.1), if_neg (fun h => hd h.1), if_pos hp]
  · rw [if_neg hp]
    have ⟨s0, d0⟩ := calm_parts hx (by simpa using hp)
    have he : setAt x false = stGet x x.l := by unfold setAt sideOf; rw [if_neg (by omega), if_neg (by decide)]
    rw [he] at hr ⊢
    have := hw x.l hr.1
    unfold calm
    rw [if_neg (by omega), if_pos ht]
    by_cases hc : wideB x x.l = true
    · rw [if_pos hc, if_pos ⟨d0, this.1 hc⟩]
    · rw [if_neg hc, if_neg (fun h => hc (this.2 h.2)), if_neg hp]

theorem mvDone_same {x : St} {p : Stp} {b : Nat} {w w' : World} {r : Int} (h : p = ⟨x, r, 0⟩) (hr : 0 ≤ r) (hm : MAt w b x) (hb : Below w.heap.size w w') : MvDone p b w (.returned (.tuple #[.int .i64 r, .bool true, .int .i64 0])) w' :=
  ⟨by rw [mv_some h hr], by rw [h]; exact hm.keep hb, only_below hm.lt hb⟩
theorem MvDone.from {p : Stp} {b : Nat} {w w1 w2 : World} {e : Ending} (h : MvDone p b w1 e w2) (hb : b < w.heap.size) (hw : Below w.heap.size w w1) : MvDone p b w e w2 :=
  ⟨h.1, h.2.1, (only_below hb hw).trans h.2.2⟩

set_option maxHeartbeats 1000000 in
set_option maxRecDepth 100000 in
theorem impl_space (x : St) (b : Nat) (w : World) (h : MAt w b x) (ht : TabM w) (hx : stOKB x = true) : Calls Tryd.prog 55 #[.pointer (some ⟨b, 0, none⟩)] w (MvDone (spaceP x) b w) := by
  obtain ⟨h1, h2, h3⟩ := stOK_parts hx
  have HF := Lib.hid (fun w h => impl_setFor x b 0 w h h2)
  rw [show ((0 : Int) == 128) = false from rfl] at HF
  obtain ⟨k, hk, k8⟩ := setAt_nat h1 false
  rw [hk] at HF
  have HG := Lib.hid (fun w h ht => impl_take x b false 32 w h ht hx (by decide) (by decide))
  rw [show sideNo false = 0 from rfl] at HG
  have HP := Lib.hid (fun w h => impl_pending x b w h)
  rw [pend_eq hx] at HP
  have HM := Lib.hid h
  have HT := Lib.hid ht
  have hb : b < w.heap.size := h.lt
  have HS : Hid (spaceP x = if x.d = 0 ∧ setKind (k : Int) = 2 ∧ (k : Int) ≠ 0 then graphic x 32 false else if pendB x = true then ⟨x, -1, 13⟩ else ⟨x, 32, 0⟩) := Lib.hid (by rw [spaceP, hk])
  have ⟨y0, y1, y2, y3, y4, y5, y6⟩ := h.cells
  have u1 : (0 : Int) ≤ (k : Int) := by omega
  have u2 : (k : Int) < 9 := by omega
  clear h ht hx h1 h2 h3 hk
  unfold MvDone mvV at HG
  by_cases z : x.d = 0
  · have ez : (x.d == 0) = true := by simpa using z
    have hk2 : (kind0 (k : Int) == 2) = true ↔ (setKind (k : Int) = 2 ∧ (k : Int) ≠ 0) := by
      unfold kind0
      by_cases k0 : (k : Int) = 0
      · rw [if_pos k0]; simp [k0]
      · rw [if_neg k0]
        exact ⟨fun h => ⟨by simpa using h, k0⟩, fun h => by simpa using h.1⟩
    cases h2 : (kind0 (k : Int) == 2)
    · have hn : ¬ (x.d = 0 ∧ setKind (k : Int) = 2 ∧ (k : Int) ≠ 0) := fun h => by rw [hk2.2 h.2] at h2; cases h2
      clear hk2
      cases hp : pendB x
      · have HE : Hid (spaceP x = ⟨x, 32, 0⟩) := Lib.hid (by rw [HS.out, if_neg hn, if_neg (by rw [hp]; decide)])
        rw [hp] at HP
        clear hn z HS
        go_enter Tryd.func55, Tryd.ntmps55
        go_wp2_with fail
        refine (HF.out w HM.out).mono ?_
        rintro e w1 ⟨rfl, b1⟩
        have c1 := (HT.out.keep b1).kind k k8
        generalize kind0 (k : Int) = kd at *
        clear y0 y1 y2 y3 y4 y5 y6
        go_wp2_with fail
        refine (HP.out w1 (HM.out.keep b1)).mono ?_
        rintro e w2 ⟨rfl, rfl⟩
        go_wp2
        go_ret3
        exact mvDone_same HE.out (by decide) HM.out b1
      · have HE : Hid (spaceP x = ⟨x, -1, 13⟩) := Lib.hid (by rw [HS.out, if_neg hn, if_pos hp])
        rw [hp] at HP
        clear hn z HS
        go_enter Tryd.func55, Tryd.ntmps55
        go_wp2_with fail
        refine (HF.out w HM.out).mono ?_
        rintro e w1 ⟨rfl, b1⟩
        have c1 := (HT.out.keep b1).kind k k8
        generalize kind0 (k : Int) = kd at *
        clear y0 y1 y2 y3 y4 y5 y6
        go_wp2_with fail
        refine (HP.out w1 (HM.out.keep b1)).mono ?_
        rintro e w2 ⟨rfl, rfl⟩
        go_wp2
        go_ret3
        exact mvDone_none HE.out HM.out b1
    · have HE : Hid (spaceP x = graphic x 32 false) := Lib.hid (by rw [HS.out, if_pos ⟨z, hk2.1 h2⟩])
      clear hk2 z HS
      generalize graphic x 32 false = g at *
      have HV : Hid (mvV g = .tuple #[.int .i64 (toldR g), .bool (toldB g), .int .i64 g.c]) := Lib.hid rfl
      generalize toldR g = tr at *
      generalize toldB g = tb at *
      go_enter Tryd.func55, Tryd.ntmps55
      go_wp2_with fail
      refine (HF.out w HM.out).mono ?_
      rintro e w1 ⟨rfl, b1⟩
      have c1 := (HT.out.keep b1).kind k k8
      generalize kind0 (k : Int) = kd at *
      clear y0 y1 y2 y3 y4 y5 y6
      go_wp2_with fail
      refine (HG.out w1 (HM.out.keep b1) (HT.out.keep b1)).mono ?_
      rintro e w2 ⟨rfl, m2, o2⟩
      go_wp2
      go_ret3
      refine MvDone.from ⟨?_, ?_, o2⟩ hb b1
      · rw [HE.out, HV.out]; rfl
      · rw [HE.out]; exact m2
  · have ez : (x.d == 0) = false := by rw [beq_eq_false_iff_ne]; exact z
    have hn : ¬ (x.d = 0 ∧ setKind (k : Int) = 2 ∧ (k : Int) ≠ 0) := fun h => z h.1
    cases hp : pendB x
    · have HE : Hid (spaceP x = ⟨x, 32, 0⟩) := Lib.hid (by rw [HS.out, if_neg hn, if_neg (by rw [hp]; decide)])
      rw [hp] at HP
      clear hn z HS
      go_enter Tryd.func55, Tryd.ntmps55
      go_wp2_with fail
      refine (HP.out w HM.out).mono ?_
      rintro e w2 ⟨rfl, rfl⟩
      go_wp2
      go_ret3
      exact mvDone_same HE.out (by decide) HM.out (Below.refl _ _)
    · have HE : Hid (spaceP x = ⟨x, -1, 13⟩) := Lib.hid (by rw [HS.out, if_neg hn, if_pos hp])
      rw [hp] at HP
      clear hn z HS
      go_enter Tryd.func55, Tryd.ntmps55
      go_wp2_with fail
      refine (HP.out w HM.out).mono ?_
      rintro e w2 ⟨rfl, rfl⟩
      go_wp2
      go_ret3
      exact mvDone_none HE.out HM.out (Below.refl _ _)

theorem impl_control (a : Int) (w : World) : Calls Tryd.prog 56 #[.int .i64 a] w fun e w' => e = .returned (if 127 < a then .tuple #[.int .i64 0, .bool false, .int .i64 10] else .tuple #[.int .i64 a, .bool true, .int .i64 0]) ∧ w = w' := by
  by_cases h : 127 < a
  · rw [if_pos h]
    go_enter Tryd.func56, Tryd.ntmps56
    go_wp2
    go_ret3
    exact ⟨rfl, rfl⟩
  · rw [if_neg h]
    go_enter Tryd.func56, Tryd.ntmps56
    go_wp2
    go_ret3
    exact ⟨rfl, rfl⟩

/-- A token changes the machine, and a code is told. -/
def ChDone (p : Stp) (g : Nat) (w : World) (e : Ending) (w' : World) : Prop := e = .returned (.int .i64 p.c) ∧ MAt w' g p.y ∧ Only g w w'
theorem chDone_none {x : St} {p : Stp} {g : Nat} {w w' : World} {c : Int} (h : p = ⟨x, -1, c⟩) (hm : MAt w g x) (hb : Below w.heap.size w w') : ChDone p g w (.returned (.int .i64 c)) w' :=
  ⟨by rw [h], by rw [h]; exact hm.keep hb, only_below hm.lt hb⟩
theorem ChDone.drew {p : Stp} {g : Nat} {w w' : World} {e : Ending} (h : ChDone p g w e w') : ChDone p g w e w'.drew := ⟨h.1, h.2.1, h.2.2.drewN 1⟩
theorem chDone_set {x y : St} {p : Stp} {g j : Nat} {v : Int} {w : World} {o : Obj} (h : p = ⟨y, -1, 0⟩) (hm : MAt w g x) (hy : MAt (w.setCell ⟨g, j, none⟩ (.int .i64 v)) g y) : ChDone p g w (.returned (.int .i64 0)) ((w.setCell ⟨g, j, none⟩ (.int .i64 v)).alloc o) :=
  ⟨by rw [h], by rw [h]; exact hy.keep (below_one _ _), (Only.set g j w _).alloc hm.lt o⟩

set_option maxHeartbeats 1000000 in
set_option maxRecDepth 100000 in
theorem impl_change5 (x : St) (g : Nat) (a b c p n : Int) (w : World) (h : MAt w g x) : Calls Tryd.prog 57 #[.pointer (some ⟨g, 0, none⟩), tokV ⟨5, a, b, c, p, n⟩] w (ChDone (calm x ⟨5, a, b, c, p, n⟩) g w) := by
  have HE : Hid (calm x ⟨5, a, b, c, p, n⟩ = ⟨⟨x.g0, x.g1, x.g2, x.g3, a, x.s, x.d⟩, -1, 0⟩) := Lib.hid rfl
  have B0 := Lib.hid (below_one w (.cells #[.int .i64 5, .int .i64 a, .int .i64 b, .int .i64 c, .int .i64 p, .int .i64 n] 38))
  have HM := Lib.hid h
  have HM0 := Lib.hid (h.keep B0.out)
  have hg : g < w.heap.size := h.lt
  clear h
  unfold tokV
  have ⟨y0, y1, y2, y3, y4, y5, y6⟩ := HM0.out.cells
  have ⟨q0, q1, q2, q3, q4, q5, q6⟩ := HM0.out.thaw
  have ⟨m0, m1, m2, m3, m4, m5, m6⟩ := HM.out.cells
  have ⟨n0, n1, n2, n3, n4, n5, n6⟩ := HM.out.thaw
  go_enter Tryd.func57, Tryd.ntmps57
  go_wp2
  go_ret
  exact chDone_set HE.out HM.out (heap_setCell_same _ _ 4 _ _ (.int .i64 a) HM.out)

set_option maxHeartbeats 1000000 in
set_option maxRecDepth 100000 in
theorem impl_change6 (x : St) (g : Nat) (a b c p n : Int) (w : World) (h : MAt w g x) : Calls Tryd.prog 57 #[.pointer (some ⟨g, 0, none⟩), tokV ⟨6, a, b, c, p, n⟩] w (ChDone (calm x ⟨6, a, b, c, p, n⟩) g w) := by
  have HE : Hid (calm x ⟨6, a, b, c, p, n⟩ = ⟨⟨x.g0, x.g1, x.g2, x.g3, x.l, a, x.d⟩, -1, 0⟩) := Lib.hid rfl
  have B0 := Lib.hid (below_one w (.cells #[.int .i64 6, .int .i64 a, .int .i64 b, .int .i64 c, .int .i64 p, .int .i64 n] 38))
  have HM := Lib.hid h
  have HM0 := Lib.hid (h.keep B0.out)
  have hg : g < w.heap.size := h.lt
  clear h
  unfold tokV
  have ⟨y0, y1, y2, y3, y4, y5, y6⟩ := HM0.out.cells
  have ⟨q0, q1, q2, q3, q4, q5, q6⟩ := HM0.out.thaw
  have ⟨m0, m1, m2, m3, m4, m5, m6⟩ := HM.out.cells
  have ⟨n0, n1, n2, n3, n4, n5, n6⟩ := HM.out.thaw
  go_enter Tryd.func57, Tryd.ntmps57
  go_wp2
  go_ret
  exact chDone_set HE.out HM.out (heap_setCell_same _ _ 5 _ _ (.int .i64 a) HM.out)

set_option maxHeartbeats 1000000 in
set_option maxRecDepth 100000 in
theorem impl_change8 (x : St) (g : Nat) (a b c p n : Int) (w : World) (h : MAt w g x) : Calls Tryd.prog 57 #[.pointer (some ⟨g, 0, none⟩), tokV ⟨8, a, b, c, p, n⟩] w (ChDone (calm x ⟨8, a, b, c, p, n⟩) g w) := by
  have HE : Hid (calm x ⟨8, a, b, c, p, n⟩ = ⟨x, -1, 13⟩) := Lib.hid rfl
  have B0 := Lib.hid (below_one w (.cells #[.int .i64 8, .int .i64 a, .int .i64 b, .int .i64 c, .int .i64 p, .int .i64 n] 38))
  have HM := Lib.hid h
  have HM0 := Lib.hid (h.keep B0.out)
  have hg : g < w.heap.size := h.lt
  clear h
  unfold tokV
  go_enter Tryd.func57, Tryd.ntmps57
  go_wp2
  go_ret
  exact chDone_none HE.out HM.out B0.out

set_option maxHeartbeats 1000000 in
set_option maxRecDepth 100000 in
theorem impl_change9 (x : St) (g : Nat) (a b c p n : Int) (w : World) (h : MAt w g x) : Calls Tryd.prog 57 #[.pointer (some ⟨g, 0, none⟩), tokV ⟨9, a, b, c, p, n⟩] w (ChDone (calm x ⟨9, a, b, c, p, n⟩) g w) := by
  have HE : Hid (calm x ⟨9, a, b, c, p, n⟩ = ⟨x, -1, 10⟩) := Lib.hid rfl
  have B0 := Lib.hid (below_one w (.cells #[.int .i64 9, .int .i64 a, .int .i64 b, .int .i64 c, .int .i64 p, .int .i64 n] 38))
  have HM := Lib.hid h
  have HM0 := Lib.hid (h.keep B0.out)
  have hg : g < w.heap.size := h.lt
  clear h
  unfold tokV
  go_enter Tryd.func57, Tryd.ntmps57
  go_wp2
  go_ret
  exact chDone_none HE.out HM.out B0.out

set_option maxHeartbeats 1000000 in
set_option maxRecDepth 100000 in
theorem impl_change7 (x : St) (g : Nat) (a b c p n : Int) (w : World) (h : MAt w g x) (ht : TabM w) (a0 : 0 ≤ a) (a3 : a ≤ 3) (b1 : 1 ≤ b) (b3 : b ≤ 3) : Calls Tryd.prog 57 #[.pointer (some ⟨g, 0, none⟩), tokV ⟨7, a, b, c, p, n⟩] w (ChDone (calm x ⟨7, a, b, c, p, n⟩) g w) := by
  have HF := Lib.hid (fun w ht => impl_FindSet b c w ht)
  have hb : inB b 1 3 = true := inB_of b1 b3
  have B0 := Lib.hid (below_one w (.cells #[.int .i64 7, .int .i64 a, .int .i64 b, .int .i64 c, .int .i64 p, .int .i64 n] 38))
  have HM := Lib.hid h
  have HM0 := Lib.hid (h.keep B0.out)
  have hg : g < w.heap.size := h.lt
  clear h
  unfold tokV
  have HT := Lib.hid (ht.keep B0.out)
  clear ht
  by_cases hf : findNo b c = 0
  · have HE : Hid (calm x ⟨7, a, b, c, p, n⟩ = ⟨x, -1, 10⟩) := Lib.hid (by rw [calm, if_neg (by simp), if_neg (by simp), if_neg (by simp), if_neg (by simp), if_pos rfl, if_pos hf])
    have hc : fsC b c = 5 := by unfold fsC; rw [if_pos hb, if_pos hf]
    rw [fsV_bad _ _ _ hc (by decide)] at HF
    clear hf hb hc a0 a3 b1 b3
    go_enter Tryd.func57, Tryd.ntmps57
    go_wp2_with fail
    refine (HF.out _ HT.out.1).mono ?_
    rintro e w2 ⟨rfl, rfl⟩
    go_wp2
    go_ret
    exact chDone_none HE.out HM.out B0.out
  have HE : Hid (calm x ⟨7, a, b, c, p, n⟩ = ⟨stPut x a (findNo b c), -1, 0⟩) := Lib.hid (by rw [calm, if_neg (by simp), if_neg (by simp), if_neg (by simp), if_neg (by simp), if_pos rfl, if_neg hf])
  have hc : fsC b c = 0 := by unfold fsC; rw [if_pos hb, if_neg hf]
  rw [fsV_ok _ _ hc] at HF
  have : a = 0 ∨ a = 1 ∨ a = 2 ∨ a = 3 := by omega
  clear hf hb hc a0 a3 b1 b3
  have ⟨y0, y1, y2, y3, y4, y5, y6⟩ := HM0.out.cells
  have ⟨q0, q1, q2, q3, q4, q5, q6⟩ := HM0.out.thaw
  have ⟨m0, m1, m2, m3, m4, m5, m6⟩ := HM.out.cells
  have ⟨n0, n1, n2, n3, n4, n5, n6⟩ := HM.out.thaw
  rcases this with rfl | rfl | rfl | rfl
  · have HP2 : Hid (stPut x 0 (findNo b c) = ⟨findNo b c, x.g1, x.g2, x.g3, x.l, x.s, x.d⟩) := Lib.hid rfl
    generalize findNo b c = f at *
    go_enter Tryd.func57, Tryd.ntmps57
    go_wp2_with fail
    refine (HF.out _ HT.out.1).mono ?_
    rintro e w2 ⟨rfl, rfl⟩
    go_wp2
    go_region
    all_goals go_wp2
    all_goals go_ret
    all_goals exact (chDone_set (y := ⟨f, x.g1, x.g2, x.g3, x.l, x.s, x.d⟩) (HE.out.trans (by rw [HP2.out])) HM.out (heap_setCell_same _ _ 0 _ _ (.int .i64 f) HM.out)).drew
  · have HP2 : Hid (stPut x 1 (findNo b c) = ⟨x.g0, findNo b c, x.g2, x.g3, x.l, x.s, x.d⟩) := Lib.hid rfl
    generalize findNo b c = f at *
    go_enter Tryd.func57, Tryd.ntmps57
    go_wp2_with fail
    refine (HF.out _ HT.out.1).mono ?_
    rintro e w2 ⟨rfl, rfl⟩
    go_wp2
    go_region
    all_goals go_wp2
    all_goals go_ret
    all_goals exact (chDone_set (y := ⟨x.g0, f, x.g2, x.g3, x.l, x.s, x.d⟩) (HE.out.trans (by rw [HP2.out])) HM.out (heap_setCell_same _ _ 1 _ _ (.int .i64 f) HM.out)).drew
  · have HP2 : Hid (stPut x 2 (findNo b c) = ⟨x.g0, x.g1, findNo b c, x.g3, x.l, x.s, x.d⟩) := Lib.hid rfl
    generalize findNo b c = f at *
    go_enter Tryd.func57, Tryd.ntmps57
    go_wp2_with fail
    refine (HF.out _ HT.out.1).mono ?_
    rintro e w2 ⟨rfl, rfl⟩
    go_wp2
    go_region
    all_goals go_wp2
    all_goals go_ret
    all_goals exact (chDone_set (y := ⟨x.g0, x.g1, f, x.g3, x.l, x.s, x.d⟩) (HE.out.trans (by rw [HP2.out])) HM.out (heap_setCell_same _ _ 2 _ _ (.int .i64 f) HM.out)).drew
  · have HP2 : Hid (stPut x 3 (findNo b c) = ⟨x.g0, x.g1, x.g2, findNo b c, x.l, x.s, x.d⟩) := Lib.hid rfl
    generalize findNo b c = f at *
    go_enter Tryd.func57, Tryd.ntmps57
    go_wp2_with fail
    refine (HF.out _ HT.out.1).mono ?_
    rintro e w2 ⟨rfl, rfl⟩
    go_wp2
    go_region
    all_goals go_wp2
    all_goals go_ret
    all_goals exact (chDone_set (y := ⟨x.g0, x.g1, x.g2, f, x.l, x.s, x.d⟩) (HE.out.trans (by rw [HP2.out])) HM.out (heap_setCell_same _ _ 3 _ _ (.int .i64 f) HM.out)).drew


theorem impl_change (x : St) (t : Tok) (g : Nat) (w : World) (h : MAt w g x) (ht : TabM w) (hk : tokLP t) (h5 : 5 ≤ t.k) : Calls Tryd.prog 57 #[.pointer (some ⟨g, 0, none⟩), tokV t] w (ChDone (calm x t) g w) := by
  obtain ⟨k, a, b, c, p, n⟩ := t
  have hk9 : k = 5 ∨ k = 6 ∨ k = 7 ∨ k = 8 ∨ k = 9 := by unfold tokLP at hk; dsimp only at hk h5; omega
  rcases hk9 with rfl | rfl | rfl | rfl | rfl
  · exact impl_change5 x g a b c p n w h
  · exact impl_change6 x g a b c p n w h
  · have h4 : 0 ≤ a ∧ a ≤ 3 ∧ 1 ≤ b ∧ b ≤ 3 := by unfold tokLP at hk; dsimp only at hk; omega
    exact impl_change7 x g a b c p n w h ht h4.1 h4.2.1 h4.2.2.1 h4.2.2.2
  · exact impl_change8 x g a b c p n w h
  · exact impl_change9 x g a b c p n w h


end Go.Proofs.YtbamjhldebobhaaDoor

namespace Go.Proofs.YtbamjhldebobhaaDoor
open Go.RowKit Go.Sort

set_option maxHeartbeats 1000000 in
set_option maxRecDepth 100000 in
theorem impl_step3 (x : St) (g : Nat) (a b c p n : Int) (w : World) (h : MAt w g x) (ht : TabM w) (hx : stOKB x = true) (a0 : 0 ≤ a) (a1 : a ≤ 255) : Calls Tryd.prog 27 #[.pointer (some ⟨g, 0, none⟩), tokV ⟨3, a, b, c, p, n⟩] w (MvDone (stepT x ⟨3, a, b, c, p, n⟩) g w) := by
  have B0 := Lib.hid (below_one w (.cells #[.int .i64 3, .int .i64 a, .int .i64 b, .int .i64 c, .int .i64 p, .int .i64 n] 38))
  have HM := Lib.hid h
  have HM0 := Lib.hid (h.keep B0.out)
  have HT0 := Lib.hid (ht.keep B0.out)
  have hg : g < w.heap.size := h.lt
  have HG := Lib.hid (fun w h ht => impl_take x g false a w h ht hx a0 a1)
  rw [show sideNo false = 0 from rfl] at HG
  have HE : Hid (stepT x ⟨3, a, b, c, p, n⟩ = graphic x a false) := Lib.hid rfl
  unfold MvDone mvV at HG
  generalize graphic x a false = q at *
  have HV : Hid (mvV q = .tuple #[.int .i64 (toldR q), .bool (toldB q), .int .i64 q.c]) := Lib.hid rfl
  generalize toldR q = tr at *
  generalize toldB q = tb at *
  clear h ht hx
  unfold tokV
  go_enter Tryd.func27, Tryd.ntmps27
  go_wp2_with fail
  refine (HG.out _ HM0.out HT0.out).mono ?_
  rintro e w2 ⟨rfl, m2, o2⟩
  go_wp2
  go_ret3
  refine MvDone.from ⟨?_, ?_, o2⟩ hg B0.out
  · rw [HE.out, HV.out]; rfl
  · rw [HE.out]; exact m2

set_option maxHeartbeats 1000000 in
set_option maxRecDepth 100000 in
theorem impl_step4 (x : St) (g : Nat) (a b c p n : Int) (w : World) (h : MAt w g x) (ht : TabM w) (hx : stOKB x = true) (a0 : 0 ≤ a) (a1 : a ≤ 255) : Calls Tryd.prog 27 #[.pointer (some ⟨g, 0, none⟩), tokV ⟨4, a, b, c, p, n⟩] w (MvDone (stepT x ⟨4, a, b, c, p, n⟩) g w) := by
  have B0 := Lib.hid (below_one w (.cells #[.int .i64 4, .int .i64 a, .int .i64 b, .int .i64 c, .int .i64 p, .int .i64 n] 38))
  have HM := Lib.hid h
  have HM0 := Lib.hid (h.keep B0.out)
  have HT0 := Lib.hid (ht.keep B0.out)
  have hg : g < w.heap.size := h.lt
  have HG := Lib.hid (fun w h ht => impl_take x g true a w h ht hx a0 a1)
  rw [show sideNo true = 128 from rfl] at HG
  have HE : Hid (stepT x ⟨4, a, b, c, p, n⟩ = graphic x a true) := Lib.hid rfl
  unfold MvDone mvV at HG
  generalize graphic x a true = q at *
  have HV : Hid (mvV q = .tuple #[.int .i64 (toldR q), .bool (toldB q), .int .i64 q.c]) := Lib.hid rfl
  generalize toldR q = tr at *
  generalize toldB q = tb at *
  clear h ht hx
  unfold tokV
  go_enter Tryd.func27, Tryd.ntmps27
  go_wp2_with fail
  refine (HG.out _ HM0.out HT0.out).mono ?_
  rintro e w2 ⟨rfl, m2, o2⟩
  go_wp2
  go_ret3
  refine MvDone.from ⟨?_, ?_, o2⟩ hg B0.out
  · rw [HE.out, HV.out]; rfl
  · rw [HE.out]; exact m2

set_option maxHeartbeats 1000000 in
set_option maxRecDepth 100000 in
theorem impl_step2 (x : St) (g : Nat) (a b c p n : Int) (w : World) (h : MAt w g x) (ht : TabM w) (hx : stOKB x = true) : Calls Tryd.prog 27 #[.pointer (some ⟨g, 0, none⟩), tokV ⟨2, a, b, c, p, n⟩] w (MvDone (stepT x ⟨2, a, b, c, p, n⟩) g w) := by
  have B0 := Lib.hid (below_one w (.cells #[.int .i64 2, .int .i64 a, .int .i64 b, .int .i64 c, .int .i64 p, .int .i64 n] 38))
  have HM := Lib.hid h
  have HM0 := Lib.hid (h.keep B0.out)
  have HT0 := Lib.hid (ht.keep B0.out)
  have hg : g < w.heap.size := h.lt
  have HG := Lib.hid (fun w h ht => impl_space x g w h ht hx)
  have HE : Hid (stepT x ⟨2, a, b, c, p, n⟩ = spaceP x) := Lib.hid (space_eq hx _ rfl)
  unfold MvDone mvV at HG
  generalize spaceP x = q at *
  have HV : Hid (mvV q = .tuple #[.int .i64 (toldR q), .bool (toldB q), .int .i64 q.c]) := Lib.hid rfl
  generalize toldR q = tr at *
  generalize toldB q = tb at *
  clear h ht hx
  unfold tokV
  go_enter Tryd.func27, Tryd.ntmps27
  go_wp2_with fail
  refine (HG.out _ HM0.out HT0.out).mono ?_
  rintro e w2 ⟨rfl, m2, o2⟩
  go_wp2
  go_ret3
  refine MvDone.from ⟨?_, ?_, o2⟩ hg B0.out
  · rw [HE.out, HV.out]; rfl
  · rw [HE.out]; exact m2

set_option maxHeartbeats 1000000 in
set_option maxRecDepth 100000 in
theorem impl_stepP (x : St) (g : Nat) (k a b c p n : Int) (w : World) (h : MAt w g x) (ht : TabM w) (hx : stOKB x = true) (hp : pendB x = true) (h2 : k ≠ 2) (h3 : k ≠ 3) (h4 : k ≠ 4) : Calls Tryd.prog 27 #[.pointer (some ⟨g, 0, none⟩), tokV ⟨k, a, b, c, p, n⟩] w (MvDone (stepT x ⟨k, a, b, c, p, n⟩) g w) := by
  have B0 := Lib.hid (below_one w (.cells #[.int .i64 k, .int .i64 a, .int .i64 b, .int .i64 c, .int .i64 p, .int .i64 n] 38))
  have HM := Lib.hid h
  have HM0 := Lib.hid (h.keep B0.out)
  have HT0 := Lib.hid (ht.keep B0.out)
  have hg : g < w.heap.size := h.lt
  have HP := Lib.hid (fun w h => impl_pending x g w h)
  rw [pend_eq hx, hp] at HP
  have HE : Hid (stepT x ⟨k, a, b, c, p, n⟩ = ⟨x, -1, 13⟩) := Lib.hid (by rw [stepT, if_neg h3, if_neg h4, if_pos hp, if_neg (fun h => h2 h.1)])
  have e2 : (k == 2) = false := by rw [beq_eq_false_iff_ne]; exact h2
  have e3 : (k == 3) = false := by rw [beq_eq_false_iff_ne]; exact h3
  have e4 : (k == 4) = false := by rw [beq_eq_false_iff_ne]; exact h4
  clear hp h2 h3 h4
  clear h ht hx
  unfold tokV
  go_enter Tryd.func27, Tryd.ntmps27
  go_wp2_with fail
  refine (HP.out _ HM0.out).mono ?_
  rintro e w2 ⟨rfl, rfl⟩
  go_wp2
  go_ret3
  exact mvDone_none HE.out HM.out B0.out

set_option maxHeartbeats 1000000 in
set_option maxRecDepth 100000 in
theorem impl_step1 (x : St) (g : Nat) (a b c p n : Int) (w : World) (h : MAt w g x) (ht : TabM w) (hx : stOKB x = true) (hp : pendB x = false) (ha : 0 ≤ a) : Calls Tryd.prog 27 #[.pointer (some ⟨g, 0, none⟩), tokV ⟨1, a, b, c, p, n⟩] w (MvDone (stepT x ⟨1, a, b, c, p, n⟩) g w) := by
  have B0 := Lib.hid (below_one w (.cells #[.int .i64 1, .int .i64 a, .int .i64 b, .int .i64 c, .int .i64 p, .int .i64 n] 38))
  have HM := Lib.hid h
  have HM0 := Lib.hid (h.keep B0.out)
  have HT0 := Lib.hid (ht.keep B0.out)
  have hg : g < w.heap.size := h.lt
  have HP := Lib.hid (fun w h => impl_pending x g w h)
  rw [pend_eq hx, hp] at HP
  have HC := Lib.hid (fun w => impl_control a w)
  clear h ht hx
  unfold tokV
  by_cases h1 : 127 < a
  · have HE : Hid (stepT x ⟨1, a, b, c, p, n⟩ = ⟨x, -1, 10⟩) := Lib.hid (by rw [stepT, if_neg (by simp), if_neg (by simp), if_neg (by rw [hp]; decide), calm, if_pos rfl, if_pos h1])
    rw [if_pos h1] at HC
    clear hp h1
    go_enter Tryd.func27, Tryd.ntmps27
    go_wp2_with fail
    refine (HP.out _ HM0.out).mono ?_
    rintro e w2 ⟨rfl, rfl⟩
    go_wp2_with fail
    refine (HC.out _).mono ?_
    rintro e w2 ⟨rfl, rfl⟩
    go_wp2
    go_ret3
    exact mvDone_none HE.out HM.out B0.out
  · have HE : Hid (stepT x ⟨1, a, b, c, p, n⟩ = ⟨x, a, 0⟩) := Lib.hid (by rw [stepT, if_neg (by simp), if_neg (by simp), if_neg (by rw [hp]; decide), calm, if_pos rfl, if_neg h1])
    rw [if_neg h1] at HC
    clear hp h1
    go_enter Tryd.func27, Tryd.ntmps27
    go_wp2_with fail
    refine (HP.out _ HM0.out).mono ?_
    rintro e w2 ⟨rfl, rfl⟩
    go_wp2_with fail
    refine (HC.out _).mono ?_
    rintro e w2 ⟨rfl, rfl⟩
    go_wp2
    go_ret3
    exact mvDone_same HE.out ha HM.out B0.out

/-- What changes the machine tells no character. -/
theorem calm_none {x : St} {t : Tok} (h : 5 ≤ t.k) : (calm x t).r = -1 := by
  unfold calm
  rw [if_neg (by omega), if_neg (by omega)]
  repeat' split
  all_goals rfl
theorem MvDone.ofCh {q : Stp} {g : Nat} {w w' : World} {c : Int} (hr : q.r = -1) (hc : c = q.c) (hm : MAt w' g q.y) (ho : Only g w w') : MvDone q g w (.returned (.tuple #[.int .i64 0, .bool false, .int .i64 c])) w' :=
  ⟨by rw [hc]; unfold mvV toldR toldB; rw [hr]; rfl, hm, ho⟩

set_option maxHeartbeats 1000000 in
set_option maxRecDepth 100000 in
theorem impl_step5 (x : St) (g : Nat) (k a b c p n : Int) (w : World) (h : MAt w g x) (ht : TabM w) (hx : stOKB x = true) (hp : pendB x = false) (hk : tokLP ⟨k, a, b, c, p, n⟩) (h5 : 5 ≤ k) : Calls Tryd.prog 27 #[.pointer (some ⟨g, 0, none⟩), tokV ⟨k, a, b, c, p, n⟩] w (MvDone (stepT x ⟨k, a, b, c, p, n⟩) g w) := by
  have B0 := Lib.hid (below_one w (.cells #[.int .i64 k, .int .i64 a, .int .i64 b, .int .i64 c, .int .i64 p, .int .i64 n] 38))
  have HM := Lib.hid h
  have HM0 := Lib.hid (h.keep B0.out)
  have HT0 := Lib.hid (ht.keep B0.out)
  have hg : g < w.heap.size := h.lt
  have HP := Lib.hid (fun w h => impl_pending x g w h)
  rw [pend_eq hx, hp] at HP
  have HC := Lib.hid (fun w h ht => impl_change x ⟨k, a, b, c, p, n⟩ g w h ht hk h5)
  have HE : Hid (stepT x ⟨k, a, b, c, p, n⟩ = calm x ⟨k, a, b, c, p, n⟩) := Lib.hid (by rw [stepT, if_neg (show ¬ k = 3 by omega), if_neg (show ¬ k = 4 by omega), if_neg (by rw [hp]; decide)])
  have HN := Lib.hid (calm_none (x := x) (t := ⟨k, a, b, c, p, n⟩) h5)
  unfold ChDone tokV at HC
  generalize calm x ⟨k, a, b, c, p, n⟩ = q at *
  have e1 : (k == 1) = false := by rw [beq_eq_false_iff_ne]; omega
  have e2 : (k == 2) = false := by rw [beq_eq_false_iff_ne]; omega
  have e3 : (k == 3) = false := by rw [beq_eq_false_iff_ne]; omega
  have e4 : (k == 4) = false := by rw [beq_eq_false_iff_ne]; omega
  clear hp hk h5
  clear h ht hx
  unfold tokV
  go_enter Tryd.func27, Tryd.ntmps27
  go_wp2_with fail
  refine (HP.out _ HM0.out).mono ?_
  rintro e w2 ⟨rfl, rfl⟩
  go_wp2_with fail
  refine (HC.out _ HM0.out HT0.out).mono ?_
  rintro e w2 ⟨rfl, m2, o2⟩
  go_wp2
  go_ret3
  rw [HE.out]
  exact MvDone.ofCh HN.out rfl m2 ((only_below hg B0.out).trans o2)

theorem impl_step (x : St) (t : Tok) (g : Nat) (w : World) (h : MAt w g x) (ht : TabM w) (hx : stOKB x = true) (hk : tokLP t) : Calls Tryd.prog 27 #[.pointer (some ⟨g, 0, none⟩), tokV t] w (MvDone (stepT x t) g w) := by
  obtain ⟨k, a, b, c, p, n⟩ := t
  have hk9 : 1 ≤ k ∧ k ≤ 9 := by unfold tokLP at hk; dsimp only at hk; omega
  by_cases h3 : k = 3
  · subst h3
    have ha : 0 ≤ a ∧ a ≤ 255 := by unfold tokLP at hk; dsimp only at hk; omega
    exact impl_step3 x g a b c p n w h ht hx ha.1 ha.2
  by_cases h4 : k = 4
  · subst h4
    have ha : 0 ≤ a ∧ a ≤ 255 := by unfold tokLP at hk; dsimp only at hk; omega
    exact impl_step4 x g a b c p n w h ht hx ha.1 ha.2
  by_cases h2 : k = 2
  · subst h2
    exact impl_step2 x g a b c p n w h ht hx
  cases hp : pendB x
  · by_cases h1 : k = 1
    · subst h1
      have ha : 0 ≤ a := by unfold tokLP at hk; dsimp only at hk; omega
      exact impl_step1 x g a b c p n w h ht hx hp ha
    · exact impl_step5 x g k a b c p n w h ht hx hp hk (by omega)
  · exact impl_stepP x g k a b c p n w h ht hx hp h2 h3 h4

end Go.Proofs.YtbamjhldebobhaaDoor

namespace Go.Proofs.YtbamjhldebobhaaDoor
open Go.RowKit Go.Sort

set_option maxHeartbeats 1000000 in
set_option maxRecDepth 100000 in
theorem impl_StepState (x : St) (t : Tok) (w : World) (ht : TabM w) (hw : Wide64 x) : Calls Tryd.prog 11 #[stV x, tokV t] w (SsDone x t w) := by
  have ⟨hB0, hT0, hS0, b0⟩ := step_blocks w x t
  have HB0 := Lib.hid hB0
  have HK0 := Lib.hid hT0
  have HS0 := Lib.hid hS0
  have B0 := Lib.hid b0
  clear hB0 hT0 hS0 b0
  have HF := Lib.hid (fun w => impl_machineOf x w)
  have HO := Lib.hid (fun b w h ht => impl_ok x b w h ht hw.1 hw.2)
  have HTK := Lib.hid (fun w => impl_tokenOK t w)
  have HST := Lib.hid (fun y b w h => impl_state y b w h)
  have HT := Lib.hid ht
  clear ht hw
  unfold StDone stV at HF HST
  unfold tokV at HTK ⊢
  unfold stV
  cases ho : stOKB x
  · have HE : Hid (toldV (ssP x t) = .tuple #[stV zeroSt, .int .i64 0, .bool false, .int .i64 1]) := Lib.hid (told_bad (by rw [ssP, if_neg (fun h => by rw [ho] at h; exact absurd h.1 (by decide))]))
    rw [ho] at HO
    go_enter Tryd.func11, Tryd.ntmps11
    go_wp2_with fail
    refine (HF.out _).mono ?_
    generalize ((w.alloc (.cells #[.int .i64 x.g0, .int .i64 x.g1, .int .i64 x.g2, .int .i64 x.g3, .int .i64 x.l, .int .i64 x.s, .int .i64 x.d] 24)).alloc (.cells #[.int .i64 t.k, .int .i64 t.a, .int .i64 t.b, .int .i64 t.c, .int .i64 t.p, .int .i64 t.n] 38)).alloc (.cells #[.int .i64 0, .int .i64 0, .int .i64 0, .int .i64 0, .int .i64 0, .int .i64 0, .int .i64 0] 24) = W0 at *
    rintro e w1 ⟨rfl, b1⟩
    have B1 : Hid (Below w.heap.size w w1) := Lib.hid (B0.out.trans (b1.mono B0.out.size))
    have HB1 := Lib.hid ((HB0.out.keep b1).keep (below_one w1 (.cells #[.int .i64 x.g0, .int .i64 x.g1, .int .i64 x.g2, .int .i64 x.g3, .int .i64 x.l, .int .i64 x.s, .int .i64 x.d] 52)))
    have HK1 := Lib.hid ((HK0.out.keep b1).keep (below_one w1 (.cells #[.int .i64 x.g0, .int .i64 x.g1, .int .i64 x.g2, .int .i64 x.g3, .int .i64 x.l, .int .i64 x.s, .int .i64 x.d] 52)))
    have HS1 := Lib.hid ((HS0.out.keep b1).keep (below_one w1 (.cells #[.int .i64 x.g0, .int .i64 x.g1, .int .i64 x.g2, .int .i64 x.g3, .int .i64 x.l, .int .i64 x.s, .int .i64 x.d] 52)))
    have hw1 : w.heap.size + 2 < w1.heap.size := (HS0.out.keep b1).lt
    have B2 : Hid (Below w.heap.size w (w1.alloc (.cells #[.int .i64 x.g0, .int .i64 x.g1, .int .i64 x.g2, .int .i64 x.g3, .int .i64 x.l, .int .i64 x.s, .int .i64 x.d] 52))) := Lib.hid (B1.out.alloc B1.out.size _)
    have HM := Lib.hid (MAt.new w1 x)
    have HT2 := Lib.hid (HT.out.keep B2.out)
    clear b1 HB0 HK0 HS0 B0
    go_wp2_with fail
    refine (HO.out w1.heap.size _ HM.out HT2.out).mono ?_
    generalize w1.alloc (.cells #[.int .i64 x.g0, .int .i64 x.g1, .int .i64 x.g2, .int .i64 x.g3, .int .i64 x.l, .int .i64 x.s, .int .i64 x.d] 52) = W1 at *
    rintro e W2 ⟨rfl, b2⟩
    have B3 : Hid (Below w.heap.size w W2) := Lib.hid (B2.out.trans (b2.mono B2.out.size))
    have HK3 := Lib.hid (HK1.out.keep b2)
    have HS3 := Lib.hid (HS1.out.keep b2)
    have HM3 := Lib.hid (HM.out.keep b2)
    have HT3 := Lib.hid (HT2.out.keep b2)
    have hb3 : w1.heap.size < W2.heap.size := HM3.out.lt
    clear b2 B2 HM HT2 HB1 HS1 HK1
    have ⟨r0, r1, r2, r3, r4, r5, r6⟩ := HS3.out.cells
    have ⟨z0, z1, z2, z3, z4, z5, z6⟩ := HS3.out.thaw
    simp only [zeroSt] at r0 r1 r2 r3 r4 r5 r6
    have hl : w.heap.size + 2 < W2.heap.size := HS3.out.lt
    go_wp2
    exact st_ret4 (y := zeroSt) (r := .int .i64 0) (m := .bool false) (c := .int .i64 1) rfl rfl rfl rfl rfl (HS3.out.put zeroSt) Tryd.underlying24 rfl (by kernel_rfl) rfl ⟨by rw [HE.out], below_putSt B3.out (by omega) zeroSt⟩
  rw [ho] at HO
  cases hk : tokOKB t
  · have HE : Hid (toldV (ssP x t) = .tuple #[stV zeroSt, .int .i64 0, .bool false, .int .i64 1]) := Lib.hid (told_bad (by rw [ssP, if_neg (fun h => by rw [hk] at h; exact absurd h.2 (by decide))]))
    rw [hk] at HTK
    go_enter Tryd.func11, Tryd.ntmps11
    go_wp2_with fail
    refine (HF.out _).mono ?_
    generalize ((w.alloc (.cells #[.int .i64 x.g0, .int .i64 x.g1, .int .i64 x.g2, .int .i64 x.g3, .int .i64 x.l, .int .i64 x.s, .int .i64 x.d] 24)).alloc (.cells #[.int .i64 t.k, .int .i64 t.a, .int .i64 t.b, .int .i64 t.c, .int .i64 t.p, .int .i64 t.n] 38)).alloc (.cells #[.int .i64 0, .int .i64 0, .int .i64 0, .int .i64 0, .int .i64 0, .int .i64 0, .int .i64 0] 24) = W0 at *
    rintro e w1 ⟨rfl, b1⟩
    have B1 : Hid (Below w.heap.size w w1) := Lib.hid (B0.out.trans (b1.mono B0.out.size))
    have HB1 := Lib.hid ((HB0.out.keep b1).keep (below_one w1 (.cells #[.int .i64 x.g0, .int .i64 x.g1, .int .i64 x.g2, .int .i64 x.g3, .int .i64 x.l, .int .i64 x.s, .int .i64 x.d] 52)))
    have HK1 := Lib.hid ((HK0.out.keep b1).keep (below_one w1 (.cells #[.int .i64 x.g0, .int .i64 x.g1, .int .i64 x.g2, .int .i64 x.g3, .int .i64 x.l, .int .i64 x.s, .int .i64 x.d] 52)))
    have HS1 := Lib.hid ((HS0.out.keep b1).keep (below_one w1 (.cells #[.int .i64 x.g0, .int .i64 x.g1, .int .i64 x.g2, .int .i64 x.g3, .int .i64 x.l, .int .i64 x.s, .int .i64 x.d] 52)))
    have hw1 : w.heap.size + 2 < w1.heap.size := (HS0.out.keep b1).lt
    have B2 : Hid (Below w.heap.size w (w1.alloc (.cells #[.int .i64 x.g0, .int .i64 x.g1, .int .i64 x.g2, .int .i64 x.g3, .int .i64 x.l, .int .i64 x.s, .int .i64 x.d] 52))) := Lib.hid (B1.out.alloc B1.out.size _)
    have HM := Lib.hid (MAt.new w1 x)
    have HT2 := Lib.hid (HT.out.keep B2.out)
    clear b1 HB0 HK0 HS0 B0
    go_wp2_with fail
    refine (HO.out w1.heap.size _ HM.out HT2.out).mono ?_
    generalize w1.alloc (.cells #[.int .i64 x.g0, .int .i64 x.g1, .int .i64 x.g2, .int .i64 x.g3, .int .i64 x.l, .int .i64 x.s, .int .i64 x.d] 52) = W1 at *
    rintro e W2 ⟨rfl, b2⟩
    have B3 : Hid (Below w.heap.size w W2) := Lib.hid (B2.out.trans (b2.mono B2.out.size))
    have HK3 := Lib.hid (HK1.out.keep b2)
    have HS3 := Lib.hid (HS1.out.keep b2)
    have HM3 := Lib.hid (HM.out.keep b2)
    have HT3 := Lib.hid (HT2.out.keep b2)
    have hb3 : w1.heap.size < W2.heap.size := HM3.out.lt
    clear b2 B2 HM HT2 HB1 HS1 HK1
    have ⟨t0, t1, t2, t3, t4, t5⟩ := HK3.out.cells
    go_wp2_with fail
    refine (HTK.out _).mono ?_
    clear t0 t1 t2 t3 t4 t5
    rintro e W4 ⟨rfl, b4⟩
    have B4 : Hid (Below w.heap.size w W4) := Lib.hid (B3.out.trans (b4.mono B3.out.size))
    have HK4 := Lib.hid (HK3.out.keep b4)
    have HS4 := Lib.hid (HS3.out.keep b4)
    have HM4 := Lib.hid (HM3.out.keep b4)
    have HT4 := Lib.hid (HT3.out.keep b4)
    clear b4 B3 HS3 HM3 HT3 HK3 hb3
    have ⟨r0, r1, r2, r3, r4, r5, r6⟩ := HS4.out.cells
    have ⟨z0, z1, z2, z3, z4, z5, z6⟩ := HS4.out.thaw
    simp only [zeroSt] at r0 r1 r2 r3 r4 r5 r6
    have hl : w.heap.size + 2 < W4.heap.size := HS4.out.lt
    go_wp2
    exact st_ret4 (y := zeroSt) (r := .int .i64 0) (m := .bool false) (c := .int .i64 1) rfl rfl rfl rfl rfl (HS4.out.put zeroSt) Tryd.underlying24 rfl (by kernel_rfl) rfl ⟨by rw [HE.out], below_putSt B4.out (by omega) zeroSt⟩
  have HG := Lib.hid (fun b w h ht => impl_step x t b w h ht ho ((tokOKB_iff t).1 hk).wide)
  rw [hk] at HTK
  unfold MvDone mvV tokV at HG
  have HE : Hid (toldV (ssP x t) = .tuple #[stV (stepT x t).y, .int .i64 (toldR (stepT x t)), .bool (toldB (stepT x t)), .int .i64 (stepT x t).c]) := Lib.hid (by rw [ssP, if_pos ⟨ho, hk⟩]; rfl)
  clear ho hk
  generalize stepT x t = q at *
  generalize toldR q = tr at *
  generalize toldB q = tb at *
  go_enter Tryd.func11, Tryd.ntmps11
  go_wp2_with fail
  refine (HF.out _).mono ?_
  generalize ((w.alloc (.cells #[.int .i64 x.g0, .int .i64 x.g1, .int .i64 x.g2, .int .i64 x.g3, .int .i64 x.l, .int .i64 x.s, .int .i64 x.d] 24)).alloc (.cells #[.int .i64 t.k, .int .i64 t.a, .int .i64 t.b, .int .i64 t.c, .int .i64 t.p, .int .i64 t.n] 38)).alloc (.cells #[.int .i64 0, .int .i64 0, .int .i64 0, .int .i64 0, .int .i64 0, .int .i64 0, .int .i64 0] 24) = W0 at *
  rintro e w1 ⟨rfl, b1⟩
  have B1 : Hid (Below w.heap.size w w1) := Lib.hid (B0.out.trans (b1.mono B0.out.size))
  have HB1 := Lib.hid ((HB0.out.keep b1).keep (below_one w1 (.cells #[.int .i64 x.g0, .int .i64 x.g1, .int .i64 x.g2, .int .i64 x.g3, .int .i64 x.l, .int .i64 x.s, .int .i64 x.d] 52)))
  have HK1 := Lib.hid ((HK0.out.keep b1).keep (below_one w1 (.cells #[.int .i64 x.g0, .int .i64 x.g1, .int .i64 x.g2, .int .i64 x.g3, .int .i64 x.l, .int .i64 x.s, .int .i64 x.d] 52)))
  have HS1 := Lib.hid ((HS0.out.keep b1).keep (below_one w1 (.cells #[.int .i64 x.g0, .int .i64 x.g1, .int .i64 x.g2, .int .i64 x.g3, .int .i64 x.l, .int .i64 x.s, .int .i64 x.d] 52)))
  have hw1 : w.heap.size + 2 < w1.heap.size := (HS0.out.keep b1).lt
  have B2 : Hid (Below w.heap.size w (w1.alloc (.cells #[.int .i64 x.g0, .int .i64 x.g1, .int .i64 x.g2, .int .i64 x.g3, .int .i64 x.l, .int .i64 x.s, .int .i64 x.d] 52))) := Lib.hid (B1.out.alloc B1.out.size _)
  have HM := Lib.hid (MAt.new w1 x)
  have HT2 := Lib.hid (HT.out.keep B2.out)
  clear b1 HB0 HK0 HS0 B0
  go_wp2_with fail
  refine (HO.out w1.heap.size _ HM.out HT2.out).mono ?_
  generalize w1.alloc (.cells #[.int .i64 x.g0, .int .i64 x.g1, .int .i64 x.g2, .int .i64 x.g3, .int .i64 x.l, .int .i64 x.s, .int .i64 x.d] 52) = W1 at *
  rintro e W2 ⟨rfl, b2⟩
  have B3 : Hid (Below w.heap.size w W2) := Lib.hid (B2.out.trans (b2.mono B2.out.size))
  have HK3 := Lib.hid (HK1.out.keep b2)
  have HS3 := Lib.hid (HS1.out.keep b2)
  have HM3 := Lib.hid (HM.out.keep b2)
  have HT3 := Lib.hid (HT2.out.keep b2)
  have hb3 : w1.heap.size < W2.heap.size := HM3.out.lt
  clear b2 B2 HM HT2 HB1 HS1 HK1
  have ⟨t0, t1, t2, t3, t4, t5⟩ := HK3.out.cells
  go_wp2_with fail
  refine (HTK.out _).mono ?_
  clear t0 t1 t2 t3 t4 t5
  rintro e W4 ⟨rfl, b4⟩
  have B4 : Hid (Below w.heap.size w W4) := Lib.hid (B3.out.trans (b4.mono B3.out.size))
  have HK4 := Lib.hid (HK3.out.keep b4)
  have HS4 := Lib.hid (HS3.out.keep b4)
  have HM4 := Lib.hid (HM3.out.keep b4)
  have HT4 := Lib.hid (HT3.out.keep b4)
  clear b4 B3 HS3 HM3 HT3 HK3 hb3
  have ⟨t0, t1, t2, t3, t4, t5⟩ := HK4.out.cells
  go_wp2_with fail
  refine (HG.out w1.heap.size W4 HM4.out HT4.out).mono ?_
  clear t0 t1 t2 t3 t4 t5
  rintro e W5 ⟨rfl, HM5, O5⟩
  have HS5 : Hid (StAt W5 (w.heap.size + 2) zeroSt) := Lib.hid ((O5.2 _ (by omega) HS4.out.lt).trans HS4.out)
  have B5 : Hid (Below w.heap.size w W5) := Lib.hid (B4.out.trans (O5.1.mono (by omega)))
  go_wp2_with fail
  refine (HST.out q.y w1.heap.size W5 HM5).mono ?_
  rintro e W6 ⟨rfl, b6⟩
  have B6 : Hid (Below w.heap.size w W6) := Lib.hid (B5.out.trans (b6.mono B5.out.size))
  have HS6 := Lib.hid (HS5.out.keep b6)
  have ⟨r0, r1, r2, r3, r4, r5, r6⟩ := HS6.out.cells
  have ⟨z0, z1, z2, z3, z4, z5, z6⟩ := HS6.out.thaw
  simp only [zeroSt] at r0 r1 r2 r3 r4 r5 r6
  have hl : w.heap.size + 2 < W6.heap.size := HS6.out.lt
  clear b6 O5 HM5
  go_wp2
  exact st_ret4 (y := q.y) (r := .int .i64 tr) (m := .bool tb) (c := .int .i64 q.c) rfl rfl rfl rfl rfl (HS6.out.put q.y) Tryd.underlying24 rfl (by kernel_rfl) rfl ⟨by rw [HE.out], below_putSt B6.out (by omega) q.y⟩

end Go.Proofs.YtbamjhldebobhaaDoor

namespace Go.Proofs.YtbamjhldebobhaaDoor
open Go.RowKit Go.Sort

/-- A run handed back: the state, the characters in new memory, the offset, the code. -/
def RunDone (p : Rn) (w : World) (e : Ending) (w' : World) : Prop := ∃ v, e = .returned (.tuple #[stV p.y, v, .int .i64 p.p, .int .i64 p.c]) ∧ Own .i64 3 w' w.heap.size v p.z ∧ Below w.heap.size w w'
theorem addR_some {z : List Int} {r : Int} (h : 0 ≤ r) : addR z r = z ++ [r] := by rw [addR, if_pos h]
theorem addR_none {z : List Int} {r : Int} (h : r = -1) : addR z r = z := by rw [addR, if_neg (by omega)]

theorem heap_putSt {w : World} {g j : Nat} (y : St) (h : j ≠ g) : (putSt w g y).heap[j]? = w.heap[j]? := by
  unfold putSt
  rw [Below.heap_setCell _ _ _ _ (by simpa using h), Below.heap_setCell _ _ _ _ (by simpa using h), Below.heap_setCell _ _ _ _ (by simpa using h), Below.heap_setCell _ _ _ _ (by simpa using h), Below.heap_setCell _ _ _ _ (by simpa using h), Below.heap_setCell _ _ _ _ (by simpa using h), Below.heap_setCell _ _ _ _ (by simpa using h)]
theorem Own.putSt {k : IntKind} {e : TypeId} {w : World} {B g : Nat} {v : Value} {zs : List Int} (h : Own k e w B v zs) (hg : g < B) (y : St) : Own k e (putSt w g y) B v zs := by
  refine ⟨h.1, ?_⟩
  rcases h.2 with h | ⟨j, cap, cur, a, b, c, d⟩
  · exact .inl h
  · exact .inr ⟨j, cap, cur, a, b, by rw [heap_putSt y (by omega)]; exact c, d⟩
theorem StAt.other {w : World} {g j : Nat} {x : St} (h : StAt w j x) (y : St) (hg : j ≠ g) : StAt (Go.Proofs.YtbamjhldebobhaaDoor.putSt w g y) j x := (heap_putSt y hg).trans h
theorem TokAt.other {w : World} {g j : Nat} {t : Tok} (h : TokAt w j t) (y : St) (hg : j ≠ g) : TokAt (Go.Proofs.YtbamjhldebobhaaDoor.putSt w g y) j t := (heap_putSt y hg).trans h

theorem size_putSt (w : World) (g : Nat) (y : St) : (putSt w g y).heap.size = w.heap.size := by simp [putSt]

set_option maxHeartbeats 4000000 in
set_option maxRecDepth 100000 in
theorem spec_l04Run (x : St) (s : ByteArray) (w : World) (hx : stOKB x = true) (hs : s.size ≤ 65536) : Calls Tryd.prog 30 #[stV x, .string s] w (RunDone (runT s s.size 0 x []) w) := by
  have HB0 : Hid (StAt ((w.alloc (.cells #[.int .i64 x.g0, .int .i64 x.g1, .int .i64 x.g2, .int .i64 x.g3, .int .i64 x.l, .int .i64 x.s, .int .i64 x.d] 24)).alloc (.cells #[.int .i64 0, .int .i64 0, .int .i64 0, .int .i64 0, .int .i64 0, .int .i64 0, .int .i64 0] 24)) w.heap.size x) := Lib.hid (heap_alloc2_old _ _ _)
  have HS0 : Hid (StAt ((w.alloc (.cells #[.int .i64 x.g0, .int .i64 x.g1, .int .i64 x.g2, .int .i64 x.g3, .int .i64 x.l, .int .i64 x.s, .int .i64 x.d] 24)).alloc (.cells #[.int .i64 0, .int .i64 0, .int .i64 0, .int .i64 0, .int .i64 0, .int .i64 0, .int .i64 0] 24)) (w.heap.size + 1) zeroSt) := Lib.hid (heap_alloc2_new _ _ _)
  have B0 := Lib.hid (below_two w (.cells #[.int .i64 x.g0, .int .i64 x.g1, .int .i64 x.g2, .int .i64 x.g3, .int .i64 x.l, .int .i64 x.s, .int .i64 x.d] 24) (.cells #[.int .i64 0, .int .i64 0, .int .i64 0, .int .i64 0, .int .i64 0, .int .i64 0, .int .i64 0] 24))
  have hsz0 : ((w.alloc (.cells #[.int .i64 x.g0, .int .i64 x.g1, .int .i64 x.g2, .int .i64 x.g3, .int .i64 x.l, .int .i64 x.s, .int .i64 x.d] 24)).alloc (.cells #[.int .i64 0, .int .i64 0, .int .i64 0, .int .i64 0, .int .i64 0, .int .i64 0, .int .i64 0] 24)).heap.size = w.heap.size + 2 := by simp
  have HX := Lib.hid hx
  clear hx
  unfold stV
  go_enter Tryd.func30, Tryd.ntmps30
  go_wp2
  generalize (w.alloc (.cells #[.int .i64 x.g0, .int .i64 x.g1, .int .i64 x.g2, .int .i64 x.g3, .int .i64 x.l, .int .i64 x.s, .int .i64 x.d] 24)).alloc (.cells #[.int .i64 0, .int .i64 0, .int .i64 0, .int .i64 0, .int .i64 0, .int .i64 0, .int .i64 0] 24) = W0 at *
  go_loopw [8, 9] (fun v i wr => ∃ (k f : Nat) (xs : St) (zs : List Int), k ≤ s.size ∧ i = .int .i64 k ∧ Hid (s.size ≤ k + f) ∧ zs.length ≤ k ∧ Hid (runT s s.size 0 x [] = runT s f k xs zs) ∧ Hid (stOKB xs = true) ∧ Hid (Own .i64 3 wr (w.heap.size + 2) v zs) ∧ Hid (StAt wr w.heap.size xs) ∧ Hid (StAt wr (w.heap.size + 1) zeroSt) ∧ Hid (Below w.heap.size w wr)) (fun _ i _ => s.size - (intOf i).toNat)
  case atStart =>
    have HO0 := Own.lit .i64 3 W0 (w.heap.size + 2) [] (by omega) (by simp)
    rw [hsz0] at HO0
    exact ⟨0, s.size, x, [], by omega, rfl, Lib.hid (by omega), by simp, Lib.hid rfl, HX, Lib.hid HO0, Lib.hid (HB0.out.keep (below_one _ _)), Lib.hid (HS0.out.keep (below_one _ _)), Lib.hid (B0.out.alloc B0.out.size _)⟩
  case round =>
    obtain ⟨k, f, xs, zs, hk, rfl, HF, hzs, HR, HX, HO, HB, HS, BW⟩ := hrel
    obtain ⟨a0, c0, hform, _⟩ := HO.out.shape
    subst hform
    by_cases hlt : k < s.size
    · obtain ⟨f, rfl⟩ : ∃ q, f = q + 1 := ⟨f - 1, by have := HF.out; omega⟩
      have v2 : (k : Int) < (s.size : Int) := by omega
      have HU : Hid (runT s (f + 1) k xs zs = if (stepT xs (nextTok s k)).c = 0 then runT s f (k + (nextTok s k).n.toNat) (stepT xs (nextTok s k)).y (addR zs (stepT xs (nextTok s k)).r) else ⟨xs, zs, k, (stepT xs (nextTok s k)).c⟩) := Lib.hid (by rw [runT, if_pos hlt])
      have n1 := (nextTok_in s k hlt).2.1
      have n2 := (nextTok_in s k hlt).2.2
      have HN := Lib.hid (fun w => spec_l03Next s k w hlt (by omega))
      have HG := Lib.hid (fun w => spec_l04Step xs (nextTok s k) w HX.out (nextTok_ok s k hlt (Nat.le_trans hs (by decide))))
      have HC := Lib.hid (fun h => stepT_code (x := xs) (t := nextTok s k) h)
      have hr := stepT_r (x := xs) (nextTok_ok s k hlt (Nat.le_trans hs (by decide)))
      have HX2 := Lib.hid (stepT_ok HX.out (nextTok_ok s k hlt (Nat.le_trans hs (by decide))))
      unfold TokDone tokV at HN
      unfold StpDone stpV tokV stV at HG
      generalize nextTok s k = y at *
      generalize stepT xs y = p at *
      have u1 : IntKind.i64.wrap ((k : Int) + y.n) = (k : Int) + y.n := IntWalk.i64_in _ (by omega)
      go_wp2_with fail
      refine (HN.out _).mono ?_
      rintro e w1 ⟨rfl, b1⟩
      have B1 := Lib.hid (BW.out.trans (b1.mono BW.out.size))
      have O1 := Lib.hid ((HO.out.all b1).all (below_one w1 (.cells #[.int .i64 y.k, .int .i64 y.a, .int .i64 y.b, .int .i64 y.c, .int .i64 y.p, .int .i64 y.n] 38)))
      have HB1 := Lib.hid ((HB.out.keep b1).keep (below_one w1 (.cells #[.int .i64 y.k, .int .i64 y.a, .int .i64 y.b, .int .i64 y.c, .int .i64 y.p, .int .i64 y.n] 38)))
      have HS1 := Lib.hid ((HS.out.keep b1).keep (below_one w1 (.cells #[.int .i64 y.k, .int .i64 y.a, .int .i64 y.b, .int .i64 y.c, .int .i64 y.p, .int .i64 y.n] 38)))
      have HK1 := Lib.hid (TokAt.new w1 y)
      have B1b := Lib.hid (B1.out.alloc B1.out.size (.cells #[.int .i64 y.k, .int .i64 y.a, .int .i64 y.b, .int .i64 y.c, .int .i64 y.p, .int .i64 y.n] 38))
      have hw1 : w.heap.size + 1 < w1.heap.size := (HS.out.keep b1).lt
      have L1 := Lib.hid (fun g hg => World.ownsRow.lt (HO.out.all b1) g hg)
      clear b1 HO HB HS BW B1 HN
      have ⟨y0, y1, y2, y3, y4, y5, y6⟩ := HB1.out.cells
      have ⟨t0, t1, t2, t3, t4, t5⟩ := HK1.out.cells
      go_wp2_with fail
      refine (HG.out _).mono ?_
      clear y0 y1 y2 y3 y4 y5 y6 t0 t1 t2 t3 t4 t5
      generalize w1.alloc (.cells #[.int .i64 y.k, .int .i64 y.a, .int .i64 y.b, .int .i64 y.c, .int .i64 y.p, .int .i64 y.n] 38) = W1 at *
      rintro e w2 ⟨rfl, b2⟩
      have B2 := Lib.hid (B1b.out.trans (b2.mono B1b.out.size))
      have O2 := Lib.hid (O1.out.all b2)
      have HB2 := Lib.hid (HB1.out.keep b2)
      have HS2 := Lib.hid (HS1.out.keep b2)
      have HK2 := Lib.hid (HK1.out.keep b2)
      clear b2 O1 HB1 HS1 HK1 B1b
      by_cases hc : p.c = 0
      · have ec : (p.c != 0) = false := by simpa using hc
        have ⟨q0, q1, q2, q3, q4, q5, q6⟩ := HB2.out.thaw
        have ⟨y0, y1, y2, y3, y4, y5, y6⟩ := HB2.out.cells
        have hl6 : w.heap.size < w2.heap.size := HB2.out.lt
        have hk2 : w1.heap.size < w2.heap.size := HK2.out.lt
        have ⟨p0, p1, p2, p3, p4, p5, p6⟩ := (StAt.new w2 p.y).cells
        have ⟨t0, t1, t2, t3, t4, t5⟩ := HK2.out.cells
        have HN2 : Hid (∃ m : Nat, y.n = (m : Int) ∧ 1 ≤ m ∧ k + m ≤ s.size) := Lib.hid ⟨y.n.toNat, by omega, by omega, by omega⟩
        have BP := Lib.hid (below_putSt B2.out (Nat.le_refl _) p.y)
        have OP := Lib.hid (O2.out.putSt (show w.heap.size < w.heap.size + 2 by omega) p.y)
        have HSP := Lib.hid (HS2.out.other p.y (show w.heap.size + 1 ≠ w.heap.size by omega))
        have HBP := Lib.hid (HB2.out.put p.y)
        rcases hr with hr | hr
        · have HA : Hid (addR zs p.r = zs) := Lib.hid (addR_none hr)
          have vr : p.r < 0 := by omega
          obtain ⟨m, hm, m1, m2⟩ := HN2.out
          have HM := Lib.hid hm
          have e5 : (k : Int) + y.n = ((k + m : Nat) : Int) := by omega
          clear hm
          go_wp2
          go_roundw
          case rel => exact ⟨k + m, f, p.y, zs, m2, by simp, Lib.hid (by have := HF.out; omega), by omega, Lib.hid (by rw [HR.out, HU.out, if_pos hc, HA.out, HM.out]; simp), HX2, Lib.hid (OP.out.alloc _), Lib.hid (HBP.out.alloc _), Lib.hid (HSP.out.alloc _), Lib.hid (BP.out.alloc BP.out.size _)⟩
          case measure => simp [intOf]; omega
        · have HA : Hid (addR zs p.r = zs ++ [p.r]) := Lib.hid (addR_some hr)
          have O3 := Lib.hid ((OP.out.alloc (.cells #[.int .i64 p.y.g0, .int .i64 p.y.g1, .int .i64 p.y.g2, .int .i64 p.y.g3, .int .i64 p.y.l, .int .i64 p.y.s, .int .i64 p.y.d] 24)).alloc (.cells #[.int .i64 p.r] 3))
          have HNW := Lib.hid (World.news_of_block (show (((putSt w2 w.heap.size p.y).alloc (.cells #[.int .i64 p.y.g0, .int .i64 p.y.g1, .int .i64 p.y.g2, .int .i64 p.y.g3, .int .i64 p.y.l, .int .i64 p.y.s, .int .i64 p.y.d] 24)).alloc (.cells #[.int .i64 p.r] 3)).heap[w2.heap.size + 1]? = some (.cells ([p.r].map (Value.int .i64)).toArray 3) from by
            have := heap_alloc2_new (putSt w2 w.heap.size p.y) (.cells #[.int .i64 p.y.g0, .int .i64 p.y.g1, .int .i64 p.y.g2, .int .i64 p.y.g3, .int .i64 p.y.l, .int .i64 p.y.s, .int .i64 p.y.d] 24) (.cells #[.int .i64 p.r] 3)
            rw [size_putSt] at this
            exact this))
          have hB3 : w.heap.size + 2 ≤ (((putSt w2 w.heap.size p.y).alloc (.cells #[.int .i64 p.y.g0, .int .i64 p.y.g1, .int .i64 p.y.g2, .int .i64 p.y.g3, .int .i64 p.y.l, .int .i64 p.y.s, .int .i64 p.y.d] 24)).alloc (.cells #[.int .i64 p.r] 3)).heap.size := by
            simp only [World.size_alloc, size_putSt]; omega
          go_wp2_with (at_builtin; refine app_i64 _ rfl _ _ rfl (w.heap.size + 2) _ zs rfl O3.out ⟨w2.heap.size + 1, 0, none⟩ 1 1 [p.r] rfl rfl (by decide) HNW.out (by omega) hB3 ?_)
          intro g cap2 w4 o4 g4 lt4
          have hx4 : TokAt w4 w1.heap.size y := (g4.block _ (by simp; omega) (fun h => by have := (L1.out _ h.symm).2; omega)).trans (((HK2.out.other p.y (by omega)).keep (below_one _ (.cells #[.int .i64 p.y.g0, .int .i64 p.y.g1, .int .i64 p.y.g2, .int .i64 p.y.g3, .int .i64 p.y.l, .int .i64 p.y.s, .int .i64 p.y.d] 24))).keep (below_one _ (.cells #[.int .i64 p.r] 3)))
          have HB4 := Lib.hid ((g4.block w.heap.size (by simp; omega) (fun h => by have := (L1.out _ h.symm).1; omega)).trans ((HBP.out.alloc (.cells #[.int .i64 p.y.g0, .int .i64 p.y.g1, .int .i64 p.y.g2, .int .i64 p.y.g3, .int .i64 p.y.l, .int .i64 p.y.s, .int .i64 p.y.d] 24)).alloc (.cells #[.int .i64 p.r] 3)))
          have HS4 := Lib.hid ((g4.block (w.heap.size + 1) (by simp; omega) (fun h => by have := (L1.out _ h.symm).1; omega)).trans ((HSP.out.alloc (.cells #[.int .i64 p.y.g0, .int .i64 p.y.g1, .int .i64 p.y.g2, .int .i64 p.y.g3, .int .i64 p.y.l, .int .i64 p.y.s, .int .i64 p.y.d] 24)).alloc (.cells #[.int .i64 p.r] 3)))
          have B3 := BP.out.alloc BP.out.size (.cells #[.int .i64 p.y.g0, .int .i64 p.y.g1, .int .i64 p.y.g2, .int .i64 p.y.g3, .int .i64 p.y.l, .int .i64 p.y.s, .int .i64 p.y.d] 24)
          have B4 := Lib.hid ((B3.alloc B3.size (.cells #[.int .i64 p.r] 3)).grown g4 (by simp only [World.size_alloc, size_putSt]; omega) (fun j hj => by have := (L1.out j hj).1; omega))
          have O4 := Lib.hid o4
          clear o4 g4 B3
          clear y0 y1 y2 y3 y4 y5 y6 q0 q1 q2 q3 q4 q5 q6 p0 p1 p2 p3 p4 p5 p6 t0 t1 t2 t3 t4 t5
          have ⟨_, _, _, _, _, t5⟩ := hx4.cells
          clear hx4
          obtain ⟨m, hm, m1, m2⟩ := HN2.out
          have HM := Lib.hid hm
          have e5 : (k : Int) + y.n = ((k + m : Nat) : Int) := by omega
          clear hm
          go_wp2
          go_roundw
          case rel => exact ⟨k + m, f, p.y, zs ++ [p.r], m2, by simp, Lib.hid (by have := HF.out; omega), by simp; omega, Lib.hid (by rw [HR.out, HU.out, if_pos hc, HA.out, HM.out]; simp), HX2, O4, HB4, HS4, B4⟩
          case measure => simp [intOf]; omega
      · have ec : (p.c != 0) = true := by simpa using hc
        have HE : Hid (runT s s.size 0 x [] = ⟨xs, zs, k, p.c⟩) := Lib.hid (by rw [HR.out, HU.out, if_neg hc])
        have ⟨y0, y1, y2, y3, y4, y5, y6⟩ := (HB2.out.alloc (.cells #[.int .i64 p.y.g0, .int .i64 p.y.g1, .int .i64 p.y.g2, .int .i64 p.y.g3, .int .i64 p.y.l, .int .i64 p.y.s, .int .i64 p.y.d] 24)).cells
        have BB := Lib.hid (below_putSt B2.out (show w.heap.size ≤ w.heap.size + 1 by omega) xs)
        have ⟨r0, r1, r2, r3, r4, r5, r6⟩ := HS2.out.cells
        have ⟨z0, z1, z2, z3, z4, z5, z6⟩ := HS2.out.thaw
        simp only [zeroSt] at r0 r1 r2 r3 r4 r5 r6
        have hl : w.heap.size + 1 < w2.heap.size := HS2.out.lt
        have OE := Lib.hid (((O2.out.putSt (show w.heap.size + 1 < w.heap.size + 2 by omega) xs).alloc (.cells #[.int .i64 p.y.g0, .int .i64 p.y.g1, .int .i64 p.y.g2, .int .i64 p.y.g3, .int .i64 p.y.l, .int .i64 p.y.s, .int .i64 p.y.d] 24)).low (show w.heap.size ≤ w.heap.size + 2 by omega))
        go_wp2
        exact st_ret4 (y := xs) (r := .slice a0 zs.length c0) (m := .int .i64 k) (c := .int .i64 p.c) rfl rfl rfl rfl rfl ((HS2.out.put xs).alloc _) Tryd.underlying24 rfl (by kernel_rfl) rfl ⟨.slice a0 zs.length c0, by rw [HE.out], by rw [HE.out]; exact OE.out, BB.out.alloc BB.out.size _⟩
    · have v2 : ¬ (k : Int) < (s.size : Int) := by omega
      have HE : Hid (runT s s.size 0 x [] = ⟨xs, zs, s.size, 0⟩) := Lib.hid (by
        rw [HR.out]
        cases f with
        | zero => rfl
        | succ f => rw [runT, if_neg hlt])
      have ⟨y0, y1, y2, y3, y4, y5, y6⟩ := HB.out.cells
      have BB := Lib.hid (below_putSt BW.out (show w.heap.size ≤ w.heap.size + 1 by omega) xs)
      have ⟨r0, r1, r2, r3, r4, r5, r6⟩ := HS.out.cells
      have ⟨z0, z1, z2, z3, z4, z5, z6⟩ := HS.out.thaw
      simp only [zeroSt] at r0 r1 r2 r3 r4 r5 r6
      have hl : w.heap.size + 1 < wr.heap.size := HS.out.lt
      have OE := Lib.hid ((HO.out.putSt (show w.heap.size + 1 < w.heap.size + 2 by omega) xs).low (show w.heap.size ≤ w.heap.size + 2 by omega))
      go_wp2
      exact st_ret4 (y := xs) (r := .slice a0 zs.length c0) (m := .int .i64 s.size) (c := .int .i64 0) rfl rfl rfl rfl rfl (HS.out.put xs) Tryd.underlying24 rfl (by kernel_rfl) rfl ⟨.slice a0 zs.length c0, by rw [HE.out], by rw [HE.out]; exact OE.out, BB.out⟩

set_option maxHeartbeats 1000000 in
set_option maxRecDepth 100000 in
theorem spec_RunState (x : St) (s : ByteArray) (w : World) (hs : s.size ≤ 9223372036854775807) : Calls Tryd.prog 7 #[stV x, .string s] w (RunDone (rsR x s) w) := by
  have HB0 : Hid (StAt ((w.alloc (.cells #[.int .i64 x.g0, .int .i64 x.g1, .int .i64 x.g2, .int .i64 x.g3, .int .i64 x.l, .int .i64 x.s, .int .i64 x.d] 24)).alloc (.cells #[.int .i64 0, .int .i64 0, .int .i64 0, .int .i64 0, .int .i64 0, .int .i64 0, .int .i64 0] 24)) w.heap.size x) := Lib.hid (heap_alloc2_old _ _ _)
  have HS0 : Hid (StAt ((w.alloc (.cells #[.int .i64 x.g0, .int .i64 x.g1, .int .i64 x.g2, .int .i64 x.g3, .int .i64 x.l, .int .i64 x.s, .int .i64 x.d] 24)).alloc (.cells #[.int .i64 0, .int .i64 0, .int .i64 0, .int .i64 0, .int .i64 0, .int .i64 0, .int .i64 0] 24)) (w.heap.size + 1) zeroSt) := Lib.hid (heap_alloc2_new _ _ _)
  have B0 := Lib.hid (below_two w (.cells #[.int .i64 x.g0, .int .i64 x.g1, .int .i64 x.g2, .int .i64 x.g3, .int .i64 x.l, .int .i64 x.s, .int .i64 x.d] 24) (.cells #[.int .i64 0, .int .i64 0, .int .i64 0, .int .i64 0, .int .i64 0, .int .i64 0, .int .i64 0] 24))
  have HO := Lib.hid (fun w => spec_l04OK x w)
  unfold stV at HO ⊢
  by_cases h1 : 65536 < s.size
  · have HE : Hid (rsR x s = ⟨zeroSt, [], 0, 2⟩) := Lib.hid (by rw [rsR, if_pos h1])
    have h1' : (65536 : Int) < (s.size : Int) := by omega
    have O0 : Hid (Own .i64 3 (((w.alloc (.cells #[.int .i64 x.g0, .int .i64 x.g1, .int .i64 x.g2, .int .i64 x.g3, .int .i64 x.l, .int .i64 x.s, .int .i64 x.d] 24)).alloc (.cells #[.int .i64 0, .int .i64 0, .int .i64 0, .int .i64 0, .int .i64 0, .int .i64 0, .int .i64 0] 24)).alloc (.cells #[] 3)) w.heap.size (.slice (some ⟨w.heap.size + 1 + 1, 0, none⟩) 0 0) []) := Lib.hid (by
      have h := Own.lit .i64 3 ((w.alloc (.cells #[.int .i64 x.g0, .int .i64 x.g1, .int .i64 x.g2, .int .i64 x.g3, .int .i64 x.l, .int .i64 x.s, .int .i64 x.d] 24)).alloc (.cells #[.int .i64 0, .int .i64 0, .int .i64 0, .int .i64 0, .int .i64 0, .int .i64 0, .int .i64 0] 24)) w.heap.size [] B0.out.size (by simp)
      rw [show ((w.alloc (.cells #[.int .i64 x.g0, .int .i64 x.g1, .int .i64 x.g2, .int .i64 x.g3, .int .i64 x.l, .int .i64 x.s, .int .i64 x.d] 24)).alloc (.cells #[.int .i64 0, .int .i64 0, .int .i64 0, .int .i64 0, .int .i64 0, .int .i64 0, .int .i64 0] 24)).heap.size = w.heap.size + 1 + 1 by simp] at h
      exact h)
    go_enter Tryd.func7, Tryd.ntmps7
    go_wp2
    exact st_ret4 (y := zeroSt) (r := .slice (some ⟨w.heap.size + 1 + 1, 0, none⟩) 0 0) (m := .int .i64 0) (c := .int .i64 2) rfl rfl rfl rfl rfl (HS0.out.alloc _) Tryd.underlying24 rfl (by kernel_rfl) rfl ⟨.slice (some ⟨w.heap.size + 1 + 1, 0, none⟩) 0 0, by rw [HE.out], by rw [HE.out]; exact O0.out, B0.out.alloc B0.out.size _⟩
  have h1' : (s.size : Int) ≤ 65536 := by omega
  cases ho : stOKB x
  · have HE : Hid (rsR x s = ⟨zeroSt, [], 0, 1⟩) := Lib.hid (by rw [rsR, if_neg h1, if_neg (by rw [ho]; decide)])
    rw [ho] at HO
    go_enter Tryd.func7, Tryd.ntmps7
    go_wp2_with fail
    refine (HO.out _).mono ?_
    generalize (w.alloc (.cells #[.int .i64 x.g0, .int .i64 x.g1, .int .i64 x.g2, .int .i64 x.g3, .int .i64 x.l, .int .i64 x.s, .int .i64 x.d] 24)).alloc (.cells #[.int .i64 0, .int .i64 0, .int .i64 0, .int .i64 0, .int .i64 0, .int .i64 0, .int .i64 0] 24) = W0 at *
    rintro e w1 ⟨rfl, b1⟩
    have B1 := Lib.hid (B0.out.trans (b1.mono B0.out.size))
    have HS1 := Lib.hid (HS0.out.keep b1)
    have ⟨r0, r1, r2, r3, r4, r5, r6⟩ := HS1.out.cells
    have ⟨z0, z1, z2, z3, z4, z5, z6⟩ := HS1.out.thaw
    simp only [zeroSt] at r0 r1 r2 r3 r4 r5 r6
    have hl : w.heap.size + 1 < w1.heap.size := HS1.out.lt
    clear b1
    have BB := Lib.hid (below_putSt B1.out (show w.heap.size ≤ w.heap.size + 1 by omega) zeroSt)
    have O0 : Hid (Own .i64 3 ((putSt w1 (w.heap.size + 1) zeroSt).alloc (.cells #[] 3)) w.heap.size (.slice (some ⟨w1.heap.size, 0, none⟩) 0 0) []) := Lib.hid (by
      have h := Own.lit .i64 3 (putSt w1 (w.heap.size + 1) zeroSt) w.heap.size [] BB.out.size (by simp)
      rw [size_putSt] at h
      exact h)
    go_wp2
    exact st_ret4 (y := zeroSt) (r := .slice (some ⟨w1.heap.size, 0, none⟩) 0 0) (m := .int .i64 0) (c := .int .i64 1) rfl rfl rfl rfl rfl ((HS1.out.put zeroSt).alloc _) Tryd.underlying24 rfl (by kernel_rfl) rfl ⟨.slice (some ⟨w1.heap.size, 0, none⟩) 0 0, by rw [HE.out], by rw [HE.out]; exact O0.out, BB.out.alloc BB.out.size _⟩
  rw [ho] at HO
  have HR := Lib.hid (fun w => spec_l04Run x s w ho (by omega))
  have HE : Hid (rsR x s = runT s s.size 0 x []) := Lib.hid (by rw [rsR, if_neg h1, if_pos ho])
  rw [HE.out]
  unfold RunDone stV at HR
  generalize runT s s.size 0 x [] = q at *
  clear ho HE
  go_enter Tryd.func7, Tryd.ntmps7
  go_wp2_with fail
  refine (HO.out _).mono ?_
  generalize (w.alloc (.cells #[.int .i64 x.g0, .int .i64 x.g1, .int .i64 x.g2, .int .i64 x.g3, .int .i64 x.l, .int .i64 x.s, .int .i64 x.d] 24)).alloc (.cells #[.int .i64 0, .int .i64 0, .int .i64 0, .int .i64 0, .int .i64 0, .int .i64 0, .int .i64 0] 24) = W0 at *
  rintro e w1 ⟨rfl, b1⟩
  have B1 := Lib.hid (B0.out.trans (b1.mono B0.out.size))
  have HB1 := Lib.hid (HB0.out.keep b1)
  have HS1 := Lib.hid (HS0.out.keep b1)
  clear b1
  have ⟨y0, y1, y2, y3, y4, y5, y6⟩ := HB1.out.cells
  go_wp2_with fail
  refine (HR.out _).mono ?_
  clear y0 y1 y2 y3 y4 y5 y6
  rintro e w2 ⟨v, rfl, o2, b2⟩
  have B2 := Lib.hid (B1.out.trans (b2.mono B1.out.size))
  have HS2 := Lib.hid (HS1.out.keep b2)
  have ⟨r0, r1, r2, r3, r4, r5, r6⟩ := HS2.out.cells
  have ⟨z0, z1, z2, z3, z4, z5, z6⟩ := HS2.out.thaw
  simp only [zeroSt] at r0 r1 r2 r3 r4 r5 r6
  have hl : w.heap.size + 1 < w2.heap.size := HS2.out.lt
  have OE := Lib.hid ((o2.putSt (show w.heap.size + 1 < w1.heap.size from HS1.out.lt) q.y).low B1.out.size)
  have BB := Lib.hid (below_putSt B2.out (show w.heap.size ≤ w.heap.size + 1 by omega) q.y)
  clear o2 b2
  go_wp2
  exact st_ret4 (y := q.y) (r := v) (m := .int .i64 q.p) (c := .int .i64 q.c) rfl rfl rfl rfl rfl (HS2.out.put q.y) Tryd.underlying24 rfl (by kernel_rfl) rfl ⟨v, rfl, OE.out, BB.out⟩

end Go.Proofs.YtbamjhldebobhaaDoor

namespace Go.Proofs
open Go.Shelf
def Tryd.layI_ren : Go.Shelf.Ren := ⟨fun | 137 => 88 | 217 => 90 | 266 => 91 | n => n, fun | 3 => 3 | 5 => 5 | 9 => 9 | n => n, fun | n => n⟩
theorem Tryd.layI137 : Lays.n137 Tryd.prog Tryd.layI_ren := {
  mixed := by kernel_rfl
  f137 := Tryd.func88.trans (congrArg some (by kernel_rfl))
  f217 := Tryd.func90.trans (congrArg some (by kernel_rfl))
  f266 := Tryd.func91.trans (congrArg some (by kernel_rfl))
  t3 := Tryd.underlying3
  a3 := Tryd.isAgg3
  z3 := Tryd.sizeOf3
  v3 := Tryd.zeroValue3
  t5 := Tryd.underlying5
  a5 := Tryd.isAgg5
  z5 := Tryd.sizeOf5
  v5 := Tryd.zeroValue5
  t9 := Tryd.underlying9
  a9 := Tryd.isAgg9
  z9 := Tryd.sizeOf9
  v9 := Tryd.zeroValue9 }
end Go.Proofs

namespace Go.Proofs.YtbamjhldebobhaaDoor
open Go.RowKit

def idx94 (b : Int) : Int := if 40 ≤ b ∧ b ≤ 43 then b - 40 else -1
def idx96 (b : Int) : Int := if 45 ≤ b ∧ b ≤ 47 then b - 45 else -1
theorem idx94_all : ∀ n : Fin 256, Lib.indexByte (⟨#[40, 41, 42, 43]⟩ : ByteArray).data.toList ((n.val : Int).toNat.toUInt8) = idx94 (n.val : Int) := by decide +kernel
theorem idx96_all : ∀ n : Fin 256, Lib.indexByte (⟨#[45, 46, 47]⟩ : ByteArray).data.toList ((n.val : Int).toNat.toUInt8) = idx96 (n.val : Int) := by decide +kernel
theorem str_idx94 (c : Int) (w : World) (h0 : 0 ≤ c) (h1 : c < 256) : Calls Tryd.prog 88 #[.string ⟨#[40, 41, 42, 43]⟩, .int .u8 c] w fun e w' => e = .returned (.int .i64 (idx94 c)) ∧ w = w' := by
  refine (Any.strings_IndexByte Tryd.layI137 ⟨#[40, 41, 42, 43]⟩ c w).mono ?_
  rintro e w' ⟨rfl, rfl⟩
  have := idx94_all ⟨c.toNat, by omega⟩
  simp only at this
  have hc : ((c.toNat : Nat) : Int) = c := by omega
  rw [hc] at this
  exact ⟨by rw [this], rfl⟩
theorem str_idx96 (c : Int) (w : World) (h0 : 0 ≤ c) (h1 : c < 256) : Calls Tryd.prog 88 #[.string ⟨#[45, 46, 47]⟩, .int .u8 c] w fun e w' => e = .returned (.int .i64 (idx96 c)) ∧ w = w' := by
  refine (Any.strings_IndexByte Tryd.layI137 ⟨#[45, 46, 47]⟩ c w).mono ?_
  rintro e w' ⟨rfl, rfl⟩
  have := idx96_all ⟨c.toNat, by omega⟩
  simp only at this
  have hc : ((c.toNat : Nat) : Int) = c := by omega
  rw [hc] at this
  exact ⟨by rw [this], rfl⟩

theorem placeOf_none (s : ByteArray) : ∀ (l : List ByteArray) (k : Int), (∀ t ∈ l, ¬ t = s) → placeOf s l k = -1
  | [], _, _ => rfl
  | t :: r, k, h => by
    rw [placeOf, if_neg (h t (by simp))]
    exact placeOf_none s r (k + 1) (fun u hu => h u (by simp [hu]))
theorem one_all : ∀ n : Fin 256, midNo ⟨#[n.val.toUInt8]⟩ = if 0 ≤ idx94 (n.val : Int) then idx94 (n.val : Int) else if 0 ≤ idx96 (n.val : Int) then idx96 (n.val : Int) + 4 else if (n.val : Int) = 36 then 7 else -1 := by decide +kernel
theorem two_all : ∀ n : Fin 256, midNo ⟨#[36, n.val.toUInt8]⟩ = if 0 ≤ idx94 (n.val : Int) then idx94 (n.val : Int) + 8 else -1 := by decide +kernel

theorem mid_long (s : ByteArray) (h : 2 < s.size) : midNo s = -1 := by
  refine placeOf_none s mids 0 (fun t ht e => ?_)
  have h2 : ∀ t ∈ mids, t.size ≤ 2 := by decide
  have := h2 t ht
  rw [e] at this
  omega
theorem mid_one (s : ByteArray) (h : s.size = 1) : s = ⟨#[s[0].toNat.toUInt8]⟩ := by
  apply ByteArray.ext
  apply Array.ext
  · exact h
  · intro i h1 h2
    have : i = 0 := by simp at h2; omega
    subst this
    simp
    rfl
theorem mid_two (s : ByteArray) (h : s.size = 2) : s = ⟨#[s[0].toNat.toUInt8, s[1].toNat.toUInt8]⟩ := by
  apply ByteArray.ext
  apply Array.ext
  · exact h
  · intro i h1 h2
    have : i = 0 ∨ i = 1 := by simp at h2; omega
    rcases this with rfl | rfl
    · simp
      rfl
    · simp
      rfl
theorem midNo_one (s : ByteArray) (h : s.size = 1) : midNo s = if (0 : Int) ≤ idx94 (s[0].toNat : Int) then idx94 (s[0].toNat : Int) else if (0 : Int) ≤ idx96 (s[0].toNat : Int) then idx96 (s[0].toNat : Int) + 4 else if (s[0].toNat : Int) = 36 then 7 else -1 := by
  have := one_all ⟨s[0].toNat, s[0].toNat_lt⟩
  simp only at this
  rw [← mid_one s h] at this
  exact this
theorem midNo_two (s : ByteArray) (h : s.size = 2) (h36 : (s[0].toNat : Int) = 36) : midNo s = if (0 : Int) ≤ idx94 (s[1].toNat : Int) then idx94 (s[1].toNat : Int) + 8 else -1 := by
  have := two_all ⟨s[1].toNat, s[1].toNat_lt⟩
  simp only at this
  have h0 : s[0].toNat.toUInt8 = 36 := by
    have : s[0].toNat = 36 := by omega
    rw [this]; rfl
  rw [← h0, ← mid_two s h] at this
  exact this
theorem midNo_two' (s : ByteArray) (h : s.size = 2) (h36 : ¬ (s[0].toNat : Int) = 36) : midNo s = -1 := by
  refine placeOf_none s mids 0 (fun t ht e => ?_)
  have h2 : ∀ t ∈ mids, t.size = 2 → byteAt t 0 = 36 := by decide
  have := h2 t ht (by rw [e]; exact h)
  rw [e, byteAt_eq s 0 (by omega)] at this
  exact h36 this
theorem is36 (s : ByteArray) (h : s.size = 1) : s = ⟨#[36]⟩ ↔ (s[0].toNat : Int) = 36 := by
  constructor
  · intro e; subst e; rfl
  · intro e
    rw [mid_one s h]
    have : s[0].toNat = 36 := by omega
    rw [this]; rfl

def desK (s : ByteArray) (f : Int) : Int := if s = ⟨#[36]⟩ then (if f ≤ 66 then 3 else 0) else midK s
def desG (s : ByteArray) : Int := if s = ⟨#[36]⟩ ∨ midNo s < 0 then 0 else midG s
def desV (s : ByteArray) (f : Int) : Value := .tuple #[.int .i64 (desG s), .int .i64 (desK s f)]
theorem desV_of {s : ByteArray} {f g k : Int} (hg : desG s = g) (hk : desK s f = k) : desV s f = .tuple #[.int .i64 g, .int .i64 k] := by rw [desV, hg, hk]

/-- A whole escape sequence with intermediates, told by them. -/
theorem plainTok_des (s : ByteArray) (f p n : Int) (hm : ¬ s = ⟨#[]⟩) : plainTok s f p n = if desK s f = 0 ∨ f < 64 then ⟨9, 0, 0, 0, p, n⟩ else ⟨7, desG s, desK s f, f, p, n⟩ := by
  have hr := midNo_range s
  unfold plainTok desK desG
  rw [if_neg hm]
  by_cases h36 : s = ⟨#[36]⟩
  · subst h36
    have e1 : midG ⟨#[36]⟩ = 0 := by decide
    have e2 : midK ⟨#[36]⟩ = 3 := by decide
    simp only [e1, e2, true_and, if_true, true_or]
    by_cases hf : f ≤ 66
    · simp only [hf, if_true]
      by_cases h64 : f < 64
      · simp [h64]
      · have h66 : ¬ 66 < f := by omega
        simp [h64, h66]
    · have h66 : 66 < f := by omega
      simp [hf, h66]
  · simp only [h36, if_false, false_and, false_or, or_false]
    rcases hr with h | ⟨h1, h2⟩
    · have e1 : midG s < 0 := by simp [midG, h]
      have e2 : midK s = 0 := by simp [midK, h]
      simp [e1, e2]
    · have e1 : ¬ midG s < 0 := by unfold midG; repeat' split
                                   all_goals omega
      have e2 : ¬ midK s = 0 := by unfold midK; repeat' split
                                   all_goals omega
      have e3 : ¬ midNo s < 0 := by omega
      simp [e1, e2, e3]

theorem idx94_le (b : Int) : -1 ≤ idx94 b ∧ idx94 b ≤ 3 := by unfold idx94; split <;> omega
theorem idx96_le (b : Int) : -1 ≤ idx96 b ∧ idx96 b ≤ 2 := by unfold idx96; split <;> omega
theorem des_of {s : ByteArray} {f n : Int} (h36 : ¬ s = ⟨#[36]⟩) (hn : midNo s = n) : desG s = (if n < 0 then 0 else if n < 4 then n else if n < 7 then n - 3 else if n = 7 then 0 else n - 8) ∧ desK s f = (if n < 0 then 0 else if n < 4 then 1 else if n < 7 then 2 else 3) := by
  subst hn
  refine ⟨?_, ?_⟩
  · unfold desG midG
    by_cases h : midNo s < 0
    · simp [h36, h]
    · simp [h36, h]
  · unfold desK midK
    simp [h36]

theorem des_94 {s : ByteArray} {f x : Int} (h36 : ¬ s = ⟨#[36]⟩) (hn : midNo s = x) (h0 : 0 ≤ x) (h1 : x ≤ 3) : desV s f = .tuple #[.int .i64 x, .int .i64 1] := by
  have ⟨a, b⟩ := des_of (f := f) h36 hn
  rw [if_neg (by omega), if_pos (by omega)] at a b
  exact desV_of a b
theorem des_96 {s : ByteArray} {f y : Int} (h36 : ¬ s = ⟨#[36]⟩) (hn : midNo s = y + 4) (h0 : 0 ≤ y) (h1 : y ≤ 2) : desV s f = .tuple #[.int .i64 (y + 1), .int .i64 2] := by
  have ⟨a, b⟩ := des_of (f := f) h36 hn
  rw [if_neg (by omega), if_neg (by omega), if_pos (by omega)] at a b
  exact desV_of (by omega) b
theorem des_pair {s : ByteArray} {f x : Int} (h36 : ¬ s = ⟨#[36]⟩) (hn : midNo s = x + 8) (h0 : 0 ≤ x) : desV s f = .tuple #[.int .i64 x, .int .i64 3] := by
  have ⟨a, b⟩ := des_of (f := f) h36 hn
  rw [if_neg (by omega), if_neg (by omega), if_neg (by omega)] at a b
  rw [if_neg (by omega)] at a
  exact desV_of (by omega) b
theorem des_none {s : ByteArray} {f : Int} (h36 : ¬ s = ⟨#[36]⟩) (hn : midNo s = -1) : desV s f = .tuple #[.int .i64 0, .int .i64 0] := by
  have ⟨a, b⟩ := des_of (f := f) h36 hn
  exact desV_of a b

set_option maxHeartbeats 2000000 in
theorem des_one (s : ByteArray) (f : Int) (w : World) (h1 : s.size = 1) : Calls Tryd.prog 82 #[.string s, .int .i64 f] w fun e w' => e = .returned (desV s f) ∧ w = w' := by
  have hi := is36 s h1
  have hn := midNo_one s h1
  have hb := byteAt_le s 0
  rw [byteAt_eq s 0 (by omega)] at hb
  have hz : (s.size : Int) = 1 := by omega
  by_cases h36 : s = ⟨#[36]⟩
  · have hb36 := hi.1 h36
    have t1 : (s.toList == [36]) = true := by rw [h36, list36]; rfl
    by_cases hf : f ≤ 66
    · have HE := Lib.hid (desV_of (s := s) (f := f) (g := 0) (k := 3) (by simp [desG, h36]) (by simp [desK, h36, hf]))
      clear hi hn hb hb36 h36
      go_enter Tryd.func82, Tryd.ntmps82
      go_wp2
      go_ret2
      exact ⟨ret_val HE.out.symm, rfl⟩
    · have HE := Lib.hid (desV_of (s := s) (f := f) (g := 0) (k := 0) (by simp [desG, h36]) (by simp [desK, h36, hf]))
      have i1 : idx94 36 = -1 := by decide
      have i2 : idx96 36 = -1 := by decide
      clear hi hn h36
      go_enter Tryd.func82, Tryd.ntmps82
      go_wp2_with fail
      refine (str_idx94 36 w (by omega) (by omega)).mono ?_
      rintro e w1 ⟨rfl, rfl⟩
      rw [i1]
      go_wp2_with fail
      refine (str_idx96 36 w (by omega) (by omega)).mono ?_
      rintro e w1 ⟨rfl, rfl⟩
      rw [i2]
      go_wp2
      go_ret2
      exact ⟨ret_val HE.out.symm, rfl⟩
  · have t1 : (s.toList == [36]) = false := by have := str_eqf h36; rwa [list36] at this
    have hb36 : ¬ (s[0].toNat : Int) = 36 := fun h => h36 (hi.2 h)
    clear hi
    generalize hbb : (s[0].toNat : Int) = b at *
    have hx := idx94_le b
    have hy := idx96_le b
    have HX := Lib.hid (fun w => str_idx94 b w (by omega) (by omega))
    have HY := Lib.hid (fun w => str_idx96 b w (by omega) (by omega))
    generalize idx94 b = x at *
    generalize idx96 b = y at *
    by_cases x0 : 0 ≤ x
    · have HE := Lib.hid (des_94 (f := f) h36 (by rw [hn, if_pos x0]) x0 hx.2)
      clear hn h36 hb36
      go_enter Tryd.func82, Tryd.ntmps82
      go_wp2_with fail
      refine (HX.out w).mono ?_
      rintro e w1 ⟨rfl, rfl⟩
      go_wp2
      go_ret2
      exact ⟨ret_val HE.out.symm, rfl⟩
    · rw [if_neg x0] at hn
      by_cases y0 : 0 ≤ y
      · rw [if_pos y0] at hn
        have HE := Lib.hid (des_96 (f := f) h36 hn y0 hy.2)
        clear hn h36 hb36
        go_enter Tryd.func82, Tryd.ntmps82
        go_wp2_with fail
        refine (HX.out w).mono ?_
        rintro e w1 ⟨rfl, rfl⟩
        go_wp2_with fail
        refine (HY.out w).mono ?_
        rintro e w1 ⟨rfl, rfl⟩
        go_wp2
        go_ret2
        exact ⟨ret_val HE.out.symm, rfl⟩
      · rw [if_neg y0, if_neg hb36] at hn
        have HE := Lib.hid (des_none (f := f) h36 hn)
        clear hn h36 hb36
        go_enter Tryd.func82, Tryd.ntmps82
        go_wp2_with fail
        refine (HX.out w).mono ?_
        rintro e w1 ⟨rfl, rfl⟩
        go_wp2_with fail
        refine (HY.out w).mono ?_
        rintro e w1 ⟨rfl, rfl⟩
        go_wp2
        go_ret2
        exact ⟨ret_val HE.out.symm, rfl⟩

set_option maxHeartbeats 2000000 in
theorem des_two (s : ByteArray) (f : Int) (w : World) (h1 : s.size = 2) : Calls Tryd.prog 82 #[.string s, .int .i64 f] w fun e w' => e = .returned (desV s f) ∧ w = w' := by
  have hz : (s.size : Int) = 2 := by omega
  have h36 : ¬ s = ⟨#[36]⟩ := fun h => by subst h; simp [ByteArray.size] at h1
  have t1 : (s.toList == [36]) = false := by have := str_eqf h36; rwa [list36] at this
  have hb := byteAt_le s 1
  rw [byteAt_eq s 1 (by omega)] at hb
  have hb0 := byteAt_le s 0
  rw [byteAt_eq s 0 (by omega)] at hb0
  by_cases b36 : (s[0].toNat : Int) = 36
  · have hn := midNo_two s h1 b36
    generalize hbb : (s[1].toNat : Int) = b at *
    have hx := idx94_le b
    have HX := Lib.hid (fun w => str_idx94 b w (by omega) (by omega))
    have HY := Lib.hid (fun w => str_idx96 b w (by omega) (by omega))
    generalize idx94 b = x at *
    generalize idx96 b = y at *
    by_cases x0 : 0 ≤ x
    · rw [if_pos x0] at hn
      have HE := Lib.hid (des_pair (f := f) h36 hn x0)
      clear hn h36 hb0
      go_enter Tryd.func82, Tryd.ntmps82
      go_wp2_with fail
      refine (HX.out w).mono ?_
      rintro e w1 ⟨rfl, rfl⟩
      go_wp2
      go_ret2
      exact ⟨ret_val HE.out.symm, rfl⟩
    · rw [if_neg x0] at hn
      have HE := Lib.hid (des_none (f := f) h36 hn)
      clear hn h36 hb0
      go_enter Tryd.func82, Tryd.ntmps82
      go_wp2_with fail
      refine (HX.out w).mono ?_
      rintro e w1 ⟨rfl, rfl⟩
      go_wp2_with fail
      refine (HY.out w).mono ?_
      rintro e w1 ⟨rfl, rfl⟩
      by_cases y0 : 0 ≤ y
      all_goals
        go_wp2
        go_ret2
        exact ⟨ret_val HE.out.symm, rfl⟩
  · have hn := midNo_two' s h1 b36
    have HE := Lib.hid (des_none (f := f) h36 hn)
    have c36 : ((s[0].toNat : Int) == 36) = false := by simpa using b36
    clear hn h36 b36 hb
    go_enter Tryd.func82, Tryd.ntmps82
    go_wp2
    go_ret2
    exact ⟨ret_val HE.out.symm, rfl⟩

set_option maxHeartbeats 2000000 in
theorem impl_designated (s : ByteArray) (f : Int) (w : World) (hm : ¬ s = ⟨#[]⟩) (hs : s.size ≤ 1048576) : Calls Tryd.prog 82 #[.string s, .int .i64 f] w fun e w' => e = .returned (desV s f) ∧ w = w' := by
  by_cases h1 : s.size = 1
  · exact des_one s f w h1
  by_cases h2 : s.size = 2
  · exact des_two s f w h2
  have h0 : ¬ s.size = 0 := fun h => hm (ByteArray.ext (Array.eq_empty_of_size_eq_zero h))
  have h3 : 2 < s.size := by omega
  have h36 : ¬ s = ⟨#[36]⟩ := fun h => by subst h; simp [ByteArray.size] at h1
  have t1 : (s.toList == [36]) = false := by have := str_eqf h36; rwa [list36] at this
  have hn := mid_long s h3
  have HE := Lib.hid (des_none (f := f) h36 hn)
  have c1 : ((s.size : Int) == 2) = false := by simp; omega
  have c2 : ((s.size : Int) != 1) = true := by simp; omega
  clear hn h36 hm h0 h1 h2
  go_enter Tryd.func82, Tryd.ntmps82
  go_wp2
  go_ret2
  exact ⟨ret_val HE.out.symm, rfl⟩

end Go.Proofs.YtbamjhldebobhaaDoor

namespace Go.Proofs.YtbamjhldebobhaaDoor
open Go.RowKit

set_option maxHeartbeats 2000000 in
theorem impl_shiftToken (f : Int) (w : World) : Calls Tryd.prog 81 #[.int .i64 f] w (TokDone (plainTok ⟨#[]⟩ f 0 0) w) := by
  by_cases c1 : f = 110
  · subst c1
    go_enter Tryd.func81, Tryd.ntmps81
    go_wp2
    exact tok_ret (y := ⟨5, 2, 0, 0, 0, 0⟩) rfl rfl rfl (heap_alloc_new _ _) Tryd.underlying38 rfl (by kernel_rfl) rfl (below_one _ _)
  by_cases c2 : f = 111
  · subst c2
    clear c1
    go_enter Tryd.func81, Tryd.ntmps81
    go_wp2
    exact tok_ret (y := ⟨5, 3, 0, 0, 0, 0⟩) rfl rfl rfl (heap_alloc_new _ _) Tryd.underlying38 rfl (by kernel_rfl) rfl (below_one _ _)
  by_cases c3 : f = 78
  · subst c3
    clear c1 c2
    go_enter Tryd.func81, Tryd.ntmps81
    go_wp2
    exact tok_ret (y := ⟨6, 2, 0, 0, 0, 0⟩) rfl rfl rfl (heap_alloc_new _ _) Tryd.underlying38 rfl (by kernel_rfl) rfl (below_one _ _)
  by_cases c4 : f = 79
  · subst c4
    clear c1 c2 c3
    go_enter Tryd.func81, Tryd.ntmps81
    go_wp2
    exact tok_ret (y := ⟨6, 3, 0, 0, 0, 0⟩) rfl rfl rfl (heap_alloc_new _ _) Tryd.underlying38 rfl (by kernel_rfl) rfl (below_one _ _)
  have HE : Hid (plainTok ⟨#[]⟩ f 0 0 = ⟨9, 0, 0, 0, 0, 0⟩) := Lib.hid (by
    have a1 : ¬ (f = 78 ∨ f = 79) := by omega
    have a2 : ¬ (f = 110 ∨ f = 111) := by omega
    simp [plainTok, a1, a2])
  have e1 : (f == 110) = false := by rw [beq_eq_false_iff_ne]; exact c1
  have e2 : (f == 111) = false := by rw [beq_eq_false_iff_ne]; exact c2
  have e3 : (f == 78) = false := by rw [beq_eq_false_iff_ne]; exact c3
  have e4 : (f == 79) = false := by rw [beq_eq_false_iff_ne]; exact c4
  clear c1 c2 c3 c4
  go_enter Tryd.func81, Tryd.ntmps81
  go_wp2
  exact tok_ret HE.out rfl rfl (heap_alloc_new _ _) Tryd.underlying38 rfl (by kernel_rfl) rfl (below_one _ _)

set_option maxHeartbeats 2000000 in
set_option maxRecDepth 100000 in
theorem impl_escapeToken (s : ByteArray) (f : Int) (w : World) (hs : s.size ≤ 1048576) : Calls Tryd.prog 73 #[.string s, .int .i64 f] w (TokDone (plainTok s f 0 0) w) := by
  by_cases hm : s = ⟨#[]⟩
  · subst hm
    have hR0 := slot0 w
    have b0 := below_one w (.cells #[.int .i64 0, .int .i64 0, .int .i64 0, .int .i64 0, .int .i64 0, .int .i64 0] 38)
    go_enter Tryd.func73, Tryd.ntmps73
    go_wp2_with fail
    refine (impl_shiftToken f _).mono ?_
    rintro e w3 ⟨rfl, b3⟩
    have hR3 := Lib.hid (hR0.keep b3)
    have b03 : Below w.heap.size w w3 := b0.trans (b3.mono b0.size)
    have ⟨r0, r1, r2, r3, r4, r5⟩ := hR3.out.cells
    have ⟨z0, z1, z2, z3, z4, z5⟩ := hR3.out.thaw
    simp only [zeroTok] at r0 r1 r2 r3 r4 r5
    have hl3 : w.heap.size < w3.heap.size := hR3.out.lt
    generalize plainTok ⟨#[]⟩ f 0 0 = y at *
    clear hR0 b0 b3
    unfold tokV
    go_wp2
    exact tok_ret (y := y) rfl rfl rfl (hR3.out.put y) Tryd.underlying38 rfl (by kernel_rfl) rfl (below_put b03 (Nat.le_refl _) y)
  · have HP := Lib.hid (plainTok_des s f 0 0 hm)
    have hm3 : s.toList.isEmpty = false := by
      rw [ByteArray.toList_eq]
      cases h : s.data.toList with
      | nil => exact absurd (ByteArray.ext (Array.toList_inj.1 h)) hm
      | cons _ _ => rfl
    have HD := Lib.hid (fun w => impl_designated s f w hm hs)
    unfold desV at HD
    clear hm
    generalize desG s = g at *
    generalize desK s f = k at *
    by_cases k0 : k = 0
    · have HE : Hid (plainTok s f 0 0 = ⟨9, 0, 0, 0, 0, 0⟩) := Lib.hid (by rw [HP.out, if_pos (.inl k0)])
      subst k0
      go_enter Tryd.func73, Tryd.ntmps73
      go_wp2_with fail
      refine (HD.out _).mono ?_
      rintro e w3 ⟨rfl, rfl⟩
      go_wp2
      exact tok_ret HE.out rfl rfl (heap_alloc_new _ _) Tryd.underlying38 rfl (by kernel_rfl) rfl (below_one _ _)
    · have e0 : (k == 0) = false := by rw [beq_eq_false_iff_ne]; exact k0
      by_cases f64 : f < 64
      · have HE : Hid (plainTok s f 0 0 = ⟨9, 0, 0, 0, 0, 0⟩) := Lib.hid (by rw [HP.out, if_pos (.inr f64)])
        clear k0
        go_enter Tryd.func73, Tryd.ntmps73
        go_wp2_with fail
        refine (HD.out _).mono ?_
        rintro e w3 ⟨rfl, rfl⟩
        go_wp2
        exact tok_ret HE.out rfl rfl (heap_alloc_new _ _) Tryd.underlying38 rfl (by kernel_rfl) rfl (below_one _ _)
      · have HE : Hid (plainTok s f 0 0 = ⟨7, g, k, f, 0, 0⟩) := Lib.hid (by rw [HP.out, if_neg (by omega)])
        have f64' : 64 ≤ f := by omega
        clear k0 f64
        go_enter Tryd.func73, Tryd.ntmps73
        go_wp2_with fail
        refine (HD.out _).mono ?_
        rintro e w3 ⟨rfl, rfl⟩
        go_wp2
        exact tok_ret HE.out rfl rfl (heap_alloc_new _ _) Tryd.underlying38 rfl (by kernel_rfl) rfl (below_one _ _)

end Go.Proofs.YtbamjhldebobhaaDoor

namespace Go.Proofs.YtbamjhldebobhaaDoor
open Go.RowKit

theorem plainTok_at (m : ByteArray) (f p n : Int) : plainTok m f p n = ⟨(plainTok m f 0 0).k, (plainTok m f 0 0).a, (plainTok m f 0 0).b, (plainTok m f 0 0).c, p, n⟩ := by
  unfold plainTok
  repeat' split
  all_goals rfl
theorem nextTok_byte (s : ByteArray) (k : Nat) (h : ¬ byteAt s k = 27) : nextTok s k = ⟨(byteTok (byteAt s k)).k, (byteTok (byteAt s k)).a, (byteTok (byteAt s k)).b, (byteTok (byteAt s k)).c, k, 1⟩ := by
  rw [nextTok, if_neg h]
  generalize byteAt s k = b
  unfold byteTok inB
  by_cases c1 : b = 15
  · subst c1; rfl
  by_cases c2 : b = 14
  · subst c2; rfl
  by_cases c3 : b = 142
  · subst c3; rfl
  by_cases c4 : b = 143
  · subst c4; rfl
  rw [if_neg (show ¬ (b = 14 ∨ b = 15) by omega), if_neg (show ¬ (b = 142 ∨ b = 143) by omega)]
  simp only [c1, c2, c3, c4, if_false]
  by_cases c5 : b = 32
  · simp [c5]
  by_cases c6 : 33 ≤ b ∧ b ≤ 126
  · simp [c5, c6.1, c6.2]
  by_cases c7 : 160 ≤ b
  · have c8 : ¬ b ≤ 126 := by omega
    simp [c5, c7, c8]
  · have c8 : ¬ (33 ≤ b ∧ b ≤ 126) := c6
    have c9 : (decide (33 ≤ b) && decide (b ≤ 126)) = false := by
      cases h : (decide (33 ≤ b) && decide (b ≤ 126))
      · rfl
      · simp at h; exact absurd h c8
    simp [c5, c7, c8]

set_option maxHeartbeats 4000000 in
set_option maxRecDepth 100000 in
theorem impl_escapeAt (s : ByteArray) (k : Nat) (w : World) (hk : k < s.size) (hs : s.size ≤ 1048576) :
    Calls Tryd.prog 52 #[.string s, .int .i64 k] w (TokDone (escTok s k (s.size - k) (k + 1)) w) := by
  have hR := Lib.hid (slot0 w)
  have b0 := below_one w (.cells #[.int .i64 0, .int .i64 0, .int .i64 0, .int .i64 0, .int .i64 0, .int .i64 0] 38)
  have k0 : (0 : Int) ≤ (k : Int) := by omega
  have u1 : IntKind.i64.wrap ((k : Int) + 1) = (k : Int) + 1 := IntWalk.i64_in _ (by omega)
  go_enter Tryd.func52, Tryd.ntmps52
  go_wp2
  go_step3
  go_wp2
  go_step3
  go_wp2
  generalize w.alloc (.cells #[.int .i64 0, .int .i64 0, .int .i64 0, .int .i64 0, .int .i64 0, .int .i64 0] 38) = w1 at *
  go_loop [5, 6] (fun q i => ∃ j f : Nat, q = .int .i64 8 ∧ k < j ∧ j ≤ s.size ∧ j ≤ k + 4 ∧ i = .int .i64 j ∧ Hid (j + f = s.size + 1) ∧ Hid (escTok s k (s.size - k) (k + 1) = escTok s k f j)) (fun _ i => s.size - (intOf i).toNat)
  case atStart => exact ⟨k + 1, s.size - k, rfl, by omega, by omega, by omega, by simp, Lib.hid (by omega), Lib.hid rfl⟩
  case round =>
    obtain ⟨j, f, rfl, hj, hjs, hj4, rfl, HF, HR⟩ := hrel
    have hl1 : w.heap.size < w1.heap.size := hR.out.lt
    have u6 : IntKind.i64.wrap ((j : Int) - k) = (j : Int) - k := IntWalk.i64_in _ (by omega)
    have u4 : IntKind.i64.wrap ((j : Int) + 1) = (j : Int) + 1 := IntWalk.i64_in _ (by omega)
    have u5 : IntKind.i64.wrap ((j : Int) + 1 - k) = (j : Int) + 1 - k := IntWalk.i64_in _ (by omega)
    by_cases hlt : j < s.size
    · obtain ⟨f, rfl⟩ : ∃ q, f = q + 1 := ⟨f - 1, by have := HF.out; omega⟩
      have hb := byteAt_le s j
      have he := byteAt_eq s j hlt
      have HU : Hid (escTok s k (f + 1) j = if inB (byteAt s j) 32 47 = true then (if j = k + 4 then ⟨9, 0, 0, 0, k, 5⟩ else escTok s k f (j + 1))
        else if inB (byteAt s j) 48 126 = true then plainTok (s.extract (k + 1) j) (byteAt s j) k ((j : Int) + 1 - k) else ⟨9, 0, 0, 0, k, (j : Int) - k⟩) := Lib.hid (by rw [escTok, if_pos hlt])
      rw [he] at hb HU
      clear he
      have v1 : (0 : Int) ≤ (j : Int) := by omega
      have v2 : (j : Int) < (s.size : Int) := by omega
      generalize hbb : (s[j].toNat : Int) = b at *
      by_cases c1 : 48 ≤ b
      · by_cases c2 : b ≤ 126
        · have HE : Hid (escTok s k (s.size - k) (k + 1) = plainTok (s.extract (k + 1) j) b k ((j : Int) + 1 - k)) := Lib.hid (by
            rw [HR.out, HU.out, if_neg (by simp [inB]; omega), if_pos (by simp [inB]; omega)])
          go_wp2_with fail
          refine (impl_escapeToken _ b w1 ?_).mono ?_
          · simp; omega
          rintro e w3 ⟨rfl, b3⟩
          have HP := Lib.hid (plainTok_at (s.extract (k + 1) j) b k ((j : Int) + 1 - k))
          generalize plainTok (s.extract (k + 1) j) b 0 0 = y at *
          have hR3 := Lib.hid (hR.out.keep b3)
          have b03 : Below w.heap.size w w3 := b0.trans (b3.mono b0.size)
          have ⟨r0, r1, r2, r3, r4, r5⟩ := hR3.out.cells
          have ⟨z0, z1, z2, z3, z4, z5⟩ := hR3.out.thaw
          simp only [zeroTok] at r0 r1 r2 r3 r4 r5
          have hl3 : w.heap.size < w3.heap.size := hR3.out.lt
          clear b3
          unfold tokV
          go_wp2
          have hT := (hR3.out.put ⟨y.k, y.a, y.b, y.c, k, (j : Int) + 1 - k⟩)
          exact tok_ret (y := ⟨y.k, y.a, y.b, y.c, k, (j : Int) + 1 - k⟩) (HE.out.trans HP.out) rfl rfl (hT.keep (below_one _ _)) Tryd.underlying38 rfl (by kernel_rfl) rfl ((below_put b03 (Nat.le_refl _) ⟨y.k, y.a, y.b, y.c, k, (j : Int) + 1 - k⟩).alloc (below_put b03 (Nat.le_refl _) ⟨y.k, y.a, y.b, y.c, k, (j : Int) + 1 - k⟩).size _)
        · have HE : Hid (escTok s k (s.size - k) (k + 1) = ⟨9, 0, 0, 0, k, (j : Int) - k⟩) := Lib.hid (by
            rw [HR.out, HU.out, if_neg (by simp [inB]; omega), if_neg (by simp [inB]; omega)])
          have c3 : 126 < b := by omega
          have c4 : 47 < b := by omega
          have ⟨r0, r1, r2, r3, r4, r5⟩ := hR.out.cells
          have ⟨z0, z1, z2, z3, z4, z5⟩ := hR.out.thaw
          simp only [zeroTok] at r0 r1 r2 r3 r4 r5
          clear c2
          go_wp2
          exact tok_ret (y := ⟨9, 0, 0, 0, k, (j : Int) - k⟩) HE.out rfl rfl (hR.out.put ⟨9, 0, 0, 0, k, (j : Int) - k⟩) Tryd.underlying38 rfl (by kernel_rfl) rfl (below_put b0 (Nat.le_refl _) ⟨9, 0, 0, 0, k, (j : Int) - k⟩)
      · have c3 : b < 48 := by omega
        have c4 : b ≤ 47 := by omega
        by_cases c2 : 32 ≤ b
        · by_cases h4 : j = k + 4
          · have HE : Hid (escTok s k (s.size - k) (k + 1) = ⟨9, 0, 0, 0, k, (j : Int) + 1 - k⟩) := Lib.hid (by
              rw [HR.out, HU.out, if_pos (by simp [inB]; omega), if_pos h4, show (j : Int) + 1 - k = 5 by omega])
            have h4' : (3 : Int) < (j : Int) - k := by omega
            have ⟨r0, r1, r2, r3, r4, r5⟩ := hR.out.cells
            have ⟨z0, z1, z2, z3, z4, z5⟩ := hR.out.thaw
            simp only [zeroTok] at r0 r1 r2 r3 r4 r5
            clear h4 c1
            go_wp2
            exact tok_ret (y := ⟨9, 0, 0, 0, k, (j : Int) + 1 - k⟩) HE.out rfl rfl (hR.out.put ⟨9, 0, 0, 0, k, (j : Int) + 1 - k⟩) Tryd.underlying38 rfl (by kernel_rfl) rfl (below_put b0 (Nat.le_refl _) ⟨9, 0, 0, 0, k, (j : Int) + 1 - k⟩)
          · have HE : Hid (escTok s k (s.size - k) (k + 1) = escTok s k f (j + 1)) := Lib.hid (by
              rw [HR.out, HU.out, if_pos (by simp [inB]; omega), if_neg h4])
            have h4' : (j : Int) - k ≤ 3 := by omega
            clear c1
            go_wp2
            go_round
            case rel => exact ⟨j + 1, f, rfl, by omega, by omega, by omega, by go_num, Lib.hid (by have := HF.out; omega), HE⟩
            case measure => simp [intOf]; omega
        · have HE : Hid (escTok s k (s.size - k) (k + 1) = ⟨9, 0, 0, 0, k, (j : Int) - k⟩) := Lib.hid (by
            rw [HR.out, HU.out, if_neg (by simp [inB]; omega), if_neg (by simp [inB]; omega)])
          have c5 : b < 32 := by omega
          have ⟨r0, r1, r2, r3, r4, r5⟩ := hR.out.cells
          have ⟨z0, z1, z2, z3, z4, z5⟩ := hR.out.thaw
          simp only [zeroTok] at r0 r1 r2 r3 r4 r5
          clear c1 c2
          go_wp2
          exact tok_ret (y := ⟨9, 0, 0, 0, k, (j : Int) - k⟩) HE.out rfl rfl (hR.out.put ⟨9, 0, 0, 0, k, (j : Int) - k⟩) Tryd.underlying38 rfl (by kernel_rfl) rfl (below_put b0 (Nat.le_refl _) ⟨9, 0, 0, 0, k, (j : Int) - k⟩)
    · have hje : j = s.size := by omega
      have HE : Hid (escTok s k (s.size - k) (k + 1) = ⟨8, 0, 0, 0, k, (j : Int) - k⟩) := Lib.hid (by
        rw [HR.out, hje]
        cases f with
        | zero => rfl
        | succ f => rw [escTok, if_neg (by omega)])
      have v2 : ¬ (j : Int) < (s.size : Int) := by omega
      have ⟨r0, r1, r2, r3, r4, r5⟩ := hR.out.cells
      have ⟨z0, z1, z2, z3, z4, z5⟩ := hR.out.thaw
      simp only [zeroTok] at r0 r1 r2 r3 r4 r5
      clear hje
      go_wp2
      exact tok_ret (y := ⟨8, 0, 0, 0, k, (j : Int) - k⟩) HE.out rfl rfl (hR.out.put ⟨8, 0, 0, 0, k, (j : Int) - k⟩) Tryd.underlying38 rfl (by kernel_rfl) rfl (below_put b0 (Nat.le_refl _) ⟨8, 0, 0, 0, k, (j : Int) - k⟩)

set_option maxHeartbeats 2000000 in
set_option maxRecDepth 100000 in
theorem impl_tokenAt (s : ByteArray) (k : Nat) (w : World) (hk : k < s.size) (hs : s.size ≤ 1048576) : Calls Tryd.prog 26 #[.string s, .int .i64 k] w (TokDone (nextTok s k) w) := by
  have hR0 := slot0 w
  have b0 := below_one w (.cells #[.int .i64 0, .int .i64 0, .int .i64 0, .int .i64 0, .int .i64 0, .int .i64 0] 38)
  have hb := byteAt_le s k
  have he := byteAt_eq s k hk
  have k0 : (0 : Int) ≤ (k : Int) := by omega
  have k1 : (k : Int) < (s.size : Int) := by omega
  by_cases c1 : byteAt s k = 27
  · have HE : Hid (nextTok s k = escTok s k (s.size - k) (k + 1)) := Lib.hid (by rw [nextTok, if_pos c1])
    have hb2 : (s[k].toNat : Int) = 27 := by omega
    clear he c1 hb
    go_enter Tryd.func26, Tryd.ntmps26
    go_wp2_with fail
    refine (impl_escapeAt s k _ hk hs).mono ?_
    rintro e w3 ⟨rfl, b3⟩
    have hR3 := Lib.hid (hR0.keep b3)
    have b03 : Below w.heap.size w w3 := b0.trans (b3.mono b0.size)
    have ⟨r0, r1, r2, r3, r4, r5⟩ := hR3.out.cells
    have ⟨z0, z1, z2, z3, z4, z5⟩ := hR3.out.thaw
    simp only [zeroTok] at r0 r1 r2 r3 r4 r5
    have hl3 : w.heap.size < w3.heap.size := hR3.out.lt
    generalize escTok s k (s.size - k) (k + 1) = y at *
    clear hR0 b0 b3
    unfold tokV
    go_wp2
    exact tok_ret (y := y) HE.out rfl rfl (hR3.out.put y) Tryd.underlying38 rfl (by kernel_rfl) rfl (below_put b03 (Nat.le_refl _) y)
  · have HE := Lib.hid (nextTok_byte s k c1)
    have e1 : ((s[k].toNat : Int) == 27) = false := by rw [beq_eq_false_iff_ne]; omega
    rw [he] at HE hb
    clear he c1
    go_enter Tryd.func26, Tryd.ntmps26
    go_wp2_with fail
    refine (impl_byteToken (s[k].toNat : Int) _ (by omega) (by omega)).mono ?_
    rintro e w3 ⟨rfl, b3⟩
    have hR3 := Lib.hid (hR0.keep b3)
    have b03 : Below w.heap.size w w3 := b0.trans (b3.mono b0.size)
    have ⟨r0, r1, r2, r3, r4, r5⟩ := hR3.out.cells
    have ⟨z0, z1, z2, z3, z4, z5⟩ := hR3.out.thaw
    simp only [zeroTok] at r0 r1 r2 r3 r4 r5
    have hl3 : w.heap.size < w3.heap.size := hR3.out.lt
    generalize byteTok (s[k].toNat : Int) = y at *
    clear hR0 b0 b3
    unfold tokV
    go_wp2
    have hT := (hR3.out.put ⟨y.k, y.a, y.b, y.c, k, 1⟩)
    exact tok_ret (y := ⟨y.k, y.a, y.b, y.c, k, 1⟩) HE.out rfl rfl (hT.keep (below_one _ _)) Tryd.underlying38 rfl (by kernel_rfl) rfl ((below_put b03 (Nat.le_refl _) ⟨y.k, y.a, y.b, y.c, k, 1⟩).alloc (below_put b03 (Nat.le_refl _) ⟨y.k, y.a, y.b, y.c, k, 1⟩).size _)

end Go.Proofs.YtbamjhldebobhaaDoor

namespace Go.Proofs.YtbamjhldebobhaaDoor
open Go.RowKit Go.Sort

theorem Own.only {k : IntKind} {e : TypeId} {w w' : World} {B g : Nat} {v : Value} {zs : List Int} (h : Own k e w B v zs) (ho : Only g w w') (hg : g < B) : Own k e w' B v zs := by
  have hlt := fun j hj => World.ownsRow.lt h j hj
  refine ⟨h.1, ?_⟩
  rcases h.2 with h | ⟨j, cap, cur, a, b, c, d⟩
  · exact .inl h
  · exact .inr ⟨j, cap, cur, a, b, by rw [ho.2 j (by omega) (hlt j (by rw [a]; rfl)).2]; exact c, d⟩
theorem StAt.only {w w' : World} {g j : Nat} {x : St} (h : StAt w j x) (ho : Only g w w') (hg : j ≠ g) : StAt w' j x := (ho.2 j hg h.lt).trans h
theorem TokAt.only {w w' : World} {g j : Nat} {t : Tok} (h : TokAt w j t) (ho : Only g w w') (hg : j ≠ g) (hl : j < w.heap.size) : TokAt w' j t := (ho.2 j hg hl).trans h

set_option maxHeartbeats 4000000 in
set_option maxRecDepth 100000 in
theorem impl_RunState (x : St) (s : ByteArray) (w : World) (ht : TabM w) (hw : Wide64 x) (hs : s.size ≤ 9223372036854775807) : Calls Tryd.prog 6 #[stV x, .string s] w (RunDone (rsR x s) w) := by
  have HS0 : Hid (StAt ((w.alloc (.cells #[.int .i64 x.g0, .int .i64 x.g1, .int .i64 x.g2, .int .i64 x.g3, .int .i64 x.l, .int .i64 x.s, .int .i64 x.d] 24)).alloc (.cells #[.int .i64 0, .int .i64 0, .int .i64 0, .int .i64 0, .int .i64 0, .int .i64 0, .int .i64 0] 24)) (w.heap.size + 1) zeroSt) := Lib.hid (heap_alloc2_new _ _ _)
  have B0 := Lib.hid (below_two w (.cells #[.int .i64 x.g0, .int .i64 x.g1, .int .i64 x.g2, .int .i64 x.g3, .int .i64 x.l, .int .i64 x.s, .int .i64 x.d] 24) (.cells #[.int .i64 0, .int .i64 0, .int .i64 0, .int .i64 0, .int .i64 0, .int .i64 0, .int .i64 0] 24))
  have HF := Lib.hid (fun w => impl_machineOf x w)
  have HO := Lib.hid (fun b w h ht => impl_ok x b w h ht hw.1 hw.2)
  have HST := Lib.hid (fun y b w h => impl_state y b w h)
  have HT := Lib.hid ht
  clear ht hw
  unfold StDone stV at HF HST
  unfold stV
  by_cases h1 : 65536 < s.size
  · have HE : Hid (rsR x s = ⟨zeroSt, [], 0, 2⟩) := Lib.hid (by rw [rsR, if_pos h1])
    have h1' : (65536 : Int) < (s.size : Int) := by omega
    go_enter Tryd.func6, Tryd.ntmps6
    go_wp2
    exact st_ret4 (y := zeroSt) (r := .slice none 0 0) (m := .int .i64 0) (c := .int .i64 2) rfl rfl rfl rfl rfl HS0.out Tryd.underlying24 rfl (by kernel_rfl) rfl ⟨.slice none 0 0, by rw [HE.out], by rw [HE.out]; exact Own.nil _ _ _ _, B0.out⟩
  have h1' : (s.size : Int) ≤ 65536 := by omega
  cases ho : stOKB x
  · have HE : Hid (rsR x s = ⟨zeroSt, [], 0, 1⟩) := Lib.hid (by rw [rsR, if_neg h1, if_neg (by rw [ho]; decide)])
    rw [ho] at HO
    go_enter Tryd.func6, Tryd.ntmps6
    go_wp2_with fail
    refine (HF.out _).mono ?_
    generalize (w.alloc (.cells #[.int .i64 x.g0, .int .i64 x.g1, .int .i64 x.g2, .int .i64 x.g3, .int .i64 x.l, .int .i64 x.s, .int .i64 x.d] 24)).alloc (.cells #[.int .i64 0, .int .i64 0, .int .i64 0, .int .i64 0, .int .i64 0, .int .i64 0, .int .i64 0] 24) = W0 at *
    rintro e w1 ⟨rfl, b1⟩
    have B1 := Lib.hid (B0.out.trans (b1.mono B0.out.size))
    have HS1 := Lib.hid ((HS0.out.keep b1).keep (below_one w1 (.cells #[.int .i64 x.g0, .int .i64 x.g1, .int .i64 x.g2, .int .i64 x.g3, .int .i64 x.l, .int .i64 x.s, .int .i64 x.d] 52)))
    have hw1 : w.heap.size + 1 < w1.heap.size := (HS0.out.keep b1).lt
    have B2 := Lib.hid (B1.out.alloc B1.out.size (.cells #[.int .i64 x.g0, .int .i64 x.g1, .int .i64 x.g2, .int .i64 x.g3, .int .i64 x.l, .int .i64 x.s, .int .i64 x.d] 52))
    have HM := Lib.hid (MAt.new w1 x)
    have HT2 := Lib.hid (HT.out.keep B2.out)
    clear b1 HS0 B0 B1
    go_wp2_with fail
    refine (HO.out w1.heap.size _ HM.out HT2.out).mono ?_
    generalize w1.alloc (.cells #[.int .i64 x.g0, .int .i64 x.g1, .int .i64 x.g2, .int .i64 x.g3, .int .i64 x.l, .int .i64 x.s, .int .i64 x.d] 52) = W1 at *
    rintro e W2 ⟨rfl, b2⟩
    have B3 := Lib.hid (B2.out.trans (b2.mono B2.out.size))
    have HS3 := Lib.hid (HS1.out.keep b2)
    have HM3 := Lib.hid (HM.out.keep b2)
    have hb3 : w1.heap.size < W2.heap.size := HM3.out.lt
    clear b2 B2 HM HT2 HS1
    have ⟨r0, r1, r2, r3, r4, r5, r6⟩ := HS3.out.cells
    have ⟨z0, z1, z2, z3, z4, z5, z6⟩ := HS3.out.thaw
    simp only [zeroSt] at r0 r1 r2 r3 r4 r5 r6
    have hl : w.heap.size + 1 < W2.heap.size := HS3.out.lt
    have BB := Lib.hid (below_putSt B3.out (show w.heap.size ≤ w.heap.size + 1 by omega) zeroSt)
    go_wp2
    exact st_ret4 (y := zeroSt) (r := .slice none 0 0) (m := .int .i64 0) (c := .int .i64 1) rfl rfl rfl rfl rfl (HS3.out.put zeroSt) Tryd.underlying24 rfl (by kernel_rfl) rfl ⟨.slice none 0 0, by rw [HE.out], by rw [HE.out]; exact Own.nil _ _ _ _, BB.out⟩
  rw [ho] at HO
  have HX := Lib.hid ho
  have HRS : Hid (rsR x s = runT s s.size 0 x []) := Lib.hid (by rw [rsR, if_neg h1, if_pos ho])
  clear ho h1
  go_enter Tryd.func6, Tryd.ntmps6
  go_wp2_with fail
  refine (HF.out _).mono ?_
  generalize (w.alloc (.cells #[.int .i64 x.g0, .int .i64 x.g1, .int .i64 x.g2, .int .i64 x.g3, .int .i64 x.l, .int .i64 x.s, .int .i64 x.d] 24)).alloc (.cells #[.int .i64 0, .int .i64 0, .int .i64 0, .int .i64 0, .int .i64 0, .int .i64 0, .int .i64 0] 24) = W0 at *
  rintro e w1 ⟨rfl, b1⟩
  have B1 := Lib.hid (B0.out.trans (b1.mono B0.out.size))
  have HS1 := Lib.hid ((HS0.out.keep b1).keep (below_one w1 (.cells #[.int .i64 x.g0, .int .i64 x.g1, .int .i64 x.g2, .int .i64 x.g3, .int .i64 x.l, .int .i64 x.s, .int .i64 x.d] 52)))
  have hw1 : w.heap.size + 1 < w1.heap.size := (HS0.out.keep b1).lt
  have B2 := Lib.hid (B1.out.alloc B1.out.size (.cells #[.int .i64 x.g0, .int .i64 x.g1, .int .i64 x.g2, .int .i64 x.g3, .int .i64 x.l, .int .i64 x.s, .int .i64 x.d] 52))
  have HM := Lib.hid (MAt.new w1 x)
  have HT2 := Lib.hid (HT.out.keep B2.out)
  clear b1 HS0 B0 B1
  go_wp2_with fail
  refine (HO.out w1.heap.size _ HM.out HT2.out).mono ?_
  generalize w1.alloc (.cells #[.int .i64 x.g0, .int .i64 x.g1, .int .i64 x.g2, .int .i64 x.g3, .int .i64 x.l, .int .i64 x.s, .int .i64 x.d] 52) = W1 at *
  rintro e W2 ⟨rfl, b2⟩
  have B3 := Lib.hid (B2.out.trans (b2.mono B2.out.size))
  have HS3 := Lib.hid (HS1.out.keep b2)
  have HM3 := Lib.hid (HM.out.keep b2)
  have hb3 : w1.heap.size < W2.heap.size := HM3.out.lt
  clear b2 B2 HM HT2 HS1
  go_wp2
  go_loopw [9, 10] (fun v i wr => ∃ (k f : Nat) (xs : St) (zs : List Int), k ≤ s.size ∧ i = .int .i64 k ∧ Hid (s.size ≤ k + f) ∧ zs.length ≤ k ∧ Hid (rsR x s = runT s f k xs zs) ∧ Hid (stOKB xs = true) ∧ Hid (Own .i64 3 wr W2.heap.size v zs) ∧ Hid (MAt wr w1.heap.size xs) ∧ Hid (StAt wr (w.heap.size + 1) zeroSt) ∧ Hid (Below w.heap.size w wr) ∧ W2.heap.size ≤ wr.heap.size) (fun _ i _ => s.size - (intOf i).toNat)
  case atStart => exact ⟨0, s.size, x, [], by omega, rfl, Lib.hid (by omega), by simp, HRS, HX, Lib.hid (Own.nil _ _ _ _), HM3, HS3, B3, Nat.le_refl _⟩
  case round =>
    obtain ⟨k, f, xs, zs, hk, rfl, HF2, hzs, HR, HX, HOw, HMr, HSr, BW, hwr⟩ := hrel
    obtain ⟨a0, c0, hform, _⟩ := HOw.out.shape
    subst hform
    by_cases hlt : k < s.size
    · obtain ⟨f, rfl⟩ : ∃ q, f = q + 1 := ⟨f - 1, by have := HF2.out; omega⟩
      have v2 : (k : Int) < (s.size : Int) := by omega
      have HU : Hid (runT s (f + 1) k xs zs = if (stepT xs (nextTok s k)).c = 0 then runT s f (k + (nextTok s k).n.toNat) (stepT xs (nextTok s k)).y (addR zs (stepT xs (nextTok s k)).r) else ⟨xs, zs, k, (stepT xs (nextTok s k)).c⟩) := Lib.hid (by rw [runT, if_pos hlt])
      have n1 := (nextTok_in s k hlt).2.1
      have n2 := (nextTok_in s k hlt).2.2
      have HN := Lib.hid (fun w => impl_tokenAt s k w hlt (by omega))
      have hok := nextTok_ok s k hlt (by omega)
      have HG := Lib.hid (fun g w h ht => impl_step xs (nextTok s k) g w h ht HX.out hok)
      have HC := Lib.hid (fun h => stepT_code (x := xs) (t := nextTok s k) h)
      have hr := stepT_r (x := xs) hok
      have HX2 := Lib.hid (stepT_ok HX.out hok)
      clear hok
      unfold TokDone tokV at HN
      unfold MvDone mvV tokV at HG
      generalize nextTok s k = y at *
      generalize stepT xs y = p at *
      have HTR : Hid (0 ≤ p.r → toldR p = p.r ∧ toldB p = true) := Lib.hid (fun h => ⟨by rw [toldR, if_pos h], by rw [toldB, decide_eq_true h]⟩)
      have HTN : Hid (p.r = -1 → toldB p = false) := Lib.hid (fun h => by rw [toldB, h]; rfl)
      generalize toldR p = tr at *
      generalize toldB p = tb at *
      have u1 : IntKind.i64.wrap ((k : Int) + y.n) = (k : Int) + y.n := IntWalk.i64_in _ (by omega)
      have HN2 : Hid (∃ m : Nat, y.n = (m : Int) ∧ 1 ≤ m ∧ k + m ≤ s.size) := Lib.hid ⟨y.n.toNat, by omega, by omega, by omega⟩
      go_wp2_with fail
      refine (HN.out _).mono ?_
      rintro e w4 ⟨rfl, b4⟩
      have B4 := Lib.hid (BW.out.trans (b4.mono BW.out.size))
      have L4 := Lib.hid (fun g hg => World.ownsRow.lt (HOw.out.all b4) g hg)
      have O4 := Lib.hid ((HOw.out.all b4).all (below_one w4 (.cells #[.int .i64 y.k, .int .i64 y.a, .int .i64 y.b, .int .i64 y.c, .int .i64 y.p, .int .i64 y.n] 38)))
      have HM4 := Lib.hid ((HMr.out.keep b4).keep (below_one w4 (.cells #[.int .i64 y.k, .int .i64 y.a, .int .i64 y.b, .int .i64 y.c, .int .i64 y.p, .int .i64 y.n] 38)))
      have HS4 := Lib.hid ((HSr.out.keep b4).keep (below_one w4 (.cells #[.int .i64 y.k, .int .i64 y.a, .int .i64 y.b, .int .i64 y.c, .int .i64 y.p, .int .i64 y.n] 38)))
      have HK4 := Lib.hid (TokAt.new w4 y)
      have B4b := Lib.hid (B4.out.alloc B4.out.size (.cells #[.int .i64 y.k, .int .i64 y.a, .int .i64 y.b, .int .i64 y.c, .int .i64 y.p, .int .i64 y.n] 38))
      have hw4 : W2.heap.size ≤ w4.heap.size := by have := b4.size; omega
      have HT4 := Lib.hid (HT.out.keep B4b.out)
      have hsz4 : w4.heap.size < (w4.alloc (.cells #[.int .i64 y.k, .int .i64 y.a, .int .i64 y.b, .int .i64 y.c, .int .i64 y.p, .int .i64 y.n] 38)).heap.size := by simp
      clear b4 HOw HMr HSr BW B4 HN
      have ⟨t0, t1, t2, t3, t4, t5⟩ := HK4.out.cells
      go_wp2_with fail
      refine (HG.out w1.heap.size _ HM4.out HT4.out).mono ?_
      clear t0 t1 t2 t3 t4 t5
      generalize w4.alloc (.cells #[.int .i64 y.k, .int .i64 y.a, .int .i64 y.b, .int .i64 y.c, .int .i64 y.p, .int .i64 y.n] 38) = W4 at *
      rintro e w5 ⟨rfl, m5, o5⟩
      have HM5 := Lib.hid m5
      have B5 := Lib.hid (B4b.out.trans (o5.1.mono (by omega)))
      have O5 := Lib.hid (O4.out.only o5 hb3)
      have HS5 := Lib.hid (HS4.out.only o5 (by omega))
      have HK5 := Lib.hid (HK4.out.only o5 (by omega) hsz4)
      have hsz5 : w4.heap.size < w5.heap.size := (Array.getElem?_eq_some_iff.1 HK5.out).1
      clear m5 o5 O4 HM4 HS4 HK4 B4b HT4 hsz4
      by_cases hc : p.c = 0
      · have ec : (p.c != 0) = false := by simpa using hc
        obtain ⟨m, hm, m1, m2⟩ := HN2.out
        have HMM := Lib.hid hm
        have e5 : (k : Int) + y.n = ((k + m : Nat) : Int) := by omega
        clear hm
        rcases hr with hr | hr
        · have HA : Hid (addR zs p.r = zs) := Lib.hid (addR_none hr)
          have htb := HTN.out hr
          subst htb
          have ⟨_, _, _, _, _, t5⟩ := HK5.out.cells
          go_wp2
          go_roundw
          case rel => exact ⟨k + m, f, p.y, zs, m2, by simp, Lib.hid (by have := HF2.out; omega), by omega, Lib.hid (by rw [HR.out, HU.out, if_pos hc, HA.out, HMM.out]; simp), HX2, O5, HM5, HS5, B5, by omega⟩
          case measure => simp [intOf]; omega
        · have ⟨e1, e2⟩ := HTR.out hr
          subst e2
          have HA : Hid (addR zs p.r = zs ++ [tr]) := Lib.hid (by rw [addR_some hr, e1])
          clear e1
          have O6 := Lib.hid (O5.out.alloc (.cells #[.int .i64 tr] 3))
          have HNW := Lib.hid (World.news_of_block (show (w5.alloc (.cells #[.int .i64 tr] 3)).heap[w5.heap.size]? = some (.cells ([tr].map (Value.int .i64)).toArray 3) from heap_alloc_new _ _))
          have hB6 : W2.heap.size ≤ (w5.alloc (.cells #[.int .i64 tr] 3)).heap.size := by simp; omega
          go_wp2_with (at_builtin; refine app_i64 _ rfl _ _ rfl W2.heap.size _ zs rfl O6.out ⟨w5.heap.size, 0, none⟩ 1 1 [tr] rfl rfl (by decide) HNW.out (by omega) hB6 ?_)
          intro g cap2 w7 o7 g7 lt7
          have hx7 : TokAt w7 w4.heap.size y := (g7.block _ (by simp; omega) (fun h => by have := (L4.out _ h.symm).2; omega)).trans (HK5.out.keep (below_one _ (.cells #[.int .i64 tr] 3)))
          have HM7 := Lib.hid ((g7.block w1.heap.size (by simp; omega) (fun h => by have := (L4.out _ h.symm).1; omega)).trans (HM5.out.keep (below_one _ (.cells #[.int .i64 tr] 3))))
          have HS7 := Lib.hid ((g7.block (w.heap.size + 1) (by simp; omega) (fun h => by have := (L4.out _ h.symm).1; omega)).trans (HS5.out.alloc (.cells #[.int .i64 tr] 3)))
          have B7 := Lib.hid ((B5.out.alloc B5.out.size (.cells #[.int .i64 tr] 3)).grown g7 (by simp; omega) (fun j hj => by have := (L4.out j hj).1; omega))
          have hs7 : W2.heap.size ≤ w7.heap.size := by have := (Array.getElem?_eq_some_iff.1 hx7).1; omega
          have O7 := Lib.hid o7
          clear o7 g7
          have ⟨_, _, _, _, _, t5⟩ := hx7.cells
          clear hx7
          go_wp2
          go_roundw
          case rel => exact ⟨k + m, f, p.y, zs ++ [tr], m2, by simp, Lib.hid (by have := HF2.out; omega), by simp; omega, Lib.hid (by rw [HR.out, HU.out, if_pos hc, HA.out, HMM.out]; simp), HX2, O7, HM7, HS7, B7, hs7⟩
          case measure => simp [intOf]; omega
      · have ec : (p.c != 0) = true := by simpa using hc
        have HE : Hid (rsR x s = ⟨xs, zs, k, p.c⟩) := Lib.hid (by rw [HR.out, HU.out, if_neg hc])
        have hy : p.y = xs := (HC.out hc).1
        rw [hy] at HM5
        clear hy
        go_wp2_with fail
        refine (HST.out xs w1.heap.size _ HM5.out).mono ?_
        rintro e w9 ⟨rfl, b9⟩
        have B9 := Lib.hid (B5.out.trans (b9.mono B5.out.size))
        have HS9 := Lib.hid (HS5.out.keep b9)
        have O9 := Lib.hid (O5.out.all b9)
        have ⟨r0, r1, r2, r3, r4, r5, r6⟩ := HS9.out.cells
        have ⟨z0, z1, z2, z3, z4, z5, z6⟩ := HS9.out.thaw
        simp only [zeroSt] at r0 r1 r2 r3 r4 r5 r6
        have hl : w.heap.size + 1 < w9.heap.size := HS9.out.lt
        have BB := Lib.hid (below_putSt B9.out (show w.heap.size ≤ w.heap.size + 1 by omega) xs)
        have OE := Lib.hid ((O9.out.putSt (show w.heap.size + 1 < W2.heap.size by omega) xs).low B3.out.size)
        clear b9
        go_wp2
        exact st_ret4 (y := xs) (r := .slice a0 zs.length c0) (m := .int .i64 k) (c := .int .i64 p.c) rfl rfl rfl rfl rfl (HS9.out.put xs) Tryd.underlying24 rfl (by kernel_rfl) rfl ⟨.slice a0 zs.length c0, by rw [HE.out], by rw [HE.out]; exact OE.out, BB.out⟩
    · have v2 : ¬ (k : Int) < (s.size : Int) := by omega
      have HE : Hid (rsR x s = ⟨xs, zs, s.size, 0⟩) := Lib.hid (by
        rw [HR.out]
        cases f with
        | zero => rfl
        | succ f => rw [runT, if_neg hlt])
      go_wp2_with fail
      refine (HST.out xs w1.heap.size _ HMr.out).mono ?_
      rintro e w9 ⟨rfl, b9⟩
      have B9 := Lib.hid (BW.out.trans (b9.mono BW.out.size))
      have HS9 := Lib.hid (HSr.out.keep b9)
      have O9 := Lib.hid (HOw.out.all b9)
      have ⟨r0, r1, r2, r3, r4, r5, r6⟩ := HS9.out.cells
      have ⟨z0, z1, z2, z3, z4, z5, z6⟩ := HS9.out.thaw
      simp only [zeroSt] at r0 r1 r2 r3 r4 r5 r6
      have hl : w.heap.size + 1 < w9.heap.size := HS9.out.lt
      have BB := Lib.hid (below_putSt B9.out (show w.heap.size ≤ w.heap.size + 1 by omega) xs)
      have OE := Lib.hid ((O9.out.putSt (show w.heap.size + 1 < W2.heap.size by omega) xs).low B3.out.size)
      clear b9
      go_wp2
      exact st_ret4 (y := xs) (r := .slice a0 zs.length c0) (m := .int .i64 s.size) (c := .int .i64 0) rfl rfl rfl rfl rfl (HS9.out.put xs) Tryd.underlying24 rfl (by kernel_rfl) rfl ⟨.slice a0 zs.length c0, by rw [HE.out], by rw [HE.out]; exact OE.out, BB.out⟩

end Go.Proofs.YtbamjhldebobhaaDoor

namespace Go.Proofs.YtbamjhldebobhaaDoor
open Go.ChangeShapes Go.WideShapes Go.ChangeAt Go.RowKit

theorem gReg : Tryd.prog.globalNamed "loop.example/g00748/impl.registry" = some 0 := by kernel_rfl
theorem tReg : (Tryd.prog.globals[0]?).map (·.type) = some 85 := by kernel_rfl
def spD {H : Type} (s : Sp) : DataW H := .agg [.lit (.int .i64 s.1), .lit (.int .i64 s.2.1), .lit (.int .i64 s.2.2)]
def setD {H : Type} (k : Nat) : DataW H := .agg [.lit (.string (setName k).data.toList), .lit (.int .i64 (setKind k)), .lit (.int .i64 (setFinal k)), .slice ((setSpans k).map spD) []]
def regD {H : Type} : List (DataW H) := .agg [.lit (.string []), .lit (.int .i64 0), .lit (.int .i64 0), .nil] :: [setD 1, setD 2, setD 3, setD 4, setD 5, setD 6, setD 7, setD 8]
theorem laid_reg {H : Type} : (Rows.laid_loop_example_g00748_impl_registry : DataW H) = .agg regD := by kernel_rfl
theorem regD_at {H : Type} (k : Nat) (h1 : 1 ≤ k) (h8 : k ≤ 8) : (regD (H := H))[k]? = some (setD k) := by
  have : k = 1 ∨ k = 2 ∨ k = 3 ∨ k = 4 ∨ k = 5 ∨ k = 6 ∨ k = 7 ∨ k = 8 := by omega
  rcases this with rfl | rfl | rfl | rfl | rfl | rfl | rfl | rfl <;> rfl

theorem one_of_take {cs : List Value} {i : Nat} {c : Value} (h : (cs.drop i).take 1 = [c]) : cs[i]? = some c := by
  have := congrArg (fun l => l[0]?) h
  simpa [List.getElem?_take, List.getElem?_drop] using this

set_option maxRecDepth 100000 in
/-- A slice of spans, read. -/
theorem spans_of {H : Type} {enc : TypeId × Value → H} {W : World} {held : Bool} {fuel : Nat} {c : Value} {sp : List Sp} {p : List MemPlace} (hne : sp ≠ [])
    (h : DataW.trod enc Tryd.prog W 0 (fun _ => true) held fuel 71 [c] = some (.slice (sp.map spD) [], p)) : SpAt W c sp := by
  rcases Deep.open_slice Tryd.underlying71 h with ⟨_, hx⟩ | ⟨a, len, cap, m, n, D, Pl, hcs, _, hl, _, hm, hx, hel⟩
  · simp at hx
  · simp only [if_true] at hm
    have e1 := congrArg Prod.fst hx
    simp only [DataW.slice.injEq] at e1
    obtain ⟨e2, e3⟩ := e1
    have hlen : len = sp.length := by simpa using (congrArg List.length e2).symm
    subst hlen
    have c3 : Tryd.prog.cellsOf 90 = 3 := by kernel_rfl
    rw [c3] at hel
    have key : ∀ i (hi : i < sp.length), W.cell? (a.add (i * 3)) = some (.int .i64 (sp[i]).1) ∧ W.cell? ((a.add (i * 3)).add 1) = some (.int .i64 (sp[i]).2.1) ∧ W.cell? ((a.add (i * 3)).add 2) = some (.int .i64 (sp[i]).2.2) := by
      intro i hi
      obtain ⟨cs', h1, h2⟩ := hel i (by omega)
      obtain ⟨_, hlen3, hc⟩ := World.cells?_some h1
      have hD : D i = spD (sp[i]) := by
        have := congrArg (fun l => l[i]?) e2
        simp only [List.getElem?_map, List.getElem?_eq_getElem hi, Option.map_some, List.getElem?_range hi, Option.some.injEq] at this
        exact this.symm
      obtain ⟨y0, y1, y2, q, hy, _, t0, t1, t2⟩ := Deep.trod_struct3 Tryd.underlying90 h2
      have c1 : Tryd.prog.cellsOf 3 = 1 := by kernel_rfl
      obtain ⟨n0, f0, rfl, _⟩ := DataW.trod_int Tryd.underlying3 t0
      obtain ⟨n1, f1, rfl, _⟩ := DataW.trod_int Tryd.underlying3 t1
      obtain ⟨n2, f2, rfl, _⟩ := DataW.trod_int Tryd.underlying3 t2
      have hy1 := congrArg Prod.fst hy
      rw [hD] at hy1
      simp only [spD, DataW.agg.injEq, List.cons.injEq, DataW.lit.injEq, Lit.int.injEq, true_and, and_true] at hy1
      obtain ⟨g0, g1, g2⟩ := hy1
      have k0 := one_of_take (c := .int .i64 n0) (i := 0) (by rw [← c1]; exact f0)
      have k1 := one_of_take (c := .int .i64 n1) (i := 1) (by rw [← c1]; exact f1)
      have k2 := one_of_take (c := .int .i64 n2) (i := 2) (by rw [← c1]; exact f2)
      refine ⟨?_, ?_, ?_⟩
      · have := hc 0 (by omega)
        rw [k0, ← g0] at this
        simpa [Addr.add] using this
      · rw [hc 1 (by omega), k1, ← g1]
      · rw [hc 2 (by omega), k2, ← g2]
    simp only [List.cons.injEq, and_true] at hcs
    subst hcs
    have hpos : 0 < sp.length := List.length_pos_iff.2 hne
    obtain ⟨b, off, spot⟩ := a
    have hspot : spot = none := by
      have := World.cell?_spot (key 0 hpos).1
      simpa [Addr.add] using this
    subst hspot
    refine .inr ⟨b, off, cap, rfl, fun i hi => ?_⟩
    have ⟨h1, h2, h3⟩ := key i hi
    rw [add_off, add_off] at h2 h3
    rw [add_off] at h1
    exact ⟨h1, h2, h3⟩

set_option maxRecDepth 100000 in
theorem sets_of_laid {W : World} (h : laidMetH Tryd.prog [("loop.example/g00748/impl.registry", Rows.laid_loop_example_g00748_impl_registry)] W) : TabSets W := by
  rw [MakeChecks.laidMetH_plain _ _ _ (by kernel_rfl)] at h
  obtain ⟨ps, ⟨g0, t0, cs0, f0, p0, q0, hg0, ht0, hv0, hd0, _, _⟩, _, _⟩ := h
  obtain rfl := Option.some.inj (gReg.symm.trans hg0)
  obtain rfl := Option.some.inj (tReg.symm.trans ht0)
  rw [laid_reg] at hd0
  obtain ⟨xs, m, rfl, hx, _, hlen, hel⟩ := DataW.trod_array Tryd.underlying85 hd0
  have hx1 : regD = xs.map (·.1) := by simpa using congrArg Prod.fst hx
  have c4 : Tryd.prog.cellsOf 73 = 4 := by kernel_rfl
  have c1 : Tryd.prog.cellsOf 3 = 1 := by kernel_rfl
  have c1s : Tryd.prog.cellsOf 9 = 1 := by kernel_rfl
  have c1l : Tryd.prog.cellsOf 71 = 1 := by kernel_rfl
  rw [c4] at hel
  intro k h1 h8
  have hk : k < xs.length := by omega
  have e1 := hel k (by omega)
  rw [List.getElem?_eq_getElem hk] at e1
  have e2 : (xs[k]).1 = setD k := by
    have e3 := regD_at (H := Unit) k h1 h8
    rw [hx1, List.getElem?_map, List.getElem?_eq_getElem hk] at e3
    simpa using e3
  obtain ⟨y0, y1, y2, y3, n, hy, _, t0, t1, t2, t3⟩ := Joins.trod_struct4 Tryd.underlying73 e1
  obtain ⟨s0, f0, rfl, _⟩ := DataW.trod_string Tryd.underlying9 t0
  obtain ⟨n1, f1, rfl, _⟩ := DataW.trod_int Tryd.underlying3 t1
  obtain ⟨n2, f2, rfl, _⟩ := DataW.trod_int Tryd.underlying3 t2
  have hy1 := congrArg Prod.fst hy
  rw [e2] at hy1
  simp only [setD, DataW.agg.injEq, List.cons.injEq, DataW.lit.injEq, Lit.int.injEq, Lit.string.injEq, true_and, and_true] at hy1
  obtain ⟨g0, g1, g2, g3⟩ := hy1
  have hs0 : setName (k : Int) = s0 := ByteArray.ext (Array.toList_inj.1 g0)
  have cell : ∀ j, W.cell? ⟨0, j, none⟩ = cs0[j]? := fun j => by simpa using World.var?_cell gReg hv0 j
  have el : ∀ (j : Nat) (c : Value), j < 4 → ((((cs0.toList.drop (k * 4)).take 4).drop j).take 1) = [c] → W.cell? ⟨0, k * 4 + j, none⟩ = some c := by
    intro j c hj h
    have h2 := one_of_take h
    rw [List.getElem?_take_of_lt hj, List.getElem?_drop, Array.getElem?_toList] at h2
    rw [cell, h2]
  have l3 : ∃ c, ((((cs0.toList.drop (k * 4)).take 4).drop 3).take 1) = [c] := by
    rw [c1l] at t3
    rcases Deep.open_slice Tryd.underlying71 t3 with ⟨h, _⟩ | ⟨a, len, cap, _, _, _, _, h, _⟩
    · exact ⟨_, h⟩
    · exact ⟨_, h⟩
  obtain ⟨c, hc⟩ := l3
  refine ⟨?_, ?_, ?_, c, el 3 c (by decide) hc, ?_⟩
  · rw [hs0]
    exact el 0 _ (by decide) (by rw [← c1s]; exact f0)
  · rw [g1]
    exact el 1 _ (by decide) (by rw [← c1]; exact f1)
  · rw [g2]
    exact el 2 _ (by decide) (by rw [← c1]; exact f2)
  · have t4 : DataW.trod (fun _ : TypeId × Value => ()) Tryd.prog W 0 (fun _ => true) false n 71 [c] = some y3 := by
      rw [← hc, ← c1l]; exact t3
    obtain ⟨y3a, y3b⟩ := y3
    simp only at g3
    rw [← g3] at t4
    exact spans_of (by have := (set_few (k : Int)).1; intro h; rw [h] at this; simp at this) t4

theorem sets_readable : ∀ n ∈ ["loop.example/g00748/impl.registry"], ∀ g t, Tryd.prog.globalNamed n = some g → (Tryd.prog.globals[g]?).map (·.type) = some t → Tryd.prog.readableRec t = true ∧ t < Tryd.prog.types.size := by
  intro n hn g t hg ht
  obtain rfl : n = _ := List.mem_singleton.1 hn
  obtain rfl := Option.some.inj (gReg.symm.trans hg)
  obtain rfl := Option.some.inj (tReg.symm.trans ht)
  exact ⟨by kernel_rfl, of_decide_eq_true (by kernel_rfl)⟩

end Go.Proofs.YtbamjhldebobhaaDoor

namespace Go.Proofs.YtbamjhldebobhaaDoor
open Go.ChangeShapes Go.WideShapes Go.ChangeAt Go.RowKit

set_option maxRecDepth 100000 in
theorem tabM_of_laid {W : World} (h : laidMetH Tryd.prog [("loop.example/g00748/impl.registry", Rows.laid_loop_example_g00748_impl_registry)] W) : TabM W := by
  refine ⟨sets_of_laid h, ?_⟩
  rw [MakeChecks.laidMetH_plain _ _ _ (by kernel_rfl)] at h
  obtain ⟨ps, ⟨g0, t0, cs0, f0, p0, q0, hg0, ht0, hv0, hd0, _, _⟩, _, _⟩ := h
  obtain rfl := Option.some.inj (gReg.symm.trans hg0)
  obtain rfl := Option.some.inj (tReg.symm.trans ht0)
  rw [laid_reg] at hd0
  obtain ⟨xs, m, rfl, hx, _, hlen, hel⟩ := DataW.trod_array Tryd.underlying85 hd0
  have hx1 : regD = xs.map (·.1) := by simpa using congrArg Prod.fst hx
  have c4 : Tryd.prog.cellsOf 73 = 4 := by kernel_rfl
  have c1 : Tryd.prog.cellsOf 3 = 1 := by kernel_rfl
  rw [c4] at hel
  have hk : 0 < xs.length := by omega
  have e1 := hel 0 (by omega)
  rw [List.getElem?_eq_getElem hk] at e1
  have e2 : (xs[0]).1 = .agg [.lit (.string []), .lit (.int .i64 0), .lit (.int .i64 0), .nil] := by
    have e3 : (regD (H := Unit))[0]? = some (.agg [.lit (.string []), .lit (.int .i64 0), .lit (.int .i64 0), .nil]) := rfl
    rw [hx1, List.getElem?_map, List.getElem?_eq_getElem hk] at e3
    simpa using e3
  obtain ⟨y0, y1, y2, y3, n, hy, _, t0, t1, t2, t3⟩ := Joins.trod_struct4 Tryd.underlying73 e1
  obtain ⟨n1, f1, rfl, _⟩ := DataW.trod_int Tryd.underlying3 t1
  have hy1 := congrArg Prod.fst hy
  rw [e2] at hy1
  simp only [DataW.agg.injEq, List.cons.injEq, DataW.lit.injEq, Lit.int.injEq, true_and, and_true] at hy1
  obtain ⟨_, g1, _⟩ := hy1
  have cell : ∀ j, W.cell? ⟨0, j, none⟩ = cs0[j]? := fun j => by simpa using World.var?_cell gReg hv0 j
  have h2 := one_of_take (by rw [← c1]; exact f1)
  rw [List.getElem?_take_of_lt (by decide), List.getElem?_drop, Array.getElem?_toList] at h2
  rw [cell]
  rw [← g1] at h2
  simpa using h2

end Go.Proofs.YtbamjhldebobhaaDoor

namespace Go.Proofs.YtbamjhldebobhaaDoor

/-- Behind i tokens of the string s the run q stands in state y, with the characters z. -/
def Runs (s : ByteArray) (q : Rn) (i : Nat) (y : St) (z : List Int) : Prop := stOKB y = true ∧ ∃ f k, (toksOf s).drop i = toksFrom s f k ∧ q = runT s f k y z
theorem Runs.start {s : ByteArray} {x : St} (hx : stOKB x = true) : Runs s (runT s s.size 0 x []) 0 x [] := ⟨hx, s.size, 0, by simp [toksOf], rfl⟩
theorem Runs.step {s : ByteArray} {q : Rn} {i : Nat} {y : St} {z : List Int} (h : Runs s q i y z) (hs : s.size ≤ 65536) (hi : i < (toksOf s).length) : tokOKP ((toksOf s)[i]) ∧
    (((stepT y ((toksOf s)[i])).c = 0 ∧ Runs s q (i + 1) (stepT y ((toksOf s)[i])).y (addR z (stepT y ((toksOf s)[i])).r)) ∨ ((stepT y ((toksOf s)[i])).c ≠ 0 ∧ q = ⟨y, z, ((toksOf s)[i]).p, (stepT y ((toksOf s)[i])).c⟩)) := by
  obtain ⟨hy, f, k, h1, h2⟩ := h
  rw [List.drop_eq_getElem_cons hi] at h1
  generalize (toksOf s)[i] = t at *
  cases f with
  | zero => simp [toksFrom] at h1
  | succ f =>
    unfold toksFrom at h1
    by_cases hk : k < s.size
    · rw [if_pos hk] at h1
      obtain ⟨e1, e2⟩ := List.cons.inj h1
      have hok := nextTok_ok s k hk (Nat.le_trans hs (by decide))
      have hp := (nextTok_in s k hk).1
      have hn := (nextTok_in s k hk).2.2
      rw [← e1] at hok hp hn
      refine ⟨⟨⟨hok.1.1, by omega, hok.1.2.2.1, by omega⟩, by have := hok.2; omega⟩, ?_⟩
      unfold runT at h2
      rw [if_pos hk, ← e1] at h2
      by_cases hc : (stepT y t).c = 0
      · rw [if_pos hc] at h2
        rw [← e1] at e2
        exact .inl ⟨hc, stepT_ok hy hok, f, _, e2, h2⟩
      · rw [if_neg hc] at h2
        refine .inr ⟨hc, ?_⟩
        rw [h2, hp]
    · rw [if_neg hk] at h1
      cases h1
theorem Runs.stop {s : ByteArray} {q : Rn} {y : St} {z : List Int} (h : Runs s q (toksOf s).length y z) : q.y = y ∧ q.z = z := by
  obtain ⟨_, f, k, h1, h2⟩ := h
  rw [List.drop_length] at h1
  cases f with
  | zero => rw [h2]; exact ⟨rfl, rfl⟩
  | succ f =>
    unfold toksFrom at h1
    by_cases hk : k < s.size
    · rw [if_pos hk] at h1; cases h1
    · unfold runT at h2
      rw [if_neg hk] at h2
      rw [h2]
      exact ⟨rfl, rfl⟩
theorem toksOf_le (s : ByteArray) : (toksOf s).length ≤ s.size := toksFrom_le s s.size 0
theorem tks_all {s : ByteArray} (h : s.size ≤ 4096) : tksC s = 0 ∧ tksT s = toksOf s := by
  have hl := toksOf_le s
  have hc : tksC s = 0 := by
    unfold tksC
    rw [if_neg (by omega), if_neg (by omega)]
  exact ⟨hc, by rw [tksT, if_pos hc]⟩

/-- The registers behind a designation. -/
theorem stGet_put {x : St} {g n i : Int} (g0 : 0 ≤ g) (g3 : g ≤ 3) (i0 : 0 ≤ i) (i3 : i ≤ 3) : stGet (stPut x g n) i = if i = g then n else stGet x i := by
  rcases (show g = 0 ∨ g = 1 ∨ g = 2 ∨ g = 3 by omega) with rfl | rfl | rfl | rfl <;> rcases (show i = 0 ∨ i = 1 ∨ i = 2 ∨ i = 3 by omega) with rfl | rfl | rfl | rfl <;> simp [stGet, stPut]

end Go.Proofs.YtbamjhldebobhaaDoor

namespace Go.Proofs.YtbamjhldebobhaaDoor
open Go.RowKit

/-- The numbers k, k + 1, .. -/
def marks (k : Int) (n : Nat) : List Int := (List.range n).map fun i : Nat => k + (i : Int)
theorem marks_length (k : Int) (n : Nat) : (marks k n).length = n := by simp [marks]
theorem marks_at (k : Int) (n i : Nat) (h : i < n) : (marks k n).getD i 0 = k + i := by
  simp [marks, List.getD, h]

/-- Behind j steps: j marks, then what was there. -/
def markTo (zs : List Int) (k : Int) (j : Nat) : List Int := marks k j ++ zs.drop j
theorem markTo_zero (zs : List Int) (k : Int) : markTo zs k 0 = zs := by simp [markTo, marks]
theorem markTo_length (zs : List Int) (k : Int) (j : Nat) (h : j ≤ zs.length) : (markTo zs k j).length = zs.length := by simp [markTo, marks_length]; omega
theorem markTo_succ (zs : List Int) (k : Int) (j : Nat) (h : j < zs.length) : (markTo zs k j).set j (k + j) = markTo zs k (j + 1) := by
  unfold markTo
  have hl : (marks k j).length = j := marks_length k j
  have e : marks k (j + 1) = marks k j ++ [k + (j : Int)] := by simp [marks, List.range_succ]
  rw [List.set_append_right _ _ (by omega), hl, Nat.sub_self, List.drop_eq_getElem_cons h, e, List.set_cons_zero, List.append_assoc]
  rfl
theorem markTo_full (zs : List Int) (k : Int) : markTo zs k zs.length = marks k zs.length := by simp [markTo]

end Go.Proofs.YtbamjhldebobhaaDoor

namespace Go.Proofs.YtbamjhldebobhaaDoor
open Go.RowKit

/-- The slice v reads as the tokens ts. -/
def TkAt (w : World) (v : Value) (ts : List Tok) : Prop :=
  (ts = [] ∧ ∃ a c, v = .slice a 0 c) ∨ ∃ g off c, v = .slice (some ⟨g, off, none⟩) ts.length c ∧ ∀ i (h : i < ts.length),
    w.cell? ⟨g, off + i * 6, none⟩ = some (.int .i64 (ts[i]).k) ∧ w.cell? ⟨g, off + i * 6 + 1, none⟩ = some (.int .i64 (ts[i]).a) ∧ w.cell? ⟨g, off + i * 6 + 2, none⟩ = some (.int .i64 (ts[i]).b) ∧
    w.cell? ⟨g, off + i * 6 + 3, none⟩ = some (.int .i64 (ts[i]).c) ∧ w.cell? ⟨g, off + i * 6 + 4, none⟩ = some (.int .i64 (ts[i]).p) ∧ w.cell? ⟨g, off + i * 6 + 5, none⟩ = some (.int .i64 (ts[i]).n)
theorem TkAt.keep {w w' : World} {v : Value} {ts : List Tok} (h : TkAt w v ts) (hb : Below w.heap.size w w') : TkAt w' v ts := by
  rcases h with h | ⟨g, off, c, rfl, hc⟩
  · exact .inl h
  · refine .inr ⟨g, off, c, rfl, fun i hi => ?_⟩
    have ⟨h1, h2, h3, h4, h5, h6⟩ := hc i hi
    have k : ∀ {p : Addr} {x : Value}, w.cell? p = some x → w'.cell? p = some x := fun hx => by rw [hb.cell (World.block_lt_of_cell? w _ hx)]; exact hx
    exact ⟨k h1, k h2, k h3, k h4, k h5, k h6⟩
theorem TkAt.form {w : World} {v : Value} {ts : List Tok} (h : TkAt w v ts) : ∃ a c, v = .slice a ts.length c := by
  rcases h with ⟨rfl, a, c, rfl⟩ | ⟨g, off, c, rfl, _⟩
  · exact ⟨_, _, rfl⟩
  · exact ⟨_, _, rfl⟩
theorem tkZ_at (ts : List Tok) : ∀ i (h : i < ts.length), (tkZ ts).getD (i * 6) 0 = (ts[i]).k ∧ (tkZ ts).getD (i * 6 + 1) 0 = (ts[i]).a ∧ (tkZ ts).getD (i * 6 + 2) 0 = (ts[i]).b ∧ (tkZ ts).getD (i * 6 + 3) 0 = (ts[i]).c ∧ (tkZ ts).getD (i * 6 + 4) 0 = (ts[i]).p ∧ (tkZ ts).getD (i * 6 + 5) 0 = (ts[i]).n := by
  induction ts with
  | nil => intro i h; simp at h
  | cons s t ih =>
    intro i h
    have hc : tkZ (s :: t) = s.k :: s.a :: s.b :: s.c :: s.p :: s.n :: tkZ t := by simp [tkZ]
    rw [hc]
    cases i with
    | zero => exact ⟨rfl, rfl, rfl, rfl, rfl, rfl⟩
    | succ i =>
      have := ih i (by simpa using h)
      rw [show (i + 1) * 6 = i * 6 + 6 by omega]
      simpa [List.getD] using this
theorem OwnK.shape {w : World} {B n : Nat} {v : Value} {zs : List Int} (h : OwnK w B v n zs) : ∃ a cap, v = .slice a n cap ∧ (a = none → n = 0) ∧ ∀ x, a = some x → x.off = 0 ∧ x.spot = none ∧ B ≤ x.block := by
  rcases h.2 with ⟨hv, h0⟩ | ⟨g, cap, cur, a, b, c, d, e', f⟩
  · exact ⟨none, 0, by rw [hv, h0], fun _ => h0, by intro x hx; cases hx⟩
  · exact ⟨_, cap, a, (fun hx => by cases hx), (fun x hx => by cases hx; exact ⟨rfl, rfl, b⟩)⟩
theorem OwnK.length {w : World} {B n : Nat} {v : Value} {zs : List Int} (h : OwnK w B v n zs) : zs.length = n * 6 := by
  have := h.1
  simpa using this
theorem OwnK.cell {w : World} {B g cap n m : Nat} {zs : List Int} (h : OwnK w B (.slice (some ⟨g, 0, none⟩) m cap) n zs) (j : Nat) (hj : j < zs.length) : w.cell? ⟨g, j, none⟩ = some (.int .i64 (zs.getD j 0)) := by
  have h2 := World.ownsRow.cells h (g := g) rfl j (.int .i64 (zs.getD j 0)) (by simp [List.getElem?_eq_getElem hj, List.getD])
  rw [add_off, Nat.zero_add] at h2; exact h2
theorem OwnK.store {w : World} {B g n cap : Nat} {zs : List Int} (h : OwnK w B (.slice (some ⟨g, 0, none⟩) n cap) n zs) (j : Nat) (u : Int) :
    OwnK (w.setCell ⟨g, j, none⟩ (.int .i64 u)) B (.slice (some ⟨g, 0, none⟩) n cap) n (zs.set j u) := by
  have := (World.ownsRow.stored h j (.int .i64 u)).1
  unfold OwnK
  rw [List.map_set]
  exact this
theorem OwnK.frozen {w : World} {B g n cap : Nat} {zs : List Int} (h : OwnK w B (.slice (some ⟨g, 0, none⟩) n cap) n zs) (j : Nat) : w.frozen? ⟨g, j, none⟩ = false := World.ownsRow.frozenAt h j
theorem OwnK.tkAt {w : World} {B : Nat} {v : Value} {ts : List Tok} (h : OwnK w B v ts.length (tkZ ts)) : TkAt w v ts := by
  obtain ⟨a, c, rfl, h3, h4⟩ := h.shape
  cases a with
  | none => exact .inl ⟨List.length_eq_zero_iff.1 (h3 rfl), none, c, by rw [h3 rfl]⟩
  | some x =>
    obtain ⟨g, off, spot⟩ := x
    obtain ⟨rfl, rfl, _⟩ := h4 _ rfl
    refine .inr ⟨g, 0, c, rfl, fun i hi => ?_⟩
    have ⟨e0, e1, e2, e3, e4, e5⟩ := tkZ_at ts i hi
    have hl := tkZ_length ts
    have c0 := h.cell (i * 6) (by omega)
    have c1 := h.cell (i * 6 + 1) (by omega)
    have c2 := h.cell (i * 6 + 2) (by omega)
    have c3 := h.cell (i * 6 + 3) (by omega)
    have c4 := h.cell (i * 6 + 4) (by omega)
    have c5 := h.cell (i * 6 + 5) (by omega)
    rw [e0] at c0
    rw [e1] at c1
    rw [e2] at c2
    rw [e3] at c3
    rw [e4] at c4
    rw [e5] at c5
    simp only [Nat.zero_add]
    exact ⟨c0, c1, c2, c3, c4, c5⟩

theorem grownBy_refl' (w : World) (row : Option Nat) : w.grownBy w row := ⟨rfl, rfl, rfl, Nat.le_refl _, fun _ _ _ => rfl⟩
theorem grownBy_setCell' (w : World) (g off : Nat) (u : Value) : w.grownBy (w.setCell ⟨g, off, none⟩ u) (some g) :=
  have b := (Below.refl 0 w).setCell (p := ⟨g, off, none⟩) (Nat.zero_le _) u
  ⟨b.os, b.tape, b.output, b.size, fun i _ hi => Below.heap_setCell _ _ _ _ (fun e => hi (by rw [e]))⟩
theorem markTo_succ6 (zs : List Int) (k : Int) (j : Nat) (h : j + 5 < zs.length) : ((((((markTo zs k j).set j (k + j)).set (j + 1) (k + j + 1)).set (j + 2) (k + j + 1 + 1)).set (j + 3) (k + j + 1 + 1 + 1)).set (j + 4) (k + j + 1 + 1 + 1 + 1)).set (j + 5) (k + j + 1 + 1 + 1 + 1 + 1) = markTo zs k (j + 6) := by
  rw [markTo_succ zs k j (by omega)]
  have e1 : k + (j : Int) + 1 = k + ((j + 1 : Nat) : Int) := by omega
  have e2 : k + (j : Int) + 1 + 1 = k + ((j + 2 : Nat) : Int) := by omega
  have e3 : k + (j : Int) + 1 + 1 + 1 = k + ((j + 3 : Nat) : Int) := by omega
  have e4 : k + (j : Int) + 1 + 1 + 1 + 1 = k + ((j + 4 : Nat) : Int) := by omega
  have e5 : k + (j : Int) + 1 + 1 + 1 + 1 + 1 = k + ((j + 5 : Nat) : Int) := by omega
  rw [e5, e4, e3, e2, e1, markTo_succ zs k (j + 1) (by omega), markTo_succ zs k (j + 2) (by omega), markTo_succ zs k (j + 3) (by omega), markTo_succ zs k (j + 4) (by omega), markTo_succ zs k (j + 5) (by omega)]

theorem OwnK.cells {w : World} {B n : Nat} {v : Value} {k : Int} (h : OwnK w B v n (marks k (n * 6))) : (n = 0 ∧ ∃ a c, v = .slice a 0 c) ∨ ∃ g c, v = .slice (some ⟨g, 0, none⟩) n c ∧ ∀ j, j < n * 6 → w.cell? ⟨g, j, none⟩ = some (.int .i64 (k + (j : Int))) := by
  obtain ⟨a, c, rfl, h3, h4⟩ := h.shape
  cases a with
  | none => obtain rfl := h3 rfl; exact .inl ⟨rfl, _, _, rfl⟩
  | some x =>
    obtain ⟨g, off, spot⟩ := x
    obtain ⟨rfl, rfl, hB⟩ := h4 _ rfl
    refine .inr ⟨g, c, rfl, fun j hj => ?_⟩
    have := h.cell j (by rw [marks_length]; exact hj)
    rw [marks_at _ _ _ hj] at this
    exact this

end Go.Proofs.YtbamjhldebobhaaDoor

namespace Go.Proofs.YtbamjhldebobhaaDoor
open Go Go.RowKit

variable {P : Program} {ops : Array Oper} {Q : Exit → Act → World → Prop} {md : Region.Mode} {S : World → Prop}

/-- The one operation that may come up comes up. -/
theorem wpAnyH_one {i : Nat} {o : Oper} {fuel : Nat} {listed : Array Bool} {a : Act} {w : World} (hr : Region.ready md ops listed = [i]) (ho : ops[i]? = some o)
    (h : ∀ K' : Act → World → Prop, Shut (∀ a w, S w → (S w → wpAnyH P md ops Q S fuel (listed.setIfInBounds i true) a w) → K' a w) → if Region.wanted o (yielded ops a.tmps) = true then Oper.wp P o a w K' Q else K' (a.put o.dst undef) w) :
    wpAnyH P md ops Q S (fuel + 1) listed a w :=
  ⟨fun h0 => (by rw [hr] at h0; cases h0), fun j hj => (by
    rw [hr] at hj
    obtain rfl : j = i := by simpa using hj
    exact wpOp_step ho (fun K' hK => h K' (fun a w hS hW => hK a w ⟨hS, hW hS⟩)))⟩
theorem region_held_w {id : Nat} {a : Act} {w : World} (w2 : World) (hw : { w with drawn := w.drawn + 1 } = w2) (hm : P.follows .mixedOrders = true)
    (h : wpAnyH P .any ops Q S ops.size (Array.replicate ops.size false) a w2) : (Code.region id ops true).wp P Q a w := by
  subst hw
  exact wp_region_held hm h

end Go.Proofs.YtbamjhldebobhaaDoor

namespace Go.Proofs.YtbamjhldebobhaaDoor
open Go.RowKit

theorem st_ret2 {P : Program} {fn : Func} {p u : Tmp} {a : Act} {w1 : World} {g : Nat} {t ty : TypeId} {fr : Nat × Nat} {d : TypeDesc} {y : St} {c : Int} {Q : Ending → World → Prop} (h : fn.results = #[.cell p ty, .tmp u])
    (hp : a.tmps.getD p undef = .pointer (some ⟨g, 0, none⟩)) (hc : a.tmps.getD u undef = .int .i64 c) (hg : w1.heap[g]? = some (.cells #[.int .i64 y.g0, .int .i64 y.g1, .int .i64 y.g2, .int .i64 y.g3, .int .i64 y.l, .int .i64 y.s, .int .i64 y.d] t fr))
    (hu : P.underlying ty = some d) (hd : (match d with | .struct _ | .array _ _ => true | _ => false) = true) (hi : (P.info? ty).map (·.size) = some 7) (hdef : a.defers = []) (hQ : Q (.returned (.tuple #[stV y, .int .i64 c])) w1) :
    bodyPost P fn Q .ret a w1 :=
  bodyPost_ret (results_row_tmp' h _ _ g _ _ _ _ hp hg hu hd hi) hdef (by rw [hc]; exact hQ)

/-- NameSet: the code and the state. -/
def nsC (x : St) (g n : Int) : Int := if stOKB x = true then (if eoC g n = 0 then (if pendB x = true then 13 else 0) else eoC g n) else 1
def nsX (x : St) (g n : Int) : St := if nsC x g n = 0 then stPut x g n else if nsC x g n = 13 then x else zeroSt
def NsDone (x : St) (g n : Int) (w : World) (e : Ending) (w' : World) : Prop := e = .returned (.tuple #[stV (nsX x g n), .int .i64 (nsC x g n)]) ∧ Below w.heap.size w w'
theorem eoC_vals (g n : Int) : eoC g n = 0 ∨ eoC g n = 4 ∨ eoC g n = 5 := by
  unfold eoC
  repeat' split
  all_goals simp
theorem eoC_in {g n : Int} (h : eoC g n = 0) : 0 ≤ g ∧ g ≤ 3 := by
  unfold eoC at h
  split at h
  · split at h
    · next h1 => exact inB_true h1.1
    · cases h
  · cases h

set_option maxHeartbeats 2000000 in
set_option maxRecDepth 100000 in
theorem spec_NameSet (x : St) (g n : Int) (w : World) : Calls Tryd.prog 17 #[stV x, .int .i64 g, .int .i64 n] w (NsDone x g n w) := by
  have HO := Lib.hid (spec_l04OK x)
  have HP := Lib.hid (spec_l04Pending x)
  have HPut := Lib.hid (fun w h0 h3 => spec_l04Put x g n w h0 h3)
  have B0 := below_two w (.cells #[.int .i64 x.g0, .int .i64 x.g1, .int .i64 x.g2, .int .i64 x.g3, .int .i64 x.l, .int .i64 x.s, .int .i64 x.d] 24) (.cells #[.int .i64 0, .int .i64 0, .int .i64 0, .int .i64 0, .int .i64 0, .int .i64 0, .int .i64 0] 24)
  have HB0 : Hid (StAt ((w.alloc (.cells #[.int .i64 x.g0, .int .i64 x.g1, .int .i64 x.g2, .int .i64 x.g3, .int .i64 x.l, .int .i64 x.s, .int .i64 x.d] 24)).alloc (.cells #[.int .i64 0, .int .i64 0, .int .i64 0, .int .i64 0, .int .i64 0, .int .i64 0, .int .i64 0] 24)) w.heap.size x) := Lib.hid (heap_alloc2_old _ _ _)
  have HS0 : Hid (StAt ((w.alloc (.cells #[.int .i64 x.g0, .int .i64 x.g1, .int .i64 x.g2, .int .i64 x.g3, .int .i64 x.l, .int .i64 x.s, .int .i64 x.d] 24)).alloc (.cells #[.int .i64 0, .int .i64 0, .int .i64 0, .int .i64 0, .int .i64 0, .int .i64 0, .int .i64 0] 24)) (w.heap.size + 1) zeroSt) := Lib.hid (heap_alloc2_new _ _ _)
  unfold stV at HO HP HPut ⊢
  unfold StDone at HPut
  cases ho : stOKB x
  · have HC : Hid (nsC x g n = 1) := Lib.hid (by simp [nsC, ho])
    have HE : Hid (nsX x g n = zeroSt) := Lib.hid (by simp [nsX, HC.out])
    rw [ho] at HO
    go_enter Tryd.func17, Tryd.ntmps17
    go_wp2_with fail
    refine (HO.out _).mono ?_
    generalize ((w.alloc (.cells #[.int .i64 x.g0, .int .i64 x.g1, .int .i64 x.g2, .int .i64 x.g3, .int .i64 x.l, .int .i64 x.s, .int .i64 x.d] 24)).alloc (.cells #[.int .i64 0, .int .i64 0, .int .i64 0, .int .i64 0, .int .i64 0, .int .i64 0, .int .i64 0] 24)) = W0 at *
    rintro e w1 ⟨rfl, b1⟩
    have B1 : Below w.heap.size w w1 := B0.trans (b1.mono B0.size)
    have hB := (HB0.out.keep b1)
    have hS := Lib.hid (HS0.out.keep b1)
    have ⟨y0, y1, y2, y3, y4, y5, y6⟩ := hB.cells
    have ⟨r0, r1, r2, r3, r4, r5, r6⟩ := hS.out.cells
    have ⟨z0, z1, z2, z3, z4, z5, z6⟩ := hS.out.thaw
    simp only [zeroSt] at r0 r1 r2 r3 r4 r5 r6
    have hl : w.heap.size + 1 < w1.heap.size := hS.out.lt
    clear hB
    clear b1 y0 y1 y2 y3 y4 y5 y6
    go_wp2
    exact st_ret2 (y := zeroSt) rfl rfl rfl (hS.out.put zeroSt) Tryd.underlying24 rfl (by kernel_rfl) rfl ⟨by rw [HC.out, HE.out], below_putSt B1 (Nat.le_succ _) zeroSt⟩
  rw [ho] at HO
  have HEO := Lib.hid (fun w => spec_EscapeOf g n w)
  unfold eoV at HEO
  generalize eoT g n = et at *
  by_cases he : eoC g n = 0
  · have ⟨g0, g3⟩ := eoC_in he
    rw [he] at HEO
    cases hp : pendB x
    · have HC : Hid (nsC x g n = 0) := Lib.hid (by simp [nsC, ho, he, hp])
      have HE : Hid (nsX x g n = stPut x g n) := Lib.hid (by simp [nsX, HC.out])
      rw [hp] at HP
      go_enter Tryd.func17, Tryd.ntmps17
      go_wp2_with fail
      refine (HO.out _).mono ?_
      generalize ((w.alloc (.cells #[.int .i64 x.g0, .int .i64 x.g1, .int .i64 x.g2, .int .i64 x.g3, .int .i64 x.l, .int .i64 x.s, .int .i64 x.d] 24)).alloc (.cells #[.int .i64 0, .int .i64 0, .int .i64 0, .int .i64 0, .int .i64 0, .int .i64 0, .int .i64 0] 24)) = W0 at *
      rintro e w1 ⟨rfl, b1⟩
      have B1 : Below w.heap.size w w1 := B0.trans (b1.mono B0.size)
      have HB1 := Lib.hid (HB0.out.keep b1)
      have HS1 := Lib.hid (HS0.out.keep b1)
      clear b1 HB0 HS0 B0
      go_wp2_with fail
      refine (HEO.out _).mono ?_
      rintro e w2 ⟨rfl, b2⟩
      have B2 : Below w.heap.size w w2 := B1.trans (b2.mono B1.size)
      have HB2 := Lib.hid (HB1.out.keep b2)
      have HS2 := Lib.hid (HS1.out.keep b2)
      have ⟨y0, y1, y2, y3, y4, y5, y6⟩ := HB2.out.cells
      clear b2 HB1 HS1 B1
      go_wp2_with fail
      refine (HP.out _).mono ?_
      clear y0 y1 y2 y3 y4 y5 y6
      rintro e w3 ⟨rfl, b3⟩
      have B3 : Below w.heap.size w w3 := B2.trans (b3.mono B2.size)
      have HB3 := Lib.hid (HB2.out.keep b3)
      have HS3 := Lib.hid (HS2.out.keep b3)
      have ⟨y0, y1, y2, y3, y4, y5, y6⟩ := HB3.out.cells
      clear b3 HB2 HS2 B2
      go_wp2_with fail
      refine (HPut.out _ g0 g3).mono ?_
      clear y0 y1 y2 y3 y4 y5 y6
      rintro e w4 ⟨rfl, b4⟩
      have B4 : Below w.heap.size w w4 := B3.trans (b4.mono B3.size)
      have hS := Lib.hid (HS3.out.keep b4)
      have ⟨r0, r1, r2, r3, r4, r5, r6⟩ := hS.out.cells
      have ⟨z0, z1, z2, z3, z4, z5, z6⟩ := hS.out.thaw
      simp only [zeroSt] at r0 r1 r2 r3 r4 r5 r6
      have hl : w.heap.size + 1 < w4.heap.size := hS.out.lt
      clear b4 HB3 HS3 B3
      generalize stPut x g n = y at *
      unfold stV
      go_wp2
      exact st_ret2 (y := y) rfl rfl rfl (hS.out.put y) Tryd.underlying24 rfl (by kernel_rfl) rfl ⟨by rw [HC.out, HE.out], below_putSt B4 (Nat.le_succ _) y⟩
    · have HC : Hid (nsC x g n = 13) := Lib.hid (by simp [nsC, ho, he, hp])
      have HE : Hid (nsX x g n = x) := Lib.hid (by simp [nsX, HC.out])
      rw [hp] at HP
      go_enter Tryd.func17, Tryd.ntmps17
      go_wp2_with fail
      refine (HO.out _).mono ?_
      generalize ((w.alloc (.cells #[.int .i64 x.g0, .int .i64 x.g1, .int .i64 x.g2, .int .i64 x.g3, .int .i64 x.l, .int .i64 x.s, .int .i64 x.d] 24)).alloc (.cells #[.int .i64 0, .int .i64 0, .int .i64 0, .int .i64 0, .int .i64 0, .int .i64 0, .int .i64 0] 24)) = W0 at *
      rintro e w1 ⟨rfl, b1⟩
      have B1 : Below w.heap.size w w1 := B0.trans (b1.mono B0.size)
      have HB1 := Lib.hid (HB0.out.keep b1)
      have HS1 := Lib.hid (HS0.out.keep b1)
      clear b1 HB0 HS0 B0
      go_wp2_with fail
      refine (HEO.out _).mono ?_
      rintro e w2 ⟨rfl, b2⟩
      have B2 : Below w.heap.size w w2 := B1.trans (b2.mono B1.size)
      have HB2 := Lib.hid (HB1.out.keep b2)
      have HS2 := Lib.hid (HS1.out.keep b2)
      have ⟨y0, y1, y2, y3, y4, y5, y6⟩ := HB2.out.cells
      clear b2 HB1 HS1 B1
      go_wp2_with fail
      refine (HP.out _).mono ?_
      clear y0 y1 y2 y3 y4 y5 y6
      rintro e w3 ⟨rfl, b3⟩
      have B3 : Below w.heap.size w w3 := B2.trans (b3.mono B2.size)
      have HB3 := Lib.hid (HB2.out.keep b3)
      have hS := Lib.hid (HS2.out.keep b3)
      have ⟨y0, y1, y2, y3, y4, y5, y6⟩ := HB3.out.cells
      have ⟨r0, r1, r2, r3, r4, r5, r6⟩ := hS.out.cells
      have ⟨z0, z1, z2, z3, z4, z5, z6⟩ := hS.out.thaw
      simp only [zeroSt] at r0 r1 r2 r3 r4 r5 r6
      have hl : w.heap.size + 1 < w3.heap.size := hS.out.lt
      clear b3 HB2 HS2 B2
      go_wp2
      exact st_ret2 (y := x) rfl rfl rfl (hS.out.put x) Tryd.underlying24 rfl (by kernel_rfl) rfl ⟨by rw [HC.out, HE.out], below_putSt B3 (Nat.le_succ _) x⟩
  · have HC : Hid (nsC x g n = eoC g n) := Lib.hid (by simp [nsC, ho, he])
    have HE : Hid (nsX x g n = zeroSt) := Lib.hid (by
      rw [nsX, HC.out, if_neg he, if_neg (by have := eoC_vals g n; omega)])
    generalize eoC g n = c at *
    have ec : (c != 0) = true := by simpa using he
    clear he
    go_enter Tryd.func17, Tryd.ntmps17
    go_wp2_with fail
    refine (HO.out _).mono ?_
    generalize ((w.alloc (.cells #[.int .i64 x.g0, .int .i64 x.g1, .int .i64 x.g2, .int .i64 x.g3, .int .i64 x.l, .int .i64 x.s, .int .i64 x.d] 24)).alloc (.cells #[.int .i64 0, .int .i64 0, .int .i64 0, .int .i64 0, .int .i64 0, .int .i64 0, .int .i64 0] 24)) = W0 at *
    rintro e w1 ⟨rfl, b1⟩
    have B1 : Below w.heap.size w w1 := B0.trans (b1.mono B0.size)
    have HS1 := Lib.hid (HS0.out.keep b1)
    clear b1 HB0 HS0 B0
    go_wp2_with fail
    refine (HEO.out _).mono ?_
    rintro e w2 ⟨rfl, b2⟩
    have B2 : Below w.heap.size w w2 := B1.trans (b2.mono B1.size)
    have hS := Lib.hid (HS1.out.keep b2)
    have ⟨r0, r1, r2, r3, r4, r5, r6⟩ := hS.out.cells
    have ⟨z0, z1, z2, z3, z4, z5, z6⟩ := hS.out.thaw
    simp only [zeroSt] at r0 r1 r2 r3 r4 r5 r6
    have hl : w.heap.size + 1 < w2.heap.size := hS.out.lt
    clear b2 HS1 B1
    go_wp2
    exact st_ret2 (y := zeroSt) rfl rfl rfl (hS.out.put zeroSt) Tryd.underlying24 rfl (by kernel_rfl) rfl ⟨by rw [HC.out, HE.out], below_putSt B2 (Nat.le_succ _) zeroSt⟩

end Go.Proofs.YtbamjhldebobhaaDoor

namespace Go.Proofs.YtbamjhldebobhaaDoor
open Go.RowKit Go.Sort

set_option maxHeartbeats 2000000 in
set_option maxRecDepth 100000 in
theorem impl_NameSet (x : St) (g n : Int) (w : World) (ht : TabM w) (hw : Wide64 x) : Calls Tryd.prog 16 #[stV x, .int .i64 g, .int .i64 n] w (NsDone x g n w) := by
  have HF := Lib.hid (fun w => impl_machineOf x w)
  have HO := Lib.hid (fun b w h ht => impl_ok x b w h ht hw.1 hw.2)
  have HT := Lib.hid ht
  have HP := Lib.hid (fun b w h => impl_pending x b w h)
  have HEO := Lib.hid (fun w ht => impl_EscapeOf g n w ht)
  have HST := Lib.hid (fun y b w h => impl_state y b w h)
  have B0 := Lib.hid (below_two w (.cells #[.int .i64 x.g0, .int .i64 x.g1, .int .i64 x.g2, .int .i64 x.g3, .int .i64 x.l, .int .i64 x.s, .int .i64 x.d] 24) (.cells #[.int .i64 0, .int .i64 0, .int .i64 0, .int .i64 0, .int .i64 0, .int .i64 0, .int .i64 0] 24))
  have HB0 : Hid (StAt ((w.alloc (.cells #[.int .i64 x.g0, .int .i64 x.g1, .int .i64 x.g2, .int .i64 x.g3, .int .i64 x.l, .int .i64 x.s, .int .i64 x.d] 24)).alloc (.cells #[.int .i64 0, .int .i64 0, .int .i64 0, .int .i64 0, .int .i64 0, .int .i64 0, .int .i64 0] 24)) w.heap.size x) := Lib.hid (heap_alloc2_old _ _ _)
  have HS0 : Hid (StAt ((w.alloc (.cells #[.int .i64 x.g0, .int .i64 x.g1, .int .i64 x.g2, .int .i64 x.g3, .int .i64 x.l, .int .i64 x.s, .int .i64 x.d] 24)).alloc (.cells #[.int .i64 0, .int .i64 0, .int .i64 0, .int .i64 0, .int .i64 0, .int .i64 0, .int .i64 0] 24)) (w.heap.size + 1) zeroSt) := Lib.hid (heap_alloc2_new _ _ _)
  clear ht hw
  unfold StDone stV at HF HST
  unfold stV
  cases ho : stOKB x
  · have HC : Hid (nsC x g n = 1) := Lib.hid (by simp [nsC, ho])
    have HE : Hid (nsX x g n = zeroSt) := Lib.hid (by simp [nsX, HC.out])
    rw [ho] at HO
    go_enter Tryd.func16, Tryd.ntmps16
    go_wp2_with fail
    refine (HF.out _).mono ?_
    generalize (w.alloc (.cells #[.int .i64 x.g0, .int .i64 x.g1, .int .i64 x.g2, .int .i64 x.g3, .int .i64 x.l, .int .i64 x.s, .int .i64 x.d] 24)).alloc (.cells #[.int .i64 0, .int .i64 0, .int .i64 0, .int .i64 0, .int .i64 0, .int .i64 0, .int .i64 0] 24) = W0 at *
    rintro e w1 ⟨rfl, b1⟩
    have B1 : Hid (Below w.heap.size w w1) := Lib.hid (B0.out.trans (b1.mono B0.out.size))
    have HB1 := Lib.hid ((HB0.out.keep b1).keep (below_one w1 (.cells #[.int .i64 x.g0, .int .i64 x.g1, .int .i64 x.g2, .int .i64 x.g3, .int .i64 x.l, .int .i64 x.s, .int .i64 x.d] 52)))
    have HS1 := Lib.hid ((HS0.out.keep b1).keep (below_one w1 (.cells #[.int .i64 x.g0, .int .i64 x.g1, .int .i64 x.g2, .int .i64 x.g3, .int .i64 x.l, .int .i64 x.s, .int .i64 x.d] 52)))
    have B2 : Hid (Below w.heap.size w (w1.alloc (.cells #[.int .i64 x.g0, .int .i64 x.g1, .int .i64 x.g2, .int .i64 x.g3, .int .i64 x.l, .int .i64 x.s, .int .i64 x.d] 52))) := Lib.hid (B1.out.alloc B1.out.size _)
    have HM := Lib.hid (MAt.new w1 x)
    have HT2 := Lib.hid (HT.out.keep B2.out)
    have hw1 : w.heap.size + 1 < w1.heap.size := (HS0.out.keep b1).lt
    clear b1 HB0 HS0
    go_wp2_with fail
    refine (HO.out w1.heap.size _ HM.out HT2.out).mono ?_
    generalize w1.alloc (.cells #[.int .i64 x.g0, .int .i64 x.g1, .int .i64 x.g2, .int .i64 x.g3, .int .i64 x.l, .int .i64 x.s, .int .i64 x.d] 52) = W1 at *
    rintro e W2 ⟨rfl, b2⟩
    have B3 : Hid (Below w.heap.size w W2) := Lib.hid (B2.out.trans (b2.mono B2.out.size))
    have HB3 := Lib.hid (HB1.out.keep b2)
    have HS3 := Lib.hid (HS1.out.keep b2)
    have HM3 := Lib.hid (HM.out.keep b2)
    have HT3 := Lib.hid (HT2.out.keep b2)
    have hb3 : w1.heap.size < W2.heap.size := HM3.out.lt
    clear b2 B2 HM HT2 HB1 HS1
    have ⟨r0, r1, r2, r3, r4, r5, r6⟩ := HS3.out.cells
    have ⟨z0, z1, z2, z3, z4, z5, z6⟩ := HS3.out.thaw
    simp only [zeroSt] at r0 r1 r2 r3 r4 r5 r6
    have hl : w.heap.size + 1 < W2.heap.size := HS3.out.lt
    go_wp2
    exact st_ret2 (y := zeroSt) rfl rfl rfl (HS3.out.put zeroSt) Tryd.underlying24 rfl (by kernel_rfl) rfl ⟨by rw [HC.out, HE.out], below_putSt B3.out (Nat.le_succ _) zeroSt⟩
  rw [ho] at HO
  unfold eoV at HEO
  generalize eoT g n = et at *
  by_cases he : eoC g n = 0
  · have ⟨g0, g3⟩ := eoC_in he
    rw [he] at HEO
    cases hp : pendI x
    · have HC : Hid (nsC x g n = 0) := Lib.hid (by rw [pend_eq ho] at hp; simp [nsC, ho, he, hp])
      have HE : Hid (nsX x g n = stPut x g n) := Lib.hid (by simp [nsX, HC.out])
      rw [hp] at HP
      clear hp he
      go_enter Tryd.func16, Tryd.ntmps16
      go_wp2_with fail
      refine (HF.out _).mono ?_
      generalize (w.alloc (.cells #[.int .i64 x.g0, .int .i64 x.g1, .int .i64 x.g2, .int .i64 x.g3, .int .i64 x.l, .int .i64 x.s, .int .i64 x.d] 24)).alloc (.cells #[.int .i64 0, .int .i64 0, .int .i64 0, .int .i64 0, .int .i64 0, .int .i64 0, .int .i64 0] 24) = W0 at *
      rintro e w1 ⟨rfl, b1⟩
      have B1 : Hid (Below w.heap.size w w1) := Lib.hid (B0.out.trans (b1.mono B0.out.size))
      have HB1 := Lib.hid ((HB0.out.keep b1).keep (below_one w1 (.cells #[.int .i64 x.g0, .int .i64 x.g1, .int .i64 x.g2, .int .i64 x.g3, .int .i64 x.l, .int .i64 x.s, .int .i64 x.d] 52)))
      have HS1 := Lib.hid ((HS0.out.keep b1).keep (below_one w1 (.cells #[.int .i64 x.g0, .int .i64 x.g1, .int .i64 x.g2, .int .i64 x.g3, .int .i64 x.l, .int .i64 x.s, .int .i64 x.d] 52)))
      have B2 : Hid (Below w.heap.size w (w1.alloc (.cells #[.int .i64 x.g0, .int .i64 x.g1, .int .i64 x.g2, .int .i64 x.g3, .int .i64 x.l, .int .i64 x.s, .int .i64 x.d] 52))) := Lib.hid (B1.out.alloc B1.out.size _)
      have HM := Lib.hid (MAt.new w1 x)
      have HT2 := Lib.hid (HT.out.keep B2.out)
      have hw1 : w.heap.size + 1 < w1.heap.size := (HS0.out.keep b1).lt
      clear b1 HB0 HS0
      go_wp2_with fail
      refine (HO.out w1.heap.size _ HM.out HT2.out).mono ?_
      generalize w1.alloc (.cells #[.int .i64 x.g0, .int .i64 x.g1, .int .i64 x.g2, .int .i64 x.g3, .int .i64 x.l, .int .i64 x.s, .int .i64 x.d] 52) = W1 at *
      rintro e W2 ⟨rfl, b2⟩
      have B3 : Hid (Below w.heap.size w W2) := Lib.hid (B2.out.trans (b2.mono B2.out.size))
      have HB3 := Lib.hid (HB1.out.keep b2)
      have HS3 := Lib.hid (HS1.out.keep b2)
      have HM3 := Lib.hid (HM.out.keep b2)
      have HT3 := Lib.hid (HT2.out.keep b2)
      have hb3 : w1.heap.size < W2.heap.size := HM3.out.lt
      clear b2 B2 HM HT2 HB1 HS1
      go_wp2_with fail
      refine (HEO.out _ HT3.out.1).mono ?_
      rintro e W4 ⟨rfl, b4⟩
      have B4 : Hid (Below w.heap.size w W4) := Lib.hid (B3.out.trans (b4.mono B3.out.size))
      have HB4 := Lib.hid (HB3.out.keep b4)
      have HS4 := Lib.hid (HS3.out.keep b4)
      have HM4 := Lib.hid (HM3.out.keep b4)
      clear b4 B3 HB3 HS3 HM3 HT3 hb3
      go_wp2_with fail
      refine (HP.out _ _ HM4.out).mono ?_
      rintro e W5 ⟨rfl, rfl⟩
      have ⟨y0, y1, y2, y3, y4, y5, y6⟩ := HM4.out.cells
      have ⟨q0, q1, q2, q3, q4, q5, q6⟩ := HM4.out.thaw
      have hl6 : w1.heap.size < W4.heap.size := HM4.out.lt
      have : g = 0 ∨ g = 1 ∨ g = 2 ∨ g = 3 := by omega
      clear g0 g3
      rcases this with rfl | rfl | rfl | rfl
      · have HP2 : Hid (stPut x 0 n = ⟨n, x.g1, x.g2, x.g3, x.l, x.s, x.d⟩) := Lib.hid rfl
        have HM5 : Hid (MAt (W4.setCell ⟨w1.heap.size, 0, none⟩ (.int .i64 n)) w1.heap.size ⟨n, x.g1, x.g2, x.g3, x.l, x.s, x.d⟩) := Lib.hid (heap_setCell_same _ _ 0 _ _ (.int .i64 n) HM4.out)
        have HS5 : Hid (StAt (W4.setCell ⟨w1.heap.size, 0, none⟩ (.int .i64 n)) (w.heap.size + 1) zeroSt) := Lib.hid (by
          unfold StAt
          rw [Below.heap_setCell _ _ _ _ (by simp; omega)]
          exact HS4.out)
        have B5 : Hid (Below w.heap.size w (W4.setCell ⟨w1.heap.size, 0, none⟩ (.int .i64 n))) := Lib.hid (B4.out.setCell (show w.heap.size ≤ w1.heap.size by omega) _)
        go_wp2_with fail
        refine (HST.out ⟨n, x.g1, x.g2, x.g3, x.l, x.s, x.d⟩ w1.heap.size _ HM5.out).mono ?_
        clear y0 y1 y2 y3 y4 y5 y6 q0 q1 q2 q3 q4 q5 q6 hl6
        generalize W4.setCell ⟨w1.heap.size, 0, none⟩ (.int .i64 n) = W5 at *
        rintro e W6 ⟨rfl, b6⟩
        have B6 : Hid (Below w.heap.size w W6) := Lib.hid (B5.out.trans (b6.mono B5.out.size))
        have HS6 := Lib.hid (HS5.out.keep b6)
        have ⟨r0, r1, r2, r3, r4, r5, r6⟩ := HS6.out.cells
        have ⟨z0, z1, z2, z3, z4, z5, z6⟩ := HS6.out.thaw
        simp only [zeroSt] at r0 r1 r2 r3 r4 r5 r6
        have hl : w.heap.size + 1 < W6.heap.size := HS6.out.lt
        dsimp only
        go_wp2
        exact st_ret2 (y := ⟨n, x.g1, x.g2, x.g3, x.l, x.s, x.d⟩) rfl rfl rfl (HS6.out.put ⟨n, x.g1, x.g2, x.g3, x.l, x.s, x.d⟩) Tryd.underlying24 rfl (by kernel_rfl) rfl ⟨by rw [HC.out, HE.out, HP2.out], below_putSt B6.out (Nat.le_succ _) ⟨n, x.g1, x.g2, x.g3, x.l, x.s, x.d⟩⟩
      · have HP2 : Hid (stPut x 1 n = ⟨x.g0, n, x.g2, x.g3, x.l, x.s, x.d⟩) := Lib.hid rfl
        have HM5 : Hid (MAt (W4.setCell ⟨w1.heap.size, 1, none⟩ (.int .i64 n)) w1.heap.size ⟨x.g0, n, x.g2, x.g3, x.l, x.s, x.d⟩) := Lib.hid (heap_setCell_same _ _ 1 _ _ (.int .i64 n) HM4.out)
        have HS5 : Hid (StAt (W4.setCell ⟨w1.heap.size, 1, none⟩ (.int .i64 n)) (w.heap.size + 1) zeroSt) := Lib.hid (by
          unfold StAt
          rw [Below.heap_setCell _ _ _ _ (by simp; omega)]
          exact HS4.out)
        have B5 : Hid (Below w.heap.size w (W4.setCell ⟨w1.heap.size, 1, none⟩ (.int .i64 n))) := Lib.hid (B4.out.setCell (show w.heap.size ≤ w1.heap.size by omega) _)
        go_wp2_with fail
        refine (HST.out ⟨x.g0, n, x.g2, x.g3, x.l, x.s, x.d⟩ w1.heap.size _ HM5.out).mono ?_
        clear y0 y1 y2 y3 y4 y5 y6 q0 q1 q2 q3 q4 q5 q6 hl6
        generalize W4.setCell ⟨w1.heap.size, 1, none⟩ (.int .i64 n) = W5 at *
        rintro e W6 ⟨rfl, b6⟩
        have B6 : Hid (Below w.heap.size w W6) := Lib.hid (B5.out.trans (b6.mono B5.out.size))
        have HS6 := Lib.hid (HS5.out.keep b6)
        have ⟨r0, r1, r2, r3, r4, r5, r6⟩ := HS6.out.cells
        have ⟨z0, z1, z2, z3, z4, z5, z6⟩ := HS6.out.thaw
        simp only [zeroSt] at r0 r1 r2 r3 r4 r5 r6
        have hl : w.heap.size + 1 < W6.heap.size := HS6.out.lt
        dsimp only
        go_wp2
        exact st_ret2 (y := ⟨x.g0, n, x.g2, x.g3, x.l, x.s, x.d⟩) rfl rfl rfl (HS6.out.put ⟨x.g0, n, x.g2, x.g3, x.l, x.s, x.d⟩) Tryd.underlying24 rfl (by kernel_rfl) rfl ⟨by rw [HC.out, HE.out, HP2.out], below_putSt B6.out (Nat.le_succ _) ⟨x.g0, n, x.g2, x.g3, x.l, x.s, x.d⟩⟩
      · have HP2 : Hid (stPut x 2 n = ⟨x.g0, x.g1, n, x.g3, x.l, x.s, x.d⟩) := Lib.hid rfl
        have HM5 : Hid (MAt (W4.setCell ⟨w1.heap.size, 2, none⟩ (.int .i64 n)) w1.heap.size ⟨x.g0, x.g1, n, x.g3, x.l, x.s, x.d⟩) := Lib.hid (heap_setCell_same _ _ 2 _ _ (.int .i64 n) HM4.out)
        have HS5 : Hid (StAt (W4.setCell ⟨w1.heap.size, 2, none⟩ (.int .i64 n)) (w.heap.size + 1) zeroSt) := Lib.hid (by
          unfold StAt
          rw [Below.heap_setCell _ _ _ _ (by simp; omega)]
          exact HS4.out)
        have B5 : Hid (Below w.heap.size w (W4.setCell ⟨w1.heap.size, 2, none⟩ (.int .i64 n))) := Lib.hid (B4.out.setCell (show w.heap.size ≤ w1.heap.size by omega) _)
        go_wp2_with fail
        refine (HST.out ⟨x.g0, x.g1, n, x.g3, x.l, x.s, x.d⟩ w1.heap.size _ HM5.out).mono ?_
        clear y0 y1 y2 y3 y4 y5 y6 q0 q1 q2 q3 q4 q5 q6 hl6
        generalize W4.setCell ⟨w1.heap.size, 2, none⟩ (.int .i64 n) = W5 at *
        rintro e W6 ⟨rfl, b6⟩
        have B6 : Hid (Below w.heap.size w W6) := Lib.hid (B5.out.trans (b6.mono B5.out.size))
        have HS6 := Lib.hid (HS5.out.keep b6)
        have ⟨r0, r1, r2, r3, r4, r5, r6⟩ := HS6.out.cells
        have ⟨z0, z1, z2, z3, z4, z5, z6⟩ := HS6.out.thaw
        simp only [zeroSt] at r0 r1 r2 r3 r4 r5 r6
        have hl : w.heap.size + 1 < W6.heap.size := HS6.out.lt
        dsimp only
        go_wp2
        exact st_ret2 (y := ⟨x.g0, x.g1, n, x.g3, x.l, x.s, x.d⟩) rfl rfl rfl (HS6.out.put ⟨x.g0, x.g1, n, x.g3, x.l, x.s, x.d⟩) Tryd.underlying24 rfl (by kernel_rfl) rfl ⟨by rw [HC.out, HE.out, HP2.out], below_putSt B6.out (Nat.le_succ _) ⟨x.g0, x.g1, n, x.g3, x.l, x.s, x.d⟩⟩
      · have HP2 : Hid (stPut x 3 n = ⟨x.g0, x.g1, x.g2, n, x.l, x.s, x.d⟩) := Lib.hid rfl
        have HM5 : Hid (MAt (W4.setCell ⟨w1.heap.size, 3, none⟩ (.int .i64 n)) w1.heap.size ⟨x.g0, x.g1, x.g2, n, x.l, x.s, x.d⟩) := Lib.hid (heap_setCell_same _ _ 3 _ _ (.int .i64 n) HM4.out)
        have HS5 : Hid (StAt (W4.setCell ⟨w1.heap.size, 3, none⟩ (.int .i64 n)) (w.heap.size + 1) zeroSt) := Lib.hid (by
          unfold StAt
          rw [Below.heap_setCell _ _ _ _ (by simp; omega)]
          exact HS4.out)
        have B5 : Hid (Below w.heap.size w (W4.setCell ⟨w1.heap.size, 3, none⟩ (.int .i64 n))) := Lib.hid (B4.out.setCell (show w.heap.size ≤ w1.heap.size by omega) _)
        go_wp2_with fail
        refine (HST.out ⟨x.g0, x.g1, x.g2, n, x.l, x.s, x.d⟩ w1.heap.size _ HM5.out).mono ?_
        clear y0 y1 y2 y3 y4 y5 y6 q0 q1 q2 q3 q4 q5 q6 hl6
        generalize W4.setCell ⟨w1.heap.size, 3, none⟩ (.int .i64 n) = W5 at *
        rintro e W6 ⟨rfl, b6⟩
        have B6 : Hid (Below w.heap.size w W6) := Lib.hid (B5.out.trans (b6.mono B5.out.size))
        have HS6 := Lib.hid (HS5.out.keep b6)
        have ⟨r0, r1, r2, r3, r4, r5, r6⟩ := HS6.out.cells
        have ⟨z0, z1, z2, z3, z4, z5, z6⟩ := HS6.out.thaw
        simp only [zeroSt] at r0 r1 r2 r3 r4 r5 r6
        have hl : w.heap.size + 1 < W6.heap.size := HS6.out.lt
        dsimp only
        go_wp2
        exact st_ret2 (y := ⟨x.g0, x.g1, x.g2, n, x.l, x.s, x.d⟩) rfl rfl rfl (HS6.out.put ⟨x.g0, x.g1, x.g2, n, x.l, x.s, x.d⟩) Tryd.underlying24 rfl (by kernel_rfl) rfl ⟨by rw [HC.out, HE.out, HP2.out], below_putSt B6.out (Nat.le_succ _) ⟨x.g0, x.g1, x.g2, n, x.l, x.s, x.d⟩⟩
    · have HC : Hid (nsC x g n = 13) := Lib.hid (by rw [pend_eq ho] at hp; simp [nsC, ho, he, hp])
      have HE : Hid (nsX x g n = x) := Lib.hid (by simp [nsX, HC.out])
      rw [hp] at HP
      clear hp he
      go_enter Tryd.func16, Tryd.ntmps16
      go_wp2_with fail
      refine (HF.out _).mono ?_
      generalize (w.alloc (.cells #[.int .i64 x.g0, .int .i64 x.g1, .int .i64 x.g2, .int .i64 x.g3, .int .i64 x.l, .int .i64 x.s, .int .i64 x.d] 24)).alloc (.cells #[.int .i64 0, .int .i64 0, .int .i64 0, .int .i64 0, .int .i64 0, .int .i64 0, .int .i64 0] 24) = W0 at *
      rintro e w1 ⟨rfl, b1⟩
      have B1 : Hid (Below w.heap.size w w1) := Lib.hid (B0.out.trans (b1.mono B0.out.size))
      have HB1 := Lib.hid ((HB0.out.keep b1).keep (below_one w1 (.cells #[.int .i64 x.g0, .int .i64 x.g1, .int .i64 x.g2, .int .i64 x.g3, .int .i64 x.l, .int .i64 x.s, .int .i64 x.d] 52)))
      have HS1 := Lib.hid ((HS0.out.keep b1).keep (below_one w1 (.cells #[.int .i64 x.g0, .int .i64 x.g1, .int .i64 x.g2, .int .i64 x.g3, .int .i64 x.l, .int .i64 x.s, .int .i64 x.d] 52)))
      have B2 : Hid (Below w.heap.size w (w1.alloc (.cells #[.int .i64 x.g0, .int .i64 x.g1, .int .i64 x.g2, .int .i64 x.g3, .int .i64 x.l, .int .i64 x.s, .int .i64 x.d] 52))) := Lib.hid (B1.out.alloc B1.out.size _)
      have HM := Lib.hid (MAt.new w1 x)
      have HT2 := Lib.hid (HT.out.keep B2.out)
      have hw1 : w.heap.size + 1 < w1.heap.size := (HS0.out.keep b1).lt
      clear b1 HB0 HS0
      go_wp2_with fail
      refine (HO.out w1.heap.size _ HM.out HT2.out).mono ?_
      generalize w1.alloc (.cells #[.int .i64 x.g0, .int .i64 x.g1, .int .i64 x.g2, .int .i64 x.g3, .int .i64 x.l, .int .i64 x.s, .int .i64 x.d] 52) = W1 at *
      rintro e W2 ⟨rfl, b2⟩
      have B3 : Hid (Below w.heap.size w W2) := Lib.hid (B2.out.trans (b2.mono B2.out.size))
      have HB3 := Lib.hid (HB1.out.keep b2)
      have HS3 := Lib.hid (HS1.out.keep b2)
      have HM3 := Lib.hid (HM.out.keep b2)
      have HT3 := Lib.hid (HT2.out.keep b2)
      have hb3 : w1.heap.size < W2.heap.size := HM3.out.lt
      clear b2 B2 HM HT2 HB1 HS1
      go_wp2_with fail
      refine (HEO.out _ HT3.out.1).mono ?_
      rintro e W4 ⟨rfl, b4⟩
      have B4 : Hid (Below w.heap.size w W4) := Lib.hid (B3.out.trans (b4.mono B3.out.size))
      have HB4 := Lib.hid (HB3.out.keep b4)
      have HS4 := Lib.hid (HS3.out.keep b4)
      have HM4 := Lib.hid (HM3.out.keep b4)
      clear b4 B3 HB3 HS3 HM3 HT3 hb3
      go_wp2_with fail
      refine (HP.out _ _ HM4.out).mono ?_
      rintro e W5 ⟨rfl, rfl⟩
      have ⟨y0, y1, y2, y3, y4, y5, y6⟩ := HB4.out.cells
      have ⟨r0, r1, r2, r3, r4, r5, r6⟩ := HS4.out.cells
      have ⟨z0, z1, z2, z3, z4, z5, z6⟩ := HS4.out.thaw
      simp only [zeroSt] at r0 r1 r2 r3 r4 r5 r6
      have hl : w.heap.size + 1 < W4.heap.size := HS4.out.lt
      go_wp2
      exact st_ret2 (y := x) rfl rfl rfl (HS4.out.put x) Tryd.underlying24 rfl (by kernel_rfl) rfl ⟨by rw [HC.out, HE.out], below_putSt B4.out (Nat.le_succ _) x⟩
  · have HC : Hid (nsC x g n = eoC g n) := Lib.hid (by simp [nsC, ho, he])
    have HE : Hid (nsX x g n = zeroSt) := Lib.hid (by
      rw [nsX, HC.out, if_neg he, if_neg (by have := eoC_vals g n; omega)])
    generalize eoC g n = c at *
    have ec : (c != 0) = true := by simpa using he
    clear he
    go_enter Tryd.func16, Tryd.ntmps16
    go_wp2_with fail
    refine (HF.out _).mono ?_
    generalize (w.alloc (.cells #[.int .i64 x.g0, .int .i64 x.g1, .int .i64 x.g2, .int .i64 x.g3, .int .i64 x.l, .int .i64 x.s, .int .i64 x.d] 24)).alloc (.cells #[.int .i64 0, .int .i64 0, .int .i64 0, .int .i64 0, .int .i64 0, .int .i64 0, .int .i64 0] 24) = W0 at *
    rintro e w1 ⟨rfl, b1⟩
    have B1 : Hid (Below w.heap.size w w1) := Lib.hid (B0.out.trans (b1.mono B0.out.size))
    have HB1 := Lib.hid ((HB0.out.keep b1).keep (below_one w1 (.cells #[.int .i64 x.g0, .int .i64 x.g1, .int .i64 x.g2, .int .i64 x.g3, .int .i64 x.l, .int .i64 x.s, .int .i64 x.d] 52)))
    have HS1 := Lib.hid ((HS0.out.keep b1).keep (below_one w1 (.cells #[.int .i64 x.g0, .int .i64 x.g1, .int .i64 x.g2, .int .i64 x.g3, .int .i64 x.l, .int .i64 x.s, .int .i64 x.d] 52)))
    have B2 : Hid (Below w.heap.size w (w1.alloc (.cells #[.int .i64 x.g0, .int .i64 x.g1, .int .i64 x.g2, .int .i64 x.g3, .int .i64 x.l, .int .i64 x.s, .int .i64 x.d] 52))) := Lib.hid (B1.out.alloc B1.out.size _)
    have HM := Lib.hid (MAt.new w1 x)
    have HT2 := Lib.hid (HT.out.keep B2.out)
    have hw1 : w.heap.size + 1 < w1.heap.size := (HS0.out.keep b1).lt
    clear b1 HB0 HS0
    go_wp2_with fail
    refine (HO.out w1.heap.size _ HM.out HT2.out).mono ?_
    generalize w1.alloc (.cells #[.int .i64 x.g0, .int .i64 x.g1, .int .i64 x.g2, .int .i64 x.g3, .int .i64 x.l, .int .i64 x.s, .int .i64 x.d] 52) = W1 at *
    rintro e W2 ⟨rfl, b2⟩
    have B3 : Hid (Below w.heap.size w W2) := Lib.hid (B2.out.trans (b2.mono B2.out.size))
    have HB3 := Lib.hid (HB1.out.keep b2)
    have HS3 := Lib.hid (HS1.out.keep b2)
    have HM3 := Lib.hid (HM.out.keep b2)
    have HT3 := Lib.hid (HT2.out.keep b2)
    have hb3 : w1.heap.size < W2.heap.size := HM3.out.lt
    clear b2 B2 HM HT2 HB1 HS1
    go_wp2_with fail
    refine (HEO.out _ HT3.out.1).mono ?_
    rintro e W4 ⟨rfl, b4⟩
    have B4 : Hid (Below w.heap.size w W4) := Lib.hid (B3.out.trans (b4.mono B3.out.size))
    have HB4 := Lib.hid (HB3.out.keep b4)
    have HS4 := Lib.hid (HS3.out.keep b4)
    have HM4 := Lib.hid (HM3.out.keep b4)
    clear b4 B3 HB3 HS3 HM3 HT3 hb3
    have ⟨r0, r1, r2, r3, r4, r5, r6⟩ := HS4.out.cells
    have ⟨z0, z1, z2, z3, z4, z5, z6⟩ := HS4.out.thaw
    simp only [zeroSt] at r0 r1 r2 r3 r4 r5 r6
    have hl : w.heap.size + 1 < W4.heap.size := HS4.out.lt
    go_wp2
    exact st_ret2 (y := zeroSt) rfl rfl rfl (HS4.out.put zeroSt) Tryd.underlying24 rfl (by kernel_rfl) rfl ⟨by rw [HC.out, HE.out], below_putSt B4.out (Nat.le_succ _) zeroSt⟩

end Go.Proofs.YtbamjhldebobhaaDoor
