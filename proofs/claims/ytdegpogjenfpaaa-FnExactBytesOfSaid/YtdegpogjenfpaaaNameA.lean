/- Contracts of the functions on names: l00Letter, l00Digit, isLetter, isDigit, l00Word, NameOK. No condition but that a string's length is a length. -/
import Derived.Test.YtdegpogjenfpaaaRunesA
import Derived.Laws.RangeAny
namespace Go.Proofs.Ytdegpogjenfpaaa
open Go.RowKit

def letB (c : Int) : Bool := (decide (97 ≤ c) && decide (c ≤ 122)) || (decide (65 ≤ c) && decide (c ≤ 90)) || c == 95
def digB (c : Int) : Bool := decide (48 ≤ c) && decide (c ≤ 57)

theorem spec_l00Letter (c : Int) (w : World) : Calls Try.prog 36 #[.int .u8 c] w fun e w' => e = .returned (.bool (letB c)) ∧ w = w' := by
  by_cases h1 : 97 ≤ c
  · by_cases h2 : c ≤ 122
    all_goals
      go_enter Try.func36, Try.ntmps36
      go_wp2
      all_goals go_ret
      all_goals refine ⟨ret_bool ?_, rfl⟩
      all_goals (rw [Bool.eq_iff_iff]; simp [letB]; omega)
  · by_cases h2 : 65 ≤ c
    · by_cases h3 : c ≤ 90
      all_goals
        go_enter Try.func36, Try.ntmps36
        go_wp2
        all_goals go_ret
        all_goals refine ⟨ret_bool ?_, rfl⟩
        all_goals (rw [Bool.eq_iff_iff]; simp [letB]; omega)
    · go_enter Try.func36, Try.ntmps36
      go_wp2
      all_goals go_ret
      all_goals refine ⟨ret_bool ?_, rfl⟩
      all_goals (rw [Bool.eq_iff_iff]; simp [letB]; omega)

theorem impl_isLetter (c : Int) (w : World) : Calls Try.prog 24 #[.int .i32 c] w fun e w' => e = .returned (.bool (letB c)) ∧ w = w' := by
  by_cases h1 : 97 ≤ c
  · by_cases h2 : c ≤ 122
    all_goals
      go_enter Try.func24, Try.ntmps24
      go_wp2
      all_goals go_ret
      all_goals refine ⟨ret_bool ?_, rfl⟩
      all_goals (rw [Bool.eq_iff_iff]; simp [letB]; omega)
  · by_cases h2 : 65 ≤ c
    · by_cases h3 : c ≤ 90
      all_goals
        go_enter Try.func24, Try.ntmps24
        go_wp2
        all_goals go_ret
        all_goals refine ⟨ret_bool ?_, rfl⟩
        all_goals (rw [Bool.eq_iff_iff]; simp [letB]; omega)
    · go_enter Try.func24, Try.ntmps24
      go_wp2
      all_goals go_ret
      all_goals refine ⟨ret_bool ?_, rfl⟩
      all_goals (rw [Bool.eq_iff_iff]; simp [letB]; omega)

theorem spec_l00Digit (c : Int) (w : World) : Calls Try.prog 37 #[.int .u8 c] w fun e w' => e = .returned (.bool (digB c)) ∧ w = w' := by
  by_cases h1 : 48 ≤ c
  all_goals
    go_enter Try.func37, Try.ntmps37
    go_wp2
    all_goals go_ret
    all_goals refine ⟨ret_bool ?_, rfl⟩
    all_goals (rw [Bool.eq_iff_iff]; simp [digB]; omega)

theorem impl_isDigit (c : Int) (w : World) : Calls Try.prog 25 #[.int .i32 c] w fun e w' => e = .returned (.bool (digB c)) ∧ w = w' := by
  by_cases h1 : 48 ≤ c
  all_goals
    go_enter Try.func25, Try.ntmps25
    go_wp2
    all_goals go_ret
    all_goals refine ⟨ret_bool ?_, rfl⟩
    all_goals (rw [Bool.eq_iff_iff]; simp [digB]; omega)

/-- From place k on every byte may stand in a name; at place 0 a letter. -/
def nameFrom (s : ByteArray) : Nat → Nat → Bool
  | 0, _ => true
  | b + 1, k => if h : k < s.size then (letB (s[k]'h).toNat || (decide (k ≠ 0) && digB (s[k]'h).toNat)) && nameFrom s b (k + 1) else true
def nameB (s : ByteArray) : Bool := decide (1 ≤ s.size) && decide (s.size ≤ 12) && nameFrom s s.size 0

theorem nameFrom_end (s : ByteArray) (b k : Nat) (h : ¬ k < s.size) : nameFrom s b k = true := by
  cases b with
  | zero => rfl
  | succ b => simp [nameFrom, h]
theorem nameFrom_step (s : ByteArray) (b k : Nat) (h : k < s.size) (hb : s.size ≤ k + b) : nameFrom s b k = ((letB (s[k]'h).toNat || (decide (k ≠ 0) && digB (s[k]'h).toNat)) && nameFrom s (b - 1) (k + 1)) := by
  cases b with
  | zero => omega
  | succ b => simp [nameFrom, h]

theorem nameB_small (s : ByteArray) (h : ¬ 1 ≤ s.size) : nameB s = false := by simp [nameB]; omega
theorem nameB_large (s : ByteArray) (h : 12 < s.size) : nameB s = false := by simp [nameB]; omega
theorem nameB_mid (s : ByteArray) (h : 1 ≤ s.size) (h' : s.size ≤ 12) : nameB s = nameFrom s s.size 0 := by simp [nameB, h, h']
theorem nameB_first (s : ByteArray) (h : 0 < s.size) (hl : letB (s[0]'h).toNat = false) : nameB s = false := by
  simp only [nameB]; rw [nameFrom_step s s.size 0 h (by omega), hl]; simp
theorem nameB_at (s : ByteArray) (k : Nat) (h : k < s.size) (H : nameB s = nameFrom s (s.size - k) k) (hk : 1 ≤ k) :
    nameB s = ((letB (s[k]'h).toNat || digB (s[k]'h).toNat) && nameFrom s (s.size - (k + 1)) (k + 1)) := by
  rw [H, nameFrom_step s (s.size - k) k h (by omega)]
  have : decide (k ≠ 0) = true := by simp; omega
  rw [this, show s.size - k - 1 = s.size - (k + 1) by omega]; simp

set_option maxHeartbeats 400000 in
theorem spec_l00Word (s : ByteArray) (w : World) (hs : s.size ≤ maxLen) : Calls Try.prog 23 #[.string s] w fun e w' => e = .returned (.bool (nameB s)) ∧ w = w' := by
  unfold maxLen at hs
  by_cases h1 : 1 ≤ s.size
  · by_cases h2 : 12 < s.size
    · have HF := Lib.hid (nameB_large s h2)
      go_enter Try.func23, Try.ntmps23
      go_wp2
      go_ret
      exact ⟨ret_bool HF.out.symm, rfl⟩
    · have h0 : 0 < s.size := h1
      by_cases hl : letB (s[0]'h0).toNat = true
      · have H0 : Hid (nameB s = nameFrom s (s.size - 1) 1) := by
          have := nameB_mid s h1 (by omega)
          rw [nameFrom_step s s.size 0 h0 (by omega), hl] at this
          exact Lib.hid (by simpa using this)
        have hl' : letB (↑(s[0]'h0).toNat) = true := hl
        have h3 : ¬ (12 : Int) < s.size := by omega
        go_enter Try.func23, Try.ntmps23
        go_wp2_with (go_at_call 36; refine (spec_l00Letter _ _).mono ?_; rintro e w' ⟨rfl, rfl⟩)
        clear hl hl'
        go_loop [3] (fun i => ∃ k : Nat, 1 ≤ k ∧ k ≤ s.size ∧ i = .int .i64 k ∧ Hid (nameB s = nameFrom s (s.size - k) k)) (fun i => s.size - (intOf i).toNat)
        case atStart => exact ⟨1, Nat.le_refl _, h1, rfl, H0⟩
        case round =>
          clear H0
          obtain ⟨k, hk1, hk, rfl, H⟩ := hrel
          by_cases hlt : k < s.size
          · have HS := Lib.hid (nameB_at s k hlt H.out hk1)
            clear H
            by_cases hl : letB (s[k]'hlt).toNat = true
            · go_wp2_with (go_at_call 36; refine (spec_l00Letter _ _).mono ?_; rintro e w' ⟨rfl, rfl⟩)
              go_round
              case rel => exact ⟨k + 1, by omega, by omega, by go_num, by have := HS.out; rw [hl] at this; exact Lib.hid (by simpa using this)⟩
              case measure => simp [intOf]; omega
            · have hl' : letB (s[k]'hlt).toNat = false := by simpa using hl
              by_cases hd : digB (s[k]'hlt).toNat = true
              · go_wp2_with (first | (go_at_call 36; refine (spec_l00Letter _ _).mono ?_; rintro e w' ⟨rfl, rfl⟩) | (go_at_call 37; refine (spec_l00Digit _ _).mono ?_; rintro e w' ⟨rfl, rfl⟩))
                go_round
                case rel => exact ⟨k + 1, by omega, by omega, by go_num, by have := HS.out; rw [hd] at this; exact Lib.hid (by simpa using this)⟩
                case measure => simp [intOf]; omega
              · have hd' : digB (s[k]'hlt).toNat = false := by simpa using hd
                go_wp2_with (first | (go_at_call 36; refine (spec_l00Letter _ _).mono ?_; rintro e w' ⟨rfl, rfl⟩) | (go_at_call 37; refine (spec_l00Digit _ _).mono ?_; rintro e w' ⟨rfl, rfl⟩))
                go_ret
                exact ⟨ret_bool (by rw [HS.out, hl', hd']; rfl), rfl⟩
          · go_wp2
            go_ret
            exact ⟨ret_bool (by rw [H.out, nameFrom_end _ _ _ hlt]), rfl⟩
      · have hl' : letB (↑(s[0]'h0).toNat) = false := by simpa using hl
        have HF := Lib.hid (nameB_first s h0 hl')
        have h3 : ¬ (12 : Int) < s.size := by omega
        clear hl
        go_enter Try.func23, Try.ntmps23
        go_wp2_with (go_at_call 36; refine (spec_l00Letter _ _).mono ?_; rintro e w' ⟨rfl, rfl⟩)
        go_ret
        exact ⟨ret_bool HF.out.symm, rfl⟩
  · have HF := Lib.hid (nameB_small s h1)
    go_enter Try.func23, Try.ntmps23
    go_wp2
    go_ret
    exact ⟨ret_bool HF.out.symm, rfl⟩

theorem spec_NameOK (s : ByteArray) (w : World) (hs : s.size ≤ maxLen) : Calls Try.prog 9 #[.string s] w fun e w' => e = .returned (.bool (nameB s)) ∧ w = w' := by
  go_enter Try.func9, Try.ntmps9
  go_wp2_with fail
  refine (spec_l00Word _ _ hs).mono ?_
  rintro e w' ⟨rfl, rfl⟩
  go_wp2
  go_ret
  exact ⟨rfl, rfl⟩

theorem letB_high (n : Int) (h : 128 ≤ n) : letB n = false := by simp [letB]; omega
theorem digB_high (n : Int) (h : 128 ≤ n) : digB n = false := by simp [digB]; omega
theorem nameB_any (s : ByteArray) (k : Nat) (h : k < s.size) (H : nameB s = nameFrom s (s.size - k) k) :
    nameB s = ((letB (s[k]'h).toNat || (decide (k ≠ 0) && digB (s[k]'h).toNat)) && nameFrom s (s.size - (k + 1)) (k + 1)) := by
  rw [H, nameFrom_step s (s.size - k) k h (by omega), show s.size - k - 1 = s.size - (k + 1) by omega]

set_option maxHeartbeats 400000 in
theorem impl_NameOK (s : ByteArray) (w : World) (hs : s.size ≤ maxLen) : Calls Try.prog 10 #[.string s] w fun e w' => e = .returned (.bool (nameB s)) ∧ Below w.heap.size w w' := by
  unfold maxLen at hs
  by_cases h1 : 1 ≤ s.size
  · have e0 : ((s.size : Int) == 0) = false := beq_eq_false_iff_ne.2 (by omega)
    by_cases h2 : 12 < s.size
    · have HF := Lib.hid (nameB_large s h2)
      go_enter Try.func10, Try.ntmps10
      go_wp2
      go_ret
      exact ⟨ret_bool HF.out.symm, Below.refl _ _⟩
    · have h3 : ¬ (12 : Int) < s.size := by omega
      have H0 := Lib.hid (nameB_mid s h1 (by omega))
      go_enter Try.func10, Try.ntmps10
      go_wp2
      go_loopw [3] (fun _ w' => ∃ pos : Nat, pos ≤ s.size ∧ w' = w.iter s pos ∧ Hid (nameB s = nameFrom s (s.size - pos) pos)) (fun _ w' => s.size - w'.iterPos w.heap.size)
      case atStart => exact ⟨0, Nat.zero_le _, rfl, H0⟩
      case round =>
        clear H0
        obtain ⟨pos, hp, rfl, H⟩ := hrel
        by_cases hlt : pos < s.size
        · have HS := Lib.hid (nameB_any s pos hlt H.out)
          clear H
          by_cases ha : (s[pos]'hlt).toNat < 128
          · have hnx := fun ty => run_next_ascii (P := Try.prog) w s pos ty hlt ha
            by_cases hl : letB (s[pos]'hlt).toNat = true
            · go_wp2_with (go_at_call 24; refine (impl_isLetter _ _).mono ?_; rintro e w' ⟨rfl, rfl⟩)
              go_roundw
              case rel => exact ⟨pos + 1, by omega, rfl, by have := HS.out; rw [hl] at this; exact Lib.hid (by simpa using this)⟩
              case measure => simp; omega
            · have hl' : letB (s[pos]'hlt).toNat = false := by simpa using hl
              clear hl
              by_cases hz : pos = 0
              · subst hz
                go_wp2_with (go_at_call 24; refine (impl_isLetter _ _).mono ?_; rintro e w' ⟨rfl, rfl⟩)
                go_ret
                exact ⟨ret_bool (by rw [HS.out, hl']; rfl), (Below.refl _ _).alloc (Nat.le_refl _) _⟩
              · have hz' : ((pos : Int) == 0) = false := by simp; omega
                by_cases hd : digB (s[pos]'hlt).toNat = true
                · go_wp2_with (first | (go_at_call 24; refine (impl_isLetter _ _).mono ?_; rintro e w' ⟨rfl, rfl⟩) | (go_at_call 25; refine (impl_isDigit _ _).mono ?_; rintro e w' ⟨rfl, rfl⟩))
                  go_roundw
                  case rel => exact ⟨pos + 1, by omega, rfl, by have := HS.out; rw [hd] at this; exact Lib.hid (by simpa [hz] using this)⟩
                  case measure => simp; omega
                · have hd' : digB (s[pos]'hlt).toNat = false := by simpa using hd
                  go_wp2_with (first | (go_at_call 24; refine (impl_isLetter _ _).mono ?_; rintro e w' ⟨rfl, rfl⟩) | (go_at_call 25; refine (impl_isDigit _ _).mono ?_; rintro e w' ⟨rfl, rfl⟩))
                  go_ret
                  exact ⟨ret_bool (by rw [HS.out, hl', hd']; simp), (Below.refl _ _).alloc (Nat.le_refl _) _⟩
          · have hnx := fun ty => run_next_any (P := Try.prog) w s pos ty hlt
            have hh := (decode_high s pos hlt (by omega)).1
            have l1 := letB_high (Utf8.decode s pos).1 (by omega)
            have l2 := digB_high (Utf8.decode s pos).1 (by omega)
            have HF : Hid (nameB s = false) := Lib.hid (by rw [HS.out, letB_high _ (by omega), digB_high _ (by omega)]; simp)
            clear HS
            by_cases hz : pos = 0
            · subst hz
              go_wp2_with (go_at_call 24; refine (impl_isLetter _ _).mono ?_; rintro e w' ⟨rfl, rfl⟩)
              go_ret
              exact ⟨ret_bool HF.out.symm, (Below.refl _ _).alloc (Nat.le_refl _) _⟩
            · have hz' : ((pos : Int) == 0) = false := by simp; omega
              go_wp2_with (first | (go_at_call 24; refine (impl_isLetter _ _).mono ?_; rintro e w' ⟨rfl, rfl⟩) | (go_at_call 25; refine (impl_isDigit _ _).mono ?_; rintro e w' ⟨rfl, rfl⟩))
              go_ret
              exact ⟨ret_bool HF.out.symm, (Below.refl _ _).alloc (Nat.le_refl _) _⟩
        · have hnx := fun ty => run_next_end (P := Try.prog) w s pos ty hlt
          go_wp2
          go_ret
          exact ⟨ret_bool (by rw [H.out, nameFrom_end _ _ _ hlt]), (Below.refl _ _).alloc (Nat.le_refl _) _⟩
  · have HF := Lib.hid (nameB_small s h1)
    have e0 : ((s.size : Int) == 0) = true := beq_iff_eq.2 (by omega)
    go_enter Try.func10, Try.ntmps10
    go_wp2
    go_ret
    exact ⟨ret_bool HF.out.symm, Below.refl _ _⟩

end Go.Proofs.Ytdegpogjenfpaaa
