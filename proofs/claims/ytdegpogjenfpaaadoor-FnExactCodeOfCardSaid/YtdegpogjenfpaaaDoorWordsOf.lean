/- CodeOf, the program's and the model's: contracts. The package's table reads as its text lays it. -/
import Derived.Test.YtdegpogjenfpaaaDoorWords
namespace Go.Proofs.YtdegpogjenfpaaaDoor
open Go.RowKit

theorem str_ne {a b : ByteArray} (h : ¬ a = b) : (a.toList == b.toList) = false := by
  rw [beq_eq_false_iff_ne, ByteArray.toList_eq, ByteArray.toList_eq]
  intro e
  exact h (ByteArray.ext (Array.toList_inj.1 e))

/-- The first code from k on whose word is s, or -1. -/
def codeFrom (s : ByteArray) : Nat → Nat → Int
  | 0, _ => -1
  | b + 1, k => if wd k = s then k else codeFrom s b (k + 1)
def codeV (s : ByteArray) : Int := codeFrom s 19 0

set_option maxHeartbeats 400000 in
theorem spec_CodeOf (s : ByteArray) (w : World) : Calls Tryd.prog 25 #[.string s] w fun e w' => e = .returned (.int .i64 (codeV s)) ∧ Below w.heap.size w w' := by
  go_enter Tryd.func25, Tryd.ntmps25
  go_wp2
  go_loopw [3] (fun i wr => ∃ k b : Nat, k + b = 19 ∧ i = .int .i64 k ∧ Hid (codeV s = codeFrom s b k) ∧ Below w.heap.size w wr) (fun i _ => 19 - (intOf i).toNat)
  case atStart => exact ⟨0, 19, rfl, rfl, Lib.hid rfl, Below.refl _ _⟩
  case round =>
    obtain ⟨k, b, hk, rfl, H, hb⟩ := hrel
    have HK := Lib.hid hk
    by_cases hlt : k ≤ 18
    · obtain ⟨b, rfl⟩ : ∃ c, b = c + 1 := ⟨b - 1, by omega⟩
      clear hk
      have hw : wordV (k : Int) = wd k := by simp [wordV]; omega
      by_cases he : wd k = s
      · have HE : Hid (codeV s = k) := Lib.hid (by rw [H.out, codeFrom, if_pos he])
        go_wp2_with fail
        refine (spec_CodeWord _ _).mono ?_
        rintro e w1 ⟨rfl, b1⟩
        rw [hw, he]
        clear hw he
        go_wp2
        go_ret
        exact ⟨ret_int HE.out.symm, hb.trans (b1.mono hb.size)⟩
      · have HE : Hid (codeV s = codeFrom s b (k + 1)) := Lib.hid (by rw [H.out, codeFrom, if_neg he])
        have he' : ((wd k).toList == s.toList) = false := str_ne he
        go_wp2_with fail
        refine (spec_CodeWord _ _).mono ?_
        rintro e w1 ⟨rfl, b1⟩
        rw [hw]
        clear hw
        go_wp2
        go_roundw
        case rel => exact ⟨k + 1, b, by have := HK.out; omega, by go_num, HE, hb.trans (b1.mono hb.size)⟩
        case measure => simp [intOf]; omega
    · have hb0 : b = 0 := by omega
      have HE : Hid (codeV s = -1) := Lib.hid (by rw [H.out, hb0]; rfl)
      clear hk hb0
      go_wp2
      go_ret
      exact ⟨ret_int HE.out.symm, hb⟩

/-- The whole table, as one value. -/
def wordsAgg : Value := .agg (words.map Value.string).toArray

theorem words_index (k : Nat) (h : k < 19) : ∀ w : World, (Instr.index 65 wordsAgg (.int .i64 k)).run Tryd.prog w = .ok (.string (wd k)) w :=
  match k, h with
  | 0, _ => fun w => by kernel_rfl
  | 1, _ => fun w => by kernel_rfl
  | 2, _ => fun w => by kernel_rfl
  | 3, _ => fun w => by kernel_rfl
  | 4, _ => fun w => by kernel_rfl
  | 5, _ => fun w => by kernel_rfl
  | 6, _ => fun w => by kernel_rfl
  | 7, _ => fun w => by kernel_rfl
  | 8, _ => fun w => by kernel_rfl
  | 9, _ => fun w => by kernel_rfl
  | 10, _ => fun w => by kernel_rfl
  | 11, _ => fun w => by kernel_rfl
  | 12, _ => fun w => by kernel_rfl
  | 13, _ => fun w => by kernel_rfl
  | 14, _ => fun w => by kernel_rfl
  | 15, _ => fun w => by kernel_rfl
  | 16, _ => fun w => by kernel_rfl
  | 17, _ => fun w => by kernel_rfl
  | 18, _ => fun w => by kernel_rfl
  | n + 19, h => absurd h (by omega)

set_option maxHeartbeats 400000 in
theorem impl_CodeOf (s : ByteArray) (w : World) (ht : TabWords w) : Calls Tryd.prog 26 #[.string s] w fun e w' => e = .returned (.int .i64 (codeV s)) ∧ w = w' := by
  obtain ⟨t, fr, hh⟩ := ht
  have HH := Lib.hid hh
  clear hh
  go_enter Tryd.func26, Tryd.ntmps26
  go_wp2_with (refine wpList_load_row rfl 65 _ rfl 0 rfl t (words.map Value.string).toArray fr _ HH.out Tryd.underlying65 rfl (by kernel_rfl) ?_; change wpList _ _ _ _ (Act.put _ _ wordsAgg) _)
  go_loop [6] (fun i => ∃ k b : Nat, k + b = 19 ∧ i = .int .i64 k ∧ Hid (codeV s = codeFrom s b k)) (fun i => 19 - (intOf i).toNat)
  case atStart => exact ⟨0, 19, rfl, rfl, Lib.hid rfl⟩
  case round =>
    obtain ⟨k, b, hk, rfl, H⟩ := hrel
    have HK := Lib.hid hk
    by_cases hlt : k ≤ 18
    · obtain ⟨b, rfl⟩ : ∃ c, b = c + 1 := ⟨b - 1, by omega⟩
      clear hk
      have hix := words_index k (by omega)
      by_cases he : wd k = s
      · have HE : Hid (codeV s = k) := Lib.hid (by rw [H.out, codeFrom, if_pos he])
        rw [he] at hix
        clear he
        go_wp2
        go_ret
        exact ⟨ret_int HE.out.symm, rfl⟩
      · have HE : Hid (codeV s = codeFrom s b (k + 1)) := Lib.hid (by rw [H.out, codeFrom, if_neg he])
        have he' : ((wd k).toList == s.toList) = false := str_ne he
        clear he
        go_wp2
        go_round
        case rel => exact ⟨k + 1, b, by have := HK.out; omega, by go_num, HE⟩
        case measure => simp [intOf]; omega
    · have hb0 : b = 0 := by omega
      have HE : Hid (codeV s = -1) := Lib.hid (by rw [H.out, hb0]; rfl)
      clear hk hb0
      go_wp2
      go_ret
      exact ⟨ret_int HE.out.symm, rfl⟩

end Go.Proofs.YtdegpogjenfpaaaDoor
