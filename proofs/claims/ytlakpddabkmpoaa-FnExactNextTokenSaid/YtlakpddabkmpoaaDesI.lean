/- Which register and kind the intermediate bytes of an escape sequence stand for, in the program. -/
import Derived.Test.YtlakpddabkmpoaaTokB
import Derived.Test.YtlakpddabkmpoaaLayI
namespace Go.Proofs.Ytlakpddabkmpoaa
open Go.RowKit

def idx94 (b : Int) : Int := if 40 ≤ b ∧ b ≤ 43 then b - 40 else -1
def idx96 (b : Int) : Int := if 45 ≤ b ∧ b ≤ 47 then b - 45 else -1
theorem idx94_all : ∀ n : Fin 256, Lib.indexByte (⟨#[40, 41, 42, 43]⟩ : ByteArray).data.toList ((n.val : Int).toNat.toUInt8) = idx94 (n.val : Int) := by decide +kernel
theorem idx96_all : ∀ n : Fin 256, Lib.indexByte (⟨#[45, 46, 47]⟩ : ByteArray).data.toList ((n.val : Int).toNat.toUInt8) = idx96 (n.val : Int) := by decide +kernel
theorem str_idx94 (c : Int) (w : World) (h0 : 0 ≤ c) (h1 : c < 256) : Calls Try.prog 26 #[.string ⟨#[40, 41, 42, 43]⟩, .int .u8 c] w fun e w' => e = .returned (.int .i64 (idx94 c)) ∧ w = w' := by
  refine (Any.strings_IndexByte Try.layI137 ⟨#[40, 41, 42, 43]⟩ c w).mono ?_
  rintro e w' ⟨rfl, rfl⟩
  have := idx94_all ⟨c.toNat, by omega⟩
  simp only at this
  have hc : ((c.toNat : Nat) : Int) = c := by omega
  rw [hc] at this
  exact ⟨by rw [this], rfl⟩
theorem str_idx96 (c : Int) (w : World) (h0 : 0 ≤ c) (h1 : c < 256) : Calls Try.prog 26 #[.string ⟨#[45, 46, 47]⟩, .int .u8 c] w fun e w' => e = .returned (.int .i64 (idx96 c)) ∧ w = w' := by
  refine (Any.strings_IndexByte Try.layI137 ⟨#[45, 46, 47]⟩ c w).mono ?_
  rintro e w' ⟨rfl, rfl⟩
  have := idx96_all ⟨c.toNat, by omega⟩
  simp only at this
  have hc : ((c.toNat : Nat) : Int) = c := by omega
  rw [hc] at this
  exact ⟨by rw [this], rfl⟩

theorem placeOf_none (s : ByteArray) : ∀ (l : List ByteArray) (k : Int), (∀ t ∈ l, ¬ t = s) → placeOf s l k = -1
  | [], _, _ => rfl
  | t :: r, k, h => by
    rw [placeOf, if_neg (h t (by simp))]
    exact placeOf_none s r (k + 1) (fun u hu => h u (by simp [hu]))
theorem one_all : ∀ n : Fin 256, midNo ⟨#[n.val.toUInt8]⟩ = if 0 ≤ idx94 (n.val : Int) then idx94 (n.val : Int) else if 0 ≤ idx96 (n.val : Int) then idx96 (n.val : Int) + 4 else if (n.val : Int) = 36 then 7 else -1 := by decide +kernel
theorem two_all : ∀ n : Fin 256, midNo ⟨#[36, n.val.toUInt8]⟩ = if 0 ≤ idx94 (n.val : Int) then idx94 (n.val : Int) + 8 else -1 := by decide +kernel

theorem mid_long (s : ByteArray) (h : 2 < s.size) : midNo s = -1 := by
  refine placeOf_none s mids 0 (fun t ht e => ?_)
  have h2 : ∀ t ∈ mids, t.size ≤ 2 := by decide
  have := h2 t ht
  rw [e] at this
  omega
theorem mid_one (s : ByteArray) (h : s.size = 1) : s = ⟨#[s[0].toNat.toUInt8]⟩ := by
  apply ByteArray.ext
  apply Array.ext
  · exact h
  · intro i h1 h2
    have : i = 0 := by simp at h2; omega
    subst this
    simp
    rfl
theorem mid_two (s : ByteArray) (h : s.size = 2) : s = ⟨#[s[0].toNat.toUInt8, s[1].toNat.toUInt8]⟩ := by
  apply ByteArray.ext
  apply Array.ext
  · exact h
  · intro i h1 h2
    have : i = 0 ∨ i = 1 := by simp at h2; omega
    rcases this with rfl | rfl
    · simp
      rfl
    · simp
      rfl
theorem midNo_one (s : ByteArray) (h : s.size = 1) : midNo s = if (0 : Int) ≤ idx94 (s[0].toNat : Int) then idx94 (s[0].toNat : Int) else if (0 : Int) ≤ idx96 (s[0].toNat : Int) then idx96 (s[0].toNat : Int) + 4 else if (s[0].toNat : Int) = 36 then 7 else -1 := by
  have := one_all ⟨s[0].toNat, s[0].toNat_lt⟩
  simp only at this
  rw [← mid_one s h] at this
  exact this
theorem midNo_two (s : ByteArray) (h : s.size = 2) (h36 : (s[0].toNat : Int) = 36) : midNo s = if (0 : Int) ≤ idx94 (s[1].toNat : Int) then idx94 (s[1].toNat : Int) + 8 else -1 := by
  have := two_all ⟨s[1].toNat, s[1].toNat_lt⟩
  simp only at this
  have h0 : s[0].toNat.toUInt8 = 36 := by
    have : s[0].toNat = 36 := by omega
    rw [this]; rfl
  rw [← h0, ← mid_two s h] at this
  exact this
theorem midNo_two' (s : ByteArray) (h : s.size = 2) (h36 : ¬ (s[0].toNat : Int) = 36) : midNo s = -1 := by
  refine placeOf_none s mids 0 (fun t ht e => ?_)
  have h2 : ∀ t ∈ mids, t.size = 2 → byteAt t 0 = 36 := by decide
  have := h2 t ht (by rw [e]; exact h)
  rw [e, byteAt_eq s 0 (by omega)] at this
  exact h36 this
theorem is36 (s : ByteArray) (h : s.size = 1) : s = ⟨#[36]⟩ ↔ (s[0].toNat : Int) = 36 := by
  constructor
  · intro e; subst e; rfl
  · intro e
    rw [mid_one s h]
    have : s[0].toNat = 36 := by omega
    rw [this]; rfl

def desK (s : ByteArray) (f : Int) : Int := if s = ⟨#[36]⟩ then (if f ≤ 66 then 3 else 0) else midK s
def desG (s : ByteArray) : Int := if s = ⟨#[36]⟩ ∨ midNo s < 0 then 0 else midG s
def desV (s : ByteArray) (f : Int) : Value := .tuple #[.int .i64 (desG s), .int .i64 (desK s f)]
theorem desV_of {s : ByteArray} {f g k : Int} (hg : desG s = g) (hk : desK s f = k) : desV s f = .tuple #[.int .i64 g, .int .i64 k] := by rw [desV, hg, hk]

/-- A whole escape sequence with intermediates, told by them. -/
theorem plainTok_des (s : ByteArray) (f p n : Int) (hm : ¬ s = ⟨#[]⟩) : plainTok s f p n = if desK s f = 0 ∨ f < 64 then ⟨9, 0, 0, 0, p, n⟩ else ⟨7, desG s, desK s f, f, p, n⟩ := by
  have hr := midNo_range s
  unfold plainTok desK desG
  rw [if_neg hm]
  by_cases h36 : s = ⟨#[36]⟩
  · subst h36
    have e1 : midG ⟨#[36]⟩ = 0 := by decide
    have e2 : midK ⟨#[36]⟩ = 3 := by decide
    simp only [e1, e2, true_and, if_true, true_or]
    by_cases hf : f ≤ 66
    · simp only [hf, if_true]
      by_cases h64 : f < 64
      · simp [h64]
      · have h66 : ¬ 66 < f := by omega
        simp [h64, h66]
    · have h66 : 66 < f := by omega
      simp [hf, h66]
  · simp only [h36, if_false, false_and, false_or, or_false]
    rcases hr with h | ⟨h1, h2⟩
    · have e1 : midG s < 0 := by simp [midG, h]
      have e2 : midK s = 0 := by simp [midK, h]
      simp [e1, e2]
    · have e1 : ¬ midG s < 0 := by unfold midG; repeat' split
                                   all_goals omega
      have e2 : ¬ midK s = 0 := by unfold midK; repeat' split
                                   all_goals omega
      have e3 : ¬ midNo s < 0 := by omega
      simp [e1, e2, e3]

theorem idx94_le (b : Int) : -1 ≤ idx94 b ∧ idx94 b ≤ 3 := by unfold idx94; split <;> omega
theorem idx96_le (b : Int) : -1 ≤ idx96 b ∧ idx96 b ≤ 2 := by unfold idx96; split <;> omega
theorem des_of {s : ByteArray} {f n : Int} (h36 : ¬ s = ⟨#[36]⟩) (hn : midNo s = n) : desG s = (if n < 0 then 0 else if n < 4 then n else if n < 7 then n - 3 else if n = 7 then 0 else n - 8) ∧ desK s f = (if n < 0 then 0 else if n < 4 then 1 else if n < 7 then 2 else 3) := by
  subst hn
  refine ⟨?_, ?_⟩
  · unfold desG midG
    by_cases h : midNo s < 0
    · simp [h36, h]
    · simp [h36, h]
  · unfold desK midK
    simp [h36]

theorem des_94 {s : ByteArray} {f x : Int} (h36 : ¬ s = ⟨#[36]⟩) (hn : midNo s = x) (h0 : 0 ≤ x) (h1 : x ≤ 3) : desV s f = .tuple #[.int .i64 x, .int .i64 1] := by
  have ⟨a, b⟩ := des_of (f := f) h36 hn
  rw [if_neg (by omega), if_pos (by omega)] at a b
  exact desV_of a b
theorem des_96 {s : ByteArray} {f y : Int} (h36 : ¬ s = ⟨#[36]⟩) (hn : midNo s = y + 4) (h0 : 0 ≤ y) (h1 : y ≤ 2) : desV s f = .tuple #[.int .i64 (y + 1), .int .i64 2] := by
  have ⟨a, b⟩ := des_of (f := f) h36 hn
  rw [if_neg (by omega), if_neg (by omega), if_pos (by omega)] at a b
  exact desV_of (by omega) b
theorem des_pair {s : ByteArray} {f x : Int} (h36 : ¬ s = ⟨#[36]⟩) (hn : midNo s = x + 8) (h0 : 0 ≤ x) : desV s f = .tuple #[.int .i64 x, .int .i64 3] := by
  have ⟨a, b⟩ := des_of (f := f) h36 hn
  rw [if_neg (by omega), if_neg (by omega), if_neg (by omega)] at a b
  rw [if_neg (by omega)] at a
  exact desV_of (by omega) b
theorem des_none {s : ByteArray} {f : Int} (h36 : ¬ s = ⟨#[36]⟩) (hn : midNo s = -1) : desV s f = .tuple #[.int .i64 0, .int .i64 0] := by
  have ⟨a, b⟩ := des_of (f := f) h36 hn
  exact desV_of a b

set_option maxHeartbeats 2000000 in
theorem des_one (s : ByteArray) (f : Int) (w : World) (h1 : s.size = 1) : Calls Try.prog 25 #[.string s, .int .i64 f] w fun e w' => e = .returned (desV s f) ∧ w = w' := by
  have hi := is36 s h1
  have hn := midNo_one s h1
  have hb := byteAt_le s 0
  rw [byteAt_eq s 0 (by omega)] at hb
  have hz : (s.size : Int) = 1 := by omega
  by_cases h36 : s = ⟨#[36]⟩
  · have hb36 := hi.1 h36
    have t1 : (s.toList == [36]) = true := by rw [h36, list36]; rfl
    by_cases hf : f ≤ 66
    · have HE := Lib.hid (desV_of (s := s) (f := f) (g := 0) (k := 3) (by simp [desG, h36]) (by simp [desK, h36, hf]))
      clear hi hn hb hb36 h36
      go_enter Try.func25, Try.ntmps25
      go_wp2
      go_ret2
      exact ⟨ret_val HE.out.symm, rfl⟩
    · have HE := Lib.hid (desV_of (s := s) (f := f) (g := 0) (k := 0) (by simp [desG, h36]) (by simp [desK, h36, hf]))
      have i1 : idx94 36 = -1 := by decide
      have i2 : idx96 36 = -1 := by decide
      clear hi hn h36
      go_enter Try.func25, Try.ntmps25
      go_wp2_with fail
      refine (str_idx94 36 w (by omega) (by omega)).mono ?_
      rintro e w1 ⟨rfl, rfl⟩
      rw [i1]
      go_wp2_with fail
      refine (str_idx96 36 w (by omega) (by omega)).mono ?_
      rintro e w1 ⟨rfl, rfl⟩
      rw [i2]
      go_wp2
      go_ret2
      exact ⟨ret_val HE.out.symm, rfl⟩
  · have t1 : (s.toList == [36]) = false := by have := str_eqf h36; rwa [list36] at this
    have hb36 : ¬ (s[0].toNat : Int) = 36 := fun h => h36 (hi.2 h)
    clear hi
    generalize hbb : (s[0].toNat : Int) = b at *
    have hx := idx94_le b
    have hy := idx96_le b
    have HX := Lib.hid (fun w => str_idx94 b w (by omega) (by omega))
    have HY := Lib.hid (fun w => str_idx96 b w (by omega) (by omega))
    generalize idx94 b = x at *
    generalize idx96 b = y at *
    by_cases x0 : 0 ≤ x
    · have HE := Lib.hid (des_94 (f := f) h36 (by rw [hn, if_pos x0]) x0 hx.2)
      clear hn h36 hb36
      go_enter Try.func25, Try.ntmps25
      go_wp2_with fail
      refine (HX.out w).mono ?_
      rintro e w1 ⟨rfl, rfl⟩
      go_wp2
      go_ret2
      exact ⟨ret_val HE.out.symm, rfl⟩
    · rw [if_neg x0] at hn
      by_cases y0 : 0 ≤ y
      · rw [if_pos y0] at hn
        have HE := Lib.hid (des_96 (f := f) h36 hn y0 hy.2)
        clear hn h36 hb36
        go_enter Try.func25, Try.ntmps25
        go_wp2_with fail
        refine (HX.out w).mono ?_
        rintro e w1 ⟨rfl, rfl⟩
        go_wp2_with fail
        refine (HY.out w).mono ?_
        rintro e w1 ⟨rfl, rfl⟩
        go_wp2
        go_ret2
        exact ⟨ret_val HE.out.symm, rfl⟩
      · rw [if_neg y0, if_neg hb36] at hn
        have HE := Lib.hid (des_none (f := f) h36 hn)
        clear hn h36 hb36
        go_enter Try.func25, Try.ntmps25
        go_wp2_with fail
        refine (HX.out w).mono ?_
        rintro e w1 ⟨rfl, rfl⟩
        go_wp2_with fail
        refine (HY.out w).mono ?_
        rintro e w1 ⟨rfl, rfl⟩
        go_wp2
        go_ret2
        exact ⟨ret_val HE.out.symm, rfl⟩

set_option maxHeartbeats 2000000 in
theorem des_two (s : ByteArray) (f : Int) (w : World) (h1 : s.size = 2) : Calls Try.prog 25 #[.string s, .int .i64 f] w fun e w' => e = .returned (desV s f) ∧ w = w' := by
  have hz : (s.size : Int) = 2 := by omega
  have h36 : ¬ s = ⟨#[36]⟩ := fun h => by subst h; simp [ByteArray.size] at h1
  have t1 : (s.toList == [36]) = false := by have := str_eqf h36; rwa [list36] at this
  have hb := byteAt_le s 1
  rw [byteAt_eq s 1 (by omega)] at hb
  have hb0 := byteAt_le s 0
  rw [byteAt_eq s 0 (by omega)] at hb0
  by_cases b36 : (s[0].toNat : Int) = 36
  · have hn := midNo_two s h1 b36
    generalize hbb : (s[1].toNat : Int) = b at *
    have hx := idx94_le b
    have HX := Lib.hid (fun w => str_idx94 b w (by omega) (by omega))
    have HY := Lib.hid (fun w => str_idx96 b w (by omega) (by omega))
    generalize idx94 b = x at *
    generalize idx96 b = y at *
    by_cases x0 : 0 ≤ x
    · rw [if_pos x0] at hn
      have HE := Lib.hid (des_pair (f := f) h36 hn x0)
      clear hn h36 hb0
      go_enter Try.func25, Try.ntmps25
      go_wp2_with fail
      refine (HX.out w).mono ?_
      rintro e w1 ⟨rfl, rfl⟩
      go_wp2
      go_ret2
      exact ⟨ret_val HE.out.symm, rfl⟩
    · rw [if_neg x0] at hn
      have HE := Lib.hid (des_none (f := f) h36 hn)
      clear hn h36 hb0
      go_enter Try.func25, Try.ntmps25
      go_wp2_with fail
      refine (HX.out w).mono ?_
      rintro e w1 ⟨rfl, rfl⟩
      go_wp2_with fail
      refine (HY.out w).mono ?_
      rintro e w1 ⟨rfl, rfl⟩
      by_cases y0 : 0 ≤ y
      all_goals
        go_wp2
        go_ret2
        exact ⟨ret_val HE.out.symm, rfl⟩
  · have hn := midNo_two' s h1 b36
    have HE := Lib.hid (des_none (f := f) h36 hn)
    have c36 : ((s[0].toNat : Int) == 36) = false := by simpa using b36
    clear hn h36 b36 hb
    go_enter Try.func25, Try.ntmps25
    go_wp2
    go_ret2
    exact ⟨ret_val HE.out.symm, rfl⟩

set_option maxHeartbeats 2000000 in
theorem impl_designated (s : ByteArray) (f : Int) (w : World) (hm : ¬ s = ⟨#[]⟩) (hs : s.size ≤ 1048576) : Calls Try.prog 25 #[.string s, .int .i64 f] w fun e w' => e = .returned (desV s f) ∧ w = w' := by
  by_cases h1 : s.size = 1
  · exact des_one s f w h1
  by_cases h2 : s.size = 2
  · exact des_two s f w h2
  have h0 : ¬ s.size = 0 := fun h => hm (ByteArray.ext (Array.eq_empty_of_size_eq_zero h))
  have h3 : 2 < s.size := by omega
  have h36 : ¬ s = ⟨#[36]⟩ := fun h => by subst h; simp [ByteArray.size] at h1
  have t1 : (s.toList == [36]) = false := by have := str_eqf h36; rwa [list36] at this
  have hn := mid_long s h3
  have HE := Lib.hid (des_none (f := f) h36 hn)
  have c1 : ((s.size : Int) == 2) = false := by simp; omega
  have c2 : ((s.size : Int) != 1) = true := by simp; omega
  clear hn h36 hm h0 h1 h2
  go_enter Try.func25, Try.ntmps25
  go_wp2
  go_ret2
  exact ⟨ret_val HE.out.symm, rfl⟩

end Go.Proofs.Ytlakpddabkmpoaa
