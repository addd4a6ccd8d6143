/- TakeRune, the program's and the model's: contracts. At most 2^20 bytes; the sentinels lie as the program's text lays them. -/
import Derived.Test.YtdckjhobikfggaaDoorTakeA
import Derived.Test.YtdckjhobikfggaaDoorTakeB
namespace Go.Proofs.YtdckjhobikfggaaDoor
open Go.RowKit

/-- What TakeRune returns. -/
def trC (s : ByteArray) (at' : Int) : Int := if 65536 < s.size then 2 else if 0 ≤ at' ∧ at' < s.size then takeC s at'.toNat else 8
def trR (s : ByteArray) (at' : Int) : Int := if trC s at' = 0 then takeR s at'.toNat else 0
def trN (s : ByteArray) (at' : Int) : Int := if trC s at' = 0 then takeNext s at'.toNat else 0
def trV (s : ByteArray) (at' : Int) : Value := .tuple #[.int .i64 (trR s at'), .int .i64 (trN s at'), .int .i64 (trC s at')]

theorem trV_bad (s : ByteArray) (at' c : Int) (h : trC s at' = c) (h0 : c ≠ 0) : trV s at' = .tuple #[.int .i64 0, .int .i64 0, .int .i64 c] := by
  simp [trV, trR, trN, h, h0]
theorem trC_in (s : ByteArray) (k : Nat) (h : ¬ 65536 < s.size) (hk : k < s.size) : trC s (k : Int) = takeC s k := by
  simp [trC, h, hk]
theorem trV_in (s : ByteArray) (k : Nat) (h : ¬ 65536 < s.size) (hk : k < s.size) (hc : takeC s k = 0) : trV s (k : Int) = .tuple #[.int .i64 (takeR s k), .int .i64 (k + takeN s k), .int .i64 0] := by
  have := trC_in s k h hk
  simp [trV, trR, trN, takeNext, this, hc]
theorem spec_TakeRune (s : ByteArray) (at' : Int) (w : World) (hs : s.size ≤ 1048576) : Calls Tryd.prog 23 #[.string s, .int .i64 at'] w fun e w' => e = .returned (trV s at') ∧ Below w.heap.size w w' := by
  by_cases h1 : 65536 < s.size
  · have HV := Lib.hid (trV_bad s at' 2 (by simp [trC, h1]) (by decide))
    go_enter Tryd.func23, Tryd.ntmps23
    go_wp2
    go_ret3
    rw [HV.out]
    exact ⟨rfl, Below.refl _ _⟩
  · have h1' : ¬ (65536 : Int) < (s.size : Int) := by omega
    by_cases h2 : inB at' 0 ((s.size : Int) - 1) = true
    · have ⟨i0, i1⟩ := inB_true h2
      obtain ⟨k, rfl⟩ := Int.eq_ofNat_of_zero_le i0
      have hk : k < s.size := by omega
      have hN := takeN_le s k
      rcases takeC_cases s k with hc | hc | hc
      · have HV := Lib.hid (trV_in s k h1 hk hc)
        have HC := Lib.hid hc
        clear hc
        go_enter Tryd.func23, Tryd.ntmps23
        go_wp2_with fail
        refine (spec_l01In _ _ _ _).mono ?_
        rintro e w' ⟨rfl, rfl⟩
        go_wp2_with fail
        refine (spec_l01Take s k _ hk hs).mono ?_
        rintro e w1 ⟨rfl, b1⟩
        rw [HC.out]
        go_wp2
        go_ret3
        rw [HV.out]
        exact ⟨rfl, b1⟩
      all_goals
        have HV := Lib.hid (trV_bad s k _ ((trC_in s k h1 hk).trans hc) (by decide))
        have HC := Lib.hid hc
        clear hc
        go_enter Tryd.func23, Tryd.ntmps23
        go_wp2_with fail
        refine (spec_l01In _ _ _ _).mono ?_
        rintro e w' ⟨rfl, rfl⟩
        go_wp2_with fail
        refine (spec_l01Take s k _ hk hs).mono ?_
        rintro e w1 ⟨rfl, b1⟩
        rw [HC.out]
        go_wp2
        go_ret3
        rw [HV.out]
        exact ⟨rfl, b1⟩
    · have h2' : inB at' 0 ((s.size : Int) - 1) = false := by simpa using h2
      have hn : ¬ (0 ≤ at' ∧ at' < s.size) := by intro h; exact h2 (by simp [inB]; omega)
      have HV := Lib.hid (trV_bad s at' 8 (by simp only [trC, h1, if_false, hn]) (by decide))
      clear h2 hn
      go_enter Tryd.func23, Tryd.ntmps23
      go_wp2_with fail
      refine (spec_l01In _ _ _ _).mono ?_
      rintro e w' ⟨rfl, rfl⟩
      go_wp2
      go_ret3
      rw [HV.out]
      exact ⟨rfl, Below.refl _ _⟩

/-- What the program's runeOf returns at an offset inside. -/
def roV (s : ByteArray) (k : Nat) : Value := .tuple #[.int .i64 (takeR s k), .int .i64 (if takeC s k = 0 then takeNext s k else 0), .int .i64 (takeC s k)]
theorem roV_ok (s : ByteArray) (k : Nat) (h : takeC s k = 0) : roV s k = .tuple #[.int .i64 (takeR s k), .int .i64 (takeNext s k), .int .i64 0] := by simp [roV, h]
theorem roV_bad (s : ByteArray) (k : Nat) (c : Int) (h : takeC s k = c) (h0 : c ≠ 0) : roV s k = .tuple #[.int .i64 0, .int .i64 0, .int .i64 c] := by simp [roV, takeR, h, h0]

set_option maxRecDepth 100000 in
theorem impl_runeOf (s : ByteArray) (k : Nat) (a b : Addr) (w : World) (hk : k < s.size) (hs : s.size ≤ 1048576) (hS : Sents w a b) : Calls Tryd.prog 47 #[.string s, .int .i64 k] w fun e w' => e = .returned (roV s k) ∧ Below w.heap.size w w' := by
  have HS := Lib.hid hS
  clear hS
  have hN := takeN_le s k
  have hR := takeR_le s k
  rcases takeC_cases s k with hc | hc | hc
  · have HV := Lib.hid (roV_ok s k hc)
    have HE : Hid (errV k a b (takeC s k) = .nilIface) := Lib.hid (by rw [hc]; rfl)
    have HX : Hid (takeNext s k = k + takeN s k) := Lib.hid (by simp [takeNext, hc])
    clear hc
    go_enter Tryd.func47, Tryd.ntmps47
    go_wp2_with fail
    refine (impl_runeAt s k a b _ hk hs HS.out).mono ?_
    rintro e w1 ⟨rfl, b1⟩
    rw [HE.out, HX.out]
    rw [HX.out] at HV
    go_wp2
    go_ret3
    rw [HV.out]
    exact ⟨rfl, b1⟩
  · have HV := Lib.hid (roV_bad s k _ hc (by decide))
    have HE : Hid (errV k a b (takeC s k) = faultV k a) := Lib.hid (by rw [hc]; rfl)
    clear hc
    go_enter Tryd.func47, Tryd.ntmps47
    go_wp2_with fail
    refine (impl_runeAt s k a b _ hk hs HS.out).mono ?_
    rintro e w1 ⟨rfl, b1⟩
    rw [HE.out]
    have hF := Lib.hid (faultCode_short k a b w1 (HS.out.keep b1))
    unfold faultV at *
    go_wp2_with fail
    refine hF.out.mono ?_
    rintro e w2 ⟨rfl, b2⟩
    go_wp2
    go_ret3
    rw [HV.out]
    exact ⟨rfl, b1.trans (b2.mono b1.size)⟩
  · have HV := Lib.hid (roV_bad s k _ hc (by decide))
    have HE : Hid (errV k a b (takeC s k) = faultV k b) := Lib.hid (by rw [hc]; rfl)
    clear hc
    go_enter Tryd.func47, Tryd.ntmps47
    go_wp2_with fail
    refine (impl_runeAt s k a b _ hk hs HS.out).mono ?_
    rintro e w1 ⟨rfl, b1⟩
    rw [HE.out]
    have hF := Lib.hid (faultCode_utf k a b w1 (HS.out.keep b1))
    unfold faultV at *
    go_wp2_with fail
    refine hF.out.mono ?_
    rintro e w2 ⟨rfl, b2⟩
    go_wp2
    go_ret3
    rw [HV.out]
    exact ⟨rfl, b1.trans (b2.mono b1.size)⟩

set_option maxRecDepth 100000 in
theorem impl_TakeRune (s : ByteArray) (at' : Int) (a b : Addr) (w : World) (hs : s.size ≤ 1048576) (hS : Sents w a b) : Calls Tryd.prog 16 #[.string s, .int .i64 at'] w fun e w' => e = .returned (trV s at') ∧ Below w.heap.size w w' := by
  have HS := Lib.hid hS
  clear hS
  by_cases h1 : 65536 < s.size
  · have HV := Lib.hid (trV_bad s at' 2 (by simp [trC, h1]) (by decide))
    go_enter Tryd.func16, Tryd.ntmps16
    go_wp2
    go_ret3
    rw [HV.out]
    exact ⟨rfl, Below.refl _ _⟩
  · have h1' : ¬ (65536 : Int) < (s.size : Int) := by omega
    by_cases i0 : 0 ≤ at'
    · by_cases i1 : at' < s.size
      · obtain ⟨k, rfl⟩ := Int.eq_ofNat_of_zero_le i0
        have hk : k < s.size := by omega
        have d0 : decide ((k : Int) < 0) = false := by simp
        have d1 : decide ((s.size : Int) ≤ (k : Int)) = false := by simp; omega
        have HV : Hid (roV s k = trV s (k : Int)) := Lib.hid (by
          rcases takeC_cases s k with hc | hc | hc
          · rw [roV_ok s k hc, trV_in s k h1 hk hc, takeNext, takeN, hc]; simp
          · rw [roV_bad s k _ hc (by decide), trV_bad s k _ ((trC_in s k h1 hk).trans hc) (by decide)]
          · rw [roV_bad s k _ hc (by decide), trV_bad s k _ ((trC_in s k h1 hk).trans hc) (by decide)])
        have HR := Lib.hid (fun w h => impl_runeOf s k a b w hk hs h)
        rw [HV.out] at HR
        unfold trV at HR ⊢
        clear HV
        go_enter Tryd.func16, Tryd.ntmps16
        go_wp2_with fail
        refine (HR.out _ HS.out).mono ?_
        rintro e w1 ⟨rfl, b1⟩
        go_wp2
        go_ret3
        exact ⟨rfl, b1⟩
      · have HV := Lib.hid (trV_bad s at' 8 (by simp only [trC, h1, if_false, i1, and_false]) (by decide))
        have d0 : decide (at' < 0) = false := by simp; omega
        go_enter Tryd.func16, Tryd.ntmps16
        go_wp2
        go_ret3
        rw [HV.out]
        exact ⟨rfl, Below.refl _ _⟩
    · have HV := Lib.hid (trV_bad s at' 8 (by simp only [trC, h1, if_false, i0, false_and]) (by decide))
      go_enter Tryd.func16, Tryd.ntmps16
      go_wp2
      go_ret3
      rw [HV.out]
      exact ⟨rfl, Below.refl _ _⟩

end Go.Proofs.YtdckjhobikfggaaDoor
