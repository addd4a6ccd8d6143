/- TakeRune: contracts of the program's functions leadByte, runeAt, and of utf8.RuneLen. The sentinels lie as the program's text lays them. -/
import Derived.Test.YtdckjhobikfggaaDoorTakeM
import Derived.Test.YtdckjhobikfggaaDoorErrIs
import Derived.Deep.QuietTactic
import Derived.BigQuiet
namespace Go.Proofs.YtdckjhobikfggaaDoor
open Go.RowKit

def leadK (b : Int) : Int := if leadM b < 0 then 0 else leadM b
def leadOK (b : Int) : Bool := decide (0 ≤ leadM b)
theorem impl_leadByte (b : Int) (w : World) (h0 : 0 ≤ b) (h1 : b < 256) : Calls Tryd.prog 100 #[.int .u8 b] w fun e w' => e = .returned (.tuple #[.int .i32 (leadR b), .int .i64 (leadK b), .bool (leadOK b)]) ∧ w = w' := by
  have key : (b < 128 ∧ leadM b = 0 ∧ leadR b = b) ∨ (128 ≤ b ∧ b < 192 ∧ leadM b = -1 ∧ leadR b = 0) ∨ (192 ≤ b ∧ b < 224 ∧ leadM b = 1 ∧ leadR b = b - 192) ∨ (224 ≤ b ∧ b < 240 ∧ leadM b = 2 ∧ leadR b = b - 224) ∨
      (240 ≤ b ∧ b < 248 ∧ leadM b = 3 ∧ leadR b = b - 240) ∨ (248 ≤ b ∧ leadM b = -1 ∧ leadR b = 0) := by
    simp only [leadM, leadR]
    repeat' split
    all_goals omega
  rcases key with ⟨k1, e1, e2⟩ | ⟨k1, k2, e1, e2⟩ | ⟨k1, k2, e1, e2⟩ | ⟨k1, k2, e1, e2⟩ | ⟨k1, k2, e1, e2⟩ | ⟨k1, e1, e2⟩
  all_goals
    have E1 := Lib.hid e1
    have E2 := Lib.hid e2
    clear e1 e2
    go_enter Tryd.func100, Tryd.ntmps100
    go_wp2
    go_ret3
    rw [E2.out, leadK, leadOK, E1.out]
    exact ⟨by simp, rfl⟩

def runeLen (r : Int) : Int := if okB r = true then encLen r else -1
theorem utf8_RuneLen (r : Int) (w : World) : Calls Tryd.prog 101 #[.int .i32 r] w fun e w' => e = .returned (.int .i64 (runeLen r)) ∧ w = w' := by
  have key : (r < 0 ∧ runeLen r = -1) ∨ (0 ≤ r ∧ r ≤ 127 ∧ runeLen r = 1) ∨ (127 < r ∧ r ≤ 2047 ∧ runeLen r = 2) ∨ (2047 < r ∧ r < 55296 ∧ runeLen r = 3) ∨ (55296 ≤ r ∧ r ≤ 57343 ∧ runeLen r = -1) ∨ (57343 < r ∧ r ≤ 65535 ∧ runeLen r = 3) ∨ (65535 < r ∧ r ≤ 1114111 ∧ runeLen r = 4) ∨ (1114111 < r ∧ runeLen r = -1) := by
    by_cases h : okB r = true
    · have ⟨h0, h1, h2⟩ := okB_true h
      simp only [runeLen, h, if_true, encLen]
      repeat' split
      all_goals omega
    · have hn : ¬ (0 ≤ r ∧ r ≤ 1114111 ∧ (r < 55296 ∨ 57343 < r)) := fun ⟨a, b, c⟩ => h (okB_mk a b c)
      have hv : runeLen r = -1 := by rw [runeLen, if_neg h]
      rw [hv]
      omega
  rcases key with ⟨k1, e1⟩ | ⟨k1, k2, e1⟩ | ⟨k1, k2, e1⟩ | ⟨k1, k2, e1⟩ | ⟨k1, k2, e1⟩ | ⟨k1, k2, e1⟩ | ⟨k1, k2, e1⟩ | ⟨k1, e1⟩
  all_goals
    have E1 := Lib.hid e1
    clear e1
    go_enter Tryd.func101, Tryd.ntmps101
    go_wp2
    go_ret
    rw [E1.out]
    exact ⟨rfl, rfl⟩

/-- The place behind the character, or 0. -/
def takeNext (s : ByteArray) (k : Nat) : Int := if takeC s k = 0 then k + takeN s k else 0
/-- The error beside a code. -/
def errV (k : Nat) (a b : Addr) (c : Int) : Value := if c = 0 then .nilIface else if c = 13 then faultV k a else faultV k b

set_option maxHeartbeats 1000000 in
theorem impl_runeAt (s : ByteArray) (k : Nat) (a b : Addr) (w : World) (hk : k < s.size) (hs : s.size ≤ 1048576) (hS : Sents w a b) : Calls Tryd.prog 76 #[.string s, .int .i64 k] w fun e w' => e = .returned (.tuple #[.int .i32 (takeR s k), .int .i64 (takeNext s k), errV k a b (takeC s k)]) ∧ Below w.heap.size w w' := by
  have hb := byteAt_le s k
  have he := byteAt_eq s k hk
  have hm := leadM_le (byteAt s k)
  have hr := leadR_le (byteAt s k) hb.1
  have hk0 : (0 : Int) ≤ (k : Int) := by omega
  have hk1 : (k : Int) < (s.size : Int) := by omega
  obtain ⟨c1, c2, _, _, _⟩ := hS
  rw [he] at hb
  have fin16 : Hid (∀ h : takeC s k = 16, Value.tuple #[.int .i32 (takeR s k), .int .i64 (takeNext s k), errV k a b (takeC s k)] = .tuple #[.int .i32 0, .int .i64 0, faultV k b]) := Lib.hid (fun h => by simp [takeR, takeNext, errV, h])
  have fin13 : Hid (∀ h : takeC s k = 13, Value.tuple #[.int .i32 (takeR s k), .int .i64 (takeNext s k), errV k a b (takeC s k)] = .tuple #[.int .i32 0, .int .i64 0, faultV k a]) := Lib.hid (fun h => by simp [takeR, takeNext, errV, h])
  by_cases hl : leadM (byteAt s k) < 0
  · have HC := Lib.hid (takeC_lead s k hl)
    have e0 : leadOK (s[k].toNat : Int) = false := by rw [← he]; simp [leadOK]; omega
    clear he hl hm hr
    go_enter Tryd.func76, Tryd.ntmps76
    go_wp2_with fail
    refine (impl_leadByte _ _ (by omega) (by omega)).mono ?_
    rintro e w' ⟨rfl, rfl⟩
    go_wp2_with fail
    go_quiet (fail)
    go_wp2
    go_ret3
    rw [fin16.out HC.out]
    exact ⟨rfl, below_drewN (Below.refl _ _) _⟩
  · obtain ⟨m, hm'⟩ := Int.eq_ofNat_of_zero_le (show 0 ≤ leadM (byteAt s k) by omega)
    have hm3 : m ≤ 3 := by omega
    have hTM : takeM s k = m := by simp [takeM, hm']
    have HTM := Lib.hid hTM
    have HL : Hid (0 ≤ leadM (byteAt s k)) := Lib.hid (by omega)
    have HM := Lib.hid hm'
    have HM2 : Hid (leadK (s[k].toNat : Int) = (m : Int)) := Lib.hid (by rw [← he]; simp [leadK, hm']; omega)
    have e0 : leadOK (s[k].toNat : Int) = true := by rw [← he]; simp [leadOK]; omega
    obtain ⟨L, hL⟩ : ∃ L, leadR (byteAt s k) = L := ⟨_, rfl⟩
    have hL0 : 0 ≤ L ∧ L ≤ 127 := by omega
    have HLR : Hid (leadR (s[k].toNat : Int) = L) := Lib.hid (by rw [← he]; exact hL)
    have HLV : Hid (takeV s k = contR s m (k + 1) L) := Lib.hid (by simp [takeV, hTM, hL])
    clear he hl hm hr hm' hTM hL
    go_enter Tryd.func76, Tryd.ntmps76
    go_wp2_with fail
    refine (impl_leadByte _ _ (by omega) (by omega)).mono ?_
    rintro e w' ⟨rfl, rfl⟩
    rw [HM2.out, HLR.out]
    go_wp2
    go_loop [7, 10, 29] (fun r p i => ∃ (j rem : Nat) (R : Int), j ≤ m ∧ k + 1 + j ≤ s.size ∧ r = .int .i32 R ∧ p = .int .i64 ((k + 1 + j : Nat) : Int) ∧ i = .int .i64 j ∧ 0 ≤ R ∧ R ≤ topR j ∧ Hid (j + rem = m) ∧ Hid (takeV s k = contR s rem (k + 1 + j) R) ∧ Hid (contC s m (k + 1) = contC s rem (k + 1 + j))) (fun _ _ i => m - (intOf i).toNat)
    case atStart => exact ⟨0, m, L, Nat.zero_le _, by omega, rfl, by go_num, rfl, hL0.1, hL0.2, Lib.hid (by omega), HLV, Lib.hid rfl⟩
    case round =>
      obtain ⟨j, rem, R, hjm, hjs, rfl, rfl, rfl, hR0, hR1, HJ, HV, HC⟩ := hrel
      have ht := topR_le j
      generalize hp : k + 1 + j = p at *
      have HP := Lib.hid hp
      have hp1 : p ≤ k + 4 := by omega
      have hp0 : k + 1 ≤ p := by omega
      clear hp
      by_cases hlt : j < m
      · obtain ⟨rem, rfl⟩ : ∃ q, rem = q + 1 := ⟨rem - 1, by have := HJ.out; omega⟩
        have hj2 : (j : Int) < (m : Int) := by omega
        by_cases hend : p = s.size
        · have e1 : ((p : Int) == (s.size : Int)) = true := beq_iff_eq.2 (by omega)
          have HT : Hid (takeC s k = 13) := Lib.hid (takeC_cont s k HL.out 13 (by rw [HTM.out, HC.out, contC_end s rem _ (by omega)]) (by decide))
          clear hend
          go_wp2_with fail
          go_quiet (fail)
          go_wp2
          go_ret3
          rw [fin13.out HT.out]
          exact ⟨rfl, below_drewN (Below.refl _ _) _⟩
        · have e1 : ((p : Int) == (s.size : Int)) = false := beq_eq_false_iff_ne.2 (by omega)
          have hkj : p < s.size := by omega
          have hkj2 : (p : Int) < (s.size : Int) := by omega
          have hby := byteAt_eq s p hkj
          have hbl := byteAt_le s p
          rw [hby] at hbl
          by_cases hin : 128 ≤ (s[p].toNat : Int) ∧ (s[p].toNat : Int) ≤ 191
          · obtain ⟨i1, i2⟩ := hin
            have HV2 : Hid (takeV s k = contR s rem (k + 1 + (j + 1)) (R * 64 + ((s[p].toNat : Int) - 128))) := Lib.hid (by
              rw [HV.out, contR, hby, show k + 1 + (j + 1) = p + 1 by have := HP.out; omega])
            have HC2 : Hid (contC s m (k + 1) = contC s rem (k + 1 + (j + 1))) := Lib.hid (by
              rw [HC.out, contC_step s rem p hkj (by rw [hby]; exact ⟨i1, i2⟩), show k + 1 + (j + 1) = p + 1 by have := HP.out; omega])
            have hR2 := topR_succ j (by omega) R (s[p].toNat - 128) hR1 (by omega)
            have hpp : Hid (p + 1 = k + 1 + (j + 1)) := Lib.hid (by have := HP.out; omega)
            have d1 : decide ((s[p].toNat : Int) < 128) = false := by simp; omega
            have d2 : decide (191 < (s[p].toNat : Int)) = false := by simp; omega
            clear hby HV HC hend
            go_wp2
            go_round
            case rel => exact ⟨j + 1, rem, _, by omega, by have := HP.out; omega, rfl, by rw [← hpp.out]; go_num, by go_num, by omega, hR2, Lib.hid (by have := HJ.out; omega), HV2, HC2⟩
            case measure => simp [intOf]; omega
          · have HT : Hid (takeC s k = 16) := Lib.hid (takeC_cont s k HL.out 16 (by rw [HTM.out, HC.out, contC_bad s rem _ hkj (by rw [hby]; exact hin)]) (by decide))
            clear hby HV HC hend
            by_cases d0 : (s[p].toNat : Int) < 128
            · clear hin
              go_wp2_with fail
              go_quiet (fail)
              go_wp2
              go_ret3
              rw [fin16.out HT.out]
              exact ⟨rfl, below_drewN (Below.refl _ _) _⟩
            · have d1 : decide ((s[p].toNat : Int) < 128) = false := by simp; omega
              have d2 : (191 : Int) < (s[p].toNat : Int) := by omega
              clear hin
              go_wp2_with fail
              go_quiet (fail)
              go_wp2
              go_ret3
              rw [fin16.out HT.out]
              exact ⟨rfl, below_drewN (Below.refl _ _) _⟩
      · have hr0 : rem = 0 := by have := HJ.out; omega
        have hjm2 : j = m := by omega
        have hj3 : ¬ (j : Int) < (m : Int) := by omega
        have HV2 : Hid (takeV s k = R) := Lib.hid (by rw [HV.out, hr0]; rfl)
        have HC2 : Hid (takeC s k = if takeOK s k = true then 0 else 16) := Lib.hid (takeC_end s k HL.out (by rw [HTM.out, HC.out, hr0]; rfl))
        have HPM : Hid ((p : Int) - (k : Int) = (m : Int) + 1) := Lib.hid (by have := HP.out; omega)
        clear hr0 HV HC hjm2
        by_cases hn : runeLen R = (m : Int) + 1
        · have hok : okB R = true := by
            by_cases h : okB R = true
            · exact h
            · simp [runeLen, h] at hn; omega
          have hn2 : encLen R = (m : Int) + 1 := by simpa [runeLen, hok] using hn
          have HT : Hid (takeC s k = 0) := Lib.hid (by rw [HC2.out, if_pos (by simp [takeOK, HV2.out, hok, HM.out, hn2])])
          have HF : Hid (Value.tuple #[.int .i32 (takeR s k), .int .i64 (takeNext s k), errV k a b (takeC s k)] = .tuple #[.int .i32 R, .int .i64 (p : Int), .nilIface]) := Lib.hid (by
            have : takeNext s k = (p : Int) := by simp [takeNext, takeN, HT.out, HM.out]; have := HPM.out; omega
            rw [this]; simp [takeR, errV, HT.out, HV2.out])
          have e2 : (runeLen R != (p : Int) - (k : Int)) = false := by rw [HPM.out, hn]; simp
          clear hn hn2
          go_wp2_with fail
          refine (utf8_RuneLen _ _).mono ?_
          rintro e w' ⟨rfl, rfl⟩
          go_wp2
          go_ret3
          rw [HF.out]
          exact ⟨rfl, Below.refl _ _⟩
        · have HT : Hid (takeC s k = 16) := Lib.hid (by
            rw [HC2.out, if_neg]
            intro h
            simp only [takeOK, HV2.out, HM.out, Bool.and_eq_true, decide_eq_true_eq] at h
            exact hn (by simp [runeLen, h.1, h.2]))
          have e2 : (runeLen R != (p : Int) - (k : Int)) = true := by rw [HPM.out]; simpa using hn
          clear hn
          go_wp2_with fail
          refine (utf8_RuneLen _ _).mono ?_
          rintro e w' ⟨rfl, rfl⟩
          go_wp2_with fail
          go_quiet (fail)
          go_wp2
          go_ret3
          rw [fin16.out HT.out]
          exact ⟨rfl, below_drewN (Below.refl _ _) _⟩

end Go.Proofs.YtdckjhobikfggaaDoor
