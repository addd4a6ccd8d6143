/- TakeRune: contracts of the model's functions l01Long and l01Take. -/
import Derived.Test.YtdckjhobikfggaaDoorTakeM
namespace Go.Proofs.YtdckjhobikfggaaDoor
open Go.RowKit

theorem spec_l01Long (b : Int) (w : World) (h0 : 0 ≤ b) (h1 : b < 256) : Calls Tryd.prog 80 #[.int .i64 b] w fun e w' => e = .returned (.tuple #[.int .i64 (leadM b + 1), .int .i64 (leadR b)]) ∧ w = w' := by
  have key : (b < 128 ∧ leadM b = 0 ∧ leadR b = b) ∨ (128 ≤ b ∧ inB b 192 223 = true ∧ leadM b = 1 ∧ leadR b = b - 192) ∨ (128 ≤ b ∧ inB b 192 223 = false ∧ inB b 224 239 = true ∧ leadM b = 2 ∧ leadR b = b - 224) ∨
      (128 ≤ b ∧ inB b 192 223 = false ∧ inB b 224 239 = false ∧ inB b 240 247 = true ∧ leadM b = 3 ∧ leadR b = b - 240) ∨ (128 ≤ b ∧ inB b 192 223 = false ∧ inB b 224 239 = false ∧ inB b 240 247 = false ∧ leadM b = -1 ∧ leadR b = 0) := by
    simp only [inB, leadM, leadR, Bool.and_eq_true, Bool.and_eq_false_iff, decide_eq_true_eq, decide_eq_false_iff_not]
    repeat' split
    all_goals omega
  rcases key with ⟨k1, e1, e2⟩ | ⟨k1, k2, e1, e2⟩ | ⟨k1, k2, k3, e1, e2⟩ | ⟨k1, k2, k3, k4, e1, e2⟩ | ⟨k1, k2, k3, k4, e1, e2⟩
  all_goals
    have E1 := Lib.hid e1
    have E2 := Lib.hid e2
    clear e1 e2
    go_enter Tryd.func80, Tryd.ntmps80
    go_wp2_with (go_at_call 52; refine (spec_l01In _ _ _ _).mono ?_; rintro e w' ⟨rfl, rfl⟩)
    go_ret2
    rw [E1.out, E2.out]
    exact ⟨rfl, rfl⟩

set_option maxHeartbeats 1000000 in
theorem spec_l01Take (s : ByteArray) (k : Nat) (w : World) (hk : k < s.size) (hs : s.size ≤ 1048576) : Calls Tryd.prog 53 #[.string s, .int .i64 k] w fun e w' => e = .returned (.tuple #[.int .i64 (takeR s k), .int .i64 (takeN s k), .int .i64 (takeC s k)]) ∧ Below w.heap.size w w' := by
  have hb := byteAt_le s k
  have he := byteAt_eq s k hk
  have hm := leadM_le (byteAt s k)
  have hr := leadR_le (byteAt s k) hb.1
  have hk0 : (0 : Int) ≤ (k : Int) := by omega
  have hk1 : (k : Int) < (s.size : Int) := by omega
  have HE := Lib.hid he
  rw [he] at hb
  by_cases hl : leadM (byteAt s k) < 0
  · have HC := Lib.hid (takeC_lead s k hl)
    have HR : Hid (takeR s k = 0) := Lib.hid (by simp [takeR, HC.out])
    have HN : Hid (takeN s k = 0) := Lib.hid (by simp [takeN, HC.out])
    have e0 : ((leadM (s[k].toNat : Int) + 1) == 0) = true := by rw [← he]; exact beq_iff_eq.2 (by omega)
    clear he hl hm hr
    go_enter Tryd.func53, Tryd.ntmps53
    go_wp2_with fail
    refine (spec_l01Long _ _ (by omega) (by omega)).mono ?_
    rintro e w' ⟨rfl, rfl⟩
    go_wp2
    go_ret3
    rw [HC.out, HR.out, HN.out]
    exact ⟨rfl, Below.refl _ _⟩
  · obtain ⟨m, hm'⟩ := Int.eq_ofNat_of_zero_le (show 0 ≤ leadM (byteAt s k) by omega)
    have hm3 : m ≤ 3 := by omega
    have hTM : takeM s k = m := by simp [takeM, hm']
    have HTM := Lib.hid hTM
    have HL : Hid (0 ≤ leadM (byteAt s k)) := Lib.hid (by omega)
    have HM := Lib.hid hm'
    have HM2 : Hid (leadM (s[k].toNat : Int) = (m : Int)) := Lib.hid (by rw [← he]; exact hm')
    obtain ⟨L, hL⟩ : ∃ L, leadR (byteAt s k) = L := ⟨_, rfl⟩
    have hL0 : 0 ≤ L ∧ L ≤ 127 := by omega
    have HLR : Hid (leadR (s[k].toNat : Int) = L) := Lib.hid (by rw [← he]; exact hL)
    have HLV : Hid (takeV s k = contR s m (k + 1) L) := Lib.hid (by simp [takeV, hTM, hL])
    have e0 : (((m : Int) + 1) == 0) = false := beq_eq_false_iff_ne.2 (by omega)
    clear he hl hm hr hm' hTM hL
    go_enter Tryd.func53, Tryd.ntmps53
    go_wp2_with fail
    refine (spec_l01Long _ _ (by omega) (by omega)).mono ?_
    rintro e w' ⟨rfl, rfl⟩
    rw [HM2.out, HLR.out]
    go_wp2
    go_loop [8, 9] (fun r i => ∃ (j rem : Nat) (R : Int), 1 ≤ j ∧ j ≤ m + 1 ∧ k + j ≤ s.size ∧ r = .int .i64 R ∧ i = .int .i64 j ∧ 0 ≤ R ∧ R ≤ topR (j - 1) ∧ Hid (j + rem = m + 1) ∧ Hid (takeV s k = contR s rem (k + j) R) ∧ Hid (contC s m (k + 1) = contC s rem (k + j))) (fun _ i => m + 1 - (intOf i).toNat)
    case atStart => exact ⟨1, m, L, Nat.le_refl _, by omega, by omega, rfl, rfl, hL0.1, hL0.2, Lib.hid (by omega), HLV, Lib.hid rfl⟩
    case round =>
      obtain ⟨j, rem, R, hj1, hjm, hjs, rfl, rfl, hR0, hR1, HJ, HV, HC⟩ := hrel
      have ht := topR_le (j - 1)
      by_cases hlt : j ≤ m
      · obtain ⟨rem, rfl⟩ : ∃ q, rem = q + 1 := ⟨rem - 1, by have := HJ.out; omega⟩
        have hj2 : (j : Int) < (m : Int) + 1 := by omega
        by_cases hend : k + j = s.size
        · have e1 : (((k : Int) + (j : Int)) == (s.size : Int)) = true := beq_iff_eq.2 (by omega)
          have HT : Hid (takeC s k = 13) := Lib.hid (takeC_cont s k HL.out 13 (by rw [HTM.out, HC.out, contC_end s rem _ (by omega)]) (by decide))
          have HR : Hid (takeR s k = 0) := Lib.hid (by simp [takeR, HT.out])
          have HN : Hid (takeN s k = 0) := Lib.hid (by simp [takeN, HT.out])
          clear hend
          go_wp2
          go_ret3
          rw [HT.out, HR.out, HN.out]
          exact ⟨rfl, Below.refl _ _⟩
        · have e1 : (((k : Int) + (j : Int)) == (s.size : Int)) = false := beq_eq_false_iff_ne.2 (by omega)
          have hkj : k + j < s.size := by omega
          have hkj2 : (k : Int) + (j : Int) < (s.size : Int) := by omega
          have hkj3 : (0 : Int) ≤ (k : Int) + (j : Int) := by omega
          have hby := byteAt_eq s (k + j) hkj
          have hbl := byteAt_le s (k + j)
          rw [hby] at hbl
          by_cases hin : inB (s[k + j].toNat : Int) 128 191 = true
          · have ⟨i1, i2⟩ := inB_true hin
            have HV2 : Hid (takeV s k = contR s rem (k + (j + 1)) (R * 64 + s[k + j].toNat - 128)) := Lib.hid (by
              rw [HV.out, contR, hby, show k + j + 1 = k + (j + 1) by omega, show R * 64 + (s[k + j].toNat : Int) - 128 = R * 64 + ((s[k + j].toNat : Int) - 128) by omega])
            have HC2 : Hid (contC s m (k + 1) = contC s rem (k + (j + 1))) := Lib.hid (by
              rw [HC.out, contC_step s rem (k + j) hkj (by rw [hby]; exact ⟨i1, i2⟩), show k + j + 1 = k + (j + 1) by omega])
            have hR2 : R * 64 + (s[k + j].toNat : Int) - 128 ≤ topR (j + 1 - 1) := by
              have := topR_succ (j - 1) (by omega) R (s[k + j].toNat - 128) hR1 (by omega)
              rw [show j - 1 + 1 = j + 1 - 1 by omega] at this
              omega
            clear hby HV HC hend
            go_wp2_with (go_at_call 52; refine (spec_l01In _ _ _ _).mono ?_; rintro e w' ⟨rfl, rfl⟩)
            go_round
            case rel => exact ⟨j + 1, rem, _, by omega, by omega, by omega, rfl, by go_num, by omega, hR2, Lib.hid (by have := HJ.out; omega), HV2, HC2⟩
            case measure => simp [intOf]; omega
          · have hin' : inB (s[k + j].toNat : Int) 128 191 = false := by simpa using hin
            have HT : Hid (takeC s k = 16) := Lib.hid (takeC_cont s k HL.out 16 (by rw [HTM.out, HC.out, contC_bad s rem _ hkj (by rw [hby]; intro h; exact hin (by simpa [inB] using h))]) (by decide))
            have HR : Hid (takeR s k = 0) := Lib.hid (by simp [takeR, HT.out])
            have HN : Hid (takeN s k = 0) := Lib.hid (by simp [takeN, HT.out])
            clear hby HV HC hend hin
            go_wp2_with (go_at_call 52; refine (spec_l01In _ _ _ _).mono ?_; rintro e w' ⟨rfl, rfl⟩)
            go_ret3
            rw [HT.out, HR.out, HN.out]
            exact ⟨rfl, Below.refl _ _⟩
      · have hr0 : rem = 0 := by have := HJ.out; omega
        have hj3 : ¬ (j : Int) < (m : Int) + 1 := by omega
        have HV2 : Hid (takeV s k = R) := Lib.hid (by rw [HV.out, hr0]; rfl)
        have HC2 : Hid (takeC s k = if takeOK s k = true then 0 else 16) := Lib.hid (takeC_end s k HL.out (by rw [HTM.out, HC.out, hr0]; rfl))
        clear hr0 HV HC
        by_cases hok : okB R = true
        · have hsz := encLen_size R hok
          have HSZ := Lib.hid hsz
          by_cases hn : encLen R = (m : Int) + 1
          · have HT : Hid (takeC s k = 0) := Lib.hid (by rw [HC2.out, if_pos (by simp [takeOK, HV2.out, hok, HM.out, hn])])
            have HR : Hid (takeR s k = R) := Lib.hid (by simp [takeR, HT.out, HV2.out])
            have HN : Hid (takeN s k = (m : Int) + 1) := Lib.hid (by simp [takeN, HT.out, HM.out])
            have e2 : (((Utf8.encode R).size : Int) != (m : Int) + 1) = false := by rw [hsz, hn]; simp
            clear hsz hn
            go_wp2_with fail
            refine (spec_l01OK _ _).mono ?_
            rintro e w' ⟨rfl, rfl⟩
            go_wp2_with fail
            refine (spec_l01Put _ hok _).mono ?_
            rintro e w1 ⟨rfl, b1⟩
            go_wp2
            go_ret3
            rw [HT.out, HR.out, HN.out]
            exact ⟨rfl, b1⟩
          · have HT : Hid (takeC s k = 16) := Lib.hid (by rw [HC2.out, if_neg (by simp [takeOK, HV2.out, hok, HM.out, hn])])
            have HR : Hid (takeR s k = 0) := Lib.hid (by simp [takeR, HT.out])
            have HN : Hid (takeN s k = 0) := Lib.hid (by simp [takeN, HT.out])
            have e2 : (((Utf8.encode R).size : Int) != (m : Int) + 1) = true := by rw [hsz]; simpa using hn
            clear hsz hn
            go_wp2_with fail
            refine (spec_l01OK _ _).mono ?_
            rintro e w' ⟨rfl, rfl⟩
            go_wp2_with fail
            refine (spec_l01Put _ hok _).mono ?_
            rintro e w1 ⟨rfl, b1⟩
            go_wp2
            go_ret3
            rw [HT.out, HR.out, HN.out]
            exact ⟨rfl, b1⟩
        · have hok' : okB R = false := by simpa using hok
          have HT : Hid (takeC s k = 16) := Lib.hid (by rw [HC2.out, if_neg (by simp [takeOK, HV2.out, hok'])])
          have HR : Hid (takeR s k = 0) := Lib.hid (by simp [takeR, HT.out])
          have HN : Hid (takeN s k = 0) := Lib.hid (by simp [takeN, HT.out])
          clear hok
          go_wp2_with fail
          refine (spec_l01OK _ _).mono ?_
          rintro e w' ⟨rfl, rfl⟩
          go_wp2
          go_ret3
          rw [HT.out, HR.out, HN.out]
          exact ⟨rfl, Below.refl _ _⟩

end Go.Proofs.YtdckjhobikfggaaDoor
