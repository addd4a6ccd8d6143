/- How a range over a string steps, against the plain function that decodes one character: no program in sight. -/
import Derived.Test.YtdckjhobikfggaaDoorTakeM
namespace Go.Proofs.YtdckjhobikfggaaDoor

def bN (s : ByteArray) (j : Nat) : Nat := (s.data.toList.getD j 0).toNat
theorem byteAt_bN (s : ByteArray) (j : Nat) : byteAt s j = (bN s j : Int) := rfl
theorem get_bN (s : ByteArray) (j : Nat) : (s.get! j).toNat = bN s j := by
  obtain ⟨d⟩ := s
  show (d[j]!).toNat = (d.toList.getD j 0).toNat
  rw [getElem!_def]
  simp only [List.getD, Array.getElem?_toList]
  cases d[j]? <;> rfl
theorem bN_lt (s : ByteArray) (j : Nat) : bN s j < 256 := (s.data.toList.getD j 0).toNat_lt

def contB (s : ByteArray) (p : Nat) : Bool := decide (p < s.size) && bN s p / 64 == 2
theorem contB_iff (s : ByteArray) (p : Nat) : contB s p = true ↔ p < s.size ∧ 128 ≤ byteAt s p ∧ byteAt s p ≤ 191 := by
  have := bN_lt s p
  rw [byteAt_bN]
  simp [contB]
  omega
theorem contC_succ (s : ByteArray) (m p : Nat) : contC s (m + 1) p = 0 ↔ contB s p = true ∧ contC s m (p + 1) = 0 := by
  rw [contB_iff]
  by_cases h1 : p < s.size
  · by_cases h2 : 128 ≤ byteAt s p ∧ byteAt s p ≤ 191
    · rw [contC_step s m p h1 h2]; simp [h1, h2]
    · rw [contC_bad s m p h1 h2]; simp [h2]
  · rw [contC_end s m p h1]; simp [h1]

theorem decode_bN (s : ByteArray) (k : Nat) : Utf8.decode s k =
    (if bN s k < 128 then (bN s k, 1)
    else if bN s k / 32 == 6 && contB s (k + 1) then
      if bN s k % 32 * 64 + bN s (k + 1) % 64 ≥ 128 then (bN s k % 32 * 64 + bN s (k + 1) % 64, 2) else (65533, 1)
    else if bN s k / 16 == 14 && contB s (k + 1) && contB s (k + 2) then
      if bN s k % 16 * 4096 + bN s (k + 1) % 64 * 64 + bN s (k + 2) % 64 ≥ 2048 && Utf8.valid (bN s k % 16 * 4096 + bN s (k + 1) % 64 * 64 + bN s (k + 2) % 64 : Nat) then (bN s k % 16 * 4096 + bN s (k + 1) % 64 * 64 + bN s (k + 2) % 64, 3) else (65533, 1)
    else if bN s k / 8 == 30 && contB s (k + 1) && contB s (k + 2) && contB s (k + 3) then
      if bN s k % 8 * 262144 + bN s (k + 1) % 64 * 4096 + bN s (k + 2) % 64 * 64 + bN s (k + 3) % 64 ≥ 65536 && Utf8.valid (bN s k % 8 * 262144 + bN s (k + 1) % 64 * 4096 + bN s (k + 2) % 64 * 64 + bN s (k + 3) % 64 : Nat) then (bN s k % 8 * 262144 + bN s (k + 1) % 64 * 4096 + bN s (k + 2) % 64 * 64 + bN s (k + 3) % 64, 4) else (65533, 1)
    else (65533, 1)) := by
  unfold Utf8.decode contB
  simp only [get_bN, Nat.add_zero, Utf8.runeError]

/-- What a range over a string yields at a place, and how far it steps. -/
theorem decode_take (s : ByteArray) (k : Nat) : Utf8.decode s k = if takeC s k = 0 then ((takeR s k).toNat, (takeN s k).toNat) else (65533, 1) := by
  have h0 := bN_lt s k
  have hb0 := byteAt_bN s k
  have hb1 := byteAt_bN s (k + 1)
  have hb2 := byteAt_bN s (k + 2)
  have hb3 := byteAt_bN s (k + 3)
  have cases : bN s k < 128 ∨ (128 ≤ bN s k ∧ bN s k < 192) ∨ (192 ≤ bN s k ∧ bN s k < 224) ∨ (224 ≤ bN s k ∧ bN s k < 240) ∨ (240 ≤ bN s k ∧ bN s k < 248) ∨ 248 ≤ bN s k := by omega
  rw [decode_bN]
  rcases cases with c | ⟨c, c'⟩ | ⟨c, c'⟩ | ⟨c, c'⟩ | ⟨c, c'⟩ | c
  · have hm : leadM (byteAt s k) = 0 := by rw [hb0]; unfold leadM; rw [if_pos (by omega)]
    have hr : leadR (byteAt s k) = bN s k := by rw [hb0]; unfold leadR; rw [if_pos (by omega)]
    have hv : takeV s k = bN s k := by simp [takeV, takeM, hm, contR, hr]
    have hok : takeOK s k = true := by
      simp only [takeOK, hv, hm, Bool.and_eq_true, decide_eq_true_eq]
      exact ⟨okB_mk (by omega) (by omega) (by omega), by unfold encLen; rw [if_pos (by omega)]; rfl⟩
    have ht : takeC s k = 0 := by simp [takeC, hm, takeM, contC, hok]
    rw [if_pos c, if_pos ht]
    simp [takeR, takeN, ht, hv, hm]
  · have hm : leadM (byteAt s k) = -1 := by rw [hb0]; unfold leadM; rw [if_neg (by omega), if_pos (by omega)]
    have ht : takeC s k = 16 := takeC_lead s k (by omega)
    have e1 : (bN s k / 32 == 6) = false := by simp; omega
    have e2 : (bN s k / 16 == 14) = false := by simp; omega
    have e3 : (bN s k / 8 == 30) = false := by simp; omega
    rw [if_neg (by omega), ht, e1, e2, e3]; simp
  · have hm : leadM (byteAt s k) = 1 := by rw [hb0]; unfold leadM; rw [if_neg (by omega), if_neg (by omega), if_pos (by omega)]
    have hr : leadR (byteAt s k) = bN s k - 192 := by rw [hb0]; unfold leadR; rw [if_neg (by omega), if_neg (by omega), if_pos (by omega)]
    have hM : takeM s k = 1 := by simp [takeM, hm]
    have hC : contC s (takeM s k) (k + 1) = 0 ↔ contB s (k + 1) = true := by rw [hM, contC_succ]; simp [contC]
    have e1 : (bN s k / 32 == 6) = true := by simp; omega
    have e2 : (bN s k / 16 == 14) = false := by simp; omega
    have e3 : (bN s k / 8 == 30) = false := by simp; omega
    rw [if_neg (by omega), e1, e2, e3]
    by_cases h1 : contB s (k + 1) = true
    · have q1 := (contB_iff s (k + 1)).1 h1
      rw [hb1] at q1
      have hv : takeV s k = ((bN s k % 32 * 64 + bN s (k + 1) % 64 : Nat) : Int) := by
        simp only [takeV, hM, contR, hr, hb1]; omega
      have ht := takeC_end s k (by omega) (hC.2 h1)
      generalize bN s k % 32 * 64 + bN s (k + 1) % 64 = c at *
      have hc : c < 2048 := by
        have : takeV s k < 2048 := by simp only [takeV, hM, contR, hr, hb1]; omega
        omega
      by_cases g : 128 ≤ c
      · have hok : takeOK s k = true := by
          simp only [takeOK, hv, hm, Bool.and_eq_true, decide_eq_true_eq]
          exact ⟨okB_mk (by omega) (by omega) (by omega), by unfold encLen; rw [if_neg (by omega), if_pos (by omega)]; rfl⟩
        have ht0 : takeC s k = 0 := by rw [ht, if_pos hok]
        rw [if_pos ht0]
        simp [h1, g, takeR, takeN, ht0, hv, hm]
      · have hok : takeOK s k = false := by
          have : encLen (c : Int) = 1 := by unfold encLen; rw [if_pos (by omega)]
          simp [takeOK, hv, hm, this]
        have ht0 : takeC s k = 16 := by rw [ht, hok]; rfl
        rw [ht0]; simp [h1, g]
    · have h1' : contB s (k + 1) = false := by simpa using h1
      have ht0 : takeC s k ≠ 0 := by
        rw [takeC_cont s k (by omega) _ rfl (fun h => h1 (hC.1 h))]
        exact fun h => h1 (hC.1 h)
      rw [if_neg ht0]; simp [h1']
  · have hm : leadM (byteAt s k) = 2 := by rw [hb0]; unfold leadM; rw [if_neg (by omega), if_neg (by omega), if_neg (by omega), if_pos (by omega)]
    have hr : leadR (byteAt s k) = bN s k - 224 := by rw [hb0]; unfold leadR; rw [if_neg (by omega), if_neg (by omega), if_neg (by omega), if_pos (by omega)]
    have hM : takeM s k = 2 := by simp [takeM, hm]
    have hC : contC s (takeM s k) (k + 1) = 0 ↔ contB s (k + 1) = true ∧ contB s (k + 2) = true := by rw [hM, contC_succ, contC_succ]; simp [contC]
    have e1 : (bN s k / 32 == 6) = false := by simp; omega
    have e2 : (bN s k / 16 == 14) = true := by simp; omega
    have e3 : (bN s k / 8 == 30) = false := by simp; omega
    rw [if_neg (by omega), e1, e2, e3]
    by_cases h1 : contB s (k + 1) = true ∧ contB s (k + 2) = true
    · have q1 := (contB_iff s (k + 1)).1 h1.1
      have q2 := (contB_iff s (k + 2)).1 h1.2
      rw [hb1] at q1
      rw [hb2] at q2
      obtain ⟨c, hcd⟩ : ∃ c, c = bN s k % 16 * 4096 + bN s (k + 1) % 64 * 64 + bN s (k + 2) % 64 := ⟨_, rfl⟩
      have hv : takeV s k = (c : Int) := by
        simp only [takeV, hM, contR, hr, hb1, hb2]; omega
      have ht := takeC_end s k (by omega) (hC.2 h1)
      rw [← hcd]
      have hc : c < 65536 := by
        have : takeV s k < 65536 := by simp only [takeV, hM, contR, hr, hb1, hb2]; omega
        omega
      simp only [okB_valid]
      by_cases g : 2048 ≤ c
      · have he : encLen (c : Int) = 3 := by unfold encLen; rw [if_neg (by omega), if_neg (by omega), if_pos (by omega)]
        by_cases hk : okB (c : Int) = true
        · have hok : takeOK s k = true := by simp [takeOK, hv, hm, he, hk]
          have ht0 : takeC s k = 0 := by rw [ht, if_pos hok]
          rw [if_pos ht0]
          simp [h1, g, hk, takeR, takeN, ht0, hv, hm]
        · have hk' : okB (c : Int) = false := by simpa using hk
          have hok : takeOK s k = false := by simp [takeOK, hv, hk']
          have ht0 : takeC s k = 16 := by rw [ht, hok]; rfl
          rw [ht0]; simp [h1, hk']
      · have hok : takeOK s k = false := by
          have : encLen (c : Int) ≠ 3 := by unfold encLen; split <;> (try split) <;> omega
          simp [takeOK, hv, hm, this]
        have ht0 : takeC s k = 16 := by rw [ht, hok]; rfl
        rw [ht0]; simp [h1, g]
    · have ht0 : takeC s k ≠ 0 := by
        rw [takeC_cont s k (by omega) _ rfl (fun h => h1 (hC.1 h))]
        exact fun h => h1 (hC.1 h)
      have h1' : (contB s (k + 1) && contB s (k + 2)) = false := by simpa using h1
      rw [if_neg ht0]; simp [h1']
  · have hm : leadM (byteAt s k) = 3 := by rw [hb0]; unfold leadM; rw [if_neg (by omega), if_neg (by omega), if_neg (by omega), if_neg (by omega), if_pos (by omega)]
    have hr : leadR (byteAt s k) = bN s k - 240 := by rw [hb0]; unfold leadR; rw [if_neg (by omega), if_neg (by omega), if_neg (by omega), if_neg (by omega), if_pos (by omega)]
    have hM : takeM s k = 3 := by simp [takeM, hm]
    have hC : contC s (takeM s k) (k + 1) = 0 ↔ contB s (k + 1) = true ∧ contB s (k + 2) = true ∧ contB s (k + 3) = true := by rw [hM, contC_succ, contC_succ, contC_succ]; simp [contC]
    have e1 : (bN s k / 32 == 6) = false := by simp; omega
    have e2 : (bN s k / 16 == 14) = false := by simp; omega
    have e3 : (bN s k / 8 == 30) = true := by simp; omega
    rw [if_neg (by omega), e1, e2, e3]
    by_cases h1 : contB s (k + 1) = true ∧ contB s (k + 2) = true ∧ contB s (k + 3) = true
    · have q1 := (contB_iff s (k + 1)).1 h1.1
      have q2 := (contB_iff s (k + 2)).1 h1.2.1
      have q3 := (contB_iff s (k + 3)).1 h1.2.2
      rw [hb1] at q1
      rw [hb2] at q2
      rw [hb3] at q3
      obtain ⟨c, hcd⟩ : ∃ c, c = bN s k % 8 * 262144 + bN s (k + 1) % 64 * 4096 + bN s (k + 2) % 64 * 64 + bN s (k + 3) % 64 := ⟨_, rfl⟩
      have hv : takeV s k = (c : Int) := by
        simp only [takeV, hM, contR, hr, hb1, hb2, hb3]; omega
      have ht := takeC_end s k (by omega) (hC.2 h1)
      rw [← hcd]
      simp only [okB_valid]
      by_cases g : 65536 ≤ c
      · have he : encLen (c : Int) = 4 := by unfold encLen; rw [if_neg (by omega), if_neg (by omega), if_neg (by omega)]
        by_cases hk : okB (c : Int) = true
        · have hok : takeOK s k = true := by simp [takeOK, hv, hm, he, hk]
          have ht0 : takeC s k = 0 := by rw [ht, if_pos hok]
          rw [if_pos ht0]
          simp [h1, g, hk, takeR, takeN, ht0, hv, hm]
        · have hk' : okB (c : Int) = false := by simpa using hk
          have hok : takeOK s k = false := by simp [takeOK, hv, hk']
          have ht0 : takeC s k = 16 := by rw [ht, hok]; rfl
          rw [ht0]; simp [h1, hk']
      · have hok : takeOK s k = false := by
          have : encLen (c : Int) ≠ 4 := by unfold encLen; split <;> (try split) <;> (try split) <;> omega
          simp [takeOK, hv, hm, this]
        have ht0 : takeC s k = 16 := by rw [ht, hok]; rfl
        rw [ht0]; simp [h1, g]
    · have ht0 : takeC s k ≠ 0 := by
        rw [takeC_cont s k (by omega) _ rfl (fun h => h1 (hC.1 h))]
        exact fun h => h1 (hC.1 h)
      have h1' : (contB s (k + 1) && contB s (k + 2) && contB s (k + 3)) = false := by
        rw [← Bool.not_eq_true]; intro h; exact h1 (by simpa [and_assoc] using h)
      rw [if_neg ht0]; simp [h1']
  · have hm : leadM (byteAt s k) = -1 := by rw [hb0]; unfold leadM; rw [if_neg (by omega), if_neg (by omega), if_neg (by omega), if_neg (by omega), if_neg (by omega)]
    have ht : takeC s k = 16 := takeC_lead s k (by omega)
    have e1 : (bN s k / 32 == 6) = false := by simp; omega
    have e2 : (bN s k / 16 == 14) = false := by simp; omega
    have e3 : (bN s k / 8 == 30) = false := by simp; omega
    rw [if_neg (by omega), ht, e1, e2, e3]; simp

end Go.Proofs.YtdckjhobikfggaaDoor
