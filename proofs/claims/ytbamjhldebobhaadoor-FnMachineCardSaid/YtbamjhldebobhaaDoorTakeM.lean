/- The plain function that decodes one character: no program in sight. -/
import Derived.Test.YtbamjhldebobhaaDoorRunesA
namespace Go.Proofs.YtbamjhldebobhaaDoor

/-- The byte at a place (0 behind the end). -/
def byteAt (s : ByteArray) (j : Nat) : Int := ((s.data.toList.getD j 0).toNat : Int)
theorem byteAt_eq (s : ByteArray) (j : Nat) (h : j < s.size) : byteAt s j = (s[j].toNat : Int) := by
  unfold byteAt
  rw [List.getD, List.getElem?_eq_getElem (by simpa using h)]
  rfl
theorem byteAt_le (s : ByteArray) (j : Nat) : 0 ≤ byteAt s j ∧ byteAt s j < 256 := by
  unfold byteAt; have := (s.data.toList.getD j 0).toNat_lt; omega

/-- How many bytes must follow a first byte (-1: it is none), and what it brings. -/
def leadM (b : Int) : Int := if b < 128 then 0 else if b < 192 then -1 else if b < 224 then 1 else if b < 240 then 2 else if b < 248 then 3 else -1
def leadR (b : Int) : Int := if b < 128 then b else if b < 192 then 0 else if b < 224 then b - 192 else if b < 240 then b - 224 else if b < 248 then b - 240 else 0
/-- The bytes that follow: the code (0: all is well) and the number. -/
def contC (s : ByteArray) : Nat → Nat → Int
  | 0, _ => 0
  | m + 1, p => if p < s.size then if 128 ≤ byteAt s p ∧ byteAt s p ≤ 191 then contC s m (p + 1) else 16 else 13
def contR (s : ByteArray) : Nat → Nat → Int → Int
  | 0, _, r => r
  | m + 1, p, r => contR s m (p + 1) (r * 64 + (byteAt s p - 128))
def encLen (r : Int) : Int := if r < 128 then 1 else if r < 2048 then 2 else if r < 65536 then 3 else 4
def takeM (s : ByteArray) (k : Nat) : Nat := (leadM (byteAt s k)).toNat
def takeV (s : ByteArray) (k : Nat) : Int := contR s (takeM s k) (k + 1) (leadR (byteAt s k))
def takeOK (s : ByteArray) (k : Nat) : Bool := okB (takeV s k) && decide (encLen (takeV s k) = leadM (byteAt s k) + 1)
/-- The code of the character at a place. -/
def takeC (s : ByteArray) (k : Nat) : Int :=
  if leadM (byteAt s k) < 0 then 16 else if contC s (takeM s k) (k + 1) = 0 then (if takeOK s k = true then 0 else 16) else contC s (takeM s k) (k + 1)

theorem leadM_le (b : Int) : -1 ≤ leadM b ∧ leadM b ≤ 3 := by unfold leadM; repeat' split <;> omega
theorem leadR_le (b : Int) (h0 : 0 ≤ b) : 0 ≤ leadR b ∧ leadR b ≤ 127 ∧ (0 < leadM b → leadR b ≤ 31) := by
  unfold leadR leadM; repeat' split <;> omega

/-- What the number may be behind i bytes that follow. -/
def topR : Nat → Int
  | 0 => 127
  | 1 => 8191
  | 2 => 524287
  | _ => 33554431
theorem topR_le (i : Nat) : topR i ≤ 33554431 := by unfold topR; split <;> omega
theorem topR_succ (i : Nat) (h : i < 3) (r c : Int) (hr : r ≤ topR i) (hc : c ≤ 63) : r * 64 + c ≤ topR (i + 1) := by
  have : i = 0 ∨ i = 1 ∨ i = 2 := by omega
  rcases this with rfl | rfl | rfl <;> simp [topR] at * <;> omega

/-- How it comes out. -/
theorem takeC_lead (s : ByteArray) (k : Nat) (h : leadM (byteAt s k) < 0) : takeC s k = 16 := by simp [takeC, h]
theorem takeC_cont (s : ByteArray) (k : Nat) (h : 0 ≤ leadM (byteAt s k)) (c : Int) (hc : contC s (takeM s k) (k + 1) = c) (h0 : c ≠ 0) : takeC s k = c := by
  simp [takeC, Int.not_lt.2 h, hc, h0]
theorem takeC_end (s : ByteArray) (k : Nat) (h : 0 ≤ leadM (byteAt s k)) (hc : contC s (takeM s k) (k + 1) = 0) : takeC s k = if takeOK s k = true then 0 else 16 := by
  simp [takeC, Int.not_lt.2 h, hc]
theorem contC_end (s : ByteArray) (m p : Nat) (h : ¬ p < s.size) : contC s (m + 1) p = 13 := by simp [contC, h]
theorem contC_bad (s : ByteArray) (m p : Nat) (h : p < s.size) (hb : ¬ (128 ≤ byteAt s p ∧ byteAt s p ≤ 191)) : contC s (m + 1) p = 16 := by simp [contC, h, hb]
theorem contC_step (s : ByteArray) (m p : Nat) (h : p < s.size) (hb : 128 ≤ byteAt s p ∧ byteAt s p ≤ 191) : contC s (m + 1) p = contC s m (p + 1) := by simp [contC, h, hb]
theorem contC_cases (s : ByteArray) : ∀ m p, contC s m p = 0 ∨ contC s m p = 13 ∨ contC s m p = 16
  | 0, _ => .inl rfl
  | m + 1, p => by
    unfold contC
    split
    · split
      · exact contC_cases s m (p + 1)
      · exact .inr (.inr rfl)
    · exact .inr (.inl rfl)
theorem takeC_cases (s : ByteArray) (k : Nat) : takeC s k = 0 ∨ takeC s k = 13 ∨ takeC s k = 16 := by
  unfold takeC
  split
  · exact .inr (.inr rfl)
  · split
    · split
      · exact .inl rfl
      · exact .inr (.inr rfl)
    · exact contC_cases s _ _

/-- What the model's function gives: the character and its length, or twice 0. -/
def takeR (s : ByteArray) (k : Nat) : Int := if takeC s k = 0 then takeV s k else 0
def takeN (s : ByteArray) (k : Nat) : Int := if takeC s k = 0 then leadM (byteAt s k) + 1 else 0

theorem encLen_size (r : Int) (h : okB r = true) : ((Utf8.encode r).size : Int) = encLen r := by
  have ⟨h0, h1, h2⟩ := okB_true h
  unfold encLen
  by_cases a : r < 128
  · rw [if_pos a, ← enc1 r h a]; rfl
  · rw [if_neg a]
    by_cases b : r < 2048
    · rw [if_pos b, ← enc2 r h (by omega) b]; rfl
    · rw [if_neg b]
      by_cases c : r < 65536
      · rw [if_pos c, ← enc3 r h (by omega) c]; rfl
      · rw [if_neg c, ← enc4 r h (by omega)]; rfl

theorem takeR_le (s : ByteArray) (k : Nat) : 0 ≤ takeR s k ∧ takeR s k ≤ 1114111 := by
  unfold takeR
  split
  · next h =>
    have hok : okB (takeV s k) = true := by
      unfold takeC at h
      split at h
      · cases h
      · split at h
        · split at h
          · next h' => simp [takeOK] at h'; exact h'.1
          · cases h
        · next h1 h2 => exact absurd h h2
    have := okB_true hok
    omega
  · omega
theorem takeN_le (s : ByteArray) (k : Nat) : 0 ≤ takeN s k ∧ takeN s k ≤ 4 := by
  have := leadM_le (byteAt s k)
  unfold takeN
  split <;> omega

end Go.Proofs.YtbamjhldebobhaaDoor
