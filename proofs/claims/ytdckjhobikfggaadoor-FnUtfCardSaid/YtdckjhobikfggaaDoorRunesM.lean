/- The characters of a whole string: the plain function. No program in sight. -/
import Derived.Test.YtdckjhobikfggaaDoorDecodeM
namespace Go.Proofs.YtdckjhobikfggaaDoor

def stepN (s : ByteArray) (k : Nat) : Nat := (takeN s k).toNat
/-- The characters from a place on up to the first fault; the fault's code (0: none) and place (0: none). -/
def runesZ (s : ByteArray) : Nat → Nat → List Int
  | 0, _ => []
  | f + 1, k => if k < s.size then if takeC s k = 0 then takeR s k :: runesZ s f (k + stepN s k) else [] else []
def runesC (s : ByteArray) : Nat → Nat → Int
  | 0, _ => 0
  | f + 1, k => if k < s.size then if takeC s k = 0 then runesC s f (k + stepN s k) else takeC s k else 0
def runesP (s : ByteArray) : Nat → Nat → Int
  | 0, _ => 0
  | f + 1, k => if k < s.size then if takeC s k = 0 then runesP s f (k + stepN s k) else k else 0

theorem takeN_pos (s : ByteArray) (k : Nat) (h : takeC s k = 0) : 1 ≤ stepN s k ∧ stepN s k ≤ 4 ∧ (stepN s k : Int) = takeN s k := by
  have hl := leadM_le (byteAt s k)
  have hn : ¬ leadM (byteAt s k) < 0 := by
    intro h'
    rw [takeC_lead s k h'] at h; cases h
  unfold stepN takeN
  rw [if_pos h]
  omega
theorem contC_fits (s : ByteArray) : ∀ m p, contC s m p = 0 → m = 0 ∨ p + m ≤ s.size
  | 0, _, _ => .inl rfl
  | m + 1, p, h => by
    have ⟨h1, h2⟩ := (contC_succ s m p).1 h
    have h3 := (contB_iff s p).1 h1
    rcases contC_fits s m (p + 1) h2 with rfl | h4
    · exact .inr (by omega)
    · exact .inr (by omega)
theorem take_fits (s : ByteArray) (k : Nat) (hk : k < s.size) (h : takeC s k = 0) : k + stepN s k ≤ s.size := by
  have hl := leadM_le (byteAt s k)
  have hn : ¬ leadM (byteAt s k) < 0 := by
    intro h'
    rw [takeC_lead s k h'] at h; cases h
  have hc : contC s (takeM s k) (k + 1) = 0 := by
    unfold takeC at h
    rw [if_neg hn] at h
    split at h
    · next h' => exact h'
    · exact h
  have hs : stepN s k = takeM s k + 1 := by unfold stepN takeN takeM; rw [if_pos h]; omega
  rcases contC_fits s _ _ hc with h0 | h1
  · omega
  · omega

theorem runes_end (s : ByteArray) (f k : Nat) (h : ¬ k < s.size) : runesZ s f k = [] ∧ runesC s f k = 0 ∧ runesP s f k = 0 := by
  cases f with
  | zero => exact ⟨rfl, rfl, rfl⟩
  | succ f => simp [runesZ, runesC, runesP, h]
theorem runes_step (s : ByteArray) (f k : Nat) (h : k < s.size) (hc : takeC s k = 0) : runesZ s (f + 1) k = takeR s k :: runesZ s f (k + stepN s k) ∧ runesC s (f + 1) k = runesC s f (k + stepN s k) ∧ runesP s (f + 1) k = runesP s f (k + stepN s k) := by
  simp [runesZ, runesC, runesP, h, hc]
theorem runes_bad (s : ByteArray) (f k : Nat) (h : k < s.size) (hc : takeC s k ≠ 0) : runesZ s (f + 1) k = [] ∧ runesC s (f + 1) k = takeC s k ∧ runesP s (f + 1) k = k := by
  simp [runesZ, runesC, runesP, h, hc]
theorem runesZ_le (s : ByteArray) : ∀ f k, (runesZ s f k).length ≤ f
  | 0, _ => by simp [runesZ]
  | f + 1, k => by
    have := runesZ_le s f (k + stepN s k)
    unfold runesZ
    split
    · split
      · simp; omega
      · simp
    · simp
theorem runesC_cases (s : ByteArray) : ∀ f k, runesC s f k = 0 ∨ runesC s f k = 13 ∨ runesC s f k = 16
  | 0, _ => .inl rfl
  | f + 1, k => by
    unfold runesC
    split
    · split
      · exact runesC_cases s f _
      · exact takeC_cases s k
    · exact .inl rfl

theorem runesP_zero (s : ByteArray) : ∀ f k, runesC s f k = 0 → runesP s f k = 0
  | 0, _, _ => rfl
  | f + 1, k, h => by
    unfold runesC at h
    unfold runesP
    split
    · next h1 =>
      rw [if_pos h1] at h
      split
      · next h2 => rw [if_pos h2] at h; exact runesP_zero s f _ h
      · next h2 => rw [if_neg h2] at h; exact absurd h h2
    · rfl

theorem runesP_nonneg (s : ByteArray) : ∀ f k, 0 ≤ runesP s f k
  | 0, _ => by simp [runesP]
  | f + 1, k => by
    have := runesP_nonneg s f (k + stepN s k)
    unfold runesP
    split
    · split <;> omega
    · omega

/-- What is known at a place on the way: the characters so far are the first of all. -/
def Way (s : ByteArray) (f k : Nat) (acc : List Int) : Prop :=
  s.size ≤ k + f ∧ runesZ s s.size 0 = acc ++ runesZ s f k ∧ runesC s s.size 0 = runesC s f k ∧ runesP s s.size 0 = runesP s f k
theorem Way.start (s : ByteArray) : Way s s.size 0 [] := ⟨by omega, by simp, rfl, rfl⟩
theorem Way.step {s : ByteArray} {f k : Nat} {acc : List Int} (h : Way s (f + 1) k acc) (hk : k < s.size) (hc : takeC s k = 0) : Way s f (k + stepN s k) (acc ++ [takeR s k]) := by
  obtain ⟨h1, h2, h3, h4⟩ := h
  have ⟨e1, e2, e3⟩ := runes_step s f k hk hc
  have := takeN_pos s k hc
  refine ⟨by omega, ?_, by rw [h3, e2], by rw [h4, e3]⟩
  rw [h2, e1]; simp
theorem Way.done {s : ByteArray} {f k : Nat} {acc : List Int} (h : Way s f k acc) (hk : ¬ k < s.size) : runesZ s s.size 0 = acc ∧ runesC s s.size 0 = 0 ∧ runesP s s.size 0 = 0 := by
  obtain ⟨h1, h2, h3, h4⟩ := h
  have ⟨e1, e2, e3⟩ := runes_end s f k hk
  exact ⟨by rw [h2, e1]; simp, by rw [h3, e2], by rw [h4, e3]⟩
theorem Way.bad {s : ByteArray} {f k : Nat} {acc : List Int} (h : Way s (f + 1) k acc) (hk : k < s.size) (hc : takeC s k ≠ 0) : runesZ s s.size 0 = acc ∧ runesC s s.size 0 = takeC s k ∧ runesP s s.size 0 = k := by
  obtain ⟨h1, h2, h3, h4⟩ := h
  have ⟨e1, e2, e3⟩ := runes_bad s f k hk hc
  exact ⟨by rw [h2, e1]; simp, by rw [h3, e2], by rw [h4, e3]⟩
theorem Way.len {s : ByteArray} {f k : Nat} {acc : List Int} (h : Way s f k acc) : acc.length ≤ s.size := by
  have := runesZ_le s s.size 0
  rw [h.2.1, List.length_append] at this
  omega
theorem Way.more {s : ByteArray} {f k : Nat} {acc : List Int} (h : Way s f k acc) (hk : k < s.size) : ∃ g, f = g + 1 := ⟨f - 1, by have := h.1; omega⟩

/-- What RunesOf returns. -/
def roC (s : ByteArray) : Int := if 65536 < s.size then 2 else if runesC s s.size 0 = 0 then (if 4096 < (runesZ s s.size 0).length then 6 else 0) else runesC s s.size 0
def roP (s : ByteArray) : Int := if 65536 < s.size then 0 else runesP s s.size 0
def roZ (s : ByteArray) : List Int := if roC s = 0 then runesZ s s.size 0 else []

end Go.Proofs.YtdckjhobikfggaaDoor
