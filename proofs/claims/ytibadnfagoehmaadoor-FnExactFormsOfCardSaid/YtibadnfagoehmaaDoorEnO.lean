/- The order of texts, shorter ones first and then bytewise, told by numbers; how many numbers differ below a bound. No program in sight. -/
import Derived.Test.YtibadnfagoehmaaDoorRunesA
import Derived.Lib.MinMaxS
namespace Go.Proofs.YtibadnfagoehmaaDoor

/-- A list of bytes as a number, with r ahead of it. -/
def rkL (l : List UInt8) (r : Nat) : Nat := l.foldl (fun r b => r * 256 + b.toNat) r
theorem rkL_cons (b : UInt8) (l : List UInt8) (r : Nat) : rkL (b :: l) r = rkL l (r * 256 + b.toNat) := rfl
theorem rkL_append (a b : List UInt8) (r : Nat) : rkL (a ++ b) r = rkL b (rkL a r) := by simp [rkL, List.foldl_append]
theorem rkL_mono : ∀ (l : List UInt8) (r q : Nat), r < q → rkL l r < rkL l q
  | [], _, _, h => h
  | b :: l, r, q, h => by rw [rkL_cons, rkL_cons]; exact rkL_mono l _ _ (by omega)
theorem rkL_le (l : List UInt8) (r q : Nat) (h : r ≤ q) : rkL l r ≤ rkL l q := by
  rcases Nat.lt_or_eq_of_le h with h | h
  · exact Nat.le_of_lt (rkL_mono l r q h)
  · rw [h]; exact Nat.le_refl _
theorem rkL_grow : ∀ (l : List UInt8) (r : Nat), r ≤ rkL l r
  | [], r => Nat.le_refl r
  | b :: l, r => by rw [rkL_cons]; exact Nat.le_trans (by omega) (rkL_grow l _)
theorem rkL_low : ∀ (l : List UInt8) (r : Nat), r * 256 ^ l.length ≤ rkL l r
  | [], r => by simp [rkL]
  | b :: l, r => by
    rw [rkL_cons, List.length_cons, Nat.pow_succ]
    refine Nat.le_trans ?_ (rkL_low l _)
    rw [Nat.mul_comm (256 ^ l.length), ← Nat.mul_assoc]
    exact Nat.mul_le_mul_right _ (by omega)
theorem rkL_high : ∀ (l : List UInt8) (r : Nat), rkL l r < (r + 1) * 256 ^ l.length
  | [], r => by simp [rkL]
  | b :: l, r => by
    rw [rkL_cons, List.length_cons, Nat.pow_succ]
    refine Nat.lt_of_lt_of_le (rkL_high l _) ?_
    rw [Nat.mul_comm (256 ^ l.length), ← Nat.mul_assoc]
    have := b.toNat_lt
    exact Nat.mul_le_mul_right _ (by omega)
/-- Of lists of one length the bytewise order is that of the numbers. -/
theorem less_iff : ∀ (a b : List UInt8) (r : Nat), a.length = b.length → (Op.bytesLess a b = true ↔ rkL a r < rkL b r)
  | [], [], r, _ => by simp [Op.bytesLess, rkL]
  | [], _ :: _, _, h => by simp at h
  | _ :: _, [], _, h => by simp at h
  | x :: a, y :: b, r, h => by
    have hl : a.length = b.length := by simpa using h
    have ih := less_iff a b (r * 256 + x.toNat) hl
    rw [rkL_cons, rkL_cons]
    unfold Op.bytesLess
    by_cases hxy : x = y
    · subst hxy
      simp [ih]
    · have hne : x.toNat ≠ y.toNat := fun he => hxy (UInt8.toNat_inj.1 he)
      rcases Nat.lt_or_gt_of_ne hne with hlt | hgt
      · have h1 : x < y := UInt8.lt_iff_toNat_lt.2 hlt
        have h2 : rkL a (r * 256 + x.toNat) < rkL b (r * 256 + y.toNat) := by
          refine Nat.lt_of_lt_of_le (rkL_high a _) ?_
          rw [hl]
          exact Nat.le_trans (Nat.mul_le_mul_right _ (by omega)) (rkL_low b _)
        simp [h1, h2]
      · have h1 : ¬ x < y := fun he => by have := UInt8.lt_iff_toNat_lt.1 he; omega
        have h2 : rkL b (r * 256 + y.toNat) < rkL a (r * 256 + x.toNat) := by
          refine Nat.lt_of_lt_of_le (rkL_high b _) ?_
          rw [← hl]
          exact Nat.le_trans (Nat.mul_le_mul_right _ (by omega)) (rkL_low a _)
        have h3 : ¬ rkL a (r * 256 + x.toNat) < rkL b (r * 256 + y.toNat) := by omega
        simp [h1, h3, hxy]
theorem rkL_inj : ∀ (a b : List UInt8) (r : Nat), a.length = b.length → rkL a r = rkL b r → a = b
  | [], [], _, _, _ => rfl
  | [], _ :: _, _, h, _ => by simp at h
  | _ :: _, [], _, h, _ => by simp at h
  | x :: a, y :: b, r, h, he => by
    have hl : a.length = b.length := by simpa using h
    rw [rkL_cons, rkL_cons] at he
    have hxy : x.toNat = y.toNat := by
      have l1 := rkL_low a (r * 256 + x.toNat)
      have l2 := rkL_low b (r * 256 + y.toNat)
      have h1 := rkL_high a (r * 256 + x.toNat)
      have h2 := rkL_high b (r * 256 + y.toNat)
      rw [hl] at l1 h1
      rcases Nat.lt_trichotomy x.toNat y.toNat with hc | hc | hc
      · exact absurd (Nat.lt_of_lt_of_le h1 (Nat.le_trans (Nat.mul_le_mul_right _ (show r * 256 + x.toNat + 1 ≤ r * 256 + y.toNat by omega)) l2)) (by omega)
      · exact hc
      · exact absurd (Nat.lt_of_lt_of_le h2 (Nat.le_trans (Nat.mul_le_mul_right _ (show r * 256 + y.toNat + 1 ≤ r * 256 + x.toNat by omega)) l1)) (by omega)
    have hxy' : x = y := UInt8.toNat_inj.1 hxy
    subst hxy'
    rw [rkL_inj a b _ hl he]

/-- A string as a number: the longer one is the greater one; of one length, the bytewise greater one. -/
def rk (s : ByteArray) : Nat := rkL s.data.toList 1
def shortB (a b : ByteArray) : Bool := decide (a.size < b.size) || (decide (a.size = b.size) && Op.bytesLess a.toList b.toList)
theorem size_list (s : ByteArray) : s.data.toList.length = s.size := by rw [Array.length_toList]; rfl
theorem rk_size {a b : ByteArray} (h : a.size < b.size) : rk a < rk b := by
  have h1 := rkL_high a.data.toList 1
  have h2 := rkL_low b.data.toList 1
  rw [size_list] at h1 h2
  have h3 : 256 ^ (a.size + 1) ≤ 256 ^ b.size := Nat.pow_le_pow_right (by decide) h
  rw [Nat.pow_succ] at h3
  unfold rk
  omega
theorem rk_iff (a b : ByteArray) : shortB a b = true ↔ rk a < rk b := by
  unfold shortB
  rw [Lib.toList_data, Lib.toList_data]
  rcases Nat.lt_trichotomy a.size b.size with h | h | h
  · simp [h, rk_size h]
  · have := less_iff a.data.toList b.data.toList 1 (by rw [size_list, size_list]; exact h)
    simp [h, this, rk]
  · have h2 := rk_size h
    simp only [show ¬ a.size < b.size by omega, show ¬ a.size = b.size by omega, decide_false, Bool.false_and, Bool.or_self]
    constructor
    · intro h3; cases h3
    · intro h3; omega
theorem rk_not (a b : ByteArray) : shortB a b = false ↔ rk b ≤ rk a := by
  have := rk_iff a b
  cases h : shortB a b
  · rw [h] at this; simp at this; simp; omega
  · rw [h] at this; simp at this; simp; omega
theorem rk_inj {a b : ByteArray} (h : rk a = rk b) : a = b := by
  have hs : a.size = b.size := by
    rcases Nat.lt_trichotomy a.size b.size with hc | hc | hc
    · have := rk_size hc; omega
    · exact hc
    · have := rk_size hc; omega
  have := rkL_inj a.data.toList b.data.toList 1 (by rw [size_list, size_list]; exact hs) h
  cases a; cases b
  simp only [ByteArray.mk.injEq]
  exact Array.toList_inj.1 this
theorem rk_app (a c : ByteArray) : rk (a ++ c) = rkL c.data.toList (rk a) := by
  unfold rk
  rw [ByteArray.data_append, Array.toList_append, rkL_append]
theorem rk_app_le {a b : ByteArray} (c : ByteArray) (h : rk a ≤ rk b) : rk (a ++ c) ≤ rk (b ++ c) := by
  rw [rk_app, rk_app]; exact rkL_le _ _ _ h
theorem rk_app_lt {a b : ByteArray} (c : ByteArray) (h : rk a < rk b) : rk (a ++ c) < rk (b ++ c) := by
  rw [rk_app, rk_app]; exact rkL_mono _ _ _ h
theorem rk_grow (a c : ByteArray) : rk a ≤ rk (a ++ c) := by
  rw [rk_app]; exact rkL_grow _ _
theorem rk_size_le {a b : ByteArray} (h : rk a ≤ rk b) : a.size ≤ b.size := by
  rcases Nat.lt_or_ge b.size a.size with hc | hc
  · have := rk_size hc; omega
  · exact hc
theorem rk_high (a : ByteArray) : rk a < 256 ^ (a.size + 1) := by
  have h1 := rkL_high a.data.toList 1
  rw [size_list] at h1
  rw [Nat.pow_succ]
  unfold rk
  have : 0 < 256 ^ a.size := Nat.pow_pos (by decide)
  omega

/-- Numbers below N that all differ are N at most. -/
theorem nodup_le : ∀ (N : Nat) (l : List Nat), l.Nodup → (∀ a ∈ l, a < N) → l.length ≤ N
  | 0, l, _, h => by
    cases l with
    | nil => simp
    | cons a t => exact absurd (h a (by simp)) (by omega)
  | N + 1, l, hd, h => by
    by_cases hm : N ∈ l
    · have h1 := nodup_le N (l.erase N) (hd.erase N) (fun a ha => by
        have h2 := (hd.mem_erase_iff).1 ha
        have := h a h2.2
        have := h2.1
        omega)
      rw [List.length_erase_of_mem hm] at h1
      omega
    · have h1 := nodup_le N l hd (fun a ha => by
        have := h a ha
        have : a ≠ N := fun he => hm (he ▸ ha)
        omega)
      omega

end Go.Proofs.YtibadnfagoehmaaDoor
