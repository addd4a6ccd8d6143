/- Contracts of the functions on names: l00Letter, l00Digit, isLetter, isDigit, l00Word, NameOK. No condition but that a string's length is a length. -/
import Derived.Test.YtdckjhobikfggaaDoorRunesA
import Derived.Laws.RangeAny
namespace Go.Proofs.YtdckjhobikfggaaDoor
open Go.RowKit

def letB (c : Int) : Bool := (decide (97 ≤ c) && decide (c ≤ 122)) || (decide (65 ≤ c) && decide (c ≤ 90)) || c == 95
def digB (c : Int) : Bool := decide (48 ≤ c) && decide (c ≤ 57)

/-- From place k on every byte may stand in a name; at place 0 a letter. -/
def nameFrom (s : ByteArray) : Nat → Nat → Bool
  | 0, _ => true
  | b + 1, k => if h : k < s.size then (letB (s[k]'h).toNat || (decide (k ≠ 0) && digB (s[k]'h).toNat)) && nameFrom s b (k + 1) else true
def nameB (s : ByteArray) : Bool := decide (1 ≤ s.size) && decide (s.size ≤ 12) && nameFrom s s.size 0

theorem nameFrom_end (s : ByteArray) (b k : Nat) (h : ¬ k < s.size) : nameFrom s b k = true := by
  cases b with
  | zero => rfl
  | succ b => simp [nameFrom, h]
theorem nameFrom_step (s : ByteArray) (b k : Nat) (h : k < s.size) (hb : s.size ≤ k + b) : nameFrom s b k = ((letB (s[k]'h).toNat || (decide (k ≠ 0) && digB (s[k]'h).toNat)) && nameFrom s (b - 1) (k + 1)) := by
  cases b with
  | zero => omega
  | succ b => simp [nameFrom, h]

theorem nameB_small (s : ByteArray) (h : ¬ 1 ≤ s.size) : nameB s = false := by simp [nameB]; omega
theorem nameB_large (s : ByteArray) (h : 12 < s.size) : nameB s = false := by simp [nameB]; omega
theorem nameB_mid (s : ByteArray) (h : 1 ≤ s.size) (h' : s.size ≤ 12) : nameB s = nameFrom s s.size 0 := by simp [nameB, h, h']
theorem nameB_first (s : ByteArray) (h : 0 < s.size) (hl : letB (s[0]'h).toNat = false) : nameB s = false := by
  simp only [nameB]; rw [nameFrom_step s s.size 0 h (by omega), hl]; simp
theorem nameB_at (s : ByteArray) (k : Nat) (h : k < s.size) (H : nameB s = nameFrom s (s.size - k) k) (hk : 1 ≤ k) :
    nameB s = ((letB (s[k]'h).toNat || digB (s[k]'h).toNat) && nameFrom s (s.size - (k + 1)) (k + 1)) := by
  rw [H, nameFrom_step s (s.size - k) k h (by omega)]
  have : decide (k ≠ 0) = true := by simp; omega
  rw [this, show s.size - k - 1 = s.size - (k + 1) by omega]; simp

theorem letB_high (n : Int) (h : 128 ≤ n) : letB n = false := by simp [letB]; omega
theorem digB_high (n : Int) (h : 128 ≤ n) : digB n = false := by simp [digB]; omega
theorem nameB_any (s : ByteArray) (k : Nat) (h : k < s.size) (H : nameB s = nameFrom s (s.size - k) k) :
    nameB s = ((letB (s[k]'h).toNat || (decide (k ≠ 0) && digB (s[k]'h).toNat)) && nameFrom s (s.size - (k + 1)) (k + 1)) := by
  rw [H, nameFrom_step s (s.size - k) k h (by omega), show s.size - k - 1 = s.size - (k + 1) by omega]

end Go.Proofs.YtdckjhobikfggaaDoor
