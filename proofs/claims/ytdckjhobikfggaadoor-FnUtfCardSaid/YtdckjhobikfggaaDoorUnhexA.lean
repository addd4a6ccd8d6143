/- BytesOf, the program's and the model's: contracts. Lengths at most 2^20. -/
import Derived.Test.YtdckjhobikfggaaDoorHexB
import Derived.Test.YtdckjhobikfggaaDoorNameA
import Derived.Test.YtdckjhobikfggaaDoorLayI
import Derived.Test.YtdckjhobikfggaaDoorTakeM
namespace Go.Proofs.YtdckjhobikfggaaDoor
open Go.RowKit

def digV (c : Int) : Int := if 48 ≤ c ∧ c ≤ 57 then c - 48 else if 97 ≤ c ∧ c ≤ 102 then c - 87 else -1
theorem digV_le (c : Int) : -1 ≤ digV c ∧ digV c ≤ 15 := by unfold digV; split <;> (try split) <;> omega

def hexDigs : ByteArray := ⟨#[48, 49, 50, 51, 52, 53, 54, 55, 56, 57, 97, 98, 99, 100, 101, 102]⟩
theorem index_all : ∀ n : Fin 256, Lib.indexByte hexDigs.data.toList ((n.val : Int).toNat.toUInt8) = digV (n.val : Int) := by decide +kernel
theorem str_IndexByte (c : Int) (w : World) (h0 : 0 ≤ c) (h1 : c < 256) : Calls Tryd.prog 79 #[.string hexDigs, .int .u8 c] w fun e w' => e = .returned (.int .i64 (digV c)) ∧ w = w' := by
  refine (Any.strings_IndexByte Tryd.layI137 hexDigs c w).mono ?_
  rintro e w' ⟨rfl, rfl⟩
  have := index_all ⟨c.toNat, by omega⟩
  simp only at this
  have hc : ((c.toNat : Nat) : Int) = c := by omega
  rw [hc] at this
  exact ⟨by rw [this], rfl⟩

def pairV (s : ByteArray) (i : Nat) : Int := 16 * digV (byteAt s (2 * i)) + digV (byteAt s (2 * i + 1))
def pairOK (s : ByteArray) (i : Nat) : Bool := decide (0 ≤ digV (byteAt s (2 * i))) && decide (0 ≤ digV (byteAt s (2 * i + 1)))
def unZ (s : ByteArray) (n : Nat) : List Int := (List.range n).map (pairV s)
def okTo (s : ByteArray) (n : Nat) : Bool := (List.range n).all (pairOK s)
def unOK (s : ByteArray) : Bool := decide (s.size % 2 = 0) && okTo s (s.size / 2)
def unV (s : ByteArray) : ByteArray := if unOK s = true then bs (unZ s (s.size / 2)) else ⟨#[]⟩

theorem unZ_length (s : ByteArray) (n : Nat) : (unZ s n).length = n := by simp [unZ]
theorem unZ_succ (s : ByteArray) (n : Nat) : unZ s (n + 1) = unZ s n ++ [pairV s n] := by simp [unZ, List.range_succ]
theorem okTo_succ (s : ByteArray) (n : Nat) : okTo s (n + 1) = (okTo s n && pairOK s n) := by simp [okTo, List.range_succ]
theorem okTo_le (s : ByteArray) (n m : Nat) (h : n ≤ m) (hm : okTo s m = true) : okTo s n = true := by
  unfold okTo at *
  rw [List.all_eq_true] at *
  intro i hi
  exact hm i (by simp at hi ⊢; omega)
theorem unOK_bad (s : ByteArray) (m : Nat) (hm : m < s.size / 2) (hp : pairOK s m = false) : unOK s = false := by
  by_cases h : okTo s (s.size / 2) = true
  · have := okTo_le s (m + 1) _ (by omega) h
    rw [okTo_succ, hp] at this
    simp at this
  · have : okTo s (s.size / 2) = false := by simpa using h
    simp [unOK, this]
theorem pairV_byte (s : ByteArray) (i : Nat) (h : pairOK s i = true) : 0 ≤ pairV s i ∧ pairV s i < 256 := by
  simp [pairOK] at h
  have h1 := digV_le (byteAt s (2 * i))
  have h2 := digV_le (byteAt s (2 * i + 1))
  unfold pairV; omega
theorem unZ_bytes (s : ByteArray) (n : Nat) (h : okTo s n = true) : Bytes8 (unZ s n) := by
  induction n with
  | zero => exact Bytes8.nil
  | succ n ih =>
    rw [okTo_succ] at h
    simp at h
    rw [unZ_succ]
    have := pairV_byte s n h.2
    exact (ih h.1).append (Bytes8.one this.1 this.2)

theorem pair_at (s : ByteArray) (m j : Nat) (hj : j = 2 * m) (h : j + 1 < s.size) : pairV s m = 16 * digV s[j].toNat + digV s[j + 1].toNat ∧ pairOK s m = (decide (0 ≤ digV s[j].toNat) && decide (0 ≤ digV s[j + 1].toNat)) := by
  subst hj
  unfold pairV pairOK
  rw [byteAt_eq s (2 * m) (by omega), byteAt_eq s (2 * m + 1) h]
  exact ⟨rfl, rfl⟩

end Go.Proofs.YtdckjhobikfggaaDoor
