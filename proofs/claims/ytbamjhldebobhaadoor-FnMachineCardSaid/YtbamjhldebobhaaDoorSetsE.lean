/- The registry: SetNamed, FindSet, SizeOf, SetsFor of the specification. -/
import Derived.Test.YtbamjhldebobhaaDoorSetsD
namespace Go.Proofs.YtbamjhldebobhaaDoor
open Go.RowKit

/-- The first number from k on, of f of them, of which p holds; 0 of none. -/
def firstNo (p : Int → Bool) : Nat → Int → Int
  | 0, _ => 0
  | f + 1, k => if p k = true then k else firstNo p f (k + 1)
def nameNo (s : ByteArray) : Int := firstNo (fun k => decide (setName k = s)) 8 1
def findNo (kind final : Int) : Int := firstNo (fun k => decide (setKind k = kind) && decide (setFinal k = final)) 8 1
theorem firstNo_le (p : Int → Bool) : ∀ f k, 0 ≤ k → firstNo p f k = 0 ∨ (k ≤ firstNo p f k ∧ firstNo p f k < k + f ∧ p (firstNo p f k) = true)
  | 0, k, _ => .inl rfl
  | f + 1, k, hk => by
    unfold firstNo
    split
    · rename_i h; exact .inr ⟨by omega, by omega, h⟩
    · rcases firstNo_le p f (k + 1) (by omega) with h | ⟨h1, h2, h3⟩
      · exact .inl h
      · exact .inr ⟨by omega, by omega, h3⟩
theorem str_ne' {s t : ByteArray} (h : ¬ s = t) : (s.toList == t.toList) = false := by
  rw [beq_eq_false_iff_ne, ByteArray.toList_eq, ByteArray.toList_eq]
  intro h2
  exact h (ByteArray.ext (Array.toList_inj.1 h2))
def snC (s : ByteArray) : Int := if 65536 < s.size then 2 else if nameNo s = 0 then 5 else 0
def snR (s : ByteArray) : Int := if snC s = 0 then nameNo s else 0
def snV (s : ByteArray) : Value := .tuple #[.int .i64 (snR s), .int .i64 (snC s)]
theorem snV_bad (s : ByteArray) (c : Int) (h : snC s = c) (h0 : c ≠ 0) : snV s = .tuple #[.int .i64 0, .int .i64 c] := by simp [snV, snR, h, h0]
theorem snV_ok (s : ByteArray) (h : snC s = 0) : snV s = .tuple #[.int .i64 (nameNo s), .int .i64 0] := by simp [snV, snR, h]

end Go.Proofs.YtbamjhldebobhaaDoor
