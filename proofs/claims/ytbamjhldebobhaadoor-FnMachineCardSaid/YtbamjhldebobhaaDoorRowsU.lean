/- A slice of bytes that came in: its numbers are bytes; a nil one has no capacity. -/
import Derived.Test.YtbamjhldebobhaaDoorInts
namespace Go.Proofs.YtbamjhldebobhaaDoor
open Go.RowKit

theorem IsRow.bytes {w : World} {a : Option Addr} {len cap : Nat} {zs : List Int} (h : IsRow .u8 w a len cap zs) : ∀ z ∈ zs.take len, 0 ≤ z ∧ z ≤ 255 := by
  intro z hz
  rcases h with ⟨_, _, _, rfl⟩ | ⟨x, _, _, _, _, _, hwf⟩
  · simp at hz
  · have := hwf z (List.mem_of_mem_take hz)
    simp [Lit.wf] at this
    have m0 : IntKind.u8.min = 0 := by decide
    have m1 : IntKind.u8.max = 255 := by decide
    omega
theorem IsRow.none {k : IntKind} {w : World} {a : Option Addr} {len cap : Nat} {zs : List Int} (h : IsRow k w a len cap zs) : ∀ n c, Value.slice a len cap = .slice none n c → c = 0 := by
  intro n c hv
  injection hv with h1 h2 h3
  rcases h with ⟨_, _, h4, _⟩ | ⟨x, hx, _⟩
  · omega
  · rw [hx] at h1; cases h1


end Go.Proofs.YtbamjhldebobhaaDoor
