/- A rune drawn. -/
import Derived.Test.YtbamjhldebobhaaDoorDrawN
import Derived.Test.YtbamjhldebobhaaDoorRunesA
namespace Go.Proofs.YtbamjhldebobhaaDoor
open Go.RowKit

theorem Src.alloc {w : World} {b : Nat} {zs : List Int} {m : Nat} (h : Src w b zs m) (o : Obj) : Src (w.alloc o) b zs m := by
  obtain ⟨cv, k, seed, h1, h2, h3⟩ := h
  refine ⟨cv, k, seed, ?_, h2.keep ((Below.refl _ _).alloc (Nat.le_refl _) o), h3⟩
  have hlt := (Array.getElem?_eq_some_iff.1 h1).1
  rw [← h1]; exact ((Below.refl w.heap.size w).alloc (Nat.le_refl _) o).block b hlt
theorem Src.lt {w : World} {b : Nat} {zs : List Int} {m : Nat} (h : Src w b zs m) : b < w.heap.size := by
  obtain ⟨cv, k, seed, h1, _⟩ := h
  exact (Array.getElem?_eq_some_iff.1 h1).1
def RuneDone (w : World) (b : Nat) (zs : List Int) (m : Nat) (e : Ending) (w' : World) : Prop := (∃ r : Int, e = .returned (.int .i64 r) ∧ 0 ≤ r ∧ r ≤ 2000000) ∧ Src w' b zs (m + 30) ∧ Only b w w'

end Go.Proofs.YtbamjhldebobhaaDoor
