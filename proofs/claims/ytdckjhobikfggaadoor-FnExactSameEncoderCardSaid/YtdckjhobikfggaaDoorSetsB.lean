/- The registry: contracts of the specification's functions over sets. -/
import Derived.Test.YtdckjhobikfggaaDoorSetsA
import Derived.Test.YtdckjhobikfggaaDoorInts
import Derived.IntWalk
namespace Go.Proofs.YtdckjhobikfggaaDoor
open Go.RowKit

theorem setField0 : ∀ (a b c d : Value) (w : World), (Instr.field 151 (.agg #[a, b, c, d]) 0).run Tryd.prog w = .ok a w := fun _ _ _ _ _ => by kernel_rfl
theorem setField1 : ∀ (a b c d : Value) (w : World), (Instr.field 151 (.agg #[a, b, c, d]) 1).run Tryd.prog w = .ok b w := fun _ _ _ _ _ => by kernel_rfl
theorem setField2 : ∀ (a b c d : Value) (w : World), (Instr.field 151 (.agg #[a, b, c, d]) 2).run Tryd.prog w = .ok c w := fun _ _ _ _ _ => by kernel_rfl
theorem setField3 : ∀ (a b c d : Value) (w : World), (Instr.field 151 (.agg #[a, b, c, d]) 3).run Tryd.prog w = .ok d w := fun _ _ _ _ _ => by kernel_rfl

/-- A code of a kind. -/
def kindB (kind code : Int) : Bool := if kind = 1 then inB code 33 126 else if kind = 2 then inB code 32 127 else inB (code / 256) 33 126 && inB (code % 256) 33 126

/-- A code of a set. -/
def codeOKB (n code : Int) : Bool := setB n && decide (0 ≤ code) && kindB (setKind n) code

theorem SetDone.cells {n : Int} {w : World} {g : Nat} (h : w.heap[g]? = some (setO n)) (k : Nat) (hk : k < (setSpans n).length) :
    w.cell? ⟨g, k * 3, none⟩ = some (.int .i64 ((setSpans n)[k]).1) ∧ w.cell? ⟨g, k * 3 + 1, none⟩ = some (.int .i64 ((setSpans n)[k]).2.1) ∧ w.cell? ⟨g, k * 3 + 2, none⟩ = some (.int .i64 ((setSpans n)[k]).2.2) := by
  have ⟨h1, h2, h3⟩ := spCells_at (setSpans n) k hk
  unfold setO at h
  exact ⟨by rw [cell_of_row w g _ _ _ _ h]; simpa using h1, by rw [cell_of_row w g _ _ _ _ h]; simpa using h2, by rw [cell_of_row w g _ _ _ _ h]; simpa using h3⟩

end Go.Proofs.YtdckjhobikfggaaDoor
