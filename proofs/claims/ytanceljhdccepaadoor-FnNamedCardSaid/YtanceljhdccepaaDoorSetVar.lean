/- A set that lies in a variable of its own. -/
import Derived.Test.YtanceljhdccepaaDoorSpanB
import Derived.Test.YtanceljhdccepaaDoorSetsF
namespace Go.Proofs.YtanceljhdccepaaDoor
open Go.RowKit

/-- A set in a variable. -/
def VarIs (w : World) (p : Nat) (nm : ByteArray) (kd fn : Int) (v : Value) : Prop := w.heap[p]? = some (.cells #[.string nm, .int .i64 kd, .int .i64 fn, v] 48)
theorem VarIs.cells {w : World} {p : Nat} {nm : ByteArray} {kd fn : Int} {v : Value} (h : VarIs w p nm kd fn v) : w.cell? ⟨p, 0, none⟩ = some (.string nm) ∧ w.cell? ⟨p, 1, none⟩ = some (.int .i64 kd) ∧ w.cell? ⟨p, 2, none⟩ = some (.int .i64 fn) ∧ w.cell? ⟨p, 3, none⟩ = some v :=
  ⟨by rw [cell_of_row _ _ _ _ _ _ h]; rfl, by rw [cell_of_row _ _ _ _ _ _ h]; rfl, by rw [cell_of_row _ _ _ _ _ _ h]; rfl, by rw [cell_of_row _ _ _ _ _ _ h]; rfl⟩
theorem VarIs.lt {w : World} {p : Nat} {nm : ByteArray} {kd fn : Int} {v : Value} (h : VarIs w p nm kd fn v) : p < w.heap.size := (Array.getElem?_eq_some_iff.1 h).1
theorem VarIs.keep {w w' : World} {p : Nat} {nm : ByteArray} {kd fn : Int} {v : Value} (h : VarIs w p nm kd fn v) (b : Below w.heap.size w w') : VarIs w' p nm kd fn v := (b.block p h.lt).trans h
theorem VarIs.grown {w w' : World} {p : Nat} {nm : ByteArray} {kd fn : Int} {v : Value} {row : Option Nat} (h : VarIs w p nm kd fn v) (g : w.grownBy w' row) (hr : some p ≠ row) : VarIs w' p nm kd fn v := (g.block p h.lt hr).trans h
theorem VarIs.new (w : World) (nm : ByteArray) (kd fn : Int) (v : Value) : VarIs (w.alloc (.cells #[.string nm, .int .i64 kd, .int .i64 fn, v] 48)) w.heap.size nm kd fn v := heap_alloc_new _ _


end Go.Proofs.YtanceljhdccepaaDoor
