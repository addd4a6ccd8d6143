/- The laws' own way to a state, and two states held against each other. -/
import Derived.Test.YtbamjhldebobhaaGreatDoorStA
import Derived.Test.YtbamjhldebobhaaGreatDoorTokG
namespace Go.Proofs.YtbamjhldebobhaaGreatDoor
open Go.RowKit

/-- A state of the laws in a block. -/
def LSt (w : World) (g : Nat) (x : St) : Prop := w.heap[g]? = some (.cells #[.int .i64 x.g0, .int .i64 x.g1, .int .i64 x.g2, .int .i64 x.g3, .int .i64 x.l, .int .i64 x.s, .int .i64 x.d] 35)
theorem LSt.lt {w : World} {g : Nat} {x : St} (h : LSt w g x) : g < w.heap.size := (Array.getElem?_eq_some_iff.1 h).1
theorem LSt.keep {w w' : World} {g : Nat} {x : St} (h : LSt w g x) (b : Below w.heap.size w w') : LSt w' g x := (b.block g h.lt).trans h
theorem LSt.new (w : World) (x : St) : LSt (w.alloc (.cells #[.int .i64 x.g0, .int .i64 x.g1, .int .i64 x.g2, .int .i64 x.g3, .int .i64 x.l, .int .i64 x.s, .int .i64 x.d] 35)) w.heap.size x := heap_alloc_new _ _
theorem LSt.cells {w : World} {g : Nat} {x : St} (h : LSt w g x) : w.cell? ⟨g, 0, none⟩ = some (.int .i64 x.g0) ∧ w.cell? ⟨g, 1, none⟩ = some (.int .i64 x.g1) ∧ w.cell? ⟨g, 2, none⟩ = some (.int .i64 x.g2) ∧ w.cell? ⟨g, 3, none⟩ = some (.int .i64 x.g3) ∧ w.cell? ⟨g, 4, none⟩ = some (.int .i64 x.l) ∧ w.cell? ⟨g, 5, none⟩ = some (.int .i64 x.s) ∧ w.cell? ⟨g, 6, none⟩ = some (.int .i64 x.d) := by
  refine ⟨?_, ?_, ?_, ?_, ?_, ?_, ?_⟩ <;> (rw [cell_of_row _ _ _ _ _ _ h]; rfl)

set_option maxHeartbeats 1000000 in
theorem laws_toState (x : St) (w : World) : Calls Tryz.prog 45 #[stV x] w (StDone x w) := by
  unfold stV
  go_enter Tryz.func45, Tryz.ntmps45
  go_wp2
  exact st_ret rfl rfl rfl ((Below.heap_alloc _ _ _ (by simp)).trans (heap_alloc2_new _ _ _)) Tryz.underlying39 rfl (by kernel_rfl) rfl (below_three _ _ _ _)

set_option maxHeartbeats 1000000 in
theorem laws_eqState_true (x : St) (w : World) : Calls Tryz.prog 49 #[stV x, stV x] w fun e w' => e = .returned (.bool true) ∧ Below w.heap.size w w' := by
  have HB := Lib.hid (below_two w)
  unfold stV
  go_enter Tryz.func49, Tryz.ntmps49
  go_wp2
  go_ret
  exact ⟨rfl, HB.out _ _⟩

end Go.Proofs.YtbamjhldebobhaaGreatDoor
