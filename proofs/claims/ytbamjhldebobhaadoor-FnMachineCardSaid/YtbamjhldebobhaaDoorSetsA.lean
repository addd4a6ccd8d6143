/- The registry: the contract of spec.l02Set. -/
import Derived.Test.YtbamjhldebobhaaDoorSetsM
import Derived.Laws.Rows
namespace Go.Proofs.YtbamjhldebobhaaDoor
open Go.RowKit

def setV (n : Int) (g : Nat) : Value := .agg #[.string (setName n), .int .i64 (setKind n), .int .i64 (setFinal n), .slice (some ⟨g, 0, none⟩) (setSpans n).length (setSpans n).length]
def setO (n : Int) : Obj := .cells (spCells (setSpans n)).toArray 90
/-- A set in new memory. -/
def SetDone (n : Int) (w : World) (e : Ending) (w' : World) : Prop := ∃ g, e = .returned (setV n g) ∧ w.heap.size ≤ g ∧ w'.heap[g]? = some (setO n) ∧ Below w.heap.size w w'

theorem SetDone.two (n : Int) (w : World) (o : Obj) : SetDone n w (.returned (setV n (w.heap.size + 1))) ((w.alloc o).alloc (setO n)) :=
  ⟨_, rfl, Nat.le_succ _, heap_alloc2_new _ _ _, ((Below.refl _ _).alloc (Nat.le_refl _) _).alloc (by simp) _⟩

set_option maxHeartbeats 1000000 in
set_option maxRecDepth 100000 in
theorem spec_l02Set (n : Int) (w : World) : Calls Tryd.prog 46 #[.int .i64 n] w (SetDone n w) := by
  rcases set_cases n with rfl | rfl | rfl | rfl | rfl | rfl | rfl | ⟨h1, h2, h3, h4, h5, h6, h7⟩
  · have HD := Lib.hid (SetDone.two 1 w)
    go_enter Tryd.func46, Tryd.ntmps46
    go_wp2
    exact bodyPost_ret (results_cell_row rfl _ _ w.heap.size _ _ _ _ rfl (heap_alloc2_old _ _ _) Tryd.underlying73 rfl (by kernel_rfl)) rfl (HD.out _)
  · have HD := Lib.hid (SetDone.two 2 w)
    go_enter Tryd.func46, Tryd.ntmps46
    go_wp2
    exact bodyPost_ret (results_cell_row rfl _ _ w.heap.size _ _ _ _ rfl (heap_alloc2_old _ _ _) Tryd.underlying73 rfl (by kernel_rfl)) rfl (HD.out _)
  · have HD := Lib.hid (SetDone.two 3 w)
    go_enter Tryd.func46, Tryd.ntmps46
    go_wp2
    exact bodyPost_ret (results_cell_row rfl _ _ w.heap.size _ _ _ _ rfl (heap_alloc2_old _ _ _) Tryd.underlying73 rfl (by kernel_rfl)) rfl (HD.out _)
  · have HD := Lib.hid (SetDone.two 4 w)
    go_enter Tryd.func46, Tryd.ntmps46
    go_wp2
    exact bodyPost_ret (results_cell_row rfl _ _ w.heap.size _ _ _ _ rfl (heap_alloc2_old _ _ _) Tryd.underlying73 rfl (by kernel_rfl)) rfl (HD.out _)
  · have HD := Lib.hid (SetDone.two 5 w)
    go_enter Tryd.func46, Tryd.ntmps46
    go_wp2
    exact bodyPost_ret (results_cell_row rfl _ _ w.heap.size _ _ _ _ rfl (heap_alloc2_old _ _ _) Tryd.underlying73 rfl (by kernel_rfl)) rfl (HD.out _)
  · have HD := Lib.hid (SetDone.two 6 w)
    go_enter Tryd.func46, Tryd.ntmps46
    go_wp2
    exact bodyPost_ret (results_cell_row rfl _ _ w.heap.size _ _ _ _ rfl (heap_alloc2_old _ _ _) Tryd.underlying73 rfl (by kernel_rfl)) rfl (HD.out _)
  · have HD := Lib.hid (SetDone.two 7 w)
    go_enter Tryd.func46, Tryd.ntmps46
    go_wp2
    exact bodyPost_ret (results_cell_row rfl _ _ w.heap.size _ _ _ _ rfl (heap_alloc2_old _ _ _) Tryd.underlying73 rfl (by kernel_rfl)) rfl (HD.out _)
  · have e1 : (n == 1) = false := by simp; omega
    have e2 : (n == 2) = false := by simp; omega
    have e3 : (n == 3) = false := by simp; omega
    have e4 : (n == 4) = false := by simp; omega
    have e5 : (n == 5) = false := by simp; omega
    have e6 : (n == 6) = false := by simp; omega
    have e7 : (n == 7) = false := by simp; omega
    have HD : Hid (∀ o, SetDone n w (.returned (setV 8 (w.heap.size + 1))) ((w.alloc o).alloc (setO 8))) := Lib.hid (fun o => by
      have := SetDone.two n w o
      have hv : setV n (w.heap.size + 1) = setV 8 (w.heap.size + 1) := by simp [setV, setName, setKind, setFinal, setSpans, h1, h2, h3, h4, h5, h6, h7]
      have ho : setO n = setO 8 := by simp [setO, setSpans, h1, h2, h3, h4, h5, h6, h7]
      rw [hv, ho] at this
      exact this)
    clear h1 h2 h3 h4 h5 h6 h7
    go_enter Tryd.func46, Tryd.ntmps46
    go_wp2
    exact bodyPost_ret (results_cell_row rfl _ _ w.heap.size _ _ _ _ rfl (heap_alloc2_old _ _ _) Tryd.underlying73 rfl (by kernel_rfl)) rfl (HD.out _)

end Go.Proofs.YtbamjhldebobhaaDoor
