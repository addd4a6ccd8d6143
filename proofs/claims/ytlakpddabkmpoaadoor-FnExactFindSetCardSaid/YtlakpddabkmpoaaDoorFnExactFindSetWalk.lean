/- The walk of 'FnExactFindSet': the law returns true at every argument, where the package's table reads as its text lays it. -/
import Derived.Test.YtlakpddabkmpoaaDoorSetsJ
import Derived.Test.YtlakpddabkmpoaaDoorSetsLaid
namespace Go.Proofs.YtlakpddabkmpoaaDoor.fnExactFindSet
open Go.RowKit

theorem walk (a : Int) (b : Int) (w : World) (_h0 : (Lit.int .i64 a).wf = true) (_h1 : (Lit.int .i64 b).wf = true) (ht : TabSets w) : Calls Tryd.prog 5 #[.int .i64 a, .int .i64 b] w fun e w' => e = .returned (.bool true) ∧ Below w.heap.size w w' := by
  have HT := Lib.hid ht
  clear ht
  go_enter Tryd.func5, Tryd.ntmps5
  go_wp2_with fail
  refine (spec_FindSet a b w).mono ?_
  rintro e w1 ⟨rfl, b1⟩
  unfold fsV
  go_wp2_with fail
  refine (impl_FindSet a b w1 (HT.out.keep b1)).mono ?_
  rintro e w2 ⟨rfl, rfl⟩
  have B2 := b1
  unfold fsV
  go_wp2
  go_ret
  exact ⟨rfl, B2⟩

theorem table {W : World} (h : laidMetH Tryd.prog Rows.fnExactFindSetRow.laid W) : TabSets W := sets_of_laid h
theorem readable : ∀ n ∈ Rows.fnExactFindSetSpec.vars, ∀ g t, Tryd.prog.globalNamed n = some g → (Tryd.prog.globals[g]?).map (·.type) = some t → Tryd.prog.readableRec t = true ∧ t < Tryd.prog.types.size := sets_readable

end Go.Proofs.YtlakpddabkmpoaaDoor.fnExactFindSet
