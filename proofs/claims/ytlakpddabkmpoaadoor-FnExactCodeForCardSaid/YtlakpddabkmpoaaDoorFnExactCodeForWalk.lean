/- The walk of 'FnExactCodeFor': the law returns true at every argument, where the package's table reads as its text lays it. -/
import Derived.Test.YtlakpddabkmpoaaDoorSetsJ
import Derived.Test.YtlakpddabkmpoaaDoorSetsLaid
namespace Go.Proofs.YtlakpddabkmpoaaDoor.fnExactCodeFor
open Go.RowKit

theorem walk (a : Int) (b : Int) (w : World) (_h0 : (Lit.int .i64 a).wf = true) (h1 : (Lit.int .i64 b).wf = true) (ht : TabSets w) : Calls Tryd.prog 8 #[.int .i64 a, .int .i64 b] w fun e w' => e = .returned (.bool true) ∧ Below w.heap.size w w' := by
  have HT := Lib.hid ht
  have ⟨_, u1⟩ := bounds_i64 h1
  clear ht
  go_enter Tryd.func8, Tryd.ntmps8
  go_wp2_with fail
  refine (spec_CodeFor a b w).mono ?_
  rintro e w1 ⟨rfl, b1⟩
  unfold cfV
  go_wp2_with fail
  refine (impl_CodeFor a b w1 (HT.out.keep b1) u1).mono ?_
  rintro e w2 ⟨rfl, b2⟩
  have B2 : Below w.heap.size w w2 := b1.trans (b2.mono b1.size)
  unfold cfV
  go_wp2
  go_ret
  exact ⟨rfl, B2⟩

theorem table {W : World} (h : laidMetH Tryd.prog Rows.fnExactCodeForRow.laid W) : TabSets W := sets_of_laid h
theorem readable : ∀ n ∈ Rows.fnExactCodeForSpec.vars, ∀ g t, Tryd.prog.globalNamed n = some g → (Tryd.prog.globals[g]?).map (·.type) = some t → Tryd.prog.readableRec t = true ∧ t < Tryd.prog.types.size := sets_readable

end Go.Proofs.YtlakpddabkmpoaaDoor.fnExactCodeFor
