/- The walk of 'FnExactCodeOK': the law returns true at every argument, where the package's table reads as its text lays it. -/
import Derived.Test.YtlakpddabkmpoaaDoorSetsJ
import Derived.Test.YtlakpddabkmpoaaDoorSetsLaid
namespace Go.Proofs.YtlakpddabkmpoaaDoor.fnExactCodeOK
open Go.RowKit

theorem walk (a : Int) (b : Int) (w : World) (_h0 : (Lit.int .i64 a).wf = true) (h1 : (Lit.int .i64 b).wf = true) (ht : TabSets w) : Calls Tryd.prog 6 #[.int .i64 a, .int .i64 b] w fun e w' => e = .returned (.bool true) ∧ Below w.heap.size w w' := by
  have HT := Lib.hid ht
  have ⟨l1, u1⟩ := bounds_i64 h1
  clear ht
  go_enter Tryd.func6, Tryd.ntmps6
  go_wp2_with fail
  refine (spec_CodeOK a b w u1).mono ?_
  rintro e w1 ⟨rfl, b1⟩
  go_wp2_with fail
  refine (impl_CodeOK a b w1 (HT.out.keep b1) l1 u1).mono ?_
  rintro e w2 ⟨rfl, rfl⟩
  have B2 := b1
  go_wp2
  go_ret
  exact ⟨rfl, B2⟩

theorem table {W : World} (h : laidMetH Tryd.prog Rows.fnExactCodeOKRow.laid W) : TabSets W := sets_of_laid h
theorem readable : ∀ n ∈ Rows.fnExactCodeOKSpec.vars, ∀ g t, Tryd.prog.globalNamed n = some g → (Tryd.prog.globals[g]?).map (·.type) = some t → Tryd.prog.readableRec t = true ∧ t < Tryd.prog.types.size := sets_readable

end Go.Proofs.YtlakpddabkmpoaaDoor.fnExactCodeOK
