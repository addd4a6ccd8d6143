/- The walk of 'FnExactEscapeOf': the law returns true at every argument, where the package's table reads as its text lays it. -/
import Derived.Test.YtjbikenhdgbacaaDoorEscI
import Derived.Test.YtjbikenhdgbacaaDoorSetsLaid
namespace Go.Proofs.YtjbikenhdgbacaaDoor.fnExactEscapeOf
open Go.RowKit

theorem walk (a : Int) (b : Int) (w : World) (_h0 : (Lit.int .i64 a).wf = true) (_h1 : (Lit.int .i64 b).wf = true) (ht : TabSets w) : Calls Tryd.prog 4 #[.int .i64 a, .int .i64 b] w fun e w' => e = .returned (.bool true) ∧ Below w.heap.size w w' := by
  have HT := Lib.hid ht
  clear ht
  go_enter Tryd.func4, Tryd.ntmps4
  go_wp2_with fail
  refine (spec_EscapeOf a b w).mono ?_
  rintro e w1 ⟨rfl, b1⟩
  unfold eoV
  go_wp2_with fail
  refine (impl_EscapeOf a b w1 (HT.out.keep b1)).mono ?_
  rintro e w2 ⟨rfl, b2⟩
  have B2 := b1.trans (b2.mono b1.size)
  unfold eoV
  generalize eoT a b = t
  generalize eoC a b = c
  go_wp2
  go_ret
  exact ⟨rfl, B2⟩

theorem table {W : World} (h : laidMetH Tryd.prog Rows.fnExactEscapeOfRow.laid W) : TabSets W := sets_of_laid h
theorem readable : ∀ n ∈ Rows.fnExactEscapeOfSpec.vars, ∀ g t, Tryd.prog.globalNamed n = some g → (Tryd.prog.globals[g]?).map (·.type) = some t → Tryd.prog.readableRec t = true ∧ t < Tryd.prog.types.size := sets_readable

end Go.Proofs.YtjbikenhdgbacaaDoor.fnExactEscapeOf
