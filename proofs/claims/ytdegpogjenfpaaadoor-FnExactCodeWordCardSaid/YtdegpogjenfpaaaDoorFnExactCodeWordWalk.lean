/- The walk of 'FnExactCodeWord': the law returns true at every argument, where the package's table reads as its text lays it. -/
import Derived.Test.YtdegpogjenfpaaaDoorWords
import Derived.Test.YtdegpogjenfpaaaDoorWordsLaid
namespace Go.Proofs.YtdegpogjenfpaaaDoor.fnExactCodeWord
open Go.RowKit

theorem walk (c : Int) (w : World) (_hc : (Lit.int .i64 c).wf = true) (ht : TabWords w) : Calls Tryd.prog 4 #[.int .i64 c] w fun e w' => e = .returned (.bool true) ∧ Below w.heap.size w w' := by
  have HT := Lib.hid ht
  clear ht
  go_enter Tryd.func4, Tryd.ntmps4
  go_wp2_with fail
  refine (spec_CodeWord _ _).mono ?_
  rintro e w1 ⟨rfl, b1⟩
  go_wp2_with fail
  refine (impl_CodeWord _ _ (HT.out.keep b1)).mono ?_
  rintro e w2 ⟨rfl, rfl⟩
  go_wp2
  go_ret
  exact ⟨rfl, b1⟩

theorem table {W : World} (h : laidMetH Tryd.prog Rows.fnExactCodeWordRow.laid W) : TabWords W := tab_of_laid h
theorem readable : ∀ n ∈ Rows.fnExactCodeWordSpec.vars, ∀ g t, Tryd.prog.globalNamed n = some g → (Tryd.prog.globals[g]?).map (·.type) = some t → Tryd.prog.readableRec t = true ∧ t < Tryd.prog.types.size := tab_readable

end Go.Proofs.YtdegpogjenfpaaaDoor.fnExactCodeWord
