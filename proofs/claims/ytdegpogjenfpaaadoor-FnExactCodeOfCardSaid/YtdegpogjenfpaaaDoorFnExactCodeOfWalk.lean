/- The walk of 'FnExactCodeOf': the law returns true at every argument, where the package's table reads as its text lays it. -/
import Derived.Test.YtdegpogjenfpaaaDoorWordsOf
import Derived.Test.YtdegpogjenfpaaaDoorWordsLaid
namespace Go.Proofs.YtdegpogjenfpaaaDoor.fnExactCodeOf
open Go.RowKit

theorem walk (s : ByteArray) (w : World) (hs : s.size ≤ maxLen) (ht : TabWords w) : Calls Tryd.prog 5 #[.string s] w fun e w' => e = .returned (.bool true) ∧ Below w.heap.size w w' := by
  have HT := Lib.hid ht
  have hs' : s.size ≤ 9223372036854775807 := hs
  clear ht
  by_cases hb : 1048576 < s.size
  · go_enter Tryd.func5, Tryd.ntmps5
    go_wp2
    go_ret
    exact ⟨rfl, Below.refl _ _⟩
  · go_enter Tryd.func5, Tryd.ntmps5
    go_wp2_with fail
    refine (spec_CodeOf _ _).mono ?_
    rintro e w1 ⟨rfl, b1⟩
    go_wp2_with fail
    refine (impl_CodeOf _ _ (HT.out.keep b1)).mono ?_
    rintro e w2 ⟨rfl, rfl⟩
    go_wp2
    go_ret
    exact ⟨rfl, b1⟩

theorem table {W : World} (h : laidMetH Tryd.prog Rows.fnExactCodeOfRow.laid W) : TabWords W := tab_of_laid h
theorem readable : ∀ n ∈ Rows.fnExactCodeOfSpec.vars, ∀ g t, Tryd.prog.globalNamed n = some g → (Tryd.prog.globals[g]?).map (·.type) = some t → Tryd.prog.readableRec t = true ∧ t < Tryd.prog.types.size := tab_readable

end Go.Proofs.YtdegpogjenfpaaaDoor.fnExactCodeOf
