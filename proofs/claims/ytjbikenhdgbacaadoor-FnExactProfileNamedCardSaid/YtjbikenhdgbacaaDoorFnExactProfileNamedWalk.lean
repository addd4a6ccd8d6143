/- The walk of 'FnExactProfileNamed': the law returns true at every name, where the package's table reads as its text lays it. -/
import Derived.Test.YtjbikenhdgbacaaDoorPrI
import Derived.Test.YtjbikenhdgbacaaDoorMaLaid
namespace Go.Proofs.YtjbikenhdgbacaaDoor.fnExactProfileNamed
open Go.RowKit

set_option maxHeartbeats 1000000 in
theorem walk (s : ByteArray) (w : World) (hs : s.size ≤ 9223372036854775807) (ht : TabM w) : Calls Tryd.prog 7 #[.string s] w fun e w' => e = .returned (.bool true) ∧ Below w.heap.size w w' := by
  by_cases hb : 1048576 < s.size
  · have hb' : (1048576 : Int) < (s.size : Int) := by omega
    go_enter Tryd.func7, Tryd.ntmps7
    go_wp2
    go_ret
    exact ⟨rfl, Below.refl _ _⟩
  · have hb' : (s.size : Int) ≤ 1048576 := by omega
    have HS := Lib.hid (fun w => spec_ProfileNamed s w hs)
    have HI := Lib.hid (fun w ht => impl_ProfileNamed s w ht)
    have HT := Lib.hid ht
    clear ht
    unfold pnV at HS HI
    generalize pnR s = r at *
    generalize pnC s = c at *
    go_enter Tryd.func7, Tryd.ntmps7
    go_wp2_with fail
    refine (HS.out _).mono ?_
    rintro e w1 ⟨rfl, b1⟩
    go_wp2_with fail
    refine (HI.out _ (HT.out.keep b1).1).mono ?_
    rintro e w2 ⟨rfl, b2⟩
    have B2 : Hid (Below w.heap.size w w2) := Lib.hid (b1.trans (b2.mono b1.size))
    clear b1 b2
    go_wp2
    go_ret
    exact ⟨rfl, B2.out⟩

theorem table {W : World} (h : laidMetH Tryd.prog Rows.fnExactProfileNamedRow.laid W) : TabM W := tabM_of_laid h
theorem readable : ∀ n ∈ Rows.fnExactProfileNamedSpec.vars, ∀ g t, Tryd.prog.globalNamed n = some g → (Tryd.prog.globals[g]?).map (·.type) = some t → Tryd.prog.readableRec t = true ∧ t < Tryd.prog.types.size := sets_readable

end Go.Proofs.YtjbikenhdgbacaaDoor.fnExactProfileNamed
