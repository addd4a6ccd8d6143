/- The walk of 'FnExactSetsFor': the law returns true at every argument, where the package's table reads as its text lays it. -/
import Derived.Test.YtlakpddabkmpoaaDoorSetsK
import Derived.Test.YtlakpddabkmpoaaDoorMarks
import Derived.Test.YtlakpddabkmpoaaDoorSetsLaid
namespace Go.Proofs.YtlakpddabkmpoaaDoor.fnExactSetsFor
open Go.RowKit

set_option maxHeartbeats 1000000 in
theorem walk (a : Int) (w : World) (h0 : (Lit.int .i64 a).wf = true) (ht : TabSets w) : Calls Tryd.prog 9 #[.int .i64 a] w fun e w' => e = .returned (.bool true) ∧ Below w.heap.size w w' := by
  have HT := Lib.hid ht
  have ⟨_, u0⟩ := bounds_i64 h0
  clear ht
  have hz8 := setsZ_length a 8
  have hz : (setsZ a 8).length ≤ 1048576 := by omega
  go_enter Tryd.func9, Tryd.ntmps9
  go_wp2_with fail
  refine (spec_SetsFor a _).mono ?_
  rintro e w1 ⟨v1, rfl, o1, b1⟩
  go_wp2_with fail
  refine (impl_SetsFor a _ (HT.out.keep b1) u0).mono ?_
  rintro e w2 ⟨v2, rfl, o2, b2⟩
  have B2 : Below w.heap.size w w2 := b1.trans (b2.mono b1.size)
  have o1b := o1.all b2
  generalize hzz : setsZ a 8 = Z at *
  have HZ := Lib.hid hzz
  clear hzz
  go_wp2_with fail
  refine (laws_eqIntS _ _ _ _ _ o2.ints o1b.ints (by omega) (by omega)).mono ?_
  rintro e w3 ⟨rfl, q, rfl⟩
  rw [show decide (Z = Z) = true from decide_eq_true rfl]
  have o2c : Own .i64 3 (w2.drewN q) w1.heap.size v2 Z := o2.all (below_drewN (Below.refl _ _) q)
  have o1c : Own .i64 3 (w2.drewN q) w.heap.size v1 Z := o1b.all (below_drewN (Below.refl _ _) q)
  have B3 : Below w.heap.size w (w2.drewN q) := below_drewN B2 q
  have o1lt := Lib.hid (fun g hg => (World.ownsRow.lt o1 g hg).2)
  generalize w2.drewN q = w3 at *
  clear o1 o2 o1b
  go_wp2_with fail
  refine (laws_markIntS _ _ 1 _ _ o2c hz (by omega) (by omega)).mono ?_
  rintro e w4 ⟨rfl, o4, b4⟩
  have o1d : Own .i64 3 w4 w.heap.size v1 Z := o1c.below b4 o1lt.out
  have B4 : Below w.heap.size w w4 := B3.trans (b4.mono b1.size)
  clear o2c o1c
  go_wp2_with fail
  refine (laws_heldIntS _ 1 _ _ o4.ints hz (by omega) (by omega)).mono ?_
  rintro e w5 ⟨rfl, rfl⟩
  go_wp2_with fail
  refine (impl_SetsFor a _ (HT.out.keep B4) u0).mono ?_
  rintro e w6 ⟨v6, rfl, o6, b6⟩
  rw [HZ.out] at o6
  have o1e := o1d.all b6
  have o4e := o4.all b6
  have B6 : Below w.heap.size w w6 := B4.trans (b6.mono B4.size)
  clear o1d o4
  go_wp2_with fail
  refine (laws_eqIntS _ _ _ _ _ o6.ints o1e.ints (by omega) (by omega)).mono ?_
  rintro e w7 ⟨rfl, q2, rfl⟩
  rw [show decide (Z = Z) = true from decide_eq_true rfl]
  have o4f : Own .i64 3 (w6.drewN q2) w1.heap.size v2 (marks 1 Z.length) := o4e.all (below_drewN (Below.refl _ _) q2)
  have B7 : Below w.heap.size w (w6.drewN q2) := below_drewN B6 q2
  generalize w6.drewN q2 = w7 at *
  clear o6 o1e o4e
  go_wp2_with fail
  refine (laws_heldIntS _ 1 _ _ o4f.ints hz (by omega) (by omega)).mono ?_
  rintro e w8 ⟨rfl, rfl⟩
  go_wp2
  go_ret
  exact ⟨rfl, B7⟩

theorem table {W : World} (h : laidMetH Tryd.prog Rows.fnExactSetsForRow.laid W) : TabSets W := sets_of_laid h
theorem readable : ∀ n ∈ Rows.fnExactSetsForSpec.vars, ∀ g t, Tryd.prog.globalNamed n = some g → (Tryd.prog.globals[g]?).map (·.type) = some t → Tryd.prog.readableRec t = true ∧ t < Tryd.prog.types.size := sets_readable

end Go.Proofs.YtlakpddabkmpoaaDoor.fnExactSetsFor
