/- The walk of 'FnExactAtRest': the law returns true at every argument, where the package's table reads as its text lays it. -/
import Derived.Test.YtjbikenhdgbacaaDoorStL
import Derived.Test.YtjbikenhdgbacaaDoorMaLaid
import Derived.Test.YtjbikenhdgbacaaDoorPrJ
namespace Go.Proofs.YtjbikenhdgbacaaDoor.fnExactAtRest
open Go.RowKit

set_option maxHeartbeats 1000000 in
set_option maxRecDepth 100000 in
theorem walkS (x : St) (n : Int) (w : World) (hd : Wide64 x) (ht : TabM w) : Calls Tryd.prog 9 #[.int .i64 n, stV x] w fun e w' => e = .returned (.bool true) ∧ Below w.heap.size w w' := by
  have HT := Lib.hid ht
  have B0 := Lib.hid (below_one w (.cells #[.int .i64 x.g0, .int .i64 x.g1, .int .i64 x.g2, .int .i64 x.g3, .int .i64 x.l, .int .i64 x.s, .int .i64 x.d] 66))
  have HL0 := Lib.hid (LSt.new w x)
  have HC := Lib.hid (fun w => laws_toState x w)
  have HS := Lib.hid (fun w => spec_AtRest n x w)
  have HI := Lib.hid (fun w ht => impl_AtRest n x w ht hd)
  clear ht
  unfold StDone at HC
  unfold ArDone at HS HI
  generalize arC n x = rc at *
  generalize arB n x = rv at *
  unfold stV at HC HS HI ⊢
  clear hd
  go_enter Tryd.func9, Tryd.ntmps9
  go_wp2_with fail
  refine (HC.out _).mono ?_
  generalize w.alloc (.cells #[.int .i64 x.g0, .int .i64 x.g1, .int .i64 x.g2, .int .i64 x.g3, .int .i64 x.l, .int .i64 x.s, .int .i64 x.d] 66) = w0 at *
  rintro e w1 ⟨rfl, b1⟩
  have B1 : Hid (Below w.heap.size w w1) := Lib.hid (B0.out.trans (b1.mono B0.out.size))
  have HL1 := Lib.hid (HL0.out.keep b1)
  clear b1
  go_wp2_with fail
  refine (HS.out _).mono ?_
  rintro e w2 ⟨rfl, b2⟩
  have B2 : Hid (Below w.heap.size w w2) := Lib.hid (B1.out.trans (b2.mono B1.out.size))
  have HL2 := Lib.hid (HL1.out.keep b2)
  clear b2
  have ⟨y0, y1, y2, y3, y4, y5, y6⟩ := HL2.out.cells
  have BM := B2
  go_wp2_with fail
  refine (HC.out _).mono ?_
  clear y0 y1 y2 y3 y4 y5 y6
  rintro e w3 ⟨rfl, b3⟩
  have B3 : Hid (Below w.heap.size w w3) := Lib.hid (BM.out.trans (b3.mono BM.out.size))
  go_wp2_with fail
  refine (HI.out _ (HT.out.keep B3.out)).mono ?_
  rintro e w4 ⟨rfl, b4⟩
  have B4 : Hid (Below w.heap.size w w4) := Lib.hid (B3.out.trans (b4.mono B3.out.size))
  go_wp2
  go_ret
  exact ⟨rfl, B4.out⟩

theorem walk (n : Int) (g0 g1 g2 g3 l s d : Int) (w : World) (_h1 : (Lit.int .i64 n).wf = true) (hw : ∀ z ∈ [g0, g1, g2, g3, l, s, d], (Lit.int .i64 z).wf = true) (ht : TabM w) : Calls Tryd.prog 9 #[.int .i64 n, .agg #[.int .i64 g0, .int .i64 g1, .int .i64 g2, .int .i64 g3, .int .i64 l, .int .i64 s, .int .i64 d]] w fun e w' => e = .returned (.bool true) ∧ Below w.heap.size w w' :=
  walkS ⟨g0, g1, g2, g3, l, s, d⟩ n w (bounds_i64 (hw d (by simp))) ht

theorem table {W : World} (h : laidMetH Tryd.prog Rows.fnExactAtRestRow.laid W) : TabM W := tabM_of_laid h
theorem readable : ∀ n ∈ Rows.fnExactAtRestSpec.vars, ∀ g t, Tryd.prog.globalNamed n = some g → (Tryd.prog.globals[g]?).map (·.type) = some t → Tryd.prog.readableRec t = true ∧ t < Tryd.prog.types.size := sets_readable

end Go.Proofs.YtjbikenhdgbacaaDoor.fnExactAtRest
