/- The walk of 'FnExactTakeRune': the law returns true at every argument, where the package's sentinels read as its text lays them. -/
import Derived.Test.YtdckjhobikfggaaDoorTakeC
import Derived.Test.YtdckjhobikfggaaDoorSentsLaid
namespace Go.Proofs.YtdckjhobikfggaaDoor.fnExactTakeRune
open Go.RowKit

theorem walk (s : ByteArray) (at' : Int) (w : World) (hs : s.size ≤ maxLen) (_ha : (Lit.int .i64 at').wf = true) (ht : ∃ a b, Sents w a b) : Calls Tryd.prog 4 #[.string s, .int .i64 at'] w fun e w' => e = .returned (.bool true) ∧ Below w.heap.size w w' := by
  obtain ⟨a, b, hS⟩ := ht
  have HS := Lib.hid hS
  have hs' : s.size ≤ 9223372036854775807 := hs
  clear hS
  by_cases hb : 1048576 < s.size
  · go_enter Tryd.func4, Tryd.ntmps4
    go_wp2
    go_ret
    exact ⟨rfl, Below.refl _ _⟩
  · have hs2 : s.size ≤ 1048576 := by omega
    have hX := Lib.hid (fun w => spec_TakeRune s at' w hs2)
    have hY := Lib.hid (fun w h => impl_TakeRune s at' a b w hs2 h)
    unfold trV at hX hY
    go_enter Tryd.func4, Tryd.ntmps4
    go_wp2_with fail
    refine (hX.out _).mono ?_
    rintro e w1 ⟨rfl, b1⟩
    go_wp2_with fail
    refine (hY.out _ (HS.out.keep b1)).mono ?_
    rintro e w2 ⟨rfl, b2⟩
    go_wp2
    go_ret
    exact ⟨rfl, b1.trans (b2.mono b1.size)⟩

theorem table {W : World} (h : laidMetH Tryd.prog Rows.fnExactTakeRuneRow.laid W) : ∃ a b, Sents W a b := by
  have h' : laidMet Tryd.prog [("loop.example/g00748/impl.errTruncated", Rows.laid_loop_example_g00748_impl_errTruncated), ("loop.example/g00748/impl.errInvalid", Rows.laid_loop_example_g00748_impl_errInvalid)] W := by
    rw [MakeChecks.laidMetH_plain _ _ _ (by kernel_rfl)] at h; exact h
  exact sents_of_laid h'
theorem readable : ∀ n ∈ Rows.fnExactTakeRuneSpec.vars, ∀ g t, Tryd.prog.globalNamed n = some g → (Tryd.prog.globals[g]?).map (·.type) = some t → Tryd.prog.readableRec t = true ∧ t < Tryd.prog.types.size := sents_readable

end Go.Proofs.YtdckjhobikfggaaDoor.fnExactTakeRune
