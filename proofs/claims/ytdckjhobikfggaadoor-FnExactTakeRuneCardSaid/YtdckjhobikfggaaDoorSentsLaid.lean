/- What the row's list of package-level variables gives: the two sentinels. -/
import Derived.Test.YtdckjhobikfggaaDoorErrIs
import Derived.Test.YtdckjhobikfggaaDoorVars
import Derived.Stop.LaidTwo
import Derived.Stop.LaidErr
import Derived.Stop.Texts
namespace Go.Proofs.YtdckjhobikfggaaDoor
open Go.ChangeShapes Go.WideShapes Go.ChangeAt Go.RowKit

theorem gTrunc : Tryd.prog.globalNamed "loop.example/g00748/impl.errTruncated" = some 0 := by kernel_rfl
theorem gInv : Tryd.prog.globalNamed "loop.example/g00748/impl.errInvalid" = some 2 := by kernel_rfl
theorem tTrunc : (Tryd.prog.globals[0]?).map (·.type) = some 69 := by kernel_rfl
theorem tInv : (Tryd.prog.globals[2]?).map (·.type) = some 69 := by kernel_rfl
theorem starE : "*" ++ "errors.errorString" = "*errors.errorString" := by decide
theorem rowE (u : TypeId) (h : Tryd.prog.typeName? 3 u = some "*errors.errorString") : u = 199 :=
  typeName_ptr_named (nm := "errors.errorString") (by rw [starE]; kernel_rfl) (by kernel_rfl) (by decide) u (by rw [starE]; exact h)

theorem sents_of_laid {W : World} (h : laidMet Tryd.prog [("loop.example/g00748/impl.errTruncated", Rows.laid_loop_example_g00748_impl_errTruncated), ("loop.example/g00748/impl.errInvalid", Rows.laid_loop_example_g00748_impl_errInvalid)] W) : ∃ a b, Sents W a b := by
  obtain ⟨a0, a1, s0, s1, c0, c1, t0, t1, hv0, hv1, hc0, hs0, hz0, hc1, hs1, hz1, hne, hb0, hb1⟩ := laid_sentinels2 h gTrunc tTrunc gInv tInv Tryd.underlying69 rowE Tryd.underlying199 Tryd.underlying217 rfl rfl Tryd.underlying9 (by kernel_rfl) (by kernel_rfl)
  exact ⟨a0, a1, by simpa using World.var?_cell gTrunc hv0 0, by simpa using World.var?_cell gInv hv1 0, hne, ⟨c0, t0, hb0⟩, ⟨c1, t1, hb1⟩⟩

theorem sents_readable : ∀ n ∈ ["loop.example/g00748/impl.errInvalid", "loop.example/g00748/impl.errTruncated"], ∀ g t, Tryd.prog.globalNamed n = some g → (Tryd.prog.globals[g]?).map (·.type) = some t → Tryd.prog.readableRec t = true ∧ t < Tryd.prog.types.size := by
  intro n hn g t hg ht
  have : t = 69 := by
    simp only [List.mem_cons, List.not_mem_nil, or_false] at hn
    rcases hn with rfl | rfl
    · obtain rfl := Option.some.inj (gInv.symm.trans hg)
      exact (Option.some.inj (tInv.symm.trans ht)).symm
    · obtain rfl := Option.some.inj (gTrunc.symm.trans hg)
      exact (Option.some.inj (tTrunc.symm.trans ht)).symm
  subst this
  exact ⟨by kernel_rfl, of_decide_eq_true (by kernel_rfl)⟩

end Go.Proofs.YtdckjhobikfggaaDoor
