/- What the row's list gives where it lists the library's errorType as well. -/
import Derived.Test.YtdckjhobikfggaaDoorSentsLaid
import Derived.Test.YtdckjhobikfggaaDoorErrAsC
import Derived.LaidHandle
namespace Go.Proofs.YtdckjhobikfggaaDoor
open Go.ChangeShapes Go.WideShapes Go.ChangeAt Go.RowKit

theorem gErrType : Tryd.prog.globalNamed "errors.errorType" = some 3 := by kernel_rfl
theorem rtCut : (Tryd.prog.cutTypes.find? (·.1 == "internal/reflectlite.rtype")).map (·.2) = some 168 := by kernel_rfl
theorem rtRow : ((List.range 229).filter fun t => Tryd.prog.rowNamed t [101, 114, 114, 111, 114]) = [69] := by kernel_rfl
theorem rtSize : Tryd.prog.types.size = 229 := by kernel_rfl

theorem tab_errors {W : World} (h : laidMetH Tryd.prog [("errors.errorType", Rows.laid_errors_errorType), ("loop.example/g00748/impl.errTruncated", Rows.laid_loop_example_g00748_impl_errTruncated), ("loop.example/g00748/impl.errInvalid", Rows.laid_loop_example_g00748_impl_errInvalid)] W) : (∃ a b, Sents W a b) ∧ ErrType W := by
  have h' : laidMet Tryd.prog [("loop.example/g00748/impl.errTruncated", Rows.laid_loop_example_g00748_impl_errTruncated), ("loop.example/g00748/impl.errInvalid", Rows.laid_loop_example_g00748_impl_errInvalid)] W ∧ handlesMet Tryd.prog [("errors.errorType", Rows.laid_errors_errorType)] W := h
  refine ⟨sents_of_laid h'.1, ?_⟩
  obtain ⟨name, u, ty, e1, e2, e3, e4, e5⟩ := h'.2 _ (List.mem_singleton.2 rfl)
  have en : name = [101, 114, 114, 111, 114] := (Option.some.inj e1).symm
  subst en
  obtain rfl := Option.some.inj (rtCut.symm.trans e2)
  have hm : ty ∈ (List.range 229).filter fun t => Tryd.prog.rowNamed t [101, 114, 114, 111, 114] := List.mem_filter.2 ⟨List.mem_range.2 (by rw [← rtSize]; exact e3), e4⟩
  rw [rtRow] at hm
  obtain rfl := List.mem_singleton.1 hm
  have hh : typeHandle Tryd.prog 69 = .pointer (some ⟨6, 69, none⟩) := by kernel_rfl
  rw [hh] at e5
  unfold ErrType
  simpa using World.var?_cell gErrType e5 0

end Go.Proofs.YtdckjhobikfggaaDoor
