/-
  DERIVED. GIVEN WITH THE SEED: THE PROGRAM's TIES (one call each: nine closed facts by the kernel) AND EACH ROW's TIE, after the 31st guide's Derived/Test/Toyas{Tie, Card}.lean. No idea stands in it: it is a product of the set-up. Laid BY PROGRAM, IN A SANDBOX (cutbox-door.mjs). By AI agents, Wed Nov 11 2026. No macro, syntax, notation, axiom, sorry.
-/
import Derived.Test.YtdckjhobikfggaaDoorRows
import Derived.LaidByTextLater
import Derived.SevenTiedAt
import Derived.LaidSub
import Derived.LaidOnce
namespace Go.Proofs.YtdckjhobikfggaaDoor
open Go
set_option maxRecDepth 100000
theorem seatTie1 : Tryd.prog.laidByTextLater [("errors.errorType", Rows.laid_errors_errorType), ("loop.example/g00748/impl.codeWords", Rows.laid_loop_example_g00748_impl_codeWords), ("loop.example/g00748/impl.errTruncated", Rows.laid_loop_example_g00748_impl_errTruncated), ("loop.example/g00748/impl.errInvalid", Rows.laid_loop_example_g00748_impl_errInvalid), ("loop.example/g00748/impl.registry", Rows.laid_loop_example_g00748_impl_registry)] [.handle, .data, .sentinel, .sentinel, .data] true :=
  Program.laidByTextLater_by_one 101 8 37 (by kernel_rfl) (by kernel_rfl) (by kernel_rfl) (by kernel_rfl) (by kernel_rfl) (by kernel_rfl) (fun _ _ => by kernel_rfl)
theorem noOwnUnsafe : Tryd.pinned.checked.prog.headLifts.contains "ownunsafe" = false := by kernel_rfl
theorem tie : Tryd.prog.laidByTextLater [("errors.errorType", Rows.laid_errors_errorType), ("loop.example/g00748/impl.errTruncated", Rows.laid_loop_example_g00748_impl_errTruncated), ("loop.example/g00748/impl.errInvalid", Rows.laid_loop_example_g00748_impl_errInvalid)] [.handle, .sentinel, .sentinel] true :=
  Program.laidByTextLater.sub seatTie1 ["errors.errorType", "loop.example/g00748/impl.errTruncated", "loop.example/g00748/impl.errInvalid"] (by kernel_rfl) (by kernel_rfl)
theorem fnUtf_row_tie : Rows.fnUtfRow.laidByTextAt .later Tryd.pinned [.handle, .sentinel, .sentinel] true :=
  OpenClaim.laidByTextAt_later rfl rfl tie noOwnUnsafe
theorem tie2 : Tryd.prog.laidByTextLater [("loop.example/g00748/impl.errTruncated", Rows.laid_loop_example_g00748_impl_errTruncated), ("loop.example/g00748/impl.errInvalid", Rows.laid_loop_example_g00748_impl_errInvalid)] [.sentinel, .sentinel] true :=
  Program.laidByTextLater.sub seatTie1 ["loop.example/g00748/impl.errTruncated", "loop.example/g00748/impl.errInvalid"] (by kernel_rfl) (by kernel_rfl)
theorem fnExactTakeRune_row_tie : Rows.fnExactTakeRuneRow.laidByTextAt .later Tryd.pinned [.sentinel, .sentinel] true :=
  OpenClaim.laidByTextAt_later rfl rfl tie2 noOwnUnsafe
theorem tie3 : Tryd.prog.laidByTextLater [("loop.example/g00748/impl.codeWords", Rows.laid_loop_example_g00748_impl_codeWords), ("loop.example/g00748/impl.registry", Rows.laid_loop_example_g00748_impl_registry)] [.data, .data] true :=
  Program.laidByTextLater.sub seatTie1 ["loop.example/g00748/impl.codeWords", "loop.example/g00748/impl.registry"] (by kernel_rfl) (by kernel_rfl)
theorem fnExactCloseDecoder_row_tie : Rows.fnExactCloseDecoderRow.laidByTextAt .later Tryd.pinned [.data, .data] true :=
  OpenClaim.laidByTextAt_later rfl rfl tie3 noOwnUnsafe
theorem tie4 : Tryd.prog.laidByTextLater [("loop.example/g00748/impl.codeWords", Rows.laid_loop_example_g00748_impl_codeWords), ("loop.example/g00748/impl.errTruncated", Rows.laid_loop_example_g00748_impl_errTruncated), ("loop.example/g00748/impl.errInvalid", Rows.laid_loop_example_g00748_impl_errInvalid), ("loop.example/g00748/impl.registry", Rows.laid_loop_example_g00748_impl_registry)] [.data, .sentinel, .sentinel, .data] true :=
  Program.laidByTextLater.sub seatTie1 ["loop.example/g00748/impl.codeWords", "loop.example/g00748/impl.errTruncated", "loop.example/g00748/impl.errInvalid", "loop.example/g00748/impl.registry"] (by kernel_rfl) (by kernel_rfl)
theorem fnExactEncoderOK_row_tie : Rows.fnExactEncoderOKRow.laidByTextAt .later Tryd.pinned [.data, .sentinel, .sentinel, .data] true :=
  OpenClaim.laidByTextAt_later rfl rfl tie4 noOwnUnsafe
theorem fnExactSameEncoder_row_tie : Rows.fnExactSameEncoderRow.laidByTextAt .later Tryd.pinned [.data, .sentinel, .sentinel, .data] true :=
  OpenClaim.laidByTextAt_later rfl rfl tie4 noOwnUnsafe
theorem fnUtfUpto_row_tie : Rows.fnUtfUptoRow.laidByTextAt .later Tryd.pinned [.handle, .sentinel, .sentinel] true :=
  OpenClaim.laidByTextAt_later rfl rfl tie noOwnUnsafe
theorem fnExactTakeRuneUpto_row_tie : Rows.fnExactTakeRuneUptoRow.laidByTextAt .later Tryd.pinned [.sentinel, .sentinel] true :=
  OpenClaim.laidByTextAt_later rfl rfl tie2 noOwnUnsafe
theorem fnExactCloseDecoderUpto_row_tie : Rows.fnExactCloseDecoderUptoRow.laidByTextAt .later Tryd.pinned [.data, .data] true :=
  OpenClaim.laidByTextAt_later rfl rfl tie3 noOwnUnsafe
theorem fnExactEncoderOKUpto_row_tie : Rows.fnExactEncoderOKUptoRow.laidByTextAt .later Tryd.pinned [.data, .sentinel, .sentinel, .data] true :=
  OpenClaim.laidByTextAt_later rfl rfl tie4 noOwnUnsafe
theorem fnExactSameEncoderUpto_row_tie : Rows.fnExactSameEncoderUptoRow.laidByTextAt .later Tryd.pinned [.data, .sentinel, .sentinel, .data] true :=
  OpenClaim.laidByTextAt_later rfl rfl tie4 noOwnUnsafe
end Go.Proofs.YtdckjhobikfggaaDoor
