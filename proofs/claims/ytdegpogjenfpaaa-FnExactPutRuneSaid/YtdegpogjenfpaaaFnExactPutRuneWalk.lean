/- The walk of 'FnExactPutRune': the law returns true at every argument, and changes nothing that was there. -/
import Derived.Test.YtdegpogjenfpaaaRunesA
namespace Go.Proofs.Ytdegpogjenfpaaa.fnExactPutRune
open Go.RowKit

theorem walk (r : Int) (w : World) (_hr : (Lit.int .i64 r).wf = true) : Calls Try.prog 5 #[.int .i64 r] w fun e w' => e = .returned (.bool true) ∧ Below w.heap.size w w' := by
  go_enter Try.func5, Try.ntmps5
  go_wp2_with fail
  refine (spec_PutRune _ _).mono ?_
  rintro e w' ⟨rfl, hb⟩
  go_wp2_with fail
  refine (impl_PutRune _ _).mono ?_
  rintro e w' ⟨rfl, rfl⟩
  go_wp2
  go_ret
  exact ⟨rfl, hb⟩

end Go.Proofs.Ytdegpogjenfpaaa.fnExactPutRune
