/- The walk of 'FnExactRuneOK': the law returns true at every argument, and changes nothing that was there. -/
import Derived.Test.YtdegpogjenfpaaaRunesA
namespace Go.Proofs.Ytdegpogjenfpaaa.fnExactRuneOK
open Go.RowKit

theorem walk (r : Int) (w : World) (_hr : (Lit.int .i64 r).wf = true) : Calls Try.prog 4 #[.int .i64 r] w fun e w' => e = .returned (.bool true) ∧ Below w.heap.size w w' := by
  go_enter Try.func4, Try.ntmps4
  go_wp2_with fail
  refine (spec_RuneOK _ _).mono ?_
  rintro e w' ⟨rfl, rfl⟩
  go_wp2_with fail
  refine (impl_RuneOK _ _).mono ?_
  rintro e w' ⟨rfl, rfl⟩
  go_wp2
  go_ret
  exact ⟨rfl, Below.refl _ _⟩

end Go.Proofs.Ytdegpogjenfpaaa.fnExactRuneOK
