/- The walk of 'FnExactSetNamed': the law returns true at every argument, and changes nothing that was there. -/
import Derived.Test.YtdngpgllanhgdaaSetsN
namespace Go.Proofs.Ytdngpgllanhgdaa.fnExactSetNamed
open Go.RowKit

theorem walk (s : ByteArray) (w : World) (hs : s.size ≤ maxLen) : Calls Try.prog 3 #[.string s] w fun e w' => e = .returned (.bool true) ∧ Below w.heap.size w w' := by
  have hs' : s.size ≤ 9223372036854775807 := hs
  by_cases hb : 1048576 < s.size
  · go_enter Try.func3, Try.ntmps3
    go_wp2
    go_ret
    exact ⟨rfl, Below.refl _ _⟩
  · go_enter Try.func3, Try.ntmps3
    go_wp2_with fail
    refine (spec_SetNamed _ _ hs').mono ?_
    rintro e w1 ⟨rfl, b1⟩
    unfold snV
    go_wp2_with fail
    refine (impl_SetNamed _ _ hs').mono ?_
    rintro e w2 ⟨rfl, b2⟩
    unfold snV
    go_wp2
    go_ret
    exact ⟨rfl, b1.trans (b2.mono b1.size)⟩

end Go.Proofs.Ytdngpgllanhgdaa.fnExactSetNamed
