/- The specification's valid states. -/
import Derived.Test.YtibadnfagoehmaaGreatDoorStB
import Derived.Test.YtibadnfagoehmaaGreatDoorDigA
import Derived.Lib.QuietBelow
namespace Go.Proofs.YtibadnfagoehmaaGreatDoor
open Go.RowKit Go.Sort

theorem stOK_reg {x : St} (m : Nat) (h : m < 4) (hf : regOK x m = false) : stOKB x = false := by
  have : m = 0 ∨ m = 1 ∨ m = 2 ∨ m = 3 := by omega
  unfold stOKB regsOK
  rcases this with rfl | rfl | rfl | rfl
  · rw [show regOK x 0 = false from hf]; rfl
  · rw [show regOK x 1 = false from hf]; cases regOK x 0 <;> rfl
  · rw [show regOK x 2 = false from hf]; cases regOK x 0 <;> cases regOK x 1 <;> rfl
  · rw [show regOK x 3 = false from hf]; cases regOK x 0 <;> cases regOK x 1 <;> cases regOK x 2 <;> rfl
theorem stOK_regs {x : St} (h : ∀ m : Nat, m < 4 → regOK x m = true) : stOKB x = (headOK x && leadOK x) := by
  unfold stOKB regsOK
  rw [show regOK x 0 = true from h 0 (by decide), show regOK x 1 = true from h 1 (by decide), show regOK x 2 = true from h 2 (by decide), show regOK x 3 = true from h 3 (by decide)]
  rfl
theorem sideOf_in {x : St} (r : Bool) (h : headOK x = true) : 0 ≤ sideOf x r ∧ sideOf x r ≤ 3 := by
  unfold headOK at h
  rw [Bool.and_eq_true, Bool.or_eq_true, decide_eq_true_eq] at h
  have h1 := inB_true h.1
  unfold sideOf
  rcases h.2 with h2 | h2
  · rw [if_neg (by omega)]
    split <;> omega
  · have := inB_true h2
    rw [if_pos (by omega)]
    omega

end Go.Proofs.YtibadnfagoehmaaGreatDoor
