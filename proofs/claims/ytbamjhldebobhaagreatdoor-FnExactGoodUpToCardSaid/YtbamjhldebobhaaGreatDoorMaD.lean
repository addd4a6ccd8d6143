/- The program's Pending, RegisterOf. -/
import Derived.Test.YtbamjhldebobhaaGreatDoorMaC
import Derived.Test.YtbamjhldebobhaaGreatDoorStN
namespace Go.Proofs.YtbamjhldebobhaaGreatDoor
open Go.RowKit Go.Sort

theorem pend_eq {x : St} (h : stOKB x = true) : pendI x = pendB x := by
  obtain ⟨_, h2, h3⟩ := stOK_parts h
  have a := (head_parts h2).2
  have b := lead_range h3
  unfold pendI pendB
  have e1 : (x.s != 0) = decide (0 < x.s) := by
    rw [Bool.eq_iff_iff]; simp; omega
  have e2 : (x.d != 0) = decide (0 < x.d) := by
    rw [Bool.eq_iff_iff]; simp; omega
  rw [e1, e2]

end Go.Proofs.YtbamjhldebobhaaGreatDoor
