/- The program's own table of sets, as its text lays it: contracts of isSet, isCode, CodeOK, FindSet of the program. -/
import Derived.Test.YtdckjhobikfggaaDoorSetsF
import Derived.Test.YtdckjhobikfggaaDoorSpanA
namespace Go.Proofs.YtdckjhobikfggaaDoor
open Go.RowKit

/-- The table's cells. -/
def TabSets (w : World) : Prop := ∀ k : Nat, 1 ≤ k → k ≤ 8 →
  w.cell? ⟨4, k * 4, none⟩ = some (.string (setName k)) ∧ w.cell? ⟨4, k * 4 + 1, none⟩ = some (.int .i64 (setKind k)) ∧ w.cell? ⟨4, k * 4 + 2, none⟩ = some (.int .i64 (setFinal k)) ∧
  ∃ v, w.cell? ⟨4, k * 4 + 3, none⟩ = some v ∧ SpAt w v (setSpans k)
theorem TabSets.keep {w w' : World} (h : TabSets w) (hb : Below w.heap.size w w') : TabSets w' := by
  intro k h1 h8
  obtain ⟨c0, c1, c2, v, c3, hs⟩ := h k h1 h8
  exact ⟨by rw [hb.cell (World.block_lt_of_cell? w _ c0)]; exact c0, by rw [hb.cell (World.block_lt_of_cell? w _ c1)]; exact c1, by rw [hb.cell (World.block_lt_of_cell? w _ c2)]; exact c2, v, by rw [hb.cell (World.block_lt_of_cell? w _ c3)]; exact c3, hs.keep hb⟩

theorem setB_nat {n : Int} (h : setB n = true) : ∃ k : Nat, n = (k : Int) ∧ 1 ≤ k ∧ k ≤ 8 := by
  have ⟨a, b⟩ := inB_true h
  exact ⟨n.toNat, by omega, by omega, by omega⟩

theorem impl_isSet (n : Int) (w : World) : Calls Tryd.prog 142 #[.int .i64 n] w fun e w' => e = .returned (.bool (setB n)) ∧ w = w' := by
  by_cases h1 : 1 ≤ n
  · by_cases h2 : n ≤ 8
    · have HE : Hid (setB n = true) := Lib.hid (by simp [setB, inB, h1, h2])
      go_enter Tryd.func142, Tryd.ntmps142
      go_wp2
      go_ret
      exact ⟨ret_bool HE.out.symm, rfl⟩
    · have HE : Hid (setB n = false) := Lib.hid (by simp [setB, inB, h2])
      go_enter Tryd.func142, Tryd.ntmps142
      go_wp2
      go_ret
      exact ⟨ret_bool HE.out.symm, rfl⟩
  · have HE : Hid (setB n = false) := Lib.hid (by simp [setB, inB, h1])
    go_enter Tryd.func142, Tryd.ntmps142
    go_wp2
    go_ret
    exact ⟨ret_bool HE.out.symm, rfl⟩

theorem impl_isCode94 (n : Int) (w : World) : Calls Tryd.prog 147 #[.int .i64 n] w fun e w' => e = .returned (.bool (inB n 33 126)) ∧ w = w' := by
  by_cases h1 : 33 ≤ n
  · by_cases h2 : n ≤ 126
    · have HE : Hid (inB n 33 126 = true) := Lib.hid (by simp [inB, h1, h2])
      go_enter Tryd.func147, Tryd.ntmps147
      go_wp2
      go_ret
      exact ⟨ret_bool HE.out.symm, rfl⟩
    · have HE : Hid (inB n 33 126 = false) := Lib.hid (by simp [inB, h2])
      go_enter Tryd.func147, Tryd.ntmps147
      go_wp2
      go_ret
      exact ⟨ret_bool HE.out.symm, rfl⟩
  · have HE : Hid (inB n 33 126 = false) := Lib.hid (by simp [inB, h1])
    go_enter Tryd.func147, Tryd.ntmps147
    go_wp2
    go_ret
    exact ⟨ret_bool HE.out.symm, rfl⟩

/-- A code of a kind, of any number. -/
def isCodeB (kind code : Int) : Bool := decide (0 ≤ code) && kindB kind code
theorem inB_false_of {n a b : Int} (h : ¬ (a ≤ n ∧ n ≤ b)) : inB n a b = false := by
  cases hh : inB n a b
  · rfl
  · exact absurd (inB_true hh) h

theorem setKind_cases (n : Int) : setKind n = 1 ∨ setKind n = 2 ∨ setKind n = 3 := by
  unfold setKind
  repeat' split
  all_goals simp

theorem inB13 {kind : Int} (h1 : kind ≠ 1) (h2 : kind ≠ 2) (h3 : kind ≠ 3) : inB kind 1 3 = false := inB_false_of (by omega)

end Go.Proofs.YtdckjhobikfggaaDoor
