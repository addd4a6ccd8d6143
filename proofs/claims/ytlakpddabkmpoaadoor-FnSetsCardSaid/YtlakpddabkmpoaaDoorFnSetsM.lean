/- Facts on the registry that FnSets turns on: every code of a span and its character; spans compared. -/
import Derived.Test.YtlakpddabkmpoaaDoorSetsN
import Derived.Test.YtlakpddabkmpoaaDoorSetsO
import Derived.Laws.StructEq
namespace Go.Proofs.YtlakpddabkmpoaaDoor
open Go.RowKit

def spanGood (n : Int) (s : Sp) (j : Nat) : Bool := decide (runeS (setSpans n) (s.1 + j) = s.2.1 + j) && codeOKB n (s.1 + j) && decide (codeS (setSpans n) (s.2.1 + j) = s.1 + j)
theorem all_good : ([1, 2, 3, 4, 5, 6, 7, 8] : List Int).all (fun n => (setSpans n).all fun s => (List.range s.2.2.toNat).all fun j => spanGood n s j) = true := by decide +kernel
theorem good_at (n : Int) (h1 : 1 ≤ n) (h8 : n ≤ 8) (s : Sp) (hs : s ∈ setSpans n) (j : Nat) (hj : (j : Int) < s.2.2) : runeS (setSpans n) (s.1 + j) = s.2.1 + j ∧ codeOKB n (s.1 + j) = true ∧ codeS (setSpans n) (s.2.1 + j) = s.1 + j := by
  have h := all_good
  rw [List.all_eq_true] at h
  have h2 := h n (by simp; omega)
  rw [List.all_eq_true] at h2
  have h3 := h2 s hs
  rw [List.all_eq_true] at h3
  have h4 := h3 j (by simp; omega)
  simp only [spanGood, Bool.and_eq_true, decide_eq_true_eq] at h4
  exact ⟨h4.1.1, h4.1.2, h4.2⟩
theorem setB_of {n : Int} (h1 : 1 ≤ n) (h8 : n ≤ 8) : setB n = true := by simp [setB, inB, h1, h8]
theorem rf_good (n : Int) (h1 : 1 ≤ n) (h8 : n ≤ 8) (s : Sp) (hs : s ∈ setSpans n) (j : Nat) (hj : (j : Int) < s.2.2) : rfV n (s.1 + j) = .tuple #[.int .i64 (s.2.1 + j), .int .i64 0] := by
  obtain ⟨a, b, c⟩ := good_at n h1 h8 s hs j hj
  have hsm := (set_small n s hs).2.1.1
  rw [rfV_ok n _ (by simp [rfC, setB_of h1 h8, b, a]; omega), a]
theorem cf_good (n : Int) (h1 : 1 ≤ n) (h8 : n ≤ 8) (s : Sp) (hs : s ∈ setSpans n) (j : Nat) (hj : (j : Int) < s.2.2) : cfV n (s.2.1 + j) = .tuple #[.int .i64 (s.1 + j), .int .i64 0] := by
  obtain ⟨a, b, c⟩ := good_at n h1 h8 s hs j hj
  have hp := set_pos n s hs
  rw [cfV_ok n _ (by simp [cfC, setB_of h1 h8, c]; omega), c]
theorem sn_good (n : Int) (h1 : 1 ≤ n) (h8 : n ≤ 8) : snV (setName n) = .tuple #[.int .i64 n, .int .i64 0] := by
  have h := (names_hit n h1 h8).2.2
  have hz : (setName n).size ≤ 6 := by
    have : n = 1 ∨ n = 2 ∨ n = 3 ∨ n = 4 ∨ n = 5 ∨ n = 6 ∨ n = 7 ∨ n = 8 := by omega
    rcases this with rfl | rfl | rfl | rfl | rfl | rfl | rfl | rfl <;> decide
  rw [snV_ok _ (by simp [snC, h]; omega), h]
theorem fs_good (n : Int) (h1 : 1 ≤ n) (h8 : n ≤ 8) : fsV (setKind n) (setFinal n) = .tuple #[.int .i64 n, .int .i64 0] := by
  have : n = 1 ∨ n = 2 ∨ n = 3 ∨ n = 4 ∨ n = 5 ∨ n = 6 ∨ n = 7 ∨ n = 8 := by omega
  rcases this with rfl | rfl | rfl | rfl | rfl | rfl | rfl | rfl <;> rfl
theorem so_good (n : Int) (h1 : 1 ≤ n) (h8 : n ≤ 8) : soV n = .tuple #[.int .i64 (sizeS (setSpans n)), .int .i64 0] := by simp [soV, soZ, soC, setB_of h1 h8]
theorem name_small (n : Int) : (setName n).size ≤ 9223372036854775807 := by
  unfold setName
  repeat' split
  all_goals decide

theorem SpAt.at {w : World} {g off c : Nat} {sp : List Sp} (h : SpAt w (.slice (some ⟨g, off, none⟩) sp.length c) sp) (i : Nat) (hi : i < sp.length) :
    w.cell? ⟨g, off + i * 3, none⟩ = some (.int .i64 (sp[i]).1) ∧ w.cell? ⟨g, off + i * 3 + 1, none⟩ = some (.int .i64 (sp[i]).2.1) ∧ w.cell? ⟨g, off + i * 3 + 2, none⟩ = some (.int .i64 (sp[i]).2.2) := by
  rcases h with ⟨h0, _⟩ | ⟨g', off', c', hv, hc⟩
  · subst h0; simp at hi
  · simp only [Value.slice.injEq, Option.some.injEq, Addr.mk.injEq, and_true] at hv
    obtain ⟨⟨rfl, rfl⟩, _, _⟩ := hv
    exact hc i hi

theorem spanFields : Tryd.prog.underlying 34 = some (.struct (Tryd.prog.fieldsOf 34)) := by kernel_rfl
theorem spanHeld : Tryd.prog.stoodInHeld 34 = false := by kernel_rfl
theorem part0 (a b c : Value) (w : World) : (part 3 #[a, b, c] 0).run Tryd.prog w = .ok a w := by kernel_rfl
theorem part1 (a b c : Value) (w : World) : (part 3 #[a, b, c] 1).run Tryd.prog w = .ok b w := by kernel_rfl
theorem part2 (a b c : Value) (w : World) : (part 3 #[a, b, c] 2).run Tryd.prog w = .ok c w := by kernel_rfl
theorem eqInt (a b : Int) (w : World) : (Op.equalIn 9999 3 (.int .i64 a) (.int .i64 b)).run Tryd.prog w = .ok (a == b) w := run_equalIn_int w 9998 _ _ _ a b Tryd.underlying3
theorem span_neq (a b c : Int) (w : World) : (binOp .neq 34 (.agg #[.int .i64 a, .int .i64 b, .int .i64 c]) (.agg #[.int .i64 a, .int .i64 b, .int .i64 c])).run Tryd.prog w = .ok (.bool false) w := by
  rw [run_neq_struct, run_equalIn_struct w 9999 _ _ _ spanFields spanHeld]
  simp [Program.fieldsOf, Tryd.underlying34, Op.eqFields, part0, part1, part2, eqInt, Result.andThen]
theorem span_guard (x y : Operand) (xs ys : Array Value) (w : World) : (eqGuard .neq 34 x y (.agg xs) (.agg ys)).run Tryd.prog w = .ok () w := run_eqGuard_agg w .neq _ x y xs ys (by kernel_rfl)

end Go.Proofs.YtlakpddabkmpoaaDoor
