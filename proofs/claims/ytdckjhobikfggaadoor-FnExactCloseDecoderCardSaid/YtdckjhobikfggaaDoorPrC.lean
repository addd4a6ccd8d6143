/- The specification's AllowsToken. -/
import Derived.Test.YtdckjhobikfggaaDoorPrB
import Derived.Test.YtdckjhobikfggaaDoorTokG
namespace Go.Proofs.YtdckjhobikfggaaDoor
open Go.RowKit Go.Sort

/-- A list holds a number. -/
def hasB (zs : List Int) (n : Int) : Bool := zs.contains n
theorem hasB_iff (zs : List Int) (n : Int) : hasB zs n = true ↔ n ∈ zs := by simp [hasB]
theorem hasB_take (zs : List Int) (k : Nat) (n : Int) (h : k < zs.length) : hasB (zs.take (k + 1)) n = (hasB (zs.take k) n || decide (zs.getD k 0 = n)) := by
  rw [Bool.eq_iff_iff, hasB_iff, Bool.or_eq_true, hasB_iff, decide_eq_true_eq, List.take_succ_eq_append_getElem h, List.mem_append, List.mem_singleton]
  simp only [List.getD, List.getElem?_eq_getElem h, Option.getD_some]
  constructor
  · rintro (h | h)
    · exact .inl h
    · exact .inr h.symm
  · rintro (h | h)
    · exact .inl h
    · exact .inr h.symm

theorem l05_blocks (w : World) (n : Int) (v : Value) (t : Tok) : PrAt ((w.alloc (.cells #[.string (prName n), .string (prHead n), v, .bool (prRight n), .bool (prShifts n), .bool (prSingle n), .bool (prReset n), .bool (prClear n)] 109)).alloc (.cells #[.int .i64 t.k, .int .i64 t.a, .int .i64 t.b, .int .i64 t.c, .int .i64 t.p, .int .i64 t.n] 155)) w.heap.size n v ∧ TokAt ((w.alloc (.cells #[.string (prName n), .string (prHead n), v, .bool (prRight n), .bool (prShifts n), .bool (prSingle n), .bool (prReset n), .bool (prClear n)] 109)).alloc (.cells #[.int .i64 t.k, .int .i64 t.a, .int .i64 t.b, .int .i64 t.c, .int .i64 t.p, .int .i64 t.n] 155)) (w.heap.size + 1) t ∧
    Below w.heap.size w ((w.alloc (.cells #[.string (prName n), .string (prHead n), v, .bool (prRight n), .bool (prShifts n), .bool (prSingle n), .bool (prReset n), .bool (prClear n)] 109)).alloc (.cells #[.int .i64 t.k, .int .i64 t.a, .int .i64 t.b, .int .i64 t.c, .int .i64 t.p, .int .i64 t.n] 155)) :=
  ⟨heap_alloc2_old _ _ _, heap_alloc2_new _ _ _, below_two _ _ _⟩
theorem SetsAt.pick {w : World} {v : Value} {n : Int} (h : SetsAt w v n) (a : Int) (a0 : 0 ≤ a) (a3 : a ≤ 3) : ∃ g c u, v = .slice (some ⟨g, 0, none⟩) 4 c ∧ w.cell? ⟨g, a.toNat, none⟩ = some u ∧ Ints .i64 w u (prSets n a) := by
  obtain ⟨g, c, v0, v1, v2, v3, rfl, c0, c1, c2, c3, i0, i1, i2, i3⟩ := h
  rcases (show a = 0 ∨ a = 1 ∨ a = 2 ∨ a = 3 by omega) with rfl | rfl | rfl | rfl
  · exact ⟨g, c, v0, rfl, c0, i0⟩
  · exact ⟨g, c, v1, rfl, c1, i1⟩
  · exact ⟨g, c, v2, rfl, c2, i2⟩
  · exact ⟨g, c, v3, rfl, c3, i3⟩
theorem prSets_few (n a : Int) : (prSets n a).length ≤ 1048576 := by
  unfold prSets prSet0 prSet1 prSet2
  repeat' split
  all_goals decide

end Go.Proofs.YtdckjhobikfggaaDoor
