/- The specification's table of profiles. -/
import Derived.Test.YtbamjhldebobhaaGreatDoorPrM
namespace Go.Proofs.YtbamjhldebobhaaGreatDoor
open Go.RowKit

/-- A profile with its lists of sets as a value. -/
def prV (n : Int) (v : Value) : Value := .agg #[.string (prName n), .string (prHead n), v, .bool (prRight n), .bool (prShifts n), .bool (prSingle n), .bool (prReset n), .bool (prClear n)]
/-- Four lists of sets, readable. -/
def SetsAt (w : World) (v : Value) (n : Int) : Prop := ∃ g c v0 v1 v2 v3, v = .slice (some ⟨g, 0, none⟩) 4 c ∧ w.cell? ⟨g, 0, none⟩ = some v0 ∧ w.cell? ⟨g, 1, none⟩ = some v1 ∧ w.cell? ⟨g, 2, none⟩ = some v2 ∧ w.cell? ⟨g, 3, none⟩ = some v3 ∧
  Ints .i64 w v0 (prSet0 n) ∧ Ints .i64 w v1 (prSet1 n) ∧ Ints .i64 w v2 (prSet2 n) ∧ Ints .i64 w v3 []
def PrDone (n : Int) (w : World) (e : Ending) (w' : World) : Prop := ∃ v, e = .returned (prV n v) ∧ SetsAt w' v n ∧ Below w.heap.size w w'
theorem SetsAt.keep {w w' : World} {v : Value} {n : Int} (h : SetsAt w v n) (b : Below w.heap.size w w') : SetsAt w' v n := by
  obtain ⟨g, c, v0, v1, v2, v3, rfl, c0, c1, c2, c3, i0, i1, i2, i3⟩ := h
  exact ⟨g, c, v0, v1, v2, v3, rfl, cell_since b c0, cell_since b c1, cell_since b c2, cell_since b c3, i0.keep b, i1.keep b, i2.keep b, i3.keep b⟩

theorem at_new (w : World) (o : Obj) {i : Nat} (h : i = w.heap.size) : (w.alloc o).heap[i]? = some o := by rw [h]; exact heap_alloc_new w o
theorem at_old {w : World} (o : Obj) {i : Nat} {x : Obj} (h : w.heap[i]? = some x) : (w.alloc o).heap[i]? = some x := (below_one w o).block i (Array.getElem?_eq_some_iff.1 h).1 |>.trans h
theorem prof_ret {fn : Func} {p : Tmp} {a : Act} {w w1 : World} {g : Nat} {n : Int} {v : Value} {nm hd : ByteArray} {b3 b4 b5 b6 b7 : Bool} (h : fn.results = #[.cell p 60])
    (hp : a.tmps.getD p undef = .pointer (some ⟨g, 0, none⟩)) (hg : w1.heap[g]? = some (.cells #[.string nm, .string hd, v, .bool b3, .bool b4, .bool b5, .bool b6, .bool b7] 60))
    (hv : prV n v = .agg #[.string nm, .string hd, v, .bool b3, .bool b4, .bool b5, .bool b6, .bool b7]) (hdef : a.defers = []) (hs : SetsAt w1 v n) (hb : Below w.heap.size w w1) :
    bodyPost Tryz.prog fn (PrDone n w) .ret a w1 :=
  bodyPost_ret (results_cell_row h _ _ g _ _ _ _ hp hg Tryz.underlying60 rfl (by kernel_rfl)) hdef ⟨v, by rw [hv], hs, hb⟩

theorem ints_row {w : World} {g : Nat} {zs : List Int} {t : TypeId} {fr : Nat × Nat} (c : Nat) (h : w.heap[g]? = some (.cells (zs.map (Value.int .i64)).toArray t fr)) : Ints .i64 w (.slice (some ⟨g, 0, none⟩) zs.length c) zs := by
  refine .inr ⟨g, 0, c, rfl, fun i hi => ?_⟩
  rw [cell_of_row _ _ _ _ _ _ h]
  simp [List.getD, hi]
theorem ints_none (w : World) (a : Option Addr) (c : Nat) : Ints .i64 w (.slice a 0 c) [] := .inl ⟨rfl, a, c, rfl⟩

theorem SetsAt.of {w : World} {g c : Nat} {n : Int} {v0 v1 v2 v3 : Value} {t : TypeId} {fr : Nat × Nat} (h : w.heap[g]? = some (.cells #[v0, v1, v2, v3] t fr)) (i0 : Ints .i64 w v0 (prSet0 n)) (i1 : Ints .i64 w v1 (prSet1 n)) (i2 : Ints .i64 w v2 (prSet2 n)) (i3 : Ints .i64 w v3 []) : SetsAt w (.slice (some ⟨g, 0, none⟩) 4 c) n :=
  ⟨g, c, v0, v1, v2, v3, rfl, by rw [cell_of_row _ _ _ _ _ _ h]; rfl, by rw [cell_of_row _ _ _ _ _ _ h]; rfl, by rw [cell_of_row _ _ _ _ _ _ h]; rfl, by rw [cell_of_row _ _ _ _ _ _ h]; rfl, i0, i1, i2, i3⟩
theorem below_alloc {B : Nat} {a w : World} (h : Below B a w) (o : Obj) (hB : B = a.heap.size) : Below B a (w.alloc o) := h.alloc (by rw [hB]; exact h.size) _

set_option maxHeartbeats 2000000 in
theorem spec_l05Profile (n : Int) (w : World) : Calls Tryz.prog 62 #[.int .i64 n] w (PrDone n w) := by
  rcases (show n = 1 ∨ n = 2 ∨ n = 3 ∨ n = 4 ∨ (n ≠ 1 ∧ n ≠ 2 ∧ n ≠ 3 ∧ n ≠ 4) by omega) with rfl | rfl | rfl | rfl | ⟨h1, h2, h3, h4⟩
  · go_enter Tryz.func62, Tryz.ntmps62
    go_wp2
    exact prof_ret (g := w.heap.size) rfl rfl (at_old _ (at_old _ (at_old _ (at_new _ _ (by simp))))) rfl rfl (SetsAt.of (at_new _ _ (by simp)) (ints_row (zs := [1, 2, 6]) _ (at_old _ (at_new _ _ (by simp)))) (ints_none _ _ _) (ints_none _ _ _) (ints_none _ _ _)) (below_alloc (below_alloc (below_alloc (below_one _ _) _ rfl) _ rfl) _ rfl)
  · go_enter Tryz.func62, Tryz.ntmps62
    go_wp2
    exact prof_ret (g := w.heap.size) rfl rfl (at_old _ (at_old _ (at_old _ (at_old _ (at_new _ _ (by simp)))))) rfl rfl (SetsAt.of (at_new _ _ (by simp)) (ints_row (zs := [1, 2, 6, 7, 8]) _ (at_old _ (at_old _ (at_new _ _ (by simp))))) (ints_none _ _ _) (ints_row (zs := [4, 5]) _ (at_old _ (at_new _ _ (by simp)))) (ints_none _ _ _)) (below_alloc (below_alloc (below_alloc (below_alloc (below_one _ _) _ rfl) _ rfl) _ rfl) _ rfl)
  · go_enter Tryz.func62, Tryz.ntmps62
    go_wp2
    exact prof_ret (g := w.heap.size) rfl rfl (at_old _ (at_old _ (at_old _ (at_old _ (at_new _ _ (by simp)))))) rfl rfl (SetsAt.of (at_new _ _ (by simp)) (ints_row (zs := [1]) _ (at_old _ (at_old _ (at_new _ _ (by simp))))) (ints_row (zs := [7]) _ (at_old _ (at_new _ _ (by simp)))) (ints_none _ _ _) (ints_none _ _ _)) (below_alloc (below_alloc (below_alloc (below_alloc (below_one _ _) _ rfl) _ rfl) _ rfl) _ rfl)
  · go_enter Tryz.func62, Tryz.ntmps62
    go_wp2
    exact prof_ret (g := w.heap.size) rfl rfl (at_old _ (at_old _ (at_old _ (at_old _ (at_old _ (at_new _ _ (by simp))))))) rfl rfl (SetsAt.of (at_new _ _ (by simp)) (ints_row (zs := [1]) _ (at_old _ (at_old _ (at_old _ (at_new _ _ (by simp)))))) (ints_row (zs := [7, 8]) _ (at_old _ (at_old _ (at_new _ _ (by simp))))) (ints_row (zs := [3, 6]) _ (at_old _ (at_new _ _ (by simp)))) (ints_none _ _ _)) (below_alloc (below_alloc (below_alloc (below_alloc (below_alloc (below_one _ _) _ rfl) _ rfl) _ rfl) _ rfl) _ rfl)
  · have e1 : (n == 1) = false := by simp [h1]
    have e2 : (n == 2) = false := by simp [h2]
    have e3 : (n == 3) = false := by simp [h3]
    have e4 : (n == 4) = false := by simp [h4]
    have HV : Hid (∀ v, prV n v = .agg #[.string ⟨#[99, 116]⟩, .string ⟨#[]⟩, v, .bool true, .bool false, .bool false, .bool false, .bool false]) := Lib.hid (fun v => by simp [prV, prName, prHead, prRight, prShifts, prSingle, prReset, prClear, h1, h2, h3, h4])
    have H0 : Hid (prSet0 n = [1, 2, 6, 7, 8]) := Lib.hid (by simp [prSet0, h1, h2, h3, h4])
    have H1 : Hid (prSet1 n = [3, 4, 5, 6, 7, 8]) := Lib.hid (by simp [prSet1, h1, h2, h3, h4])
    have H2 : Hid (prSet2 n = []) := Lib.hid (by simp [prSet2, h2, h4])
    clear h1 h2 h3 h4
    go_enter Tryz.func62, Tryz.ntmps62
    go_wp2
    exact prof_ret (g := w.heap.size) rfl rfl (at_old _ (at_old _ (at_old _ (at_old _ (at_new _ _ (by simp)))))) (HV.out _) rfl (SetsAt.of (at_new _ _ (by simp)) (by rw [H0.out]; exact (ints_row (zs := [1, 2, 6, 7, 8]) _ (at_old _ (at_old _ (at_new _ _ (by simp)))))) (by rw [H1.out]; exact (ints_row (zs := [3, 4, 5, 6, 7, 8]) _ (at_old _ (at_new _ _ (by simp))))) (by rw [H2.out]; exact (ints_none _ _ _)) (ints_none _ _ _)) (below_alloc (below_alloc (below_alloc (below_alloc (below_one _ _) _ rfl) _ rfl) _ rfl) _ rfl)

end Go.Proofs.YtbamjhldebobhaaGreatDoor
