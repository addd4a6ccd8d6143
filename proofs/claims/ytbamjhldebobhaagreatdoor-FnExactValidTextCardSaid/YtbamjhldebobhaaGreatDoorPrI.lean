/- The program's profiles without their lists, names of profiles, and guides. -/
import Derived.Test.YtbamjhldebobhaaGreatDoorPrB
import Derived.Test.YtbamjhldebobhaaGreatDoorEscI
import Derived.Test.YtbamjhldebobhaaGreatDoorMaD
namespace Go.Proofs.YtbamjhldebobhaaGreatDoor
open Go.RowKit

theorem pro_cases {n : Int} (h : proB n = true) : n = 1 ∨ n = 2 ∨ n = 3 ∨ n = 4 ∨ n = 5 := by have := inB_true h; omega
theorem head_kr : eoV 1 7 = .tuple #[.string ⟨#[27, 36, 41, 67]⟩, .int .i64 0] := by kernel_rfl
theorem row8_cells {w : World} {g : Nat} {a0 a1 a2 a3 a4 a5 a6 a7 : Value} {t : TypeId} {fr : Nat × Nat} (h : w.heap[g]? = some (.cells #[a0, a1, a2, a3, a4, a5, a6, a7] t fr)) : w.cell? ⟨g, 0, none⟩ = some a0 ∧ w.cell? ⟨g, 1, none⟩ = some a1 ∧ w.cell? ⟨g, 2, none⟩ = some a2 ∧ w.cell? ⟨g, 3, none⟩ = some a3 ∧ w.cell? ⟨g, 4, none⟩ = some a4 ∧ w.cell? ⟨g, 5, none⟩ = some a5 ∧ w.cell? ⟨g, 6, none⟩ = some a6 ∧ w.cell? ⟨g, 7, none⟩ = some a7 :=
  ⟨by rw [cell_of_row _ _ _ _ _ _ h]; rfl, by rw [cell_of_row _ _ _ _ _ _ h]; rfl, by rw [cell_of_row _ _ _ _ _ _ h]; rfl, by rw [cell_of_row _ _ _ _ _ _ h]; rfl, by rw [cell_of_row _ _ _ _ _ _ h]; rfl, by rw [cell_of_row _ _ _ _ _ _ h]; rfl, by rw [cell_of_row _ _ _ _ _ _ h]; rfl, by rw [cell_of_row _ _ _ _ _ _ h]; rfl⟩
theorem row8_thaw {w : World} {g : Nat} {a0 a1 a2 a3 a4 a5 a6 a7 : Value} {t : TypeId} (h : w.heap[g]? = some (.cells #[a0, a1, a2, a3, a4, a5, a6, a7] t)) : w.frozen? ⟨g, 0, none⟩ = false ∧ w.frozen? ⟨g, 1, none⟩ = false ∧ w.frozen? ⟨g, 2, none⟩ = false ∧ w.frozen? ⟨g, 3, none⟩ = false ∧ w.frozen? ⟨g, 4, none⟩ = false ∧ w.frozen? ⟨g, 5, none⟩ = false ∧ w.frozen? ⟨g, 6, none⟩ = false ∧ w.frozen? ⟨g, 7, none⟩ = false :=
  ⟨frozen_of_row w _ 0 _ _ h, frozen_of_row w _ 1 _ _ h, frozen_of_row w _ 2 _ _ h, frozen_of_row w _ 3 _ _ h, frozen_of_row w _ 4 _ _ h, frozen_of_row w _ 5 _ _ h, frozen_of_row w _ 6 _ _ h, frozen_of_row w _ 7 _ _ h⟩
def put8 (w : World) (g : Nat) (v0 v1 v2 v3 v4 v5 v6 v7 : Value) : World := ((((((((w.setCell ⟨g, 0, none⟩ v0).setCell ⟨g, 1, none⟩ v1).setCell ⟨g, 2, none⟩ v2).setCell ⟨g, 3, none⟩ v3).setCell ⟨g, 4, none⟩ v4).setCell ⟨g, 5, none⟩ v5).setCell ⟨g, 6, none⟩ v6).setCell ⟨g, 7, none⟩ v7)
theorem put8_row {w : World} {g : Nat} {a0 a1 a2 a3 a4 a5 a6 a7 : Value} {t : TypeId} (h : w.heap[g]? = some (.cells #[a0, a1, a2, a3, a4, a5, a6, a7] t)) (v0 v1 v2 v3 v4 v5 v6 v7 : Value) : (put8 w g v0 v1 v2 v3 v4 v5 v6 v7).heap[g]? = some (.cells #[v0, v1, v2, v3, v4, v5, v6, v7] t) := by
  have k0 : (w.setCell ⟨g, 0, none⟩ v0).heap[g]? = some (.cells #[v0, a1, a2, a3, a4, a5, a6, a7] t) := heap_setCell_same _ _ 0 _ _ v0 h
  have k1 : ((w.setCell ⟨g, 0, none⟩ v0).setCell ⟨g, 1, none⟩ v1).heap[g]? = some (.cells #[v0, v1, a2, a3, a4, a5, a6, a7] t) := heap_setCell_same _ _ 1 _ _ v1 k0
  have k2 : (((w.setCell ⟨g, 0, none⟩ v0).setCell ⟨g, 1, none⟩ v1).setCell ⟨g, 2, none⟩ v2).heap[g]? = some (.cells #[v0, v1, v2, a3, a4, a5, a6, a7] t) := heap_setCell_same _ _ 2 _ _ v2 k1
  have k3 : ((((w.setCell ⟨g, 0, none⟩ v0).setCell ⟨g, 1, none⟩ v1).setCell ⟨g, 2, none⟩ v2).setCell ⟨g, 3, none⟩ v3).heap[g]? = some (.cells #[v0, v1, v2, v3, a4, a5, a6, a7] t) := heap_setCell_same _ _ 3 _ _ v3 k2
  have k4 : (((((w.setCell ⟨g, 0, none⟩ v0).setCell ⟨g, 1, none⟩ v1).setCell ⟨g, 2, none⟩ v2).setCell ⟨g, 3, none⟩ v3).setCell ⟨g, 4, none⟩ v4).heap[g]? = some (.cells #[v0, v1, v2, v3, v4, a5, a6, a7] t) := heap_setCell_same _ _ 4 _ _ v4 k3
  have k5 : ((((((w.setCell ⟨g, 0, none⟩ v0).setCell ⟨g, 1, none⟩ v1).setCell ⟨g, 2, none⟩ v2).setCell ⟨g, 3, none⟩ v3).setCell ⟨g, 4, none⟩ v4).setCell ⟨g, 5, none⟩ v5).heap[g]? = some (.cells #[v0, v1, v2, v3, v4, v5, a6, a7] t) := heap_setCell_same _ _ 5 _ _ v5 k4
  have k6 : (((((((w.setCell ⟨g, 0, none⟩ v0).setCell ⟨g, 1, none⟩ v1).setCell ⟨g, 2, none⟩ v2).setCell ⟨g, 3, none⟩ v3).setCell ⟨g, 4, none⟩ v4).setCell ⟨g, 5, none⟩ v5).setCell ⟨g, 6, none⟩ v6).heap[g]? = some (.cells #[v0, v1, v2, v3, v4, v5, v6, a7] t) := heap_setCell_same _ _ 6 _ _ v6 k5
  have k7 : ((((((((w.setCell ⟨g, 0, none⟩ v0).setCell ⟨g, 1, none⟩ v1).setCell ⟨g, 2, none⟩ v2).setCell ⟨g, 3, none⟩ v3).setCell ⟨g, 4, none⟩ v4).setCell ⟨g, 5, none⟩ v5).setCell ⟨g, 6, none⟩ v6).setCell ⟨g, 7, none⟩ v7).heap[g]? = some (.cells #[v0, v1, v2, v3, v4, v5, v6, v7] t) := heap_setCell_same _ _ 7 _ _ v7 k6
  exact k7
theorem put8_below {B : Nat} {u w : World} {g : Nat} (h : Below B u w) (hg : B ≤ g) (v0 v1 v2 v3 v4 v5 v6 v7 : Value) : Below B u (put8 w g v0 v1 v2 v3 v4 v5 v6 v7) := ((((((((h.setCell hg _).setCell hg _).setCell hg _).setCell hg _).setCell hg _).setCell hg _).setCell hg _).setCell hg _)

theorem row10_cells {w : World} {g : Nat} {a0 a1 a2 a3 a4 a5 a6 a7 a8 a9 : Value} {t : TypeId} {fr : Nat × Nat} (h : w.heap[g]? = some (.cells #[a0, a1, a2, a3, a4, a5, a6, a7, a8, a9] t fr)) : w.cell? ⟨g, 0, none⟩ = some a0 ∧ w.cell? ⟨g, 1, none⟩ = some a1 ∧ w.cell? ⟨g, 2, none⟩ = some a2 ∧ w.cell? ⟨g, 3, none⟩ = some a3 ∧ w.cell? ⟨g, 4, none⟩ = some a4 ∧ w.cell? ⟨g, 5, none⟩ = some a5 ∧ w.cell? ⟨g, 6, none⟩ = some a6 ∧ w.cell? ⟨g, 7, none⟩ = some a7 ∧ w.cell? ⟨g, 8, none⟩ = some a8 ∧ w.cell? ⟨g, 9, none⟩ = some a9 :=
  ⟨by rw [cell_of_row _ _ _ _ _ _ h]; rfl, by rw [cell_of_row _ _ _ _ _ _ h]; rfl, by rw [cell_of_row _ _ _ _ _ _ h]; rfl, by rw [cell_of_row _ _ _ _ _ _ h]; rfl, by rw [cell_of_row _ _ _ _ _ _ h]; rfl, by rw [cell_of_row _ _ _ _ _ _ h]; rfl, by rw [cell_of_row _ _ _ _ _ _ h]; rfl, by rw [cell_of_row _ _ _ _ _ _ h]; rfl, by rw [cell_of_row _ _ _ _ _ _ h]; rfl, by rw [cell_of_row _ _ _ _ _ _ h]; rfl⟩
theorem row10_thaw {w : World} {g : Nat} {a0 a1 a2 a3 a4 a5 a6 a7 a8 a9 : Value} {t : TypeId} (h : w.heap[g]? = some (.cells #[a0, a1, a2, a3, a4, a5, a6, a7, a8, a9] t)) : w.frozen? ⟨g, 0, none⟩ = false ∧ w.frozen? ⟨g, 1, none⟩ = false ∧ w.frozen? ⟨g, 2, none⟩ = false ∧ w.frozen? ⟨g, 3, none⟩ = false ∧ w.frozen? ⟨g, 4, none⟩ = false ∧ w.frozen? ⟨g, 5, none⟩ = false ∧ w.frozen? ⟨g, 6, none⟩ = false ∧ w.frozen? ⟨g, 7, none⟩ = false ∧ w.frozen? ⟨g, 8, none⟩ = false ∧ w.frozen? ⟨g, 9, none⟩ = false :=
  ⟨frozen_of_row w _ 0 _ _ h, frozen_of_row w _ 1 _ _ h, frozen_of_row w _ 2 _ _ h, frozen_of_row w _ 3 _ _ h, frozen_of_row w _ 4 _ _ h, frozen_of_row w _ 5 _ _ h, frozen_of_row w _ 6 _ _ h, frozen_of_row w _ 7 _ _ h, frozen_of_row w _ 8 _ _ h, frozen_of_row w _ 9 _ _ h⟩
def put10 (w : World) (g : Nat) (v0 v1 v2 v3 v4 v5 v6 v7 v8 v9 : Value) : World := ((((((((((w.setCell ⟨g, 0, none⟩ v0).setCell ⟨g, 1, none⟩ v1).setCell ⟨g, 2, none⟩ v2).setCell ⟨g, 3, none⟩ v3).setCell ⟨g, 4, none⟩ v4).setCell ⟨g, 5, none⟩ v5).setCell ⟨g, 6, none⟩ v6).setCell ⟨g, 7, none⟩ v7).setCell ⟨g, 8, none⟩ v8).setCell ⟨g, 9, none⟩ v9)
theorem put10_row {w : World} {g : Nat} {a0 a1 a2 a3 a4 a5 a6 a7 a8 a9 : Value} {t : TypeId} (h : w.heap[g]? = some (.cells #[a0, a1, a2, a3, a4, a5, a6, a7, a8, a9] t)) (v0 v1 v2 v3 v4 v5 v6 v7 v8 v9 : Value) : (put10 w g v0 v1 v2 v3 v4 v5 v6 v7 v8 v9).heap[g]? = some (.cells #[v0, v1, v2, v3, v4, v5, v6, v7, v8, v9] t) := by
  have k0 : (w.setCell ⟨g, 0, none⟩ v0).heap[g]? = some (.cells #[v0, a1, a2, a3, a4, a5, a6, a7, a8, a9] t) := heap_setCell_same _ _ 0 _ _ v0 h
  have k1 : ((w.setCell ⟨g, 0, none⟩ v0).setCell ⟨g, 1, none⟩ v1).heap[g]? = some (.cells #[v0, v1, a2, a3, a4, a5, a6, a7, a8, a9] t) := heap_setCell_same _ _ 1 _ _ v1 k0
  have k2 : (((w.setCell ⟨g, 0, none⟩ v0).setCell ⟨g, 1, none⟩ v1).setCell ⟨g, 2, none⟩ v2).heap[g]? = some (.cells #[v0, v1, v2, a3, a4, a5, a6, a7, a8, a9] t) := heap_setCell_same _ _ 2 _ _ v2 k1
  have k3 : ((((w.setCell ⟨g, 0, none⟩ v0).setCell ⟨g, 1, none⟩ v1).setCell ⟨g, 2, none⟩ v2).setCell ⟨g, 3, none⟩ v3).heap[g]? = some (.cells #[v0, v1, v2, v3, a4, a5, a6, a7, a8, a9] t) := heap_setCell_same _ _ 3 _ _ v3 k2
  have k4 : (((((w.setCell ⟨g, 0, none⟩ v0).setCell ⟨g, 1, none⟩ v1).setCell ⟨g, 2, none⟩ v2).setCell ⟨g, 3, none⟩ v3).setCell ⟨g, 4, none⟩ v4).heap[g]? = some (.cells #[v0, v1, v2, v3, v4, a5, a6, a7, a8, a9] t) := heap_setCell_same _ _ 4 _ _ v4 k3
  have k5 : ((((((w.setCell ⟨g, 0, none⟩ v0).setCell ⟨g, 1, none⟩ v1).setCell ⟨g, 2, none⟩ v2).setCell ⟨g, 3, none⟩ v3).setCell ⟨g, 4, none⟩ v4).setCell ⟨g, 5, none⟩ v5).heap[g]? = some (.cells #[v0, v1, v2, v3, v4, v5, a6, a7, a8, a9] t) := heap_setCell_same _ _ 5 _ _ v5 k4
  have k6 : (((((((w.setCell ⟨g, 0, none⟩ v0).setCell ⟨g, 1, none⟩ v1).setCell ⟨g, 2, none⟩ v2).setCell ⟨g, 3, none⟩ v3).setCell ⟨g, 4, none⟩ v4).setCell ⟨g, 5, none⟩ v5).setCell ⟨g, 6, none⟩ v6).heap[g]? = some (.cells #[v0, v1, v2, v3, v4, v5, v6, a7, a8, a9] t) := heap_setCell_same _ _ 6 _ _ v6 k5
  have k7 : ((((((((w.setCell ⟨g, 0, none⟩ v0).setCell ⟨g, 1, none⟩ v1).setCell ⟨g, 2, none⟩ v2).setCell ⟨g, 3, none⟩ v3).setCell ⟨g, 4, none⟩ v4).setCell ⟨g, 5, none⟩ v5).setCell ⟨g, 6, none⟩ v6).setCell ⟨g, 7, none⟩ v7).heap[g]? = some (.cells #[v0, v1, v2, v3, v4, v5, v6, v7, a8, a9] t) := heap_setCell_same _ _ 7 _ _ v7 k6
  have k8 : (((((((((w.setCell ⟨g, 0, none⟩ v0).setCell ⟨g, 1, none⟩ v1).setCell ⟨g, 2, none⟩ v2).setCell ⟨g, 3, none⟩ v3).setCell ⟨g, 4, none⟩ v4).setCell ⟨g, 5, none⟩ v5).setCell ⟨g, 6, none⟩ v6).setCell ⟨g, 7, none⟩ v7).setCell ⟨g, 8, none⟩ v8).heap[g]? = some (.cells #[v0, v1, v2, v3, v4, v5, v6, v7, v8, a9] t) := heap_setCell_same _ _ 8 _ _ v8 k7
  have k9 : ((((((((((w.setCell ⟨g, 0, none⟩ v0).setCell ⟨g, 1, none⟩ v1).setCell ⟨g, 2, none⟩ v2).setCell ⟨g, 3, none⟩ v3).setCell ⟨g, 4, none⟩ v4).setCell ⟨g, 5, none⟩ v5).setCell ⟨g, 6, none⟩ v6).setCell ⟨g, 7, none⟩ v7).setCell ⟨g, 8, none⟩ v8).setCell ⟨g, 9, none⟩ v9).heap[g]? = some (.cells #[v0, v1, v2, v3, v4, v5, v6, v7, v8, v9] t) := heap_setCell_same _ _ 9 _ _ v9 k8
  exact k9
theorem put10_below {B : Nat} {u w : World} {g : Nat} (h : Below B u w) (hg : B ≤ g) (v0 v1 v2 v3 v4 v5 v6 v7 v8 v9 : Value) : Below B u (put10 w g v0 v1 v2 v3 v4 v5 v6 v7 v8 v9) := ((((((((((h.setCell hg _).setCell hg _).setCell hg _).setCell hg _).setCell hg _).setCell hg _).setCell hg _).setCell hg _).setCell hg _).setCell hg _)

theorem prof_ret' {fn : Func} {p : Tmp} {a : Act} {w w1 : World} {g : Nat} {n : Int} {v : Value} {nm hd : ByteArray} {b3 b4 b5 b6 b7 : Bool} (h : fn.results = #[.cell p 60])
    (hp : a.tmps.getD p undef = .pointer (some ⟨g, 0, none⟩)) (hg : w1.heap[g]? = some (.cells #[.string nm, .string hd, v, .bool b3, .bool b4, .bool b5, .bool b6, .bool b7] 60))
    (hv : prV n v = .agg #[.string nm, .string hd, v, .bool b3, .bool b4, .bool b5, .bool b6, .bool b7]) (hdef : a.defers = []) (hb : Below w.heap.size w w1) :
    bodyPost Tryz.prog fn (fun e w' => e = .returned (prV n v) ∧ Below w.heap.size w w') .ret a w1 :=
  bodyPost_ret (results_cell_row h _ _ g _ _ _ _ hp hg Tryz.underlying60 rfl (by kernel_rfl)) hdef ⟨by rw [hv], hb⟩

set_option maxHeartbeats 1000000 in
theorem impl_profileWithoutSets (n : Int) (w : World) (ht : TabSets w) (hn : proB n = true) : Calls Tryz.prog 88 #[.int .i64 n] w fun e w' => e = .returned (prV n (.slice none 0 0)) ∧ Below w.heap.size w w' := by
  have HT := Lib.hid ht
  have HE := Lib.hid (fun w ht => impl_EscapeOf 1 7 w ht)
  rw [head_kr] at HE
  clear ht
  rcases pro_cases hn with rfl | rfl | rfl | rfl | rfl
  · clear hn
    go_enter Tryz.func88, Tryz.ntmps88
    go_wp2
    exact prof_ret' (g := w.heap.size) rfl rfl (heap_alloc_new _ _) rfl rfl (below_one _ _)
  · clear hn
    go_enter Tryz.func88, Tryz.ntmps88
    go_wp2
    exact prof_ret' (g := w.heap.size) rfl rfl (heap_alloc_new _ _) rfl rfl (below_one _ _)
  · clear hn
    have B0 := Lib.hid (below_one w (.cells #[.string ⟨#[]⟩, .string ⟨#[]⟩, .slice none 0 0, .bool false, .bool false, .bool false, .bool false, .bool false] 60))
    have HT0 := Lib.hid (HT.out.keep B0.out)
    have S0 : Hid ((w.alloc (.cells #[.string ⟨#[]⟩, .string ⟨#[]⟩, .slice none 0 0, .bool false, .bool false, .bool false, .bool false, .bool false] 60)).heap[w.heap.size]? = some (.cells #[.string ⟨#[]⟩, .string ⟨#[]⟩, .slice none 0 0, .bool false, .bool false, .bool false, .bool false, .bool false] 60)) := Lib.hid (heap_alloc_new _ _)
    go_enter Tryz.func88, Tryz.ntmps88
    go_wp2_with fail
    refine (HE.out _ HT0.out).mono ?_
    generalize w.alloc (.cells #[.string ⟨#[]⟩, .string ⟨#[]⟩, .slice none 0 0, .bool false, .bool false, .bool false, .bool false, .bool false] 60) = W0 at *
    rintro e w1 ⟨rfl, b1⟩
    have hl := (Array.getElem?_eq_some_iff.1 S0.out).1
    have S1 := (b1.block _ hl).trans S0.out
    have ⟨c0, c1, c2, c3, c4, c5, c6, c7⟩ := row8_cells S1
    have ⟨f0, f1, f2, f3, f4, f5, f6, f7⟩ := row8_thaw S1
    have B1 : Hid (Below w.heap.size w w1) := Lib.hid (B0.out.trans (b1.mono B0.out.size))
    have HS1 := Lib.hid S1
    have hl1 : w.heap.size < w1.heap.size := (Array.getElem?_eq_some_iff.1 S1).1
    clear S1 S0 b1 hl
    go_wp2
    exact prof_ret' (g := w.heap.size) rfl rfl (put8_row HS1.out (.string ⟨#[107, 114]⟩) (.string ⟨#[27, 36, 41, 67]⟩) (.slice none 0 0) (.bool false) (.bool true) (.bool false) (.bool true) (.bool false)) rfl rfl (put8_below B1.out (Nat.le_refl _) _ _ _ _ _ _ _ _)
  · clear hn
    go_enter Tryz.func88, Tryz.ntmps88
    go_wp2
    exact prof_ret' (g := w.heap.size) rfl rfl (heap_alloc_new _ _) rfl rfl (below_one _ _)
  · clear hn
    go_enter Tryz.func88, Tryz.ntmps88
    go_wp2
    exact prof_ret' (g := w.heap.size) rfl rfl (heap_alloc_new _ _) rfl rfl (below_one _ _)

/-- A guide's cells. -/
def guV (n : Int) (m : Value) : Value := .agg #[.int .i64 n, .string (prName n), .string (prHead n), .slice none 0 0, .bool (prRight n), .bool (prShifts n), .bool (prSingle n), .bool (prReset n), .bool (prClear n), m]
set_option maxHeartbeats 1000000 in
theorem impl_guideOf (n : Int) (w : World) (ht : TabSets w) (hn : proB n = true) : Calls Tryz.prog 53 #[.int .i64 n] w fun e w' => e = .returned (guV n (.map none)) ∧ Below w.heap.size w w' := by
  have HP := Lib.hid (fun w ht => impl_profileWithoutSets n w ht hn)
  have HT := Lib.hid ht
  clear ht
  unfold prV at HP
  have B0 := Lib.hid (below_one w (.cells #[.int .i64 0, .string ⟨#[]⟩, .string ⟨#[]⟩, .slice none 0 0, .bool false, .bool false, .bool false, .bool false, .bool false, .map none] 63))
  have HT0 := Lib.hid (HT.out.keep B0.out)
  have S0 : Hid ((w.alloc (.cells #[.int .i64 0, .string ⟨#[]⟩, .string ⟨#[]⟩, .slice none 0 0, .bool false, .bool false, .bool false, .bool false, .bool false, .map none] 63)).heap[w.heap.size]? = some (.cells #[.int .i64 0, .string ⟨#[]⟩, .string ⟨#[]⟩, .slice none 0 0, .bool false, .bool false, .bool false, .bool false, .bool false, .map none] 63)) := Lib.hid (heap_alloc_new _ _)
  go_enter Tryz.func53, Tryz.ntmps53
  go_wp2_with fail
  refine (HP.out _ HT0.out).mono ?_
  generalize w.alloc (.cells #[.int .i64 0, .string ⟨#[]⟩, .string ⟨#[]⟩, .slice none 0 0, .bool false, .bool false, .bool false, .bool false, .bool false, .map none] 63) = W0 at *
  rintro e w1 ⟨rfl, b1⟩
  have hl := (Array.getElem?_eq_some_iff.1 S0.out).1
  have S1 := (b1.block _ hl).trans S0.out
  have ⟨c0, c1, c2, c3, c4, c5, c6, c7, c8, c9⟩ := row10_cells S1
  have ⟨f0, f1, f2, f3, f4, f5, f6, f7, f8, f9⟩ := row10_thaw S1
  have B1 : Hid (Below w.heap.size w w1) := Lib.hid (B0.out.trans (b1.mono B0.out.size))
  have HS1 := Lib.hid S1
  have hl1 : w.heap.size < w1.heap.size := (Array.getElem?_eq_some_iff.1 S1).1
  clear S1 S0 b1 hl
  go_wp2
  exact bodyPost_ret (results_cell_row rfl _ _ w.heap.size _ _ _ _ rfl (put10_row HS1.out (.int .i64 n) (.string (prName n)) (.string (prHead n)) (.slice none 0 0) (.bool (prRight n)) (.bool (prShifts n)) (.bool (prSingle n)) (.bool (prReset n)) (.bool (prClear n)) (.map none)) Tryz.underlying63 rfl (by kernel_rfl)) rfl ⟨rfl, put10_below B1.out (Nat.le_refl _) _ _ _ _ _ _ _ _ _ _⟩

/-- A guide in a block, with what stands in its last cell. -/
def GuAt (w : World) (g : Nat) (n : Int) (m : Value) : Prop := w.heap[g]? = some (.cells #[.int .i64 n, .string (prName n), .string (prHead n), .slice none 0 0, .bool (prRight n), .bool (prShifts n), .bool (prSingle n), .bool (prReset n), .bool (prClear n), m] 63)
theorem GuAt.lt {w : World} {g : Nat} {n : Int} {m : Value} (h : GuAt w g n m) : g < w.heap.size := (Array.getElem?_eq_some_iff.1 h).1
theorem GuAt.keep {w w' : World} {g : Nat} {n : Int} {m : Value} (h : GuAt w g n m) (b : Below w.heap.size w w') : GuAt w' g n m := (b.block g h.lt).trans h

set_option maxHeartbeats 1000000 in
theorem impl_atRest (n : Int) (x : St) (m : Value) (g b : Nat) (w : World) (hg : GuAt w g n m) (hm : MAt w b x) (hx : stOKB x = true) : Calls Tryz.prog 117 #[.pointer (some ⟨g, 0, none⟩), .pointer (some ⟨b, 0, none⟩)] w fun e w' => e = .returned (.bool (restB n x)) ∧ w = w' := by
  have HP := Lib.hid (fun w h => impl_pending x b w h)
  rw [pend_eq hx] at HP
  have HR : Hid (restB n x = (!pendB x && (!prReset n || (decide (x.l = 0) && decide (x.g0 = 1))))) := Lib.hid rfl
  have HM := Lib.hid hm
  have ⟨c0, c1, c2, c3, c4, c5, c6, c7, c8, c9⟩ := row10_cells hg
  have ⟨y0, y1, y2, y3, y4, y5, y6⟩ := hm.cells
  clear c0 c1 c2 c3 c4 c5 c6 c8 c9 hg hm hx y1 y2 y3 y5 y6
  generalize restB n x = q at *
  cases hp : pendB x
  · rw [hp] at HP HR
    cases hr : prReset n
    · have HE : Hid (q = true) := Lib.hid (by rw [HR.out, hr]; rfl)
      rw [hr] at c7
      clear hr hp
      go_enter Tryz.func117, Tryz.ntmps117
      go_wp2_with fail
      refine (HP.out _ HM.out).mono ?_
      rintro e w1 ⟨rfl, rfl⟩
      go_wp2
      go_ret
      exact ⟨ret_bool HE.out.symm, rfl⟩
    · rw [hr] at c7
      by_cases hl : x.l = 0
      · have HE : Hid (q = (x.g0 == 1)) := Lib.hid (by rw [HR.out, hr, show decide (x.l = 0) = true by simpa using hl]; rfl)
        have el : (x.l == 0) = true := by simp [hl]
        clear hl hr hp
        go_enter Tryz.func117, Tryz.ntmps117
        go_wp2_with fail
        refine (HP.out _ HM.out).mono ?_
        rintro e w1 ⟨rfl, rfl⟩
        go_wp2
        go_ret
        exact ⟨ret_bool HE.out.symm, rfl⟩
      · have HE : Hid (q = false) := Lib.hid (by rw [HR.out, hr, show decide (x.l = 0) = false by simpa using hl]; rfl)
        have el : (x.l == 0) = false := by simp [hl]
        clear hr hp
        go_enter Tryz.func117, Tryz.ntmps117
        go_wp2_with fail
        refine (HP.out _ HM.out).mono ?_
        rintro e w1 ⟨rfl, rfl⟩
        go_wp2
        go_ret
        exact ⟨ret_bool HE.out.symm, rfl⟩
  · have HE : Hid (q = false) := Lib.hid (by rw [HR.out, hp]; rfl)
    rw [hp] at HP
    clear hp
    go_enter Tryz.func117, Tryz.ntmps117
    go_wp2_with fail
    refine (HP.out _ HM.out).mono ?_
    rintro e w1 ⟨rfl, rfl⟩
    go_wp2
    go_ret
    exact ⟨ret_bool HE.out.symm, rfl⟩

end Go.Proofs.YtbamjhldebobhaaGreatDoor
