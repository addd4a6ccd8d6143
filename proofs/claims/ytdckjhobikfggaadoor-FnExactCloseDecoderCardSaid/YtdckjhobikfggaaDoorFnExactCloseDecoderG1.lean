/- The specification's CloseDecoder. Joined of: PrI, StF, StG, StH, StI, PrE, PrF, DcS, DcT, PcN, SetsJ, MaF, PcA, CloC, Words, LayI, DesI, ByteI, NextI, NextJ, TokH, MaG, MaH, RdA, RdB, PrJ, PlA, PlB, PlC, PrK, RdC, RdK, PrL, RdL, PrG, RdM, RdG, RdH, PrH, RdN, DcU, RdS, PcB, PcC, PcS, PcL, PcT, PcU, PcV. -/
import Derived.Test.YtdckjhobikfggaaDoorPrB
import Derived.Test.YtdckjhobikfggaaDoorEscI
import Derived.Test.YtdckjhobikfggaaDoorMaD
import Derived.Test.YtdckjhobikfggaaDoorStC
import Derived.Test.YtdckjhobikfggaaDoorStN
import Derived.Test.YtdckjhobikfggaaDoorTokG
import Derived.Test.YtdckjhobikfggaaDoorTokE
import Derived.Test.YtdckjhobikfggaaDoorOwn
import Derived.Test.YtdckjhobikfggaaDoorPrC
import Derived.Test.YtdckjhobikfggaaDoorDcM
import Derived.Test.YtdckjhobikfggaaDoorPcM
import Derived.Test.YtdckjhobikfggaaDoorSetsT
import Derived.Test.YtdckjhobikfggaaDoorStA
import Derived.Shelf.Strconv.Clone
import Derived.Test.YtdckjhobikfggaaDoorInts
import Derived.Test.YtdckjhobikfggaaDoorRunesA
import Derived.Laws.Rows
import Derived.Shelf.Strings.BuilderRune
import Derived.Shelf.Strings.Search1
import Derived.Shelf.Small.Strs
import Derived.Test.YtdckjhobikfggaaDoorProg
import Derived.Test.YtdckjhobikfggaaDoorTokB
import Derived.Test.YtdckjhobikfggaaDoorTokC
import Derived.WalkMore
import Derived.Test.YtdckjhobikfggaaDoorTokD
import Derived.Test.YtdckjhobikfggaaDoorStL
import Derived.Maps.OwnSet
import Derived.Laws.StructEq
import Derived.Great.Frames
import Derived.Laws.EntriesVeiled
import Derived.Laws.IdiomCopy
import Derived.Test.YtdckjhobikfggaaDoorMaC
import Derived.OrdersHeld

namespace Go.Proofs.YtdckjhobikfggaaDoor
open Go.RowKit

theorem pro_cases {n : Int} (h : proB n = true) : n = 1 ∨ n = 2 ∨ n = 3 ∨ n = 4 ∨ n = 5 := by have := inB_true h; omega
theorem head_kr : eoV 1 7 = .tuple #[.string ⟨#[27, 36, 41, 67]⟩, .int .i64 0] := by kernel_rfl
theorem row8_cells {w : World} {g : Nat} {a0 a1 a2 a3 a4 a5 a6 a7 : Value} {t : TypeId} {fr : Nat × Nat} (h : w.heap[g]? = some (.cells #[a0, a1, a2, a3, a4, a5, a6, a7] t fr)) : w.cell? ⟨g, 0, none⟩ = some a0 ∧ w.cell? ⟨g, 1, none⟩ = some a1 ∧ w.cell? ⟨g, 2, none⟩ = some a2 ∧ w.cell? ⟨g, 3, none⟩ = some a3 ∧ w.cell? ⟨g, 4, none⟩ = some a4 ∧ w.cell? ⟨g, 5, none⟩ = some a5 ∧ w.cell? ⟨g, 6, none⟩ = some a6 ∧ w.cell? ⟨g, 7, none⟩ = some a7 :=
  ⟨by rw [cell_of_row _ _ _ _ _ _ h]; rfl, by rw [cell_of_row _ _ _ _ _ _ h]; rfl, by rw [cell_of_row _ _ _ _ _ _ h]; rfl, by rw [cell_of_row _ _ _ _ _ _ h]; rfl, by rw [cell_of_row _ _ _ _ _ _ h]; rfl, by rw [cell_of_row _ _ _ _ _ _ h]; rfl, by rw [cell_of_row _ _ _ _ _ _ h]; rfl, by rw [cell_of_row _ _ _ _ _ _ h]; rfl⟩
theorem row8_thaw {w : World} {g : Nat} {a0 a1 a2 a3 a4 a5 a6 a7 : Value} {t : TypeId} (h : w.heap[g]? = some (.cells #[a0, a1, a2, a3, a4, a5, a6, a7] t)) : w.frozen? ⟨g, 0, none⟩ = false ∧ w.frozen? ⟨g, 1, none⟩ = false ∧ w.frozen? ⟨g, 2, none⟩ = false ∧ w.frozen? ⟨g, 3, none⟩ = false ∧ w.frozen? ⟨g, 4, none⟩ = false ∧ w.frozen? ⟨g, 5, none⟩ = false ∧ w.frozen? ⟨g, 6, none⟩ = false ∧ w.frozen? ⟨g, 7, none⟩ = false :=
  ⟨frozen_of_row w _ 0 _ _ h, frozen_of_row w _ 1 _ _ h, frozen_of_row w _ 2 _ _ h, frozen_of_row w _ 3 _ _ h, frozen_of_row w _ 4 _ _ h, frozen_of_row w _ 5 _ _ h, frozen_of_row w _ 6 _ _ h, frozen_of_row w _ 7 _ _ h⟩
def put8 (w : World) (g : Nat) (v0 v1 v2 v3 v4 v5 v6 v7 : Value) : World := ((((((((w.setCell ⟨g, 0, none⟩ v0).setCell ⟨g, 1, none⟩ v1).setCell ⟨g, 2, none⟩ v2).setCell ⟨g, 3, none⟩ v3).setCell ⟨g, 4, none⟩ v4).setCell ⟨g, 5, none⟩ v5).setCell ⟨g, 6, none⟩ v6).setCell ⟨g, 7, none⟩ v7)
theorem put8_row {w : World} {g : Nat} {a0 a1 a2 a3 a4 a5 a6 a7 : Value} {t : TypeId} (h : w.heap[g]? = some (.cells #[a0, a1, a2, a3, a4, a5, a6, a7] t)) (v0 v1 v2 v3 v4 v5 v6 v7 : Value) : (put8 w g v0 v1 v2 v3 v4 v5 v6 v7).heap[g]? = some (.cells #[v0, v1, v2, v3, v4, v5, v6, v7] t) := by
  have k0 : (w.setCell ⟨g, 0, none⟩ v0).heap[g]? = some (.cells #[v0, a1, a2, a3, a4, a5, a6, a7] t) := heap_setCell_same _ _ 0 _ _ v0 h
  have k1 : ((w.setCell ⟨g, 0, none⟩ v0).setCell ⟨g, 1, none⟩ v1).heap[g]? = some (.cells #[v0, v1, a2, a3, a4, a5, a6, a7] t) := heap_setCell_same _ _ 1 _ _ v1 k0
  have k2 : (((w.setCell ⟨g, 0, none⟩ v0).setCell ⟨g, 1, none⟩ v1).setCell ⟨g, 2, none⟩ v2).heap[g]? = some (.cells #[v0, v1, v2, a3, a4, a5, a6, a7] t) := heap_setCell_same _ _ 2 _ _ v2 k1
  have k3 : ((((w.setCell ⟨g, 0, none⟩ v0).setCell ⟨g, 1, none⟩ v1).setCell ⟨g, 2, none⟩ v2).setCell ⟨g, 3, none⟩ v3).heap[g]? = some (.cells #[v0, v1, v2, v3, a4, a5, a6, a7] t) := heap_setCell_same _ _ 3 _ _ v3 k2
  have k4 : (((((w.setCell ⟨g, 0, none⟩ v0).setCell ⟨g, 1, none⟩ v1).setCell ⟨g, 2, none⟩ v2).setCell ⟨g, 3, none⟩ v3).setCell ⟨g, 4, none⟩ v4).heap[g]? = some (.cells #[v0, v1, v2, v3, v4, a5, a6, a7] t) := heap_setCell_same _ _ 4 _ _ v4 k3
  have k5 : ((((((w.setCell ⟨g, 0, none⟩ v0).setCell ⟨g, 1, none⟩ v1).setCell ⟨g, 2, none⟩ v2).setCell ⟨g, 3, none⟩ v3).setCell ⟨g, 4, none⟩ v4).setCell ⟨g, 5, none⟩ v5).heap[g]? = some (.cells #[v0, v1, v2, v3, v4, v5, a6, a7] t) := heap_setCell_same _ _ 5 _ _ v5 k4
  have k6 : (((((((w.setCell ⟨g, 0, none⟩ v0).setCell ⟨g, 1, none⟩ v1).setCell ⟨g, 2, none⟩ v2).setCell ⟨g, 3, none⟩ v3).setCell ⟨g, 4, none⟩ v4).setCell ⟨g, 5, none⟩ v5).setCell ⟨g, 6, none⟩ v6).heap[g]? = some (.cells #[v0, v1, v2, v3, v4, v5, v6, a7] t) := heap_setCell_same _ _ 6 _ _ v6 k5
  have k7 : ((((((((w.setCell ⟨g, 0, none⟩ v0).setCell ⟨g, 1, none⟩ v1).setCell ⟨g, 2, none⟩ v2).setCell ⟨g, 3, none⟩ v3).setCell ⟨g, 4, none⟩ v4).setCell ⟨g, 5, none⟩ v5).setCell ⟨g, 6, none⟩ v6).setCell ⟨g, 7, none⟩ v7).heap[g]? = some (.cells #[v0, v1, v2, v3, v4, v5, v6, v7] t) := heap_setCell_same _ _ 7 _ _ v7 k6
  exact k7
theorem put8_below {B : Nat} {u w : World} {g : Nat} (h : Below B u w) (hg : B ≤ g) (v0 v1 v2 v3 v4 v5 v6 v7 : Value) : Below B u (put8 w g v0 v1 v2 v3 v4 v5 v6 v7) := ((((((((h.setCell hg _).setCell hg _).setCell hg _).setCell hg _).setCell hg _).setCell hg _).setCell hg _).setCell hg _)

theorem row10_cells {w : World} {g : Nat} {a0 a1 a2 a3 a4 a5 a6 a7 a8 a9 : Value} {t : TypeId} {fr : Nat × Nat} (h : w.heap[g]? = some (.cells #[a0, a1, a2, a3, a4, a5, a6, a7, a8, a9] t fr)) : w.cell? ⟨g, 0, none⟩ = some a0 ∧ w.cell? ⟨g, 1, none⟩ = some a1 ∧ w.cell? ⟨g, 2, none⟩ = some a2 ∧ w.cell? ⟨g, 3, none⟩ = some a3 ∧ w.cell? ⟨g, 4, none⟩ = some a4 ∧ w.cell? ⟨g, 5, none⟩ = some a5 ∧ w.cell? ⟨g, 6, none⟩ = some a6 ∧ w.cell? ⟨g, 7, none⟩ = some a7 ∧ w.cell? ⟨g, 8, none⟩ = some a8 ∧ w.cell? ⟨g, 9, none⟩ = some a9 :=
  ⟨by rw [cell_of_row _ _ _ _ _ _ h]; rfl, by rw [cell_of_row _ _ _ _ _ _ h]; rfl, by rw [cell_of_row _ _ _ _ _ _ h]; rfl, by rw [cell_of_row _ _ _ _ _ _ h]; rfl, by rw [cell_of_row _ _ _ _ _ _ h]; rfl, by rw [cell_of_row _ _ _ _ _ _ h]; rfl, by rw [cell_of_row _ _ _ _ _ _ h]; rfl, by rw [cell_of_row _ _ _ _ _ _ h]; rfl, by rw [cell_of_row _ _ _ _ _ _ h]; rfl, by rw [cell_of_row _ _ _ _ _ _ h]; rfl⟩
theorem row10_thaw {w : World} {g : Nat} {a0 a1 a2 a3 a4 a5 a6 a7 a8 a9 : Value} {t : TypeId} (h : w.heap[g]? = some (.cells #[a0, a1, a2, a3, a4, a5, a6, a7, a8, a9] t)) : w.frozen? ⟨g, 0, none⟩ = false ∧ w.frozen? ⟨g, 1, none⟩ = false ∧ w.frozen? ⟨g, 2, none⟩ = false ∧ w.frozen? ⟨g, 3, none⟩ = false ∧ w.frozen? ⟨g, 4, none⟩ = false ∧ w.frozen? ⟨g, 5, none⟩ = false ∧ w.frozen? ⟨g, 6, none⟩ = false ∧ w.frozen? ⟨g, 7, none⟩ = false ∧ w.frozen? ⟨g, 8, none⟩ = false ∧ w.frozen? ⟨g, 9, none⟩ = false :=
  ⟨frozen_of_row w _ 0 _ _ h, frozen_of_row w _ 1 _ _ h, frozen_of_row w _ 2 _ _ h, frozen_of_row w _ 3 _ _ h, frozen_of_row w _ 4 _ _ h, frozen_of_row w _ 5 _ _ h, frozen_of_row w _ 6 _ _ h, frozen_of_row w _ 7 _ _ h, frozen_of_row w _ 8 _ _ h, frozen_of_row w _ 9 _ _ h⟩
def put10 (w : World) (g : Nat) (v0 v1 v2 v3 v4 v5 v6 v7 v8 v9 : Value) : World := ((((((((((w.setCell ⟨g, 0, none⟩ v0).setCell ⟨g, 1, none⟩ v1).setCell ⟨g, 2, none⟩ v2).setCell ⟨g, 3, none⟩ v3).setCell ⟨g, 4, none⟩ v4).setCell ⟨g, 5, none⟩ v5).setCell ⟨g, 6, none⟩ v6).setCell ⟨g, 7, none⟩ v7).setCell ⟨g, 8, none⟩ v8).setCell ⟨g, 9, none⟩ v9)
theorem put10_row {w : World} {g : Nat} {a0 a1 a2 a3 a4 a5 a6 a7 a8 a9 : Value} {t : TypeId} (h : w.heap[g]? = some (.cells #[a0, a1, a2, a3, a4, a5, a6, a7, a8, a9] t)) (v0 v1 v2 v3 v4 v5 v6 v7 v8 v9 : Value) : (put10 w g v0 v1 v2 v3 v4 v5 v6 v7 v8 v9).heap[g]? = some (.cells #[v0, v1, v2, v3, v4, v5, v6, v7, v8, v9] t) := by
  have k0 : (w.setCell ⟨g, 0, none⟩ v0).heap[g]? = some (.cells #[v0, a1, a2, a3, a4, a5, a6, a7, a8, a9] t) := heap_setCell_same _ _ 0 _ _ v0 h
  have k1 : ((w.setCell ⟨g, 0, none⟩ v0).setCell ⟨g, 1, none⟩ v1).heap[g]? = some (.cells #[v0, v1, a2, a3, a4, a5, a6, a7, a8, a9] t) := heap_setCell_same _ _ 1 _ _ v1 k0
  have k2 : (((w.setCell ⟨g, 0, none⟩ v0).setCell ⟨g, 1, none⟩ v1).setCell ⟨g, 2, none⟩ v2).heap[g]? = some (.cells #[v0, v1, v2, a3, a4, a5, a6, a7, a8, a9] t) := heap_setCell_same _ _ 2 _ _ v2 k1
  have k3 : ((((w.setCell ⟨g, 0, none⟩ v0).setCell ⟨g, 1, none⟩ v1).setCell ⟨g, 2, none⟩ v2).setCell ⟨g, 3, none⟩ v3).heap[g]? = some (.cells #[v0, v1, v2, v3, a4, a5, a6, a7, a8, a9] t) := heap_setCell_same _ _ 3 _ _ v3 k2
  have k4 : (((((w.setCell ⟨g, 0, none⟩ v0).setCell ⟨g, 1, none⟩ v1).setCell ⟨g, 2, none⟩ v2).setCell ⟨g, 3, none⟩ v3).setCell ⟨g, 4, none⟩ v4).heap[g]? = some (.cells #[v0, v1, v2, v3, v4, a5, a6, a7, a8, a9] t) := heap_setCell_same _ _ 4 _ _ v4 k3
  have k5 : ((((((w.setCell ⟨g, 0, none⟩ v0).setCell ⟨g, 1, none⟩ v1).setCell ⟨g, 2, none⟩ v2).setCell ⟨g, 3, none⟩ v3).setCell ⟨g, 4, none⟩ v4).setCell ⟨g, 5, none⟩ v5).heap[g]? = some (.cells #[v0, v1, v2, v3, v4, v5, a6, a7, a8, a9] t) := heap_setCell_same _ _ 5 _ _ v5 k4
  have k6 : (((((((w.setCell ⟨g, 0, none⟩ v0).setCell ⟨g, 1, none⟩ v1).setCell ⟨g, 2, none⟩ v2).setCell ⟨g, 3, none⟩ v3).setCell ⟨g, 4, none⟩ v4).setCell ⟨g, 5, none⟩ v5).setCell ⟨g, 6, none⟩ v6).heap[g]? = some (.cells #[v0, v1, v2, v3, v4, v5, v6, a7, a8, a9] t) := heap_setCell_same _ _ 6 _ _ v6 k5
  have k7 : ((((((((w.setCell ⟨g, 0, none⟩ v0).setCell ⟨g, 1, none⟩ v1).setCell ⟨g, 2, none⟩ v2).setCell ⟨g, 3, none⟩ v3).setCell ⟨g, 4, none⟩ v4).setCell ⟨g, 5, none⟩ v5).setCell ⟨g, 6, none⟩ v6).setCell ⟨g, 7, none⟩ v7).heap[g]? = some (.cells #[v0, v1, v2, v3, v4, v5, v6, v7, a8, a9] t) := heap_setCell_same _ _ 7 _ _ v7 k6
  have k8 : (((((((((w.setCell ⟨g, 0, none⟩ v0).setCell ⟨g, 1, none⟩ v1).setCell ⟨g, 2, none⟩ v2).setCell ⟨g, 3, none⟩ v3).setCell ⟨g, 4, none⟩ v4).setCell ⟨g, 5, none⟩ v5).setCell ⟨g, 6, none⟩ v6).setCell ⟨g, 7, none⟩ v7).setCell ⟨g, 8, none⟩ v8).heap[g]? = some (.cells #[v0, v1, v2, v3, v4, v5, v6, v7, v8, a9] t) := heap_setCell_same _ _ 8 _ _ v8 k7
  have k9 : ((((((((((w.setCell ⟨g, 0, none⟩ v0).setCell ⟨g, 1, none⟩ v1).setCell ⟨g, 2, none⟩ v2).setCell ⟨g, 3, none⟩ v3).setCell ⟨g, 4, none⟩ v4).setCell ⟨g, 5, none⟩ v5).setCell ⟨g, 6, none⟩ v6).setCell ⟨g, 7, none⟩ v7).setCell ⟨g, 8, none⟩ v8).setCell ⟨g, 9, none⟩ v9).heap[g]? = some (.cells #[v0, v1, v2, v3, v4, v5, v6, v7, v8, v9] t) := heap_setCell_same _ _ 9 _ _ v9 k8
  exact k9
theorem put10_below {B : Nat} {u w : World} {g : Nat} (h : Below B u w) (hg : B ≤ g) (v0 v1 v2 v3 v4 v5 v6 v7 v8 v9 : Value) : Below B u (put10 w g v0 v1 v2 v3 v4 v5 v6 v7 v8 v9) := ((((((((((h.setCell hg _).setCell hg _).setCell hg _).setCell hg _).setCell hg _).setCell hg _).setCell hg _).setCell hg _).setCell hg _).setCell hg _)

theorem prof_ret' {fn : Func} {p : Tmp} {a : Act} {w w1 : World} {g : Nat} {n : Int} {v : Value} {nm hd : ByteArray} {b3 b4 b5 b6 b7 : Bool} (h : fn.results = #[.cell p 109])
    (hp : a.tmps.getD p undef = .pointer (some ⟨g, 0, none⟩)) (hg : w1.heap[g]? = some (.cells #[.string nm, .string hd, v, .bool b3, .bool b4, .bool b5, .bool b6, .bool b7] 109))
    (hv : prV n v = .agg #[.string nm, .string hd, v, .bool b3, .bool b4, .bool b5, .bool b6, .bool b7]) (hdef : a.defers = []) (hb : Below w.heap.size w w1) :
    bodyPost Tryd.prog fn (fun e w' => e = .returned (prV n v) ∧ Below w.heap.size w w') .ret a w1 :=
  bodyPost_ret (results_cell_row h _ _ g _ _ _ _ hp hg Tryd.underlying109 rfl (by kernel_rfl)) hdef ⟨by rw [hv], hb⟩

set_option maxHeartbeats 1000000 in
theorem impl_profileWithoutSets (n : Int) (w : World) (ht : TabSets w) (hn : proB n = true) : Calls Tryd.prog 118 #[.int .i64 n] w fun e w' => e = .returned (prV n (.slice none 0 0)) ∧ Below w.heap.size w w' := by
  have HT := Lib.hid ht
  have HE := Lib.hid (fun w ht => impl_EscapeOf 1 7 w ht)
  rw [head_kr] at HE
  clear ht
  rcases pro_cases hn with rfl | rfl | rfl | rfl | rfl
  · clear hn
    go_enter Tryd.func118, Tryd.ntmps118
    go_wp2
    exact prof_ret' (g := w.heap.size) rfl rfl (heap_alloc_new _ _) rfl rfl (below_one _ _)
  · clear hn
    go_enter Tryd.func118, Tryd.ntmps118
    go_wp2
    exact prof_ret' (g := w.heap.size) rfl rfl (heap_alloc_new _ _) rfl rfl (below_one _ _)
  · clear hn
    have B0 := Lib.hid (below_one w (.cells #[.string ⟨#[]⟩, .string ⟨#[]⟩, .slice none 0 0, .bool false, .bool false, .bool false, .bool false, .bool false] 109))
    have HT0 := Lib.hid (HT.out.keep B0.out)
    have S0 : Hid ((w.alloc (.cells #[.string ⟨#[]⟩, .string ⟨#[]⟩, .slice none 0 0, .bool false, .bool false, .bool false, .bool false, .bool false] 109)).heap[w.heap.size]? = some (.cells #[.string ⟨#[]⟩, .string ⟨#[]⟩, .slice none 0 0, .bool false, .bool false, .bool false, .bool false, .bool false] 109)) := Lib.hid (heap_alloc_new _ _)
    go_enter Tryd.func118, Tryd.ntmps118
    go_wp2_with fail
    refine (HE.out _ HT0.out).mono ?_
    generalize w.alloc (.cells #[.string ⟨#[]⟩, .string ⟨#[]⟩, .slice none 0 0, .bool false, .bool false, .bool false, .bool false, .bool false] 109) = W0 at *
    rintro e w1 ⟨rfl, b1⟩
    have hl := (Array.getElem?_eq_some_iff.1 S0.out).1
    have S1 := (b1.block _ hl).trans S0.out
    have ⟨c0, c1, c2, c3, c4, c5, c6, c7⟩ := row8_cells S1
    have ⟨f0, f1, f2, f3, f4, f5, f6, f7⟩ := row8_thaw S1
    have B1 : Hid (Below w.heap.size w w1) := Lib.hid (B0.out.trans (b1.mono B0.out.size))
    have HS1 := Lib.hid S1
    have hl1 : w.heap.size < w1.heap.size := (Array.getElem?_eq_some_iff.1 S1).1
    clear S1 S0 b1 hl
    go_wp2
    exact prof_ret' (g := w.heap.size) rfl rfl (put8_row HS1.out (.string ⟨#[107, 114]⟩) (.string ⟨#[27, 36, 41, 67]⟩) (.slice none 0 0) (.bool false) (.bool true) (.bool false) (.bool true) (.bool false)) rfl rfl (put8_below B1.out (Nat.le_refl _) _ _ _ _ _ _ _ _)
  · clear hn
    go_enter Tryd.func118, Tryd.ntmps118
    go_wp2
    exact prof_ret' (g := w.heap.size) rfl rfl (heap_alloc_new _ _) rfl rfl (below_one _ _)
  · clear hn
    go_enter Tryd.func118, Tryd.ntmps118
    go_wp2
    exact prof_ret' (g := w.heap.size) rfl rfl (heap_alloc_new _ _) rfl rfl (below_one _ _)

/-- A guide's cells. -/
def guV (n : Int) (m : Value) : Value := .agg #[.int .i64 n, .string (prName n), .string (prHead n), .slice none 0 0, .bool (prRight n), .bool (prShifts n), .bool (prSingle n), .bool (prReset n), .bool (prClear n), m]
set_option maxHeartbeats 1000000 in
theorem impl_guideOf (n : Int) (w : World) (ht : TabSets w) (hn : proB n = true) : Calls Tryd.prog 93 #[.int .i64 n] w fun e w' => e = .returned (guV n (.map none)) ∧ Below w.heap.size w w' := by
  have HP := Lib.hid (fun w ht => impl_profileWithoutSets n w ht hn)
  have HT := Lib.hid ht
  clear ht
  unfold prV at HP
  have B0 := Lib.hid (below_one w (.cells #[.int .i64 0, .string ⟨#[]⟩, .string ⟨#[]⟩, .slice none 0 0, .bool false, .bool false, .bool false, .bool false, .bool false, .map none] 116))
  have HT0 := Lib.hid (HT.out.keep B0.out)
  have S0 : Hid ((w.alloc (.cells #[.int .i64 0, .string ⟨#[]⟩, .string ⟨#[]⟩, .slice none 0 0, .bool false, .bool false, .bool false, .bool false, .bool false, .map none] 116)).heap[w.heap.size]? = some (.cells #[.int .i64 0, .string ⟨#[]⟩, .string ⟨#[]⟩, .slice none 0 0, .bool false, .bool false, .bool false, .bool false, .bool false, .map none] 116)) := Lib.hid (heap_alloc_new _ _)
  go_enter Tryd.func93, Tryd.ntmps93
  go_wp2_with fail
  refine (HP.out _ HT0.out).mono ?_
  generalize w.alloc (.cells #[.int .i64 0, .string ⟨#[]⟩, .string ⟨#[]⟩, .slice none 0 0, .bool false, .bool false, .bool false, .bool false, .bool false, .map none] 116) = W0 at *
  rintro e w1 ⟨rfl, b1⟩
  have hl := (Array.getElem?_eq_some_iff.1 S0.out).1
  have S1 := (b1.block _ hl).trans S0.out
  have ⟨c0, c1, c2, c3, c4, c5, c6, c7, c8, c9⟩ := row10_cells S1
  have ⟨f0, f1, f2, f3, f4, f5, f6, f7, f8, f9⟩ := row10_thaw S1
  have B1 : Hid (Below w.heap.size w w1) := Lib.hid (B0.out.trans (b1.mono B0.out.size))
  have HS1 := Lib.hid S1
  have hl1 : w.heap.size < w1.heap.size := (Array.getElem?_eq_some_iff.1 S1).1
  clear S1 S0 b1 hl
  go_wp2
  exact bodyPost_ret (results_cell_row rfl _ _ w.heap.size _ _ _ _ rfl (put10_row HS1.out (.int .i64 n) (.string (prName n)) (.string (prHead n)) (.slice none 0 0) (.bool (prRight n)) (.bool (prShifts n)) (.bool (prSingle n)) (.bool (prReset n)) (.bool (prClear n)) (.map none)) Tryd.underlying116 rfl (by kernel_rfl)) rfl ⟨rfl, put10_below B1.out (Nat.le_refl _) _ _ _ _ _ _ _ _ _ _⟩

/-- A guide in a block, with what stands in its last cell. -/
def GuAt (w : World) (g : Nat) (n : Int) (m : Value) : Prop := w.heap[g]? = some (.cells #[.int .i64 n, .string (prName n), .string (prHead n), .slice none 0 0, .bool (prRight n), .bool (prShifts n), .bool (prSingle n), .bool (prReset n), .bool (prClear n), m] 116)
theorem GuAt.lt {w : World} {g : Nat} {n : Int} {m : Value} (h : GuAt w g n m) : g < w.heap.size := (Array.getElem?_eq_some_iff.1 h).1
theorem GuAt.keep {w w' : World} {g : Nat} {n : Int} {m : Value} (h : GuAt w g n m) (b : Below w.heap.size w w') : GuAt w' g n m := (b.block g h.lt).trans h

set_option maxHeartbeats 1000000 in
theorem impl_atRest (n : Int) (x : St) (m : Value) (g b : Nat) (w : World) (hg : GuAt w g n m) (hm : MAt w b x) (hx : stOKB x = true) : Calls Tryd.prog 121 #[.pointer (some ⟨g, 0, none⟩), .pointer (some ⟨b, 0, none⟩)] w fun e w' => e = .returned (.bool (restB n x)) ∧ w = w' := by
  have HP := Lib.hid (fun w h => impl_pending x b w h)
  rw [pend_eq hx] at HP
  have HR : Hid (restB n x = (!pendB x && (!prReset n || (decide (x.l = 0) && decide (x.g0 = 1))))) := Lib.hid rfl
  have HM := Lib.hid hm
  have ⟨c0, c1, c2, c3, c4, c5, c6, c7, c8, c9⟩ := row10_cells hg
  have ⟨y0, y1, y2, y3, y4, y5, y6⟩ := hm.cells
  clear c0 c1 c2 c3 c4 c5 c6 c8 c9 hg hm hx y1 y2 y3 y5 y6
  generalize restB n x = q at *
  cases hp : pendB x
  · rw [hp] at HP HR
    cases hr : prReset n
    · have HE : Hid (q = true) := Lib.hid (by rw [HR.out, hr]; rfl)
      rw [hr] at c7
      clear hr hp
      go_enter Tryd.func121, Tryd.ntmps121
      go_wp2_with fail
      refine (HP.out _ HM.out).mono ?_
      rintro e w1 ⟨rfl, rfl⟩
      go_wp2
      go_ret
      exact ⟨ret_bool HE.out.symm, rfl⟩
    · rw [hr] at c7
      by_cases hl : x.l = 0
      · have HE : Hid (q = (x.g0 == 1)) := Lib.hid (by rw [HR.out, hr, show decide (x.l = 0) = true by simpa using hl]; rfl)
        have el : (x.l == 0) = true := by simp [hl]
        clear hl hr hp
        go_enter Tryd.func121, Tryd.ntmps121
        go_wp2_with fail
        refine (HP.out _ HM.out).mono ?_
        rintro e w1 ⟨rfl, rfl⟩
        go_wp2
        go_ret
        exact ⟨ret_bool HE.out.symm, rfl⟩
      · have HE : Hid (q = false) := Lib.hid (by rw [HR.out, hr, show decide (x.l = 0) = false by simpa using hl]; rfl)
        have el : (x.l == 0) = false := by simp [hl]
        clear hr hp
        go_enter Tryd.func121, Tryd.ntmps121
        go_wp2_with fail
        refine (HP.out _ HM.out).mono ?_
        rintro e w1 ⟨rfl, rfl⟩
        go_wp2
        go_ret
        exact ⟨ret_bool HE.out.symm, rfl⟩
  · have HE : Hid (q = false) := Lib.hid (by rw [HR.out, hp]; rfl)
    rw [hp] at HP
    clear hp
    go_enter Tryd.func121, Tryd.ntmps121
    go_wp2_with fail
    refine (HP.out _ HM.out).mono ?_
    rintro e w1 ⟨rfl, rfl⟩
    go_wp2
    go_ret
    exact ⟨ret_bool HE.out.symm, rfl⟩

end Go.Proofs.YtdckjhobikfggaaDoor

namespace Go.Proofs.YtdckjhobikfggaaDoor
open Go.RowKit Go.Sort

theorem results_cell_tmp2 {P : Program} {fn : Func} {p u v : Tmp} {ty : TypeId} (h : fn.results = #[.cell p ty, .tmp u, .tmp v]) (tmps : Array Value) (w : World) (g : Nat) (t : TypeId) (cs : Array Value) (fr : Nat × Nat) (d : TypeDesc)
    (hp : tmps.getD p undef = .pointer (some ⟨g, 0, none⟩)) (hg : w.heap[g]? = some (.cells cs t fr))
    (hu : P.underlying ty = some d) (hd : (match d with | .struct _ | .array _ _ => true | _ => false) = true) (hi : (P.info? ty).map (·.size) = some cs.size) :
    (results fn tmps).run P w = .ok (.tuple #[.agg cs, tmps.getD u undef, tmps.getD v undef]) w := by
  have h1 : (results fn tmps).run P w = ((asAddr (tmps.getD p undef)).run P w).andThen fun a w₁ => ((loadVar ty a).run P w₁).andThen fun x w₂ => .ok (.tuple #[x, tmps.getD u undef, tmps.getD v undef]) w₂ := by
    simp only [results, h]
    simp [Sem.run_bind, Result.andThen]
  rw [h1, hp]
  simp [asAddr, run_loadVar_row w g t ty cs fr d hg hu hd hi, Result.andThen]

theorem st_eta0 {x : St} (h : x.d = 0) : x = ⟨x.g0, x.g1, x.g2, x.g3, x.l, x.s, 0⟩ := by cases x; simp only at h; rw [h]

def stpV (p : Stp) : Value := .tuple #[stV p.y, .int .i64 p.r, .int .i64 p.c]
def StpDone (p : Stp) (w : World) (e : Ending) (w' : World) : Prop := e = .returned (stpV p) ∧ Below w.heap.size w w'
theorem st_ret3 {P : Program} {fn : Func} {p u v : Tmp} {a : Act} {w1 : World} {g : Nat} {t ty : TypeId} {fr : Nat × Nat} {d : TypeDesc} {y : St} {r c : Int} {Q : Ending → World → Prop} (h : fn.results = #[.cell p ty, .tmp u, .tmp v])
    (hp : a.tmps.getD p undef = .pointer (some ⟨g, 0, none⟩)) (hr : a.tmps.getD u undef = .int .i64 r) (hc : a.tmps.getD v undef = .int .i64 c) (hg : w1.heap[g]? = some (.cells #[.int .i64 y.g0, .int .i64 y.g1, .int .i64 y.g2, .int .i64 y.g3, .int .i64 y.l, .int .i64 y.s, .int .i64 y.d] t fr))
    (hu : P.underlying ty = some d) (hd : (match d with | .struct _ | .array _ _ => true | _ => false) = true) (hi : (P.info? ty).map (·.size) = some 7) (hdef : a.defers = []) (hQ : Q (.returned (stpV ⟨y, r, c⟩)) w1) :
    bodyPost P fn Q .ret a w1 :=
  bodyPost_ret (results_cell_tmp2 h _ _ g _ _ _ _ hp hg hu hd hi) hdef (by rw [hr, hc]; exact hQ)

end Go.Proofs.YtdckjhobikfggaaDoor

namespace Go.Proofs.YtdckjhobikfggaaDoor
open Go.RowKit Go.Sort

theorem StAt.drew {w : World} {g : Nat} {x : St} (h : StAt w g x) : StAt w.drew g x := h

theorem step_blocks (w : World) (x : St) (t : Tok) : StAt (((w.alloc (.cells #[.int .i64 x.g0, .int .i64 x.g1, .int .i64 x.g2, .int .i64 x.g3, .int .i64 x.l, .int .i64 x.s, .int .i64 x.d] 45)).alloc (.cells #[.int .i64 t.k, .int .i64 t.a, .int .i64 t.b, .int .i64 t.c, .int .i64 t.p, .int .i64 t.n] 155)).alloc (.cells #[.int .i64 0, .int .i64 0, .int .i64 0, .int .i64 0, .int .i64 0, .int .i64 0, .int .i64 0] 45)) w.heap.size x ∧ TokAt (((w.alloc (.cells #[.int .i64 x.g0, .int .i64 x.g1, .int .i64 x.g2, .int .i64 x.g3, .int .i64 x.l, .int .i64 x.s, .int .i64 x.d] 45)).alloc (.cells #[.int .i64 t.k, .int .i64 t.a, .int .i64 t.b, .int .i64 t.c, .int .i64 t.p, .int .i64 t.n] 155)).alloc (.cells #[.int .i64 0, .int .i64 0, .int .i64 0, .int .i64 0, .int .i64 0, .int .i64 0, .int .i64 0] 45)) (w.heap.size + 1) t ∧ StAt (((w.alloc (.cells #[.int .i64 x.g0, .int .i64 x.g1, .int .i64 x.g2, .int .i64 x.g3, .int .i64 x.l, .int .i64 x.s, .int .i64 x.d] 45)).alloc (.cells #[.int .i64 t.k, .int .i64 t.a, .int .i64 t.b, .int .i64 t.c, .int .i64 t.p, .int .i64 t.n] 155)).alloc (.cells #[.int .i64 0, .int .i64 0, .int .i64 0, .int .i64 0, .int .i64 0, .int .i64 0, .int .i64 0] 45)) (w.heap.size + 2) zeroSt ∧ Below w.heap.size w (((w.alloc (.cells #[.int .i64 x.g0, .int .i64 x.g1, .int .i64 x.g2, .int .i64 x.g3, .int .i64 x.l, .int .i64 x.s, .int .i64 x.d] 45)).alloc (.cells #[.int .i64 t.k, .int .i64 t.a, .int .i64 t.b, .int .i64 t.c, .int .i64 t.p, .int .i64 t.n] 155)).alloc (.cells #[.int .i64 0, .int .i64 0, .int .i64 0, .int .i64 0, .int .i64 0, .int .i64 0, .int .i64 0] 45)) := by
  refine ⟨?_, ?_, ?_, below_three _ _ _ _⟩
  · exact ((below_one _ _).block _ (by simp; omega)).trans (heap_alloc2_old _ _ _)
  · exact ((below_one _ _).block _ (by simp)).trans (heap_alloc2_new _ _ _)
  · have := heap_alloc_new ((w.alloc (.cells #[.int .i64 x.g0, .int .i64 x.g1, .int .i64 x.g2, .int .i64 x.g3, .int .i64 x.l, .int .i64 x.s, .int .i64 x.d] 45)).alloc (.cells #[.int .i64 t.k, .int .i64 t.a, .int .i64 t.b, .int .i64 t.c, .int .i64 t.p, .int .i64 t.n] 155)) (.cells #[.int .i64 0, .int .i64 0, .int .i64 0, .int .i64 0, .int .i64 0, .int .i64 0, .int .i64 0] 45)
    simpa [StAt, zeroSt] using this

end Go.Proofs.YtdckjhobikfggaaDoor

namespace Go.Proofs.YtdckjhobikfggaaDoor
open Go.RowKit Go.Sort

theorem results_cell_tmp3 {P : Program} {fn : Func} {p u v z : Tmp} {ty : TypeId} (h : fn.results = #[.cell p ty, .tmp u, .tmp v, .tmp z]) (tmps : Array Value) (w : World) (g : Nat) (t : TypeId) (cs : Array Value) (fr : Nat × Nat) (d : TypeDesc)
    (hp : tmps.getD p undef = .pointer (some ⟨g, 0, none⟩)) (hg : w.heap[g]? = some (.cells cs t fr))
    (hu : P.underlying ty = some d) (hd : (match d with | .struct _ | .array _ _ => true | _ => false) = true) (hi : (P.info? ty).map (·.size) = some cs.size) :
    (results fn tmps).run P w = .ok (.tuple #[.agg cs, tmps.getD u undef, tmps.getD v undef, tmps.getD z undef]) w := by
  have h1 : (results fn tmps).run P w = ((asAddr (tmps.getD p undef)).run P w).andThen fun a w₁ => ((loadVar ty a).run P w₁).andThen fun x w₂ => .ok (.tuple #[x, tmps.getD u undef, tmps.getD v undef, tmps.getD z undef]) w₂ := by
    simp only [results, h]
    simp [Sem.run_bind, Result.andThen]
  rw [h1, hp]
  simp [asAddr, run_loadVar_row w g t ty cs fr d hg hu hd hi, Result.andThen]
theorem st_ret4 {P : Program} {fn : Func} {p u v z : Tmp} {a : Act} {w1 : World} {g : Nat} {t ty : TypeId} {fr : Nat × Nat} {d : TypeDesc} {y : St} {r m c : Value} {Q : Ending → World → Prop} (h : fn.results = #[.cell p ty, .tmp u, .tmp v, .tmp z])
    (hp : a.tmps.getD p undef = .pointer (some ⟨g, 0, none⟩)) (hr : a.tmps.getD u undef = r) (hm : a.tmps.getD v undef = m) (hc : a.tmps.getD z undef = c) (hg : w1.heap[g]? = some (.cells #[.int .i64 y.g0, .int .i64 y.g1, .int .i64 y.g2, .int .i64 y.g3, .int .i64 y.l, .int .i64 y.s, .int .i64 y.d] t fr))
    (hu : P.underlying ty = some d) (hd : (match d with | .struct _ | .array _ _ => true | _ => false) = true) (hi : (P.info? ty).map (·.size) = some 7) (hdef : a.defers = []) (hQ : Q (.returned (.tuple #[stV y, r, m, c])) w1) :
    bodyPost P fn Q .ret a w1 :=
  bodyPost_ret (results_cell_tmp3 h _ _ g _ _ _ _ hp hg hu hd hi) hdef (by rw [hr, hm, hc]; exact hQ)

theorem StAt.alloc {w : World} {g : Nat} {x : St} (h : StAt w g x) (o : Obj) : StAt (w.alloc o) g x := h.keep (below_one _ _)

/-- What StepState tells of a step. -/
def toldV (p : Stp) : Value := .tuple #[stV p.y, .int .i64 (if 0 ≤ p.r then p.r else 0), .bool (decide (0 ≤ p.r)), .int .i64 p.c]
def SsDone (x : St) (t : Tok) (w : World) (e : Ending) (w' : World) : Prop := e = .returned (toldV (ssP x t)) ∧ Below w.heap.size w w'
theorem told_bad {p : Stp} {y : St} {c : Int} (h : p = ⟨y, -1, c⟩) : toldV p = .tuple #[stV y, .int .i64 0, .bool false, .int .i64 c] := by rw [h]; rfl
theorem told_none {p : Stp} (h : p.r = -1) : toldV p = .tuple #[stV p.y, .int .i64 0, .bool false, .int .i64 p.c] := by unfold toldV; rw [h]; rfl
theorem told_some {p : Stp} (h : 0 ≤ p.r) : toldV p = .tuple #[stV p.y, .int .i64 p.r, .bool true, .int .i64 p.c] := by unfold toldV; rw [if_pos h, decide_eq_true h]

end Go.Proofs.YtdckjhobikfggaaDoor

namespace Go.Proofs.YtdckjhobikfggaaDoor
open Go.RowKit Go.Sort

/-- A run handed back: the state, the characters in new memory, the offset, the code. -/
def RunDone (p : Rn) (w : World) (e : Ending) (w' : World) : Prop := ∃ v, e = .returned (.tuple #[stV p.y, v, .int .i64 p.p, .int .i64 p.c]) ∧ Own .i64 3 w' w.heap.size v p.z ∧ Below w.heap.size w w'
theorem addR_some {z : List Int} {r : Int} (h : 0 ≤ r) : addR z r = z ++ [r] := by rw [addR, if_pos h]
theorem addR_none {z : List Int} {r : Int} (h : r = -1) : addR z r = z := by rw [addR, if_neg (by omega)]

theorem heap_putSt {w : World} {g j : Nat} (y : St) (h : j ≠ g) : (putSt w g y).heap[j]? = w.heap[j]? := by
  unfold putSt
  rw [Below.heap_setCell _ _ _ _ (by simpa using h), Below.heap_setCell _ _ _ _ (by simpa using h), Below.heap_setCell _ _ _ _ (by simpa using h), Below.heap_setCell _ _ _ _ (by simpa using h), Below.heap_setCell _ _ _ _ (by simpa using h), Below.heap_setCell _ _ _ _ (by simpa using h), Below.heap_setCell _ _ _ _ (by simpa using h)]
theorem Own.putSt {k : IntKind} {e : TypeId} {w : World} {B g : Nat} {v : Value} {zs : List Int} (h : Own k e w B v zs) (hg : g < B) (y : St) : Own k e (putSt w g y) B v zs := by
  refine ⟨h.1, ?_⟩
  rcases h.2 with h | ⟨j, cap, cur, a, b, c, d⟩
  · exact .inl h
  · exact .inr ⟨j, cap, cur, a, b, by rw [heap_putSt y (by omega)]; exact c, d⟩
theorem StAt.other {w : World} {g j : Nat} {x : St} (h : StAt w j x) (y : St) (hg : j ≠ g) : StAt (Go.Proofs.YtdckjhobikfggaaDoor.putSt w g y) j x := (heap_putSt y hg).trans h
theorem TokAt.other {w : World} {g j : Nat} {t : Tok} (h : TokAt w j t) (y : St) (hg : j ≠ g) : TokAt (Go.Proofs.YtdckjhobikfggaaDoor.putSt w g y) j t := (heap_putSt y hg).trans h

theorem size_putSt (w : World) (g : Nat) (y : St) : (putSt w g y).heap.size = w.heap.size := by simp [putSt]

end Go.Proofs.YtdckjhobikfggaaDoor

namespace Go.Proofs.YtdckjhobikfggaaDoor
open Go.RowKit Go.Sort

theorem SetsAt.form {w : World} {v : Value} {n : Int} (h : SetsAt w v n) : ∃ g c, v = .slice (some ⟨g, 0, none⟩) 4 c := by
  obtain ⟨g, c, _, _, _, _, rfl, _⟩ := h
  exact ⟨g, c, rfl⟩

end Go.Proofs.YtdckjhobikfggaaDoor

namespace Go.Proofs.YtdckjhobikfggaaDoor
open Go.RowKit Go.Sort

end Go.Proofs.YtdckjhobikfggaaDoor

namespace Go.Proofs.YtdckjhobikfggaaDoor
open Go.RowKit Go.Sort

set_option maxHeartbeats 1000000 in
theorem str_HasPrefix (s h : ByteArray) (w : World) : Calls Tryd.prog 135 #[.string s, .string h] w fun e w' => e = .returned (.bool (hasPre s h)) ∧ w = w' := by
  by_cases hl : h.size ≤ s.size
  · have hl' : (h.size : Int) ≤ (s.size : Int) := by omega
    have HE : Hid (((s.extract 0 h.size).toList == h.toList) = hasPre s h) := Lib.hid (by rw [hasPre, decide_eq_true hl, Bool.true_and])
    go_enter Tryd.func135, Tryd.ntmps135
    go_wp2
    go_ret
    exact ⟨ret_bool HE.out, rfl⟩
  · have hl' : ¬ (h.size : Int) ≤ (s.size : Int) := by omega
    have HE : Hid (false = hasPre s h) := Lib.hid (by rw [hasPre, decide_eq_false hl, Bool.false_and])
    go_enter Tryd.func135, Tryd.ntmps135
    go_wp2
    go_ret
    exact ⟨ret_bool HE.out, rfl⟩

set_option maxHeartbeats 1000000 in
theorem spec_l06End (n : Int) (v : Value) (x : St) (w : World) (hv : ∃ g c, v = .slice (some ⟨g, 0, none⟩) 4 c) : Calls Tryd.prog 86 #[prV n v, stV x] w fun e w' => e = .returned (.int .i64 (endC n x)) ∧ Below w.heap.size w w' := by
  obtain ⟨vg, vc, rfl⟩ := hv
  have HP := Lib.hid (fun w => spec_l04Pending x w)
  have HR := Lib.hid (fun w => spec_l05Rest n (.slice (some ⟨vg, 0, none⟩) 4 vc) x w)
  have HE : Hid (endC n x = if pendB x = true then 13 else if restB n x = true then 0 else 14) := Lib.hid rfl
  have B0 := Lib.hid (below_two w (.cells #[.string (prName n), .string (prHead n), (.slice (some ⟨vg, 0, none⟩) 4 vc), .bool (prRight n), .bool (prShifts n), .bool (prSingle n), .bool (prReset n), .bool (prClear n)] 109) (.cells #[.int .i64 x.g0, .int .i64 x.g1, .int .i64 x.g2, .int .i64 x.g3, .int .i64 x.l, .int .i64 x.s, .int .i64 x.d] 45))
  have A0 : Hid (((w.alloc (.cells #[.string (prName n), .string (prHead n), (.slice (some ⟨vg, 0, none⟩) 4 vc), .bool (prRight n), .bool (prShifts n), .bool (prSingle n), .bool (prReset n), .bool (prClear n)] 109)).alloc (.cells #[.int .i64 x.g0, .int .i64 x.g1, .int .i64 x.g2, .int .i64 x.g3, .int .i64 x.l, .int .i64 x.s, .int .i64 x.d] 45)).heap[w.heap.size]? = some (.cells #[.string (prName n), .string (prHead n), (.slice (some ⟨vg, 0, none⟩) 4 vc), .bool (prRight n), .bool (prShifts n), .bool (prSingle n), .bool (prReset n), .bool (prClear n)] 109)) := Lib.hid (heap_alloc2_old _ _ _)
  have S0 : Hid (StAt ((w.alloc (.cells #[.string (prName n), .string (prHead n), (.slice (some ⟨vg, 0, none⟩) 4 vc), .bool (prRight n), .bool (prShifts n), .bool (prSingle n), .bool (prReset n), .bool (prClear n)] 109)).alloc (.cells #[.int .i64 x.g0, .int .i64 x.g1, .int .i64 x.g2, .int .i64 x.g3, .int .i64 x.l, .int .i64 x.s, .int .i64 x.d] 45)) (w.heap.size + 1) x) := Lib.hid (heap_alloc2_new _ _ _)
  unfold prV stV at *
  have ⟨y0, y1, y2, y3, y4, y5, y6⟩ := S0.out.cells
  cases hp : pendB x
  · rw [hp] at HP HE
    go_enter Tryd.func86, Tryd.ntmps86
    go_wp2_with fail
    refine (HP.out _).mono ?_
    generalize (w.alloc (.cells #[.string (prName n), .string (prHead n), (.slice (some ⟨vg, 0, none⟩) 4 vc), .bool (prRight n), .bool (prShifts n), .bool (prSingle n), .bool (prReset n), .bool (prClear n)] 109)).alloc (.cells #[.int .i64 x.g0, .int .i64 x.g1, .int .i64 x.g2, .int .i64 x.g3, .int .i64 x.l, .int .i64 x.s, .int .i64 x.d] 45) = W0 at *
    clear y0 y1 y2 y3 y4 y5 y6
    rintro e w1 ⟨rfl, b1⟩
    have B1 : Hid (Below w.heap.size w w1) := Lib.hid (B0.out.trans (b1.mono B0.out.size))
    have S1 := Lib.hid (S0.out.keep b1)
    have A1 := Lib.hid ((b1.block _ (Array.getElem?_eq_some_iff.1 A0.out).1).trans A0.out)
    clear b1 A0 S0
    have ⟨y0, y1, y2, y3, y4, y5, y6⟩ := S1.out.cells
    have ⟨p0, p1, p2, p3, p4, p5, p6, p7⟩ := row8_cells A1.out
    go_wp2_with fail
    refine (HR.out _).mono ?_
    clear y0 y1 y2 y3 y4 y5 y6 p0 p1 p2 p3 p4 p5 p6 p7
    rintro e w2 ⟨rfl, b2⟩
    have B2 : Hid (Below w.heap.size w w2) := Lib.hid (B1.out.trans (b2.mono B1.out.size))
    clear b2
    cases hr : restB n x
    · have HE2 : Hid (endC n x = 14) := Lib.hid (by rw [HE.out, hr]; rfl)
      go_wp2
      go_ret
      exact ⟨ret_int HE2.out.symm, B2.out⟩
    · have HE2 : Hid (endC n x = 0) := Lib.hid (by rw [HE.out, hr]; rfl)
      go_wp2
      go_ret
      exact ⟨ret_int HE2.out.symm, B2.out⟩
  · have HE2 : Hid (endC n x = 13) := Lib.hid (by rw [HE.out, hp]; rfl)
    rw [hp] at HP
    go_enter Tryd.func86, Tryd.ntmps86
    go_wp2_with fail
    refine (HP.out _).mono ?_
    generalize (w.alloc (.cells #[.string (prName n), .string (prHead n), (.slice (some ⟨vg, 0, none⟩) 4 vc), .bool (prRight n), .bool (prShifts n), .bool (prSingle n), .bool (prReset n), .bool (prClear n)] 109)).alloc (.cells #[.int .i64 x.g0, .int .i64 x.g1, .int .i64 x.g2, .int .i64 x.g3, .int .i64 x.l, .int .i64 x.s, .int .i64 x.d] 45) = W0 at *
    clear y0 y1 y2 y3 y4 y5 y6
    rintro e w1 ⟨rfl, b1⟩
    have B1 : Hid (Below w.heap.size w w1) := Lib.hid (B0.out.trans (b1.mono B0.out.size))
    clear b1
    go_wp2
    go_ret
    exact ⟨ret_int HE2.out.symm, B1.out⟩

end Go.Proofs.YtdckjhobikfggaaDoor

namespace Go.Proofs.YtdckjhobikfggaaDoor
open Go.RowKit Go.Sort

/-- Decode handed back: the characters in new memory, the offset, the code. -/
def DecDone (d : Dc) (w : World) (e : Ending) (w' : World) : Prop := ∃ v, e = .returned (.tuple #[v, .int .i64 d.p, .int .i64 d.c]) ∧ Own .i64 3 w' w.heap.size v d.z ∧ Below w.heap.size w w'
theorem startP_ok (n : Int) : stOKB (startP n) = true := by
  unfold startP
  split <;> decide
theorem lineX_ok {n : Int} {x : St} (h : stOKB x = true) : stOKB (lineX n x) = true := by
  unfold lineX
  split
  · exact startP_ok n
  · exact h
theorem stepP_ok {n : Int} {x : St} {t : Tok} (hx : stOKB x = true) (ht : tokLP t) : stOKB (stepP n x t).y = true := by
  have h1 := stepT_ok hx ht
  unfold stepP
  generalize stepT x t = q at *
  split
  · exact hx
  split
  · exact hx
  split
  · exact hx
  split
  · exact hx
  split
  · split
    · exact lineX_ok h1
    · exact hx
  · exact h1
/-- A slice of the call's own lies in no block of cells of another type. -/
theorem Own.apart {k : IntKind} {e t : TypeId} {w : World} {B g : Nat} {v : Value} {zs : List Int} {cs : Array Value} {fr : Nat × Nat} (h : Own k e w B v zs) (hg : w.heap[g]? = some (.cells cs t fr)) (ht : t ≠ e) : v.ownBlock ≠ some g := by
  rcases h.2 with ⟨hv, _⟩ | ⟨j, cap, cur, a, b, c, d⟩
  · rw [hv]; exact fun h => by cases h
  · rw [a]
    intro hj
    have hj' : j = g := by simpa [Value.ownBlock] using hj
    subst hj'
    rw [c] at hg
    cases hg
    exact ht rfl
theorem Own.blocks {k : IntKind} {e : TypeId} {w w' : World} {B : Nat} {v : Value} {zs : List Int} (h : Own k e w B v zs) (hb : ∀ g, v.ownBlock = some g → w'.heap[g]? = w.heap[g]?) : Own k e w' B v zs := by
  refine ⟨h.1, ?_⟩
  rcases h.2 with h | ⟨g, cap, cur, a, b, c, d⟩
  · exact .inl h
  · exact .inr ⟨g, cap, cur, a, b, by rw [hb g (by rw [a]; rfl)]; exact c, d⟩
theorem Own.putStN {k : IntKind} {e : TypeId} {w : World} {B g : Nat} {v : Value} {zs : List Int} (h : Own k e w B v zs) (hg : v.ownBlock ≠ some g) (y : St) : Own k e (Go.Proofs.YtdckjhobikfggaaDoor.putSt w g y) B v zs :=
  h.blocks fun j hj => heap_putSt y (fun e => hg (by rw [hj, e]))

end Go.Proofs.YtdckjhobikfggaaDoor

namespace Go.Proofs.YtdckjhobikfggaaDoor

theorem plainTok_k (mid : ByteArray) (f p n : Int) : (plainTok mid f p n).k ≠ 8 := by
  unfold plainTok
  repeat' split
  all_goals (intro h; revert h; simp only; omega)
theorem escTok_tail (s : ByteArray) (k : Nat) : ∀ f i, i ≤ k + 4 → s.size ≤ i + f → (escTok s k f i).k = 8 → s.size ≤ k + 4
  | 0, i, h1, h2, _ => by omega
  | f + 1, i, h1, h2, h3 => by
    unfold escTok at h3
    split at h3
    · split at h3
      · split at h3
        · exact absurd h3 (by simp only; omega)
        · exact escTok_tail s k f (i + 1) (by omega) (by omega) h3
      · split at h3
        · exact absurd h3 (plainTok_k _ _ _ _)
        · exact absurd h3 (by simp only; omega)
    · omega
/-- A tail has at most four bytes. -/
theorem tail_le (s : ByteArray) (k : Nat) (hk : k < s.size) (h : (nextTok s k).k = 8) : s.size ≤ k + 4 := by
  unfold nextTok at h
  split at h
  · exact escTok_tail s k _ _ (by omega) (by omega) h
  repeat' split at h
  all_goals (exfalso; revert h; simp only; omega)

theorem wait_begun {n : Int} {r : ByteArray} (h : 0 < r.size) : waitB n true r = decide ((nextTok r 0).k = 8) := by
  unfold waitB
  rw [if_pos rfl, decide_eq_false (by omega : ¬ r.size = 0), Bool.false_or]
  by_cases h8 : (nextTok r 0).k = 8
  · rw [decide_eq_true h8, decide_eq_true (by have := tail_le r 0 h h8; omega)]; rfl
  · rw [decide_eq_false h8, Bool.and_false]
theorem wait_empty {n : Int} {b : Bool} {r : ByteArray} (h : r.size = 0) : waitB n b r = true := by
  unfold waitB
  split <;> rw [decide_eq_true h, Bool.true_or]
theorem wait_ahead {n : Int} {r : ByteArray} (h : 0 < r.size) : waitB n false r = (decide (r.size < (prHead n).size) && hasPre (prHead n) r) := by
  unfold waitB
  rw [if_neg (by decide), decide_eq_false (by omega : ¬ r.size = 0), Bool.false_or]

theorem deOK_parts {d : De} (h : deOK d = true) : proB d.n = true ∧ stOKB d.x = true ∧ 0 ≤ d.a ∧ d.a ≤ 1000000000 ∧ 0 ≤ d.c ∧ d.c ≤ 18 ∧ (d.o = true → d.r.size = 0) ∧ (d.c ≠ 0 → d.o = true) ∧ waitB d.n d.b d.r = true := by
  unfold deOK at h
  simp only [Bool.and_eq_true, Bool.not_eq_true', Bool.and_eq_false_imp, decide_eq_false_iff_not, decide_eq_true_eq] at h
  obtain ⟨h1, h2, h3, h4, h5, h6, h7⟩ := h
  have a := inB_true h3
  have c := inB_true h4
  refine ⟨h1, h2, a.1, a.2, c.1, c.2, fun h => by have := h5 h; omega, fun h => by simpa using h6 h, h7⟩

theorem head_le (n : Int) : (prHead n).size ≤ 4 := by
  unfold prHead
  split <;> decide
/-- What waits has at most four bytes. -/
theorem wait_le {n : Int} {b : Bool} {r : ByteArray} (h : waitB n b r = true) : r.size ≤ 4 := by
  by_cases h0 : r.size = 0
  · omega
  cases b
  · rw [wait_ahead (by omega)] at h
    simp only [Bool.and_eq_true, decide_eq_true_eq] at h
    have := head_le n
    omega
  · rw [wait_begun (by omega)] at h
    have := tail_le r 0 (by omega) (by simpa using h)
    omega

theorem wrT_le (n : Int) (s : ByteArray) : ∀ (f k : Nat) (a : Int) (x : St) (z : List Int), (wrT n s f k a x z).z.length ≤ z.length + f
  | 0, _, _, _, _ => by simp [wrT]
  | f + 1, k, a, x, z => by
    unfold wrT
    split
    · split
      · simp
      · split
        · have h1 := wrT_le n s f (k + (nextTok s k).n.toNat) (a + (nextTok s k).n) (stepP n x (nextTok s k)).y (addR z (stepP n x (nextTok s k)).r)
          have h2 : (addR z (stepP n x (nextTok s k)).r).length ≤ z.length + 1 := by unfold addR; split <;> simp
          omega
        · simp
    · simp

end Go.Proofs.YtdckjhobikfggaaDoor

namespace Go.Proofs.YtdckjhobikfggaaDoor
open Go.RowKit

/-- The place of n among count numbers from first on. -/
def placeV (first count n : Int) : Value := if inB n first (first + count - 1) = true then .tuple #[.int .i64 (n - first), .bool true] else .tuple #[.int .i64 0, .bool false]
theorem impl_placeIn (first count n : Int) (w : World) (h1 : 0 ≤ first) (h2 : first ≤ 2000000) (_h3 : 0 ≤ count) (_h4 : count ≤ 2000000) (hu : n ≤ 9223372036854775807) :
    Calls Tryd.prog 143 #[.int .i64 first, .int .i64 count, .int .i64 n] w fun e w' => e = .returned (placeV first count n) ∧ w = w' := by
  by_cases a1 : n < first
  · have HE : Hid (placeV first count n = .tuple #[.int .i64 0, .bool false]) := Lib.hid (by rw [placeV, inB_false_of (by omega)]; simp)
    go_enter Tryd.func143, Tryd.ntmps143
    go_wp2
    go_ret2
    exact ⟨ret_val HE.out.symm, rfl⟩
  · have u1 : IntKind.i64.wrap (n - first) = n - first := IntWalk.i64_in _ (by omega)
    by_cases a2 : count ≤ n - first
    · have HE : Hid (placeV first count n = .tuple #[.int .i64 0, .bool false]) := Lib.hid (by rw [placeV, inB_false_of (by omega)]; simp)
      go_enter Tryd.func143, Tryd.ntmps143
      go_wp2
      go_ret2
      exact ⟨ret_val HE.out.symm, rfl⟩
    · have HE : Hid (placeV first count n = .tuple #[.int .i64 (n - first), .bool true]) := Lib.hid (by
        have : inB n first (first + count - 1) = true := by simp [inB]; omega
        rw [placeV, this]; simp)
      go_enter Tryd.func143, Tryd.ntmps143
      go_wp2
      go_ret2
      exact ⟨ret_val HE.out.symm, rfl⟩

theorem SpAt.open {w : World} {v : Value} {n : Int} (h : SpAt w v (setSpans n)) : ∃ g off c, v = .slice (some ⟨g, off, none⟩) (setSpans n).length c ∧ ∀ i (h : i < (setSpans n).length),
    w.cell? ⟨g, off + i * 3, none⟩ = some (.int .i64 ((setSpans n)[i]).1) ∧ w.cell? ⟨g, off + i * 3 + 1, none⟩ = some (.int .i64 ((setSpans n)[i]).2.1) ∧ w.cell? ⟨g, off + i * 3 + 2, none⟩ = some (.int .i64 ((setSpans n)[i]).2.2) := by
  rcases h with ⟨h0, _⟩ | h
  · have := (set_few n).1
    rw [h0] at this
    simp at this
  · exact h

/-- Each span begins above nought. -/
theorem set_pos (n : Int) : ∀ s ∈ setSpans n, 0 < s.1 := by
  unfold setSpans
  repeat' split
  all_goals (intro s hs; simp only [List.mem_cons, List.not_mem_nil, or_false] at hs; rcases hs with rfl | rfl | rfl | rfl <;> simp)

set_option maxHeartbeats 1000000 in
set_option maxRecDepth 100000 in
theorem impl_CodeFor (n r : Int) (w : World) (ht : TabSets w) (hu : r ≤ 9223372036854775807) : Calls Tryd.prog 125 #[.int .i64 n, .int .i64 r] w fun e w' => e = .returned (cfV n r) ∧ Below w.heap.size w w' := by
  cases hn : setB n
  · have HE := Lib.hid (cfV_bad n r 5 (by simp [cfC, hn]) (by decide))
    clear ht
    go_enter Tryd.func125, Tryd.ntmps125
    go_wp2_with fail
    refine (impl_isSet n w).mono ?_
    rintro e w1 ⟨rfl, rfl⟩
    rw [hn]
    go_wp2
    go_ret2
    exact ⟨ret_val HE.out.symm, Below.refl _ _⟩
  · obtain ⟨k, rfl, k1, k8⟩ := setB_nat hn
    obtain ⟨_, _, _, v, c3, hs⟩ := ht k k1 k8
    clear ht
    have u1 : (0 : Int) ≤ (k : Int) := by omega
    have u2 : (k : Int) < 9 := by omega
    have HB : Hid (codeS (setSpans (k : Int)) r = 0 → cfV (k : Int) r = .tuple #[.int .i64 0, .int .i64 12]) := Lib.hid (fun h => cfV_bad (k : Int) r 12 (by simp [cfC, hn, h]) (by decide))
    have HG : Hid (codeS (setSpans (k : Int)) r ≠ 0 → cfV (k : Int) r = .tuple #[.int .i64 (codeS (setSpans (k : Int)) r), .int .i64 0]) := Lib.hid (fun h => cfV_ok (k : Int) r (by simp [cfC, hn, h]))
    obtain ⟨g, off, c, rfl, hcs⟩ := hs.open
    have HC := Lib.hid hcs
    have HS := Lib.hid (set_small (k : Int))
    have HP := Lib.hid (set_pos (k : Int))
    have f2 := (set_few (k : Int)).2
    clear hs hcs
    generalize setSpans (k : Int) = sp at *
    go_enter Tryd.func125, Tryd.ntmps125
    go_wp2_with fail
    refine (impl_isSet (k : Int) w).mono ?_
    rintro e w1 ⟨rfl, rfl⟩
    rw [hn]
    go_wp2
    go_loopw [18] (fun i wr => ∃ j : Nat, j ≤ sp.length ∧ i = .int .i64 j ∧ Hid (codeS sp r = codeS (sp.drop j) r) ∧ Below w.heap.size w wr) (fun i _ => sp.length - (intOf i).toNat)
    case atStart => exact ⟨0, Nat.zero_le _, rfl, Lib.hid rfl, Below.refl _ _⟩
    case round =>
      obtain ⟨j, hj, rfl, HR, b⟩ := hrel
      by_cases hlt : j < sp.length
      · have ⟨x0, x1, x2⟩ := HC.out j hlt
        have hsm := HS.out _ (List.getElem_mem hlt)
        have hps := HP.out _ (List.getElem_mem hlt)
        have HD := Lib.hid (codeS_drop sp r j hlt)
        have y0 := (b.cell (World.block_lt_of_cell? w _ x0)).trans x0
        have y1 := (b.cell (World.block_lt_of_cell? w _ x1)).trans x1
        have y2 := (b.cell (World.block_lt_of_cell? w _ x2)).trans x2
        generalize sp[j] = s at *
        obtain ⟨sc, sr, sn⟩ := s
        obtain ⟨⟨a1, a2⟩, ⟨a3, a4⟩, a5, a6⟩ := hsm
        simp only at a1 a2 a3 a4 a5 a6 y0 y1 y2 hps
        clear x0 x1 x2
        have v1 : (0 : Int) ≤ (j : Int) := by omega
        have v2 : (j : Int) < (sp.length : Int) := by omega
        go_wp2_with fail
        refine (impl_placeIn sr sn r _ a3 a4 a5 a6 hu).mono ?_
        rintro e w2 ⟨rfl, rfl⟩
        unfold placeV
        have B := b.alloc b.size (.cells #[.int .i64 sc, .int .i64 sr, .int .i64 sn] 184)
        cases hin : inB r sr (sr + sn - 1)
        · have HX : Hid (codeS sp r = codeS (sp.drop (j + 1)) r) := Lib.hid (by rw [HR.out, HD.out, hin]; simp)
          go_wp2
          go_roundw
          case rel => exact ⟨j + 1, by omega, by go_num, HX, B⟩
          case measure => simp [intOf]; omega
        · have ⟨i1, i2⟩ := inB_true hin
          have v5 : IntKind.i64.wrap (sc + (r - sr)) = sc + (r - sr) := IntWalk.i64_in _ (by omega)
          have HX : Hid (codeS sp r = sc + (r - sr)) := Lib.hid (by rw [HR.out, HD.out, hin]; simp; omega)
          go_wp2
          go_ret2
          refine ⟨ret_val ?_, B⟩
          rw [HG.out (by rw [HX.out]; omega), HX.out]
          rfl
      · go_wp2
        go_ret2
        refine ⟨ret_val ?_, b⟩
        have hjn : sp.length ≤ j := by omega
        rw [HB.out (by rw [HR.out, List.drop_eq_nil_of_le hjn]; rfl)]
        rfl

end Go.Proofs.YtdckjhobikfggaaDoor

namespace Go.Proofs.YtdckjhobikfggaaDoor
open Go.RowKit Go.Sort

/-- What the machine's methods tell of a step. -/
def toldR (p : Stp) : Int := if 0 ≤ p.r then p.r else 0
def toldB (p : Stp) : Bool := decide (0 ≤ p.r)
def mvV (p : Stp) : Value := .tuple #[.int .i64 (toldR p), .bool (toldB p), .int .i64 p.c]
def MvDone (p : Stp) (b : Nat) (w : World) (e : Ending) (w' : World) : Prop := e = .returned (mvV p) ∧ MAt w' b p.y ∧ Only b w w'
theorem mv_none {p : Stp} {y : St} {c : Int} (h : p = ⟨y, -1, c⟩) : mvV p = .tuple #[.int .i64 0, .bool false, .int .i64 c] := by rw [h]; rfl
theorem mv_some {p : Stp} {y : St} {r c : Int} (h : p = ⟨y, r, c⟩) (hr : 0 ≤ r) : mvV p = .tuple #[.int .i64 r, .bool true, .int .i64 c] := by
  rw [h]; unfold mvV toldR toldB; dsimp only; rw [if_pos hr, decide_eq_true hr]
theorem only_below {b : Nat} {w w' : World} (hb : b < w.heap.size) (h : Below w.heap.size w w') : Only b w w' := ⟨h.mono (by omega), fun g _ hg => h.block g hg⟩
theorem mvDone_none {x : St} {p : Stp} {b : Nat} {w w' : World} {c : Int} (h : p = ⟨x, -1, c⟩) (hm : MAt w b x) (hb : Below w.heap.size w w') : MvDone p b w (.returned (.tuple #[.int .i64 0, .bool false, .int .i64 c])) w' :=
  ⟨by rw [mv_none h], by rw [h]; exact hm.keep hb, only_below hm.lt hb⟩

theorem mvDone_gone {x : St} {p : Stp} {b : Nat} {w w' : World} {rr : Int} (h : p = ⟨⟨x.g0, x.g1, x.g2, x.g3, x.l, 0, 0⟩, rr, 0⟩) (hr : 0 ≤ rr) (hm : MAt w b x) (hb : Below w.heap.size w w') : MvDone p b w (.returned (.tuple #[.int .i64 rr, .bool true, .int .i64 0])) ((w'.setCell ⟨b, 5, none⟩ (.int .i64 0)).setCell ⟨b, 6, none⟩ (.int .i64 0)) :=
  ⟨by rw [mv_some h hr], by rw [h]; exact heap_setCell_same _ _ 6 _ _ (.int .i64 0) (heap_setCell_same _ _ 5 _ _ (.int .i64 0) (hm.keep hb)), ((only_below hm.lt hb).trans (Only.set b 5 _ _)).trans (Only.set b 6 _ _)⟩
theorem mvDone_lead {x : St} {p : Stp} {b : Nat} {w w' : World} {v : Int} (h : p = ⟨⟨x.g0, x.g1, x.g2, x.g3, x.l, x.s, v⟩, -1, 0⟩) (hm : MAt w b x) (hb : Below w.heap.size w w') : MvDone p b w (.returned (.tuple #[.int .i64 0, .bool false, .int .i64 0])) (w'.setCell ⟨b, 6, none⟩ (.int .i64 v)) :=
  ⟨by rw [mv_none h], by rw [h]; exact heap_setCell_same _ _ 6 _ _ (.int .i64 v) (hm.keep hb), (only_below hm.lt hb).trans (Only.set b 6 _ _)⟩

/-- The lead's half. -/
theorem half_lead {x : St} (h : leadOK x = true) (h0 : x.d ≠ 0) : halfN x.d = sideNo (decide (128 < x.d)) := by
  unfold leadOK at h
  rw [Bool.or_eq_true, decide_eq_true_eq, Bool.and_eq_true, Bool.and_eq_true] at h
  rcases h with h | ⟨h1, h2, _⟩
  · exact absurd h h0
  have ⟨a, b⟩ := inB_true h1
  have ⟨c, d⟩ := inB_true h2
  rw [Int.tmod_eq_emod_of_nonneg (by omega)] at a b
  unfold halfN sideNo
  by_cases h3 : 128 < x.d
  · rw [if_pos (by omega), if_pos (by simpa using h3)]
  · rw [if_neg (by omega), if_neg (by simpa using h3)]

/-- RuneFor's code, where the set is one and the code no negative number. -/
theorem rf_told {q A : Int} (hq : setB q = true) (hA : 0 ≤ A) (x : St) : (rfC q A = 0 → gLast x q A = ⟨⟨x.g0, x.g1, x.g2, x.g3, x.l, 0, 0⟩, rfR q A, 0⟩ ∧ 0 ≤ rfR q A) ∧ (rfC q A ≠ 0 → gLast x q A = ⟨x, -1, 12⟩) := by
  have hk : codeOKB q A = kindB (setKind q) A := by unfold codeOKB; rw [hq, decide_eq_true hA]; rfl
  constructor
  · intro h
    have hr : rfR q A = runeS (setSpans q) A := by rw [rfR, if_pos h]
    unfold rfC at h
    rw [if_pos hq, hk] at h
    split at h
    · split at h
      · cases h
      · next h1 h2 =>
        rw [hr]
        exact ⟨by rw [gLast, if_pos ⟨h1, by omega⟩], by omega⟩
    · cases h
  · intro h
    unfold rfC at h
    rw [if_pos hq, hk] at h
    unfold gLast
    split
    · next h1 => rw [if_pos h1.1, if_neg (by omega)] at h; exact absurd rfl h
    · rfl

end Go.Proofs.YtdckjhobikfggaaDoor

namespace Go.Proofs.YtdckjhobikfggaaDoor
open Go.RowKit

/-- A decoder in block g. -/
def DeAt (w : World) (g : Nat) (d : De) : Prop := w.heap[g]? = some (.cells #[.int .i64 d.n, .int .i64 d.a, .int .i64 d.c, .int .i64 d.x.g0, .int .i64 d.x.g1, .int .i64 d.x.g2, .int .i64 d.x.g3, .int .i64 d.x.l, .int .i64 d.x.s, .int .i64 d.x.d, .string d.r, .bool d.b, .bool d.o] 47)
theorem DeAt.lt {w : World} {g : Nat} {d : De} (h : DeAt w g d) : g < w.heap.size := (Array.getElem?_eq_some_iff.1 h).1
theorem DeAt.keep {w w' : World} {g : Nat} {d : De} (h : DeAt w g d) (b : Below w.heap.size w w') : DeAt w' g d := (b.block g h.lt).trans h
theorem DeAt.below {w w' : World} {g B : Nat} {d : De} (h : DeAt w g d) (b : Below B w w') (hB : g < B) : DeAt w' g d := (b.block g hB).trans h
theorem DeAt.new (w : World) (d : De) : DeAt (w.alloc (.cells #[.int .i64 d.n, .int .i64 d.a, .int .i64 d.c, .int .i64 d.x.g0, .int .i64 d.x.g1, .int .i64 d.x.g2, .int .i64 d.x.g3, .int .i64 d.x.l, .int .i64 d.x.s, .int .i64 d.x.d, .string d.r, .bool d.b, .bool d.o] 47)) w.heap.size d := heap_alloc_new _ _
theorem deSlot0 (w : World) : DeAt (w.alloc (.cells #[.int .i64 0, .int .i64 0, .int .i64 0, .int .i64 0, .int .i64 0, .int .i64 0, .int .i64 0, .int .i64 0, .int .i64 0, .int .i64 0, .string ⟨#[]⟩, .bool false, .bool false] 47)) w.heap.size zeroDe := heap_alloc_new _ _
theorem DeAt.cells {w : World} {g : Nat} {d : De} (h : DeAt w g d) : w.cell? ⟨g, 0, none⟩ = some (.int .i64 d.n) ∧ w.cell? ⟨g, 1, none⟩ = some (.int .i64 d.a) ∧ w.cell? ⟨g, 2, none⟩ = some (.int .i64 d.c) ∧ w.cell? ⟨g, 3, none⟩ = some (.int .i64 d.x.g0) ∧ w.cell? ⟨g, 4, none⟩ = some (.int .i64 d.x.g1) ∧ w.cell? ⟨g, 5, none⟩ = some (.int .i64 d.x.g2) ∧ w.cell? ⟨g, 6, none⟩ = some (.int .i64 d.x.g3) ∧ w.cell? ⟨g, 7, none⟩ = some (.int .i64 d.x.l) ∧ w.cell? ⟨g, 8, none⟩ = some (.int .i64 d.x.s) ∧ w.cell? ⟨g, 9, none⟩ = some (.int .i64 d.x.d) ∧ w.cell? ⟨g, 10, none⟩ = some (.string d.r) ∧ w.cell? ⟨g, 11, none⟩ = some (.bool d.b) ∧ w.cell? ⟨g, 12, none⟩ = some (.bool d.o) := by
  refine ⟨?_, ?_, ?_, ?_, ?_, ?_, ?_, ?_, ?_, ?_, ?_, ?_, ?_⟩ <;> (rw [cell_of_row _ _ _ _ _ _ h]; rfl)
theorem DeAt.thaw {w : World} {g : Nat} {d : De} (h : DeAt w g d) : w.frozen? ⟨g, 0, none⟩ = false ∧ w.frozen? ⟨g, 1, none⟩ = false ∧ w.frozen? ⟨g, 2, none⟩ = false ∧ w.frozen? ⟨g, 3, none⟩ = false ∧ w.frozen? ⟨g, 4, none⟩ = false ∧ w.frozen? ⟨g, 5, none⟩ = false ∧ w.frozen? ⟨g, 6, none⟩ = false ∧ w.frozen? ⟨g, 7, none⟩ = false ∧ w.frozen? ⟨g, 8, none⟩ = false ∧ w.frozen? ⟨g, 9, none⟩ = false ∧ w.frozen? ⟨g, 10, none⟩ = false ∧ w.frozen? ⟨g, 11, none⟩ = false ∧ w.frozen? ⟨g, 12, none⟩ = false :=
  ⟨frozen_of_row w _ 0 _ _ h, frozen_of_row w _ 1 _ _ h, frozen_of_row w _ 2 _ _ h, frozen_of_row w _ 3 _ _ h, frozen_of_row w _ 4 _ _ h, frozen_of_row w _ 5 _ _ h, frozen_of_row w _ 6 _ _ h, frozen_of_row w _ 7 _ _ h, frozen_of_row w _ 8 _ _ h, frozen_of_row w _ 9 _ _ h, frozen_of_row w _ 10 _ _ h, frozen_of_row w _ 11 _ _ h, frozen_of_row w _ 12 _ _ h⟩
/-- A decoder stored field by field. -/
def putDe (w : World) (g : Nat) (d : De) : World := (((((((((((((w.setCell ⟨g, 0, none⟩ (.int .i64 d.n)).setCell ⟨g, 1, none⟩ (.int .i64 d.a)).setCell ⟨g, 2, none⟩ (.int .i64 d.c)).setCell ⟨g, 3, none⟩ (.int .i64 d.x.g0)).setCell ⟨g, 4, none⟩ (.int .i64 d.x.g1)).setCell ⟨g, 5, none⟩ (.int .i64 d.x.g2)).setCell ⟨g, 6, none⟩ (.int .i64 d.x.g3)).setCell ⟨g, 7, none⟩ (.int .i64 d.x.l)).setCell ⟨g, 8, none⟩ (.int .i64 d.x.s)).setCell ⟨g, 9, none⟩ (.int .i64 d.x.d)).setCell ⟨g, 10, none⟩ (.string d.r)).setCell ⟨g, 11, none⟩ (.bool d.b)).setCell ⟨g, 12, none⟩ (.bool d.o))
set_option maxRecDepth 100000 in
theorem DeAt.put {w : World} {g : Nat} {x : De} (h : DeAt w g x) (y : De) : DeAt (putDe w g y) g y := by
  have k0 : ((w.setCell ⟨g, 0, none⟩ (.int .i64 y.n))).heap[g]? = some (.cells #[.int .i64 y.n, .int .i64 x.a, .int .i64 x.c, .int .i64 x.x.g0, .int .i64 x.x.g1, .int .i64 x.x.g2, .int .i64 x.x.g3, .int .i64 x.x.l, .int .i64 x.x.s, .int .i64 x.x.d, .string x.r, .bool x.b, .bool x.o] 47) := heap_setCell_same _ g 0 _ _ (.int .i64 y.n) h
  have k1 : (((w.setCell ⟨g, 0, none⟩ (.int .i64 y.n)).setCell ⟨g, 1, none⟩ (.int .i64 y.a))).heap[g]? = some (.cells #[.int .i64 y.n, .int .i64 y.a, .int .i64 x.c, .int .i64 x.x.g0, .int .i64 x.x.g1, .int .i64 x.x.g2, .int .i64 x.x.g3, .int .i64 x.x.l, .int .i64 x.x.s, .int .i64 x.x.d, .string x.r, .bool x.b, .bool x.o] 47) := heap_setCell_same _ g 1 _ _ (.int .i64 y.a) k0
  have k2 : ((((w.setCell ⟨g, 0, none⟩ (.int .i64 y.n)).setCell ⟨g, 1, none⟩ (.int .i64 y.a)).setCell ⟨g, 2, none⟩ (.int .i64 y.c))).heap[g]? = some (.cells #[.int .i64 y.n, .int .i64 y.a, .int .i64 y.c, .int .i64 x.x.g0, .int .i64 x.x.g1, .int .i64 x.x.g2, .int .i64 x.x.g3, .int .i64 x.x.l, .int .i64 x.x.s, .int .i64 x.x.d, .string x.r, .bool x.b, .bool x.o] 47) := heap_setCell_same _ g 2 _ _ (.int .i64 y.c) k1
  have k3 : (((((w.setCell ⟨g, 0, none⟩ (.int .i64 y.n)).setCell ⟨g, 1, none⟩ (.int .i64 y.a)).setCell ⟨g, 2, none⟩ (.int .i64 y.c)).setCell ⟨g, 3, none⟩ (.int .i64 y.x.g0))).heap[g]? = some (.cells #[.int .i64 y.n, .int .i64 y.a, .int .i64 y.c, .int .i64 y.x.g0, .int .i64 x.x.g1, .int .i64 x.x.g2, .int .i64 x.x.g3, .int .i64 x.x.l, .int .i64 x.x.s, .int .i64 x.x.d, .string x.r, .bool x.b, .bool x.o] 47) := heap_setCell_same _ g 3 _ _ (.int .i64 y.x.g0) k2
  have k4 : ((((((w.setCell ⟨g, 0, none⟩ (.int .i64 y.n)).setCell ⟨g, 1, none⟩ (.int .i64 y.a)).setCell ⟨g, 2, none⟩ (.int .i64 y.c)).setCell ⟨g, 3, none⟩ (.int .i64 y.x.g0)).setCell ⟨g, 4, none⟩ (.int .i64 y.x.g1))).heap[g]? = some (.cells #[.int .i64 y.n, .int .i64 y.a, .int .i64 y.c, .int .i64 y.x.g0, .int .i64 y.x.g1, .int .i64 x.x.g2, .int .i64 x.x.g3, .int .i64 x.x.l, .int .i64 x.x.s, .int .i64 x.x.d, .string x.r, .bool x.b, .bool x.o] 47) := heap_setCell_same _ g 4 _ _ (.int .i64 y.x.g1) k3
  have k5 : (((((((w.setCell ⟨g, 0, none⟩ (.int .i64 y.n)).setCell ⟨g, 1, none⟩ (.int .i64 y.a)).setCell ⟨g, 2, none⟩ (.int .i64 y.c)).setCell ⟨g, 3, none⟩ (.int .i64 y.x.g0)).setCell ⟨g, 4, none⟩ (.int .i64 y.x.g1)).setCell ⟨g, 5, none⟩ (.int .i64 y.x.g2))).heap[g]? = some (.cells #[.int .i64 y.n, .int .i64 y.a, .int .i64 y.c, .int .i64 y.x.g0, .int .i64 y.x.g1, .int .i64 y.x.g2, .int .i64 x.x.g3, .int .i64 x.x.l, .int .i64 x.x.s, .int .i64 x.x.d, .string x.r, .bool x.b, .bool x.o] 47) := heap_setCell_same _ g 5 _ _ (.int .i64 y.x.g2) k4
  have k6 : ((((((((w.setCell ⟨g, 0, none⟩ (.int .i64 y.n)).setCell ⟨g, 1, none⟩ (.int .i64 y.a)).setCell ⟨g, 2, none⟩ (.int .i64 y.c)).setCell ⟨g, 3, none⟩ (.int .i64 y.x.g0)).setCell ⟨g, 4, none⟩ (.int .i64 y.x.g1)).setCell ⟨g, 5, none⟩ (.int .i64 y.x.g2)).setCell ⟨g, 6, none⟩ (.int .i64 y.x.g3))).heap[g]? = some (.cells #[.int .i64 y.n, .int .i64 y.a, .int .i64 y.c, .int .i64 y.x.g0, .int .i64 y.x.g1, .int .i64 y.x.g2, .int .i64 y.x.g3, .int .i64 x.x.l, .int .i64 x.x.s, .int .i64 x.x.d, .string x.r, .bool x.b, .bool x.o] 47) := heap_setCell_same _ g 6 _ _ (.int .i64 y.x.g3) k5
  have k7 : (((((((((w.setCell ⟨g, 0, none⟩ (.int .i64 y.n)).setCell ⟨g, 1, none⟩ (.int .i64 y.a)).setCell ⟨g, 2, none⟩ (.int .i64 y.c)).setCell ⟨g, 3, none⟩ (.int .i64 y.x.g0)).setCell ⟨g, 4, none⟩ (.int .i64 y.x.g1)).setCell ⟨g, 5, none⟩ (.int .i64 y.x.g2)).setCell ⟨g, 6, none⟩ (.int .i64 y.x.g3)).setCell ⟨g, 7, none⟩ (.int .i64 y.x.l))).heap[g]? = some (.cells #[.int .i64 y.n, .int .i64 y.a, .int .i64 y.c, .int .i64 y.x.g0, .int .i64 y.x.g1, .int .i64 y.x.g2, .int .i64 y.x.g3, .int .i64 y.x.l, .int .i64 x.x.s, .int .i64 x.x.d, .string x.r, .bool x.b, .bool x.o] 47) := heap_setCell_same _ g 7 _ _ (.int .i64 y.x.l) k6
  have k8 : ((((((((((w.setCell ⟨g, 0, none⟩ (.int .i64 y.n)).setCell ⟨g, 1, none⟩ (.int .i64 y.a)).setCell ⟨g, 2, none⟩ (.int .i64 y.c)).setCell ⟨g, 3, none⟩ (.int .i64 y.x.g0)).setCell ⟨g, 4, none⟩ (.int .i64 y.x.g1)).setCell ⟨g, 5, none⟩ (.int .i64 y.x.g2)).setCell ⟨g, 6, none⟩ (.int .i64 y.x.g3)).setCell ⟨g, 7, none⟩ (.int .i64 y.x.l)).setCell ⟨g, 8, none⟩ (.int .i64 y.x.s))).heap[g]? = some (.cells #[.int .i64 y.n, .int .i64 y.a, .int .i64 y.c, .int .i64 y.x.g0, .int .i64 y.x.g1, .int .i64 y.x.g2, .int .i64 y.x.g3, .int .i64 y.x.l, .int .i64 y.x.s, .int .i64 x.x.d, .string x.r, .bool x.b, .bool x.o] 47) := heap_setCell_same _ g 8 _ _ (.int .i64 y.x.s) k7
  have k9 : (((((((((((w.setCell ⟨g, 0, none⟩ (.int .i64 y.n)).setCell ⟨g, 1, none⟩ (.int .i64 y.a)).setCell ⟨g, 2, none⟩ (.int .i64 y.c)).setCell ⟨g, 3, none⟩ (.int .i64 y.x.g0)).setCell ⟨g, 4, none⟩ (.int .i64 y.x.g1)).setCell ⟨g, 5, none⟩ (.int .i64 y.x.g2)).setCell ⟨g, 6, none⟩ (.int .i64 y.x.g3)).setCell ⟨g, 7, none⟩ (.int .i64 y.x.l)).setCell ⟨g, 8, none⟩ (.int .i64 y.x.s)).setCell ⟨g, 9, none⟩ (.int .i64 y.x.d))).heap[g]? = some (.cells #[.int .i64 y.n, .int .i64 y.a, .int .i64 y.c, .int .i64 y.x.g0, .int .i64 y.x.g1, .int .i64 y.x.g2, .int .i64 y.x.g3, .int .i64 y.x.l, .int .i64 y.x.s, .int .i64 y.x.d, .string x.r, .bool x.b, .bool x.o] 47) := heap_setCell_same _ g 9 _ _ (.int .i64 y.x.d) k8
  have k10 : ((((((((((((w.setCell ⟨g, 0, none⟩ (.int .i64 y.n)).setCell ⟨g, 1, none⟩ (.int .i64 y.a)).setCell ⟨g, 2, none⟩ (.int .i64 y.c)).setCell ⟨g, 3, none⟩ (.int .i64 y.x.g0)).setCell ⟨g, 4, none⟩ (.int .i64 y.x.g1)).setCell ⟨g, 5, none⟩ (.int .i64 y.x.g2)).setCell ⟨g, 6, none⟩ (.int .i64 y.x.g3)).setCell ⟨g, 7, none⟩ (.int .i64 y.x.l)).setCell ⟨g, 8, none⟩ (.int .i64 y.x.s)).setCell ⟨g, 9, none⟩ (.int .i64 y.x.d)).setCell ⟨g, 10, none⟩ (.string y.r))).heap[g]? = some (.cells #[.int .i64 y.n, .int .i64 y.a, .int .i64 y.c, .int .i64 y.x.g0, .int .i64 y.x.g1, .int .i64 y.x.g2, .int .i64 y.x.g3, .int .i64 y.x.l, .int .i64 y.x.s, .int .i64 y.x.d, .string y.r, .bool x.b, .bool x.o] 47) := heap_setCell_same _ g 10 _ _ (.string y.r) k9
  have k11 : (((((((((((((w.setCell ⟨g, 0, none⟩ (.int .i64 y.n)).setCell ⟨g, 1, none⟩ (.int .i64 y.a)).setCell ⟨g, 2, none⟩ (.int .i64 y.c)).setCell ⟨g, 3, none⟩ (.int .i64 y.x.g0)).setCell ⟨g, 4, none⟩ (.int .i64 y.x.g1)).setCell ⟨g, 5, none⟩ (.int .i64 y.x.g2)).setCell ⟨g, 6, none⟩ (.int .i64 y.x.g3)).setCell ⟨g, 7, none⟩ (.int .i64 y.x.l)).setCell ⟨g, 8, none⟩ (.int .i64 y.x.s)).setCell ⟨g, 9, none⟩ (.int .i64 y.x.d)).setCell ⟨g, 10, none⟩ (.string y.r)).setCell ⟨g, 11, none⟩ (.bool y.b))).heap[g]? = some (.cells #[.int .i64 y.n, .int .i64 y.a, .int .i64 y.c, .int .i64 y.x.g0, .int .i64 y.x.g1, .int .i64 y.x.g2, .int .i64 y.x.g3, .int .i64 y.x.l, .int .i64 y.x.s, .int .i64 y.x.d, .string y.r, .bool y.b, .bool x.o] 47) := heap_setCell_same _ g 11 _ _ (.bool y.b) k10
  have k12 : ((((((((((((((w.setCell ⟨g, 0, none⟩ (.int .i64 y.n)).setCell ⟨g, 1, none⟩ (.int .i64 y.a)).setCell ⟨g, 2, none⟩ (.int .i64 y.c)).setCell ⟨g, 3, none⟩ (.int .i64 y.x.g0)).setCell ⟨g, 4, none⟩ (.int .i64 y.x.g1)).setCell ⟨g, 5, none⟩ (.int .i64 y.x.g2)).setCell ⟨g, 6, none⟩ (.int .i64 y.x.g3)).setCell ⟨g, 7, none⟩ (.int .i64 y.x.l)).setCell ⟨g, 8, none⟩ (.int .i64 y.x.s)).setCell ⟨g, 9, none⟩ (.int .i64 y.x.d)).setCell ⟨g, 10, none⟩ (.string y.r)).setCell ⟨g, 11, none⟩ (.bool y.b)).setCell ⟨g, 12, none⟩ (.bool y.o))).heap[g]? = some (.cells #[.int .i64 y.n, .int .i64 y.a, .int .i64 y.c, .int .i64 y.x.g0, .int .i64 y.x.g1, .int .i64 y.x.g2, .int .i64 y.x.g3, .int .i64 y.x.l, .int .i64 y.x.s, .int .i64 y.x.d, .string y.r, .bool y.b, .bool y.o] 47) := heap_setCell_same _ g 12 _ _ (.bool y.o) k11
  exact k12
theorem below_putDe {B : Nat} {a w : World} (h : Below B a w) {g : Nat} (hg : B ≤ g) (y : De) : Below B a (putDe w g y) := (((((((((((((h.setCell hg _).setCell hg _).setCell hg _).setCell hg _).setCell hg _).setCell hg _).setCell hg _).setCell hg _).setCell hg _).setCell hg _).setCell hg _).setCell hg _).setCell hg _)
theorem only_putDe (g : Nat) (w : World) (y : De) : Only g w (putDe w g y) := ((((((((((((((Only.refl _ _).trans (Only.set g 0 _ _)).trans (Only.set g 1 _ _)).trans (Only.set g 2 _ _)).trans (Only.set g 3 _ _)).trans (Only.set g 4 _ _)).trans (Only.set g 5 _ _)).trans (Only.set g 6 _ _)).trans (Only.set g 7 _ _)).trans (Only.set g 8 _ _)).trans (Only.set g 9 _ _)).trans (Only.set g 10 _ _)).trans (Only.set g 11 _ _)).trans (Only.set g 12 _ _))
/-- One field stored. -/
theorem DeAt.set1 {w : World} {g : Nat} {d : De} (h : DeAt w g d) (v : Int) : DeAt (w.setCell ⟨g, 1, none⟩ (.int .i64 v)) g ⟨d.n, v, d.c, d.x, d.r, d.b, d.o⟩ := heap_setCell_same _ g 1 _ _ (.int .i64 v) h
theorem DeAt.set2 {w : World} {g : Nat} {d : De} (h : DeAt w g d) (v : Int) : DeAt (w.setCell ⟨g, 2, none⟩ (.int .i64 v)) g ⟨d.n, d.a, v, d.x, d.r, d.b, d.o⟩ := heap_setCell_same _ g 2 _ _ (.int .i64 v) h
theorem DeAt.set10 {w : World} {g : Nat} {d : De} (h : DeAt w g d) (v : ByteArray) : DeAt (w.setCell ⟨g, 10, none⟩ (.string v)) g ⟨d.n, d.a, d.c, d.x, v, d.b, d.o⟩ := heap_setCell_same _ g 10 _ _ (.string v) h
theorem DeAt.set11 {w : World} {g : Nat} {d : De} (h : DeAt w g d) (v : Bool) : DeAt (w.setCell ⟨g, 11, none⟩ (.bool v)) g ⟨d.n, d.a, d.c, d.x, d.r, v, d.o⟩ := heap_setCell_same _ g 11 _ _ (.bool v) h
theorem DeAt.set12 {w : World} {g : Nat} {d : De} (h : DeAt w g d) (v : Bool) : DeAt (w.setCell ⟨g, 12, none⟩ (.bool v)) g ⟨d.n, d.a, d.c, d.x, d.r, d.b, v⟩ := heap_setCell_same _ g 12 _ _ (.bool v) h
/-- Its state stored. -/
def putDS (w : World) (g : Nat) (y : St) : World := (((((((w.setCell ⟨g, 3, none⟩ (.int .i64 y.g0)).setCell ⟨g, 4, none⟩ (.int .i64 y.g1)).setCell ⟨g, 5, none⟩ (.int .i64 y.g2)).setCell ⟨g, 6, none⟩ (.int .i64 y.g3)).setCell ⟨g, 7, none⟩ (.int .i64 y.l)).setCell ⟨g, 8, none⟩ (.int .i64 y.s)).setCell ⟨g, 9, none⟩ (.int .i64 y.d))
theorem DeAt.putS {w : World} {g : Nat} {d : De} (h : DeAt w g d) (y : St) : DeAt (putDS w g y) g ⟨d.n, d.a, d.c, y, d.r, d.b, d.o⟩ := by
  have k0 : ((w.setCell ⟨g, 3, none⟩ (.int .i64 y.g0))).heap[g]? = some (.cells #[.int .i64 d.n, .int .i64 d.a, .int .i64 d.c, .int .i64 y.g0, .int .i64 d.x.g1, .int .i64 d.x.g2, .int .i64 d.x.g3, .int .i64 d.x.l, .int .i64 d.x.s, .int .i64 d.x.d, .string d.r, .bool d.b, .bool d.o] 47) := heap_setCell_same _ g 3 _ _ (.int .i64 y.g0) h
  have k1 : (((w.setCell ⟨g, 3, none⟩ (.int .i64 y.g0)).setCell ⟨g, 4, none⟩ (.int .i64 y.g1))).heap[g]? = some (.cells #[.int .i64 d.n, .int .i64 d.a, .int .i64 d.c, .int .i64 y.g0, .int .i64 y.g1, .int .i64 d.x.g2, .int .i64 d.x.g3, .int .i64 d.x.l, .int .i64 d.x.s, .int .i64 d.x.d, .string d.r, .bool d.b, .bool d.o] 47) := heap_setCell_same _ g 4 _ _ (.int .i64 y.g1) k0
  have k2 : ((((w.setCell ⟨g, 3, none⟩ (.int .i64 y.g0)).setCell ⟨g, 4, none⟩ (.int .i64 y.g1)).setCell ⟨g, 5, none⟩ (.int .i64 y.g2))).heap[g]? = some (.cells #[.int .i64 d.n, .int .i64 d.a, .int .i64 d.c, .int .i64 y.g0, .int .i64 y.g1, .int .i64 y.g2, .int .i64 d.x.g3, .int .i64 d.x.l, .int .i64 d.x.s, .int .i64 d.x.d, .string d.r, .bool d.b, .bool d.o] 47) := heap_setCell_same _ g 5 _ _ (.int .i64 y.g2) k1
  have k3 : (((((w.setCell ⟨g, 3, none⟩ (.int .i64 y.g0)).setCell ⟨g, 4, none⟩ (.int .i64 y.g1)).setCell ⟨g, 5, none⟩ (.int .i64 y.g2)).setCell ⟨g, 6, none⟩ (.int .i64 y.g3))).heap[g]? = some (.cells #[.int .i64 d.n, .int .i64 d.a, .int .i64 d.c, .int .i64 y.g0, .int .i64 y.g1, .int .i64 y.g2, .int .i64 y.g3, .int .i64 d.x.l, .int .i64 d.x.s, .int .i64 d.x.d, .string d.r, .bool d.b, .bool d.o] 47) := heap_setCell_same _ g 6 _ _ (.int .i64 y.g3) k2
  have k4 : ((((((w.setCell ⟨g, 3, none⟩ (.int .i64 y.g0)).setCell ⟨g, 4, none⟩ (.int .i64 y.g1)).setCell ⟨g, 5, none⟩ (.int .i64 y.g2)).setCell ⟨g, 6, none⟩ (.int .i64 y.g3)).setCell ⟨g, 7, none⟩ (.int .i64 y.l))).heap[g]? = some (.cells #[.int .i64 d.n, .int .i64 d.a, .int .i64 d.c, .int .i64 y.g0, .int .i64 y.g1, .int .i64 y.g2, .int .i64 y.g3, .int .i64 y.l, .int .i64 d.x.s, .int .i64 d.x.d, .string d.r, .bool d.b, .bool d.o] 47) := heap_setCell_same _ g 7 _ _ (.int .i64 y.l) k3
  have k5 : (((((((w.setCell ⟨g, 3, none⟩ (.int .i64 y.g0)).setCell ⟨g, 4, none⟩ (.int .i64 y.g1)).setCell ⟨g, 5, none⟩ (.int .i64 y.g2)).setCell ⟨g, 6, none⟩ (.int .i64 y.g3)).setCell ⟨g, 7, none⟩ (.int .i64 y.l)).setCell ⟨g, 8, none⟩ (.int .i64 y.s))).heap[g]? = some (.cells #[.int .i64 d.n, .int .i64 d.a, .int .i64 d.c, .int .i64 y.g0, .int .i64 y.g1, .int .i64 y.g2, .int .i64 y.g3, .int .i64 y.l, .int .i64 y.s, .int .i64 d.x.d, .string d.r, .bool d.b, .bool d.o] 47) := heap_setCell_same _ g 8 _ _ (.int .i64 y.s) k4
  have k6 : ((((((((w.setCell ⟨g, 3, none⟩ (.int .i64 y.g0)).setCell ⟨g, 4, none⟩ (.int .i64 y.g1)).setCell ⟨g, 5, none⟩ (.int .i64 y.g2)).setCell ⟨g, 6, none⟩ (.int .i64 y.g3)).setCell ⟨g, 7, none⟩ (.int .i64 y.l)).setCell ⟨g, 8, none⟩ (.int .i64 y.s)).setCell ⟨g, 9, none⟩ (.int .i64 y.d))).heap[g]? = some (.cells #[.int .i64 d.n, .int .i64 d.a, .int .i64 d.c, .int .i64 y.g0, .int .i64 y.g1, .int .i64 y.g2, .int .i64 y.g3, .int .i64 y.l, .int .i64 y.s, .int .i64 y.d, .string d.r, .bool d.b, .bool d.o] 47) := heap_setCell_same _ g 9 _ _ (.int .i64 y.d) k5
  exact k6
theorem below_putDS {B : Nat} {a w : World} (h : Below B a w) {g : Nat} (hg : B ≤ g) (y : St) : Below B a (putDS w g y) := (((((((h.setCell hg _).setCell hg _).setCell hg _).setCell hg _).setCell hg _).setCell hg _).setCell hg _)
theorem only_putDS (g : Nat) (w : World) (y : St) : Only g w (putDS w g y) := ((((((((Only.refl _ _).trans (Only.set g 3 _ _)).trans (Only.set g 4 _ _)).trans (Only.set g 5 _ _)).trans (Only.set g 6 _ _)).trans (Only.set g 7 _ _)).trans (Only.set g 8 _ _)).trans (Only.set g 9 _ _))
/-- A decoder handed back in a slot. -/
def DeDone (d : De) (w : World) (e : Ending) (w' : World) : Prop := e = .returned (deV d) ∧ Below w.heap.size w w'

end Go.Proofs.YtdckjhobikfggaaDoor

namespace Go.Proofs
open Go.Shelf

end Go.Proofs
namespace Go.Proofs.YtdckjhobikfggaaDoor
open Go.RowKit

end Go.Proofs.YtdckjhobikfggaaDoor

namespace Go.Proofs.YtdckjhobikfggaaDoor
open Go.RowKit

def words : List ByteArray := [⟨#[111, 107]⟩, ⟨#[98, 97, 100]⟩, ⟨#[108, 111, 110, 103]⟩, ⟨#[102, 111, 114, 109]⟩, ⟨#[114, 97, 110, 103, 101]⟩, ⟨#[110, 111, 110, 101]⟩, ⟨#[109, 97, 110, 121]⟩, ⟨#[102, 117, 108, 108]⟩, ⟨#[115, 105, 122, 101]⟩, ⟨#[107, 105, 110, 100]⟩, ⟨#[101, 115, 99, 97, 112, 101]⟩, ⟨#[102, 111, 114, 98, 105, 100, 100, 101, 110]⟩, ⟨#[117, 110, 109, 97, 112, 112, 101, 100]⟩, ⟨#[115, 104, 111, 114, 116]⟩, ⟨#[114, 101, 115, 101, 116]⟩, ⟨#[104, 101, 97, 100, 101, 114]⟩, ⟨#[117, 116, 102]⟩, ⟨#[115, 116, 97, 116, 101]⟩, ⟨#[115, 97, 109, 101]⟩]
def wd (k : Nat) : ByteArray := words.getD k ⟨#[]⟩
/-- The program's own table, as its text lays it. -/
def TabWords (w : World) : Prop := ∃ t fr, w.heap[1]? = some (.cells (words.map Value.string).toArray t fr)
theorem TabWords.cell {w : World} (h : TabWords w) (k : Nat) (hk : k < 19) : w.cell? ⟨1, k, none⟩ = some (.string (wd k)) := by
  obtain ⟨t, fr, h⟩ := h
  rw [cell_of_row w _ k _ t fr h]
  have hl : words.length = 19 := rfl
  simp [wd, List.getD, List.getElem?_eq_getElem (show k < words.length by omega)]
theorem TabWords.keep {w w' : World} (h : TabWords w) (hb : Below w.heap.size w w') : TabWords w' := by
  obtain ⟨t, fr, h⟩ := h
  refine ⟨t, fr, ?_⟩
  rw [hb.block _ (Array.getElem?_eq_some_iff.1 h).1]; exact h
def wordV (c : Int) : ByteArray := if 0 ≤ c ∧ c < 19 then wd c.toNat else ⟨#[]⟩

theorem words_at (k : Nat) (h : k < (words.map Value.string).length) : (words.map Value.string)[k] = .string (wd k) := by
  rw [List.getElem_map]
  have h' : k < words.length := by simpa using h
  simp [wd, List.getD, List.getElem?_eq_getElem h']

theorem impl_CodeWord (c : Int) (w : World) (ht : TabWords w) : Calls Tryd.prog 67 #[.int .i64 c] w fun e w' => e = .returned (.string (wordV c)) ∧ w = w' := by
  by_cases h0 : 0 ≤ c
  · by_cases h1 : c < 19
    · have HV : Hid (wordV c = wd c.toNat) := Lib.hid (by simp [wordV, h0, h1])
      obtain ⟨k, rfl⟩ := Int.eq_ofNat_of_zero_le h0
      rw [Int.toNat_natCast] at HV
      have hc := ht.cell k (by omega)
      clear ht
      go_enter Tryd.func67, Tryd.ntmps67
      go_wp2
      go_ret
      exact ⟨ret_str HV.out.symm, rfl⟩
    · have HV : Hid (wordV c = ⟨#[]⟩) := Lib.hid (by simp [wordV, h1])
      go_enter Tryd.func67, Tryd.ntmps67
      go_wp2
      go_ret
      exact ⟨ret_str HV.out.symm, rfl⟩
  · have HV : Hid (wordV c = ⟨#[]⟩) := Lib.hid (by simp [wordV, h0])
    go_enter Tryd.func67, Tryd.ntmps67
    go_wp2
    go_ret
    exact ⟨ret_str HV.out.symm, rfl⟩

end Go.Proofs.YtdckjhobikfggaaDoor

namespace Go.Proofs
open Go.Shelf
def Tryd.layI_ren : Go.Shelf.Ren := ⟨fun | 137 => 79 | 217 => 108 | 266 => 129 | n => n, fun | 3 => 3 | 5 => 5 | 9 => 9 | n => n, fun | n => n⟩
theorem Tryd.layI137 : Lays.n137 Tryd.prog Tryd.layI_ren := {
  mixed := by kernel_rfl
  f137 := Tryd.func79.trans (congrArg some (by kernel_rfl))
  f217 := Tryd.func108.trans (congrArg some (by kernel_rfl))
  f266 := Tryd.func129.trans (congrArg some (by kernel_rfl))
  t3 := Tryd.underlying3
  a3 := Tryd.isAgg3
  z3 := Tryd.sizeOf3
  v3 := Tryd.zeroValue3
  t5 := Tryd.underlying5
  a5 := Tryd.isAgg5
  z5 := Tryd.sizeOf5
  v5 := Tryd.zeroValue5
  t9 := Tryd.underlying9
  a9 := Tryd.isAgg9
  z9 := Tryd.sizeOf9
  v9 := Tryd.zeroValue9 }
end Go.Proofs

namespace Go.Proofs.YtdckjhobikfggaaDoor
open Go.RowKit

def idx94 (b : Int) : Int := if 40 ≤ b ∧ b ≤ 43 then b - 40 else -1
def idx96 (b : Int) : Int := if 45 ≤ b ∧ b ≤ 47 then b - 45 else -1
theorem idx94_all : ∀ n : Fin 256, Lib.indexByte (⟨#[40, 41, 42, 43]⟩ : ByteArray).data.toList ((n.val : Int).toNat.toUInt8) = idx94 (n.val : Int) := by decide +kernel
theorem idx96_all : ∀ n : Fin 256, Lib.indexByte (⟨#[45, 46, 47]⟩ : ByteArray).data.toList ((n.val : Int).toNat.toUInt8) = idx96 (n.val : Int) := by decide +kernel
theorem str_idx94 (c : Int) (w : World) (h0 : 0 ≤ c) (h1 : c < 256) : Calls Tryd.prog 79 #[.string ⟨#[40, 41, 42, 43]⟩, .int .u8 c] w fun e w' => e = .returned (.int .i64 (idx94 c)) ∧ w = w' := by
  refine (Any.strings_IndexByte Tryd.layI137 ⟨#[40, 41, 42, 43]⟩ c w).mono ?_
  rintro e w' ⟨rfl, rfl⟩
  have := idx94_all ⟨c.toNat, by omega⟩
  simp only at this
  have hc : ((c.toNat : Nat) : Int) = c := by omega
  rw [hc] at this
  exact ⟨by rw [this], rfl⟩
theorem str_idx96 (c : Int) (w : World) (h0 : 0 ≤ c) (h1 : c < 256) : Calls Tryd.prog 79 #[.string ⟨#[45, 46, 47]⟩, .int .u8 c] w fun e w' => e = .returned (.int .i64 (idx96 c)) ∧ w = w' := by
  refine (Any.strings_IndexByte Tryd.layI137 ⟨#[45, 46, 47]⟩ c w).mono ?_
  rintro e w' ⟨rfl, rfl⟩
  have := idx96_all ⟨c.toNat, by omega⟩
  simp only at this
  have hc : ((c.toNat : Nat) : Int) = c := by omega
  rw [hc] at this
  exact ⟨by rw [this], rfl⟩

theorem placeOf_none (s : ByteArray) : ∀ (l : List ByteArray) (k : Int), (∀ t ∈ l, ¬ t = s) → placeOf s l k = -1
  | [], _, _ => rfl
  | t :: r, k, h => by
    rw [placeOf, if_neg (h t (by simp))]
    exact placeOf_none s r (k + 1) (fun u hu => h u (by simp [hu]))
theorem one_all : ∀ n : Fin 256, midNo ⟨#[n.val.toUInt8]⟩ = if 0 ≤ idx94 (n.val : Int) then idx94 (n.val : Int) else if 0 ≤ idx96 (n.val : Int) then idx96 (n.val : Int) + 4 else if (n.val : Int) = 36 then 7 else -1 := by decide +kernel
theorem two_all : ∀ n : Fin 256, midNo ⟨#[36, n.val.toUInt8]⟩ = if 0 ≤ idx94 (n.val : Int) then idx94 (n.val : Int) + 8 else -1 := by decide +kernel

theorem mid_long (s : ByteArray) (h : 2 < s.size) : midNo s = -1 := by
  refine placeOf_none s mids 0 (fun t ht e => ?_)
  have h2 : ∀ t ∈ mids, t.size ≤ 2 := by decide
  have := h2 t ht
  rw [e] at this
  omega
theorem mid_one (s : ByteArray) (h : s.size = 1) : s = ⟨#[s[0].toNat.toUInt8]⟩ := by
  apply ByteArray.ext
  apply Array.ext
  · exact h
  · intro i h1 h2
    have : i = 0 := by simp at h2; omega
    subst this
    simp
    rfl
theorem mid_two (s : ByteArray) (h : s.size = 2) : s = ⟨#[s[0].toNat.toUInt8, s[1].toNat.toUInt8]⟩ := by
  apply ByteArray.ext
  apply Array.ext
  · exact h
  · intro i h1 h2
    have : i = 0 ∨ i = 1 := by simp at h2; omega
    rcases this with rfl | rfl
    · simp
      rfl
    · simp
      rfl
theorem midNo_one (s : ByteArray) (h : s.size = 1) : midNo s = if (0 : Int) ≤ idx94 (s[0].toNat : Int) then idx94 (s[0].toNat : Int) else if (0 : Int) ≤ idx96 (s[0].toNat : Int) then idx96 (s[0].toNat : Int) + 4 else if (s[0].toNat : Int) = 36 then 7 else -1 := by
  have := one_all ⟨s[0].toNat, s[0].toNat_lt⟩
  simp only at this
  rw [← mid_one s h] at this
  exact this
theorem midNo_two (s : ByteArray) (h : s.size = 2) (h36 : (s[0].toNat : Int) = 36) : midNo s = if (0 : Int) ≤ idx94 (s[1].toNat : Int) then idx94 (s[1].toNat : Int) + 8 else -1 := by
  have := two_all ⟨s[1].toNat, s[1].toNat_lt⟩
  simp only at this
  have h0 : s[0].toNat.toUInt8 = 36 := by
    have : s[0].toNat = 36 := by omega
    rw [this]; rfl
  rw [← h0, ← mid_two s h] at this
  exact this
theorem midNo_two' (s : ByteArray) (h : s.size = 2) (h36 : ¬ (s[0].toNat : Int) = 36) : midNo s = -1 := by
  refine placeOf_none s mids 0 (fun t ht e => ?_)
  have h2 : ∀ t ∈ mids, t.size = 2 → byteAt t 0 = 36 := by decide
  have := h2 t ht (by rw [e]; exact h)
  rw [e, byteAt_eq s 0 (by omega)] at this
  exact h36 this
theorem is36 (s : ByteArray) (h : s.size = 1) : s = ⟨#[36]⟩ ↔ (s[0].toNat : Int) = 36 := by
  constructor
  · intro e; subst e; rfl
  · intro e
    rw [mid_one s h]
    have : s[0].toNat = 36 := by omega
    rw [this]; rfl

def desK (s : ByteArray) (f : Int) : Int := if s = ⟨#[36]⟩ then (if f ≤ 66 then 3 else 0) else midK s
def desG (s : ByteArray) : Int := if s = ⟨#[36]⟩ ∨ midNo s < 0 then 0 else midG s
def desV (s : ByteArray) (f : Int) : Value := .tuple #[.int .i64 (desG s), .int .i64 (desK s f)]
theorem desV_of {s : ByteArray} {f g k : Int} (hg : desG s = g) (hk : desK s f = k) : desV s f = .tuple #[.int .i64 g, .int .i64 k] := by rw [desV, hg, hk]

/-- A whole escape sequence with intermediates, told by them. -/
theorem plainTok_des (s : ByteArray) (f p n : Int) (hm : ¬ s = ⟨#[]⟩) : plainTok s f p n = if desK s f = 0 ∨ f < 64 then ⟨9, 0, 0, 0, p, n⟩ else ⟨7, desG s, desK s f, f, p, n⟩ := by
  have hr := midNo_range s
  unfold plainTok desK desG
  rw [if_neg hm]
  by_cases h36 : s = ⟨#[36]⟩
  · subst h36
    have e1 : midG ⟨#[36]⟩ = 0 := by decide
    have e2 : midK ⟨#[36]⟩ = 3 := by decide
    simp only [e1, e2, true_and, if_true, true_or]
    by_cases hf : f ≤ 66
    · simp only [hf, if_true]
      by_cases h64 : f < 64
      · simp [h64]
      · have h66 : ¬ 66 < f := by omega
        simp [h64, h66]
    · have h66 : 66 < f := by omega
      simp [hf, h66]
  · simp only [h36, if_false, false_and, false_or, or_false]
    rcases hr with h | ⟨h1, h2⟩
    · have e1 : midG s < 0 := by simp [midG, h]
      have e2 : midK s = 0 := by simp [midK, h]
      simp [e1, e2]
    · have e1 : ¬ midG s < 0 := by unfold midG; repeat' split
                                   all_goals omega
      have e2 : ¬ midK s = 0 := by unfold midK; repeat' split
                                   all_goals omega
      have e3 : ¬ midNo s < 0 := by omega
      simp [e1, e2, e3]

theorem idx94_le (b : Int) : -1 ≤ idx94 b ∧ idx94 b ≤ 3 := by unfold idx94; split <;> omega
theorem idx96_le (b : Int) : -1 ≤ idx96 b ∧ idx96 b ≤ 2 := by unfold idx96; split <;> omega
theorem des_of {s : ByteArray} {f n : Int} (h36 : ¬ s = ⟨#[36]⟩) (hn : midNo s = n) : desG s = (if n < 0 then 0 else if n < 4 then n else if n < 7 then n - 3 else if n = 7 then 0 else n - 8) ∧ desK s f = (if n < 0 then 0 else if n < 4 then 1 else if n < 7 then 2 else 3) := by
  subst hn
  refine ⟨?_, ?_⟩
  · unfold desG midG
    by_cases h : midNo s < 0
    · simp [h36, h]
    · simp [h36, h]
  · unfold desK midK
    simp [h36]

theorem des_94 {s : ByteArray} {f x : Int} (h36 : ¬ s = ⟨#[36]⟩) (hn : midNo s = x) (h0 : 0 ≤ x) (h1 : x ≤ 3) : desV s f = .tuple #[.int .i64 x, .int .i64 1] := by
  have ⟨a, b⟩ := des_of (f := f) h36 hn
  rw [if_neg (by omega), if_pos (by omega)] at a b
  exact desV_of a b
theorem des_96 {s : ByteArray} {f y : Int} (h36 : ¬ s = ⟨#[36]⟩) (hn : midNo s = y + 4) (h0 : 0 ≤ y) (h1 : y ≤ 2) : desV s f = .tuple #[.int .i64 (y + 1), .int .i64 2] := by
  have ⟨a, b⟩ := des_of (f := f) h36 hn
  rw [if_neg (by omega), if_neg (by omega), if_pos (by omega)] at a b
  exact desV_of (by omega) b
theorem des_pair {s : ByteArray} {f x : Int} (h36 : ¬ s = ⟨#[36]⟩) (hn : midNo s = x + 8) (h0 : 0 ≤ x) : desV s f = .tuple #[.int .i64 x, .int .i64 3] := by
  have ⟨a, b⟩ := des_of (f := f) h36 hn
  rw [if_neg (by omega), if_neg (by omega), if_neg (by omega)] at a b
  rw [if_neg (by omega)] at a
  exact desV_of (by omega) b
theorem des_none {s : ByteArray} {f : Int} (h36 : ¬ s = ⟨#[36]⟩) (hn : midNo s = -1) : desV s f = .tuple #[.int .i64 0, .int .i64 0] := by
  have ⟨a, b⟩ := des_of (f := f) h36 hn
  exact desV_of a b

set_option maxHeartbeats 2000000 in
theorem des_one (s : ByteArray) (f : Int) (w : World) (h1 : s.size = 1) : Calls Tryd.prog 153 #[.string s, .int .i64 f] w fun e w' => e = .returned (desV s f) ∧ w = w' := by
  have hi := is36 s h1
  have hn := midNo_one s h1
  have hb := byteAt_le s 0
  rw [byteAt_eq s 0 (by omega)] at hb
  have hz : (s.size : Int) = 1 := by omega
  by_cases h36 : s = ⟨#[36]⟩
  · have hb36 := hi.1 h36
    have t1 : (s.toList == [36]) = true := by rw [h36, list36]; rfl
    by_cases hf : f ≤ 66
    · have HE := Lib.hid (desV_of (s := s) (f := f) (g := 0) (k := 3) (by simp [desG, h36]) (by simp [desK, h36, hf]))
      clear hi hn hb hb36 h36
      go_enter Tryd.func153, Tryd.ntmps153
      go_wp2
      go_ret2
      exact ⟨ret_val HE.out.symm, rfl⟩
    · have HE := Lib.hid (desV_of (s := s) (f := f) (g := 0) (k := 0) (by simp [desG, h36]) (by simp [desK, h36, hf]))
      have i1 : idx94 36 = -1 := by decide
      have i2 : idx96 36 = -1 := by decide
      clear hi hn h36
      go_enter Tryd.func153, Tryd.ntmps153
      go_wp2_with fail
      refine (str_idx94 36 w (by omega) (by omega)).mono ?_
      rintro e w1 ⟨rfl, rfl⟩
      rw [i1]
      go_wp2_with fail
      refine (str_idx96 36 w (by omega) (by omega)).mono ?_
      rintro e w1 ⟨rfl, rfl⟩
      rw [i2]
      go_wp2
      go_ret2
      exact ⟨ret_val HE.out.symm, rfl⟩
  · have t1 : (s.toList == [36]) = false := by have := str_eqf h36; rwa [list36] at this
    have hb36 : ¬ (s[0].toNat : Int) = 36 := fun h => h36 (hi.2 h)
    clear hi
    generalize hbb : (s[0].toNat : Int) = b at *
    have hx := idx94_le b
    have hy := idx96_le b
    have HX := Lib.hid (fun w => str_idx94 b w (by omega) (by omega))
    have HY := Lib.hid (fun w => str_idx96 b w (by omega) (by omega))
    generalize idx94 b = x at *
    generalize idx96 b = y at *
    by_cases x0 : 0 ≤ x
    · have HE := Lib.hid (des_94 (f := f) h36 (by rw [hn, if_pos x0]) x0 hx.2)
      clear hn h36 hb36
      go_enter Tryd.func153, Tryd.ntmps153
      go_wp2_with fail
      refine (HX.out w).mono ?_
      rintro e w1 ⟨rfl, rfl⟩
      go_wp2
      go_ret2
      exact ⟨ret_val HE.out.symm, rfl⟩
    · rw [if_neg x0] at hn
      by_cases y0 : 0 ≤ y
      · rw [if_pos y0] at hn
        have HE := Lib.hid (des_96 (f := f) h36 hn y0 hy.2)
        clear hn h36 hb36
        go_enter Tryd.func153, Tryd.ntmps153
        go_wp2_with fail
        refine (HX.out w).mono ?_
        rintro e w1 ⟨rfl, rfl⟩
        go_wp2_with fail
        refine (HY.out w).mono ?_
        rintro e w1 ⟨rfl, rfl⟩
        go_wp2
        go_ret2
        exact ⟨ret_val HE.out.symm, rfl⟩
      · rw [if_neg y0, if_neg hb36] at hn
        have HE := Lib.hid (des_none (f := f) h36 hn)
        clear hn h36 hb36
        go_enter Tryd.func153, Tryd.ntmps153
        go_wp2_with fail
        refine (HX.out w).mono ?_
        rintro e w1 ⟨rfl, rfl⟩
        go_wp2_with fail
        refine (HY.out w).mono ?_
        rintro e w1 ⟨rfl, rfl⟩
        go_wp2
        go_ret2
        exact ⟨ret_val HE.out.symm, rfl⟩

set_option maxHeartbeats 2000000 in
theorem des_two (s : ByteArray) (f : Int) (w : World) (h1 : s.size = 2) : Calls Tryd.prog 153 #[.string s, .int .i64 f] w fun e w' => e = .returned (desV s f) ∧ w = w' := by
  have hz : (s.size : Int) = 2 := by omega
  have h36 : ¬ s = ⟨#[36]⟩ := fun h => by subst h; simp [ByteArray.size] at h1
  have t1 : (s.toList == [36]) = false := by have := str_eqf h36; rwa [list36] at this
  have hb := byteAt_le s 1
  rw [byteAt_eq s 1 (by omega)] at hb
  have hb0 := byteAt_le s 0
  rw [byteAt_eq s 0 (by omega)] at hb0
  by_cases b36 : (s[0].toNat : Int) = 36
  · have hn := midNo_two s h1 b36
    generalize hbb : (s[1].toNat : Int) = b at *
    have hx := idx94_le b
    have HX := Lib.hid (fun w => str_idx94 b w (by omega) (by omega))
    have HY := Lib.hid (fun w => str_idx96 b w (by omega) (by omega))
    generalize idx94 b = x at *
    generalize idx96 b = y at *
    by_cases x0 : 0 ≤ x
    · rw [if_pos x0] at hn
      have HE := Lib.hid (des_pair (f := f) h36 hn x0)
      clear hn h36 hb0
      go_enter Tryd.func153, Tryd.ntmps153
      go_wp2_with fail
      refine (HX.out w).mono ?_
      rintro e w1 ⟨rfl, rfl⟩
      go_wp2
      go_ret2
      exact ⟨ret_val HE.out.symm, rfl⟩
    · rw [if_neg x0] at hn
      have HE := Lib.hid (des_none (f := f) h36 hn)
      clear hn h36 hb0
      go_enter Tryd.func153, Tryd.ntmps153
      go_wp2_with fail
      refine (HX.out w).mono ?_
      rintro e w1 ⟨rfl, rfl⟩
      go_wp2_with fail
      refine (HY.out w).mono ?_
      rintro e w1 ⟨rfl, rfl⟩
      by_cases y0 : 0 ≤ y
      all_goals
        go_wp2
        go_ret2
        exact ⟨ret_val HE.out.symm, rfl⟩
  · have hn := midNo_two' s h1 b36
    have HE := Lib.hid (des_none (f := f) h36 hn)
    have c36 : ((s[0].toNat : Int) == 36) = false := by simpa using b36
    clear hn h36 b36 hb
    go_enter Tryd.func153, Tryd.ntmps153
    go_wp2
    go_ret2
    exact ⟨ret_val HE.out.symm, rfl⟩

set_option maxHeartbeats 2000000 in
theorem impl_designated (s : ByteArray) (f : Int) (w : World) (hm : ¬ s = ⟨#[]⟩) (hs : s.size ≤ 1048576) : Calls Tryd.prog 153 #[.string s, .int .i64 f] w fun e w' => e = .returned (desV s f) ∧ w = w' := by
  by_cases h1 : s.size = 1
  · exact des_one s f w h1
  by_cases h2 : s.size = 2
  · exact des_two s f w h2
  have h0 : ¬ s.size = 0 := fun h => hm (ByteArray.ext (Array.eq_empty_of_size_eq_zero h))
  have h3 : 2 < s.size := by omega
  have h36 : ¬ s = ⟨#[36]⟩ := fun h => by subst h; simp [ByteArray.size] at h1
  have t1 : (s.toList == [36]) = false := by have := str_eqf h36; rwa [list36] at this
  have hn := mid_long s h3
  have HE := Lib.hid (des_none (f := f) h36 hn)
  have c1 : ((s.size : Int) == 2) = false := by simp; omega
  have c2 : ((s.size : Int) != 1) = true := by simp; omega
  clear hn h36 hm h0 h1 h2
  go_enter Tryd.func153, Tryd.ntmps153
  go_wp2
  go_ret2
  exact ⟨ret_val HE.out.symm, rfl⟩

end Go.Proofs.YtdckjhobikfggaaDoor

namespace Go.Proofs.YtdckjhobikfggaaDoor
open Go.RowKit

/-- The token, without its place, of a byte other than ESC. -/
def byteTok (b : Int) : Tok :=
  if b = 15 then ⟨5, 0, 0, 0, 0, 0⟩ else if b = 14 then ⟨5, 1, 0, 0, 0, 0⟩ else if b = 142 then ⟨6, 2, 0, 0, 0, 0⟩ else if b = 143 then ⟨6, 3, 0, 0, 0, 0⟩
  else if b = 32 then ⟨2, 0, 0, 0, 0, 0⟩ else if 33 ≤ b ∧ b ≤ 126 then ⟨3, b, 0, 0, 0, 0⟩ else if 160 ≤ b then ⟨4, b - 128, 0, 0, 0, 0⟩ else ⟨1, b, 0, 0, 0, 0⟩

set_option maxHeartbeats 2000000 in
theorem impl_byteToken (b : Int) (w : World) (h0 : 0 ≤ b) (h1 : b ≤ 65536) : Calls Tryd.prog 138 #[.int .i64 b] w (TokDone (byteTok b) w) := by
  by_cases c1 : b = 15
  · subst c1
    go_enter Tryd.func138, Tryd.ntmps138
    go_wp2
    exact tok_ret (y := ⟨5, 0, 0, 0, 0, 0⟩) rfl rfl rfl (heap_alloc_new _ _) Tryd.underlying155 rfl (by kernel_rfl) rfl (below_one _ _)
  by_cases c2 : b = 14
  · subst c2
    clear c1
    go_enter Tryd.func138, Tryd.ntmps138
    go_wp2
    exact tok_ret (y := ⟨5, 1, 0, 0, 0, 0⟩) rfl rfl rfl (heap_alloc_new _ _) Tryd.underlying155 rfl (by kernel_rfl) rfl (below_one _ _)
  by_cases c3 : b = 142
  · subst c3
    clear c1 c2
    go_enter Tryd.func138, Tryd.ntmps138
    go_wp2
    exact tok_ret (y := ⟨6, 2, 0, 0, 0, 0⟩) rfl rfl rfl (heap_alloc_new _ _) Tryd.underlying155 rfl (by kernel_rfl) rfl (below_one _ _)
  by_cases c4 : b = 143
  · subst c4
    clear c1 c2 c3
    go_enter Tryd.func138, Tryd.ntmps138
    go_wp2
    exact tok_ret (y := ⟨6, 3, 0, 0, 0, 0⟩) rfl rfl rfl (heap_alloc_new _ _) Tryd.underlying155 rfl (by kernel_rfl) rfl (below_one _ _)
  by_cases c5 : b = 32
  · subst c5
    clear c1 c2 c3 c4
    go_enter Tryd.func138, Tryd.ntmps138
    go_wp2
    exact tok_ret (y := ⟨2, 0, 0, 0, 0, 0⟩) rfl rfl rfl (heap_alloc_new _ _) Tryd.underlying155 rfl (by kernel_rfl) rfl (below_one _ _)
  have e1 : (b == 15) = false := by rw [beq_eq_false_iff_ne]; exact c1
  have e2 : (b == 14) = false := by rw [beq_eq_false_iff_ne]; exact c2
  have e3 : (b == 142) = false := by rw [beq_eq_false_iff_ne]; exact c3
  have e4 : (b == 143) = false := by rw [beq_eq_false_iff_ne]; exact c4
  have e5 : (b == 32) = false := by rw [beq_eq_false_iff_ne]; exact c5
  by_cases c6 : 33 ≤ b
  · by_cases c7 : b ≤ 126
    · have HE : Hid (byteTok b = ⟨3, b, 0, 0, 0, 0⟩) := Lib.hid (by rw [byteTok, if_neg c1, if_neg c2, if_neg c3, if_neg c4, if_neg c5, if_pos ⟨c6, c7⟩])
      clear c1 c2 c3 c4 c5
      go_enter Tryd.func138, Tryd.ntmps138
      go_wp2
      exact tok_ret HE.out rfl rfl (heap_alloc_new _ _) Tryd.underlying155 rfl (by kernel_rfl) rfl (below_one _ _)
    · have c8 : 126 < b := by omega
      by_cases c9 : 160 ≤ b
      · have HE : Hid (byteTok b = ⟨4, b - 128, 0, 0, 0, 0⟩) := Lib.hid (by rw [byteTok, if_neg c1, if_neg c2, if_neg c3, if_neg c4, if_neg c5, if_neg (by omega), if_pos c9])
        have u1 : IntKind.i64.wrap (b - 128) = b - 128 := IntWalk.i64_in _ (by omega)
        clear c1 c2 c3 c4 c5 c7
        go_enter Tryd.func138, Tryd.ntmps138
        go_wp2
        exact tok_ret HE.out rfl rfl (heap_alloc_new _ _) Tryd.underlying155 rfl (by kernel_rfl) rfl (below_one _ _)
      · have HE : Hid (byteTok b = ⟨1, b, 0, 0, 0, 0⟩) := Lib.hid (by rw [byteTok, if_neg c1, if_neg c2, if_neg c3, if_neg c4, if_neg c5, if_neg (by omega), if_neg c9])
        have c10 : b < 160 := by omega
        clear c1 c2 c3 c4 c5 c7 c9
        go_enter Tryd.func138, Tryd.ntmps138
        go_wp2
        exact tok_ret HE.out rfl rfl (heap_alloc_new _ _) Tryd.underlying155 rfl (by kernel_rfl) rfl (below_one _ _)
  · have HE : Hid (byteTok b = ⟨1, b, 0, 0, 0, 0⟩) := Lib.hid (by rw [byteTok, if_neg c1, if_neg c2, if_neg c3, if_neg c4, if_neg c5, if_neg (by omega), if_neg (by omega)])
    have c10 : b < 33 := by omega
    clear c1 c2 c3 c4 c5 c6
    go_enter Tryd.func138, Tryd.ntmps138
    go_wp2
    exact tok_ret HE.out rfl rfl (heap_alloc_new _ _) Tryd.underlying155 rfl (by kernel_rfl) rfl (below_one _ _)

end Go.Proofs.YtdckjhobikfggaaDoor

namespace Go.Proofs.YtdckjhobikfggaaDoor
open Go.RowKit

set_option maxHeartbeats 2000000 in
theorem impl_shiftToken (f : Int) (w : World) : Calls Tryd.prog 152 #[.int .i64 f] w (TokDone (plainTok ⟨#[]⟩ f 0 0) w) := by
  by_cases c1 : f = 110
  · subst c1
    go_enter Tryd.func152, Tryd.ntmps152
    go_wp2
    exact tok_ret (y := ⟨5, 2, 0, 0, 0, 0⟩) rfl rfl rfl (heap_alloc_new _ _) Tryd.underlying155 rfl (by kernel_rfl) rfl (below_one _ _)
  by_cases c2 : f = 111
  · subst c2
    clear c1
    go_enter Tryd.func152, Tryd.ntmps152
    go_wp2
    exact tok_ret (y := ⟨5, 3, 0, 0, 0, 0⟩) rfl rfl rfl (heap_alloc_new _ _) Tryd.underlying155 rfl (by kernel_rfl) rfl (below_one _ _)
  by_cases c3 : f = 78
  · subst c3
    clear c1 c2
    go_enter Tryd.func152, Tryd.ntmps152
    go_wp2
    exact tok_ret (y := ⟨6, 2, 0, 0, 0, 0⟩) rfl rfl rfl (heap_alloc_new _ _) Tryd.underlying155 rfl (by kernel_rfl) rfl (below_one _ _)
  by_cases c4 : f = 79
  · subst c4
    clear c1 c2 c3
    go_enter Tryd.func152, Tryd.ntmps152
    go_wp2
    exact tok_ret (y := ⟨6, 3, 0, 0, 0, 0⟩) rfl rfl rfl (heap_alloc_new _ _) Tryd.underlying155 rfl (by kernel_rfl) rfl (below_one _ _)
  have HE : Hid (plainTok ⟨#[]⟩ f 0 0 = ⟨9, 0, 0, 0, 0, 0⟩) := Lib.hid (by
    have a1 : ¬ (f = 78 ∨ f = 79) := by omega
    have a2 : ¬ (f = 110 ∨ f = 111) := by omega
    simp [plainTok, a1, a2])
  have e1 : (f == 110) = false := by rw [beq_eq_false_iff_ne]; exact c1
  have e2 : (f == 111) = false := by rw [beq_eq_false_iff_ne]; exact c2
  have e3 : (f == 78) = false := by rw [beq_eq_false_iff_ne]; exact c3
  have e4 : (f == 79) = false := by rw [beq_eq_false_iff_ne]; exact c4
  clear c1 c2 c3 c4
  go_enter Tryd.func152, Tryd.ntmps152
  go_wp2
  exact tok_ret HE.out rfl rfl (heap_alloc_new _ _) Tryd.underlying155 rfl (by kernel_rfl) rfl (below_one _ _)

set_option maxHeartbeats 2000000 in
set_option maxRecDepth 100000 in
theorem impl_escapeToken (s : ByteArray) (f : Int) (w : World) (hs : s.size ≤ 1048576) : Calls Tryd.prog 150 #[.string s, .int .i64 f] w (TokDone (plainTok s f 0 0) w) := by
  by_cases hm : s = ⟨#[]⟩
  · subst hm
    have hR0 := slot0 w
    have b0 := below_one w (.cells #[.int .i64 0, .int .i64 0, .int .i64 0, .int .i64 0, .int .i64 0, .int .i64 0] 155)
    go_enter Tryd.func150, Tryd.ntmps150
    go_wp2_with fail
    refine (impl_shiftToken f _).mono ?_
    rintro e w3 ⟨rfl, b3⟩
    have hR3 := Lib.hid (hR0.keep b3)
    have b03 : Below w.heap.size w w3 := b0.trans (b3.mono b0.size)
    have ⟨r0, r1, r2, r3, r4, r5⟩ := hR3.out.cells
    have ⟨z0, z1, z2, z3, z4, z5⟩ := hR3.out.thaw
    simp only [zeroTok] at r0 r1 r2 r3 r4 r5
    have hl3 : w.heap.size < w3.heap.size := hR3.out.lt
    generalize plainTok ⟨#[]⟩ f 0 0 = y at *
    clear hR0 b0 b3
    unfold tokV
    go_wp2
    exact tok_ret (y := y) rfl rfl rfl (hR3.out.put y) Tryd.underlying155 rfl (by kernel_rfl) rfl (below_put b03 (Nat.le_refl _) y)
  · have HP := Lib.hid (plainTok_des s f 0 0 hm)
    have hm3 : s.toList.isEmpty = false := by
      rw [ByteArray.toList_eq]
      cases h : s.data.toList with
      | nil => exact absurd (ByteArray.ext (Array.toList_inj.1 h)) hm
      | cons _ _ => rfl
    have HD := Lib.hid (fun w => impl_designated s f w hm hs)
    unfold desV at HD
    clear hm
    generalize desG s = g at *
    generalize desK s f = k at *
    by_cases k0 : k = 0
    · have HE : Hid (plainTok s f 0 0 = ⟨9, 0, 0, 0, 0, 0⟩) := Lib.hid (by rw [HP.out, if_pos (.inl k0)])
      subst k0
      go_enter Tryd.func150, Tryd.ntmps150
      go_wp2_with fail
      refine (HD.out _).mono ?_
      rintro e w3 ⟨rfl, rfl⟩
      go_wp2
      exact tok_ret HE.out rfl rfl (heap_alloc_new _ _) Tryd.underlying155 rfl (by kernel_rfl) rfl (below_one _ _)
    · have e0 : (k == 0) = false := by rw [beq_eq_false_iff_ne]; exact k0
      by_cases f64 : f < 64
      · have HE : Hid (plainTok s f 0 0 = ⟨9, 0, 0, 0, 0, 0⟩) := Lib.hid (by rw [HP.out, if_pos (.inr f64)])
        clear k0
        go_enter Tryd.func150, Tryd.ntmps150
        go_wp2_with fail
        refine (HD.out _).mono ?_
        rintro e w3 ⟨rfl, rfl⟩
        go_wp2
        exact tok_ret HE.out rfl rfl (heap_alloc_new _ _) Tryd.underlying155 rfl (by kernel_rfl) rfl (below_one _ _)
      · have HE : Hid (plainTok s f 0 0 = ⟨7, g, k, f, 0, 0⟩) := Lib.hid (by rw [HP.out, if_neg (by omega)])
        have f64' : 64 ≤ f := by omega
        clear k0 f64
        go_enter Tryd.func150, Tryd.ntmps150
        go_wp2_with fail
        refine (HD.out _).mono ?_
        rintro e w3 ⟨rfl, rfl⟩
        go_wp2
        exact tok_ret HE.out rfl rfl (heap_alloc_new _ _) Tryd.underlying155 rfl (by kernel_rfl) rfl (below_one _ _)

end Go.Proofs.YtdckjhobikfggaaDoor

namespace Go.Proofs.YtdckjhobikfggaaDoor
open Go.RowKit

theorem plainTok_at (m : ByteArray) (f p n : Int) : plainTok m f p n = ⟨(plainTok m f 0 0).k, (plainTok m f 0 0).a, (plainTok m f 0 0).b, (plainTok m f 0 0).c, p, n⟩ := by
  unfold plainTok
  repeat' split
  all_goals rfl
theorem nextTok_byte (s : ByteArray) (k : Nat) (h : ¬ byteAt s k = 27) : nextTok s k = ⟨(byteTok (byteAt s k)).k, (byteTok (byteAt s k)).a, (byteTok (byteAt s k)).b, (byteTok (byteAt s k)).c, k, 1⟩ := by
  rw [nextTok, if_neg h]
  generalize byteAt s k = b
  unfold byteTok inB
  by_cases c1 : b = 15
  · subst c1; rfl
  by_cases c2 : b = 14
  · subst c2; rfl
  by_cases c3 : b = 142
  · subst c3; rfl
  by_cases c4 : b = 143
  · subst c4; rfl
  rw [if_neg (show ¬ (b = 14 ∨ b = 15) by omega), if_neg (show ¬ (b = 142 ∨ b = 143) by omega)]
  simp only [c1, c2, c3, c4, if_false]
  by_cases c5 : b = 32
  · simp [c5]
  by_cases c6 : 33 ≤ b ∧ b ≤ 126
  · simp [c5, c6.1, c6.2]
  by_cases c7 : 160 ≤ b
  · have c8 : ¬ b ≤ 126 := by omega
    simp [c5, c7, c8]
  · have c8 : ¬ (33 ≤ b ∧ b ≤ 126) := c6
    have c9 : (decide (33 ≤ b) && decide (b ≤ 126)) = false := by
      cases h : (decide (33 ≤ b) && decide (b ≤ 126))
      · rfl
      · simp at h; exact absurd h c8
    simp [c5, c7, c8]

set_option maxHeartbeats 4000000 in
set_option maxRecDepth 100000 in
theorem impl_escapeAt (s : ByteArray) (k : Nat) (w : World) (hk : k < s.size) (hs : s.size ≤ 1048576) :
    Calls Tryd.prog 137 #[.string s, .int .i64 k] w (TokDone (escTok s k (s.size - k) (k + 1)) w) := by
  have hR := Lib.hid (slot0 w)
  have b0 := below_one w (.cells #[.int .i64 0, .int .i64 0, .int .i64 0, .int .i64 0, .int .i64 0, .int .i64 0] 155)
  have k0 : (0 : Int) ≤ (k : Int) := by omega
  have u1 : IntKind.i64.wrap ((k : Int) + 1) = (k : Int) + 1 := IntWalk.i64_in _ (by omega)
  go_enter Tryd.func137, Tryd.ntmps137
  go_wp2
  go_step3
  go_wp2
  go_step3
  go_wp2
  generalize w.alloc (.cells #[.int .i64 0, .int .i64 0, .int .i64 0, .int .i64 0, .int .i64 0, .int .i64 0] 155) = w1 at *
  go_loop [5, 6] (fun q i => ∃ j f : Nat, q = .int .i64 8 ∧ k < j ∧ j ≤ s.size ∧ j ≤ k + 4 ∧ i = .int .i64 j ∧ Hid (j + f = s.size + 1) ∧ Hid (escTok s k (s.size - k) (k + 1) = escTok s k f j)) (fun _ i => s.size - (intOf i).toNat)
  case atStart => exact ⟨k + 1, s.size - k, rfl, by omega, by omega, by omega, by simp, Lib.hid (by omega), Lib.hid rfl⟩
  case round =>
    obtain ⟨j, f, rfl, hj, hjs, hj4, rfl, HF, HR⟩ := hrel
    have hl1 : w.heap.size < w1.heap.size := hR.out.lt
    have u6 : IntKind.i64.wrap ((j : Int) - k) = (j : Int) - k := IntWalk.i64_in _ (by omega)
    have u4 : IntKind.i64.wrap ((j : Int) + 1) = (j : Int) + 1 := IntWalk.i64_in _ (by omega)
    have u5 : IntKind.i64.wrap ((j : Int) + 1 - k) = (j : Int) + 1 - k := IntWalk.i64_in _ (by omega)
    by_cases hlt : j < s.size
    · obtain ⟨f, rfl⟩ : ∃ q, f = q + 1 := ⟨f - 1, by have := HF.out; omega⟩
      have hb := byteAt_le s j
      have he := byteAt_eq s j hlt
      have HU : Hid (escTok s k (f + 1) j = if inB (byteAt s j) 32 47 = true then (if j = k + 4 then ⟨9, 0, 0, 0, k, 5⟩ else escTok s k f (j + 1))
        else if inB (byteAt s j) 48 126 = true then plainTok (s.extract (k + 1) j) (byteAt s j) k ((j : Int) + 1 - k) else ⟨9, 0, 0, 0, k, (j : Int) - k⟩) := Lib.hid (by rw [escTok, if_pos hlt])
      rw [he] at hb HU
      clear he
      have v1 : (0 : Int) ≤ (j : Int) := by omega
      have v2 : (j : Int) < (s.size : Int) := by omega
      generalize hbb : (s[j].toNat : Int) = b at *
      by_cases c1 : 48 ≤ b
      · by_cases c2 : b ≤ 126
        · have HE : Hid (escTok s k (s.size - k) (k + 1) = plainTok (s.extract (k + 1) j) b k ((j : Int) + 1 - k)) := Lib.hid (by
            rw [HR.out, HU.out, if_neg (by simp [inB]; omega), if_pos (by simp [inB]; omega)])
          go_wp2_with fail
          refine (impl_escapeToken _ b w1 ?_).mono ?_
          · simp; omega
          rintro e w3 ⟨rfl, b3⟩
          have HP := Lib.hid (plainTok_at (s.extract (k + 1) j) b k ((j : Int) + 1 - k))
          generalize plainTok (s.extract (k + 1) j) b 0 0 = y at *
          have hR3 := Lib.hid (hR.out.keep b3)
          have b03 : Below w.heap.size w w3 := b0.trans (b3.mono b0.size)
          have ⟨r0, r1, r2, r3, r4, r5⟩ := hR3.out.cells
          have ⟨z0, z1, z2, z3, z4, z5⟩ := hR3.out.thaw
          simp only [zeroTok] at r0 r1 r2 r3 r4 r5
          have hl3 : w.heap.size < w3.heap.size := hR3.out.lt
          clear b3
          unfold tokV
          go_wp2
          have hT := (hR3.out.put ⟨y.k, y.a, y.b, y.c, k, (j : Int) + 1 - k⟩)
          exact tok_ret (y := ⟨y.k, y.a, y.b, y.c, k, (j : Int) + 1 - k⟩) (HE.out.trans HP.out) rfl rfl (hT.keep (below_one _ _)) Tryd.underlying155 rfl (by kernel_rfl) rfl ((below_put b03 (Nat.le_refl _) ⟨y.k, y.a, y.b, y.c, k, (j : Int) + 1 - k⟩).alloc (below_put b03 (Nat.le_refl _) ⟨y.k, y.a, y.b, y.c, k, (j : Int) + 1 - k⟩).size _)
        · have HE : Hid (escTok s k (s.size - k) (k + 1) = ⟨9, 0, 0, 0, k, (j : Int) - k⟩) := Lib.hid (by
            rw [HR.out, HU.out, if_neg (by simp [inB]; omega), if_neg (by simp [inB]; omega)])
          have c3 : 126 < b := by omega
          have c4 : 47 < b := by omega
          have ⟨r0, r1, r2, r3, r4, r5⟩ := hR.out.cells
          have ⟨z0, z1, z2, z3, z4, z5⟩ := hR.out.thaw
          simp only [zeroTok] at r0 r1 r2 r3 r4 r5
          clear c2
          go_wp2
          exact tok_ret (y := ⟨9, 0, 0, 0, k, (j : Int) - k⟩) HE.out rfl rfl (hR.out.put ⟨9, 0, 0, 0, k, (j : Int) - k⟩) Tryd.underlying155 rfl (by kernel_rfl) rfl (below_put b0 (Nat.le_refl _) ⟨9, 0, 0, 0, k, (j : Int) - k⟩)
      · have c3 : b < 48 := by omega
        have c4 : b ≤ 47 := by omega
        by_cases c2 : 32 ≤ b
        · by_cases h4 : j = k + 4
          · have HE : Hid (escTok s k (s.size - k) (k + 1) = ⟨9, 0, 0, 0, k, (j : Int) + 1 - k⟩) := Lib.hid (by
              rw [HR.out, HU.out, if_pos (by simp [inB]; omega), if_pos h4, show (j : Int) + 1 - k = 5 by omega])
            have h4' : (3 : Int) < (j : Int) - k := by omega
            have ⟨r0, r1, r2, r3, r4, r5⟩ := hR.out.cells
            have ⟨z0, z1, z2, z3, z4, z5⟩ := hR.out.thaw
            simp only [zeroTok] at r0 r1 r2 r3 r4 r5
            clear h4 c1
            go_wp2
            exact tok_ret (y := ⟨9, 0, 0, 0, k, (j : Int) + 1 - k⟩) HE.out rfl rfl (hR.out.put ⟨9, 0, 0, 0, k, (j : Int) + 1 - k⟩) Tryd.underlying155 rfl (by kernel_rfl) rfl (below_put b0 (Nat.le_refl _) ⟨9, 0, 0, 0, k, (j : Int) + 1 - k⟩)
          · have HE : Hid (escTok s k (s.size - k) (k + 1) = escTok s k f (j + 1)) := Lib.hid (by
              rw [HR.out, HU.out, if_pos (by simp [inB]; omega), if_neg h4])
            have h4' : (j : Int) - k ≤ 3 := by omega
            clear c1
            go_wp2
            go_round
            case rel => exact ⟨j + 1, f, rfl, by omega, by omega, by omega, by go_num, Lib.hid (by have := HF.out; omega), HE⟩
            case measure => simp [intOf]; omega
        · have HE : Hid (escTok s k (s.size - k) (k + 1) = ⟨9, 0, 0, 0, k, (j : Int) - k⟩) := Lib.hid (by
            rw [HR.out, HU.out, if_neg (by simp [inB]; omega), if_neg (by simp [inB]; omega)])
          have c5 : b < 32 := by omega
          have ⟨r0, r1, r2, r3, r4, r5⟩ := hR.out.cells
          have ⟨z0, z1, z2, z3, z4, z5⟩ := hR.out.thaw
          simp only [zeroTok] at r0 r1 r2 r3 r4 r5
          clear c1 c2
          go_wp2
          exact tok_ret (y := ⟨9, 0, 0, 0, k, (j : Int) - k⟩) HE.out rfl rfl (hR.out.put ⟨9, 0, 0, 0, k, (j : Int) - k⟩) Tryd.underlying155 rfl (by kernel_rfl) rfl (below_put b0 (Nat.le_refl _) ⟨9, 0, 0, 0, k, (j : Int) - k⟩)
    · have hje : j = s.size := by omega
      have HE : Hid (escTok s k (s.size - k) (k + 1) = ⟨8, 0, 0, 0, k, (j : Int) - k⟩) := Lib.hid (by
        rw [HR.out, hje]
        cases f with
        | zero => rfl
        | succ f => rw [escTok, if_neg (by omega)])
      have v2 : ¬ (j : Int) < (s.size : Int) := by omega
      have ⟨r0, r1, r2, r3, r4, r5⟩ := hR.out.cells
      have ⟨z0, z1, z2, z3, z4, z5⟩ := hR.out.thaw
      simp only [zeroTok] at r0 r1 r2 r3 r4 r5
      clear hje
      go_wp2
      exact tok_ret (y := ⟨8, 0, 0, 0, k, (j : Int) - k⟩) HE.out rfl rfl (hR.out.put ⟨8, 0, 0, 0, k, (j : Int) - k⟩) Tryd.underlying155 rfl (by kernel_rfl) rfl (below_put b0 (Nat.le_refl _) ⟨8, 0, 0, 0, k, (j : Int) - k⟩)

set_option maxHeartbeats 2000000 in
set_option maxRecDepth 100000 in
theorem impl_tokenAt (s : ByteArray) (k : Nat) (w : World) (hk : k < s.size) (hs : s.size ≤ 1048576) : Calls Tryd.prog 119 #[.string s, .int .i64 k] w (TokDone (nextTok s k) w) := by
  have hR0 := slot0 w
  have b0 := below_one w (.cells #[.int .i64 0, .int .i64 0, .int .i64 0, .int .i64 0, .int .i64 0, .int .i64 0] 155)
  have hb := byteAt_le s k
  have he := byteAt_eq s k hk
  have k0 : (0 : Int) ≤ (k : Int) := by omega
  have k1 : (k : Int) < (s.size : Int) := by omega
  by_cases c1 : byteAt s k = 27
  · have HE : Hid (nextTok s k = escTok s k (s.size - k) (k + 1)) := Lib.hid (by rw [nextTok, if_pos c1])
    have hb2 : (s[k].toNat : Int) = 27 := by omega
    clear he c1 hb
    go_enter Tryd.func119, Tryd.ntmps119
    go_wp2_with fail
    refine (impl_escapeAt s k _ hk hs).mono ?_
    rintro e w3 ⟨rfl, b3⟩
    have hR3 := Lib.hid (hR0.keep b3)
    have b03 : Below w.heap.size w w3 := b0.trans (b3.mono b0.size)
    have ⟨r0, r1, r2, r3, r4, r5⟩ := hR3.out.cells
    have ⟨z0, z1, z2, z3, z4, z5⟩ := hR3.out.thaw
    simp only [zeroTok] at r0 r1 r2 r3 r4 r5
    have hl3 : w.heap.size < w3.heap.size := hR3.out.lt
    generalize escTok s k (s.size - k) (k + 1) = y at *
    clear hR0 b0 b3
    unfold tokV
    go_wp2
    exact tok_ret (y := y) HE.out rfl rfl (hR3.out.put y) Tryd.underlying155 rfl (by kernel_rfl) rfl (below_put b03 (Nat.le_refl _) y)
  · have HE := Lib.hid (nextTok_byte s k c1)
    have e1 : ((s[k].toNat : Int) == 27) = false := by rw [beq_eq_false_iff_ne]; omega
    rw [he] at HE hb
    clear he c1
    go_enter Tryd.func119, Tryd.ntmps119
    go_wp2_with fail
    refine (impl_byteToken (s[k].toNat : Int) _ (by omega) (by omega)).mono ?_
    rintro e w3 ⟨rfl, b3⟩
    have hR3 := Lib.hid (hR0.keep b3)
    have b03 : Below w.heap.size w w3 := b0.trans (b3.mono b0.size)
    have ⟨r0, r1, r2, r3, r4, r5⟩ := hR3.out.cells
    have ⟨z0, z1, z2, z3, z4, z5⟩ := hR3.out.thaw
    simp only [zeroTok] at r0 r1 r2 r3 r4 r5
    have hl3 : w.heap.size < w3.heap.size := hR3.out.lt
    generalize byteTok (s[k].toNat : Int) = y at *
    clear hR0 b0 b3
    unfold tokV
    go_wp2
    have hT := (hR3.out.put ⟨y.k, y.a, y.b, y.c, k, 1⟩)
    exact tok_ret (y := ⟨y.k, y.a, y.b, y.c, k, 1⟩) HE.out rfl rfl (hT.keep (below_one _ _)) Tryd.underlying155 rfl (by kernel_rfl) rfl ((below_put b03 (Nat.le_refl _) ⟨y.k, y.a, y.b, y.c, k, 1⟩).alloc (below_put b03 (Nat.le_refl _) ⟨y.k, y.a, y.b, y.c, k, 1⟩).size _)

end Go.Proofs.YtdckjhobikfggaaDoor

namespace Go.Proofs.YtdckjhobikfggaaDoor
open Go.RowKit

theorem tokField0 (y : Tok) (w : World) : (Instr.field 155 (.agg #[.int .i64 y.k, .int .i64 y.a, .int .i64 y.b, .int .i64 y.c, .int .i64 y.p, .int .i64 y.n]) 0).run Tryd.prog w = .ok (.int .i64 y.k) w := by kernel_rfl

def ctlB (a : Int) : Bool := decide (0 ≤ a) && decide (a < 160) && decide (a ≠ 27) && decide ((byteTok a).k = 1)
theorem ctlB_iff (a : Int) : ctlB a = true ↔ ((0 ≤ a ∧ a ≤ 13) ∨ (16 ≤ a ∧ a ≤ 31 ∧ a ≠ 27) ∨ a = 127 ∨ (128 ≤ a ∧ a ≤ 159 ∧ a ≠ 142 ∧ a ≠ 143)) := by
  simp only [ctlB, Bool.and_eq_true, decide_eq_true_eq]
  unfold byteTok
  repeat' split
  all_goals dsimp only
  all_goals omega

set_option maxHeartbeats 1000000 in
theorem impl_isControl (a : Int) (w : World) : Calls Tryd.prog 140 #[.int .i64 a] w fun e w' => e = .returned (.bool (ctlB a)) ∧ Below w.heap.size w w' := by
  by_cases h0 : a < 0
  · have HE : Hid (ctlB a = false) := Lib.hid (by simp [ctlB]; omega)
    go_enter Tryd.func140, Tryd.ntmps140
    go_wp2
    go_ret
    exact ⟨ret_bool HE.out.symm, Below.refl _ _⟩
  have h0' : 0 ≤ a := by omega
  by_cases h1 : 160 ≤ a
  · have HE : Hid (ctlB a = false) := Lib.hid (by simp [ctlB]; omega)
    clear h0
    go_enter Tryd.func140, Tryd.ntmps140
    go_wp2
    go_ret
    exact ⟨ret_bool HE.out.symm, Below.refl _ _⟩
  have h1' : a < 160 := by omega
  by_cases h2 : a = 27
  · subst h2
    clear h0 h1 h0' h1'
    go_enter Tryd.func140, Tryd.ntmps140
    go_wp2
    go_ret
    exact ⟨ret_bool (by decide), Below.refl _ _⟩
  have HE : Hid (ctlB a = ((byteTok a).k == 1)) := Lib.hid (by
    have q0 : decide (0 ≤ a) = true := by simpa using h0'
    have q1 : decide (a < 160) = true := by simpa using h1'
    have q2 : decide (a ≠ 27) = true := by simpa using h2
    rw [ctlB, q0, q1, q2]
    rfl)
  have e2 : (a != 27) = true := by simpa using h2
  have HF := Lib.hid (tokField0 (byteTok a))
  clear h0 h1 h2
  generalize hy : byteTok a = y at *
  have HY := Lib.hid hy
  clear hy
  have fy := HF.out
  go_enter Tryd.func140, Tryd.ntmps140
  go_wp2_with fail
  refine (impl_byteToken a w h0' (by omega)).mono ?_
  rintro e w1 ⟨rfl, b1⟩
  rw [HY.out]
  unfold tokV
  go_wp2
  go_ret
  exact ⟨ret_bool HE.out.symm, b1⟩

def valB (k a : Int) : Bool :=
  if k = 1 then ctlB a else if k = 3 then inB a 33 126 else if k = 4 then inB a 32 127 else if k = 5 then inB a 0 3 else if k = 6 then decide (a = 2 ∨ a = 3)
  else if k = 2 ∨ k = 8 ∨ k = 9 then decide (a = 0) else false

def fldB (x : Tok) : Bool := if x.k = 7 then inB x.b 1 3 && (regB x.b x.a && (decide (64 ≤ x.c) && decide (x.c ≤ 126))) else valB x.k x.a && (decide (x.b = 0) && decide (x.c = 0))

def lenB (x : Tok) : Bool :=
  if x.k = 5 ∧ 2 ≤ x.a then decide (x.n = 2) else if x.k = 6 then decide (x.n = 1 ∨ x.n = 2) else if x.k = 7 then decide (x.n = 3 ∨ x.n = 4) else if x.k = 8 ∨ x.k = 9 then decide (1 ≤ x.n) && decide (x.n ≤ 65536) else decide (x.n = 1)

def tokOKI (x : Tok) : Bool := decide (0 ≤ x.p) && (decide (x.p ≤ 65536) && (fldB x && lenB x))
theorem regB_iff (kd g : Int) : regB kd g = true ↔ (0 ≤ g ∧ g ≤ 3) ∧ ¬ (kd = 2 ∧ g = 0) := by
  unfold regB inB
  rw [Bool.and_eq_true, Bool.and_eq_true, decide_eq_true_eq, decide_eq_true_eq, Bool.not_eq_true', Bool.and_eq_false_iff, decide_eq_false_iff_not, decide_eq_false_iff_not]
  omega
theorem okI1 (a b c p n : Int) : tokOKI ⟨1, a, b, c, p, n⟩ = true ↔ tokOKP ⟨1, a, b, c, p, n⟩ := by
  show (decide (0 ≤ p) && (decide (p ≤ 65536) && ((ctlB a && (decide (b = 0) && decide (c = 0))) && decide (n = 1)))) = true ↔ _
  unfold tokOKP
  simp only [Bool.and_eq_true, decide_eq_true_eq, ctlB_iff, Int.reduceEq, false_and, true_and, or_false]
  omega
theorem okI2 (a b c p n : Int) : tokOKI ⟨2, a, b, c, p, n⟩ = true ↔ tokOKP ⟨2, a, b, c, p, n⟩ := by
  show (decide (0 ≤ p) && (decide (p ≤ 65536) && ((decide (a = 0) && (decide (b = 0) && decide (c = 0))) && decide (n = 1)))) = true ↔ _
  unfold tokOKP
  simp only [Bool.and_eq_true, decide_eq_true_eq, Int.reduceEq, false_and, true_and, false_or, or_false]
  omega
theorem okI3 (a b c p n : Int) : tokOKI ⟨3, a, b, c, p, n⟩ = true ↔ tokOKP ⟨3, a, b, c, p, n⟩ := by
  show (decide (0 ≤ p) && (decide (p ≤ 65536) && ((inB a 33 126 && (decide (b = 0) && decide (c = 0))) && decide (n = 1)))) = true ↔ _
  unfold tokOKP
  simp only [Bool.and_eq_true, decide_eq_true_eq, inB, Int.reduceEq, false_and, true_and, false_or, or_false]
  omega
theorem okI4 (a b c p n : Int) : tokOKI ⟨4, a, b, c, p, n⟩ = true ↔ tokOKP ⟨4, a, b, c, p, n⟩ := by
  show (decide (0 ≤ p) && (decide (p ≤ 65536) && ((inB a 32 127 && (decide (b = 0) && decide (c = 0))) && decide (n = 1)))) = true ↔ _
  unfold tokOKP
  simp only [Bool.and_eq_true, decide_eq_true_eq, inB, Int.reduceEq, false_and, true_and, false_or, or_false]
  omega
theorem okI6 (a b c p n : Int) : tokOKI ⟨6, a, b, c, p, n⟩ = true ↔ tokOKP ⟨6, a, b, c, p, n⟩ := by
  show (decide (0 ≤ p) && (decide (p ≤ 65536) && ((decide (a = 2 ∨ a = 3) && (decide (b = 0) && decide (c = 0))) && decide (n = 1 ∨ n = 2)))) = true ↔ _
  unfold tokOKP
  simp only [Bool.and_eq_true, decide_eq_true_eq, Int.reduceEq, false_and, true_and, false_or, or_false]
  omega
theorem okI7 (a b c p n : Int) : tokOKI ⟨7, a, b, c, p, n⟩ = true ↔ tokOKP ⟨7, a, b, c, p, n⟩ := by
  show (decide (0 ≤ p) && (decide (p ≤ 65536) && ((inB b 1 3 && (regB b a && (decide (64 ≤ c) && decide (c ≤ 126)))) && decide (n = 3 ∨ n = 4)))) = true ↔ _
  unfold tokOKP
  simp only [Bool.and_eq_true, decide_eq_true_eq, inB, regB_iff, Int.reduceEq, false_and, true_and, false_or, or_false]
  omega
theorem okI8 (a b c p n : Int) : tokOKI ⟨8, a, b, c, p, n⟩ = true ↔ tokOKP ⟨8, a, b, c, p, n⟩ := by
  show (decide (0 ≤ p) && (decide (p ≤ 65536) && ((decide (a = 0) && (decide (b = 0) && decide (c = 0))) && (decide (1 ≤ n) && decide (n ≤ 65536))))) = true ↔ _
  unfold tokOKP
  simp only [Bool.and_eq_true, decide_eq_true_eq, Int.reduceEq, false_and, true_and, false_or, or_false]
  omega
theorem okI9 (a b c p n : Int) : tokOKI ⟨9, a, b, c, p, n⟩ = true ↔ tokOKP ⟨9, a, b, c, p, n⟩ := by
  show (decide (0 ≤ p) && (decide (p ≤ 65536) && ((decide (a = 0) && (decide (b = 0) && decide (c = 0))) && (decide (1 ≤ n) && decide (n ≤ 65536))))) = true ↔ _
  unfold tokOKP
  simp only [Bool.and_eq_true, decide_eq_true_eq, Int.reduceEq, false_and, true_and, false_or]
  omega
theorem okI5 (a b c p n : Int) : tokOKI ⟨5, a, b, c, p, n⟩ = true ↔ tokOKP ⟨5, a, b, c, p, n⟩ := by
  by_cases a2 : 2 ≤ a
  · have hl : lenB ⟨5, a, b, c, p, n⟩ = decide (n = 2) := by rw [lenB, if_pos ⟨rfl, a2⟩]
    show (decide (0 ≤ p) && (decide (p ≤ 65536) && ((inB a 0 3 && (decide (b = 0) && decide (c = 0))) && lenB ⟨5, a, b, c, p, n⟩))) = true ↔ _
    rw [hl]
    unfold tokOKP
    simp only [Bool.and_eq_true, decide_eq_true_eq, inB, Int.reduceEq, false_and, true_and, false_or, or_false]
    omega
  · have hl : lenB ⟨5, a, b, c, p, n⟩ = decide (n = 1) := by rw [lenB, if_neg (fun h => a2 h.2)]; rfl
    show (decide (0 ≤ p) && (decide (p ≤ 65536) && ((inB a 0 3 && (decide (b = 0) && decide (c = 0))) && lenB ⟨5, a, b, c, p, n⟩))) = true ↔ _
    rw [hl]
    unfold tokOKP
    simp only [Bool.and_eq_true, decide_eq_true_eq, inB, Int.reduceEq, false_and, true_and, false_or, or_false]
    omega
theorem tokOKI_eq (x : Tok) : tokOKI x = tokOKB x := by
  refine tokOKB_of ?_
  obtain ⟨k, a, b, c, p, n⟩ := x
  by_cases hk : k < 1 ∨ 9 < k
  · have h1 : valB k a = false := by
      rw [valB, if_neg (by omega), if_neg (by omega), if_neg (by omega), if_neg (by omega), if_neg (by omega), if_neg (by omega)]
    have h2 : fldB ⟨k, a, b, c, p, n⟩ = false := by
      rw [fldB, if_neg (by dsimp only; omega)]
      dsimp only
      rw [h1]
      rfl
    unfold tokOKI
    rw [h2]
    unfold tokOKP
    constructor
    · intro h; simp at h
    · intro h; exfalso; dsimp only at h; omega
  · have : k = 1 ∨ k = 2 ∨ k = 3 ∨ k = 4 ∨ k = 5 ∨ k = 6 ∨ k = 7 ∨ k = 8 ∨ k = 9 := by omega
    rcases this with rfl | rfl | rfl | rfl | rfl | rfl | rfl | rfl | rfl
    · exact okI1 a b c p n
    · exact okI2 a b c p n
    · exact okI3 a b c p n
    · exact okI4 a b c p n
    · exact okI5 a b c p n
    · exact okI6 a b c p n
    · exact okI7 a b c p n
    · exact okI8 a b c p n
    · exact okI9 a b c p n

end Go.Proofs.YtdckjhobikfggaaDoor

namespace Go.Proofs.YtdckjhobikfggaaDoor
open Go.RowKit Go.Sort

/-- A space in a state: a code of a set of 96, or a character of its own. -/
def spaceP (x : St) : Stp := if x.d = 0 ∧ setKind (setAt x false) = 2 ∧ setAt x false ≠ 0 then graphic x 32 false else if pendB x = true then ⟨x, -1, 13⟩ else ⟨x, 32, 0⟩
theorem space_eq {x : St} (hx : stOKB x = true) (t : Tok) (ht : t.k = 2) : stepT x t = spaceP x := by
  obtain ⟨h1, h2, h3⟩ := stOK_parts hx
  have hs := (head_parts h2).2
  have hl := lead_range h3
  have hr := setAt_range h1 false
  unfold stepT
  rw [if_neg (by omega), if_neg (by omega)]
  unfold spaceP
  have hw : ∀ n, 0 ≤ stGet x n → (wideB x n = true ↔ setKind (stGet x n) = 2 ∧ stGet x n ≠ 0) := by
    intro n hn
    unfold wideB
    rw [Bool.and_eq_true, decide_eq_true_eq, decide_eq_true_eq]
    constructor
    · intro ⟨a, b⟩; exact ⟨b, by omega⟩
    · intro ⟨a, b⟩; exact ⟨by omega, a⟩
  by_cases hp : pendB x = true
  · rw [if_pos hp]
    by_cases hd : x.d = 0
    · have hs2 : 0 < x.s := by
        unfold pendB at hp
        rw [Bool.or_eq_true, decide_eq_true_eq, decide_eq_true_eq] at hp
        omega
      have he : setAt x false = stGet x x.s := by unfold setAt sideOf; rw [if_pos hs2]
      rw [he] at hr ⊢
      have := hw x.s hr.1
      by_cases hc : wideB x x.s = true
      · rw [if_pos ⟨ht, hd, hc⟩, if_pos ⟨hd, this.1 hc⟩]
      · rw [if_neg (fun h => hc h.2.2), if_neg (fun h => hc (this.2 h.2)), if_pos hp]
    · rw [if_neg (fun h => hd h.2.1), if_neg (fun h => hd h.1), if_pos hp]
  · rw [if_neg hp]
    have ⟨s0, d0⟩ := calm_parts hx (by simpa using hp)
    have he : setAt x false = stGet x x.l := by unfold setAt sideOf; rw [if_neg (by omega), if_neg (by decide)]
    rw [he] at hr ⊢
    have := hw x.l hr.1
    unfold calm
    rw [if_neg (by omega), if_pos ht]
    by_cases hc : wideB x x.l = true
    · rw [if_pos hc, if_pos ⟨d0, this.1 hc⟩]
    · rw [if_neg hc, if_neg (fun h => hc (this.2 h.2)), if_neg hp]

theorem mvDone_same {x : St} {p : Stp} {b : Nat} {w w' : World} {r : Int} (h : p = ⟨x, r, 0⟩) (hr : 0 ≤ r) (hm : MAt w b x) (hb : Below w.heap.size w w') : MvDone p b w (.returned (.tuple #[.int .i64 r, .bool true, .int .i64 0])) w' :=
  ⟨by rw [mv_some h hr], by rw [h]; exact hm.keep hb, only_below hm.lt hb⟩
theorem MvDone.from {p : Stp} {b : Nat} {w w1 w2 : World} {e : Ending} (h : MvDone p b w1 e w2) (hb : b < w.heap.size) (hw : Below w.heap.size w w1) : MvDone p b w e w2 :=
  ⟨h.1, h.2.1, (only_below hb hw).trans h.2.2⟩

/-- A token changes the machine, and a code is told. -/
def ChDone (p : Stp) (g : Nat) (w : World) (e : Ending) (w' : World) : Prop := e = .returned (.int .i64 p.c) ∧ MAt w' g p.y ∧ Only g w w'
theorem chDone_none {x : St} {p : Stp} {g : Nat} {w w' : World} {c : Int} (h : p = ⟨x, -1, c⟩) (hm : MAt w g x) (hb : Below w.heap.size w w') : ChDone p g w (.returned (.int .i64 c)) w' :=
  ⟨by rw [h], by rw [h]; exact hm.keep hb, only_below hm.lt hb⟩
theorem ChDone.drew {p : Stp} {g : Nat} {w w' : World} {e : Ending} (h : ChDone p g w e w') : ChDone p g w e w'.drew := ⟨h.1, h.2.1, h.2.2.drewN 1⟩
theorem chDone_set {x y : St} {p : Stp} {g j : Nat} {v : Int} {w : World} {o : Obj} (h : p = ⟨y, -1, 0⟩) (hm : MAt w g x) (hy : MAt (w.setCell ⟨g, j, none⟩ (.int .i64 v)) g y) : ChDone p g w (.returned (.int .i64 0)) ((w.setCell ⟨g, j, none⟩ (.int .i64 v)).alloc o) :=
  ⟨by rw [h], by rw [h]; exact hy.keep (below_one _ _), (Only.set g j w _).alloc hm.lt o⟩


end Go.Proofs.YtdckjhobikfggaaDoor

namespace Go.Proofs.YtdckjhobikfggaaDoor
open Go.RowKit Go.Sort

/-- What changes the machine tells no character. -/
theorem calm_none {x : St} {t : Tok} (h : 5 ≤ t.k) : (calm x t).r = -1 := by
  unfold calm
  rw [if_neg (by omega), if_neg (by omega)]
  repeat' split
  all_goals rfl
theorem MvDone.ofCh {q : Stp} {g : Nat} {w w' : World} {c : Int} (hr : q.r = -1) (hc : c = q.c) (hm : MAt w' g q.y) (ho : Only g w w') : MvDone q g w (.returned (.tuple #[.int .i64 0, .bool false, .int .i64 c])) w' :=
  ⟨by rw [hc]; unfold mvV toldR toldB; rw [hr]; rfl, hm, ho⟩

end Go.Proofs.YtdckjhobikfggaaDoor

namespace Go.Proofs.YtdckjhobikfggaaDoor
open Go.RowKit Go.Sort

/-- What a reading holds beside the machine. -/
structure RK where
  n : Int
  m : Value
  l : Value

/-- A reading in block b. -/
def RdAt (w : World) (b : Nat) (n : Int) (m : Value) (x : St) (l : Value) : Prop := w.heap[b]? = some (.cells #[.int .i64 n, .string (prName n), .string (prHead n), .slice none 0 0, .bool (prRight n), .bool (prShifts n), .bool (prSingle n), .bool (prReset n), .bool (prClear n), m, .int .i64 x.g0, .int .i64 x.g1, .int .i64 x.g2, .int .i64 x.g3, .int .i64 x.l, .int .i64 x.s, .int .i64 x.d, l] 122)
/-- The same, for what the machine's methods say. -/
def MRt (κ : RK) (w : World) (b : Nat) (x : St) : Prop := RdAt w b κ.n κ.m x κ.l
theorem RdAt.lt {w : World} {g : Nat} {n : Int} {m l : Value} {x : St} (h : RdAt w g n m x l) : g < w.heap.size := (Array.getElem?_eq_some_iff.1 h).1
theorem RdAt.keep {w w' : World} {g : Nat} {n : Int} {m l : Value} {x : St} (h : RdAt w g n m x l) (b : Below w.heap.size w w') : RdAt w' g n m x l := (b.block g h.lt).trans h
theorem RdAt.below {w w' : World} {g B : Nat} {n : Int} {m l : Value} {x : St} (h : RdAt w g n m x l) (b : Below B w w') (hB : g < B) : RdAt w' g n m x l := (b.block g hB).trans h
theorem RdAt.cells {w : World} {g : Nat} {n : Int} {m l : Value} {x : St} (h : RdAt w g n m x l) : w.cell? ⟨g, 0, none⟩ = some (.int .i64 n) ∧ w.cell? ⟨g, 1, none⟩ = some (.string (prName n)) ∧ w.cell? ⟨g, 2, none⟩ = some (.string (prHead n)) ∧ w.cell? ⟨g, 4, none⟩ = some (.bool (prRight n)) ∧ w.cell? ⟨g, 5, none⟩ = some (.bool (prShifts n)) ∧ w.cell? ⟨g, 6, none⟩ = some (.bool (prSingle n)) ∧ w.cell? ⟨g, 7, none⟩ = some (.bool (prReset n)) ∧ w.cell? ⟨g, 8, none⟩ = some (.bool (prClear n)) ∧ w.cell? ⟨g, 9, none⟩ = some m ∧ w.cell? ⟨g, 17, none⟩ = some l := by
  refine ⟨?_, ?_, ?_, ?_, ?_, ?_, ?_, ?_, ?_, ?_⟩ <;> (rw [cell_of_row _ _ _ _ _ _ h]; rfl)
theorem RdAt.frozen {w : World} {g : Nat} {n : Int} {m l : Value} {x : St} (h : RdAt w g n m x l) (i : Nat) : w.frozen? ⟨g, i, none⟩ = false := frozen_of_row w _ i _ _ h
theorem MRt.lt {κ : RK} {w : World} {g : Nat} {x : St} (h : MRt κ w g x) : g < w.heap.size := RdAt.lt h
theorem MRt.keep {κ : RK} {w w' : World} {g : Nat} {x : St} (h : MRt κ w g x) (b : Below w.heap.size w w') : MRt κ w' g x := RdAt.keep h b
theorem MRt.below {κ : RK} {w w' : World} {g B : Nat} {x : St} (h : MRt κ w g x) (b : Below B w w') (hB : g < B) : MRt κ w' g x := RdAt.below h b hB
theorem MRt.cells {κ : RK} {w : World} {g : Nat} {x : St} (h : MRt κ w g x) : w.cell? ⟨g, 10, none⟩ = some (.int .i64 x.g0) ∧ w.cell? ⟨g, 11, none⟩ = some (.int .i64 x.g1) ∧ w.cell? ⟨g, 12, none⟩ = some (.int .i64 x.g2) ∧ w.cell? ⟨g, 13, none⟩ = some (.int .i64 x.g3) ∧ w.cell? ⟨g, 14, none⟩ = some (.int .i64 x.l) ∧ w.cell? ⟨g, 15, none⟩ = some (.int .i64 x.s) ∧ w.cell? ⟨g, 16, none⟩ = some (.int .i64 x.d) := by
  refine ⟨?_, ?_, ?_, ?_, ?_, ?_, ?_⟩ <;> (rw [cell_of_row _ _ _ _ _ _ h]; rfl)
theorem MRt.thaw {κ : RK} {w : World} {g : Nat} {x : St} (h : MRt κ w g x) : w.frozen? ⟨g, 10, none⟩ = false ∧ w.frozen? ⟨g, 11, none⟩ = false ∧ w.frozen? ⟨g, 12, none⟩ = false ∧ w.frozen? ⟨g, 13, none⟩ = false ∧ w.frozen? ⟨g, 14, none⟩ = false ∧ w.frozen? ⟨g, 15, none⟩ = false ∧ w.frozen? ⟨g, 16, none⟩ = false :=
  ⟨frozen_of_row w _ 10 _ _ h, frozen_of_row w _ 11 _ _ h, frozen_of_row w _ 12 _ _ h, frozen_of_row w _ 13 _ _ h, frozen_of_row w _ 14 _ _ h, frozen_of_row w _ 15 _ _ h, frozen_of_row w _ 16 _ _ h⟩

end Go.Proofs.YtdckjhobikfggaaDoor

namespace Go.Proofs.YtdckjhobikfggaaDoor
open Go.RowKit Go.Sort
variable {κ : RK}

theorem impl_pendingR (x : St) (b : Nat) (w : World) (h : MRt κ w b x) : Calls Tryd.prog 120 #[.pointer (some ⟨b, 10, none⟩)] w fun e w' => e = .returned (.bool (pendI x)) ∧ w = w' := by
  have ⟨y0, y1, y2, y3, y4, y5, y6⟩ := h.cells
  clear h
  by_cases hs : x.s = 0
  · have HE : Hid (pendI x = (x.d != 0)) := Lib.hid (by simp [pendI, hs])
    have es : (x.s != 0) = false := by simp [hs]
    go_enter Tryd.func120, Tryd.ntmps120
    go_wp2
    go_ret
    exact ⟨ret_bool HE.out.symm, rfl⟩
  · have HE : Hid (pendI x = true) := Lib.hid (by simp [pendI, hs])
    have es : (x.s != 0) = true := by simpa using hs
    go_enter Tryd.func120, Tryd.ntmps120
    go_wp2
    go_ret
    exact ⟨ret_bool HE.out.symm, rfl⟩

set_option maxHeartbeats 1000000 in
theorem impl_setForR (x : St) (b : Nat) (half : Int) (w : World) (h : MRt κ w b x) (hh : headOK x = true) : Calls Tryd.prog 148 #[.pointer (some ⟨b, 10, none⟩), .int .i64 half] w fun e w' => e = .returned (.int .i64 (setAt x (half == 128))) ∧ Below w.heap.size w w' := by
  have ⟨y0, y1, y2, y3, y4, y5, y6⟩ := h.cells
  clear h
  unfold headOK at hh
  rw [Bool.and_eq_true, Bool.or_eq_true, decide_eq_true_eq] at hh
  have ⟨l0, l3⟩ := inB_true hh.1
  have hs : x.s = 0 ∨ x.s = 2 ∨ x.s = 3 := by
    rcases hh.2 with h2 | h2
    · exact .inl h2
    · have := inB_true h2; omega
  have hl : x.l = 0 ∨ x.l = 1 ∨ x.l = 2 ∨ x.l = 3 := by omega
  clear hh l0 l3
  rcases hs with hs | hs | hs
  · rw [hs] at y5
    cases h8 : (half == 128)
    · rcases hl with hl | hl | hl | hl
      · rw [hl] at y4
        have HE : Hid (setAt x false = x.g0) := Lib.hid (by unfold setAt sideOf; rw [hs, hl, if_neg (by decide), if_neg (by decide)]; rfl)
        rw [HE.out]
        clear hs hl
        go_enter Tryd.func148, Tryd.ntmps148
        go_wp2
        go_quiet (fail)
        go_wp2
        go_ret
        exact ⟨rfl, below_drewN (Below.refl _ _) _⟩
      · rw [hl] at y4
        have HE : Hid (setAt x false = x.g1) := Lib.hid (by unfold setAt sideOf; rw [hs, hl, if_neg (by decide), if_neg (by decide)]; rfl)
        rw [HE.out]
        clear hs hl
        go_enter Tryd.func148, Tryd.ntmps148
        go_wp2
        go_quiet (fail)
        go_wp2
        go_ret
        exact ⟨rfl, below_drewN (Below.refl _ _) _⟩
      · rw [hl] at y4
        have HE : Hid (setAt x false = x.g2) := Lib.hid (by unfold setAt sideOf; rw [hs, hl, if_neg (by decide), if_neg (by decide)]; rfl)
        rw [HE.out]
        clear hs hl
        go_enter Tryd.func148, Tryd.ntmps148
        go_wp2
        go_quiet (fail)
        go_wp2
        go_ret
        exact ⟨rfl, below_drewN (Below.refl _ _) _⟩
      · rw [hl] at y4
        have HE : Hid (setAt x false = x.g3) := Lib.hid (by unfold setAt sideOf; rw [hs, hl, if_neg (by decide), if_neg (by decide)]; rfl)
        rw [HE.out]
        clear hs hl
        go_enter Tryd.func148, Tryd.ntmps148
        go_wp2
        go_quiet (fail)
        go_wp2
        go_ret
        exact ⟨rfl, below_drewN (Below.refl _ _) _⟩
    · have HE : Hid (setAt x true = x.g1) := Lib.hid (by unfold setAt sideOf; rw [hs, if_neg (by decide), if_pos rfl]; rfl)
      rw [HE.out]
      go_enter Tryd.func148, Tryd.ntmps148
      go_wp2
      go_ret
      exact ⟨rfl, Below.refl _ _⟩
  · rw [hs] at y5
    have HE : Hid (setAt x (half == 128) = x.g2) := Lib.hid (by unfold setAt sideOf; rw [hs, if_pos (by decide)]; rfl)
    rw [HE.out]
    go_enter Tryd.func148, Tryd.ntmps148
    go_wp2
    go_quiet (fail)
    go_wp2
    go_ret
    exact ⟨rfl, below_drewN (Below.refl _ _) _⟩
  · rw [hs] at y5
    have HE : Hid (setAt x (half == 128) = x.g3) := Lib.hid (by unfold setAt sideOf; rw [hs, if_pos (by decide)]; rfl)
    rw [HE.out]
    go_enter Tryd.func148, Tryd.ntmps148
    go_wp2
    go_quiet (fail)
    go_wp2
    go_ret
    exact ⟨rfl, below_drewN (Below.refl _ _) _⟩

def MvDoneR (κ : RK) (p : Stp) (b : Nat) (w : World) (e : Ending) (w' : World) : Prop := e = .returned (mvV p) ∧ MRt κ w' b p.y ∧ Only b w w'

theorem mvDone_noneR {x : St} {p : Stp} {b : Nat} {w w' : World} {c : Int} (h : p = ⟨x, -1, c⟩) (hm : MRt κ w b x) (hb : Below w.heap.size w w') : MvDoneR κ p b w (.returned (.tuple #[.int .i64 0, .bool false, .int .i64 c])) w' :=
  ⟨by rw [mv_none h], by rw [h]; exact hm.keep hb, only_below hm.lt hb⟩

theorem mvDone_goneR {x : St} {p : Stp} {b : Nat} {w w' : World} {rr : Int} (h : p = ⟨⟨x.g0, x.g1, x.g2, x.g3, x.l, 0, 0⟩, rr, 0⟩) (hr : 0 ≤ rr) (hm : MRt κ w b x) (hb : Below w.heap.size w w') : MvDoneR κ p b w (.returned (.tuple #[.int .i64 rr, .bool true, .int .i64 0])) ((w'.setCell ⟨b, 15, none⟩ (.int .i64 0)).setCell ⟨b, 16, none⟩ (.int .i64 0)) :=
  ⟨by rw [mv_some h hr], by rw [h]; exact heap_setCell_same _ _ 16 _ _ (.int .i64 0) (heap_setCell_same _ _ 15 _ _ (.int .i64 0) (hm.keep hb)), ((only_below hm.lt hb).trans (Only.set b 15 _ _)).trans (Only.set b 16 _ _)⟩

theorem mvDone_leadR {x : St} {p : Stp} {b : Nat} {w w' : World} {v : Int} (h : p = ⟨⟨x.g0, x.g1, x.g2, x.g3, x.l, x.s, v⟩, -1, 0⟩) (hm : MRt κ w b x) (hb : Below w.heap.size w w') : MvDoneR κ p b w (.returned (.tuple #[.int .i64 0, .bool false, .int .i64 0])) (w'.setCell ⟨b, 16, none⟩ (.int .i64 v)) :=
  ⟨by rw [mv_none h], by rw [h]; exact heap_setCell_same _ _ 16 _ _ (.int .i64 v) (hm.keep hb), (only_below hm.lt hb).trans (Only.set b 16 _ _)⟩

end Go.Proofs.YtdckjhobikfggaaDoor

namespace Go.Proofs.YtdckjhobikfggaaDoor
open Go.RowKit

theorem GuAt.new (w : World) (n : Int) (m : Value) : GuAt (w.alloc (.cells #[.int .i64 n, .string (prName n), .string (prHead n), .slice none 0 0, .bool (prRight n), .bool (prShifts n), .bool (prSingle n), .bool (prReset n), .bool (prClear n), m] 116)) w.heap.size n m := heap_alloc_new _ _

/-- What endLine leaves: the code, the machine. -/
def elC (n : Int) (x : St) : Int := if restB n x = true then 0 else 14
def elX (n : Int) (x : St) : St := if restB n x = true then lineX n x else x
def ElDone (n : Int) (x : St) (b : Nat) (w : World) (e : Ending) (w' : World) : Prop := e = .returned (.int .i64 (elC n x)) ∧ MAt w' b (elX n x) ∧ Only b w w'
theorem elDone {n : Int} {x y : St} {b : Nat} {w w' : World} {c : Int} (hc : elC n x = c) (hy : elX n x = y) (hm : MAt w' b y) (ho : Only b w w') : ElDone n x b w (.returned (.int .i64 c)) w' := ⟨by rw [hc], by rw [hy]; exact hm, ho⟩
theorem putM_row {w : World} {g : Nat} {x : St} (h : MAt w g x) (y : St) : MAt (putSt w g y) g y := by
  have k0 : (w.setCell ⟨g, 0, none⟩ (.int .i64 y.g0)).heap[g]? = some (.cells #[.int .i64 y.g0, .int .i64 x.g1, .int .i64 x.g2, .int .i64 x.g3, .int .i64 x.l, .int .i64 x.s, .int .i64 x.d] 120) := heap_setCell_same _ g 0 _ _ (.int .i64 y.g0) h
  have k1 : ((w.setCell ⟨g, 0, none⟩ (.int .i64 y.g0)).setCell ⟨g, 1, none⟩ (.int .i64 y.g1)).heap[g]? = some (.cells #[.int .i64 y.g0, .int .i64 y.g1, .int .i64 x.g2, .int .i64 x.g3, .int .i64 x.l, .int .i64 x.s, .int .i64 x.d] 120) := heap_setCell_same _ g 1 _ _ (.int .i64 y.g1) k0
  have k2 : (((w.setCell ⟨g, 0, none⟩ (.int .i64 y.g0)).setCell ⟨g, 1, none⟩ (.int .i64 y.g1)).setCell ⟨g, 2, none⟩ (.int .i64 y.g2)).heap[g]? = some (.cells #[.int .i64 y.g0, .int .i64 y.g1, .int .i64 y.g2, .int .i64 x.g3, .int .i64 x.l, .int .i64 x.s, .int .i64 x.d] 120) := heap_setCell_same _ g 2 _ _ (.int .i64 y.g2) k1
  have k3 : ((((w.setCell ⟨g, 0, none⟩ (.int .i64 y.g0)).setCell ⟨g, 1, none⟩ (.int .i64 y.g1)).setCell ⟨g, 2, none⟩ (.int .i64 y.g2)).setCell ⟨g, 3, none⟩ (.int .i64 y.g3)).heap[g]? = some (.cells #[.int .i64 y.g0, .int .i64 y.g1, .int .i64 y.g2, .int .i64 y.g3, .int .i64 x.l, .int .i64 x.s, .int .i64 x.d] 120) := heap_setCell_same _ g 3 _ _ (.int .i64 y.g3) k2
  have k4 : (((((w.setCell ⟨g, 0, none⟩ (.int .i64 y.g0)).setCell ⟨g, 1, none⟩ (.int .i64 y.g1)).setCell ⟨g, 2, none⟩ (.int .i64 y.g2)).setCell ⟨g, 3, none⟩ (.int .i64 y.g3)).setCell ⟨g, 4, none⟩ (.int .i64 y.l)).heap[g]? = some (.cells #[.int .i64 y.g0, .int .i64 y.g1, .int .i64 y.g2, .int .i64 y.g3, .int .i64 y.l, .int .i64 x.s, .int .i64 x.d] 120) := heap_setCell_same _ g 4 _ _ (.int .i64 y.l) k3
  have k5 : ((((((w.setCell ⟨g, 0, none⟩ (.int .i64 y.g0)).setCell ⟨g, 1, none⟩ (.int .i64 y.g1)).setCell ⟨g, 2, none⟩ (.int .i64 y.g2)).setCell ⟨g, 3, none⟩ (.int .i64 y.g3)).setCell ⟨g, 4, none⟩ (.int .i64 y.l)).setCell ⟨g, 5, none⟩ (.int .i64 y.s)).heap[g]? = some (.cells #[.int .i64 y.g0, .int .i64 y.g1, .int .i64 y.g2, .int .i64 y.g3, .int .i64 y.l, .int .i64 y.s, .int .i64 x.d] 120) := heap_setCell_same _ g 5 _ _ (.int .i64 y.s) k4
  have k6 : (((((((w.setCell ⟨g, 0, none⟩ (.int .i64 y.g0)).setCell ⟨g, 1, none⟩ (.int .i64 y.g1)).setCell ⟨g, 2, none⟩ (.int .i64 y.g2)).setCell ⟨g, 3, none⟩ (.int .i64 y.g3)).setCell ⟨g, 4, none⟩ (.int .i64 y.l)).setCell ⟨g, 5, none⟩ (.int .i64 y.s)).setCell ⟨g, 6, none⟩ (.int .i64 y.d)).heap[g]? = some (.cells #[.int .i64 y.g0, .int .i64 y.g1, .int .i64 y.g2, .int .i64 y.g3, .int .i64 y.l, .int .i64 y.s, .int .i64 y.d] 120) := heap_setCell_same _ g 6 _ _ (.int .i64 y.d) k5
  exact k6
theorem only_putSt (b : Nat) (w : World) (y : St) : Only b w (putSt w b y) := ((((((Only.set b 0 w _).trans (Only.set b 1 _ _)).trans (Only.set b 2 _ _)).trans (Only.set b 3 _ _)).trans (Only.set b 4 _ _)).trans (Only.set b 5 _ _)).trans (Only.set b 6 _ _)

theorem elC_le {n : Int} {x : St} (h1 : proB n = true) (h2 : stOKB x = true) : leC n x = elC n x ∧ leX n x = elX n x := by
  unfold leX leC elC elX
  rw [h1, h2]
  cases restB n x <;> simp

end Go.Proofs.YtdckjhobikfggaaDoor

namespace Go.Proofs.YtdckjhobikfggaaDoor
open Go.RowKit Go.MapKept Go.ChangeMaps

/-- A place as a key. -/
def plK (p r : Int) : Value := .agg #[.int .i64 p, .int .i64 r]

theorem equal_place (p r p' r' : Int) (w : World) : (Op.equal 190 (plK p r) (plK p' r')).run Tryd.prog w = .ok ((p == p') && (r == r')) w := by
  have he := Tryd.underlying3
  have q : ∀ (d : Nat) (x y : Int), (Op.equalIn (d + 1) 3 (.int .i64 x) (.int .i64 y)).run Tryd.prog w = .ok (x == y) w := fun d x y => run_equalIn_int w d 3 .i64 .i64 x y he
  unfold Op.equal plK
  rw [show Op.maxDepth = 9998 + 1 + 1 from rfl]
  go_simp
  by_cases h1 : p = p'
  · by_cases h2 : r = r'
    · simp [h1, h2]
    · simp [h1, h2]
  · simp [h1]

theorem check_place (e : Bool) (p r : Int) (w : World) : (Instr.checkKey e 10000 190 (plK p r)).run Tryd.prog w = .ok () w := by
  kernel_rfl

/-- The entries of a map of places, from number k on. -/
def plE : Nat → List ((Int × Int) × Value) → List MapEntry
  | _, [] => []
  | k, e :: t => ⟨plK e.1.1 e.1.2, e.2, k⟩ :: plE (k + 1) t
/-- Where a place's entry stands, and its value. -/
def plIdx (p r : Int) : Nat → List ((Int × Int) × Value) → Option (Nat × Value)
  | _, [] => none
  | i, e :: t => if ((p == e.1.1) && (r == e.1.2)) = true then some (i, e.2) else plIdx p r (i + 1) t
theorem plE_snoc (p r : Int) (v : Value) : ∀ (es : List ((Int × Int) × Value)) (k : Nat), plE k (es ++ [((p, r), v)]) = plE k es ++ [⟨plK p r, v, k + es.length⟩]
  | [], k => by simp [plE]
  | e :: t, k => by simp [plE, plE_snoc p r v t (k + 1)]; omega

theorem find_asking (p r : Int) (w : World) : ∀ (es : List ((Int × Int) × Value)) (k i : Nat), (Instr.findAsking 190 (plK p r) (plE k es) i).run Tryd.prog w = .ok (plIdx p r i es) w
  | [], k, i => rfl
  | e :: t, k, i => by
    have h := equal_place p r e.1.1 e.1.2 w
    unfold plE Instr.findAsking plIdx
    simp only [Sem.run_bind, h, Result.andThen_ok]
    split
    · rfl
    · exact find_asking p r w t (k + 1) (i + 1)

theorem find_key (p r : Int) (w : World) (es : List ((Int × Int) × Value)) : (Instr.findKey 190 (plK p r) (plE 0 es)).run Tryd.prog w = .ok (plIdx p r 0 es) w := by
  have hu := run_underlying Tryd.underlying190 w
  unfold Instr.findKey
  simp only [Sem.run_bind, hu, Result.andThen_ok]
  cases es with
  | nil => rfl
  | cons e t => exact find_asking p r w (e :: t) 0 0

/-- The map's block. -/
def plO (es : List ((Int × Int) × Value)) : Obj := .map (plE 0 es).toArray es.length

theorem insert_place {w : World} {b : Nat} {es : List ((Int × Int) × Value)} (p r : Int) (v : Value) (hb : w.heap[b]? = some (plO es)) (hn : plIdx p r 0 es = none) :
    (Instr.mapUpdate 114 (.map (some b)) (plK p r) v).run Tryd.prog w = .ok () (setBlock w b (plO (es ++ [((p, r), v)]))) := by
  have hu := run_underlying Tryd.underlying114 w
  have hg := MapKept.run_getObj_map (P := Tryd.prog) hb
  have hc := check_place false p r w
  have hf := find_key p r w es
  rw [hn] at hf
  have hs := MapKept.run_setObj_map (P := Tryd.prog) (plO (es ++ [((p, r), v)])) hb
  have e1 : plO (es ++ [((p, r), v)]) = .map ((plE 0 es).toArray.push ⟨plK p r, v, es.length⟩) (es.length + 1) := by
    unfold plO
    rw [plE_snoc]
    simp
  rw [e1] at hs ⊢
  unfold Instr.mapUpdate
  simp only [Sem.run_bind, hu, Result.andThen_ok, hg, hc, hf]
  exact hs

theorem lookup_place {w : World} {b : Nat} {es : List ((Int × Int) × Value)} (p r : Int) (hb : w.heap[b]? = some (plO es)) :
    (Instr.lookup 114 (.map (some b)) (plK p r) false).run Tryd.prog w = .ok (match plIdx p r 0 es with | some q => q.2 | none => .slice none 0 0) w := by
  have hu := run_underlying Tryd.underlying114 w
  have hg := MapKept.run_getObj_map (P := Tryd.prog) hb
  have hc := fun e => check_place e p r w
  have hf := find_key p r w es
  have hz : (zeroValue 23).run Tryd.prog w = .ok (.slice none 0 0) w := by kernel_rfl
  unfold Instr.lookup
  simp only [Sem.run_bind, hu, Result.andThen_ok, hg, Sem.run_pure, hc, hf]
  cases plIdx p r 0 es with
  | none => simp only [Sem.run_bind, hz, Result.andThen_ok, Sem.run_pure]; rfl
  | some q => rfl

/-- 'map[place][]int{k: v}' at a new key. -/
theorem wpList_insert_place (w : World) {ops : Array Oper} {rest : List Oper} {o : Oper} {a : Act} {Q : Exit → Act → World → Prop} (hg : o.guard = none) (m x v : Operand) (hop : o.op = Op.insert 114 m x v)
    (b : Nat) (es : List ((Int × Int) × Value)) (hm : a.eval m = .map (some b)) (hb : w.heap[b]? = some (plO es)) (p r : Int) (val : Value) (hx : a.eval x = plK p r) (hv : a.eval v = val) (hn : plIdx p r 0 es = none)
    (hK : ∀ w', w'.heap[b]? = some (plO (es ++ [((p, r), val)])) → w.grownBy w' (some b) → wpList Tryd.prog ops Q rest (a.put o.dst undef) w') : wpList Tryd.prog ops Q (o :: rest) a w := by
  refine wpList_plain hg fun K' hK' => ?_
  have hrun := insert_place p r val hb hn
  unfold Oper.wp
  simp [execOp, hop, hm, hx, hv, hrun, Result.andThen]
  refine hK' _ _ (hK _ (heap_setBlock_same hb _) ?_)
  exact ⟨rfl, rfl, rfl, by simp [setBlock], fun i _ hi => heap_setBlock_other hb _ (fun e => hi (by rw [e]))⟩

end Go.Proofs.YtdckjhobikfggaaDoor

namespace Go.Proofs.YtdckjhobikfggaaDoor
open Go.RowKit Go.MapKept Go.ChangeMaps

/-- How many operations have not come up. -/
def unl (l : Array Bool) : Nat := (l.toList.filter (fun b => !b)).length
theorem unl_list_set : ∀ (l : List Bool) (i : Nat), l[i]? = some false → ((l.set i true).filter (fun b => !b)).length + 1 = (l.filter (fun b => !b)).length
  | [], i, h => by simp at h
  | b :: t, 0, h => by
    simp at h
    subst h
    simp
  | b :: t, i + 1, h => by
    have := unl_list_set t i (by simpa using h)
    cases b <;> simp <;> omega
theorem getD_true {l : Array Bool} {i : Nat} (h : l.getD i true = false) : l[i]? = some false := by
  rw [Array.getD_eq_getD_getElem?] at h
  cases hl : l[i]? with
  | none => rw [hl] at h; simp at h
  | some b => rw [hl] at h; simp at h; rw [h]
theorem unl_set {l : Array Bool} {i : Nat} (h : l.getD i true = false) : unl (l.setIfInBounds i true) + 1 = unl l := by
  have := unl_list_set l.toList i (by simpa using getD_true h)
  unfold unl
  rw [Array.toList_setIfInBounds]
  exact this
theorem unl_zero {l : Array Bool} (h : unl l = 0) (i : Nat) : l.getD i true = true := by
  cases hb : l.getD i true with
  | true => rfl
  | false => have := unl_set hb; omega

theorem wpAny_inv {P : Program} {ops : Array Oper} {Q : Exit → Act → World → Prop} (I : Array Bool → Act → World → Prop)
    (hstep : ∀ l a w, I l a w → ∀ i ∈ Region.ready .any ops l, wpOp P ops Q i (fun a' w' => I (l.setIfInBounds i true) a' w') a w)
    (hend : ∀ l a w, I l a w → Region.ready .any ops l = [] → Q .normal a w) : ∀ (fuel : Nat) (l : Array Bool) (a : Act) (w : World), unl l ≤ fuel → I l a w → wpAny P .any ops Q fuel l a w
  | 0, l, a, w, hf, hI => by
    have hr : Region.ready .any ops l = [] := by
      cases hr : Region.ready .any ops l with
      | nil => rfl
      | cons j t =>
        have hj : j ∈ Region.ready .any ops l := by rw [hr]; simp
        have h1 := (mem_ready.1 hj).1
        have h2 := unl_zero (by omega : unl l = 0) j
        rw [h1] at h2
        cases h2
    exact ⟨hr, hend l a w hI hr⟩
  | fuel + 1, l, a, w, hf, hI => by
    refine ⟨hend l a w hI, fun i hi => wpOp_mono (fun a' w' h => ?_) (hstep l a w hI i hi)⟩
    refine wpAny_inv I hstep hend fuel _ a' w' ?_ h
    have := unl_set (mem_ready.1 hi).1
    omega

/-- Every operation waits only for earlier ones. -/
def earlierB (ops : Array Oper) : Bool := (List.range ops.size).all fun i => match ops[i]? with | some o => o.after.all (fun e => decide (e.on < i)) | none => true
theorem all_listed {ops : Array Oper} {l : Array Bool} (hb : earlierB ops = true) (hs : l.size = ops.size) (hr : Region.ready .any ops l = []) : ∀ (n i : Nat), i < n → i < ops.size → l.getD i false = true
  | 0, i, h, _ => absurd h (Nat.not_lt_zero i)
  | n + 1, i, h, hi => by
    cases hl : l.getD i false with
    | true => rfl
    | false =>
      have h0 : l[i]? = some false := by
        rw [Array.getD_eq_getD_getElem?] at hl
        rw [Array.getElem?_eq_getElem (by omega : i < l.size)] at hl ⊢
        simpa using hl
      have h1 : l.getD i true = false := by rw [Array.getD_eq_getD_getElem?, h0]; rfl
      have hm : i ∈ Region.ready .any ops l := by
        refine mem_ready.2 ⟨h1, ops[i], Array.getElem?_eq_getElem hi, fun e he _ => ?_⟩
        have hall := List.all_eq_true.1 hb i (List.mem_range.2 hi)
        rw [Array.getElem?_eq_getElem hi] at hall
        have hlt := of_decide_eq_true (Array.all_eq_true_iff_forall_mem.1 hall e he)
        exact all_listed hb hs hr n e.on (by omega) (by omega)
      rw [hr] at hm
      cases hm

/-- The places, and the sets of each. -/
def plKeys : List (Int × Int) := [(1, 0), (2, 0), (2, 2), (3, 0), (3, 1), (4, 0), (4, 1), (4, 2), (5, 0), (5, 1)]
def plLists : List (List Int) := [[1, 2, 6], [1, 2, 6, 7, 8], [4, 5], [1], [7], [1], [7, 8], [3, 6], [1, 2, 6, 7, 8], [3, 4, 5, 6, 7, 8]]
def plKey (k : Nat) : Int × Int := plKeys.getD k (0, 0)
def plList (k : Nat) : List Int := plLists.getD k []
def plSl (b k : Nat) : Value := .slice (some ⟨b, 0, none⟩) (plList k).length (plList k).length
def plC (k : Nat) : Obj := .cells ((plList k).map (Value.int .i64)).toArray 3

/-- The map of places in block mb: the entry of place k is the row in block blk k; everything from block C on. -/
def PlMap (w : World) (C mb : Nat) (blk : Nat → Nat) (has : Nat → Bool) : Prop := C ≤ mb ∧ ∃ es, w.heap[mb]? = some (plO es) ∧ (∀ k, k < 10 → (has k = true → (∃ i, plIdx (plKey k).1 (plKey k).2 0 es = some (i, plSl (blk k) k))) ∧ (has k = false → plIdx (plKey k).1 (plKey k).2 0 es = none)) ∧
  ∀ p r, (∀ k, k < 10 → plKey k ≠ (p, r)) → plIdx p r 0 es = none

theorem plIdx_snoc (p r p' r' : Int) (v : Value) : ∀ (es : List ((Int × Int) × Value)) (i : Nat), plIdx p r i (es ++ [((p', r'), v)]) = match plIdx p r i es with | some q => some q | none => if ((p == p') && (r == r')) = true then some (i + es.length, v) else none
  | [], i => by simp [plIdx]
  | e :: t, i => by
    simp only [List.cons_append, plIdx]
    split
    · rfl
    · rw [plIdx_snoc p r p' r' v t (i + 1)]
      cases plIdx p r (i + 1) t with
      | some q => rfl
      | none => simp only [List.length_cons]; split <;> simp; omega

theorem plKey_inj : ∀ j, j < 10 → ∀ k, k < 10 → plKey j = plKey k → j = k := by decide +kernel

end Go.Proofs.YtdckjhobikfggaaDoor

namespace Go.Proofs.YtdckjhobikfggaaDoor
open Go.RowKit Go.MapKept Go.ChangeMaps

theorem set_same {l : Array Bool} {i : Nat} (h : i < l.size) : (l.setIfInBounds i true).getD i false = true := by simp [Array.getD_eq_getD_getElem?, h]
theorem set_other {l : Array Bool} {i j : Nat} (h : i ≠ j) (b : Bool) : (l.setIfInBounds i true).getD j b = l.getD j b := by simp [Array.getD_eq_getD_getElem?, Array.getElem?_setIfInBounds_ne h]
theorem unlisted {l : Array Bool} {i : Nat} (h : l.getD i true = false) : l.getD i false = false ∧ i < l.size := by
  have h1 := getD_true h
  exact ⟨by rw [Array.getD_eq_getD_getElem?, h1]; rfl, (Array.getElem?_eq_some_iff.1 h1).1⟩

structure PlInv (w0 : World) (l : Array Bool) (a : Act) (w : World) : Prop where
  size : l.size = 33
  tm : a.tmps.size = 23
  df : a.defers = []
  bel : Below w0.heap.size w0 w
  ks : ∀ k, k < 10 → l.getD (3 * k + 1) false = true → a.eval (.tmp (2 * k + 2)) = plK (plKey k).1 (plKey k).2
  all : ∃ blk : Nat → Nat, (∀ k, k < 10 → l.getD (3 * k + 2) false = true → a.eval (.tmp (2 * k + 3)) = plSl (blk k) k ∧ w0.heap.size ≤ blk k ∧ w.heap[blk k]? = some (plC k)) ∧
    (∀ j k, j < 10 → k < 10 → l.getD (3 * j + 2) false = true → l.getD (3 * k + 2) false = true → blk j = blk k → j = k) ∧
    (l.getD 0 false = true → ∃ mb, a.eval (.tmp 1) = .map (some mb) ∧ PlMap w w0.heap.size mb blk (fun k => l.getD (3 * k + 3) false))
  ins : ∀ k, k < 10 → l.getD (3 * k + 3) false = true → l.getD 0 false = true ∧ l.getD (3 * k + 2) false = true
  fin : l.getD 31 false = true → l.getD 0 false = true ∧ a.eval (.tmp 22) = a.eval (.tmp 1)
  fin2 : l.getD 32 false = true → l.getD 31 false = true ∧ a.eval (.tmp 0) = a.eval (.tmp 22)

theorem tm_put {a : Act} {d : Option Tmp} {v : Value} : (a.put d v).tmps.size = a.tmps.size ∧ (a.put d v).defers = a.defers := by
  cases d with
  | none => exact ⟨rfl, rfl⟩
  | some d => exact ⟨by simp [Act.put], rfl⟩

theorem PlInv.build {w0 w : World} {l : Array Bool} {a : Act} (h : PlInv w0 l a w) (k : Nat) (hk : k < 10) (hu : l.getD (3 * k + 1) true = false) : PlInv w0 (l.setIfInBounds (3 * k + 1) true) (a.put (some (2 * k + 2)) (plK (plKey k).1 (plKey k).2)) w := by
  have ⟨hu0, hul⟩ := unlisted hu
  have hne : ∀ j : Nat, 2 * k + 2 ≠ j → (a.put (some (2 * k + 2)) (plK (plKey k).1 (plKey k).2)).eval (.tmp j) = a.eval (.tmp j) := fun j hj => Act.eval_put_ne a _ j _ hj
  obtain ⟨blk, a1, a2, a3⟩ := h.all
  refine ⟨by simpa using h.size, tm_put.1.trans h.tm, tm_put.2.trans h.df, h.bel, ?_, ⟨blk, ?_, ?_, ?_⟩, ?_, ?_, ?_⟩
  · intro j hj hl
    by_cases hjk : j = k
    · subst hjk
      exact Act.eval_put_same a _ _ (by rw [h.tm]; omega)
    · rw [set_other (by omega)] at hl
      rw [hne _ (by omega)]
      exact h.ks j hj hl
  · intro j hj hl
    rw [set_other (by omega)] at hl
    rw [hne _ (by omega)]
    exact a1 j hj hl
  · intro i j hi hj h1 h2
    rw [set_other (by omega)] at h1 h2
    exact a2 i j hi hj h1 h2
  · intro h0
    rw [set_other (by omega)] at h0
    obtain ⟨mb, m1, m2⟩ := a3 h0
    refine ⟨mb, by rw [hne _ (by omega)]; exact m1, ?_⟩
    have : (fun j => (l.setIfInBounds (3 * k + 1) true).getD (3 * j + 3) false) = fun j => l.getD (3 * j + 3) false := funext fun j => set_other (by omega) _
    rw [this]
    exact m2
  · intro j hj hl
    rw [set_other (by omega)] at hl ⊢
    rw [set_other (by omega)]
    exact h.ins j hj hl
  · intro hl
    rw [set_other (by omega)] at hl ⊢
    rw [hne _ (by omega), hne _ (by omega)]
    exact h.fin hl
  · intro hl
    rw [set_other (by omega)] at hl ⊢
    rw [hne _ (by omega), hne _ (by omega)]
    exact h.fin2 hl

theorem PlInv.slice {w0 w : World} {l : Array Bool} {a : Act} (h : PlInv w0 l a w) (k : Nat) (hk : k < 10) (hu : l.getD (3 * k + 2) true = false) : PlInv w0 (l.setIfInBounds (3 * k + 2) true) (a.put (some (2 * k + 3)) (plSl w.heap.size k)) (w.alloc (plC k)) := by
  have ⟨hu0, hul⟩ := unlisted hu
  have hne : ∀ j : Nat, 2 * k + 3 ≠ j → (a.put (some (2 * k + 3)) (plSl w.heap.size k)).eval (.tmp j) = a.eval (.tmp j) := fun j hj => Act.eval_put_ne a _ j _ hj
  obtain ⟨blk, a1, a2, a3⟩ := h.all
  have hlt : ∀ j, j < 10 → l.getD (3 * j + 2) false = true → blk j < w.heap.size := fun j hj hl => (Array.getElem?_eq_some_iff.1 (a1 j hj hl).2.2).1
  refine ⟨by simpa using h.size, tm_put.1.trans h.tm, tm_put.2.trans h.df, h.bel.alloc h.bel.size _, ?_, ⟨fun j => if j = k then w.heap.size else blk j, ?_, ?_, ?_⟩, ?_, ?_, ?_⟩
  · intro j hj hl
    rw [set_other (by omega)] at hl
    rw [hne _ (by omega)]
    exact h.ks j hj hl
  · intro j hj hl
    by_cases hjk : j = k
    · subst hjk
      dsimp only
      rw [if_pos rfl]
      exact ⟨Act.eval_put_same a _ _ (by rw [h.tm]; omega), h.bel.size, at_new _ _ rfl⟩
    · rw [set_other (by omega)] at hl
      dsimp only
      rw [if_neg hjk, hne _ (by omega)]
      have := a1 j hj hl
      exact ⟨this.1, this.2.1, at_old _ this.2.2⟩
  · intro i j hi hj h1 h2
    dsimp only
    by_cases hik : i = k
    · by_cases hjk : j = k
      · intro _; omega
      · rw [set_other (by omega)] at h2
        rw [if_pos hik, if_neg hjk]
        have := hlt j hj h2
        intro he
        omega
    · rw [set_other (by omega)] at h1
      by_cases hjk : j = k
      · rw [if_neg hik, if_pos hjk]
        have := hlt i hi h1
        intro he
        omega
      · rw [set_other (by omega)] at h2
        rw [if_neg hik, if_neg hjk]
        exact a2 i j hi hj h1 h2
  · intro h0
    rw [set_other (by omega)] at h0
    obtain ⟨mb, m1, hmb, es, e1, e2, e3⟩ := a3 h0
    refine ⟨mb, by rw [hne _ (by omega)]; exact m1, hmb, es, at_old _ e1, ?_, e3⟩
    intro j hj
    dsimp only
    rw [set_other (by omega)]
    refine ⟨fun hl => ?_, (e2 j hj).2⟩
    have hjk : j ≠ k := by
      intro he
      subst he
      have := (h.ins j hj hl).2
      rw [hu0] at this
      cases this
    rw [if_neg hjk]
    exact (e2 j hj).1 hl
  · intro j hj hl
    rw [set_other (by omega)] at hl ⊢
    have := h.ins j hj hl
    refine ⟨this.1, ?_⟩
    by_cases hjk : j = k
    · subst hjk; exact set_same hul
    · rw [set_other (by omega)]; exact this.2
  · intro hl
    rw [set_other (by omega)] at hl ⊢
    rw [hne _ (by omega), hne _ (by omega)]
    exact h.fin hl
  · intro hl
    rw [set_other (by omega)] at hl ⊢
    rw [hne _ (by omega), hne _ (by omega)]
    exact h.fin2 hl

theorem PlInv.make {w0 w : World} {l : Array Bool} {a : Act} (h : PlInv w0 l a w) (hu : l.getD 0 true = false) : PlInv w0 (l.setIfInBounds 0 true) (a.put (some 1) (.map (some w.heap.size))) (w.alloc (.map #[] 0)) := by
  have ⟨hu0, hul⟩ := unlisted hu
  have hne : ∀ j : Nat, 1 ≠ j → (a.put (some 1) (.map (some w.heap.size))).eval (.tmp j) = a.eval (.tmp j) := fun j hj => Act.eval_put_ne a _ j _ hj
  obtain ⟨blk, a1, a2, a3⟩ := h.all
  refine ⟨by simpa using h.size, tm_put.1.trans h.tm, tm_put.2.trans h.df, h.bel.alloc h.bel.size _, ?_, ⟨blk, ?_, ?_, ?_⟩, ?_, ?_, ?_⟩
  · intro j hj hl
    rw [set_other (by omega)] at hl
    rw [hne _ (by omega)]
    exact h.ks j hj hl
  · intro j hj hl
    rw [set_other (by omega)] at hl
    rw [hne _ (by omega)]
    have := a1 j hj hl
    exact ⟨this.1, this.2.1, at_old _ this.2.2⟩
  · intro i j hi hj h1 h2
    rw [set_other (by omega)] at h1 h2
    exact a2 i j hi hj h1 h2
  · intro _
    refine ⟨w.heap.size, Act.eval_put_same a _ _ (by rw [h.tm]; omega), h.bel.size, [], at_new _ _ rfl, ?_, fun _ _ _ => rfl⟩
    intro j hj
    dsimp only
    rw [set_other (by omega)]
    refine ⟨fun hl => ?_, fun _ => rfl⟩
    have := (h.ins j hj hl).1
    rw [hu0] at this
    cases this
  · intro j hj hl
    rw [set_other (by omega)] at hl
    rw [set_other (by omega : 0 ≠ 3 * j + 2)]
    exact ⟨set_same hul, (h.ins j hj hl).2⟩
  · intro hl
    rw [set_other (by omega)] at hl
    have := (h.fin hl).1
    rw [hu0] at this
    cases this
  · intro hl
    rw [set_other (by omega)] at hl
    have := (h.fin (h.fin2 hl).1).1
    rw [hu0] at this
    cases this

theorem PlInv.insert {w0 w : World} {l : Array Bool} {a : Act} (h : PlInv w0 l a w) (k : Nat) (hk : k < 10) (hu : l.getD (3 * k + 3) true = false) (d0 : l.getD 0 false = true) (d1 : l.getD (3 * k + 1) false = true) (d2 : l.getD (3 * k + 2) false = true) :
    ∃ w', (Instr.mapUpdate 114 (a.eval (.tmp 1)) (a.eval (.tmp (2 * k + 2))) (a.eval (.tmp (2 * k + 3)))).run Tryd.prog w = .ok () w' ∧ PlInv w0 (l.setIfInBounds (3 * k + 3) true) a w' := by
  have ⟨hu0, hul⟩ := unlisted hu
  obtain ⟨blk, a1, a2, a3⟩ := h.all
  obtain ⟨mb, m1, hmb, es, e1, e2, e3⟩ := a3 d0
  have e1' : w.heap[mb]? = some (.map (plE 0 es).toArray es.length) := e1
  have hno := (e2 k hk).2 hu0
  refine ⟨setBlock w mb (plO (es ++ [(((plKey k).1, (plKey k).2), plSl (blk k) k)])), ?_, ?_⟩
  · rw [m1, h.ks k hk d1, (a1 k hk d2).1]
    exact insert_place (plKey k).1 (plKey k).2 (plSl (blk k) k) e1 hno
  · have hother : ∀ i, i ≠ mb → (setBlock w mb (plO (es ++ [(((plKey k).1, (plKey k).2), plSl (blk k) k)]))).heap[i]? = w.heap[i]? := fun i hi => heap_setBlock_other e1' _ hi
    refine ⟨by simpa using h.size, h.tm, h.df, ?_, ?_, ⟨blk, ?_, ?_, ?_⟩, ?_, ?_, ?_⟩
    · exact h.bel.grown (row := some mb) ⟨rfl, rfl, rfl, by simp [setBlock], fun i _ hi => heap_setBlock_other e1' _ (fun e => hi (by rw [e]))⟩ h.bel.size (fun i hi => by cases hi; exact hmb)
    · intro j hj hl
      rw [set_other (by omega)] at hl
      exact h.ks j hj hl
    · intro j hj hl
      rw [set_other (by omega)] at hl
      have := a1 j hj hl
      refine ⟨this.1, this.2.1, (hother _ ?_).trans this.2.2⟩
      intro he
      have h3 := this.2.2
      rw [he, e1] at h3
      unfold plO plC at h3
      simp at h3
    · intro i j hi hj h1 h2
      rw [set_other (by omega)] at h1 h2
      exact a2 i j hi hj h1 h2
    · intro _
      refine ⟨mb, m1, hmb, _, heap_setBlock_same e1' _, ?_, ?_⟩
      · intro j hj
        rw [plIdx_snoc]
        by_cases hjk : j = k
        · subst hjk
          refine ⟨fun _ => ?_, fun hl => ?_⟩
          · rw [hno]
            exact ⟨0 + es.length, by simp⟩
          · dsimp only at hl
            rw [set_same hul] at hl
            cases hl
        · dsimp only
          rw [set_other (by omega)]
          refine ⟨fun hl => ?_, fun hl => ?_⟩
          · obtain ⟨i, hi⟩ := (e2 j hj).1 hl
            rw [hi]
            exact ⟨i, rfl⟩
          · rw [(e2 j hj).2 hl]
            have hkk : plKey j ≠ plKey k := fun he => hjk (plKey_inj j hj k hk he)
            have : ((((plKey j).1 == (plKey k).1) && ((plKey j).2 == (plKey k).2)) = true) → False := by
              intro hb
              simp only [Bool.and_eq_true, beq_iff_eq] at hb
              exact hkk (Prod.ext hb.1 hb.2)
            simp only
            rw [if_neg this]
      · intro p r hpr
        rw [plIdx_snoc, e3 p r hpr]
        have : (((p == (plKey k).1) && (r == (plKey k).2)) = true) → False := by
          intro hb
          simp only [Bool.and_eq_true, beq_iff_eq] at hb
          exact hpr k hk (Prod.ext hb.1.symm hb.2.symm)
        simp only
        rw [if_neg this]
    · intro j hj hl
      rw [set_other (by omega : 3 * k + 3 ≠ 0), set_other (by omega : 3 * k + 3 ≠ 3 * j + 2)]
      by_cases hjk : j = k
      · subst hjk; exact ⟨d0, d2⟩
      · rw [set_other (by omega)] at hl
        exact h.ins j hj hl
    · intro hl
      rw [set_other (by omega)] at hl ⊢
      exact h.fin hl
    · intro hl
      rw [set_other (by omega)] at hl ⊢
      exact h.fin2 hl

theorem PlInv.move {w0 w : World} {l : Array Bool} {a : Act} (h : PlInv w0 l a w) (hu : l.getD 31 true = false) (d0 : l.getD 0 false = true) : PlInv w0 (l.setIfInBounds 31 true) (a.put (some 22) (a.eval (.tmp 1))) w := by
  have ⟨hu0, hul⟩ := unlisted hu
  have hne : ∀ j : Nat, 22 ≠ j → (a.put (some 22) (a.eval (.tmp 1))).eval (.tmp j) = a.eval (.tmp j) := fun j hj => Act.eval_put_ne a _ j _ hj
  obtain ⟨blk, a1, a2, a3⟩ := h.all
  refine ⟨by simpa using h.size, tm_put.1.trans h.tm, tm_put.2.trans h.df, h.bel, ?_, ⟨blk, ?_, ?_, ?_⟩, ?_, ?_, ?_⟩
  · intro j hj hl
    rw [set_other (by omega)] at hl
    rw [hne _ (by omega)]
    exact h.ks j hj hl
  · intro j hj hl
    rw [set_other (by omega)] at hl
    rw [hne _ (by omega)]
    exact a1 j hj hl
  · intro i j hi hj h1 h2
    rw [set_other (by omega)] at h1 h2
    exact a2 i j hi hj h1 h2
  · intro h0
    obtain ⟨mb, m1, m2⟩ := a3 d0
    refine ⟨mb, by rw [hne _ (by omega)]; exact m1, ?_⟩
    obtain ⟨hmb, es, e1, e2, e3⟩ := m2
    refine ⟨hmb, es, e1, fun j hj => ?_, e3⟩
    dsimp only
    rw [set_other (by omega)]
    exact e2 j hj
  · intro j hj hl
    rw [set_other (by omega)] at hl
    rw [set_other (by omega : 31 ≠ 0), set_other (by omega : 31 ≠ 3 * j + 2)]
    exact h.ins j hj hl
  · intro _
    rw [set_other (by omega : 31 ≠ 0), hne _ (by omega : 22 ≠ 1)]
    exact ⟨d0, Act.eval_put_same a _ _ (by rw [h.tm]; omega)⟩
  · intro hl
    rw [set_other (by omega)] at hl
    have := (h.fin2 hl).1
    rw [hu0] at this
    cases this

theorem PlInv.assign {w0 w : World} {l : Array Bool} {a : Act} (h : PlInv w0 l a w) (hu : l.getD 32 true = false) (d31 : l.getD 31 false = true) : PlInv w0 (l.setIfInBounds 32 true) (a.put (some 0) (a.eval (.tmp 22))) w := by
  have ⟨hu0, hul⟩ := unlisted hu
  have hne : ∀ j : Nat, 0 ≠ j → (a.put (some 0) (a.eval (.tmp 22))).eval (.tmp j) = a.eval (.tmp j) := fun j hj => Act.eval_put_ne a _ j _ hj
  obtain ⟨blk, a1, a2, a3⟩ := h.all
  refine ⟨by simpa using h.size, tm_put.1.trans h.tm, tm_put.2.trans h.df, h.bel, ?_, ⟨blk, ?_, ?_, ?_⟩, ?_, ?_, ?_⟩
  · intro j hj hl
    rw [set_other (by omega)] at hl
    rw [hne _ (by omega)]
    exact h.ks j hj hl
  · intro j hj hl
    rw [set_other (by omega)] at hl
    rw [hne _ (by omega)]
    exact a1 j hj hl
  · intro i j hi hj h1 h2
    rw [set_other (by omega)] at h1 h2
    exact a2 i j hi hj h1 h2
  · intro h0
    rw [set_other (by omega)] at h0
    obtain ⟨mb, m1, m2⟩ := a3 h0
    refine ⟨mb, by rw [hne _ (by omega)]; exact m1, ?_⟩
    obtain ⟨hmb, es, e1, e2, e3⟩ := m2
    refine ⟨hmb, es, e1, fun j hj => ?_, e3⟩
    dsimp only
    rw [set_other (by omega)]
    exact e2 j hj
  · intro j hj hl
    rw [set_other (by omega)] at hl
    rw [set_other (by omega : 32 ≠ 0), set_other (by omega : 32 ≠ 3 * j + 2)]
    exact h.ins j hj hl
  · intro hl
    rw [set_other (by omega)] at hl ⊢
    rw [hne _ (by omega), hne _ (by omega)]
    exact h.fin hl
  · intro _
    rw [set_other (by omega : 32 ≠ 31), hne _ (by omega : 0 ≠ 22)]
    exact ⟨d31, Act.eval_put_same a _ _ (by rw [h.tm]; omega)⟩

/-- One operation that comes up, by its run. -/
theorem op_value {P : Program} {ops : Array Oper} {Q : Exit → Act → World → Prop} {i : Nat} {o : Oper} {a : Act} {w w' : World} {v : Value} {K : Act → World → Prop} (ho : ops[i]? = some o) (hg : o.guard = none) (hr : (execOp a.eval o).run P w = .ok (.value v) w') (hK : K (a.put o.dst v) w') : wpOp P ops Q i K a w := by
  unfold wpOp
  rw [ho]
  have : Region.wanted o (yielded ops a.tmps) = true := by simp [Region.wanted, hg]
  simp only [this, if_true]
  exact .inl (by unfold Oper.wp; rw [hr]; exact hK)
theorem op_skip {P : Program} {ops : Array Oper} {Q : Exit → Act → World → Prop} {i : Nat} {o : Oper} {a : Act} {w w' : World} {K : Act → World → Prop} (ho : ops[i]? = some o) (hg : o.guard = none) (hr : (execOp a.eval o).run P w = .ok .skip w') (hK : K (a.put o.dst undef) w') : wpOp P ops Q i K a w := by
  unfold wpOp
  rw [ho]
  have : Region.wanted o (yielded ops a.tmps) = true := by simp [Region.wanted, hg]
  simp only [this, if_true]
  exact .inl (by unfold Oper.wp; rw [hr]; exact hK)

/-- The map of all places. -/
def PlacesAt (w : World) (C mb : Nat) : Prop := ∃ blk : Nat → Nat, (∀ k, k < 10 → C ≤ blk k ∧ w.heap[blk k]? = some (plC k)) ∧ (∀ j k, j < 10 → k < 10 → blk j = blk k → j = k) ∧ PlMap w C mb blk (fun _ => true)

theorem PlInv.last {w0 w : World} {l : Array Bool} {a : Act} (h : PlInv w0 l a w) (hl : ∀ i, i < 33 → l.getD i false = true) : ∃ mb, a.eval (.tmp 0) = .map (some mb) ∧ PlacesAt w w0.heap.size mb := by
  obtain ⟨blk, a1, a2, a3⟩ := h.all
  obtain ⟨mb, m1, hmb, es, e1, e2, e3⟩ := a3 (hl 0 (by omega))
  refine ⟨mb, ?_, blk, fun k hk => (a1 k hk (hl _ (by omega))).2, fun j k hj hk => a2 j k hj hk (hl _ (by omega)) (hl _ (by omega)), hmb, es, e1, fun k hk => ⟨fun _ => (e2 k hk).1 (hl _ (by omega)), fun hf => by cases hf⟩, e3⟩
  rw [(h.fin2 (hl 32 (by omega))).2, (h.fin (hl 31 (by omega))).2, m1]

set_option maxHeartbeats 4000000 in
set_option maxRecDepth 100000 in
theorem impl_setsOfPlaces (w : World) : Calls Tryd.prog 141 #[] w fun e w' => ∃ mb, e = .returned (.map (some mb)) ∧ PlacesAt w' w.heap.size mb ∧ Below w.heap.size w w' := by
  have hmm := @run_makeMap Tryd.prog
  go_enter Tryd.func141, Tryd.ntmps141
  go_wp2_with fail
  rename_i K hK
  refine wp_region_any (by kernel_rfl) ?_
  refine wpAny_inv (PlInv w) ?_ ?_ _ _ _ _ (by decide +kernel) ?_
  · intro l a w1 hI i hi
    obtain ⟨hu, o, ho, hd⟩ := mem_ready.1 hi
    have hi33 : i < 33 := by have := (Array.getElem?_eq_some_iff.1 ho).1; simpa using this
    rcases (show i = 0 ∨ i = 1 ∨ i = 2 ∨ i = 3 ∨ i = 4 ∨ i = 5 ∨ i = 6 ∨ i = 7 ∨ i = 8 ∨ i = 9 ∨ i = 10 ∨ i = 11 ∨ i = 12 ∨ i = 13 ∨ i = 14 ∨ i = 15 ∨ i = 16 ∨ i = 17 ∨ i = 18 ∨ i = 19 ∨ i = 20 ∨ i = 21 ∨ i = 22 ∨ i = 23 ∨ i = 24 ∨ i = 25 ∨ i = 26 ∨ i = 27 ∨ i = 28 ∨ i = 29 ∨ i = 30 ∨ i = 31 ∨ i = 32 by omega) with rfl | rfl | rfl | rfl | rfl | rfl | rfl | rfl | rfl | rfl | rfl | rfl | rfl | rfl | rfl | rfl | rfl | rfl | rfl | rfl | rfl | rfl | rfl | rfl | rfl | rfl | rfl | rfl | rfl | rfl | rfl | rfl | rfl
    · exact op_value rfl rfl (by simp [execOp, hmm]) (hI.make hu)
    · exact op_value rfl rfl (by go_simp; rfl) (hI.build 0 (by decide) hu)
    · exact op_value rfl rfl (by go_simp; exact ⟨rfl, rfl⟩) (hI.slice 0 (by decide) hu)
    · obtain rfl := Option.some.inj ho
      obtain ⟨w2, hr, hI2⟩ := hI.insert 0 (by decide) hu (hd ⟨0, .data⟩ (by simp) rfl) (hd ⟨1, .data⟩ (by simp) rfl) (hd ⟨2, .data⟩ (by simp) rfl)
      exact op_skip rfl rfl (by simp [execOp, hr, Result.andThen]) hI2
    · exact op_value rfl rfl (by go_simp; rfl) (hI.build 1 (by decide) hu)
    · exact op_value rfl rfl (by go_simp; exact ⟨rfl, rfl⟩) (hI.slice 1 (by decide) hu)
    · obtain rfl := Option.some.inj ho
      obtain ⟨w2, hr, hI2⟩ := hI.insert 1 (by decide) hu (hd ⟨0, .data⟩ (by simp) rfl) (hd ⟨4, .data⟩ (by simp) rfl) (hd ⟨5, .data⟩ (by simp) rfl)
      exact op_skip rfl rfl (by simp [execOp, hr, Result.andThen]) hI2
    · exact op_value rfl rfl (by go_simp; rfl) (hI.build 2 (by decide) hu)
    · exact op_value rfl rfl (by go_simp; exact ⟨rfl, rfl⟩) (hI.slice 2 (by decide) hu)
    · obtain rfl := Option.some.inj ho
      obtain ⟨w2, hr, hI2⟩ := hI.insert 2 (by decide) hu (hd ⟨0, .data⟩ (by simp) rfl) (hd ⟨7, .data⟩ (by simp) rfl) (hd ⟨8, .data⟩ (by simp) rfl)
      exact op_skip rfl rfl (by simp [execOp, hr, Result.andThen]) hI2
    · exact op_value rfl rfl (by go_simp; rfl) (hI.build 3 (by decide) hu)
    · exact op_value rfl rfl (by go_simp; exact ⟨rfl, rfl⟩) (hI.slice 3 (by decide) hu)
    · obtain rfl := Option.some.inj ho
      obtain ⟨w2, hr, hI2⟩ := hI.insert 3 (by decide) hu (hd ⟨0, .data⟩ (by simp) rfl) (hd ⟨10, .data⟩ (by simp) rfl) (hd ⟨11, .data⟩ (by simp) rfl)
      exact op_skip rfl rfl (by simp [execOp, hr, Result.andThen]) hI2
    · exact op_value rfl rfl (by go_simp; rfl) (hI.build 4 (by decide) hu)
    · exact op_value rfl rfl (by go_simp; exact ⟨rfl, rfl⟩) (hI.slice 4 (by decide) hu)
    · obtain rfl := Option.some.inj ho
      obtain ⟨w2, hr, hI2⟩ := hI.insert 4 (by decide) hu (hd ⟨0, .data⟩ (by simp) rfl) (hd ⟨13, .data⟩ (by simp) rfl) (hd ⟨14, .data⟩ (by simp) rfl)
      exact op_skip rfl rfl (by simp [execOp, hr, Result.andThen]) hI2
    · exact op_value rfl rfl (by go_simp; rfl) (hI.build 5 (by decide) hu)
    · exact op_value rfl rfl (by go_simp; exact ⟨rfl, rfl⟩) (hI.slice 5 (by decide) hu)
    · obtain rfl := Option.some.inj ho
      obtain ⟨w2, hr, hI2⟩ := hI.insert 5 (by decide) hu (hd ⟨0, .data⟩ (by simp) rfl) (hd ⟨16, .data⟩ (by simp) rfl) (hd ⟨17, .data⟩ (by simp) rfl)
      exact op_skip rfl rfl (by simp [execOp, hr, Result.andThen]) hI2
    · exact op_value rfl rfl (by go_simp; rfl) (hI.build 6 (by decide) hu)
    · exact op_value rfl rfl (by go_simp; exact ⟨rfl, rfl⟩) (hI.slice 6 (by decide) hu)
    · obtain rfl := Option.some.inj ho
      obtain ⟨w2, hr, hI2⟩ := hI.insert 6 (by decide) hu (hd ⟨0, .data⟩ (by simp) rfl) (hd ⟨19, .data⟩ (by simp) rfl) (hd ⟨20, .data⟩ (by simp) rfl)
      exact op_skip rfl rfl (by simp [execOp, hr, Result.andThen]) hI2
    · exact op_value rfl rfl (by go_simp; rfl) (hI.build 7 (by decide) hu)
    · exact op_value rfl rfl (by go_simp; exact ⟨rfl, rfl⟩) (hI.slice 7 (by decide) hu)
    · obtain rfl := Option.some.inj ho
      obtain ⟨w2, hr, hI2⟩ := hI.insert 7 (by decide) hu (hd ⟨0, .data⟩ (by simp) rfl) (hd ⟨22, .data⟩ (by simp) rfl) (hd ⟨23, .data⟩ (by simp) rfl)
      exact op_skip rfl rfl (by simp [execOp, hr, Result.andThen]) hI2
    · exact op_value rfl rfl (by go_simp; rfl) (hI.build 8 (by decide) hu)
    · exact op_value rfl rfl (by go_simp; exact ⟨rfl, rfl⟩) (hI.slice 8 (by decide) hu)
    · obtain rfl := Option.some.inj ho
      obtain ⟨w2, hr, hI2⟩ := hI.insert 8 (by decide) hu (hd ⟨0, .data⟩ (by simp) rfl) (hd ⟨25, .data⟩ (by simp) rfl) (hd ⟨26, .data⟩ (by simp) rfl)
      exact op_skip rfl rfl (by simp [execOp, hr, Result.andThen]) hI2
    · exact op_value rfl rfl (by go_simp; rfl) (hI.build 9 (by decide) hu)
    · exact op_value rfl rfl (by go_simp; exact ⟨rfl, rfl⟩) (hI.slice 9 (by decide) hu)
    · obtain rfl := Option.some.inj ho
      obtain ⟨w2, hr, hI2⟩ := hI.insert 9 (by decide) hu (hd ⟨0, .data⟩ (by simp) rfl) (hd ⟨28, .data⟩ (by simp) rfl) (hd ⟨29, .data⟩ (by simp) rfl)
      exact op_skip rfl rfl (by simp [execOp, hr, Result.andThen]) hI2
    · obtain rfl := Option.some.inj ho
      exact op_value rfl rfl (by simp [execOp]) (hI.move hu (hd ⟨0, .data⟩ (by simp) rfl))
    · obtain rfl := Option.some.inj ho
      exact op_value rfl rfl (by simp [execOp]) (hI.assign hu (hd ⟨31, .data⟩ (by simp) rfl))
  · intro l a w1 hI hr
    have hl := fun i hi => all_listed (by decide +kernel) (by rw [hI.size]; rfl) hr 33 i hi (by simpa using hi)
    obtain ⟨mb, h0, hp⟩ := hI.last hl
    refine hK _ _ ?_
    go_wp2
    exact bodyPost_ret (results_tmp rfl _ _ _) hI.df ⟨mb, congrArg Ending.returned h0, hp, hI.bel⟩
  · have hf : ∀ i, (Array.replicate 33 false).getD i false = false := fun i => by
      rw [Array.getD_eq_getD_getElem?, Array.getElem?_replicate]
      split <;> rfl
    have no : ∀ {i : Nat}, (Array.replicate 33 false).getD i false = true → False := fun h => by rw [hf] at h; cases h
    exact ⟨rfl, rfl, rfl, (Below.refl w.heap.size w).drew, fun k _ h => (no h).elim, ⟨fun _ => 0, fun k _ h => (no h).elim, fun j k _ _ h => (no h).elim, fun h => (no h).elim⟩, fun k _ h => (no h).elim, fun h => (no h).elim, fun h => (no h).elim⟩

end Go.Proofs.YtdckjhobikfggaaDoor

namespace Go.Proofs.YtdckjhobikfggaaDoor
open Go.RowKit

theorem PlacesAt.move {w w' : World} {C mb : Nat} (h : PlacesAt w C mb) (hk : ∀ i, C ≤ i → i < w.heap.size → w'.heap[i]? = w.heap[i]?) : PlacesAt w' C mb := by
  obtain ⟨blk, h1, h2, hC, es, h3, h4⟩ := h
  exact ⟨blk, fun k hk10 => ⟨(h1 k hk10).1, (hk _ (h1 k hk10).1 (Array.getElem?_eq_some_iff.1 (h1 k hk10).2).1).trans (h1 k hk10).2⟩, h2, hC, es, (hk _ hC (Array.getElem?_eq_some_iff.1 h3).1).trans h3, h4⟩
theorem PlacesAt.keep {w w' : World} {C mb : Nat} (h : PlacesAt w C mb) (b : Below w.heap.size w w') : PlacesAt w' C mb := h.move fun i _ hi => b.block i hi
theorem PlacesAt.only {w w' : World} {C mb b : Nat} (h : PlacesAt w C mb) (o : Only b w w') (hb : b < C) : PlacesAt w' C mb := h.move fun i hi hl => o.2 i (by omega) hl
theorem PlacesAt.low {w : World} {C C' mb : Nat} (h : PlacesAt w C mb) (hC : C' ≤ C) : PlacesAt w C' mb := by
  obtain ⟨blk, h1, h2, h3, h4⟩ := h
  exact ⟨blk, fun k hk => ⟨Nat.le_trans hC (h1 k hk).1, (h1 k hk).2⟩, h2, Nat.le_trans hC h3, h4⟩

/-- The number of a profile's register among the places; 10 of none. -/
def plNo (n a : Int) : Nat := if n = 1 ∧ a = 0 then 0 else if n = 2 ∧ a = 0 then 1 else if n = 2 ∧ a = 2 then 2 else if n = 3 ∧ a = 0 then 3 else if n = 3 ∧ a = 1 then 4 else if n = 4 ∧ a = 0 then 5 else if n = 4 ∧ a = 1 then 6 else if n = 4 ∧ a = 2 then 7 else if n = 5 ∧ a = 0 then 8 else if n = 5 ∧ a = 1 then 9 else 10
theorem plNo_spec {n a : Int} (hn : proB n = true) (a0 : 0 ≤ a) (a3 : a ≤ 3) : (plNo n a < 10 ∧ plKey (plNo n a) = (n, a) ∧ plList (plNo n a) = prSets n a) ∨ ((∀ k, k < 10 → plKey k ≠ (n, a)) ∧ prSets n a = []) := by
  rcases pro_cases hn with rfl | rfl | rfl | rfl | rfl <;> rcases (show a = 0 ∨ a = 1 ∨ a = 2 ∨ a = 3 by omega) with rfl | rfl | rfl | rfl <;> decide +kernel
theorem plList_few : ∀ k, (plList k).length ≤ 6 := by
  intro k
  by_cases h : k < 10
  · exact (show ∀ k, k < 10 → (plList k).length ≤ 6 by decide +kernel) k h
  · have : plList k = [] := by
      unfold plList
      rw [List.getD_eq_getElem?_getD, List.getElem?_eq_none (by simp [plLists]; omega)]
      rfl
    rw [this]
    decide
theorem own_row {w : World} {C b k : Nat} (hC : C ≤ b) (h : w.heap[b]? = some (plC k)) : Own .i64 3 w C (plSl b k) (plList k) := by
  refine ⟨by simp, .inr ⟨b, (plList k).length, _, rfl, hC, h, Nat.le_refl _, ?_, by simp, List.take_of_length_le (by simp)⟩⟩
  have := plList_few k
  unfold maxLen
  omega

/-- The value of a register's sets: a row of the map's own, or nil. -/
theorem PlacesAt.look {w : World} {C mb : Nat} (h : PlacesAt w C mb) {n a : Int} (hn : proB n = true) (a0 : 0 ≤ a) (a3 : a ≤ 3) : ∃ s l c, (∀ q, (Instr.lookup 114 (.map (some mb)) (.agg #[.int .i64 n, .int .i64 a]) false).run Tryd.prog (w.drewN q) = .ok (.slice s l c) (w.drewN q)) ∧ Own .i64 3 w C (.slice s l c) (prSets n a) := by
  obtain ⟨blk, h1, h2, hC, es, h3, h4, h5⟩ := h
  have hl := fun q => lookup_place (w := w.drewN q) n a h3
  rcases plNo_spec hn a0 a3 with ⟨k1, k2, k3⟩ | ⟨k1, k2⟩
  · obtain ⟨i, hi⟩ := (h4 _ k1).1 rfl
    rw [k2] at hi
    rw [hi] at hl
    refine ⟨_, _, _, hl, ?_⟩
    rw [← k3]
    exact own_row (h1 _ k1).1 (h1 _ k1).2
  · rw [h5 n a k1] at hl
    refine ⟨_, _, _, hl, ?_⟩
    rw [k2]
    exact Own.nil _ _ _ _

/-- A guide with its map, made or not yet. -/
def GuOK (w : World) (g : Nat) (n : Int) (C : Nat) : Prop := ∃ m, GuAt w g n m ∧ (m = .map none ∨ ∃ mb, m = .map (some mb) ∧ PlacesAt w C mb)
theorem GuOK.keep {w w' : World} {g C : Nat} {n : Int} (h : GuOK w g n C) (b : Below w.heap.size w w') : GuOK w' g n C := by
  obtain ⟨m, h1, h2⟩ := h
  refine ⟨m, h1.keep b, h2.imp id ?_⟩
  rintro ⟨mb, h3, h4⟩
  exact ⟨mb, h3, h4.keep b⟩
theorem GuOK.only {w w' : World} {g C b : Nat} {n : Int} (h : GuOK w g n C) (o : Only b w w') (hb : b < C) (hg : g ≠ b) : GuOK w' g n C := by
  obtain ⟨m, h1, h2⟩ := h
  refine ⟨m, (o.2 g hg h1.lt).trans h1, h2.imp id ?_⟩
  rintro ⟨mb, h3, h4⟩
  exact ⟨mb, h3, h4.only o hb⟩
theorem GuAt.put {w : World} {g : Nat} {n : Int} {m : Value} (h : GuAt w g n m) (m' : Value) : GuAt (w.setCell ⟨g, 9, none⟩ m') g n m' := heap_setCell_same _ _ 9 _ _ m' h

def SfDone (n a : Int) (g C : Nat) (w : World) (e : Ending) (w' : World) : Prop := ∃ s l c mb, e = .returned (.slice s l c) ∧ GuAt w' g n (.map (some mb)) ∧ PlacesAt w' C mb ∧ Own .i64 3 w' C (.slice s l c) (prSets n a) ∧ Only g w w'

set_option maxHeartbeats 1000000 in
theorem impl_setsFor (n : Int) (a : Int) (g C : Nat) (w : World) (h : GuOK w g n C) (hg : g < C) (hC : C ≤ w.heap.size) (hn : proB n = true) (a0 : 0 ≤ a) (a3 : a ≤ 3) : Calls Tryd.prog 124 #[.pointer (some ⟨g, 0, none⟩), .int .i64 a] w (SfDone n a g C w) := by
  obtain ⟨m, hm, h2⟩ := h
  have q1 : ∀ (x y : Operand) (m : Option Nat) (w : World), (eqGuard .eql 114 x y (.map m) (.map none)).run Tryd.prog w = .ok () w := fun _ _ _ _ => by kernel_rfl
  have q2 : ∀ (w : World), (binOp .eql 114 (.map none) (.map none)).run Tryd.prog w = .ok (.bool true) w := fun _ => by kernel_rfl
  have q3 : ∀ (mb : Nat) (w : World), (binOp .eql 114 (.map (some mb)) (.map none)).run Tryd.prog w = .ok (.bool false) w := fun _ _ => by kernel_rfl
  rcases h2 with rfl | ⟨mb, rfl, hp⟩
  · have HS := Lib.hid (fun w => impl_setsOfPlaces w)
    have HM := Lib.hid hm
    have ⟨c0, c1, c2, c3, c4, c5, c6, c7, c8, c9⟩ := row10_cells hm
    clear c1 c2 c3 c4 c5 c6 c7 c8 hm
    go_enter Tryd.func124, Tryd.ntmps124
    go_wp2_with fail
    refine (HS.out _).mono ?_
    rintro e w1 ⟨mb, rfl, hp, b1⟩
    have HM1 := Lib.hid (HM.out.keep b1)
    have ⟨d0, d1, d2, d3, d4, d5, d6, d7, d8, d9⟩ := row10_cells HM1.out
    have ⟨_, _, _, _, _, _, _, _, _, f9⟩ := row10_thaw HM1.out
    have HM2 := Lib.hid (HM1.out.put (.map (some mb)))
    have hgl : g < w1.heap.size := HM1.out.lt
    have O2 : Hid (Only g w (w1.setCell ⟨g, 9, none⟩ (.map (some mb)))) := Lib.hid ((only_below HM.out.lt b1).trans (Only.set g 9 w1 _))
    have HP2 : Hid (PlacesAt (w1.setCell ⟨g, 9, none⟩ (.map (some mb))) C mb) := Lib.hid ((hp.low hC).only (Only.set g 9 w1 _) hg)
    obtain ⟨s, l, c, hl, ho⟩ := HP2.out.look hn a0 a3
    have HL := Lib.hid (fun q => show SfDone n a g C w (.returned (.slice s l c)) ((w1.setCell ⟨g, 9, none⟩ (.map (some mb))).drewN q) from ⟨s, l, c, mb, rfl, HM2.out, HP2.out.move (fun _ _ _ => rfl), ho, O2.out.drewN q⟩)
    clear d1 d2 d3 d4 d5 d6 d7 d8 b1 hp ho c0 c9
    have ⟨x0, x1, x2, x3, x4, x5, x6, x7, x8, x9⟩ := row10_cells HM2.out
    clear x1 x2 x3 x4 x5 x6 x7 x8
    go_wp2
    generalize w1.setCell ⟨g, 9, none⟩ (.map (some mb)) = W2 at *
    go_quiet (fail)
    go_wp2
    go_ret
    exact HL.out _
  · obtain ⟨s, l, c, hl, ho⟩ := hp.look hn a0 a3
    have HL := Lib.hid (fun q => show SfDone n a g C w (.returned (.slice s l c)) (w.drewN q) from ⟨s, l, c, mb, rfl, hm, hp.move (fun _ _ _ => rfl), ho, (Only.refl _ _).drewN q⟩)
    have ⟨c0, c1, c2, c3, c4, c5, c6, c7, c8, c9⟩ := row10_cells hm
    clear c1 c2 c3 c4 c5 c6 c7 c8 hp ho hm
    go_enter Tryd.func124, Tryd.ntmps124
    go_wp2_with fail
    go_quiet (fail)
    go_wp2
    go_ret
    exact HL.out _

/-- A set is no set 0. -/
theorem prSets_pos (n a : Int) : hasB (prSets n a) 0 = false := by
  unfold prSets prSet0 prSet1 prSet2
  repeat' split
  all_goals rfl
theorem allow7_bad {n a b c p m : Int} (h : fsC b c ≠ 0) (hb : 1 ≤ b) (hb3 : b ≤ 3) : allowB n ⟨7, a, b, c, p, m⟩ = false := by
  have hf : findNo b c = 0 := by
    unfold fsC at h
    rw [if_pos (by simp [inB]; omega)] at h
    by_cases h0 : findNo b c = 0
    · exact h0
    · rw [if_neg h0] at h
      exact absurd rfl h
  have := prSets_pos n a
  unfold hasB at this
  simp only [allowB, hf]
  exact this
theorem allow7_ok {n a b c p m : Int} : allowB n ⟨7, a, b, c, p, m⟩ = hasB (prSets n a) (findNo b c) := by simp only [allowB, hasB]; rfl

/-- What the guide's methods that may make its map leave. -/
def GaDone (q : Bool) (g : Nat) (n : Int) (C : Nat) (w : World) (e : Ending) (w' : World) : Prop := e = .returned (.bool q) ∧ GuOK w' g n C ∧ Only g w w'

end Go.Proofs.YtdckjhobikfggaaDoor

namespace Go.Proofs.YtdckjhobikfggaaDoor
open Go.RowKit Go.Sort

/-- What a reading holds beside the guide. -/
structure RZ where
  x : St
  l : Value
  m0 : Value
/-- A map that was made stays. -/
def RZ.q (ζ : RZ) (m : Value) : Prop := m = ζ.m0 ∨ ζ.m0 = .map none
theorem RZ.q_new {ζ : RZ} (h : ζ.q (.map none)) (m : Value) : ζ.q m := h.elim (fun h => .inr h.symm) .inr
def GRt (ζ : RZ) (w : World) (g : Nat) (n : Int) (m : Value) : Prop := RdAt w g n m ζ.x ζ.l
def GRk (ζ : RZ) (w : World) (g : Nat) (n : Int) (C : Nat) : Prop := ∃ m, GRt ζ w g n m ∧ (m = .map none ∨ ∃ mb, m = .map (some mb) ∧ PlacesAt w C mb) ∧ ζ.q m
theorem GRt.lt {ζ : RZ} {w : World} {g : Nat} {n : Int} {m : Value} (h : GRt ζ w g n m) : g < w.heap.size := RdAt.lt h
theorem GRt.keep {ζ : RZ} {w w' : World} {g : Nat} {n : Int} {m : Value} (h : GRt ζ w g n m) (b : Below w.heap.size w w') : GRt ζ w' g n m := RdAt.keep h b
theorem GRt.put {ζ : RZ} {w : World} {g : Nat} {n : Int} {m : Value} (h : GRt ζ w g n m) (m' : Value) : GRt ζ (w.setCell ⟨g, 9, none⟩ m') g n m' := heap_setCell_same _ _ 9 _ _ m' h
theorem GRk.keep {ζ : RZ} {w w' : World} {g C : Nat} {n : Int} (h : GRk ζ w g n C) (b : Below w.heap.size w w') : GRk ζ w' g n C := by
  obtain ⟨m, h1, h2, hq⟩ := h
  refine ⟨m, h1.keep b, h2.imp id ?_, hq⟩
  rintro ⟨mb, h3, h4⟩
  exact ⟨mb, h3, h4.keep b⟩
theorem grt_cells {ζ : RZ} {w : World} {g : Nat} {n : Int} {m : Value} (h : GRt ζ w g n m) : w.cell? ⟨g, 0, none⟩ = some (.int .i64 n) ∧ w.cell? ⟨g, 1, none⟩ = some (.string (prName n)) ∧ w.cell? ⟨g, 2, none⟩ = some (.string (prHead n)) ∧ w.cell? ⟨g, 3, none⟩ = some (.slice none 0 0) ∧ w.cell? ⟨g, 4, none⟩ = some (.bool (prRight n)) ∧ w.cell? ⟨g, 5, none⟩ = some (.bool (prShifts n)) ∧ w.cell? ⟨g, 6, none⟩ = some (.bool (prSingle n)) ∧ w.cell? ⟨g, 7, none⟩ = some (.bool (prReset n)) ∧ w.cell? ⟨g, 8, none⟩ = some (.bool (prClear n)) ∧ w.cell? ⟨g, 9, none⟩ = some m := by
  refine ⟨?_, ?_, ?_, ?_, ?_, ?_, ?_, ?_, ?_, ?_⟩ <;> (rw [cell_of_row _ _ _ _ _ _ h]; rfl)
theorem grt_thaw {ζ : RZ} {w : World} {g : Nat} {n : Int} {m : Value} (h : GRt ζ w g n m) : w.frozen? ⟨g, 0, none⟩ = false ∧ w.frozen? ⟨g, 1, none⟩ = false ∧ w.frozen? ⟨g, 2, none⟩ = false ∧ w.frozen? ⟨g, 3, none⟩ = false ∧ w.frozen? ⟨g, 4, none⟩ = false ∧ w.frozen? ⟨g, 5, none⟩ = false ∧ w.frozen? ⟨g, 6, none⟩ = false ∧ w.frozen? ⟨g, 7, none⟩ = false ∧ w.frozen? ⟨g, 8, none⟩ = false ∧ w.frozen? ⟨g, 9, none⟩ = false :=
  ⟨frozen_of_row w _ 0 _ _ h, frozen_of_row w _ 1 _ _ h, frozen_of_row w _ 2 _ _ h, frozen_of_row w _ 3 _ _ h, frozen_of_row w _ 4 _ _ h, frozen_of_row w _ 5 _ _ h, frozen_of_row w _ 6 _ _ h, frozen_of_row w _ 7 _ _ h, frozen_of_row w _ 8 _ _ h, frozen_of_row w _ 9 _ _ h⟩
theorem RdAt.mr {w : World} {b : Nat} {n : Int} {m l : Value} {x : St} (h : RdAt w b n m x l) : MRt ⟨n, m, l⟩ w b x := h
theorem RdAt.gr {w : World} {b : Nat} {n : Int} {m l : Value} {x : St} (h : RdAt w b n m x l) : GRt ⟨x, l, m⟩ w b n m := h

/-- The machine's cells written anew. -/
def putStR (w : World) (g : Nat) (y : St) : World := (((((((w.setCell ⟨g, 10, none⟩ (.int .i64 y.g0)).setCell ⟨g, 11, none⟩ (.int .i64 y.g1)).setCell ⟨g, 12, none⟩ (.int .i64 y.g2)).setCell ⟨g, 13, none⟩ (.int .i64 y.g3)).setCell ⟨g, 14, none⟩ (.int .i64 y.l)).setCell ⟨g, 15, none⟩ (.int .i64 y.s)).setCell ⟨g, 16, none⟩ (.int .i64 y.d))
theorem putR_row {w : World} {g : Nat} {n : Int} {m l : Value} {x : St} (h : RdAt w g n m x l) (y : St) : RdAt (putStR w g y) g n m y l := by
  have k0 : (w.setCell ⟨g, 10, none⟩ (.int .i64 y.g0)).heap[g]? = some (.cells #[.int .i64 n, .string (prName n), .string (prHead n), .slice none 0 0, .bool (prRight n), .bool (prShifts n), .bool (prSingle n), .bool (prReset n), .bool (prClear n), m, .int .i64 y.g0, .int .i64 x.g1, .int .i64 x.g2, .int .i64 x.g3, .int .i64 x.l, .int .i64 x.s, .int .i64 x.d, l] 122) := heap_setCell_same _ g 10 _ _ (.int .i64 y.g0) h
  have k1 : ((w.setCell ⟨g, 10, none⟩ (.int .i64 y.g0)).setCell ⟨g, 11, none⟩ (.int .i64 y.g1)).heap[g]? = some (.cells #[.int .i64 n, .string (prName n), .string (prHead n), .slice none 0 0, .bool (prRight n), .bool (prShifts n), .bool (prSingle n), .bool (prReset n), .bool (prClear n), m, .int .i64 y.g0, .int .i64 y.g1, .int .i64 x.g2, .int .i64 x.g3, .int .i64 x.l, .int .i64 x.s, .int .i64 x.d, l] 122) := heap_setCell_same _ g 11 _ _ (.int .i64 y.g1) k0
  have k2 : (((w.setCell ⟨g, 10, none⟩ (.int .i64 y.g0)).setCell ⟨g, 11, none⟩ (.int .i64 y.g1)).setCell ⟨g, 12, none⟩ (.int .i64 y.g2)).heap[g]? = some (.cells #[.int .i64 n, .string (prName n), .string (prHead n), .slice none 0 0, .bool (prRight n), .bool (prShifts n), .bool (prSingle n), .bool (prReset n), .bool (prClear n), m, .int .i64 y.g0, .int .i64 y.g1, .int .i64 y.g2, .int .i64 x.g3, .int .i64 x.l, .int .i64 x.s, .int .i64 x.d, l] 122) := heap_setCell_same _ g 12 _ _ (.int .i64 y.g2) k1
  have k3 : ((((w.setCell ⟨g, 10, none⟩ (.int .i64 y.g0)).setCell ⟨g, 11, none⟩ (.int .i64 y.g1)).setCell ⟨g, 12, none⟩ (.int .i64 y.g2)).setCell ⟨g, 13, none⟩ (.int .i64 y.g3)).heap[g]? = some (.cells #[.int .i64 n, .string (prName n), .string (prHead n), .slice none 0 0, .bool (prRight n), .bool (prShifts n), .bool (prSingle n), .bool (prReset n), .bool (prClear n), m, .int .i64 y.g0, .int .i64 y.g1, .int .i64 y.g2, .int .i64 y.g3, .int .i64 x.l, .int .i64 x.s, .int .i64 x.d, l] 122) := heap_setCell_same _ g 13 _ _ (.int .i64 y.g3) k2
  have k4 : (((((w.setCell ⟨g, 10, none⟩ (.int .i64 y.g0)).setCell ⟨g, 11, none⟩ (.int .i64 y.g1)).setCell ⟨g, 12, none⟩ (.int .i64 y.g2)).setCell ⟨g, 13, none⟩ (.int .i64 y.g3)).setCell ⟨g, 14, none⟩ (.int .i64 y.l)).heap[g]? = some (.cells #[.int .i64 n, .string (prName n), .string (prHead n), .slice none 0 0, .bool (prRight n), .bool (prShifts n), .bool (prSingle n), .bool (prReset n), .bool (prClear n), m, .int .i64 y.g0, .int .i64 y.g1, .int .i64 y.g2, .int .i64 y.g3, .int .i64 y.l, .int .i64 x.s, .int .i64 x.d, l] 122) := heap_setCell_same _ g 14 _ _ (.int .i64 y.l) k3
  have k5 : ((((((w.setCell ⟨g, 10, none⟩ (.int .i64 y.g0)).setCell ⟨g, 11, none⟩ (.int .i64 y.g1)).setCell ⟨g, 12, none⟩ (.int .i64 y.g2)).setCell ⟨g, 13, none⟩ (.int .i64 y.g3)).setCell ⟨g, 14, none⟩ (.int .i64 y.l)).setCell ⟨g, 15, none⟩ (.int .i64 y.s)).heap[g]? = some (.cells #[.int .i64 n, .string (prName n), .string (prHead n), .slice none 0 0, .bool (prRight n), .bool (prShifts n), .bool (prSingle n), .bool (prReset n), .bool (prClear n), m, .int .i64 y.g0, .int .i64 y.g1, .int .i64 y.g2, .int .i64 y.g3, .int .i64 y.l, .int .i64 y.s, .int .i64 x.d, l] 122) := heap_setCell_same _ g 15 _ _ (.int .i64 y.s) k4
  have k6 : (((((((w.setCell ⟨g, 10, none⟩ (.int .i64 y.g0)).setCell ⟨g, 11, none⟩ (.int .i64 y.g1)).setCell ⟨g, 12, none⟩ (.int .i64 y.g2)).setCell ⟨g, 13, none⟩ (.int .i64 y.g3)).setCell ⟨g, 14, none⟩ (.int .i64 y.l)).setCell ⟨g, 15, none⟩ (.int .i64 y.s)).setCell ⟨g, 16, none⟩ (.int .i64 y.d)).heap[g]? = some (.cells #[.int .i64 n, .string (prName n), .string (prHead n), .slice none 0 0, .bool (prRight n), .bool (prShifts n), .bool (prSingle n), .bool (prReset n), .bool (prClear n), m, .int .i64 y.g0, .int .i64 y.g1, .int .i64 y.g2, .int .i64 y.g3, .int .i64 y.l, .int .i64 y.s, .int .i64 y.d, l] 122) := heap_setCell_same _ g 16 _ _ (.int .i64 y.d) k5
  exact k6
theorem only_putStR (b : Nat) (w : World) (y : St) : Only b w (putStR w b y) := ((((((Only.set b 10 w _).trans (Only.set b 11 _ _)).trans (Only.set b 12 _ _)).trans (Only.set b 13 _ _)).trans (Only.set b 14 _ _)).trans (Only.set b 15 _ _)).trans (Only.set b 16 _ _)

set_option maxHeartbeats 1000000 in
theorem impl_atRestR (n : Int) (x : St) (m l : Value) (b : Nat) (w : World) (h : RdAt w b n m x l) (hx : stOKB x = true) : Calls Tryd.prog 121 #[.pointer (some ⟨b, 0, none⟩), .pointer (some ⟨b, 10, none⟩)] w fun e w' => e = .returned (.bool (restB n x)) ∧ w = w' := by
  have HP := Lib.hid (fun w h => impl_pendingR (κ := ⟨n, m, l⟩) x b w h)
  rw [pend_eq hx] at HP
  have HR : Hid (restB n x = (!pendB x && (!prReset n || (decide (x.l = 0) && decide (x.g0 = 1))))) := Lib.hid rfl
  have HM := Lib.hid h.mr
  have ⟨c0, c1, c2, c3, c4, c5, c6, c7, c8, c9⟩ := grt_cells h.gr
  have ⟨y0, y1, y2, y3, y4, y5, y6⟩ := h.mr.cells
  clear c0 c1 c2 c3 c4 c5 c6 c8 c9 h hx y1 y2 y3 y5 y6
  generalize restB n x = q at *
  cases hp : pendB x
  · rw [hp] at HP HR
    cases hr : prReset n
    · have HE : Hid (q = true) := Lib.hid (by rw [HR.out, hr]; rfl)
      rw [hr] at c7
      clear hr hp
      go_enter Tryd.func121, Tryd.ntmps121
      go_wp2_with fail
      refine (HP.out _ HM.out).mono ?_
      rintro e w1 ⟨rfl, rfl⟩
      go_wp2
      go_ret
      exact ⟨ret_bool HE.out.symm, rfl⟩
    · rw [hr] at c7
      by_cases hl : x.l = 0
      · have HE : Hid (q = (x.g0 == 1)) := Lib.hid (by rw [HR.out, hr, show decide (x.l = 0) = true by simpa using hl]; rfl)
        have el : (x.l == 0) = true := by simp [hl]
        clear hl hr hp
        go_enter Tryd.func121, Tryd.ntmps121
        go_wp2_with fail
        refine (HP.out _ HM.out).mono ?_
        rintro e w1 ⟨rfl, rfl⟩
        go_wp2
        go_ret
        exact ⟨ret_bool HE.out.symm, rfl⟩
      · have HE : Hid (q = false) := Lib.hid (by rw [HR.out, hr, show decide (x.l = 0) = false by simpa using hl]; rfl)
        have el : (x.l == 0) = false := by simp [hl]
        clear hr hp
        go_enter Tryd.func121, Tryd.ntmps121
        go_wp2_with fail
        refine (HP.out _ HM.out).mono ?_
        rintro e w1 ⟨rfl, rfl⟩
        go_wp2
        go_ret
        exact ⟨ret_bool HE.out.symm, rfl⟩
  · have HE : Hid (q = false) := Lib.hid (by rw [HR.out, hp]; rfl)
    rw [hp] at HP
    clear hp
    go_enter Tryd.func121, Tryd.ntmps121
    go_wp2_with fail
    refine (HP.out _ HM.out).mono ?_
    rintro e w1 ⟨rfl, rfl⟩
    go_wp2
    go_ret
    exact ⟨ret_bool HE.out.symm, rfl⟩

def ElDoneR (n : Int) (x : St) (m l : Value) (b : Nat) (w : World) (e : Ending) (w' : World) : Prop := e = .returned (.int .i64 (elC n x)) ∧ RdAt w' b n m (elX n x) l ∧ Only b w w'
theorem elDoneR {n : Int} {x y : St} {m l : Value} {b : Nat} {w w' : World} {c : Int} (hc : elC n x = c) (hy : elX n x = y) (hm : RdAt w' b n m y l) (ho : Only b w w') : ElDoneR n x m l b w (.returned (.int .i64 c)) w' := ⟨by rw [hc], by rw [hy]; exact hm, ho⟩

end Go.Proofs.YtdckjhobikfggaaDoor

namespace Go.Proofs.YtdckjhobikfggaaDoor
open Go.RowKit Go.Sort
variable {ζ : RZ}

def SfDoneR (ζ : RZ) (n a : Int) (g C : Nat) (w : World) (e : Ending) (w' : World) : Prop := ∃ s l c mb, e = .returned (.slice s l c) ∧ GRt ζ w' g n (.map (some mb)) ∧ ζ.q (.map (some mb)) ∧ PlacesAt w' C mb ∧ Own .i64 3 w' C (.slice s l c) (prSets n a) ∧ Only g w w'

set_option maxHeartbeats 1000000 in
theorem impl_setsForR (n : Int) (a : Int) (g C : Nat) (w : World) (h : GRk ζ w g n C) (hg : g < C) (hC : C ≤ w.heap.size) (hn : proB n = true) (a0 : 0 ≤ a) (a3 : a ≤ 3) : Calls Tryd.prog 124 #[.pointer (some ⟨g, 0, none⟩), .int .i64 a] w (SfDoneR ζ n a g C w) := by
  obtain ⟨m, hm, h2, hq⟩ := h
  have q1 : ∀ (x y : Operand) (m : Option Nat) (w : World), (eqGuard .eql 114 x y (.map m) (.map none)).run Tryd.prog w = .ok () w := fun _ _ _ _ => by kernel_rfl
  have q2 : ∀ (w : World), (binOp .eql 114 (.map none) (.map none)).run Tryd.prog w = .ok (.bool true) w := fun _ => by kernel_rfl
  have q3 : ∀ (mb : Nat) (w : World), (binOp .eql 114 (.map (some mb)) (.map none)).run Tryd.prog w = .ok (.bool false) w := fun _ _ => by kernel_rfl
  rcases h2 with rfl | ⟨mb, rfl, hp⟩
  · have HS := Lib.hid (fun w => impl_setsOfPlaces w)
    have HQ := Lib.hid hq
    clear hq
    have HM := Lib.hid hm
    have ⟨c0, c1, c2, c3, c4, c5, c6, c7, c8, c9⟩ := grt_cells hm
    clear c1 c2 c3 c4 c5 c6 c7 c8 hm
    go_enter Tryd.func124, Tryd.ntmps124
    go_wp2_with fail
    refine (HS.out _).mono ?_
    rintro e w1 ⟨mb, rfl, hp, b1⟩
    have HM1 := Lib.hid (HM.out.keep b1)
    have ⟨d0, d1, d2, d3, d4, d5, d6, d7, d8, d9⟩ := grt_cells HM1.out
    have ⟨_, _, _, _, _, _, _, _, _, f9⟩ := grt_thaw HM1.out
    have HM2 := Lib.hid (HM1.out.put (.map (some mb)))
    have hgl : g < w1.heap.size := HM1.out.lt
    have O2 : Hid (Only g w (w1.setCell ⟨g, 9, none⟩ (.map (some mb)))) := Lib.hid ((only_below HM.out.lt b1).trans (Only.set g 9 w1 _))
    have HP2 : Hid (PlacesAt (w1.setCell ⟨g, 9, none⟩ (.map (some mb))) C mb) := Lib.hid ((hp.low hC).only (Only.set g 9 w1 _) hg)
    obtain ⟨s, l, c, hl, ho⟩ := HP2.out.look hn a0 a3
    have HL := Lib.hid (fun q => show SfDoneR ζ n a g C w (.returned (.slice s l c)) ((w1.setCell ⟨g, 9, none⟩ (.map (some mb))).drewN q) from ⟨s, l, c, mb, rfl, HM2.out, RZ.q_new HQ.out _, HP2.out.move (fun _ _ _ => rfl), ho, O2.out.drewN q⟩)
    clear d1 d2 d3 d4 d5 d6 d7 d8 b1 hp ho c0 c9
    have ⟨x0, x1, x2, x3, x4, x5, x6, x7, x8, x9⟩ := grt_cells HM2.out
    clear x1 x2 x3 x4 x5 x6 x7 x8
    go_wp2
    generalize w1.setCell ⟨g, 9, none⟩ (.map (some mb)) = W2 at *
    go_quiet (fail)
    go_wp2
    go_ret
    exact HL.out _
  · obtain ⟨s, l, c, hl, ho⟩ := hp.look hn a0 a3
    have HL := Lib.hid (fun q => show SfDoneR ζ n a g C w (.returned (.slice s l c)) (w.drewN q) from ⟨s, l, c, mb, rfl, hm, hq, hp.move (fun _ _ _ => rfl), ho, (Only.refl _ _).drewN q⟩)
    have ⟨c0, c1, c2, c3, c4, c5, c6, c7, c8, c9⟩ := grt_cells hm
    clear c1 c2 c3 c4 c5 c6 c7 c8 hp ho hm hq
    go_enter Tryd.func124, Tryd.ntmps124
    go_wp2_with fail
    go_quiet (fail)
    go_wp2
    go_ret
    exact HL.out _

/-- What the guide's methods that may make its map leave. -/
def GaDoneR (ζ : RZ) (q : Bool) (g : Nat) (n : Int) (C : Nat) (w : World) (e : Ending) (w' : World) : Prop := e = .returned (.bool q) ∧ GRk ζ w' g n C ∧ Only g w w'

end Go.Proofs.YtdckjhobikfggaaDoor

namespace Go.Proofs.YtdckjhobikfggaaDoor
open Go.RowKit


/-- The worlds on the way through 'allows': the guide's map may have been made. -/
def AlW (W0 : World) (g : Nat) (n : Int) (C : Nat) : Type := { w' : World // GuOK w' g n C ∧ Only g W0 w' }
theorem alw_cell {W0 : World} {g tb i : Nat} {n : Int} {C : Nat} {v : Value} (h : W0.cell? ⟨tb, i, none⟩ = some v) (hne : tb ≠ g) (p : AlW W0 g n C) : p.1.cell? ⟨tb, i, none⟩ = some v := by
  have hl := World.block_lt_of_cell? W0 _ h
  have hb := p.2.2.2 tb hne hl
  rw [← h]
  unfold World.cell?
  rw [hb]
theorem alw_below {W0 : World} {g : Nat} {n : Int} {C : Nat} {f : FuncId} {args : Array Value} {v : Value} (hgW : g < W0.heap.size) (p : AlW W0 g n C) (h : Calls Tryd.prog f args p.1 fun e w' => e = .returned v ∧ Below p.1.heap.size p.1 w') : Calls Tryd.prog f args p.1 fun e w'' => e = .returned v ∧ ∃ q : AlW W0 g n C, w'' = q.1 :=
  h.mono fun _ w' ⟨he, hb⟩ => ⟨he, ⟨w', p.2.1.keep hb, p.2.2.trans (only_below (Nat.lt_of_lt_of_le hgW p.2.2.1.size) hb)⟩, rfl⟩
theorem alw_done {W0 : World} {g : Nat} {n : Int} {C : Nat} {f : FuncId} {args : Array Value} {q : Bool} (p : AlW W0 g n C) (h : Calls Tryd.prog f args p.1 (GaDone q g n C p.1)) : Calls Tryd.prog f args p.1 fun e w'' => e = .returned (.bool q) ∧ ∃ q : AlW W0 g n C, w'' = q.1 :=
  h.mono fun _ w' ⟨he, hG, ho⟩ => ⟨he, ⟨w', hG, p.2.2.trans ho⟩, rfl⟩

theorem ga_below {n : Int} {g C : Nat} {q : Bool} {f : FuncId} {args : Array Value} {W : World} (hG : GuOK W g n C) (hgl : g < W.heap.size) (h : Calls Tryd.prog f args W fun e w' => e = .returned (.bool q) ∧ Below W.heap.size W w') : Calls Tryd.prog f args W (GaDone q g n C W) :=
  h.mono fun _ _ ⟨he, hb⟩ => ⟨he, hG.keep hb, only_below hgl hb⟩

/-- AllowsToken: what it answers. -/
def atC (n : Int) (t : Tok) : Int := if proB n = true then (if tokOKB t = true then 0 else 1) else 5
def atB (n : Int) (t : Tok) : Bool := proB n && (tokOKB t && allowB n t)
def AtDone (n : Int) (t : Tok) (w : World) (e : Ending) (w' : World) : Prop := e = .returned (.tuple #[.bool (atB n t), .int .i64 (atC n t)]) ∧ Below w.heap.size w w'
theorem atDone_bad {n : Int} {t : Tok} {w w' : World} {c : Int} (h : atC n t = c) (h0 : c ≠ 0) (hb : Below w.heap.size w w') : AtDone n t w (.returned (.tuple #[.bool false, .int .i64 c])) w' := by
  refine ⟨?_, hb⟩
  have : atB n t = false := by
    unfold atC at h
    unfold atB
    cases h1 : proB n <;> cases h2 : tokOKB t <;> simp_all
  rw [this, h]
theorem atDone_ok {n : Int} {t : Tok} {w w' : World} {b : Bool} (h1 : proB n = true) (h2 : tokOKB t = true) (h3 : allowB n t = b) (hb : Below w.heap.size w w') : AtDone n t w (.returned (.tuple #[.bool b, .int .i64 0])) w' := by
  refine ⟨?_, hb⟩
  rw [atB, atC, h1, h2, h3]
  simp

end Go.Proofs.YtdckjhobikfggaaDoor

namespace Go.Proofs.YtdckjhobikfggaaDoor
open Go.RowKit Go.Sort
variable {ζ : RZ}

/-- The worlds on the way through 'allows': the guide's map may have been made. -/
def AlWR (ζ : RZ) (W0 : World) (g : Nat) (n : Int) (C : Nat) : Type := { w' : World // GRk ζ w' g n C ∧ Only g W0 w' }

theorem alw_cellR {W0 : World} {g tb i : Nat} {n : Int} {C : Nat} {v : Value} (h : W0.cell? ⟨tb, i, none⟩ = some v) (hne : tb ≠ g) (p : AlWR ζ W0 g n C) : p.1.cell? ⟨tb, i, none⟩ = some v := by
  have hl := World.block_lt_of_cell? W0 _ h
  have hb := p.2.2.2 tb hne hl
  rw [← h]
  unfold World.cell?
  rw [hb]

theorem alw_belowR {W0 : World} {g : Nat} {n : Int} {C : Nat} {f : FuncId} {args : Array Value} {v : Value} (hgW : g < W0.heap.size) (p : AlWR ζ W0 g n C) (h : Calls Tryd.prog f args p.1 fun e w' => e = .returned v ∧ Below p.1.heap.size p.1 w') : Calls Tryd.prog f args p.1 fun e w'' => e = .returned v ∧ ∃ q : AlWR ζ W0 g n C, w'' = q.1 :=
  h.mono fun _ w' ⟨he, hb⟩ => ⟨he, ⟨w', p.2.1.keep hb, p.2.2.trans (only_below (Nat.lt_of_lt_of_le hgW p.2.2.1.size) hb)⟩, rfl⟩

theorem alw_doneR {W0 : World} {g : Nat} {n : Int} {C : Nat} {f : FuncId} {args : Array Value} {q : Bool} (p : AlWR ζ W0 g n C) (h : Calls Tryd.prog f args p.1 (GaDoneR ζ q g n C p.1)) : Calls Tryd.prog f args p.1 fun e w'' => e = .returned (.bool q) ∧ ∃ q : AlWR ζ W0 g n C, w'' = q.1 :=
  h.mono fun _ w' ⟨he, hG, ho⟩ => ⟨he, ⟨w', hG, p.2.2.trans ho⟩, rfl⟩

theorem ga_belowR {n : Int} {g C : Nat} {q : Bool} {f : FuncId} {args : Array Value} {W : World} (hG : GRk ζ W g n C) (hgl : g < W.heap.size) (h : Calls Tryd.prog f args W fun e w' => e = .returned (.bool q) ∧ Below W.heap.size W w') : Calls Tryd.prog f args W (GaDoneR ζ q g n C W) :=
  h.mono fun _ _ ⟨he, hb⟩ => ⟨he, hG.keep hb, only_below hgl hb⟩

end Go.Proofs.YtdckjhobikfggaaDoor

namespace Go.Proofs.YtdckjhobikfggaaDoor
open Go.RowKit Go.Sort

/-- The code of a token that is refused whatever the state is. -/
def refC (n : Int) (t : Tok) : Int := if t.k = 8 then 13 else if t.k = 9 ∨ (t.k = 7 ∧ findNo t.b t.c = 0) then 10 else if allowB n t = false then 11 else 0
def RfDone (n : Int) (t : Tok) (g C : Nat) (w : World) (e : Ending) (w' : World) : Prop := e = .returned (.int .i64 (refC n t)) ∧ GuOK w' g n C ∧ Only g w w'

end Go.Proofs.YtdckjhobikfggaaDoor

namespace Go.Proofs.YtdckjhobikfggaaDoor
open Go.RowKit Go.Sort
variable {ζ : RZ}

def RfDoneR (ζ : RZ) (n : Int) (t : Tok) (g C : Nat) (w : World) (e : Ending) (w' : World) : Prop := e = .returned (.int .i64 (refC n t)) ∧ GRk ζ w' g n C ∧ Only g w w'

end Go.Proofs.YtdckjhobikfggaaDoor

namespace Go.Proofs.YtdckjhobikfggaaDoor
open Go.RowKit Go.Sort
variable {κ : RK}

theorem mvDone_sameR {x : St} {p : Stp} {b : Nat} {w w' : World} {r : Int} (h : p = ⟨x, r, 0⟩) (hr : 0 ≤ r) (hm : MRt κ w b x) (hb : Below w.heap.size w w') : MvDoneR κ p b w (.returned (.tuple #[.int .i64 r, .bool true, .int .i64 0])) w' :=
  ⟨by rw [mv_some h hr], by rw [h]; exact hm.keep hb, only_below hm.lt hb⟩

theorem MvDoneR.from {p : Stp} {b : Nat} {w w1 w2 : World} {e : Ending} (h : MvDoneR κ p b w1 e w2) (hb : b < w.heap.size) (hw : Below w.heap.size w w1) : MvDoneR κ p b w e w2 :=
  ⟨h.1, h.2.1, (only_below hb hw).trans h.2.2⟩

/-- A token changes the machine, and a code is told. -/
def ChDoneR (κ : RK) (p : Stp) (g : Nat) (w : World) (e : Ending) (w' : World) : Prop := e = .returned (.int .i64 p.c) ∧ MRt κ w' g p.y ∧ Only g w w'

theorem chDone_noneR {x : St} {p : Stp} {g : Nat} {w w' : World} {c : Int} (h : p = ⟨x, -1, c⟩) (hm : MRt κ w g x) (hb : Below w.heap.size w w') : ChDoneR κ p g w (.returned (.int .i64 c)) w' :=
  ⟨by rw [h], by rw [h]; exact hm.keep hb, only_below hm.lt hb⟩

theorem ChDoneR.drew {p : Stp} {g : Nat} {w w' : World} {e : Ending} (h : ChDoneR κ p g w e w') : ChDoneR κ p g w e w'.drew := ⟨h.1, h.2.1, h.2.2.drewN 1⟩

theorem chDone_setR {x y : St} {p : Stp} {g j : Nat} {v : Int} {w : World} {o : Obj} (h : p = ⟨y, -1, 0⟩) (hm : MRt κ w g x) (hy : MRt κ (w.setCell ⟨g, j, none⟩ (.int .i64 v)) g y) : ChDoneR κ p g w (.returned (.int .i64 0)) ((w.setCell ⟨g, j, none⟩ (.int .i64 v)).alloc o) :=
  ⟨by rw [h], by rw [h]; exact hy.keep (below_one _ _), (Only.set g j w _).alloc hm.lt o⟩

end Go.Proofs.YtdckjhobikfggaaDoor

namespace Go.Proofs.YtdckjhobikfggaaDoor
open Go.RowKit Go.Sort
variable {κ : RK}

set_option maxHeartbeats 1000000 in
set_option maxRecDepth 100000 in

theorem MvDoneR.ofCh {q : Stp} {g : Nat} {w w' : World} {c : Int} (hr : q.r = -1) (hc : c = q.c) (hm : MRt κ w' g q.y) (ho : Only g w w') : MvDoneR κ q g w (.returned (.tuple #[.int .i64 0, .bool false, .int .i64 c])) w' :=
  ⟨by rw [hc]; unfold mvV toldR toldB; rw [hr]; rfl, hm, ho⟩

end Go.Proofs.YtdckjhobikfggaaDoor

namespace Go.Proofs.YtdckjhobikfggaaDoor
open Go.RowKit Go.Sort

/-- Only the blocks b and g may have changed. -/
def Only2 (b g : Nat) (w w' : World) : Prop := (∀ B, B ≤ b → B ≤ g → Below B w w') ∧ ∀ i, i ≠ b → i ≠ g → i < w.heap.size → w'.heap[i]? = w.heap[i]?
theorem Only2.refl (b g : Nat) (w : World) : Only2 b g w w := ⟨fun _ _ _ => Below.refl _ _, fun _ _ _ _ => rfl⟩
theorem Only.two_right {b g : Nat} {w w' : World} (h : Only g w w') : Only2 b g w w' := ⟨fun _ _ hB => h.1.mono hB, fun i _ hg hl => h.2 i hg hl⟩
theorem Only.two_left {b g : Nat} {w w' : World} (h : Only b w w') : Only2 b g w w' := ⟨fun _ hB _ => h.1.mono hB, fun i hb _ hl => h.2 i hb hl⟩
theorem Only2.size {b g : Nat} {w w' : World} (h : Only2 b g w w') : w.heap.size ≤ w'.heap.size := (h.1 0 (Nat.zero_le _) (Nat.zero_le _)).size
theorem Only2.trans {b g : Nat} {w w1 w2 : World} (h : Only2 b g w w1) (k : Only2 b g w1 w2) : Only2 b g w w2 :=
  ⟨fun B h1 h2 => (h.1 B h1 h2).trans (k.1 B h1 h2), fun i hb hg hl => by rw [k.2 i hb hg (Nat.lt_of_lt_of_le hl h.size), h.2 i hb hg hl]⟩

theorem stepT_ctl {x : St} {t : Tok} (h : t.k = 1) : (stepT x t).y = x := by
  unfold stepT calm
  rw [h]
  simp
  repeat' split
  all_goals rfl
def GsDone (n : Int) (x : St) (t : Tok) (b g C : Nat) (w : World) (e : Ending) (w' : World) : Prop := e = .returned (mvV (stepP n x t)) ∧ MAt w' b (stepP n x t).y ∧ GuOK w' g n C ∧ Only2 b g w w'
theorem gs_of {n : Int} {x : St} {t : Tok} {b g C : Nat} {w w' : World} {p : Stp} {v : Value} (hp : stepP n x t = p) (hv : mvV p = v) (hm : MAt w' b p.y) (hG : GuOK w' g n C) (ho : Only2 b g w w') : GsDone n x t b g C w (.returned v) w' := by
  subst hp
  exact ⟨by rw [hv], hm, hG, ho⟩
theorem stepP_ref {n : Int} {x : St} {t : Tok} (h : refC n t ≠ 0) : stepP n x t = ⟨x, -1, refC n t⟩ := by
  unfold refC at h ⊢
  unfold stepP
  repeat' split
  all_goals first | rfl | simp_all
theorem stepP_go {n : Int} {x : St} {t : Tok} (h : refC n t = 0) : stepP n x t = if (stepT x t).c ≠ 0 then ⟨x, -1, (stepT x t).c⟩ else
    if t.k = 1 ∧ t.a = 10 then (if restB n x = true then ⟨lineX n (stepT x t).y, (stepT x t).r, 0⟩ else ⟨x, -1, 14⟩) else ⟨(stepT x t).y, (stepT x t).r, 0⟩ := by
  unfold refC at h
  unfold stepP
  repeat' split at h
  all_goals simp_all
theorem GuOK.at {w : World} {g C : Nat} {n : Int} (h : GuOK w g n C) : ∃ m, GuAt w g n m := by
  obtain ⟨m, h1, _⟩ := h
  exact ⟨m, h1⟩

end Go.Proofs.YtdckjhobikfggaaDoor

namespace Go.Proofs.YtdckjhobikfggaaDoor
open Go.RowKit Go.Sort

def GsDoneR (n : Int) (x : St) (l m0 : Value) (t : Tok) (b C : Nat) (w : World) (e : Ending) (w' : World) : Prop := e = .returned (mvV (stepP n x t)) ∧ GRk ⟨(stepP n x t).y, l, m0⟩ w' b n C ∧ Only b w w'
theorem gs_ofR {n : Int} {x : St} {l m0 : Value} {t : Tok} {b C : Nat} {w w' : World} {p : Stp} {v : Value} (hp : stepP n x t = p) (hv : mvV p = v) (hG : GRk ⟨p.y, l, m0⟩ w' b n C) (ho : Only b w w') : GsDoneR n x l m0 t b C w (.returned v) w' := by
  subst hp
  exact ⟨by rw [hv], hG, ho⟩

end Go.Proofs.YtdckjhobikfggaaDoor

namespace Go.Proofs.YtdckjhobikfggaaDoor
open Go.RowKit Go.Sort

theorem anewX_clear {n : Int} {x : St} (h : prClear n = true) : anewX n x = startP n := by rw [anewX, if_pos h]
theorem startP_form (n : Int) : startP n = ⟨1, (startP n).g1, 0, 0, 0, 0, 0⟩ := by
  unfold startP
  split <;> rfl
theorem anewX_keep {n : Int} {x : St} (h : prClear n = false) : anewX n x = ⟨(startP n).g0, x.g1, x.g2, x.g3, (startP n).l, (startP n).s, (startP n).d⟩ := by
  rw [anewX, h, startP_form]; rfl

theorem rest_ok {x : St} (h : stOKB x = true) : stOKB ⟨x.g0, x.g1, x.g2, x.g3, x.l, 0, 0⟩ = true := by
  obtain ⟨h1, h2, h3⟩ := stOK_parts h
  have e1 : regsOK ⟨x.g0, x.g1, x.g2, x.g3, x.l, 0, 0⟩ = true := by rw [regs_same (x := x) (y := ⟨x.g0, x.g1, x.g2, x.g3, x.l, 0, 0⟩) rfl rfl rfl rfl]; exact h1
  have e2 : headOK ⟨x.g0, x.g1, x.g2, x.g3, x.l, 0, 0⟩ = true := by
    unfold headOK at h2 ⊢
    rw [Bool.and_eq_true] at h2
    rw [h2.1]; rfl
  unfold stOKB
  rw [e1, e2]; rfl
theorem anewX_ok {n : Int} {x : St} (h : stOKB x = true) : stOKB (anewX n x) = true := by
  unfold anewX
  split
  · exact startP_ok n
  · obtain ⟨h1, h2, h3⟩ := stOK_parts h
    rw [startP_form]
    unfold regsOK at h1
    rw [Bool.and_eq_true] at h1
    have e1 : regsOK ⟨1, x.g1, x.g2, x.g3, 0, 0, 0⟩ = true := by
      unfold regsOK
      rw [Bool.and_eq_true]
      refine ⟨by rfl, ?_⟩
      have := h1.2
      unfold regOK at this ⊢
      exact this
    have e2 : headOK ⟨1, x.g1, x.g2, x.g3, 0, 0, 0⟩ = true := by rfl
    unfold stOKB
    rw [e1, e2]; rfl
theorem badX_ok {n : Int} {x : St} {t : Tok} (h : stOKB x = true) : stOKB (badX n x t) = true := by
  unfold badX
  split
  · exact anewX_ok h
  · exact rest_ok h

def LooDone (z : List Int) (w : World) (e : Ending) (w' : World) : Prop := ∃ v, e = .returned v ∧ Own .i64 3 w' w.heap.size v z ∧ Below w.heap.size w w'

end Go.Proofs.YtdckjhobikfggaaDoor

namespace Go.Proofs.YtdckjhobikfggaaDoor
open Go.RowKit Go.Sort

set_option maxHeartbeats 1000000 in
theorem impl_endCode (n : Int) (x : St) (m l : Value) (b : Nat) (w : World) (h : RdAt w b n m x l) (hx : stOKB x = true) : Calls Tryd.prog 90 #[.pointer (some ⟨b, 0, none⟩)] w fun e w' => e = .returned (.int .i64 (endC n x)) ∧ ∃ q, w' = w.drewN q := by
  have HP := Lib.hid (fun w h => impl_pendingR (κ := ⟨n, m, l⟩) x b w h)
  rw [pend_eq hx] at HP
  have HA := Lib.hid (fun q => impl_atRestR n x m l b (w.drewN q) (show RdAt (w.drewN q) b n m x l from h) hx)
  have HM := Lib.hid h
  have HE : Hid (endC n x = if pendB x = true then 13 else if restB n x = true then 0 else 14) := Lib.hid rfl
  clear h hx
  cases hp : pendB x
  · rw [hp] at HP HE
    cases hr : restB n x
    · have HE2 : Hid (14 = endC n x) := Lib.hid (by rw [HE.out, hr]; rfl)
      rw [hr] at HA
      go_enter Tryd.func90, Tryd.ntmps90
      go_wp2_with fail
      refine (HP.out _ HM.out).mono ?_
      rintro e w1 ⟨rfl, rfl⟩
      go_wp2_with fail
      go_quiet ((go_at_call 121; exact Calls.quiet_of_same ((HA.out _).mono fun _ _ ⟨he, hw⟩ => ⟨he, hw.symm⟩)))
      go_wp2
      go_ret
      exact ⟨ret_int HE2.out, _, rfl⟩
    · have HE2 : Hid (0 = endC n x) := Lib.hid (by rw [HE.out, hr]; rfl)
      rw [hr] at HA
      go_enter Tryd.func90, Tryd.ntmps90
      go_wp2_with fail
      refine (HP.out _ HM.out).mono ?_
      rintro e w1 ⟨rfl, rfl⟩
      go_wp2_with fail
      go_quiet ((go_at_call 121; exact Calls.quiet_of_same ((HA.out _).mono fun _ _ ⟨he, hw⟩ => ⟨he, hw.symm⟩)))
      go_wp2
      go_ret
      exact ⟨ret_int HE2.out, _, rfl⟩
  · have HE2 : Hid (13 = endC n x) := Lib.hid (by rw [HE.out, hp]; rfl)
    rw [hp] at HP
    go_enter Tryd.func90, Tryd.ntmps90
    go_wp2_with fail
    refine (HP.out _ HM.out).mono ?_
    rintro e w1 ⟨rfl, rfl⟩
    go_wp2
    go_ret
    exact ⟨ret_int HE2.out, 0, rfl⟩

end Go.Proofs.YtdckjhobikfggaaDoor

namespace Go.Proofs.YtdckjhobikfggaaDoor
open Go.RowKit Go.Sort

theorem empty_size {r : ByteArray} (h : r.size = 0) : r.toList.isEmpty = true := by
  rw [Lib.toList_data, List.isEmpty_iff_length_eq_zero, Array.length_toList]
  exact h
theorem some_size {r : ByteArray} (h : 0 < r.size) : r.toList.isEmpty = false := by
  rw [Lib.toList_data]
  have : r.data.toList.length = r.size := Array.length_toList
  cases hl : r.data.toList with
  | nil => rw [hl] at this; simp at this; omega
  | cons _ _ => rfl
theorem size_zero {r : ByteArray} (h : r.size = 0) : r = ⟨#[]⟩ := by
  apply ByteArray.ext
  exact Array.eq_empty_of_size_eq_zero h

theorem impl_isProperPrefix (t h : ByteArray) (w : World) : Calls Tryd.prog 117 #[.string t, .string h] w fun e w' => e = .returned (.bool (decide (t.size < h.size) && hasPre h t)) ∧ w = w' := by
  have HP := Lib.hid (fun w => str_HasPrefix h t w)
  by_cases hl : t.size < h.size
  · have hl2 : (t.size : Int) < (h.size : Int) := by omega
    have HE : Hid ((decide (t.size < h.size) && hasPre h t) = hasPre h t) := Lib.hid (by rw [decide_eq_true hl, Bool.true_and])
    generalize hasPre h t = q at *
    go_enter Tryd.func117, Tryd.ntmps117
    go_wp2_with fail
    refine (HP.out _).mono ?_
    rintro e w1 ⟨rfl, rfl⟩
    go_wp2
    go_ret
    exact ⟨ret_bool HE.out.symm, rfl⟩
  · have hl2 : ¬ (t.size : Int) < (h.size : Int) := by omega
    rw [show (decide (t.size < h.size) && hasPre h t) = false by rw [decide_eq_false hl, Bool.false_and]]
    go_enter Tryd.func117, Tryd.ntmps117
    go_wp2
    go_ret
    exact ⟨rfl, rfl⟩

set_option maxHeartbeats 1000000 in
set_option maxRecDepth 100000 in
theorem impl_restOK (d : De) (g : Nat) (w : World) (h : DeAt w g d) (ht : TabM w) (hn : proB d.n = true) (hr : d.r.size ≤ 1048576) :
    Calls Tryd.prog 88 #[.pointer (some ⟨g, 0, none⟩)] w fun e w' => e = .returned (.bool (!(d.o && decide (0 < d.r.size)) && waitB d.n d.b d.r)) ∧ Below w.heap.size w w' := by
  have ⟨y0, _, _, _, _, _, _, _, _, _, y10, y11, y12⟩ := h.cells
  have hl := h.lt
  by_cases h0 : d.r.size = 0
  · have he := empty_size h0
    have HE : Hid ((!(d.o && decide (0 < d.r.size)) && waitB d.n d.b d.r) = true) := Lib.hid (by rw [wait_empty h0, decide_eq_false (by omega), Bool.and_false]; rfl)
    clear h0 ht hn h hr
    go_enter Tryd.func88, Tryd.ntmps88
    go_wp2
    go_ret
    exact ⟨ret_bool HE.out.symm, Below.refl _ _⟩
  have h1 : 0 < d.r.size := by omega
  have he := some_size h1
  cases ho : d.o
  · rw [ho] at y12
    cases hb : d.b
    · rw [hb] at y11
      have HE : Hid ((!(false && decide (0 < d.r.size)) && waitB d.n false d.r) = (decide (d.r.size < (prHead d.n).size) && hasPre (prHead d.n) d.r)) := Lib.hid (by rw [wait_ahead h1]; rfl)
      have HP := Lib.hid (fun w ht => impl_profileWithoutSets d.n w ht hn)
      have HX := Lib.hid (fun w => impl_isProperPrefix d.r (prHead d.n) w)
      have HT := Lib.hid ht.1
      have HD := Lib.hid h
      have hfd : ∀ w, (Instr.field 109 (prV d.n (.slice none 0 0)) 1).run Tryd.prog w = .ok (.string (prHead d.n)) w := fun _ => by kernel_rfl
      unfold prV at HP hfd
      rw [HE.out]
      generalize (decide (d.r.size < (prHead d.n).size) && hasPre (prHead d.n) d.r) = q at *
      clear h0 ht hn h hr h1 HE
      go_enter Tryd.func88, Tryd.ntmps88
      go_wp2_with fail
      have HS : (fun W' : World => DeAt W' g d ∧ TabSets W' ∧ Below w.heap.size w W') w.drew := ⟨HD.out, HT.out, below_drewN (Below.refl _ _) 1⟩
      have hS := HS
      refine wp_region_held (S := (fun W' : World => DeAt W' g d ∧ TabSets W' ∧ Below w.heap.size w W')) (by kernel_rfl) ?_
      refine wpAnyH_take (i := 0) (v := .pointer (some ⟨g, 0, none⟩)) rfl (by kernel_rfl) (by kernel_rfl) (by kernel_rfl) (fun _ _ _ h => h) (.inl ⟨by rfl, fun w' hS' => by go_simp⟩) hS ?_
      refine wpAnyH_take (i := 1) (v := .pointer (some ⟨g, 0, none⟩)) rfl (by kernel_rfl) (by kernel_rfl) (by kernel_rfl) (fun _ _ _ h => h) (.inl ⟨by rfl, fun w' hS' => by go_simp⟩) hS ?_
      refine wpAnyH_take (i := 2) (v := .pointer (some ⟨g, 10, none⟩)) rfl (by kernel_rfl) (by kernel_rfl) (by kernel_rfl) (fun _ _ _ h => h) (.inl ⟨by rfl, fun w' hS' => by go_simp⟩) hS ?_
      refine wpAnyH_take (i := 3) (v := .string d.r) rfl (by kernel_rfl) (by kernel_rfl) (by kernel_rfl) (fun _ _ _ h => h) (.inl ⟨by rfl, fun w' hS' => by have ⟨_, _, _, _, _, _, _, _, _, _, s10, _, _⟩ := hS'.1.cells; go_simp⟩) hS ?_
      refine wpAnyH_take (i := 4) (v := .pointer (some ⟨g, 0, none⟩)) rfl (by kernel_rfl) (by kernel_rfl) (by kernel_rfl) (fun _ _ _ h => h) (.inl ⟨by rfl, fun w' hS' => by go_simp⟩) hS ?_
      refine wpAnyH_take (i := 5) (v := .pointer (some ⟨g, 0, none⟩)) rfl (by kernel_rfl) (by kernel_rfl) (by kernel_rfl) (fun _ _ _ h => h) (.inl ⟨by rfl, fun w' hS' => by go_simp⟩) hS ?_
      refine wpAnyH_take (i := 6) (v := .pointer (some ⟨g, 0, none⟩)) rfl (by kernel_rfl) (by kernel_rfl) (by kernel_rfl) (fun _ _ _ h => h) (.inl ⟨by rfl, fun w' hS' => by go_simp⟩) hS ?_
      refine wpAnyH_take (i := 7) (v := .int .i64 d.n) rfl (by kernel_rfl) (by kernel_rfl) (by kernel_rfl) (fun _ _ _ h => h) (.inl ⟨by rfl, fun w' hS' => by have s0 := hS'.1.cells.1; go_simp⟩) hS ?_
      refine wpAnyH_ready (rs := [8]) (by kernel_rfl) (by simp) (AllReadyH.cons rfl (fun K hK => ?_) AllReadyH.nil)
      clear hS HS
      go_simp
      refine (HP.out w.drew HT.out).mono ?_
      rintro e w1 ⟨rfl, b1⟩
      have B1 : Below w.heap.size w w1 := bel_drew b1
      have hS : (fun W' : World => DeAt W' g d ∧ TabSets W' ∧ Below w.heap.size w W') w1 := ⟨HD.out.keep B1, HT.out.keep B1, B1⟩
      refine hK.out _ _ hS (fun _ => ?_)
      clear hK K
      refine wpAnyH_take (i := 9) (v := .string (prHead d.n)) rfl (by kernel_rfl) (by kernel_rfl) (by kernel_rfl) (fun _ _ _ h => h) (.inl ⟨by rfl, fun w' hS' => by have := hfd w'; go_simp⟩) hS ?_
      refine wpAnyH_ready (rs := [10]) (by kernel_rfl) (by simp) (AllReadyH.cons rfl (fun K hK => ?_) AllReadyH.nil)
      clear hS
      go_simp
      refine (HX.out _).mono ?_
      rintro e w2 ⟨rfl, rfl⟩
      refine hK.out _ _ ⟨HD.out.keep B1, HT.out.keep B1, B1⟩ (fun _ => ?_)
      clear hK K
      have hS : (fun W' : World => DeAt W' g d ∧ TabSets W' ∧ Below w.heap.size w W') w1 := ⟨HD.out.keep B1, HT.out.keep B1, B1⟩
      refine wpAnyH_take (i := 11) (v := .bool q) rfl (by kernel_rfl) (by kernel_rfl) (by kernel_rfl) (fun _ _ _ h => h) (.inl ⟨by rfl, fun w' hS' => by go_simp⟩) hS ?_
      refine wpAnyH_done (by kernel_rfl) ?_ _
      clear hS
      go_wp2
      go_ret
      exact ⟨rfl, B1⟩
    · rw [hb] at y11
      have HE : Hid ((!(false && decide (0 < d.r.size)) && waitB d.n true d.r) = decide ((nextTok d.r 0).k = 8)) := Lib.hid (by rw [wait_begun h1]; rfl)
      have HN := Lib.hid (fun w => impl_tokenAt d.r 0 w h1 hr)
      unfold TokDone tokV at HN
      rw [HE.out]
      generalize nextTok d.r 0 = y at *
      have hfd : ∀ w, (Instr.field 155 (.agg #[.int .i64 y.k, .int .i64 y.a, .int .i64 y.b, .int .i64 y.c, .int .i64 y.p, .int .i64 y.n]) 0).run Tryd.prog w = .ok (.int .i64 y.k) w := fun _ => by kernel_rfl
      clear h0 ht hn h hr h1 HE
      go_enter Tryd.func88, Tryd.ntmps88
      go_wp2_with fail
      refine (HN.out _).mono ?_
      rintro e w1 ⟨rfl, b1⟩
      go_wp2
      go_ret
      exact ⟨ret_bool (by simp [Bool.beq_eq_decide_eq]), b1⟩
  · rw [ho] at y12
    have HE : Hid ((!(true && decide (0 < d.r.size)) && waitB d.n d.b d.r) = false) := Lib.hid (by rw [decide_eq_true h1]; rfl)
    clear h0 ht hn h hr h1
    go_enter Tryd.func88, Tryd.ntmps88
    go_wp2
    go_ret
    exact ⟨ret_bool HE.out.symm, Below.refl _ _⟩

end Go.Proofs.YtdckjhobikfggaaDoor

namespace Go.Proofs.YtdckjhobikfggaaDoor
open Go.RowKit Go.Sort

theorem de_ret2 {P : Program} {fn : Func} {p u : Tmp} {a : Act} {w1 : World} {g : Nat} {ty : TypeId} {d : TypeDesc} {y : De} {c : Int} {Q : Ending → World → Prop} (h : fn.results = #[.cell p ty, .tmp u])
    (hp : a.tmps.getD p undef = .pointer (some ⟨g, 0, none⟩)) (hc : a.tmps.getD u undef = .int .i64 c) (hg : DeAt w1 g y)
    (hu : P.underlying ty = some d) (hd : (match d with | .struct _ | .array _ _ => true | _ => false) = true) (hi : (P.info? ty).map (·.size) = some 13) (hdef : a.defers = []) (hQ : Q (.returned (.tuple #[deV y, .int .i64 c])) w1) :
    bodyPost P fn Q .ret a w1 :=
  bodyPost_ret (results_row_tmp h _ _ g _ _ _ _ hp hg hu hd hi) hdef (by rw [hc]; exact hQ)
theorem de_ret3 {P : Program} {fn : Func} {p u v : Tmp} {a : Act} {w1 : World} {g : Nat} {ty : TypeId} {d : TypeDesc} {y : De} {l : Value} {c : Int} {Q : Ending → World → Prop} (h : fn.results = #[.cell p ty, .tmp u, .tmp v])
    (hp : a.tmps.getD p undef = .pointer (some ⟨g, 0, none⟩)) (hr : a.tmps.getD u undef = l) (hc : a.tmps.getD v undef = .int .i64 c) (hg : DeAt w1 g y)
    (hu : P.underlying ty = some d) (hd : (match d with | .struct _ | .array _ _ => true | _ => false) = true) (hi : (P.info? ty).map (·.size) = some 13) (hdef : a.defers = []) (hQ : Q (.returned (.tuple #[deV y, l, .int .i64 c])) w1) :
    bodyPost P fn Q .ret a w1 :=
  bodyPost_ret (results_cell_tmp2 h _ _ g _ _ _ _ hp hg hu hd hi) hdef (by rw [hr, hc]; exact hQ)

theorem deOK_bad {d : De} (h : proB d.n = false ∨ stOKB d.x = false ∨ inB d.a 0 1000000000 = false ∨ inB d.c 0 18 = false) : deOK d = false := by
  unfold deOK
  rcases h with h | h | h | h <;> rw [h] <;> simp
theorem deOK_rest {d : De} (h1 : proB d.n = true) (h2 : stOKB d.x = true) (h3 : inB d.a 0 1000000000 = true) (h4 : inB d.c 0 18 = true) : deOK d = (!(decide (d.c ≠ 0) && !d.o) && (!(d.o && decide (0 < d.r.size)) && waitB d.n d.b d.r)) := by
  unfold deOK
  rw [h1, h2, h3, h4]
  cases (!(decide (d.c ≠ 0) && !d.o)) <;> simp

theorem wd_some : ∀ k : Fin 19, (wd k).data.toList.isEmpty = false := by decide
theorem word_some (c : Int) (h : inB c 0 18 = true) : (wordV c).toList.isEmpty = false := by
  have ⟨h1, h2⟩ := inB_true h
  obtain ⟨k, rfl⟩ := Int.eq_ofNat_of_zero_le h1
  rw [wordV, if_pos ⟨h1, by omega⟩, Lib.toList_data]
  exact wd_some ⟨k, by omega⟩
theorem word_none (c : Int) (h : inB c 0 18 = false) : (wordV c).toList.isEmpty = true := by
  have h1 : ¬ (0 ≤ c ∧ c < 19) := fun h' => by
    have : inB c 0 18 = true := by simp [inB]; omega
    rw [this] at h; cases h
  rw [wordV, if_neg h1, Lib.toList_data]
  rfl

set_option maxHeartbeats 2000000 in
set_option maxRecDepth 100000 in
theorem impl_DecoderOK (d : De) (w : World) (ht : TabM w) (hw : TabWords w) (hx : Wide64 d.x) (hr : d.r.size ≤ 1048576) :
    Calls Tryd.prog 58 #[deV d] w fun e w' => e = .returned (.bool (deOK d)) ∧ Below w.heap.size w w' := by
  have HN := Lib.hid (fun w => impl_isProfile d.n w)
  have HSt := Lib.hid (fun w ht => impl_StateOK d.x w ht hx)
  have HR := Lib.hid (fun g w h ht hn => impl_restOK d g w h ht hn hr)
  have HC := Lib.hid (fun w h => impl_CodeWord d.c w h)
  have D0 : Hid (DeAt (w.alloc (.cells #[.int .i64 d.n, .int .i64 d.a, .int .i64 d.c, .int .i64 d.x.g0, .int .i64 d.x.g1, .int .i64 d.x.g2, .int .i64 d.x.g3, .int .i64 d.x.l, .int .i64 d.x.s, .int .i64 d.x.d, .string d.r, .bool d.b, .bool d.o] 47)) w.heap.size d) := Lib.hid (DeAt.new w d)
  have B0 := Lib.hid (below_one w (.cells #[.int .i64 d.n, .int .i64 d.a, .int .i64 d.c, .int .i64 d.x.g0, .int .i64 d.x.g1, .int .i64 d.x.g2, .int .i64 d.x.g3, .int .i64 d.x.l, .int .i64 d.x.s, .int .i64 d.x.d, .string d.r, .bool d.b, .bool d.o] 47))
  have HT0 := Lib.hid (ht.keep B0.out)
  have HW0 := Lib.hid (hw.keep B0.out)
  unfold stV at HSt
  unfold deV
  clear ht hw hx hr
  cases hn : proB d.n
  · rw [deOK_bad (.inl hn)]
    rw [hn] at HN
    go_enter Tryd.func58, Tryd.ntmps58
    go_wp2_with fail
    refine (HN.out _).mono ?_
    rintro e w1 ⟨rfl, rfl⟩
    go_wp2
    go_ret
    exact ⟨rfl, B0.out⟩
  have HNp := Lib.hid hn
  rw [hn] at HN
  cases hs : stOKB d.x
  · rw [deOK_bad (.inr (.inl hs))]
    rw [hs] at HSt
    clear hn
    go_enter Tryd.func58, Tryd.ntmps58
    go_wp2_with fail
    refine (HN.out _).mono ?_
    rintro e w1 ⟨rfl, rfl⟩
    go_wp2_with fail
    refine (HSt.out _ HT0.out).mono ?_
    rintro e w2 ⟨rfl, b2⟩
    go_wp2
    go_ret
    exact ⟨rfl, B0.out.trans (b2.mono B0.out.size)⟩
  have HSp := Lib.hid hs
  rw [hs] at HSt
  clear hn hs
  cases ha : inB d.a 0 1000000000
  · have ha2 : d.a < 0 ∨ (0 ≤ d.a ∧ 1000000000 < d.a) := by simp [inB] at ha; omega
    rw [deOK_bad (.inr (.inr (.inl ha)))]
    clear ha
    rcases ha2 with h1 | ⟨h0, h1⟩
    · go_enter Tryd.func58, Tryd.ntmps58
      go_wp2_with fail
      refine (HN.out _).mono ?_
      rintro e w1 ⟨rfl, rfl⟩
      go_wp2_with fail
      refine (HSt.out _ HT0.out).mono ?_
      rintro e w2 ⟨rfl, b2⟩
      have ⟨y0, y1, y2, _, _, _, _, _, _, _, y10, y11, y12⟩ := (D0.out.keep b2).cells
      go_wp2
      go_ret
      exact ⟨rfl, B0.out.trans (b2.mono B0.out.size)⟩
    · have h2 : ¬ d.a < 0 := by omega
      go_enter Tryd.func58, Tryd.ntmps58
      go_wp2_with fail
      refine (HN.out _).mono ?_
      rintro e w1 ⟨rfl, rfl⟩
      go_wp2_with fail
      refine (HSt.out _ HT0.out).mono ?_
      rintro e w2 ⟨rfl, b2⟩
      have ⟨y0, y1, y2, _, _, _, _, _, _, _, y10, y11, y12⟩ := (D0.out.keep b2).cells
      go_wp2
      go_ret
      exact ⟨rfl, B0.out.trans (b2.mono B0.out.size)⟩
  have HAp := Lib.hid ha
  have ⟨a0, a1⟩ := inB_true ha
  have a2 : ¬ d.a < 0 := by omega
  have a3 : ¬ 1000000000 < d.a := by omega
  clear ha
  cases hc : inB d.c 0 18
  · rw [deOK_bad (.inr (.inr (.inr hc)))]
    have hE := word_none d.c hc
    generalize wordV d.c = wv at *
    clear hc
    go_enter Tryd.func58, Tryd.ntmps58
    go_wp2_with fail
    refine (HN.out _).mono ?_
    rintro e w1 ⟨rfl, rfl⟩
    go_wp2_with fail
    refine (HSt.out _ HT0.out).mono ?_
    rintro e w2 ⟨rfl, b2⟩
    have ⟨y0, y1, y2, _, _, _, _, _, _, _, y10, y11, y12⟩ := (D0.out.keep b2).cells
    go_wp2_with fail
    refine (HC.out _ (HW0.out.keep b2)).mono ?_
    rintro e w3 ⟨rfl, rfl⟩
    go_wp2
    go_ret
    exact ⟨rfl, B0.out.trans (b2.mono B0.out.size)⟩
  have hE := word_some d.c hc
  rw [deOK_rest HNp.out HSp.out HAp.out hc]
  generalize wordV d.c = wv at *
  clear hc
  generalize hq : (!(d.o && decide (0 < d.r.size)) && waitB d.n d.b d.r) = q at *
  clear hq
  by_cases h0 : d.c = 0
  · have e0 : (d.c == 0) = true := by simpa using h0
    have HE : Hid ((!(decide (d.c ≠ 0) && !d.o) && q) = q) := Lib.hid (by rw [decide_eq_false (by simpa using h0)]; simp)
    rw [HE.out]
    clear h0 HE
    go_enter Tryd.func58, Tryd.ntmps58
    go_wp2_with fail
    refine (HN.out _).mono ?_
    rintro e w1 ⟨rfl, rfl⟩
    go_wp2_with fail
    refine (HSt.out _ HT0.out).mono ?_
    rintro e w2 ⟨rfl, b2⟩
    have ⟨y0, y1, y2, _, _, _, _, _, _, _, y10, y11, y12⟩ := (D0.out.keep b2).cells
    go_wp2_with fail
    refine (HC.out _ (HW0.out.keep b2)).mono ?_
    rintro e w3 ⟨rfl, rfl⟩
    go_wp2_with fail
    refine (HR.out _ _ (D0.out.keep b2) (HT0.out.keep b2) HNp.out).mono ?_
    rintro e w3 ⟨rfl, b3⟩
    go_wp2
    go_ret
    exact ⟨rfl, (B0.out.trans (b2.mono B0.out.size)).trans (b3.mono (B0.out.trans (b2.mono B0.out.size)).size)⟩
  · have e0 : (d.c == 0) = false := by rw [beq_eq_false_iff_ne]; exact h0
    obtain ⟨o, ho⟩ : ∃ o, d.o = o := ⟨_, rfl⟩
    have HO := Lib.hid ho
    clear ho
    cases o
    · have HE : Hid ((!(decide (d.c ≠ 0) && !d.o) && q) = false) := Lib.hid (by rw [HO.out, decide_eq_true (by simpa using h0)]; simp)
      rw [HE.out]
      clear h0 HE
      go_enter Tryd.func58, Tryd.ntmps58
      go_wp2_with fail
      refine (HN.out _).mono ?_
      rintro e w1 ⟨rfl, rfl⟩
      go_wp2_with fail
      refine (HSt.out _ HT0.out).mono ?_
      rintro e w2 ⟨rfl, b2⟩
      have ⟨y0, y1, y2, _, _, _, _, _, _, _, y10, y11, y12⟩ := (D0.out.keep b2).cells
      rw [HO.out] at y12
      go_wp2_with fail
      refine (HC.out _ (HW0.out.keep b2)).mono ?_
      rintro e w3 ⟨rfl, rfl⟩
      go_wp2
      go_ret
      exact ⟨rfl, B0.out.trans (b2.mono B0.out.size)⟩
    · have HE : Hid ((!(decide (d.c ≠ 0) && !d.o) && q) = q) := Lib.hid (by rw [HO.out]; simp)
      rw [HE.out]
      clear h0 HE
      go_enter Tryd.func58, Tryd.ntmps58
      go_wp2_with fail
      refine (HN.out _).mono ?_
      rintro e w1 ⟨rfl, rfl⟩
      go_wp2_with fail
      refine (HSt.out _ HT0.out).mono ?_
      rintro e w2 ⟨rfl, b2⟩
      have ⟨y0, y1, y2, _, _, _, _, _, _, _, y10, y11, y12⟩ := (D0.out.keep b2).cells
      rw [HO.out] at y12
      go_wp2_with fail
      refine (HC.out _ (HW0.out.keep b2)).mono ?_
      rintro e w3 ⟨rfl, rfl⟩
      go_wp2_with fail
      refine (HR.out _ _ (D0.out.keep b2) (HT0.out.keep b2) HNp.out).mono ?_
      rintro e w3 ⟨rfl, b3⟩
      go_wp2
      go_ret
      exact ⟨rfl, (B0.out.trans (b2.mono B0.out.size)).trans (b3.mono (B0.out.trans (b2.mono B0.out.size)).size)⟩

/-- The code of a decoder that is over, 0 of any other. -/
def overC (d : De) : Int := if d.o = true ∧ d.c = 0 then 17 else d.c
theorem over_why {d : De} (h : d.o = true) : overC d = whyC d := by
  unfold overC whyC
  by_cases h0 : d.c = 0
  · rw [if_pos ⟨h, h0⟩, if_pos h0]
  · rw [if_neg (fun h => h0 h.2), if_neg h0]
theorem over_none {d : De} (h : d.o = false) (hc : d.c ≠ 0 → d.o = true) : overC d = 0 := by
  have h0 : d.c = 0 := by
    by_cases h0 : d.c = 0
    · exact h0
    · rw [hc h0] at h; cases h
  unfold overC
  rw [if_neg (fun h' => by rw [h] at h'; cases h'.1), h0]
theorem why_some (d : De) : whyC d ≠ 0 := by
  unfold whyC
  split
  · decide
  · assumption

theorem impl_overCode (o : Bool) (k : Int) (w : World) : Calls Tryd.prog 59 #[.bool o, .int .i64 k] w fun e w' => e = .returned (.int .i64 (if o = true ∧ k = 0 then 17 else k)) ∧ w = w' := by
  cases o
  · rw [if_neg (fun h => by cases h.1)]
    go_enter Tryd.func59, Tryd.ntmps59
    go_wp2
    go_ret
    exact ⟨rfl, rfl⟩
  · by_cases h0 : k = 0
    · have e0 : (k == 0) = true := by simpa using h0
      rw [if_pos ⟨rfl, h0⟩]
      clear h0
      go_enter Tryd.func59, Tryd.ntmps59
      go_wp2
      go_ret
      exact ⟨rfl, rfl⟩
    · have e0 : (k == 0) = false := by rw [beq_eq_false_iff_ne]; exact h0
      rw [if_neg (fun h => h0 h.2)]
      clear h0
      go_enter Tryd.func59, Tryd.ntmps59
      go_wp2
      go_ret
      exact ⟨rfl, rfl⟩

set_option maxHeartbeats 1000000 in
theorem impl_dend (d : De) (g : Nat) (c : Int) (w : World) (h : DeAt w g d) : Calls Tryd.prog 61 #[.pointer (some ⟨g, 0, none⟩), .int .i64 c] w fun e w' => e = .returned (.tuple #[]) ∧ DeAt w' g (failD d c) ∧ Only g w w' := by
  have HD : Hid (DeAt (((w.setCell ⟨g, 2, none⟩ (.int .i64 c)).setCell ⟨g, 4 + 6, none⟩ (.string ⟨#[]⟩)).setCell ⟨g, 12, none⟩ (.bool true)) g (failD d c)) := Lib.hid (((h.set2 c).set10 ⟨#[]⟩).set12 true)
  have HO : Hid (Only g w (((w.setCell ⟨g, 2, none⟩ (.int .i64 c)).setCell ⟨g, 4 + 6, none⟩ (.string ⟨#[]⟩)).setCell ⟨g, 12, none⟩ (.bool true))) := Lib.hid (((Only.set g 2 _ _).trans (Only.set g (4 + 6) _ _)).trans (Only.set g 12 _ _))
  have ⟨y0, y1, y2, _, _, _, _, _, _, _, y10, y11, y12⟩ := h.cells
  have ⟨z0, z1, z2, _, _, _, _, _, _, _, z10, z11, z12⟩ := h.thaw
  have hl := h.lt
  clear h
  go_enter Tryd.func61, Tryd.ntmps61
  go_wp2
  go_end0
  exact ⟨rfl, HD.out, HO.out⟩

end Go.Proofs.YtdckjhobikfggaaDoor

namespace Go.Proofs.YtdckjhobikfggaaDoor
open Go.RowKit Go.Sort

theorem pre_empty {h r : ByteArray} (hr : r.size = 0) : ((h.extract 0 0).toList == r.toList) = true := by
  rw [size_zero hr]
  have : h.extract 0 0 = ⟨#[]⟩ := size_zero (by simp)
  rw [this]
  exact beq_self_eq_true _
theorem pre_some {h r : ByteArray} (hl : r.size < h.size) : ((h.extract 0 r.size).toList == r.toList) = (decide (r.size < h.size) && hasPre h r) := by
  rw [hasPre, decide_eq_true hl, Bool.true_and, decide_eq_true (by omega), Bool.true_and]

theorem field_eq {h h' : ByteArray} (w : World) (e : h = h') : (Result.ok (Value.string h) w : Result Value) = Result.ok (Value.string h') w := by rw [e]
theorem deCells {w : World} {g : Nat} {n a c : Int} {x : St} {r : ByteArray} {b o : Bool} (h : DeAt w g ⟨n, a, c, x, r, b, o⟩) : w.cell? ⟨g, 0, none⟩ = some (.int .i64 n) ∧ w.cell? ⟨g, 1, none⟩ = some (.int .i64 a) ∧ w.cell? ⟨g, 2, none⟩ = some (.int .i64 c) ∧ w.cell? ⟨g, 3, none⟩ = some (.int .i64 x.g0) ∧ w.cell? ⟨g, 4, none⟩ = some (.int .i64 x.g1) ∧ w.cell? ⟨g, 5, none⟩ = some (.int .i64 x.g2) ∧ w.cell? ⟨g, 6, none⟩ = some (.int .i64 x.g3) ∧ w.cell? ⟨g, 7, none⟩ = some (.int .i64 x.l) ∧ w.cell? ⟨g, 8, none⟩ = some (.int .i64 x.s) ∧ w.cell? ⟨g, 9, none⟩ = some (.int .i64 x.d) ∧ w.cell? ⟨g, 10, none⟩ = some (.string r) ∧ w.cell? ⟨g, 11, none⟩ = some (.bool b) ∧ w.cell? ⟨g, 12, none⟩ = some (.bool o) := h.cells

set_option maxHeartbeats 2000000 in
set_option maxRecDepth 100000 in
theorem spec_l08Rest (d : De) (w : World) (hr : d.r.size ≤ 1048576) : Calls Tryd.prog 83 #[deV d] w fun e w' => e = .returned (.bool (waitB d.n d.b d.r)) ∧ Below w.heap.size w w' := by
  obtain ⟨n, a, c, x, r, b, o⟩ := d
  have hr' : r.size ≤ 1048576 := hr
  clear hr
  have HPf := Lib.hid (fun w => spec_l05Profile n w)
  have D0 : Hid (DeAt (w.alloc (.cells #[.int .i64 n, .int .i64 a, .int .i64 c, .int .i64 x.g0, .int .i64 x.g1, .int .i64 x.g2, .int .i64 x.g3, .int .i64 x.l, .int .i64 x.s, .int .i64 x.d, .string r, .bool b, .bool o] 47)) w.heap.size ⟨n, a, c, x, r, b, o⟩) := Lib.hid (DeAt.new w ⟨n, a, c, x, r, b, o⟩)
  have B0 := Lib.hid (below_one w (.cells #[.int .i64 n, .int .i64 a, .int .i64 c, .int .i64 x.g0, .int .i64 x.g1, .int .i64 x.g2, .int .i64 x.g3, .int .i64 x.l, .int .i64 x.s, .int .i64 x.d, .string r, .bool b, .bool o] 47))
  unfold deV
  dsimp only
  cases b
  · have hfd : ∀ v w, (Instr.field 109 (prV n v) 1).run Tryd.prog w = .ok (.string (prHead n)) w := fun _ _ => by kernel_rfl
    unfold prV at hfd
    have hh : prHead n = ⟨#[]⟩ ∨ prHead n = ⟨#[27, 36, 41, 67]⟩ := by unfold prHead; split; exact .inr rfl; exact .inl rfl
    by_cases h0 : r.size = 0
    · rw [wait_empty h0]
      have HP := Lib.hid (pre_empty (h := prHead n) h0)
      obtain rfl := size_zero h0
      clear h0 hr'
      rcases hh with hh | hh
      · have HFd := Lib.hid (fun v w => (hfd v w).trans (field_eq w hh))
        clear hh hfd
        go_enter Tryd.func83, Tryd.ntmps83
        go_wp2_with fail
        refine (HPf.out _).mono ?_
        rintro e w1 ⟨pv, rfl, hpv, b1⟩
        have hf1 := HFd.out pv w1
        have D1 := Lib.hid (D0.out.keep b1)
        have B1 := Lib.hid (B0.out.trans (b1.mono B0.out.size))
        have ⟨y0, y1, y2, _, _, _, _, _, _, _, y10, y11, _⟩ := deCells D1.out
        have hl1 := D1.out.lt
        unfold prV
        clear b1 hpv
        go_wp2_with fail
        go_quiet (fail)
        go_wp2
        go_ret
        exact ⟨rfl, below_drewN B1.out _⟩
      · have HFd := Lib.hid (fun v w => (hfd v w).trans (field_eq w hh))
        clear hh hfd
        go_enter Tryd.func83, Tryd.ntmps83
        go_wp2_with fail
        refine (HPf.out _).mono ?_
        rintro e w1 ⟨pv, rfl, hpv, b1⟩
        have hf1 := HFd.out pv w1
        have D1 := Lib.hid (D0.out.keep b1)
        have B1 := Lib.hid (B0.out.trans (b1.mono B0.out.size))
        have ⟨y0, y1, y2, _, _, _, _, _, _, _, y10, y11, _⟩ := deCells D1.out
        have hl1 := D1.out.lt
        unfold prV
        clear b1 hpv
        go_wp2_with fail
        go_quiet (fail)
        go_wp2
        go_ret
        exact ⟨rfl, below_drewN B1.out _⟩
    have h1 : 0 < r.size := by omega
    rw [wait_ahead h1]
    have h1' : (0 : Int) < (r.size : Int) := by omega
    by_cases h4 : r.size < 4
    · rcases hh with hh | hh
      · have HFd := Lib.hid (fun v w => (hfd v w).trans (field_eq w hh))
        rw [hh]
        have HE : (decide (r.size < (⟨#[]⟩ : ByteArray).size) && hasPre ⟨#[]⟩ r) = false := by rw [decide_eq_false (by show ¬ r.size < 0; omega)]; rfl
        rw [HE]
        have hm : decide ((r.size : Int) < max 0 1) = false := decide_eq_false (by omega)
        clear hh h0 h1 h4 HE hr' hfd
        go_enter Tryd.func83, Tryd.ntmps83
        go_wp2_with fail
        refine (HPf.out _).mono ?_
        rintro e w1 ⟨pv, rfl, hpv, b1⟩
        have hf1 := HFd.out pv w1
        have D1 := Lib.hid (D0.out.keep b1)
        have B1 := Lib.hid (B0.out.trans (b1.mono B0.out.size))
        have ⟨y0, y1, y2, _, _, _, _, _, _, _, y10, y11, _⟩ := deCells D1.out
        have hl1 := D1.out.lt
        unfold prV
        clear b1 hpv
        go_wp2_with fail
        go_quiet (fail)
        go_wp2
        go_ret
        exact ⟨rfl, below_drewN B1.out _⟩
      · have HFd := Lib.hid (fun v w => (hfd v w).trans (field_eq w hh))
        rw [hh]
        have HE := Lib.hid (pre_some (h := ⟨#[27, 36, 41, 67]⟩) (r := r) (show r.size < 4 from h4))
        have hm : decide ((r.size : Int) < max 4 1) = true := decide_eq_true (by omega)
        have h5' : (r.size : Int) ≤ 4 := by omega
        clear hh h0 h1 hr' hfd h4
        go_enter Tryd.func83, Tryd.ntmps83
        go_wp2_with fail
        refine (HPf.out _).mono ?_
        rintro e w1 ⟨pv, rfl, hpv, b1⟩
        have hf1 := HFd.out pv w1
        have D1 := Lib.hid (D0.out.keep b1)
        have B1 := Lib.hid (B0.out.trans (b1.mono B0.out.size))
        have ⟨y0, y1, y2, _, _, _, _, _, _, _, y10, y11, _⟩ := deCells D1.out
        have hl1 := D1.out.lt
        unfold prV
        clear b1 hpv
        go_wp2_with fail
        go_quiet (fail)
        go_wp2
        go_ret
        exact ⟨ret_bool HE.out, below_drewN B1.out _⟩
    · have HE : (decide (r.size < (prHead n).size) && hasPre (prHead n) r) = false := by
        have : (prHead n).size ≤ 4 := head_le n
        rw [decide_eq_false (by omega)]
        rfl
      rw [HE]
      rcases hh with hh | hh
      · have HFd := Lib.hid (fun v w => (hfd v w).trans (field_eq w hh))
        have hm : decide ((r.size : Int) < max 0 1) = false := decide_eq_false (by omega)
        clear hh h0 h1 h4 HE hr' hfd
        go_enter Tryd.func83, Tryd.ntmps83
        go_wp2_with fail
        refine (HPf.out _).mono ?_
        rintro e w1 ⟨pv, rfl, hpv, b1⟩
        have hf1 := HFd.out pv w1
        have D1 := Lib.hid (D0.out.keep b1)
        have B1 := Lib.hid (B0.out.trans (b1.mono B0.out.size))
        have ⟨y0, y1, y2, _, _, _, _, _, _, _, y10, y11, _⟩ := deCells D1.out
        have hl1 := D1.out.lt
        unfold prV
        clear b1 hpv
        go_wp2_with fail
        go_quiet (fail)
        go_wp2
        go_ret
        exact ⟨rfl, below_drewN B1.out _⟩
      · have HFd := Lib.hid (fun v w => (hfd v w).trans (field_eq w hh))
        have hm : decide ((r.size : Int) < max 4 1) = false := decide_eq_false (by omega)
        clear hh h0 h1 h4 HE hr' hfd
        go_enter Tryd.func83, Tryd.ntmps83
        go_wp2_with fail
        refine (HPf.out _).mono ?_
        rintro e w1 ⟨pv, rfl, hpv, b1⟩
        have hf1 := HFd.out pv w1
        have D1 := Lib.hid (D0.out.keep b1)
        have B1 := Lib.hid (B0.out.trans (b1.mono B0.out.size))
        have ⟨y0, y1, y2, _, _, _, _, _, _, _, y10, y11, _⟩ := deCells D1.out
        have hl1 := D1.out.lt
        unfold prV
        clear b1 hpv
        go_wp2_with fail
        go_quiet (fail)
        go_wp2
        go_ret
        exact ⟨rfl, below_drewN B1.out _⟩
  · by_cases h0 : r.size = 0
    · rw [wait_empty h0]
      have he := empty_size h0
      clear h0 hr'
      go_enter Tryd.func83, Tryd.ntmps83
      go_wp2
      go_ret
      exact ⟨rfl, B0.out⟩
    have h1 : 0 < r.size := by omega
    have he := some_size h1
    rw [wait_begun h1]
    by_cases h4 : r.size ≤ 4
    · have h4' : (r.size : Int) ≤ 4 := by omega
      have HN := Lib.hid (fun w => spec_l03Next r 0 w h1 hr')
      unfold TokDone tokV at HN
      generalize nextTok r 0 = y at *
      have hfd : ∀ w, (Instr.field 155 (.agg #[.int .i64 y.k, .int .i64 y.a, .int .i64 y.b, .int .i64 y.c, .int .i64 y.p, .int .i64 y.n]) 0).run Tryd.prog w = .ok (.int .i64 y.k) w := fun _ => by kernel_rfl
      clear h0 h1 hr' h4
      go_enter Tryd.func83, Tryd.ntmps83
      go_wp2_with fail
      refine (HN.out _).mono ?_
      rintro e w1 ⟨rfl, b1⟩
      go_wp2
      go_ret
      exact ⟨ret_bool (by simp [Bool.beq_eq_decide_eq]), B0.out.trans (b1.mono B0.out.size)⟩
    · have h4' : ¬ (r.size : Int) ≤ 4 := by omega
      have HE : decide ((nextTok r 0).k = 8) = false := decide_eq_false (fun h => h4 (by have := tail_le r 0 h1 h; omega))
      rw [HE]
      clear h0 hr' h4 HE
      go_enter Tryd.func83, Tryd.ntmps83
      go_wp2
      go_ret
      exact ⟨rfl, B0.out⟩

end Go.Proofs.YtdckjhobikfggaaDoor

namespace Go.Proofs.YtdckjhobikfggaaDoor
open Go.RowKit Go.Sort

theorem de_ret {P : Program} {fn : Func} {p : Tmp} {a : Act} {w w1 : World} {g : Nat} {ty : TypeId} {d : TypeDesc} {y : De} (h : fn.results = #[.cell p ty])
    (hp : a.tmps.getD p undef = .pointer (some ⟨g, 0, none⟩)) (hg : DeAt w1 g y)
    (hu : P.underlying ty = some d) (hd : (match d with | .struct _ | .array _ _ => true | _ => false) = true) (hi : (P.info? ty).map (·.size) = some 13) (hdef : a.defers = []) (hb : Below w.heap.size w w1) :
    bodyPost P fn (DeDone y w) .ret a w1 :=
  bodyPost_ret (results_cell_row h _ _ g _ _ _ _ hp hg hu hd hi) hdef ⟨rfl, hb⟩

/-- A decoder of the laws in a block. -/
def LDe (w : World) (g : Nat) (d : De) : Prop := w.heap[g]? = some (.cells #[.int .i64 d.n, .int .i64 d.a, .int .i64 d.c, .int .i64 d.x.g0, .int .i64 d.x.g1, .int .i64 d.x.g2, .int .i64 d.x.g3, .int .i64 d.x.l, .int .i64 d.x.s, .int .i64 d.x.d, .string d.r, .bool d.b, .bool d.o] 43)
theorem LDe.lt {w : World} {g : Nat} {d : De} (h : LDe w g d) : g < w.heap.size := (Array.getElem?_eq_some_iff.1 h).1
theorem LDe.keep {w w' : World} {g : Nat} {d : De} (h : LDe w g d) (b : Below w.heap.size w w') : LDe w' g d := (b.block g h.lt).trans h
theorem LDe.new (w : World) (d : De) : LDe (w.alloc (.cells #[.int .i64 d.n, .int .i64 d.a, .int .i64 d.c, .int .i64 d.x.g0, .int .i64 d.x.g1, .int .i64 d.x.g2, .int .i64 d.x.g3, .int .i64 d.x.l, .int .i64 d.x.s, .int .i64 d.x.d, .string d.r, .bool d.b, .bool d.o] 43)) w.heap.size d := heap_alloc_new _ _
theorem LDe.cells {w : World} {g : Nat} {d : De} (h : LDe w g d) : w.cell? ⟨g, 0, none⟩ = some (.int .i64 d.n) ∧ w.cell? ⟨g, 1, none⟩ = some (.int .i64 d.a) ∧ w.cell? ⟨g, 2, none⟩ = some (.int .i64 d.c) ∧ w.cell? ⟨g, 3, none⟩ = some (.int .i64 d.x.g0) ∧ w.cell? ⟨g, 4, none⟩ = some (.int .i64 d.x.g1) ∧ w.cell? ⟨g, 5, none⟩ = some (.int .i64 d.x.g2) ∧ w.cell? ⟨g, 6, none⟩ = some (.int .i64 d.x.g3) ∧ w.cell? ⟨g, 7, none⟩ = some (.int .i64 d.x.l) ∧ w.cell? ⟨g, 8, none⟩ = some (.int .i64 d.x.s) ∧ w.cell? ⟨g, 9, none⟩ = some (.int .i64 d.x.d) ∧ w.cell? ⟨g, 10, none⟩ = some (.string d.r) ∧ w.cell? ⟨g, 11, none⟩ = some (.bool d.b) ∧ w.cell? ⟨g, 12, none⟩ = some (.bool d.o) := by
  refine ⟨?_, ?_, ?_, ?_, ?_, ?_, ?_, ?_, ?_, ?_, ?_, ?_, ?_⟩ <;> (rw [cell_of_row _ _ _ _ _ _ h]; rfl)

theorem laws_szDecoder (d : De) (w : World) (hr : d.r.size ≤ maxLen) : Calls Tryd.prog 24 #[deV d, .int .i64 1048576] w fun e w' => e = .returned (.int .i64 (if d.r.size ≤ 1048576 then (1048576 - d.r.size : Int) else -1)) ∧ Below w.heap.size w w' := by
  have B0 := Lib.hid (below_one w (.cells #[.int .i64 d.n, .int .i64 d.a, .int .i64 d.c, .int .i64 d.x.g0, .int .i64 d.x.g1, .int .i64 d.x.g2, .int .i64 d.x.g3, .int .i64 d.x.l, .int .i64 d.x.s, .int .i64 d.x.d, .string d.r, .bool d.b, .bool d.o] 43))
  have hr' : d.r.size ≤ 9223372036854775807 := hr
  have u1 : IntKind.i64.wrap ((1048576 : Int) - (d.r.size : Int)) = (1048576 : Int) - (d.r.size : Int) := IntWalk.i64_in _ (by omega)
  unfold deV
  by_cases h : d.r.size ≤ 1048576
  · rw [if_pos h]
    have h2 : ¬ (1048576 : Int) - (d.r.size : Int) < 0 := by omega
    clear h hr hr'
    go_enter Tryd.func24, Tryd.ntmps24
    go_wp2
    go_ret
    exact ⟨rfl, B0.out⟩
  · rw [if_neg h]
    have h2 : (1048576 : Int) - (d.r.size : Int) < 0 := by omega
    clear h hr hr'
    go_enter Tryd.func24, Tryd.ntmps24
    go_wp2
    go_ret
    exact ⟨rfl, B0.out⟩

set_option maxHeartbeats 1000000 in
set_option maxRecDepth 100000 in
theorem laws_toDecoder (d : De) (w : World) : Calls Tryd.prog 26 #[deV d] w (DeDone d w) := by
  have HT := Lib.hid (fun w => laws_toState d.x w)
  have L0 := Lib.hid (LDe.new w d)
  unfold StDone stV at HT
  unfold deV
  go_enter Tryd.func26, Tryd.ntmps26
  have D0 : Hid (DeAt (((w.alloc (.cells #[.int .i64 d.n, .int .i64 d.a, .int .i64 d.c, .int .i64 d.x.g0, .int .i64 d.x.g1, .int .i64 d.x.g2, .int .i64 d.x.g3, .int .i64 d.x.l, .int .i64 d.x.s, .int .i64 d.x.d, .string d.r, .bool d.b, .bool d.o] 43)).alloc (.cells #[.int .i64 0, .int .i64 0, .int .i64 0, .int .i64 0, .int .i64 0, .int .i64 0, .int .i64 0, .int .i64 0, .int .i64 0, .int .i64 0, .string ⟨#[]⟩, .bool false, .bool false] 47)).alloc (.cells #[.int .i64 d.n, .int .i64 d.a, .int .i64 d.c, .int .i64 0, .int .i64 0, .int .i64 0, .int .i64 0, .int .i64 0, .int .i64 0, .int .i64 0, .string ⟨#[]⟩, .bool false, .bool false] 47)) (w.heap.size + 1 + 1) ⟨d.n, d.a, d.c, zeroSt, ⟨#[]⟩, false, false⟩) := Lib.hid (by
    have h := heap_alloc2_new (w.alloc (.cells #[.int .i64 d.n, .int .i64 d.a, .int .i64 d.c, .int .i64 d.x.g0, .int .i64 d.x.g1, .int .i64 d.x.g2, .int .i64 d.x.g3, .int .i64 d.x.l, .int .i64 d.x.s, .int .i64 d.x.d, .string d.r, .bool d.b, .bool d.o] 43)) (.cells #[.int .i64 0, .int .i64 0, .int .i64 0, .int .i64 0, .int .i64 0, .int .i64 0, .int .i64 0, .int .i64 0, .int .i64 0, .int .i64 0, .string ⟨#[]⟩, .bool false, .bool false] 47) (.cells #[.int .i64 d.n, .int .i64 d.a, .int .i64 d.c, .int .i64 0, .int .i64 0, .int .i64 0, .int .i64 0, .int .i64 0, .int .i64 0, .int .i64 0, .string ⟨#[]⟩, .bool false, .bool false] 47)
    rw [World.size_alloc] at h
    exact h)
  have R0 : Hid (DeAt (((w.alloc (.cells #[.int .i64 d.n, .int .i64 d.a, .int .i64 d.c, .int .i64 d.x.g0, .int .i64 d.x.g1, .int .i64 d.x.g2, .int .i64 d.x.g3, .int .i64 d.x.l, .int .i64 d.x.s, .int .i64 d.x.d, .string d.r, .bool d.b, .bool d.o] 43)).alloc (.cells #[.int .i64 0, .int .i64 0, .int .i64 0, .int .i64 0, .int .i64 0, .int .i64 0, .int .i64 0, .int .i64 0, .int .i64 0, .int .i64 0, .string ⟨#[]⟩, .bool false, .bool false] 47)).alloc (.cells #[.int .i64 d.n, .int .i64 d.a, .int .i64 d.c, .int .i64 0, .int .i64 0, .int .i64 0, .int .i64 0, .int .i64 0, .int .i64 0, .int .i64 0, .string ⟨#[]⟩, .bool false, .bool false] 47)) (w.heap.size + 1) zeroDe) := Lib.hid (by
    have h := heap_alloc2_old (w.alloc (.cells #[.int .i64 d.n, .int .i64 d.a, .int .i64 d.c, .int .i64 d.x.g0, .int .i64 d.x.g1, .int .i64 d.x.g2, .int .i64 d.x.g3, .int .i64 d.x.l, .int .i64 d.x.s, .int .i64 d.x.d, .string d.r, .bool d.b, .bool d.o] 43)) (.cells #[.int .i64 0, .int .i64 0, .int .i64 0, .int .i64 0, .int .i64 0, .int .i64 0, .int .i64 0, .int .i64 0, .int .i64 0, .int .i64 0, .string ⟨#[]⟩, .bool false, .bool false] 47) (.cells #[.int .i64 d.n, .int .i64 d.a, .int .i64 d.c, .int .i64 0, .int .i64 0, .int .i64 0, .int .i64 0, .int .i64 0, .int .i64 0, .int .i64 0, .string ⟨#[]⟩, .bool false, .bool false] 47)
    rw [World.size_alloc] at h
    exact h)
  have B0 := Lib.hid (((below_one w (.cells #[.int .i64 d.n, .int .i64 d.a, .int .i64 d.c, .int .i64 d.x.g0, .int .i64 d.x.g1, .int .i64 d.x.g2, .int .i64 d.x.g3, .int .i64 d.x.l, .int .i64 d.x.s, .int .i64 d.x.d, .string d.r, .bool d.b, .bool d.o] 43)).alloc (Nat.le_of_lt L0.out.lt) (.cells #[.int .i64 0, .int .i64 0, .int .i64 0, .int .i64 0, .int .i64 0, .int .i64 0, .int .i64 0, .int .i64 0, .int .i64 0, .int .i64 0, .string ⟨#[]⟩, .bool false, .bool false] 47)).alloc (by simp; omega) (.cells #[.int .i64 d.n, .int .i64 d.a, .int .i64 d.c, .int .i64 0, .int .i64 0, .int .i64 0, .int .i64 0, .int .i64 0, .int .i64 0, .int .i64 0, .string ⟨#[]⟩, .bool false, .bool false] 47))
  have L1 := Lib.hid (L0.out.keep (below_two _ (.cells #[.int .i64 0, .int .i64 0, .int .i64 0, .int .i64 0, .int .i64 0, .int .i64 0, .int .i64 0, .int .i64 0, .int .i64 0, .int .i64 0, .string ⟨#[]⟩, .bool false, .bool false] 47) (.cells #[.int .i64 d.n, .int .i64 d.a, .int .i64 d.c, .int .i64 0, .int .i64 0, .int .i64 0, .int .i64 0, .int .i64 0, .int .i64 0, .int .i64 0, .string ⟨#[]⟩, .bool false, .bool false] 47)))
  go_wp2_with fail
  refine (HT.out _).mono ?_
  generalize ((w.alloc (.cells #[.int .i64 d.n, .int .i64 d.a, .int .i64 d.c, .int .i64 d.x.g0, .int .i64 d.x.g1, .int .i64 d.x.g2, .int .i64 d.x.g3, .int .i64 d.x.l, .int .i64 d.x.s, .int .i64 d.x.d, .string d.r, .bool d.b, .bool d.o] 43)).alloc (.cells #[.int .i64 0, .int .i64 0, .int .i64 0, .int .i64 0, .int .i64 0, .int .i64 0, .int .i64 0, .int .i64 0, .int .i64 0, .int .i64 0, .string ⟨#[]⟩, .bool false, .bool false] 47)).alloc (.cells #[.int .i64 d.n, .int .i64 d.a, .int .i64 d.c, .int .i64 0, .int .i64 0, .int .i64 0, .int .i64 0, .int .i64 0, .int .i64 0, .int .i64 0, .string ⟨#[]⟩, .bool false, .bool false] 47) = W at *
  rintro e w1 ⟨rfl, b1⟩
  have D1 := Lib.hid (D0.out.keep b1)
  have R1 := Lib.hid (R0.out.keep b1)
  have B1 := Lib.hid (B0.out.trans (b1.mono B0.out.size))
  have ⟨l0, l1, l2, l3, l4, l5, l6, l7, l8, l9, l10, l11, l12⟩ := (L1.out.keep b1).cells
  have ⟨d0, d1, d2, d3, d4, d5, d6, d7, d8, d9, d10, d11, d12⟩ := deCells D1.out
  have ⟨z0, z1, z2, z3, z4, z5, z6, z7, z8, z9, z10, z11, z12⟩ := D1.out.thaw
  have ⟨r0, r1, r2, r3, r4, r5, r6, r7, r8, r9, r10, r11, r12⟩ := deCells R1.out
  have ⟨s0, s1, s2, s3, s4, s5, s6, s7, s8, s9, s10, s11, s12⟩ := R1.out.thaw
  have hl0 := D1.out.lt
  have hl1 := R1.out.lt
  have hl2 := (L1.out.keep b1).lt
  clear b1
  have D2 := Lib.hid ((((D1.out.putS d.x).set10 d.r).set11 d.b).set12 d.o)
  have R2 : Hid (DeAt ((((putDS w1 (w.heap.size + 1 + 1) d.x).setCell ⟨w.heap.size + 1 + 1, 10, none⟩ (.string d.r)).setCell ⟨w.heap.size + 1 + 1, 11, none⟩ (.bool d.b)).setCell ⟨w.heap.size + 1 + 1, 12, none⟩ (.bool d.o)) (w.heap.size + 1) zeroDe) := Lib.hid ((((((only_putDS _ w1 d.x).trans (Only.set _ 10 _ _)).trans (Only.set _ 11 _ _)).trans (Only.set _ 12 _ _)).2 _ (by omega) hl1).trans R1.out)
  have B2 := Lib.hid ((((below_putDS B1.out (show w.heap.size ≤ w.heap.size + 1 + 1 by omega) d.x).setCell (p := ⟨w.heap.size + 1 + 1, 10, none⟩) (show w.heap.size ≤ w.heap.size + 1 + 1 by omega) (.string d.r)).setCell (p := ⟨w.heap.size + 1 + 1, 11, none⟩) (show w.heap.size ≤ w.heap.size + 1 + 1 by omega) (.bool d.b)).setCell (p := ⟨w.heap.size + 1 + 1, 12, none⟩) (show w.heap.size ≤ w.heap.size + 1 + 1 by omega) (.bool d.o))
  have B3 := Lib.hid (below_putDe B2.out (show w.heap.size ≤ w.heap.size + 1 by omega) d)
  have R3 := Lib.hid (R2.out.put d)
  go_wp2
  exact de_ret rfl rfl R3.out Tryd.underlying47 rfl (by kernel_rfl) rfl B3.out

end Go.Proofs.YtdckjhobikfggaaDoor

namespace Go.Proofs.YtdckjhobikfggaaDoor
open Go.RowKit Go.Sort

set_option maxHeartbeats 2000000 in
set_option maxRecDepth 100000 in
theorem spec_l08OK (d : De) (w : World) (hr : d.r.size ≤ 1048576) : Calls Tryd.prog 54 #[deV d] w fun e w' => e = .returned (.bool (deOK d)) ∧ Below w.heap.size w w' := by
  have HR := Lib.hid (fun w => spec_l08Rest d w hr)
  obtain ⟨n, a, c, x, r, b, o⟩ := d
  clear hr
  unfold deV at HR ⊢
  dsimp only at HR ⊢
  have HN := Lib.hid (fun w => spec_l05No n w)
  have HSt := Lib.hid (fun w => spec_l04OK x w)
  have HA := Lib.hid (fun w => spec_l01In a 0 1000000000 w)
  have HC := Lib.hid (fun w => spec_l01In c 0 18 w)
  have D0 : Hid (DeAt (w.alloc (.cells #[.int .i64 n, .int .i64 a, .int .i64 c, .int .i64 x.g0, .int .i64 x.g1, .int .i64 x.g2, .int .i64 x.g3, .int .i64 x.l, .int .i64 x.s, .int .i64 x.d, .string r, .bool b, .bool o] 47)) w.heap.size ⟨n, a, c, x, r, b, o⟩) := Lib.hid (DeAt.new w ⟨n, a, c, x, r, b, o⟩)
  have B0 := Lib.hid (below_one w (.cells #[.int .i64 n, .int .i64 a, .int .i64 c, .int .i64 x.g0, .int .i64 x.g1, .int .i64 x.g2, .int .i64 x.g3, .int .i64 x.l, .int .i64 x.s, .int .i64 x.d, .string r, .bool b, .bool o] 47))
  unfold stV at HSt
  cases hn : proB n
  · rw [deOK_bad (.inl hn)]
    rw [hn] at HN
    go_enter Tryd.func54, Tryd.ntmps54
    go_wp2_with fail
    refine (HN.out _).mono ?_
    rintro e w1 ⟨rfl, rfl⟩
    go_wp2
    go_ret
    exact ⟨rfl, B0.out⟩
  have HNp := Lib.hid hn
  rw [hn] at HN
  cases hs : stOKB x
  · rw [deOK_bad (.inr (.inl hs))]
    rw [hs] at HSt
    clear hn
    go_enter Tryd.func54, Tryd.ntmps54
    go_wp2_with fail
    refine (HN.out _).mono ?_
    rintro e w1 ⟨rfl, rfl⟩
    go_wp2_with fail
    refine (HSt.out _).mono ?_
    rintro e w2 ⟨rfl, b2⟩
    go_wp2
    go_ret
    exact ⟨rfl, B0.out.trans (b2.mono B0.out.size)⟩
  have HSp := Lib.hid hs
  rw [hs] at HSt
  clear hn hs
  cases ha : inB a 0 1000000000
  · rw [deOK_bad (.inr (.inr (.inl ha)))]
    rw [ha] at HA
    clear ha
    go_enter Tryd.func54, Tryd.ntmps54
    go_wp2_with fail
    refine (HN.out _).mono ?_
    rintro e w1 ⟨rfl, rfl⟩
    go_wp2_with fail
    refine (HSt.out _).mono ?_
    rintro e w2 ⟨rfl, b2⟩
    have B2 := B0.out.trans (b2.mono B0.out.size)
    have ⟨y0, y1, y2, y3, y4, y5, y6, y7, y8, y9, y10, y11, y12⟩ := deCells (D0.out.keep b2)
    have hl2 := (D0.out.keep b2).lt
    go_wp2_with fail
    refine (HA.out _).mono ?_
    rintro e w3 ⟨rfl, rfl⟩
    go_wp2
    go_ret
    exact ⟨rfl, B2⟩
  have HAp := Lib.hid ha
  rw [ha] at HA
  clear ha
  cases hc : inB c 0 18
  · rw [deOK_bad (.inr (.inr (.inr hc)))]
    rw [hc] at HC
    clear hc
    go_enter Tryd.func54, Tryd.ntmps54
    go_wp2_with fail
    refine (HN.out _).mono ?_
    rintro e w1 ⟨rfl, rfl⟩
    go_wp2_with fail
    refine (HSt.out _).mono ?_
    rintro e w2 ⟨rfl, b2⟩
    have B2 := B0.out.trans (b2.mono B0.out.size)
    have ⟨y0, y1, y2, y3, y4, y5, y6, y7, y8, y9, y10, y11, y12⟩ := deCells (D0.out.keep b2)
    have hl2 := (D0.out.keep b2).lt
    go_wp2_with fail
    refine (HA.out _).mono ?_
    rintro e w3 ⟨rfl, rfl⟩
    go_wp2_with fail
    refine (HC.out _).mono ?_
    rintro e w3 ⟨rfl, rfl⟩
    go_wp2
    go_ret
    exact ⟨rfl, B2⟩
  rw [deOK_rest HNp.out HSp.out HAp.out hc]
  rw [hc] at HC
  clear hc
  dsimp only
  generalize waitB n b r = q at *
  by_cases h0 : c = 0
  · have e0 : (c != 0) = false := by simpa using h0
    have HE : Hid ((!(decide (c ≠ 0) && !o) && (!(o && decide (0 < r.size)) && q)) = (!(o && decide (0 < r.size)) && q)) := Lib.hid (by rw [decide_eq_false (by simpa using h0)]; simp)
    rw [HE.out]
    clear h0 HE
    cases o
    · have HE : Hid ((!(false && decide (0 < r.size)) && q) = q) := Lib.hid (by simp)
      rw [HE.out]
      clear HE
      go_enter Tryd.func54, Tryd.ntmps54
      go_wp2_with fail
      refine (HN.out _).mono ?_
      rintro e w1 ⟨rfl, rfl⟩
      go_wp2_with fail
      refine (HSt.out _).mono ?_
      rintro e w2 ⟨rfl, b2⟩
      have B2 := B0.out.trans (b2.mono B0.out.size)
      have ⟨y0, y1, y2, y3, y4, y5, y6, y7, y8, y9, y10, y11, y12⟩ := deCells (D0.out.keep b2)
      have hl2 := (D0.out.keep b2).lt
      go_wp2_with fail
      refine (HA.out _).mono ?_
      rintro e w3 ⟨rfl, rfl⟩
      go_wp2_with fail
      refine (HC.out _).mono ?_
      rintro e w3 ⟨rfl, rfl⟩
      go_wp2_with fail
      refine (HR.out _).mono ?_
      rintro e w3 ⟨rfl, b3⟩
      go_wp2
      go_ret
      exact ⟨rfl, B2.trans (b3.mono B2.size)⟩
    · by_cases hz : r.size = 0
      · have he := empty_size hz
        have HE : Hid ((!(true && decide (0 < r.size)) && q) = q) := Lib.hid (by rw [decide_eq_false (by omega)]; simp)
        rw [HE.out]
        clear HE hz
        go_enter Tryd.func54, Tryd.ntmps54
        go_wp2_with fail
        refine (HN.out _).mono ?_
        rintro e w1 ⟨rfl, rfl⟩
        go_wp2_with fail
        refine (HSt.out _).mono ?_
        rintro e w2 ⟨rfl, b2⟩
        have B2 := B0.out.trans (b2.mono B0.out.size)
        have ⟨y0, y1, y2, y3, y4, y5, y6, y7, y8, y9, y10, y11, y12⟩ := deCells (D0.out.keep b2)
        have hl2 := (D0.out.keep b2).lt
        go_wp2_with fail
        refine (HA.out _).mono ?_
        rintro e w3 ⟨rfl, rfl⟩
        go_wp2_with fail
        refine (HC.out _).mono ?_
        rintro e w3 ⟨rfl, rfl⟩
        go_wp2_with fail
        refine (HR.out _).mono ?_
        rintro e w3 ⟨rfl, b3⟩
        go_wp2
        go_ret
        exact ⟨rfl, B2.trans (b3.mono B2.size)⟩
      · have he := some_size (show 0 < r.size by omega)
        have HE : Hid ((!(true && decide (0 < r.size)) && q) = false) := Lib.hid (by rw [decide_eq_true (by omega)]; simp)
        rw [HE.out]
        clear HE hz
        go_enter Tryd.func54, Tryd.ntmps54
        go_wp2_with fail
        refine (HN.out _).mono ?_
        rintro e w1 ⟨rfl, rfl⟩
        go_wp2_with fail
        refine (HSt.out _).mono ?_
        rintro e w2 ⟨rfl, b2⟩
        have B2 := B0.out.trans (b2.mono B0.out.size)
        have ⟨y0, y1, y2, y3, y4, y5, y6, y7, y8, y9, y10, y11, y12⟩ := deCells (D0.out.keep b2)
        have hl2 := (D0.out.keep b2).lt
        go_wp2_with fail
        refine (HA.out _).mono ?_
        rintro e w3 ⟨rfl, rfl⟩
        go_wp2_with fail
        refine (HC.out _).mono ?_
        rintro e w3 ⟨rfl, rfl⟩
        go_wp2
        go_ret
        exact ⟨rfl, B2⟩
  · have e0 : (c != 0) = true := by simpa using h0
    cases o
    · have HE : Hid ((!(decide (c ≠ 0) && !false) && (!(false && decide (0 < r.size)) && q)) = false) := Lib.hid (by rw [decide_eq_true (by simpa using h0)]; simp)
      rw [HE.out]
      clear h0 HE
      go_enter Tryd.func54, Tryd.ntmps54
      go_wp2_with fail
      refine (HN.out _).mono ?_
      rintro e w1 ⟨rfl, rfl⟩
      go_wp2_with fail
      refine (HSt.out _).mono ?_
      rintro e w2 ⟨rfl, b2⟩
      have B2 := B0.out.trans (b2.mono B0.out.size)
      have ⟨y0, y1, y2, y3, y4, y5, y6, y7, y8, y9, y10, y11, y12⟩ := deCells (D0.out.keep b2)
      have hl2 := (D0.out.keep b2).lt
      go_wp2_with fail
      refine (HA.out _).mono ?_
      rintro e w3 ⟨rfl, rfl⟩
      go_wp2_with fail
      refine (HC.out _).mono ?_
      rintro e w3 ⟨rfl, rfl⟩
      go_wp2
      go_ret
      exact ⟨rfl, B2⟩
    · by_cases hz : r.size = 0
      · have he := empty_size hz
        have HE : Hid ((!(decide (c ≠ 0) && !true) && (!(true && decide (0 < r.size)) && q)) = q) := Lib.hid (by rw [decide_eq_false (by omega : ¬ 0 < r.size)]; simp)
        rw [HE.out]
        clear HE hz h0
        go_enter Tryd.func54, Tryd.ntmps54
        go_wp2_with fail
        refine (HN.out _).mono ?_
        rintro e w1 ⟨rfl, rfl⟩
        go_wp2_with fail
        refine (HSt.out _).mono ?_
        rintro e w2 ⟨rfl, b2⟩
        have B2 := B0.out.trans (b2.mono B0.out.size)
        have ⟨y0, y1, y2, y3, y4, y5, y6, y7, y8, y9, y10, y11, y12⟩ := deCells (D0.out.keep b2)
        have hl2 := (D0.out.keep b2).lt
        go_wp2_with fail
        refine (HA.out _).mono ?_
        rintro e w3 ⟨rfl, rfl⟩
        go_wp2_with fail
        refine (HC.out _).mono ?_
        rintro e w3 ⟨rfl, rfl⟩
        go_wp2_with fail
        refine (HR.out _).mono ?_
        rintro e w3 ⟨rfl, b3⟩
        go_wp2
        go_ret
        exact ⟨rfl, B2.trans (b3.mono B2.size)⟩
      · have he := some_size (show 0 < r.size by omega)
        have HE : Hid ((!(decide (c ≠ 0) && !true) && (!(true && decide (0 < r.size)) && q)) = false) := Lib.hid (by rw [decide_eq_true (by omega : 0 < r.size)]; simp)
        rw [HE.out]
        clear HE hz h0
        go_enter Tryd.func54, Tryd.ntmps54
        go_wp2_with fail
        refine (HN.out _).mono ?_
        rintro e w1 ⟨rfl, rfl⟩
        go_wp2_with fail
        refine (HSt.out _).mono ?_
        rintro e w2 ⟨rfl, b2⟩
        have B2 := B0.out.trans (b2.mono B0.out.size)
        have ⟨y0, y1, y2, y3, y4, y5, y6, y7, y8, y9, y10, y11, y12⟩ := deCells (D0.out.keep b2)
        have hl2 := (D0.out.keep b2).lt
        go_wp2_with fail
        refine (HA.out _).mono ?_
        rintro e w3 ⟨rfl, rfl⟩
        go_wp2_with fail
        refine (HC.out _).mono ?_
        rintro e w3 ⟨rfl, rfl⟩
        go_wp2
        go_ret
        exact ⟨rfl, B2⟩

end Go.Proofs.YtdckjhobikfggaaDoor

namespace Go.Proofs.YtdckjhobikfggaaDoor
open Go.RowKit Go.Sort

theorem spec_l08Why (d : De) (w : World) : Calls Tryd.prog 55 #[deV d] w fun e w' => e = .returned (.int .i64 (whyC d)) ∧ Below w.heap.size w w' := by
  have B0 := Lib.hid (below_one w (.cells #[.int .i64 d.n, .int .i64 d.a, .int .i64 d.c, .int .i64 d.x.g0, .int .i64 d.x.g1, .int .i64 d.x.g2, .int .i64 d.x.g3, .int .i64 d.x.l, .int .i64 d.x.s, .int .i64 d.x.d, .string d.r, .bool d.b, .bool d.o] 47))
  unfold deV
  by_cases h : d.c = 0
  · have e0 : (d.c != 0) = false := by simpa using h
    have HE : Hid (whyC d = 17) := Lib.hid (by rw [whyC, if_pos h])
    rw [HE.out]
    clear h
    go_enter Tryd.func55, Tryd.ntmps55
    go_wp2
    go_ret
    exact ⟨rfl, B0.out⟩
  · have e0 : (d.c != 0) = true := by simpa using h
    have HE : Hid (whyC d = d.c) := Lib.hid (by rw [whyC, if_neg h])
    rw [HE.out]
    clear h
    go_enter Tryd.func55, Tryd.ntmps55
    go_wp2
    go_ret
    exact ⟨rfl, B0.out⟩

set_option maxHeartbeats 1000000 in
set_option maxRecDepth 100000 in
theorem spec_l08Fail (d : De) (c : Int) (w : World) : Calls Tryd.prog 85 #[deV d, .int .i64 c] w (DeDone (failD d c) w) := by
  unfold deV
  go_enter Tryd.func85, Tryd.ntmps85
  go_wp2
  exact de_ret (y := failD d c) rfl rfl (heap_alloc2_new _ _ _) Tryd.underlying47 rfl (by kernel_rfl) rfl (below_two _ _ _)

end Go.Proofs.YtdckjhobikfggaaDoor

namespace Go.Proofs.YtdckjhobikfggaaDoor
open Go.RowKit Go.Sort

/-- CloseDecoder: the decoder and the code. -/
def CdDone (d : De) (w : World) (e : Ending) (w' : World) : Prop := e = .returned (.tuple #[deV (clP d), .int .i64 (cdC d)]) ∧ Below w.heap.size w w'
theorem cl_bad {d : De} (h : deOK d = false) : clP d = zeroDe ∧ cdC d = 1 := ⟨by rw [clP, if_pos h], by rw [cdC, if_pos h]⟩
theorem cl_over {d : De} (h : deOK d = true) (ho : d.o = true) : clP d = d ∧ cdC d = whyC d := ⟨by rw [clP, if_neg (by rw [h]; decide), if_pos ho], by rw [cdC, if_neg (by rw [h]; decide), if_pos ho]⟩
theorem cl_ok {d : De} (h : deOK d = true) (ho : d.o = false) : clP d = failD d (clC d) ∧ cdC d = clC d := ⟨by rw [clP, if_neg (by rw [h]; decide), if_neg (by rw [ho]; decide)], by rw [cdC, if_neg (by rw [h]; decide), if_neg (by rw [ho]; decide)]⟩

set_option maxHeartbeats 2000000 in
set_option maxRecDepth 100000 in
theorem close15 (n a c : Int) (x : St) (r : ByteArray) (o : Bool) (w : World) (he : (prHead n).toList.isEmpty = false) : Calls Tryd.prog 56 #[deV ⟨n, a, c, x, r, false, o⟩] w (DeDone (failD ⟨n, a, c, x, r, false, o⟩ 15) w) := by
  have HPf := Lib.hid (fun w => spec_l05Profile n w)
  have HFl := Lib.hid (fun k w => spec_l08Fail ⟨n, a, c, x, r, false, o⟩ k w)
  have HEn := Lib.hid (fun v w hv => spec_l06End n v x w hv)
  have D0 : Hid (DeAt ((w.alloc (.cells #[.int .i64 n, .int .i64 a, .int .i64 c, .int .i64 x.g0, .int .i64 x.g1, .int .i64 x.g2, .int .i64 x.g3, .int .i64 x.l, .int .i64 x.s, .int .i64 x.d, .string r, .bool false, .bool o] 47)).alloc (.cells #[.int .i64 0, .int .i64 0, .int .i64 0, .int .i64 0, .int .i64 0, .int .i64 0, .int .i64 0, .int .i64 0, .int .i64 0, .int .i64 0, .string ⟨#[]⟩, .bool false, .bool false] 47)) w.heap.size ⟨n, a, c, x, r, false, o⟩) := Lib.hid (heap_alloc2_old _ _ _)
  have R0 : Hid (DeAt ((w.alloc (.cells #[.int .i64 n, .int .i64 a, .int .i64 c, .int .i64 x.g0, .int .i64 x.g1, .int .i64 x.g2, .int .i64 x.g3, .int .i64 x.l, .int .i64 x.s, .int .i64 x.d, .string r, .bool false, .bool o] 47)).alloc (.cells #[.int .i64 0, .int .i64 0, .int .i64 0, .int .i64 0, .int .i64 0, .int .i64 0, .int .i64 0, .int .i64 0, .int .i64 0, .int .i64 0, .string ⟨#[]⟩, .bool false, .bool false] 47)) (w.heap.size + 1) zeroDe) := Lib.hid (heap_alloc2_new _ _ _)
  have B0 := Lib.hid (below_two w (.cells #[.int .i64 n, .int .i64 a, .int .i64 c, .int .i64 x.g0, .int .i64 x.g1, .int .i64 x.g2, .int .i64 x.g3, .int .i64 x.l, .int .i64 x.s, .int .i64 x.d, .string r, .bool false, .bool o] 47) (.cells #[.int .i64 0, .int .i64 0, .int .i64 0, .int .i64 0, .int .i64 0, .int .i64 0, .int .i64 0, .int .i64 0, .int .i64 0, .int .i64 0, .string ⟨#[]⟩, .bool false, .bool false] 47))
  have hfd : ∀ v w, (Instr.field 109 (prV n v) 1).run Tryd.prog w = .ok (.string (prHead n)) w := fun _ _ => by kernel_rfl
  have HPv : Hid (∀ v, prV n v = .agg #[.string (prName n), .string (prHead n), v, .bool (prRight n), .bool (prShifts n), .bool (prSingle n), .bool (prReset n), .bool (prClear n)]) := Lib.hid (fun _ => rfl)
  unfold prV at hfd HEn
  have HFd := Lib.hid hfd
  clear hfd
  unfold DeDone deV failD at HFl
  unfold stV at HEn
  dsimp only at HFl
  have HV : Hid (deV ⟨n, a, c, x, r, false, o⟩ = .agg #[.int .i64 n, .int .i64 a, .int .i64 c, .int .i64 x.g0, .int .i64 x.g1, .int .i64 x.g2, .int .i64 x.g3, .int .i64 x.l, .int .i64 x.s, .int .i64 x.d, .string r, .bool false, .bool o]) := Lib.hid rfl
  rw [HV.out]
  go_enter Tryd.func56, Tryd.ntmps56
  go_wp2_with fail
  refine (HPf.out _).mono ?_
  generalize (w.alloc (.cells #[.int .i64 n, .int .i64 a, .int .i64 c, .int .i64 x.g0, .int .i64 x.g1, .int .i64 x.g2, .int .i64 x.g3, .int .i64 x.l, .int .i64 x.s, .int .i64 x.d, .string r, .bool false, .bool o] 47)).alloc (.cells #[.int .i64 0, .int .i64 0, .int .i64 0, .int .i64 0, .int .i64 0, .int .i64 0, .int .i64 0, .int .i64 0, .int .i64 0, .int .i64 0, .string ⟨#[]⟩, .bool false, .bool false] 47) = W at *
  rintro e w1 ⟨pv, rfl, hpv, b1⟩
  have hf1 := HFd.out pv w1
  unfold prV
  have D1 := Lib.hid (D0.out.keep b1)
  have R1 := Lib.hid (R0.out.keep b1)
  have B1 := Lib.hid (B0.out.trans (b1.mono B0.out.size))
  clear b1 hpv D0 R0 B0
  have ⟨y0, y1, y2, y3, y4, y5, y6, y7, y8, y9, y10, y11, y12⟩ := deCells D1.out
  have hl1 := D1.out.lt
  go_wp2_with fail
  refine (HFl.out 15 _).mono ?_
  rintro e w2 ⟨rfl, b2⟩
  have R2 := Lib.hid (R1.out.keep b2)
  have B2 := Lib.hid (B1.out.trans (b2.mono B1.out.size))
  have ⟨r0, r1, r2, r3, r4, r5, r6, r7, r8, r9, r10, r11, r12⟩ := deCells R2.out
  have ⟨s0, s1, s2, s3, s4, s5, s6, s7, s8, s9, s10, s11, s12⟩ := R2.out.thaw
  have hl2 := R2.out.lt
  clear b2 y0 y1 y2 y3 y4 y5 y6 y7 y8 y9 y10 y11 y12
  go_wp2
  exact de_ret (y := failD ⟨n, a, c, x, r, false, o⟩ 15) rfl rfl (R2.out.put (failD ⟨n, a, c, x, r, false, o⟩ 15)) Tryd.underlying47 rfl (by kernel_rfl) rfl (below_putDe B2.out (by omega) (failD ⟨n, a, c, x, r, false, o⟩ 15))

set_option maxHeartbeats 2000000 in
set_option maxRecDepth 100000 in
theorem closeB1 (n a c : Int) (x : St) (r : ByteArray) (o : Bool) (w : World) (he : (prHead n).toList.isEmpty = true) (hr : r.toList.isEmpty = false) : Calls Tryd.prog 56 #[deV ⟨n, a, c, x, r, false, o⟩] w (DeDone (failD ⟨n, a, c, x, r, false, o⟩ 13) w) := by
  have HPf := Lib.hid (fun w => spec_l05Profile n w)
  have HFl := Lib.hid (fun k w => spec_l08Fail ⟨n, a, c, x, r, false, o⟩ k w)
  have HEn := Lib.hid (fun v w hv => spec_l06End n v x w hv)
  have D0 : Hid (DeAt ((w.alloc (.cells #[.int .i64 n, .int .i64 a, .int .i64 c, .int .i64 x.g0, .int .i64 x.g1, .int .i64 x.g2, .int .i64 x.g3, .int .i64 x.l, .int .i64 x.s, .int .i64 x.d, .string r, .bool false, .bool o] 47)).alloc (.cells #[.int .i64 0, .int .i64 0, .int .i64 0, .int .i64 0, .int .i64 0, .int .i64 0, .int .i64 0, .int .i64 0, .int .i64 0, .int .i64 0, .string ⟨#[]⟩, .bool false, .bool false] 47)) w.heap.size ⟨n, a, c, x, r, false, o⟩) := Lib.hid (heap_alloc2_old _ _ _)
  have R0 : Hid (DeAt ((w.alloc (.cells #[.int .i64 n, .int .i64 a, .int .i64 c, .int .i64 x.g0, .int .i64 x.g1, .int .i64 x.g2, .int .i64 x.g3, .int .i64 x.l, .int .i64 x.s, .int .i64 x.d, .string r, .bool false, .bool o] 47)).alloc (.cells #[.int .i64 0, .int .i64 0, .int .i64 0, .int .i64 0, .int .i64 0, .int .i64 0, .int .i64 0, .int .i64 0, .int .i64 0, .int .i64 0, .string ⟨#[]⟩, .bool false, .bool false] 47)) (w.heap.size + 1) zeroDe) := Lib.hid (heap_alloc2_new _ _ _)
  have B0 := Lib.hid (below_two w (.cells #[.int .i64 n, .int .i64 a, .int .i64 c, .int .i64 x.g0, .int .i64 x.g1, .int .i64 x.g2, .int .i64 x.g3, .int .i64 x.l, .int .i64 x.s, .int .i64 x.d, .string r, .bool false, .bool o] 47) (.cells #[.int .i64 0, .int .i64 0, .int .i64 0, .int .i64 0, .int .i64 0, .int .i64 0, .int .i64 0, .int .i64 0, .int .i64 0, .int .i64 0, .string ⟨#[]⟩, .bool false, .bool false] 47))
  have hfd : ∀ v w, (Instr.field 109 (prV n v) 1).run Tryd.prog w = .ok (.string (prHead n)) w := fun _ _ => by kernel_rfl
  have HPv : Hid (∀ v, prV n v = .agg #[.string (prName n), .string (prHead n), v, .bool (prRight n), .bool (prShifts n), .bool (prSingle n), .bool (prReset n), .bool (prClear n)]) := Lib.hid (fun _ => rfl)
  unfold prV at hfd HEn
  have HFd := Lib.hid hfd
  clear hfd
  unfold DeDone deV failD at HFl
  unfold stV at HEn
  dsimp only at HFl
  have HV : Hid (deV ⟨n, a, c, x, r, false, o⟩ = .agg #[.int .i64 n, .int .i64 a, .int .i64 c, .int .i64 x.g0, .int .i64 x.g1, .int .i64 x.g2, .int .i64 x.g3, .int .i64 x.l, .int .i64 x.s, .int .i64 x.d, .string r, .bool false, .bool o]) := Lib.hid rfl
  rw [HV.out]
  go_enter Tryd.func56, Tryd.ntmps56
  go_wp2_with fail
  refine (HPf.out _).mono ?_
  generalize (w.alloc (.cells #[.int .i64 n, .int .i64 a, .int .i64 c, .int .i64 x.g0, .int .i64 x.g1, .int .i64 x.g2, .int .i64 x.g3, .int .i64 x.l, .int .i64 x.s, .int .i64 x.d, .string r, .bool false, .bool o] 47)).alloc (.cells #[.int .i64 0, .int .i64 0, .int .i64 0, .int .i64 0, .int .i64 0, .int .i64 0, .int .i64 0, .int .i64 0, .int .i64 0, .int .i64 0, .string ⟨#[]⟩, .bool false, .bool false] 47) = W at *
  rintro e w1 ⟨pv, rfl, hpv, b1⟩
  have hf1 := HFd.out pv w1
  unfold prV
  have D1 := Lib.hid (D0.out.keep b1)
  have R1 := Lib.hid (R0.out.keep b1)
  have B1 := Lib.hid (B0.out.trans (b1.mono B0.out.size))
  clear b1 hpv D0 R0 B0
  have ⟨y0, y1, y2, y3, y4, y5, y6, y7, y8, y9, y10, y11, y12⟩ := deCells D1.out
  have hl1 := D1.out.lt
  go_wp2_with fail
  refine (HFl.out 13 _).mono ?_
  rintro e w2 ⟨rfl, b2⟩
  have R2 := Lib.hid (R1.out.keep b2)
  have B2 := Lib.hid (B1.out.trans (b2.mono B1.out.size))
  have ⟨r0, r1, r2, r3, r4, r5, r6, r7, r8, r9, r10, r11, r12⟩ := deCells R2.out
  have ⟨s0, s1, s2, s3, s4, s5, s6, s7, s8, s9, s10, s11, s12⟩ := R2.out.thaw
  have hl2 := R2.out.lt
  clear b2 y0 y1 y2 y3 y4 y5 y6 y7 y8 y9 y10 y11 y12
  go_wp2
  exact de_ret (y := failD ⟨n, a, c, x, r, false, o⟩ 13) rfl rfl (R2.out.put (failD ⟨n, a, c, x, r, false, o⟩ 13)) Tryd.underlying47 rfl (by kernel_rfl) rfl (below_putDe B2.out (by omega) (failD ⟨n, a, c, x, r, false, o⟩ 13))

set_option maxHeartbeats 2000000 in
set_option maxRecDepth 100000 in
theorem closeA1 (n a c : Int) (x : St) (r : ByteArray) (o : Bool) (w : World) (hr : r.toList.isEmpty = false) : Calls Tryd.prog 56 #[deV ⟨n, a, c, x, r, true, o⟩] w (DeDone (failD ⟨n, a, c, x, r, true, o⟩ 13) w) := by
  have HPf := Lib.hid (fun w => spec_l05Profile n w)
  have HFl := Lib.hid (fun k w => spec_l08Fail ⟨n, a, c, x, r, true, o⟩ k w)
  have HEn := Lib.hid (fun v w hv => spec_l06End n v x w hv)
  have D0 : Hid (DeAt ((w.alloc (.cells #[.int .i64 n, .int .i64 a, .int .i64 c, .int .i64 x.g0, .int .i64 x.g1, .int .i64 x.g2, .int .i64 x.g3, .int .i64 x.l, .int .i64 x.s, .int .i64 x.d, .string r, .bool true, .bool o] 47)).alloc (.cells #[.int .i64 0, .int .i64 0, .int .i64 0, .int .i64 0, .int .i64 0, .int .i64 0, .int .i64 0, .int .i64 0, .int .i64 0, .int .i64 0, .string ⟨#[]⟩, .bool false, .bool false] 47)) w.heap.size ⟨n, a, c, x, r, true, o⟩) := Lib.hid (heap_alloc2_old _ _ _)
  have R0 : Hid (DeAt ((w.alloc (.cells #[.int .i64 n, .int .i64 a, .int .i64 c, .int .i64 x.g0, .int .i64 x.g1, .int .i64 x.g2, .int .i64 x.g3, .int .i64 x.l, .int .i64 x.s, .int .i64 x.d, .string r, .bool true, .bool o] 47)).alloc (.cells #[.int .i64 0, .int .i64 0, .int .i64 0, .int .i64 0, .int .i64 0, .int .i64 0, .int .i64 0, .int .i64 0, .int .i64 0, .int .i64 0, .string ⟨#[]⟩, .bool false, .bool false] 47)) (w.heap.size + 1) zeroDe) := Lib.hid (heap_alloc2_new _ _ _)
  have B0 := Lib.hid (below_two w (.cells #[.int .i64 n, .int .i64 a, .int .i64 c, .int .i64 x.g0, .int .i64 x.g1, .int .i64 x.g2, .int .i64 x.g3, .int .i64 x.l, .int .i64 x.s, .int .i64 x.d, .string r, .bool true, .bool o] 47) (.cells #[.int .i64 0, .int .i64 0, .int .i64 0, .int .i64 0, .int .i64 0, .int .i64 0, .int .i64 0, .int .i64 0, .int .i64 0, .int .i64 0, .string ⟨#[]⟩, .bool false, .bool false] 47))
  have hfd : ∀ v w, (Instr.field 109 (prV n v) 1).run Tryd.prog w = .ok (.string (prHead n)) w := fun _ _ => by kernel_rfl
  have HPv : Hid (∀ v, prV n v = .agg #[.string (prName n), .string (prHead n), v, .bool (prRight n), .bool (prShifts n), .bool (prSingle n), .bool (prReset n), .bool (prClear n)]) := Lib.hid (fun _ => rfl)
  unfold prV at hfd HEn
  have HFd := Lib.hid hfd
  clear hfd
  unfold DeDone deV failD at HFl
  unfold stV at HEn
  dsimp only at HFl
  have HV : Hid (deV ⟨n, a, c, x, r, true, o⟩ = .agg #[.int .i64 n, .int .i64 a, .int .i64 c, .int .i64 x.g0, .int .i64 x.g1, .int .i64 x.g2, .int .i64 x.g3, .int .i64 x.l, .int .i64 x.s, .int .i64 x.d, .string r, .bool true, .bool o]) := Lib.hid rfl
  rw [HV.out]
  go_enter Tryd.func56, Tryd.ntmps56
  go_wp2_with fail
  generalize (w.alloc (.cells #[.int .i64 n, .int .i64 a, .int .i64 c, .int .i64 x.g0, .int .i64 x.g1, .int .i64 x.g2, .int .i64 x.g3, .int .i64 x.l, .int .i64 x.s, .int .i64 x.d, .string r, .bool true, .bool o] 47)).alloc (.cells #[.int .i64 0, .int .i64 0, .int .i64 0, .int .i64 0, .int .i64 0, .int .i64 0, .int .i64 0, .int .i64 0, .int .i64 0, .int .i64 0, .string ⟨#[]⟩, .bool false, .bool false] 47) = w1 at *
  have D1 := D0
  have R1 := R0
  have B1 := B0
  clear D0 R0 B0
  refine (HFl.out 13 _).mono ?_
  rintro e w2 ⟨rfl, b2⟩
  have R2 := Lib.hid (R1.out.keep b2)
  have B2 := Lib.hid (B1.out.trans (b2.mono B1.out.size))
  have ⟨r0, r1, r2, r3, r4, r5, r6, r7, r8, r9, r10, r11, r12⟩ := deCells R2.out
  have ⟨s0, s1, s2, s3, s4, s5, s6, s7, s8, s9, s10, s11, s12⟩ := R2.out.thaw
  have hl2 := R2.out.lt
  clear b2
  go_wp2
  exact de_ret (y := failD ⟨n, a, c, x, r, true, o⟩ 13) rfl rfl (R2.out.put (failD ⟨n, a, c, x, r, true, o⟩ 13)) Tryd.underlying47 rfl (by kernel_rfl) rfl (below_putDe B2.out (by omega) (failD ⟨n, a, c, x, r, true, o⟩ 13))

set_option maxHeartbeats 2000000 in
set_option maxRecDepth 100000 in
theorem closeB0 (n a c : Int) (x : St) (r : ByteArray) (o : Bool) (w : World) (he : (prHead n).toList.isEmpty = true) (hr : r.toList.isEmpty = true) : Calls Tryd.prog 56 #[deV ⟨n, a, c, x, r, false, o⟩] w (DeDone (failD ⟨n, a, c, x, r, false, o⟩ (endC n x)) w) := by
  have HPf := Lib.hid (fun w => spec_l05Profile n w)
  have HFl := Lib.hid (fun k w => spec_l08Fail ⟨n, a, c, x, r, false, o⟩ k w)
  have HEn := Lib.hid (fun v w hv => spec_l06End n v x w hv)
  have D0 : Hid (DeAt ((w.alloc (.cells #[.int .i64 n, .int .i64 a, .int .i64 c, .int .i64 x.g0, .int .i64 x.g1, .int .i64 x.g2, .int .i64 x.g3, .int .i64 x.l, .int .i64 x.s, .int .i64 x.d, .string r, .bool false, .bool o] 47)).alloc (.cells #[.int .i64 0, .int .i64 0, .int .i64 0, .int .i64 0, .int .i64 0, .int .i64 0, .int .i64 0, .int .i64 0, .int .i64 0, .int .i64 0, .string ⟨#[]⟩, .bool false, .bool false] 47)) w.heap.size ⟨n, a, c, x, r, false, o⟩) := Lib.hid (heap_alloc2_old _ _ _)
  have R0 : Hid (DeAt ((w.alloc (.cells #[.int .i64 n, .int .i64 a, .int .i64 c, .int .i64 x.g0, .int .i64 x.g1, .int .i64 x.g2, .int .i64 x.g3, .int .i64 x.l, .int .i64 x.s, .int .i64 x.d, .string r, .bool false, .bool o] 47)).alloc (.cells #[.int .i64 0, .int .i64 0, .int .i64 0, .int .i64 0, .int .i64 0, .int .i64 0, .int .i64 0, .int .i64 0, .int .i64 0, .int .i64 0, .string ⟨#[]⟩, .bool false, .bool false] 47)) (w.heap.size + 1) zeroDe) := Lib.hid (heap_alloc2_new _ _ _)
  have B0 := Lib.hid (below_two w (.cells #[.int .i64 n, .int .i64 a, .int .i64 c, .int .i64 x.g0, .int .i64 x.g1, .int .i64 x.g2, .int .i64 x.g3, .int .i64 x.l, .int .i64 x.s, .int .i64 x.d, .string r, .bool false, .bool o] 47) (.cells #[.int .i64 0, .int .i64 0, .int .i64 0, .int .i64 0, .int .i64 0, .int .i64 0, .int .i64 0, .int .i64 0, .int .i64 0, .int .i64 0, .string ⟨#[]⟩, .bool false, .bool false] 47))
  have hfd : ∀ v w, (Instr.field 109 (prV n v) 1).run Tryd.prog w = .ok (.string (prHead n)) w := fun _ _ => by kernel_rfl
  have HPv : Hid (∀ v, prV n v = .agg #[.string (prName n), .string (prHead n), v, .bool (prRight n), .bool (prShifts n), .bool (prSingle n), .bool (prReset n), .bool (prClear n)]) := Lib.hid (fun _ => rfl)
  unfold prV at hfd HEn
  have HFd := Lib.hid hfd
  clear hfd
  unfold DeDone deV failD at HFl
  unfold stV at HEn
  dsimp only at HFl
  have HV : Hid (deV ⟨n, a, c, x, r, false, o⟩ = .agg #[.int .i64 n, .int .i64 a, .int .i64 c, .int .i64 x.g0, .int .i64 x.g1, .int .i64 x.g2, .int .i64 x.g3, .int .i64 x.l, .int .i64 x.s, .int .i64 x.d, .string r, .bool false, .bool o]) := Lib.hid rfl
  rw [HV.out]
  go_enter Tryd.func56, Tryd.ntmps56
  go_wp2_with fail
  refine (HPf.out _).mono ?_
  generalize (w.alloc (.cells #[.int .i64 n, .int .i64 a, .int .i64 c, .int .i64 x.g0, .int .i64 x.g1, .int .i64 x.g2, .int .i64 x.g3, .int .i64 x.l, .int .i64 x.s, .int .i64 x.d, .string r, .bool false, .bool o] 47)).alloc (.cells #[.int .i64 0, .int .i64 0, .int .i64 0, .int .i64 0, .int .i64 0, .int .i64 0, .int .i64 0, .int .i64 0, .int .i64 0, .int .i64 0, .string ⟨#[]⟩, .bool false, .bool false] 47) = W at *
  rintro e w1 ⟨pv, rfl, hpv, b1⟩
  have hf1 := HFd.out pv w1
  unfold prV
  have D1 := Lib.hid (D0.out.keep b1)
  have R1 := Lib.hid (R0.out.keep b1)
  have B1 := Lib.hid (B0.out.trans (b1.mono B0.out.size))
  clear b1 hpv D0 R0 B0
  have ⟨y0, y1, y2, y3, y4, y5, y6, y7, y8, y9, y10, y11, y12⟩ := deCells D1.out
  have hl1 := D1.out.lt
  go_wp2_with fail
  clear y0 y1 y2 y3 y4 y5 y6 y7 y8 y9 y10 y11 y12
  have hS : (fun W' : World => DeAt W' w.heap.size ⟨n, a, c, x, r, false, o⟩ ∧ Below w.heap.size w W') w1.drew := ⟨D1.out, below_drewN B1.out 1⟩
  refine wp_region_held (S := (fun W' : World => DeAt W' w.heap.size ⟨n, a, c, x, r, false, o⟩ ∧ Below w.heap.size w W')) (by kernel_rfl) ?_
  refine wpAnyH_take (i := 0) (v := .agg #[.int .i64 n, .int .i64 a, .int .i64 c, .int .i64 x.g0, .int .i64 x.g1, .int .i64 x.g2, .int .i64 x.g3, .int .i64 x.l, .int .i64 x.s, .int .i64 x.d, .string r, .bool false, .bool o]) rfl (by kernel_rfl) (by kernel_rfl) (by kernel_rfl) (fun _ _ _ h => h) (.inl ⟨by rfl, fun w' hS' => by have ⟨y0, y1, y2, y3, y4, y5, y6, y7, y8, y9, y10, y11, y12⟩ := deCells hS'.1; go_simp⟩) hS ?_
  refine wpAnyH_take (i := 1) (v := .pointer (some ⟨w.heap.size, 0, none⟩)) rfl (by kernel_rfl) (by kernel_rfl) (by kernel_rfl) (fun _ _ _ h => h) (.inl ⟨by rfl, fun w' hS' => by go_simp⟩) hS ?_
  refine wpAnyH_take (i := 2) (v := .int .i64 n) rfl (by kernel_rfl) (by kernel_rfl) (by kernel_rfl) (fun _ _ _ h => h) (.inl ⟨by rfl, fun w' hS' => by have y0 := (deCells hS'.1).1; go_simp⟩) hS ?_
  refine wpAnyH_take (i := 4) (v := .pointer (some ⟨w.heap.size, 3, none⟩)) rfl (by kernel_rfl) (by kernel_rfl) (by kernel_rfl) (fun _ _ _ h => h) (.inl ⟨by rfl, fun w' hS' => by go_simp⟩) hS ?_
  refine wpAnyH_take (i := 5) (v := .agg #[.int .i64 x.g0, .int .i64 x.g1, .int .i64 x.g2, .int .i64 x.g3, .int .i64 x.l, .int .i64 x.s, .int .i64 x.d]) rfl (by kernel_rfl) (by kernel_rfl) (by kernel_rfl) (fun _ _ _ h => h) (.inl ⟨by rfl, fun w' hS' => by have ⟨y0, y1, y2, y3, y4, y5, y6, y7, y8, y9, y10, y11, y12⟩ := deCells hS'.1; go_simp⟩) hS ?_
  refine wpAnyH_ready (rs := [3]) (by kernel_rfl) (by simp) (AllReadyH.cons rfl (fun K hK => ?_) AllReadyH.nil)
  clear hS
  go_simp
  refine (HPf.out _).mono ?_
  rintro e w2 ⟨pw, rfl, hpw, b2⟩
  obtain ⟨vg, vc, rfl⟩ := hpw.form
  rw [HPv.out]
  have D2 := Lib.hid (D1.out.keep (bel_drew b2))
  have R2 := Lib.hid (R1.out.keep (bel_drew b2))
  have B2 := Lib.hid (B1.out.trans ((bel_drew b2).mono B1.out.size))
  refine hK.out _ _ ⟨D2.out, B2.out⟩ (fun _ => ?_)
  clear hK K b2 hpw
  refine wpAnyH_ready (rs := [6]) (by kernel_rfl) (by simp) (AllReadyH.cons rfl (fun K hK => ?_) AllReadyH.nil)
  go_simp
  refine (HEn.out _ _ ⟨vg, vc, rfl⟩).mono ?_
  rintro e w3 ⟨rfl, b3⟩
  have D3 := Lib.hid (D2.out.keep b3)
  have R3 := Lib.hid (R2.out.keep b3)
  have B3 := Lib.hid (B2.out.trans (b3.mono B2.out.size))
  refine hK.out _ _ ⟨D3.out, B3.out⟩ (fun _ => ?_)
  clear hK K b3
  refine wpAnyH_ready (rs := [7]) (by kernel_rfl) (by simp) (AllReadyH.cons rfl (fun K hK => ?_) AllReadyH.nil)
  go_simp
  refine (HFl.out (endC n x) _).mono ?_
  rintro e w4 ⟨rfl, b4⟩
  have D4 := Lib.hid (D3.out.keep b4)
  have R4 := Lib.hid (R3.out.keep b4)
  have B4 := Lib.hid (B3.out.trans (b4.mono B3.out.size))
  refine hK.out _ _ ⟨D4.out, B4.out⟩ (fun _ => ?_)
  clear hK K b4
  refine wpAnyH_ready (rs := [8]) (by kernel_rfl) (by simp) (AllReadyH.cons rfl (fun K hK => ?_) AllReadyH.nil)
  have ⟨r0, r1, r2, r3, r4, r5, r6, r7, r8, r9, r10, r11, r12⟩ := deCells R4.out
  have ⟨s0, s1, s2, s3, s4, s5, s6, s7, s8, s9, s10, s11, s12⟩ := R4.out.thaw
  have hl2 := R4.out.lt
  have R5 := Lib.hid (R4.out.put (failD ⟨n, a, c, x, r, false, o⟩ (endC n x)))
  have B5 := Lib.hid (below_putDe B4.out (show w.heap.size ≤ w.heap.size + 1 by omega) (failD ⟨n, a, c, x, r, false, o⟩ (endC n x)))
  have D5 : Hid (DeAt (putDe w4 (w.heap.size + 1) (failD ⟨n, a, c, x, r, false, o⟩ (endC n x))) w.heap.size ⟨n, a, c, x, r, false, o⟩) := Lib.hid (((only_putDe (w.heap.size + 1) w4 (failD ⟨n, a, c, x, r, false, o⟩ (endC n x))).2 _ (by omega) D4.out.lt).trans D4.out)
  go_simp
  refine hK.out _ _ ⟨D5.out, B5.out⟩ (fun _ => ?_)
  clear hK K
  refine wpAnyH_done (by kernel_rfl) ?_ _
  clear r0 r1 r2 r3 r4 r5 r6 r7 r8 r9 r10 r11 r12 s0 s1 s2 s3 s4 s5 s6 s7 s8 s9 s10 s11 s12
  go_wp2
  exact de_ret (y := failD ⟨n, a, c, x, r, false, o⟩ (endC n x)) rfl rfl R5.out Tryd.underlying47 rfl (by kernel_rfl) rfl B5.out

set_option maxHeartbeats 2000000 in
set_option maxRecDepth 100000 in
theorem closeA0 (n a c : Int) (x : St) (r : ByteArray) (o : Bool) (w : World) (hr : r.toList.isEmpty = true) : Calls Tryd.prog 56 #[deV ⟨n, a, c, x, r, true, o⟩] w (DeDone (failD ⟨n, a, c, x, r, true, o⟩ (endC n x)) w) := by
  have HPf := Lib.hid (fun w => spec_l05Profile n w)
  have HFl := Lib.hid (fun k w => spec_l08Fail ⟨n, a, c, x, r, true, o⟩ k w)
  have HEn := Lib.hid (fun v w hv => spec_l06End n v x w hv)
  have D0 : Hid (DeAt ((w.alloc (.cells #[.int .i64 n, .int .i64 a, .int .i64 c, .int .i64 x.g0, .int .i64 x.g1, .int .i64 x.g2, .int .i64 x.g3, .int .i64 x.l, .int .i64 x.s, .int .i64 x.d, .string r, .bool true, .bool o] 47)).alloc (.cells #[.int .i64 0, .int .i64 0, .int .i64 0, .int .i64 0, .int .i64 0, .int .i64 0, .int .i64 0, .int .i64 0, .int .i64 0, .int .i64 0, .string ⟨#[]⟩, .bool false, .bool false] 47)) w.heap.size ⟨n, a, c, x, r, true, o⟩) := Lib.hid (heap_alloc2_old _ _ _)
  have R0 : Hid (DeAt ((w.alloc (.cells #[.int .i64 n, .int .i64 a, .int .i64 c, .int .i64 x.g0, .int .i64 x.g1, .int .i64 x.g2, .int .i64 x.g3, .int .i64 x.l, .int .i64 x.s, .int .i64 x.d, .string r, .bool true, .bool o] 47)).alloc (.cells #[.int .i64 0, .int .i64 0, .int .i64 0, .int .i64 0, .int .i64 0, .int .i64 0, .int .i64 0, .int .i64 0, .int .i64 0, .int .i64 0, .string ⟨#[]⟩, .bool false, .bool false] 47)) (w.heap.size + 1) zeroDe) := Lib.hid (heap_alloc2_new _ _ _)
  have B0 := Lib.hid (below_two w (.cells #[.int .i64 n, .int .i64 a, .int .i64 c, .int .i64 x.g0, .int .i64 x.g1, .int .i64 x.g2, .int .i64 x.g3, .int .i64 x.l, .int .i64 x.s, .int .i64 x.d, .string r, .bool true, .bool o] 47) (.cells #[.int .i64 0, .int .i64 0, .int .i64 0, .int .i64 0, .int .i64 0, .int .i64 0, .int .i64 0, .int .i64 0, .int .i64 0, .int .i64 0, .string ⟨#[]⟩, .bool false, .bool false] 47))
  have hfd : ∀ v w, (Instr.field 109 (prV n v) 1).run Tryd.prog w = .ok (.string (prHead n)) w := fun _ _ => by kernel_rfl
  have HPv : Hid (∀ v, prV n v = .agg #[.string (prName n), .string (prHead n), v, .bool (prRight n), .bool (prShifts n), .bool (prSingle n), .bool (prReset n), .bool (prClear n)]) := Lib.hid (fun _ => rfl)
  unfold prV at hfd HEn
  have HFd := Lib.hid hfd
  clear hfd
  unfold DeDone deV failD at HFl
  unfold stV at HEn
  dsimp only at HFl
  have HV : Hid (deV ⟨n, a, c, x, r, true, o⟩ = .agg #[.int .i64 n, .int .i64 a, .int .i64 c, .int .i64 x.g0, .int .i64 x.g1, .int .i64 x.g2, .int .i64 x.g3, .int .i64 x.l, .int .i64 x.s, .int .i64 x.d, .string r, .bool true, .bool o]) := Lib.hid rfl
  rw [HV.out]
  go_enter Tryd.func56, Tryd.ntmps56
  go_wp2_with fail
  generalize (w.alloc (.cells #[.int .i64 n, .int .i64 a, .int .i64 c, .int .i64 x.g0, .int .i64 x.g1, .int .i64 x.g2, .int .i64 x.g3, .int .i64 x.l, .int .i64 x.s, .int .i64 x.d, .string r, .bool true, .bool o] 47)).alloc (.cells #[.int .i64 0, .int .i64 0, .int .i64 0, .int .i64 0, .int .i64 0, .int .i64 0, .int .i64 0, .int .i64 0, .int .i64 0, .int .i64 0, .string ⟨#[]⟩, .bool false, .bool false] 47) = w1 at *
  have D1 := D0
  have R1 := R0
  have B1 := B0
  clear D0 R0 B0
  have hS : (fun W' : World => DeAt W' w.heap.size ⟨n, a, c, x, r, true, o⟩ ∧ Below w.heap.size w W') w1.drew := ⟨D1.out, below_drewN B1.out 1⟩
  refine wp_region_held (S := (fun W' : World => DeAt W' w.heap.size ⟨n, a, c, x, r, true, o⟩ ∧ Below w.heap.size w W')) (by kernel_rfl) ?_
  refine wpAnyH_take (i := 0) (v := .agg #[.int .i64 n, .int .i64 a, .int .i64 c, .int .i64 x.g0, .int .i64 x.g1, .int .i64 x.g2, .int .i64 x.g3, .int .i64 x.l, .int .i64 x.s, .int .i64 x.d, .string r, .bool true, .bool o]) rfl (by kernel_rfl) (by kernel_rfl) (by kernel_rfl) (fun _ _ _ h => h) (.inl ⟨by rfl, fun w' hS' => by have ⟨y0, y1, y2, y3, y4, y5, y6, y7, y8, y9, y10, y11, y12⟩ := deCells hS'.1; go_simp⟩) hS ?_
  refine wpAnyH_take (i := 1) (v := .pointer (some ⟨w.heap.size, 0, none⟩)) rfl (by kernel_rfl) (by kernel_rfl) (by kernel_rfl) (fun _ _ _ h => h) (.inl ⟨by rfl, fun w' hS' => by go_simp⟩) hS ?_
  refine wpAnyH_take (i := 2) (v := .int .i64 n) rfl (by kernel_rfl) (by kernel_rfl) (by kernel_rfl) (fun _ _ _ h => h) (.inl ⟨by rfl, fun w' hS' => by have y0 := (deCells hS'.1).1; go_simp⟩) hS ?_
  refine wpAnyH_take (i := 4) (v := .pointer (some ⟨w.heap.size, 3, none⟩)) rfl (by kernel_rfl) (by kernel_rfl) (by kernel_rfl) (fun _ _ _ h => h) (.inl ⟨by rfl, fun w' hS' => by go_simp⟩) hS ?_
  refine wpAnyH_take (i := 5) (v := .agg #[.int .i64 x.g0, .int .i64 x.g1, .int .i64 x.g2, .int .i64 x.g3, .int .i64 x.l, .int .i64 x.s, .int .i64 x.d]) rfl (by kernel_rfl) (by kernel_rfl) (by kernel_rfl) (fun _ _ _ h => h) (.inl ⟨by rfl, fun w' hS' => by have ⟨y0, y1, y2, y3, y4, y5, y6, y7, y8, y9, y10, y11, y12⟩ := deCells hS'.1; go_simp⟩) hS ?_
  refine wpAnyH_ready (rs := [3]) (by kernel_rfl) (by simp) (AllReadyH.cons rfl (fun K hK => ?_) AllReadyH.nil)
  clear hS
  go_simp
  refine (HPf.out _).mono ?_
  rintro e w2 ⟨pw, rfl, hpw, b2⟩
  obtain ⟨vg, vc, rfl⟩ := hpw.form
  rw [HPv.out]
  have D2 := Lib.hid (D1.out.keep (bel_drew b2))
  have R2 := Lib.hid (R1.out.keep (bel_drew b2))
  have B2 := Lib.hid (B1.out.trans ((bel_drew b2).mono B1.out.size))
  refine hK.out _ _ ⟨D2.out, B2.out⟩ (fun _ => ?_)
  clear hK K b2 hpw
  refine wpAnyH_ready (rs := [6]) (by kernel_rfl) (by simp) (AllReadyH.cons rfl (fun K hK => ?_) AllReadyH.nil)
  go_simp
  refine (HEn.out _ _ ⟨vg, vc, rfl⟩).mono ?_
  rintro e w3 ⟨rfl, b3⟩
  have D3 := Lib.hid (D2.out.keep b3)
  have R3 := Lib.hid (R2.out.keep b3)
  have B3 := Lib.hid (B2.out.trans (b3.mono B2.out.size))
  refine hK.out _ _ ⟨D3.out, B3.out⟩ (fun _ => ?_)
  clear hK K b3
  refine wpAnyH_ready (rs := [7]) (by kernel_rfl) (by simp) (AllReadyH.cons rfl (fun K hK => ?_) AllReadyH.nil)
  go_simp
  refine (HFl.out (endC n x) _).mono ?_
  rintro e w4 ⟨rfl, b4⟩
  have D4 := Lib.hid (D3.out.keep b4)
  have R4 := Lib.hid (R3.out.keep b4)
  have B4 := Lib.hid (B3.out.trans (b4.mono B3.out.size))
  refine hK.out _ _ ⟨D4.out, B4.out⟩ (fun _ => ?_)
  clear hK K b4
  refine wpAnyH_ready (rs := [8]) (by kernel_rfl) (by simp) (AllReadyH.cons rfl (fun K hK => ?_) AllReadyH.nil)
  have ⟨r0, r1, r2, r3, r4, r5, r6, r7, r8, r9, r10, r11, r12⟩ := deCells R4.out
  have ⟨s0, s1, s2, s3, s4, s5, s6, s7, s8, s9, s10, s11, s12⟩ := R4.out.thaw
  have hl2 := R4.out.lt
  have R5 := Lib.hid (R4.out.put (failD ⟨n, a, c, x, r, true, o⟩ (endC n x)))
  have B5 := Lib.hid (below_putDe B4.out (show w.heap.size ≤ w.heap.size + 1 by omega) (failD ⟨n, a, c, x, r, true, o⟩ (endC n x)))
  have D5 : Hid (DeAt (putDe w4 (w.heap.size + 1) (failD ⟨n, a, c, x, r, true, o⟩ (endC n x))) w.heap.size ⟨n, a, c, x, r, true, o⟩) := Lib.hid (((only_putDe (w.heap.size + 1) w4 (failD ⟨n, a, c, x, r, true, o⟩ (endC n x))).2 _ (by omega) D4.out.lt).trans D4.out)
  go_simp
  refine hK.out _ _ ⟨D5.out, B5.out⟩ (fun _ => ?_)
  clear hK K
  refine wpAnyH_done (by kernel_rfl) ?_ _
  clear r0 r1 r2 r3 r4 r5 r6 r7 r8 r9 r10 r11 r12 s0 s1 s2 s3 s4 s5 s6 s7 s8 s9 s10 s11 s12
  go_wp2
  exact de_ret (y := failD ⟨n, a, c, x, r, true, o⟩ (endC n x)) rfl rfl R5.out Tryd.underlying47 rfl (by kernel_rfl) rfl B5.out

theorem spec_l08Close (d : De) (w : World) : Calls Tryd.prog 56 #[deV d] w (DeDone (failD d (clC d)) w) := by
  obtain ⟨n, a, c, x, r, b, o⟩ := d
  unfold clC
  dsimp only
  by_cases h15 : b = false ∧ 0 < (prHead n).size
  · rw [if_pos h15]
    obtain ⟨rfl, hh⟩ := h15
    exact close15 n a c x r o w (some_size hh)
  rw [if_neg h15]
  by_cases h0 : 0 < r.size
  · rw [if_pos h0]
    cases b
    · exact closeB1 n a c x r o w (empty_size (by
        have : ¬ 0 < (prHead n).size := fun h => h15 ⟨rfl, h⟩
        omega)) (some_size h0)
    · exact closeA1 n a c x r o w (some_size h0)
  · rw [if_neg h0]
    cases b
    · exact closeB0 n a c x r o w (empty_size (by
        have : ¬ 0 < (prHead n).size := fun h => h15 ⟨rfl, h⟩
        omega)) (empty_size (by omega))
    · exact closeA0 n a c x r o w (empty_size (by omega))

end Go.Proofs.YtdckjhobikfggaaDoor
