/- States in memory; the specification's small functions over them. -/
import Derived.Test.YtbamjhldebobhaaDoorStM
import Derived.Test.YtbamjhldebobhaaDoorSetsB
import Derived.Test.YtbamjhldebobhaaDoorSetsF
import Derived.Test.YtbamjhldebobhaaDoorTokC
namespace Go.Proofs.YtbamjhldebobhaaDoor
open Go.RowKit

/-- A state handed back in its slot. -/
def StDone (x : St) (w : World) (e : Ending) (w' : World) : Prop := e = .returned (stV x) ∧ Below w.heap.size w w'
theorem st_ret {P : Program} {fn : Func} {p : Tmp} {a : Act} {w w1 : World} {g : Nat} {t ty : TypeId} {fr : Nat × Nat} {d : TypeDesc} {x y : St} (hx : x = y) (h : fn.results = #[.cell p ty])
    (hp : a.tmps.getD p undef = .pointer (some ⟨g, 0, none⟩)) (hg : w1.heap[g]? = some (.cells #[.int .i64 y.g0, .int .i64 y.g1, .int .i64 y.g2, .int .i64 y.g3, .int .i64 y.l, .int .i64 y.s, .int .i64 y.d] t fr))
    (hu : P.underlying ty = some d) (hd : (match d with | .struct _ | .array _ _ => true | _ => false) = true) (hi : (P.info? ty).map (·.size) = some 7) (hdef : a.defers = []) (hb : Below w.heap.size w w1) :
    bodyPost P fn (StDone x w) .ret a w1 :=
  hx ▸ bodyPost_ret (results_cell_row h _ _ g _ _ _ _ hp hg hu hd hi) hdef ⟨rfl, hb⟩

def StAt (w : World) (g : Nat) (x : St) : Prop := w.heap[g]? = some (.cells #[.int .i64 x.g0, .int .i64 x.g1, .int .i64 x.g2, .int .i64 x.g3, .int .i64 x.l, .int .i64 x.s, .int .i64 x.d] 24)
theorem StAt.lt {w : World} {g : Nat} {x : St} (h : StAt w g x) : g < w.heap.size := (Array.getElem?_eq_some_iff.1 h).1
theorem StAt.keep {w w' : World} {g : Nat} {x : St} (h : StAt w g x) (b : Below w.heap.size w w') : StAt w' g x := (b.block g h.lt).trans h
theorem StAt.below {w w' : World} {g B : Nat} {x : St} (h : StAt w g x) (b : Below B w w') (hB : g < B) : StAt w' g x := (b.block g hB).trans h
theorem StAt.new (w : World) (x : St) : StAt (w.alloc (.cells #[.int .i64 x.g0, .int .i64 x.g1, .int .i64 x.g2, .int .i64 x.g3, .int .i64 x.l, .int .i64 x.s, .int .i64 x.d] 24)) w.heap.size x := heap_alloc_new _ _
theorem StAt.cells {w : World} {g : Nat} {x : St} (h : StAt w g x) : w.cell? ⟨g, 0, none⟩ = some (.int .i64 x.g0) ∧ w.cell? ⟨g, 1, none⟩ = some (.int .i64 x.g1) ∧ w.cell? ⟨g, 2, none⟩ = some (.int .i64 x.g2) ∧ w.cell? ⟨g, 3, none⟩ = some (.int .i64 x.g3) ∧ w.cell? ⟨g, 4, none⟩ = some (.int .i64 x.l) ∧ w.cell? ⟨g, 5, none⟩ = some (.int .i64 x.s) ∧ w.cell? ⟨g, 6, none⟩ = some (.int .i64 x.d) := by
  refine ⟨?_, ?_, ?_, ?_, ?_, ?_, ?_⟩ <;> (rw [cell_of_row _ _ _ _ _ _ h]; rfl)
theorem StAt.thaw {w : World} {g : Nat} {x : St} (h : StAt w g x) : w.frozen? ⟨g, 0, none⟩ = false ∧ w.frozen? ⟨g, 1, none⟩ = false ∧ w.frozen? ⟨g, 2, none⟩ = false ∧ w.frozen? ⟨g, 3, none⟩ = false ∧ w.frozen? ⟨g, 4, none⟩ = false ∧ w.frozen? ⟨g, 5, none⟩ = false ∧ w.frozen? ⟨g, 6, none⟩ = false :=
  ⟨frozen_of_row w _ 0 _ _ h, frozen_of_row w _ 1 _ _ h, frozen_of_row w _ 2 _ _ h, frozen_of_row w _ 3 _ _ h, frozen_of_row w _ 4 _ _ h, frozen_of_row w _ 5 _ _ h, frozen_of_row w _ 6 _ _ h⟩
/-- A state stored field by field. -/
def putSt (w : World) (g : Nat) (y : St) : World := ((((((w.setCell ⟨g, 0, none⟩ (.int .i64 y.g0)).setCell ⟨g, 1, none⟩ (.int .i64 y.g1)).setCell ⟨g, 2, none⟩ (.int .i64 y.g2)).setCell ⟨g, 3, none⟩ (.int .i64 y.g3)).setCell ⟨g, 4, none⟩ (.int .i64 y.l)).setCell ⟨g, 5, none⟩ (.int .i64 y.s)).setCell ⟨g, 6, none⟩ (.int .i64 y.d)
theorem StAt.put {w : World} {g : Nat} {x : St} (h : StAt w g x) (y : St) : StAt (putSt w g y) g y := by
  have k0 : (w.setCell ⟨g, 0, none⟩ (.int .i64 y.g0)).heap[g]? = some (.cells #[.int .i64 y.g0, .int .i64 x.g1, .int .i64 x.g2, .int .i64 x.g3, .int .i64 x.l, .int .i64 x.s, .int .i64 x.d] 24) := heap_setCell_same _ g 0 _ _ (.int .i64 y.g0) h
  have k1 : ((w.setCell ⟨g, 0, none⟩ (.int .i64 y.g0)).setCell ⟨g, 1, none⟩ (.int .i64 y.g1)).heap[g]? = some (.cells #[.int .i64 y.g0, .int .i64 y.g1, .int .i64 x.g2, .int .i64 x.g3, .int .i64 x.l, .int .i64 x.s, .int .i64 x.d] 24) := heap_setCell_same _ g 1 _ _ (.int .i64 y.g1) k0
  have k2 : (((w.setCell ⟨g, 0, none⟩ (.int .i64 y.g0)).setCell ⟨g, 1, none⟩ (.int .i64 y.g1)).setCell ⟨g, 2, none⟩ (.int .i64 y.g2)).heap[g]? = some (.cells #[.int .i64 y.g0, .int .i64 y.g1, .int .i64 y.g2, .int .i64 x.g3, .int .i64 x.l, .int .i64 x.s, .int .i64 x.d] 24) := heap_setCell_same _ g 2 _ _ (.int .i64 y.g2) k1
  have k3 : ((((w.setCell ⟨g, 0, none⟩ (.int .i64 y.g0)).setCell ⟨g, 1, none⟩ (.int .i64 y.g1)).setCell ⟨g, 2, none⟩ (.int .i64 y.g2)).setCell ⟨g, 3, none⟩ (.int .i64 y.g3)).heap[g]? = some (.cells #[.int .i64 y.g0, .int .i64 y.g1, .int .i64 y.g2, .int .i64 y.g3, .int .i64 x.l, .int .i64 x.s, .int .i64 x.d] 24) := heap_setCell_same _ g 3 _ _ (.int .i64 y.g3) k2
  have k4 : (((((w.setCell ⟨g, 0, none⟩ (.int .i64 y.g0)).setCell ⟨g, 1, none⟩ (.int .i64 y.g1)).setCell ⟨g, 2, none⟩ (.int .i64 y.g2)).setCell ⟨g, 3, none⟩ (.int .i64 y.g3)).setCell ⟨g, 4, none⟩ (.int .i64 y.l)).heap[g]? = some (.cells #[.int .i64 y.g0, .int .i64 y.g1, .int .i64 y.g2, .int .i64 y.g3, .int .i64 y.l, .int .i64 x.s, .int .i64 x.d] 24) := heap_setCell_same _ g 4 _ _ (.int .i64 y.l) k3
  have k5 : ((((((w.setCell ⟨g, 0, none⟩ (.int .i64 y.g0)).setCell ⟨g, 1, none⟩ (.int .i64 y.g1)).setCell ⟨g, 2, none⟩ (.int .i64 y.g2)).setCell ⟨g, 3, none⟩ (.int .i64 y.g3)).setCell ⟨g, 4, none⟩ (.int .i64 y.l)).setCell ⟨g, 5, none⟩ (.int .i64 y.s)).heap[g]? = some (.cells #[.int .i64 y.g0, .int .i64 y.g1, .int .i64 y.g2, .int .i64 y.g3, .int .i64 y.l, .int .i64 y.s, .int .i64 x.d] 24) := heap_setCell_same _ g 5 _ _ (.int .i64 y.s) k4
  have k6 : (((((((w.setCell ⟨g, 0, none⟩ (.int .i64 y.g0)).setCell ⟨g, 1, none⟩ (.int .i64 y.g1)).setCell ⟨g, 2, none⟩ (.int .i64 y.g2)).setCell ⟨g, 3, none⟩ (.int .i64 y.g3)).setCell ⟨g, 4, none⟩ (.int .i64 y.l)).setCell ⟨g, 5, none⟩ (.int .i64 y.s)).setCell ⟨g, 6, none⟩ (.int .i64 y.d)).heap[g]? = some (.cells #[.int .i64 y.g0, .int .i64 y.g1, .int .i64 y.g2, .int .i64 y.g3, .int .i64 y.l, .int .i64 y.s, .int .i64 y.d] 24) := heap_setCell_same _ g 6 _ _ (.int .i64 y.d) k5
  exact k6
theorem below_putSt {B : Nat} {a w : World} (h : Below B a w) {g : Nat} (hg : B ≤ g) (y : St) : Below B a (putSt w g y) := ((((((h.setCell hg _).setCell hg _).setCell hg _).setCell hg _).setCell hg _).setCell hg _).setCell hg _
theorem stSlot0 (w : World) : StAt (w.alloc (.cells #[.int .i64 0, .int .i64 0, .int .i64 0, .int .i64 0, .int .i64 0, .int .i64 0, .int .i64 0] 24)) w.heap.size zeroSt := heap_alloc_new _ _

end Go.Proofs.YtbamjhldebobhaaDoor
