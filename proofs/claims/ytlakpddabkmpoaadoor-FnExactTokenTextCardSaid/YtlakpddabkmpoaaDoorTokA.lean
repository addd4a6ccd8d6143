/- The specification's tokens: designations and plain escape sequences. -/
import Derived.Test.YtlakpddabkmpoaaDoorTokM
import Derived.Test.YtlakpddabkmpoaaDoorInts
import Derived.IntWalk
import Derived.Laws.Rows
import Derived.Laws.ResultCell
namespace Go.Proofs.YtlakpddabkmpoaaDoor
open Go.RowKit

theorem str_eqf {s t : ByteArray} (h : ¬ s = t) : (s.toList == t.toList) = false := by
  rw [beq_eq_false_iff_ne, ByteArray.toList_eq, ByteArray.toList_eq]
  intro h2
  exact h (ByteArray.ext (Array.toList_inj.1 h2))
theorem list36 : (⟨#[36]⟩ : ByteArray).toList = [36] := by rw [ByteArray.toList_eq]
def midV (s : ByteArray) : Value := .tuple #[.int .i64 (midG s), .int .i64 (midK s)]

theorem placeOf_drop (s : ByteArray) (k : Nat) (h : k < mids.length) : placeOf s (mids.drop k) k = if mids[k] = s then (k : Int) else placeOf s (mids.drop (k + 1)) ((k + 1 : Nat) : Int) := by
  rw [List.drop_eq_getElem_cons h]; rfl

/-- A token handed back in its slot. -/
def TokDone (x : Tok) (w : World) (e : Ending) (w' : World) : Prop := e = .returned (tokV x) ∧ Below w.heap.size w w'
theorem tok_ret {P : Program} {fn : Func} {p : Tmp} {a : Act} {w w1 : World} {g : Nat} {t ty : TypeId} {fr : Nat × Nat} {d : TypeDesc} {x y : Tok} (hx : x = y) (h : fn.results = #[.cell p ty])
    (hp : a.tmps.getD p undef = .pointer (some ⟨g, 0, none⟩)) (hg : w1.heap[g]? = some (.cells #[.int .i64 y.k, .int .i64 y.a, .int .i64 y.b, .int .i64 y.c, .int .i64 y.p, .int .i64 y.n] t fr))
    (hu : P.underlying ty = some d) (hd : (match d with | .struct _ | .array _ _ => true | _ => false) = true) (hi : (P.info? ty).map (·.size) = some 6) (hdef : a.defers = []) (hb : Below w.heap.size w w1) :
    bodyPost P fn (TokDone x w) .ret a w1 :=
  hx ▸ bodyPost_ret (results_cell_row h _ _ g _ _ _ _ hp hg hu hd hi) hdef ⟨rfl, hb⟩

def TokAt (w : World) (g : Nat) (x : Tok) : Prop := w.heap[g]? = some (.cells #[.int .i64 x.k, .int .i64 x.a, .int .i64 x.b, .int .i64 x.c, .int .i64 x.p, .int .i64 x.n] 50)
theorem TokAt.lt {w : World} {g : Nat} {x : Tok} (h : TokAt w g x) : g < w.heap.size := (Array.getElem?_eq_some_iff.1 h).1
theorem TokAt.keep {w w' : World} {g : Nat} {x : Tok} (h : TokAt w g x) (b : Below w.heap.size w w') : TokAt w' g x := (b.block g h.lt).trans h
theorem TokAt.below {w w' : World} {g B : Nat} {x : Tok} (h : TokAt w g x) (b : Below B w w') (hB : g < B) : TokAt w' g x := (b.block g hB).trans h
theorem TokAt.new (w : World) (x : Tok) : TokAt (w.alloc (.cells #[.int .i64 x.k, .int .i64 x.a, .int .i64 x.b, .int .i64 x.c, .int .i64 x.p, .int .i64 x.n] 50)) w.heap.size x := heap_alloc_new _ _
theorem TokAt.cells {w : World} {g : Nat} {x : Tok} (h : TokAt w g x) : w.cell? ⟨g, 0, none⟩ = some (.int .i64 x.k) ∧ w.cell? ⟨g, 1, none⟩ = some (.int .i64 x.a) ∧ w.cell? ⟨g, 2, none⟩ = some (.int .i64 x.b) ∧ w.cell? ⟨g, 3, none⟩ = some (.int .i64 x.c) ∧ w.cell? ⟨g, 4, none⟩ = some (.int .i64 x.p) ∧ w.cell? ⟨g, 5, none⟩ = some (.int .i64 x.n) := by
  refine ⟨?_, ?_, ?_, ?_, ?_, ?_⟩ <;> (rw [cell_of_row _ _ _ _ _ _ h]; rfl)
theorem TokAt.thaw {w : World} {g : Nat} {x : Tok} (h : TokAt w g x) : w.frozen? ⟨g, 0, none⟩ = false ∧ w.frozen? ⟨g, 1, none⟩ = false ∧ w.frozen? ⟨g, 2, none⟩ = false ∧ w.frozen? ⟨g, 3, none⟩ = false ∧ w.frozen? ⟨g, 4, none⟩ = false ∧ w.frozen? ⟨g, 5, none⟩ = false :=
  ⟨frozen_of_row w _ 0 _ _ h, frozen_of_row w _ 1 _ _ h, frozen_of_row w _ 2 _ _ h, frozen_of_row w _ 3 _ _ h, frozen_of_row w _ 4 _ _ h, frozen_of_row w _ 5 _ _ h⟩
/-- A token stored field by field. -/
def putTok (w : World) (g : Nat) (y : Tok) : World := (((((w.setCell ⟨g, 0, none⟩ (.int .i64 y.k)).setCell ⟨g, 1, none⟩ (.int .i64 y.a)).setCell ⟨g, 2, none⟩ (.int .i64 y.b)).setCell ⟨g, 3, none⟩ (.int .i64 y.c)).setCell ⟨g, 4, none⟩ (.int .i64 y.p)).setCell ⟨g, 5, none⟩ (.int .i64 y.n)
theorem TokAt.put {w : World} {g : Nat} {x : Tok} (h : TokAt w g x) (y : Tok) : TokAt (putTok w g y) g y := by
  have k0 := heap_setCell_same w g 0 _ _ (.int .i64 y.k) h
  have k1 := heap_setCell_same _ g 1 _ _ (.int .i64 y.a) k0
  have k2 := heap_setCell_same _ g 2 _ _ (.int .i64 y.b) k1
  have k3 := heap_setCell_same _ g 3 _ _ (.int .i64 y.c) k2
  have k4 := heap_setCell_same _ g 4 _ _ (.int .i64 y.p) k3
  have k5 := heap_setCell_same _ g 5 _ _ (.int .i64 y.n) k4
  exact k5
theorem below_put {B : Nat} {a w : World} (h : Below B a w) {g : Nat} (hg : B ≤ g) (y : Tok) : Below B a (putTok w g y) := (((((h.setCell hg _).setCell hg _).setCell hg _).setCell hg _).setCell hg _).setCell hg _
theorem below_two (w : World) (o o' : Obj) : Below w.heap.size w ((w.alloc o).alloc o') := ((Below.refl _ _).alloc (Nat.le_refl _) _).alloc (by simp) _

end Go.Proofs.YtlakpddabkmpoaaDoor
