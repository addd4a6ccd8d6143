/- An encoder, as plain data and in a block. -/
import Derived.Test.YtdckjhobikfggaaDoorMarks
import Derived.Laws.ResultCell
import Derived.Laws.Rows
namespace Go.Proofs.YtdckjhobikfggaaDoor
open Go.RowKit

/-- An encoder; its line z lies behind a slice of its own. -/
structure Ec where
  n : Int
  c : Int
  k : Int
  r : ByteArray
  z : List Int
  b : Bool
  o : Bool
def ecV (e : Ec) (v : Value) : Value := .agg #[.int .i64 e.n, .int .i64 e.c, .int .i64 e.k, .string e.r, v, .bool e.b, .bool e.o]
def zeroEc : Ec := ⟨0, 0, 0, ⟨#[]⟩, [], false, false⟩
def newEc (n : Int) : Ec := ⟨n, 0, 0, ⟨#[]⟩, [], false, false⟩

/-- An encoder in block g. -/
def EcAt (w : World) (g : Nat) (e : Ec) (v : Value) : Prop := w.heap[g]? = some (.cells #[.int .i64 e.n, .int .i64 e.c, .int .i64 e.k, .string e.r, v, .bool e.b, .bool e.o] 57)
theorem EcAt.lt {w : World} {g : Nat} {e : Ec} {v : Value} (h : EcAt w g e v) : g < w.heap.size := (Array.getElem?_eq_some_iff.1 h).1
theorem EcAt.keep {w w' : World} {g : Nat} {e : Ec} {v : Value} (h : EcAt w g e v) (b : Below w.heap.size w w') : EcAt w' g e v := (b.block g h.lt).trans h
theorem EcAt.below {w w' : World} {g B : Nat} {e : Ec} {v : Value} (h : EcAt w g e v) (b : Below B w w') (hB : g < B) : EcAt w' g e v := (b.block g hB).trans h
theorem EcAt.new (w : World) (e : Ec) (v : Value) : EcAt (w.alloc (.cells #[.int .i64 e.n, .int .i64 e.c, .int .i64 e.k, .string e.r, v, .bool e.b, .bool e.o] 57)) w.heap.size e v := heap_alloc_new _ _
theorem ecSlot0 (w : World) : EcAt (w.alloc (.cells #[.int .i64 0, .int .i64 0, .int .i64 0, .string ⟨#[]⟩, .slice none 0 0, .bool false, .bool false] 57)) w.heap.size zeroEc (.slice none 0 0) := heap_alloc_new _ _
theorem ecCells {w : World} {g : Nat} {n c k : Int} {r : ByteArray} {z : List Int} {b o : Bool} {v : Value} (h : EcAt w g ⟨n, c, k, r, z, b, o⟩ v) : w.cell? ⟨g, 0, none⟩ = some (.int .i64 n) ∧ w.cell? ⟨g, 1, none⟩ = some (.int .i64 c) ∧ w.cell? ⟨g, 2, none⟩ = some (.int .i64 k) ∧ w.cell? ⟨g, 3, none⟩ = some (.string r) ∧ w.cell? ⟨g, 4, none⟩ = some v ∧ w.cell? ⟨g, 5, none⟩ = some (.bool b) ∧ w.cell? ⟨g, 6, none⟩ = some (.bool o) := by
  refine ⟨?_, ?_, ?_, ?_, ?_, ?_, ?_⟩ <;> (rw [cell_of_row _ _ _ _ _ _ h]; rfl)
theorem EcAt.cells {w : World} {g : Nat} {e : Ec} {v : Value} (h : EcAt w g e v) : w.cell? ⟨g, 0, none⟩ = some (.int .i64 e.n) ∧ w.cell? ⟨g, 1, none⟩ = some (.int .i64 e.c) ∧ w.cell? ⟨g, 2, none⟩ = some (.int .i64 e.k) ∧ w.cell? ⟨g, 3, none⟩ = some (.string e.r) ∧ w.cell? ⟨g, 4, none⟩ = some v ∧ w.cell? ⟨g, 5, none⟩ = some (.bool e.b) ∧ w.cell? ⟨g, 6, none⟩ = some (.bool e.o) := ecCells h
theorem EcAt.thaw {w : World} {g : Nat} {e : Ec} {v : Value} (h : EcAt w g e v) : w.frozen? ⟨g, 0, none⟩ = false ∧ w.frozen? ⟨g, 1, none⟩ = false ∧ w.frozen? ⟨g, 2, none⟩ = false ∧ w.frozen? ⟨g, 3, none⟩ = false ∧ w.frozen? ⟨g, 4, none⟩ = false ∧ w.frozen? ⟨g, 5, none⟩ = false ∧ w.frozen? ⟨g, 6, none⟩ = false :=
  ⟨frozen_of_row w _ 0 _ _ h, frozen_of_row w _ 1 _ _ h, frozen_of_row w _ 2 _ _ h, frozen_of_row w _ 3 _ _ h, frozen_of_row w _ 4 _ _ h, frozen_of_row w _ 5 _ _ h, frozen_of_row w _ 6 _ _ h⟩
/-- Stored field by field. -/
def putEc (w : World) (g : Nat) (e : Ec) (v : Value) : World := (((((((w.setCell ⟨g, 0, none⟩ (.int .i64 e.n)).setCell ⟨g, 1, none⟩ (.int .i64 e.c)).setCell ⟨g, 2, none⟩ (.int .i64 e.k)).setCell ⟨g, 3, none⟩ (.string e.r)).setCell ⟨g, 4, none⟩ v).setCell ⟨g, 5, none⟩ (.bool e.b)).setCell ⟨g, 6, none⟩ (.bool e.o))
theorem EcAt.set0 {w : World} {g : Nat} {n c k : Int} {r : ByteArray} {z : List Int} {b o : Bool} {v : Value} (h : EcAt w g ⟨n, c, k, r, z, b, o⟩ v) (x : Int) : EcAt (w.setCell ⟨g, 0, none⟩ (.int .i64 x)) g ⟨x, c, k, r, z, b, o⟩ v := heap_setCell_same _ g 0 _ _ (.int .i64 x) h
theorem EcAt.set1 {w : World} {g : Nat} {n c k : Int} {r : ByteArray} {z : List Int} {b o : Bool} {v : Value} (h : EcAt w g ⟨n, c, k, r, z, b, o⟩ v) (x : Int) : EcAt (w.setCell ⟨g, 1, none⟩ (.int .i64 x)) g ⟨n, x, k, r, z, b, o⟩ v := heap_setCell_same _ g 1 _ _ (.int .i64 x) h
theorem EcAt.set2 {w : World} {g : Nat} {n c k : Int} {r : ByteArray} {z : List Int} {b o : Bool} {v : Value} (h : EcAt w g ⟨n, c, k, r, z, b, o⟩ v) (x : Int) : EcAt (w.setCell ⟨g, 2, none⟩ (.int .i64 x)) g ⟨n, c, x, r, z, b, o⟩ v := heap_setCell_same _ g 2 _ _ (.int .i64 x) h
theorem EcAt.set3 {w : World} {g : Nat} {n c k : Int} {r : ByteArray} {z : List Int} {b o : Bool} {v : Value} (h : EcAt w g ⟨n, c, k, r, z, b, o⟩ v) (x : ByteArray) : EcAt (w.setCell ⟨g, 3, none⟩ (.string x)) g ⟨n, c, k, x, z, b, o⟩ v := heap_setCell_same _ g 3 _ _ (.string x) h
theorem EcAt.set4 {w : World} {g : Nat} {n c k : Int} {r : ByteArray} {z : List Int} {b o : Bool} {v : Value} (h : EcAt w g ⟨n, c, k, r, z, b, o⟩ v) (x : Value) (y : List Int) : EcAt (w.setCell ⟨g, 4, none⟩ x) g ⟨n, c, k, r, y, b, o⟩ x := heap_setCell_same _ g 4 _ _ x h
theorem EcAt.set5 {w : World} {g : Nat} {n c k : Int} {r : ByteArray} {z : List Int} {b o : Bool} {v : Value} (h : EcAt w g ⟨n, c, k, r, z, b, o⟩ v) (x : Bool) : EcAt (w.setCell ⟨g, 5, none⟩ (.bool x)) g ⟨n, c, k, r, z, x, o⟩ v := heap_setCell_same _ g 5 _ _ (.bool x) h
theorem EcAt.set6 {w : World} {g : Nat} {n c k : Int} {r : ByteArray} {z : List Int} {b o : Bool} {v : Value} (h : EcAt w g ⟨n, c, k, r, z, b, o⟩ v) (x : Bool) : EcAt (w.setCell ⟨g, 6, none⟩ (.bool x)) g ⟨n, c, k, r, z, b, x⟩ v := heap_setCell_same _ g 6 _ _ (.bool x) h
theorem EcAt.put {w : World} {g : Nat} {x : Ec} {u : Value} (h : EcAt w g x u) (e : Ec) (v : Value) : EcAt (putEc w g e v) g e v := (((((((h.set0 e.n).set1 e.c).set2 e.k).set3 e.r).set4 v e.z).set5 e.b).set6 e.o)
theorem below_putEc {B : Nat} {a w : World} (h : Below B a w) {g : Nat} (hg : B ≤ g) (e : Ec) (v : Value) : Below B a (putEc w g e v) := (((((((h.setCell hg _).setCell hg _).setCell hg _).setCell hg _).setCell hg _).setCell hg _).setCell hg _)


theorem ecBelow1 (w : World) (o : Obj) : Below w.heap.size w (w.alloc o) := (Below.refl _ _).alloc (Nat.le_refl _) _
theorem ecBelow2 (w : World) (o o' : Obj) : Below w.heap.size w ((w.alloc o).alloc o') := ((Below.refl _ _).alloc (Nat.le_refl _) _).alloc (by simp) _
theorem ecBelow3 (w : World) (o o' o'' : Obj) : Below w.heap.size w (((w.alloc o).alloc o').alloc o'') := (ecBelow2 w o o').alloc (by simp; omega) _
/-- A slice of the call's own, a cell of another block being written. -/
theorem Own.setAt {k : IntKind} {t : TypeId} {w : World} {B g i : Nat} {v u : Value} {zs : List Int} (h : Own k t w B v zs) (hv : v.ownBlock ≠ some g) : Own k t (w.setCell ⟨g, i, none⟩ u) B v zs := by
  refine ⟨h.1, ?_⟩
  rcases h.2 with h | ⟨b, cap, cur, x1, x2, x3, x4⟩
  · exact .inl h
  · have hb : b ≠ g := fun he => hv (by rw [x1, he]; rfl)
    exact .inr ⟨b, cap, cur, x1, x2, by rw [Below.heap_setCell _ _ _ _ (by simpa using hb)]; exact x3, x4⟩
theorem Own.putEc {k : IntKind} {t : TypeId} {w : World} {B g : Nat} {v u : Value} {zs : List Int} (h : Own k t w B v zs) (hv : v.ownBlock ≠ some g) (e : Ec) : Own k t (putEc w g e u) B v zs :=
  (((((((h.setAt hv).setAt hv).setAt hv).setAt hv).setAt hv).setAt hv).setAt hv)
/-- Such a slice lies in no block that was there. -/
theorem Own.off {k : IntKind} {t : TypeId} {w : World} {B g : Nat} {v : Value} {zs : List Int} (h : Own k t w B v zs) (hg : g < B) : v.ownBlock ≠ some g := by
  intro he
  have := World.ownsRow.lt h g he
  omega
theorem ec_ret1 {P : Program} {fn : Func} {p : Tmp} {a : Act} {w1 : World} {g : Nat} {ty : TypeId} {d : TypeDesc} {y : Ec} {v : Value} {Q : Ending → World → Prop} (h : fn.results = #[.cell p ty])
    (hp : a.tmps.getD p undef = .pointer (some ⟨g, 0, none⟩)) (hg : EcAt w1 g y v)
    (hu : P.underlying ty = some d) (hd : (match d with | .struct _ | .array _ _ => true | _ => false) = true) (hi : (P.info? ty).map (·.size) = some 7) (hdef : a.defers = []) (hQ : Q (.returned (ecV y v)) w1) :
    bodyPost P fn Q .ret a w1 :=
  bodyPost_ret (results_cell_row h _ _ g _ _ _ _ hp hg hu hd hi) hdef hQ

end Go.Proofs.YtdckjhobikfggaaDoor
