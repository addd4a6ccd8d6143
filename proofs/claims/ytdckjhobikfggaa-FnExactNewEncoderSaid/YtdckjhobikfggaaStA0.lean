/- States in memory, for a seat whose program holds no sets (StA without their modules). -/
import Derived.Test.YtdckjhobikfggaaStM
import Derived.Test.YtdckjhobikfggaaOwn
import Derived.Laws.ResultCell
import Derived.Laws.Rows
import Derived.IntWalk
import Derived.Test.YtdckjhobikfggaaInts
namespace Go.Proofs.Ytdckjhobikfggaa
open Go.RowKit

theorem below_two (w : World) (o o' : Obj) : Below w.heap.size w ((w.alloc o).alloc o') := ((Below.refl _ _).alloc (Nat.le_refl _) _).alloc (by simp) _
theorem below_one (w : World) (o : Obj) : Below w.heap.size w (w.alloc o) := (Below.refl _ _).alloc (Nat.le_refl _) _

/-- A state handed back in its slot. -/
def StDone (x : St) (w : World) (e : Ending) (w' : World) : Prop := e = .returned (stV x) ∧ Below w.heap.size w w'
theorem st_ret {P : Program} {fn : Func} {p : Tmp} {a : Act} {w w1 : World} {g : Nat} {t ty : TypeId} {fr : Nat × Nat} {d : TypeDesc} {x y : St} (hx : x = y) (h : fn.results = #[.cell p ty])
    (hp : a.tmps.getD p undef = .pointer (some ⟨g, 0, none⟩)) (hg : w1.heap[g]? = some (.cells #[.int .i64 y.g0, .int .i64 y.g1, .int .i64 y.g2, .int .i64 y.g3, .int .i64 y.l, .int .i64 y.s, .int .i64 y.d] t fr))
    (hu : P.underlying ty = some d) (hd : (match d with | .struct _ | .array _ _ => true | _ => false) = true) (hi : (P.info? ty).map (·.size) = some 7) (hdef : a.defers = []) (hb : Below w.heap.size w w1) :
    bodyPost P fn (StDone x w) .ret a w1 :=
  hx ▸ bodyPost_ret (results_cell_row h _ _ g _ _ _ _ hp hg hu hd hi) hdef ⟨rfl, hb⟩

end Go.Proofs.Ytdckjhobikfggaa
