/- The specification's NameSet. -/
import Derived.Test.YtbamjhldebobhaaGreatDoorStD
import Derived.Test.YtbamjhldebobhaaGreatDoorEscA
namespace Go.Proofs.YtbamjhldebobhaaGreatDoor
open Go.RowKit

theorem st_ret2 {P : Program} {fn : Func} {p u : Tmp} {a : Act} {w1 : World} {g : Nat} {t ty : TypeId} {fr : Nat × Nat} {d : TypeDesc} {y : St} {c : Int} {Q : Ending → World → Prop} (h : fn.results = #[.cell p ty, .tmp u])
    (hp : a.tmps.getD p undef = .pointer (some ⟨g, 0, none⟩)) (hc : a.tmps.getD u undef = .int .i64 c) (hg : w1.heap[g]? = some (.cells #[.int .i64 y.g0, .int .i64 y.g1, .int .i64 y.g2, .int .i64 y.g3, .int .i64 y.l, .int .i64 y.s, .int .i64 y.d] t fr))
    (hu : P.underlying ty = some d) (hd : (match d with | .struct _ | .array _ _ => true | _ => false) = true) (hi : (P.info? ty).map (·.size) = some 7) (hdef : a.defers = []) (hQ : Q (.returned (.tuple #[stV y, .int .i64 c])) w1) :
    bodyPost P fn Q .ret a w1 :=
  bodyPost_ret (results_row_tmp' h _ _ g _ _ _ _ hp hg hu hd hi) hdef (by rw [hc]; exact hQ)

/-- NameSet: the code and the state. -/
def nsC (x : St) (g n : Int) : Int := if stOKB x = true then (if eoC g n = 0 then (if pendB x = true then 13 else 0) else eoC g n) else 1
def nsX (x : St) (g n : Int) : St := if nsC x g n = 0 then stPut x g n else if nsC x g n = 13 then x else zeroSt
def NsDone (x : St) (g n : Int) (w : World) (e : Ending) (w' : World) : Prop := e = .returned (.tuple #[stV (nsX x g n), .int .i64 (nsC x g n)]) ∧ Below w.heap.size w w'
theorem eoC_vals (g n : Int) : eoC g n = 0 ∨ eoC g n = 4 ∨ eoC g n = 5 := by
  unfold eoC
  repeat' split
  all_goals simp
theorem eoC_in {g n : Int} (h : eoC g n = 0) : 0 ≤ g ∧ g ≤ 3 := by
  unfold eoC at h
  split at h
  · split at h
    · next h1 => exact inB_true h1.1
    · cases h
  · cases h

end Go.Proofs.YtbamjhldebobhaaGreatDoor
