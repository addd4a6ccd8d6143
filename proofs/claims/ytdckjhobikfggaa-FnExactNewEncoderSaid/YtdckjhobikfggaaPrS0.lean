/- StartOf: the states in which strings of a profile begin (a seat whose program holds no sets). -/
import Derived.Test.YtdckjhobikfggaaStA0
namespace Go.Proofs.Ytdckjhobikfggaa
open Go.RowKit

/-- A struct in a slot of its own and a number are handed back. -/
theorem results_row_tmp' {P : Program} {fn : Func} {p u : Tmp} {ty : TypeId} (h : fn.results = #[.cell p ty, .tmp u]) (tmps : Array Value) (w : World) (g : Nat) (t : TypeId) (cs : Array Value) (fr : Nat × Nat) (d : TypeDesc)
    (hp : tmps.getD p undef = .pointer (some ⟨g, 0, none⟩)) (hg : w.heap[g]? = some (.cells cs t fr))
    (hu : P.underlying ty = some d) (hd : (match d with | .struct _ | .array _ _ => true | _ => false) = true) (hi : (P.info? ty).map (·.size) = some cs.size) :
    (results fn tmps).run P w = .ok (.tuple #[.agg cs, tmps.getD u undef]) w := by
  rw [results_cell_tmp h, hp]
  simp [asAddr, run_loadVar_row w g t ty cs fr d hg hu hd hi, Result.andThen]
theorem st_ret2 {P : Program} {fn : Func} {p u : Tmp} {a : Act} {w1 : World} {g : Nat} {t ty : TypeId} {fr : Nat × Nat} {d : TypeDesc} {y : St} {c : Int} {Q : Ending → World → Prop} (h : fn.results = #[.cell p ty, .tmp u])
    (hp : a.tmps.getD p undef = .pointer (some ⟨g, 0, none⟩)) (hc : a.tmps.getD u undef = .int .i64 c) (hg : w1.heap[g]? = some (.cells #[.int .i64 y.g0, .int .i64 y.g1, .int .i64 y.g2, .int .i64 y.g3, .int .i64 y.l, .int .i64 y.s, .int .i64 y.d] t fr))
    (hu : P.underlying ty = some d) (hd : (match d with | .struct _ | .array _ _ => true | _ => false) = true) (hi : (P.info? ty).map (·.size) = some 7) (hdef : a.defers = []) (hQ : Q (.returned (.tuple #[stV y, .int .i64 c])) w1) :
    bodyPost P fn Q .ret a w1 :=
  bodyPost_ret (results_row_tmp' h _ _ g _ _ _ _ hp hg hu hd hi) hdef (by rw [hc]; exact hQ)

/-- There is such a profile. -/
def proB (n : Int) : Bool := inB n 1 5
def startP (n : Int) : St := if n = 5 then ⟨1, 4, 0, 0, 0, 0, 0⟩ else ⟨1, 0, 0, 0, 0, 0, 0⟩
def soX (n : Int) : St := if proB n = true then startP n else zeroSt
def soC (n : Int) : Int := if proB n = true then 0 else 5
def SoDone (n : Int) (w : World) (e : Ending) (w' : World) : Prop := e = .returned (.tuple #[stV (soX n), .int .i64 (soC n)]) ∧ Below w.heap.size w w'

theorem spec_l05No (n : Int) (w : World) : Calls Try.prog 18 #[.int .i64 n] w fun e w' => e = .returned (.bool (proB n)) ∧ w = w' := by
  go_enter Try.func18, Try.ntmps18
  go_wp2_with (go_at_call 26; refine (spec_l01In _ _ _ _).mono ?_; rintro e w' ⟨rfl, rfl⟩)
  go_ret
  exact ⟨rfl, rfl⟩

theorem impl_isProfile (n : Int) (w : World) : Calls Try.prog 20 #[.int .i64 n] w fun e w' => e = .returned (.bool (proB n)) ∧ w = w' := by
  by_cases h1 : 1 ≤ n
  · by_cases h2 : n ≤ 5
    all_goals
      go_enter Try.func20, Try.ntmps20
      go_wp2
      go_ret
      exact ⟨by simp [proB, inB, *], rfl⟩
  · go_enter Try.func20, Try.ntmps20
    go_wp2
    go_ret
    exact ⟨by simp [proB, inB]; omega, rfl⟩

end Go.Proofs.Ytdckjhobikfggaa
