/- The registry: FindSet, SizeOf, SetsFor, SetOf of the specification. -/
import Derived.Test.YtdckjhobikfggaaDoorSetsE
import Derived.Laws.ResultCell
namespace Go.Proofs.YtdckjhobikfggaaDoor
open Go.RowKit

def fsC (kind final : Int) : Int := if inB kind 1 3 = true then (if findNo kind final = 0 then 5 else 0) else 9
def fsR (kind final : Int) : Int := if fsC kind final = 0 then findNo kind final else 0
def fsV (kind final : Int) : Value := .tuple #[.int .i64 (fsR kind final), .int .i64 (fsC kind final)]
theorem fsV_bad (a b c : Int) (h : fsC a b = c) (h0 : c ≠ 0) : fsV a b = .tuple #[.int .i64 0, .int .i64 c] := by simp [fsV, fsR, h, h0]
theorem fsV_ok (a b : Int) (h : fsC a b = 0) : fsV a b = .tuple #[.int .i64 (findNo a b), .int .i64 0] := by simp [fsV, fsR, h]

def soC (n : Int) : Int := if setB n = true then 0 else 5
def soZ (n : Int) : Int := if setB n = true then sizeS (setSpans n) else 0
def soV (n : Int) : Value := .tuple #[.int .i64 (soZ n), .int .i64 (soC n)]
theorem sizeS_take (sp : List Sp) (k : Nat) (h : k < sp.length) : sizeS (sp.take (k + 1)) = sizeS (sp.take k) + (sp[k]).2.2 := by
  rw [List.take_succ_eq_append_getElem h]
  simp only [sizeS, List.map_append, List.sum_append, List.map_cons, List.map_nil, List.sum_cons, List.sum_nil]
  omega
theorem sizeS_small (sp : List Sp) (h : ∀ s ∈ sp, smallSp s) : 0 ≤ sizeS sp ∧ sizeS sp ≤ 2000000 * sp.length := by
  induction sp with
  | nil => simp [sizeS]
  | cons s t ih =>
    have ⟨h1, h2⟩ := ih (fun x hx => h x (List.mem_cons_of_mem _ hx))
    have ⟨_, _, h3, h4⟩ := h s (by simp)
    simp only [sizeS, List.map_cons, List.sum_cons, List.length_cons] at *
    omega

/-- The sets that have a character, of those before k. -/
def setsZ (r : Int) : Nat → List Int
  | 0 => []
  | k + 1 => setsZ r k ++ if 0 < codeS (setSpans ((k : Int) + 1)) r then [(k : Int) + 1] else []
theorem setsZ_length (r : Int) : ∀ k, (setsZ r k).length ≤ k
  | 0 => by simp [setsZ]
  | k + 1 => by
    have := setsZ_length r k
    simp only [setsZ, List.length_append]
    split <;> simp <;> omega
def RowDone (w : World) (zs : List Int) (e : Ending) (w' : World) : Prop := ∃ v, e = .returned v ∧ Own .i64 3 w' w.heap.size v zs ∧ Below w.heap.size w w'

/-- A struct in a slot of its own and a number are handed back. -/
theorem results_row_tmp {P : Program} {fn : Func} {p u : Tmp} {ty : TypeId} (h : fn.results = #[.cell p ty, .tmp u]) (tmps : Array Value) (w : World) (g : Nat) (t : TypeId) (cs : Array Value) (fr : Nat × Nat) (d : TypeDesc)
    (hp : tmps.getD p undef = .pointer (some ⟨g, 0, none⟩)) (hg : w.heap[g]? = some (.cells cs t fr))
    (hu : P.underlying ty = some d) (hd : (match d with | .struct _ | .array _ _ => true | _ => false) = true) (hi : (P.info? ty).map (·.size) = some cs.size) :
    (results fn tmps).run P w = .ok (.tuple #[.agg cs, tmps.getD u undef]) w := by
  rw [results_cell_tmp h, hp]
  simp [asAddr, run_loadVar_row w g t ty cs fr d hg hu hd hi, Result.andThen]

def zeroSet : Value := .agg #[.string ⟨#[]⟩, .int .i64 0, .int .i64 0, .slice none 0 0]
def SetRet (n : Int) (w : World) (e : Ending) (w' : World) : Prop :=
  (setB n = false ∧ e = .returned (.tuple #[zeroSet, .int .i64 5]) ∨ setB n = true ∧ ∃ g, e = .returned (.tuple #[setV n g, .int .i64 0]) ∧ w.heap.size ≤ g ∧ w'.heap[g]? = some (setO n)) ∧ Below w.heap.size w w'

end Go.Proofs.YtdckjhobikfggaaDoor
