/- The registry: FindSet, SizeOf, SetsFor, SetOf of the specification. -/
import Derived.Test.YtbamjhldebobhaaDoorSetsE
import Derived.Laws.ResultCell
namespace Go.Proofs.YtbamjhldebobhaaDoor
open Go.RowKit

def fsC (kind final : Int) : Int := if inB kind 1 3 = true then (if findNo kind final = 0 then 5 else 0) else 9
def fsR (kind final : Int) : Int := if fsC kind final = 0 then findNo kind final else 0
def fsV (kind final : Int) : Value := .tuple #[.int .i64 (fsR kind final), .int .i64 (fsC kind final)]
theorem fsV_bad (a b c : Int) (h : fsC a b = c) (h0 : c ≠ 0) : fsV a b = .tuple #[.int .i64 0, .int .i64 c] := by simp [fsV, fsR, h, h0]
theorem fsV_ok (a b : Int) (h : fsC a b = 0) : fsV a b = .tuple #[.int .i64 (findNo a b), .int .i64 0] := by simp [fsV, fsR, h]

set_option maxHeartbeats 1000000 in
theorem spec_l02Find (kind final : Int) (w : World) : Calls Tryd.prog 64 #[.int .i64 kind, .int .i64 final] w fun e w' => e = .returned (.int .i64 (findNo kind final)) ∧ Below w.heap.size w w' := by
  go_enter Tryd.func64, Tryd.ntmps64
  go_wp2
  go_loopw [5] (fun i wr => ∃ k f : Nat, k + f = 9 ∧ 1 ≤ k ∧ i = .int .i64 k ∧ Hid (findNo kind final = firstNo (fun k => decide (setKind k = kind) && decide (setFinal k = final)) f (k : Int)) ∧ Below w.heap.size w wr) (fun i _ => 9 - (intOf i).toNat)
  case atStart => exact ⟨1, 8, rfl, by omega, rfl, Lib.hid rfl, Below.refl _ _⟩
  case round =>
    obtain ⟨k, f, hk, hk1, rfl, HR, b⟩ := hrel
    by_cases hlt : k ≤ 8
    · obtain ⟨f, rfl⟩ : ∃ f', f = f' + 1 := ⟨f - 1, by omega⟩
      go_wp2_with fail
      refine (spec_l02Set (k : Int) wr).mono ?_
      rintro e w1 ⟨g, rfl, hg, hblk, b1⟩
      clear hblk
      unfold setV
      have F1 := setField1
      have F2 := setField2
      have B1 : Below w.heap.size w w1 := b.trans (b1.mono b.size)
      have HU := Lib.hid (show firstNo (fun k => decide (setKind k = kind) && decide (setFinal k = final)) (f + 1) (k : Int) = if (decide (setKind (k : Int) = kind) && decide (setFinal (k : Int) = final)) = true then (k : Int) else firstNo (fun k => decide (setKind k = kind) && decide (setFinal k = final)) f ((k : Int) + 1) from rfl)
      generalize hK : setKind (k : Int) = a at *
      generalize hF : setFinal (k : Int) = c at *
      by_cases h1 : a = kind
      · by_cases h2 : c = final
        · have HE : Hid (findNo kind final = (k : Int)) := Lib.hid (by rw [HR.out, HU.out]; simp [h1, h2])
          have z1 : (a == kind) = true := by simpa using h1
          have z2 : (c == final) = true := by simpa using h2
          clear h1 h2
          go_wp2
          go_ret
          exact ⟨ret_int HE.out.symm, B1.alloc (by have := B1.size; omega) _⟩
        · have HX : Hid (findNo kind final = firstNo (fun k => decide (setKind k = kind) && decide (setFinal k = final)) f ((k + 1 : Nat) : Int)) := Lib.hid (by rw [HR.out, HU.out]; simp [h2])
          have z1 : (a == kind) = true := by simpa using h1
          have z2 : (c == final) = false := by simpa using h2
          clear h1 h2
          go_wp2
          go_roundw
          case rel => exact ⟨k + 1, f, by omega, by omega, by go_num, HX, B1.alloc (by have := B1.size; omega) _⟩
          case measure => simp [intOf]; omega
      · have HX : Hid (findNo kind final = firstNo (fun k => decide (setKind k = kind) && decide (setFinal k = final)) f ((k + 1 : Nat) : Int)) := Lib.hid (by rw [HR.out, HU.out]; simp [h1])
        have z1 : (a == kind) = false := by simpa using h1
        clear h1
        go_wp2
        go_roundw
        case rel => exact ⟨k + 1, f, by omega, by omega, by go_num, HX, B1.alloc (by have := B1.size; omega) _⟩
        case measure => simp [intOf]; omega
    · have hf : f = 0 := by omega
      subst hf
      have HE : Hid (findNo kind final = 0) := Lib.hid (by rw [HR.out]; rfl)
      go_wp2
      go_ret
      exact ⟨ret_int HE.out.symm, b⟩

def soC (n : Int) : Int := if setB n = true then 0 else 5
def soZ (n : Int) : Int := if setB n = true then sizeS (setSpans n) else 0
def soV (n : Int) : Value := .tuple #[.int .i64 (soZ n), .int .i64 (soC n)]
theorem sizeS_take (sp : List Sp) (k : Nat) (h : k < sp.length) : sizeS (sp.take (k + 1)) = sizeS (sp.take k) + (sp[k]).2.2 := by
  rw [List.take_succ_eq_append_getElem h]
  simp only [sizeS, List.map_append, List.sum_append, List.map_cons, List.map_nil, List.sum_cons, List.sum_nil]
  omega
theorem sizeS_small (sp : List Sp) (h : ∀ s ∈ sp, smallSp s) : 0 ≤ sizeS sp ∧ sizeS sp ≤ 2000000 * sp.length := by
  induction sp with
  | nil => simp [sizeS]
  | cons s t ih =>
    have ⟨h1, h2⟩ := ih (fun x hx => h x (List.mem_cons_of_mem _ hx))
    have ⟨_, _, h3, h4⟩ := h s (by simp)
    simp only [sizeS, List.map_cons, List.sum_cons, List.length_cons] at *
    omega

/-- The sets that have a character, of those before k. -/
def setsZ (r : Int) : Nat → List Int
  | 0 => []
  | k + 1 => setsZ r k ++ if 0 < codeS (setSpans ((k : Int) + 1)) r then [(k : Int) + 1] else []
theorem setsZ_length (r : Int) : ∀ k, (setsZ r k).length ≤ k
  | 0 => by simp [setsZ]
  | k + 1 => by
    have := setsZ_length r k
    simp only [setsZ, List.length_append]
    split <;> simp <;> omega
def RowDone (w : World) (zs : List Int) (e : Ending) (w' : World) : Prop := ∃ v, e = .returned v ∧ Own .i64 3 w' w.heap.size v zs ∧ Below w.heap.size w w'

/-- A struct in a slot of its own and a number are handed back. -/
theorem results_row_tmp {P : Program} {fn : Func} {p u : Tmp} {ty : TypeId} (h : fn.results = #[.cell p ty, .tmp u]) (tmps : Array Value) (w : World) (g : Nat) (t : TypeId) (cs : Array Value) (fr : Nat × Nat) (d : TypeDesc)
    (hp : tmps.getD p undef = .pointer (some ⟨g, 0, none⟩)) (hg : w.heap[g]? = some (.cells cs t fr))
    (hu : P.underlying ty = some d) (hd : (match d with | .struct _ | .array _ _ => true | _ => false) = true) (hi : (P.info? ty).map (·.size) = some cs.size) :
    (results fn tmps).run P w = .ok (.tuple #[.agg cs, tmps.getD u undef]) w := by
  rw [results_cell_tmp h, hp]
  simp [asAddr, run_loadVar_row w g t ty cs fr d hg hu hd hi, Result.andThen]

def zeroSet : Value := .agg #[.string ⟨#[]⟩, .int .i64 0, .int .i64 0, .slice none 0 0]
def SetRet (n : Int) (w : World) (e : Ending) (w' : World) : Prop :=
  (setB n = false ∧ e = .returned (.tuple #[zeroSet, .int .i64 5]) ∨ setB n = true ∧ ∃ g, e = .returned (.tuple #[setV n g, .int .i64 0]) ∧ w.heap.size ≤ g ∧ w'.heap[g]? = some (setO n)) ∧ Below w.heap.size w w'

end Go.Proofs.YtbamjhldebobhaaDoor
