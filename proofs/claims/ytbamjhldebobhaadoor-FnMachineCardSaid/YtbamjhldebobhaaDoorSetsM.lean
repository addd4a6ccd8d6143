/- The registry of sets, as plain functions. -/
import Derived.Test.YtbamjhldebobhaaDoorRunesA
namespace Go.Proofs.YtbamjhldebobhaaDoor
open Go.RowKit

/-- A span: code, rune, count. -/
abbrev Sp := Int × Int × Int
def setName (n : Int) : ByteArray :=
  if n = 1 then ⟨#[97, 115, 99, 105, 105]⟩ else if n = 2 then ⟨#[114, 111, 109, 97, 110]⟩ else if n = 3 then ⟨#[107, 97, 110, 97]⟩ else if n = 4 then ⟨#[108, 97, 116, 105, 110]⟩ else
  if n = 5 then ⟨#[103, 114, 101, 101, 107]⟩ else if n = 6 then ⟨#[107, 97, 110, 106, 105]⟩ else if n = 7 then ⟨#[104, 97, 110, 103, 117, 108]⟩ else ⟨#[104, 97, 110, 122, 105]⟩
def setKind (n : Int) : Int := if n = 4 ∨ n = 5 then 2 else if n = 1 ∨ n = 2 ∨ n = 3 then 1 else 3
def setFinal (n : Int) : Int := if n = 1 then 66 else if n = 2 then 74 else if n = 3 then 73 else if n = 4 then 65 else if n = 5 then 70 else if n = 6 then 66 else if n = 7 then 67 else 65
def setSpans (n : Int) : List Sp :=
  if n = 1 then [(33, 33, 94)] else if n = 2 then [(33, 33, 59), (92, 165, 1), (93, 93, 33), (126, 8254, 1)] else if n = 3 then [(33, 65377, 63)] else if n = 4 then [(32, 160, 96)] else
  if n = 5 then [(32, 160, 1), (65, 913, 17), (83, 931, 7), (97, 945, 25)] else if n = 6 then [(8993, 65296, 10), (9249, 12353, 83), (9505, 12449, 86), (12321, 19968, 94)] else
  if n = 7 then [(9249, 12353, 83), (12321, 44032, 94), (12577, 44126, 94)] else [(9249, 12353, 83), (9505, 12449, 86), (12321, 19998, 94)]

/-- A set lies between 1 and 8. -/
def setB (n : Int) : Bool := inB n 1 8
theorem set_cases (n : Int) : n = 1 ∨ n = 2 ∨ n = 3 ∨ n = 4 ∨ n = 5 ∨ n = 6 ∨ n = 7 ∨ (n ≠ 1 ∧ n ≠ 2 ∧ n ≠ 3 ∧ n ≠ 4 ∧ n ≠ 5 ∧ n ≠ 6 ∧ n ≠ 7) := by omega

/-- The cells of spans in a row. -/
def spCells (sp : List Sp) : List Value := sp.flatMap fun s => [.int .i64 s.1, .int .i64 s.2.1, .int .i64 s.2.2]
theorem spCells_length (sp : List Sp) : (spCells sp).length = 3 * sp.length := by
  induction sp with
  | nil => rfl
  | cons s t ih => simp [spCells] at ih ⊢; omega
theorem spCells_at (sp : List Sp) : ∀ k (h : k < sp.length), (spCells sp)[k * 3]? = some (.int .i64 (sp[k]).1) ∧ (spCells sp)[k * 3 + 1]? = some (.int .i64 (sp[k]).2.1) ∧ (spCells sp)[k * 3 + 2]? = some (.int .i64 (sp[k]).2.2) := by
  induction sp with
  | nil => intro k h; simp at h
  | cons s t ih =>
    intro k h
    have hc : spCells (s :: t) = .int .i64 s.1 :: .int .i64 s.2.1 :: .int .i64 s.2.2 :: spCells t := by simp [spCells]
    rw [hc]
    cases k with
    | zero => exact ⟨rfl, rfl, rfl⟩
    | succ k =>
      have := ih k (by simpa using h)
      rw [show (k + 1) * 3 = k * 3 + 3 by omega]
      simpa using this

/-- The character of a code, -1 of none. -/
def runeS : List Sp → Int → Int
  | [], _ => -1
  | s :: t, c => if inB c s.1 (s.1 + s.2.2 - 1) = true then s.2.1 + c - s.1 else runeS t c
/-- The code of a character, 0 of none. -/
def codeS : List Sp → Int → Int
  | [], _ => 0
  | s :: t, r => if inB r s.2.1 (s.2.1 + s.2.2 - 1) = true then s.1 + r - s.2.1 else codeS t r
def sizeS (sp : List Sp) : Int := (sp.map (·.2.2)).sum
/-- Numbers of a span are small. -/
def smallSp (s : Sp) : Prop := (0 ≤ s.1 ∧ s.1 ≤ 2000000) ∧ (0 ≤ s.2.1 ∧ s.2.1 ≤ 2000000) ∧ 0 ≤ s.2.2 ∧ s.2.2 ≤ 2000000
theorem set_small (n : Int) : ∀ s ∈ setSpans n, smallSp s := by
  unfold setSpans smallSp
  repeat' split
  all_goals (intro s hs; simp only [List.mem_cons, List.not_mem_nil, or_false] at hs; rcases hs with rfl | rfl | rfl | rfl <;> simp)
theorem set_few (n : Int) : 1 ≤ (setSpans n).length ∧ (setSpans n).length ≤ 4 := by
  unfold setSpans
  repeat' split
  all_goals simp
theorem runeS_drop (sp : List Sp) (c : Int) (k : Nat) (h : k < sp.length) : runeS (sp.drop k) c = if inB c (sp[k]).1 ((sp[k]).1 + (sp[k]).2.2 - 1) = true then (sp[k]).2.1 + c - (sp[k]).1 else runeS (sp.drop (k + 1)) c := by
  rw [List.drop_eq_getElem_cons h]; rfl
theorem codeS_drop (sp : List Sp) (r : Int) (k : Nat) (h : k < sp.length) : codeS (sp.drop k) r = if inB r (sp[k]).2.1 ((sp[k]).2.1 + (sp[k]).2.2 - 1) = true then (sp[k]).1 + r - (sp[k]).2.1 else codeS (sp.drop (k + 1)) r := by
  rw [List.drop_eq_getElem_cons h]; rfl

end Go.Proofs.YtbamjhldebobhaaDoor
