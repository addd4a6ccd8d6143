/- The codes' words: contracts of CodeWord and CodeOf, the program's and the model's. The package's table reads as its text lays it. -/
import Derived.Test.YtdegpogjenfpaaaDoorRunesA
import Derived.Laws.Rows
namespace Go.Proofs.YtdegpogjenfpaaaDoor
open Go.RowKit

def words : List ByteArray := [⟨#[111, 107]⟩, ⟨#[98, 97, 100]⟩, ⟨#[108, 111, 110, 103]⟩, ⟨#[102, 111, 114, 109]⟩, ⟨#[114, 97, 110, 103, 101]⟩, ⟨#[110, 111, 110, 101]⟩, ⟨#[109, 97, 110, 121]⟩, ⟨#[102, 117, 108, 108]⟩, ⟨#[115, 105, 122, 101]⟩, ⟨#[107, 105, 110, 100]⟩, ⟨#[101, 115, 99, 97, 112, 101]⟩, ⟨#[102, 111, 114, 98, 105, 100, 100, 101, 110]⟩, ⟨#[117, 110, 109, 97, 112, 112, 101, 100]⟩, ⟨#[115, 104, 111, 114, 116]⟩, ⟨#[114, 101, 115, 101, 116]⟩, ⟨#[104, 101, 97, 100, 101, 114]⟩, ⟨#[117, 116, 102]⟩, ⟨#[115, 116, 97, 116, 101]⟩, ⟨#[115, 97, 109, 101]⟩]
def wd (k : Nat) : ByteArray := words.getD k ⟨#[]⟩
/-- The program's own table, as its text lays it. -/
def TabWords (w : World) : Prop := ∃ t fr, w.heap[0]? = some (.cells (words.map Value.string).toArray t fr)
theorem TabWords.cell {w : World} (h : TabWords w) (k : Nat) (hk : k < 19) : w.cell? ⟨0, k, none⟩ = some (.string (wd k)) := by
  obtain ⟨t, fr, h⟩ := h
  rw [cell_of_row w _ k _ t fr h]
  have hl : words.length = 19 := rfl
  simp [wd, List.getD, List.getElem?_eq_getElem (show k < words.length by omega)]
theorem TabWords.keep {w w' : World} (h : TabWords w) (hb : Below w.heap.size w w') : TabWords w' := by
  obtain ⟨t, fr, h⟩ := h
  refine ⟨t, fr, ?_⟩
  rw [hb.block _ (Array.getElem?_eq_some_iff.1 h).1]; exact h
def wordV (c : Int) : ByteArray := if 0 ≤ c ∧ c < 19 then wd c.toNat else ⟨#[]⟩

theorem words_at (k : Nat) (h : k < (words.map Value.string).length) : (words.map Value.string)[k] = .string (wd k) := by
  rw [List.getElem_map]
  have h' : k < words.length := by simpa using h
  simp [wd, List.getD, List.getElem?_eq_getElem h']

set_option maxRecDepth 100000 in
theorem spec_CodeWord (c : Int) (w : World) : Calls Tryd.prog 23 #[.int .i64 c] w fun e w' => e = .returned (.string (wordV c)) ∧ Below w.heap.size w w' := by
  by_cases h0 : 0 ≤ c
  · by_cases h1 : c < 19
    · have HV : Hid (wordV c = wd c.toNat) := Lib.hid (by simp [wordV, h0, h1])
      obtain ⟨k, rfl⟩ := Int.eq_ofNat_of_zero_le h0
      rw [Int.toNat_natCast] at HV
      have hk : k < 19 := by omega
      go_enter Tryd.func23, Tryd.ntmps23
      go_wp2
      go_ret
      refine ⟨?_, (Below.refl _ _).alloc (Nat.le_refl _) _⟩
      rw [HV.out]
      exact congrArg Ending.returned (words_at k hk)
    · have HV : Hid (wordV c = ⟨#[]⟩) := Lib.hid (by simp [wordV, h1])
      go_enter Tryd.func23, Tryd.ntmps23
      go_wp2
      go_ret
      exact ⟨ret_str HV.out.symm, (Below.refl _ _).alloc (Nat.le_refl _) _⟩
  · have HV : Hid (wordV c = ⟨#[]⟩) := Lib.hid (by simp [wordV, h0])
    go_enter Tryd.func23, Tryd.ntmps23
    go_wp2
    go_ret
    exact ⟨ret_str HV.out.symm, (Below.refl _ _).alloc (Nat.le_refl _) _⟩

theorem impl_CodeWord (c : Int) (w : World) (ht : TabWords w) : Calls Tryd.prog 24 #[.int .i64 c] w fun e w' => e = .returned (.string (wordV c)) ∧ w = w' := by
  by_cases h0 : 0 ≤ c
  · by_cases h1 : c < 19
    · have HV : Hid (wordV c = wd c.toNat) := Lib.hid (by simp [wordV, h0, h1])
      obtain ⟨k, rfl⟩ := Int.eq_ofNat_of_zero_le h0
      rw [Int.toNat_natCast] at HV
      have hc := ht.cell k (by omega)
      clear ht
      go_enter Tryd.func24, Tryd.ntmps24
      go_wp2
      go_ret
      exact ⟨ret_str HV.out.symm, rfl⟩
    · have HV : Hid (wordV c = ⟨#[]⟩) := Lib.hid (by simp [wordV, h1])
      go_enter Tryd.func24, Tryd.ntmps24
      go_wp2
      go_ret
      exact ⟨ret_str HV.out.symm, rfl⟩
  · have HV : Hid (wordV c = ⟨#[]⟩) := Lib.hid (by simp [wordV, h0])
    go_enter Tryd.func24, Tryd.ntmps24
    go_wp2
    go_ret
    exact ⟨ret_str HV.out.symm, rfl⟩

end Go.Proofs.YtdegpogjenfpaaaDoor
