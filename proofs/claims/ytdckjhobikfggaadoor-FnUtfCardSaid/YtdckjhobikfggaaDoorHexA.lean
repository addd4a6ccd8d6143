/- Contracts of the functions on hexadecimal text. Lengths are lengths. -/
import Derived.Test.YtdckjhobikfggaaDoorOwn
import Derived.Test.YtdckjhobikfggaaDoorRunesA
import Derived.Laws.Strings
namespace Go.Proofs.YtdckjhobikfggaaDoor
open Go.RowKit

def hexd (n : Int) : Int := if n < 10 then 48 + n else 87 + n
def hexZ : List UInt8 → List Int
  | [] => []
  | b :: r => hexd (b.toNat / 16) :: hexd (b.toNat % 16) :: hexZ r

theorem hexZ_length (l : List UInt8) : (hexZ l).length = 2 * l.length := by
  induction l with
  | nil => rfl
  | cons b r ih => simp [hexZ, ih]; omega
theorem hexZ_snoc (l : List UInt8) (b : UInt8) : hexZ (l ++ [b]) = hexZ l ++ [hexd (b.toNat / 16), hexd (b.toNat % 16)] := by
  induction l with
  | nil => rfl
  | cons c r ih => simp [hexZ, ih]
theorem take_snoc (s : ByteArray) (k : Nat) (h : k < s.size) : s.data.toList.take (k + 1) = s.data.toList.take k ++ [s[k]] := by
  rw [List.take_succ_eq_append_getElem (by simpa using h)]; rfl

/-- The digits' string, read at a place. -/
def digits : ByteArray := ⟨#[48, 49, 50, 51, 52, 53, 54, 55, 56, 57, 97, 98, 99, 100, 101, 102]⟩
theorem hexAt (b : Nat) (h : b < 16) : ∀ w : World, (Instr.index 9 (.string digits) (.int .u8 b)).run Tryd.prog w = .ok (.int .u8 (hexd b)) w :=
  match b, h with
  | 0, _ => fun w => by kernel_rfl
  | 1, _ => fun w => by kernel_rfl
  | 2, _ => fun w => by kernel_rfl
  | 3, _ => fun w => by kernel_rfl
  | 4, _ => fun w => by kernel_rfl
  | 5, _ => fun w => by kernel_rfl
  | 6, _ => fun w => by kernel_rfl
  | 7, _ => fun w => by kernel_rfl
  | 8, _ => fun w => by kernel_rfl
  | 9, _ => fun w => by kernel_rfl
  | 10, _ => fun w => by kernel_rfl
  | 11, _ => fun w => by kernel_rfl
  | 12, _ => fun w => by kernel_rfl
  | 13, _ => fun w => by kernel_rfl
  | 14, _ => fun w => by kernel_rfl
  | 15, _ => fun w => by kernel_rfl
  | n + 16, h => absurd h (by omega)
theorem byteQ (b : UInt8) : IntKind.u8.wrap ((b.toNat : Int) / 16) = (b.toNat : Int) / 16 := by
  have := b.toNat_lt
  unfold IntKind.wrap
  simp [IntKind.bits, IntKind.signed]
  omega
theorem byteR (b : UInt8) : (b.toNat : Int).tmod 16 = (b.toNat : Int) % 16 := Int.tmod_eq_emod_of_nonneg (by omega)
theorem hexI (b : UInt8) : (∀ w : World, (Instr.index 9 (.string ⟨#[48, 49, 50, 51, 52, 53, 54, 55, 56, 57, 97, 98, 99, 100, 101, 102]⟩) (.int .u8 ((b.toNat : Int) / 16))).run Tryd.prog w = .ok (.int .u8 (hexd (b.toNat / 16))) w) ∧ (∀ w : World, (Instr.index 9 (.string ⟨#[48, 49, 50, 51, 52, 53, 54, 55, 56, 57, 97, 98, 99, 100, 101, 102]⟩) (.int .u8 ((b.toNat : Int) % 16))).run Tryd.prog w = .ok (.int .u8 (hexd (b.toNat % 16))) w) := by
  have hb := b.toNat_lt
  refine ⟨?_, ?_⟩
  · have := hexAt (b.toNat / 16) (by omega)
    simpa [digits] using this
  · have := hexAt (b.toNat % 16) (by omega)
    simpa [digits] using this

set_option maxHeartbeats 400000 in
theorem spec_l01Hex (s : ByteArray) (w : World) (hs : s.size ≤ 1048576) : Calls Tryd.prog 51 #[.string s] w fun e w' => e = .returned (.string (bs (hexZ s.data.toList))) ∧ Below w.heap.size w w' := by
  go_enter Tryd.func51, Tryd.ntmps51
  go_wp2
  go_loopw [3, 4] (fun v i wr => ∃ k : Nat, k ≤ s.size ∧ i = .int .i64 k ∧ Own .u8 5 wr w.heap.size v (hexZ (s.data.toList.take k)) ∧ Below w.heap.size w wr) (fun _ i _ => s.size - (intOf i).toNat)
  case atStart => exact ⟨0, Nat.zero_le _, rfl, Own.lit .u8 5 w w.heap.size [] (Nat.le_refl _) (Nat.zero_le _), (Below.refl _ _).alloc (Nat.le_refl _) _⟩
  case round =>
    obtain ⟨k, hk, rfl, ho, hb⟩ := hrel
    by_cases hlt : k < s.size
    · have ⟨hh1, hh2⟩ := hexI s[k]
      have h1 : (0 : Int) ≤ (k : Int) := by omega
      have h2 : (k : Int) < (s.size : Int) := by omega
      have hq := byteQ s[k]
      have hr := byteR s[k]
      go_wp2_with fail
      go_region_held3 (fun _ => True) (exact trivial) ((refine step_u8 _ (by rfl) _ _ (by rfl) w.heap.size _ _ (by rfl) ((ho.alloc _).drew) wr.heap.size 2 2 [hexd (s[k].toNat / 16), hexd (s[k].toNat % 16)] (by rfl) (by rfl) (by omega) (heap_alloc_new _ _) (by rw [hexZ_length]; simp; omega) (by have := hb.size; simp; omega) ?_; intro g cap w1 hown1 hgrow hlt1))
      all_goals
        clear hh1 hh2 hq hr
        have hown2 : Own .u8 5 w1 w.heap.size (.slice (some ⟨g, 0, none⟩) ((hexZ (s.data.toList.take k)).length + 2) cap) (hexZ (s.data.toList.take (k + 1))) := by
          rw [take_snoc s k hlt, hexZ_snoc]
          simpa using hown1
        have hb1 : Below w.heap.size w w1 := ((hb.alloc hb.size _).drew).grown hgrow (by have := hb.size; simp; omega) (fun j hj => (World.ownsRow.lt ho j hj).1)
        clear hgrow hown1
        go_wp2
        go_roundw
        case rel => exact ⟨k + 1, by omega, by go_num, hown2, hb1⟩
        case measure => simp [intOf]; omega
    · have hc := conv_own ho
      have hz : s.data.toList.take k = s.data.toList := List.take_of_length_le (by simp; omega)
      have HZ := Lib.hid hz
      clear hz
      go_wp2
      go_ret
      exact ⟨ret_str (by rw [HZ.out]), hb⟩

end Go.Proofs.YtdckjhobikfggaaDoor
