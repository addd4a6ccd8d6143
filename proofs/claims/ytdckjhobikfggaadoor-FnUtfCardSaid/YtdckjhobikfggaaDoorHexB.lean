/- HexOf, the program's and the model's. Lengths at most 2^20. -/
import Derived.Test.YtdckjhobikfggaaDoorHexA
import Derived.Test.YtdckjhobikfggaaDoorBld
namespace Go.Proofs.YtdckjhobikfggaaDoor
open Go.RowKit

def hexV (s : ByteArray) : ByteArray := if s.size ≤ 32768 then bs (hexZ s.data.toList) else ⟨#[]⟩

theorem spec_HexOf (s : ByteArray) (w : World) (hs : s.size ≤ 1048576) : Calls Tryd.prog 22 #[.string s] w fun e w' => e = .returned (.string (hexV s)) ∧ Below w.heap.size w w' := by
  by_cases h : s.size ≤ 32768
  · have hv : Hid (hexV s = bs (hexZ s.data.toList)) := Lib.hid (by simp [hexV, h])
    go_enter Tryd.func22, Tryd.ntmps22
    go_wp2_with fail
    refine (spec_l01Hex _ _ hs).mono ?_
    rintro e w' ⟨rfl, hb⟩
    go_wp2
    go_ret
    exact ⟨ret_str hv.out.symm, hb⟩
  · have hv : Hid (hexV s = ⟨#[]⟩) := Lib.hid (by simp [hexV, h])
    go_enter Tryd.func22, Tryd.ntmps22
    go_wp2
    go_ret
    exact ⟨ret_str hv.out.symm, Below.refl _ _⟩

theorem hexd_byte (n : Int) (h0 : 0 ≤ n) (h1 : n < 16) : 0 ≤ hexd n ∧ hexd n < 256 := by
  unfold hexd; split <;> omega
theorem hexZ_bytes (l : List UInt8) : Bytes8 (hexZ l) := by
  induction l with
  | nil => exact Bytes8.nil
  | cons b r ih =>
    have := b.toNat_lt
    have h1 := hexd_byte (b.toNat / 16) (by omega) (by omega)
    have h2 := hexd_byte (b.toNat % 16) (by omega) (by omega)
    exact (Bytes8.one h1.1 h1.2).append ((Bytes8.one h2.1 h2.2).append ih)

theorem and15_all : ∀ n : Fin 256, bits BinOp.and IntKind.u8 (n.val : Int) 15 = (n.val : Int) % 16 := by decide +kernel
theorem and15 (b : UInt8) : bits BinOp.and IntKind.u8 (b.toNat : Int) 15 = (b.toNat : Int) % 16 := and15_all ⟨b.toNat, b.toNat_lt⟩

set_option maxHeartbeats 400000 in
theorem impl_HexOf (s : ByteArray) (w : World) (hs : s.size ≤ 1048576) : Calls Tryd.prog 20 #[.string s] w fun e w' => e = .returned (.string (hexV s)) ∧ Below w.heap.size w w' := by
  by_cases h : s.size ≤ 32768
  · have hv : Hid (hexV s = bs (hexZ s.data.toList)) := Lib.hid (by simp [hexV, h])
    have hd : decide ((32768 : Int) < (s.size : Int)) = false := by simp; omega
    go_enter Tryd.func20, Tryd.ntmps20
    go_wp2
    go_loopw [10] (fun i wr => ∃ k : Nat, k ≤ s.size ∧ i = .int .i64 k ∧ Bld wr w.heap.size w.heap.size (hexZ (s.data.toList.take k)) ∧ Below w.heap.size w wr) (fun i _ => s.size - (intOf i).toNat)
    case atStart => exact ⟨0, Nat.zero_le _, rfl, Bld.fresh w, (Below.refl _ _).alloc (Nat.le_refl _) _⟩
    case round =>
      obtain ⟨k, hk, rfl, ho, hb⟩ := hrel
      by_cases hlt : k < s.size
      · have ⟨hh1, hh2⟩ := hexI s[k]
        have h1 : (0 : Int) ≤ (k : Int) := by omega
        have h2 : (k : Int) < (s.size : Int) := by omega
        have ha := and15 s[k]
        have hl := hexZ_length (s.data.toList.take k)
        have hl2 : (s.data.toList.take k).length ≤ k := List.length_take_le _ _
        have hsz := hb.size
        go_wp2_with fail
        refine (bld_WriteByte _ _ _ _ _ ho (by omega) hsz).mono ?_
        rintro e w1 ⟨rfl, o1, b1, _⟩
        have hsz1 := b1.size
        go_wp2_with fail
        refine (bld_WriteByte _ _ _ _ _ o1 (by simp; omega) (by omega)).mono ?_
        rintro e w2 ⟨rfl, o2, b2, _⟩
        have o3 : Bld w2 w.heap.size w.heap.size (hexZ (s.data.toList.take (k + 1))) := by
          rw [take_snoc s k hlt, hexZ_snoc]
          simpa using o2
        clear hh1 hh2 hl o1 o2 ho
        go_wp2
        go_roundw
        case rel => exact ⟨k + 1, by omega, by go_num, o3, (hb.trans b1).trans b2⟩
        case measure => simp [intOf]; omega
      · have hz : s.data.toList.take k = s.data.toList := List.take_of_length_le (by simp; omega)
        rw [hz] at ho
        clear hz
        go_wp2_with fail
        refine (bld_String _ _ _ _ ho (hexZ_bytes _) hb.size).mono ?_
        rintro e w1 ⟨rfl, b1⟩
        go_wp2
        go_ret
        exact ⟨ret_str hv.out.symm, hb.trans b1⟩
  · have hv : Hid (hexV s = ⟨#[]⟩) := Lib.hid (by simp [hexV, h])
    go_enter Tryd.func20, Tryd.ntmps20
    go_wp2
    go_ret
    exact ⟨ret_str hv.out.symm, Below.refl _ _⟩

end Go.Proofs.YtdckjhobikfggaaDoor
