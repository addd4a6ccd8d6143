/- BytesOf, the program's and the model's, whole. Lengths at most 2^20. -/
import Derived.Test.YtdckjhobikfggaaDoorUnhexA
namespace Go.Proofs.YtdckjhobikfggaaDoor
open Go.RowKit

def unC (s : ByteArray) : Int := if unOK s = true then 0 else 3


set_option maxHeartbeats 400000 in
theorem impl_bytesIn (s : ByteArray) (w : World) (hs : s.size ≤ 1048576) : Calls Tryd.prog 50 #[.string s] w fun e w' => e = .returned (.tuple #[.string (unV s), .int .i64 (unC s)]) ∧ Below w.heap.size w w' := by
  have idx := str_IndexByte
  unfold hexDigs at idx
  have IDX := Lib.hid idx
  clear idx
  by_cases h2 : s.size % 2 = 0
  · have H2 := Lib.hid h2
    have hd : (((s.size : Int) % 2) != 0) = false := by
      have : (s.size : Int) % 2 = 0 := by omega
      rw [this]; rfl
    clear h2
    go_enter Tryd.func50, Tryd.ntmps50
    go_wp2
    go_loopw [5] (fun i wr => ∃ j : Nat, j ≤ s.size ∧ Hid (j % 2 = 0) ∧ i = .int .i64 j ∧ Hid (okTo s (j / 2) = true) ∧ Bld wr w.heap.size w.heap.size (unZ s (j / 2)) ∧ Below w.heap.size w wr) (fun i _ => s.size - (intOf i).toNat)
    case atStart => exact ⟨0, Nat.zero_le _, Lib.hid rfl, rfl, Lib.hid rfl, Bld.fresh w, (Below.refl _ _).alloc (Nat.le_refl _) _⟩
    case round =>
      obtain ⟨j, hj, HJ, rfl, HO, ho, hb⟩ := hrel
      by_cases hlt : j < s.size
      · have hlt1 : j + 1 < s.size := by have := HJ.out; have := H2.out; omega
        have hlt2 : (j : Int) + 1 < (s.size : Int) := by omega
        have ⟨p1, p2⟩ := pair_at s (j / 2) j (by have := HJ.out; omega) hlt1
        have P1 := Lib.hid p1
        have P2 := Lib.hid p2
        have d1 := digV_le s[j].toNat
        have d2 := digV_le s[j + 1].toNat
        have b1 := s[j].toNat_lt
        have b2 := s[j + 1].toNat_lt
        clear p1 p2
        by_cases q : 0 ≤ digV s[j].toNat ∧ 0 ≤ digV s[j + 1].toNat
        · obtain ⟨q1, q2⟩ := q
          go_wp2_with fail
          refine (IDX.out _ _ (by omega) (by omega)).mono ?_
          rintro e w' ⟨rfl, rfl⟩
          go_wp2_with fail
          refine (IDX.out _ _ (by omega) (by omega)).mono ?_
          rintro e w' ⟨rfl, rfl⟩
          go_wp2_with fail
          refine (bld_WriteByte _ _ _ _ _ ho (by rw [unZ_length]; omega) hb.size).mono ?_
          rintro e w1 ⟨rfl, o1, bl1, _⟩
          have o2 : Bld w1 w.heap.size w.heap.size (unZ s ((j + 2) / 2)) := by
            rw [show (j + 2) / 2 = j / 2 + 1 by omega, unZ_succ, P1.out]
            have e1 : digV (s[j].toNat : Int) * 16 = 16 * digV (s[j].toNat : Int) := by omega
            first | exact o1 | (rw [e1] at o1; exact o1)
          have hok : Hid (okTo s ((j + 2) / 2) = true) := Lib.hid (by
            rw [show (j + 2) / 2 = j / 2 + 1 by omega, okTo_succ, HO.out, P2.out]; simp [q1, q2])
          clear o1 ho
          go_wp2
          go_roundw
          case rel => exact ⟨j + 2, by omega, Lib.hid (by have := HJ.out; omega), by go_num, hok, o2, hb.trans bl1⟩
          case measure => simp [intOf]; omega
        · have HB : Hid (unOK s = false) := Lib.hid (unOK_bad s (j / 2) (by omega) (by rw [P2.out, ← Bool.decide_and]; exact decide_eq_false q))
          have HV : Hid (unV s = ⟨#[]⟩) := Lib.hid (by simp [unV, HB.out])
          have HC : Hid (unC s = 3) := Lib.hid (by simp [unC, HB.out])
          by_cases q1 : 0 ≤ digV s[j].toNat
          · have q2 : digV s[j + 1].toNat < 0 := by omega
            go_wp2_with fail
            refine (IDX.out _ _ (by omega) (by omega)).mono ?_
            rintro e w' ⟨rfl, rfl⟩
            go_wp2_with fail
            refine (IDX.out _ _ (by omega) (by omega)).mono ?_
            rintro e w' ⟨rfl, rfl⟩
            go_wp2
            go_ret2
            rw [HC.out, HV.out]
            exact ⟨rfl, hb⟩
          · have q2 : digV s[j].toNat < 0 := by omega
            go_wp2_with fail
            refine (IDX.out _ _ (by omega) (by omega)).mono ?_
            rintro e w' ⟨rfl, rfl⟩
            go_wp2_with fail
            refine (IDX.out _ _ (by omega) (by omega)).mono ?_
            rintro e w' ⟨rfl, rfl⟩
            go_wp2
            go_ret2
            rw [HC.out, HV.out]
            exact ⟨rfl, hb⟩
      · have hjs : j = s.size := by omega
        have HB : Hid (unOK s = true) := Lib.hid (by have := HO.out; rw [hjs] at this; simp [unOK, H2.out, this])
        have HV : Hid (unV s = bs (unZ s (j / 2))) := Lib.hid (by simp [unV, HB.out, hjs])
        have HC : Hid (unC s = 0) := Lib.hid (by simp [unC, HB.out])
        clear hjs
        go_wp2_with fail
        refine (bld_String _ _ _ _ ho (unZ_bytes _ _ HO.out) hb.size).mono ?_
        rintro e w1 ⟨rfl, bl1⟩
        go_wp2
        go_ret2
        rw [HC.out, HV.out]
        exact ⟨rfl, hb.trans bl1⟩
  · have hd : (((s.size : Int) % 2) != 0) = true := by
      have : (s.size : Int) % 2 = 1 := by omega
      rw [this]; rfl
    have HB : Hid (unOK s = false) := Lib.hid (by simp [unOK]; omega)
    have HV : Hid (unV s = ⟨#[]⟩) := Lib.hid (by simp [unV, HB.out])
    have HC : Hid (unC s = 3) := Lib.hid (by simp [unC, HB.out])
    clear h2
    go_enter Tryd.func50, Tryd.ntmps50
    go_wp2
    go_ret2
    rw [HC.out, HV.out]
    exact ⟨rfl, Below.refl _ _⟩

def bytesV (s : ByteArray) : ByteArray := if s.size ≤ 65536 then unV s else ⟨#[]⟩
def bytesC (s : ByteArray) : Int := if s.size ≤ 65536 then unC s else 2

theorem impl_BytesOf (s : ByteArray) (w : World) (hs : s.size ≤ 1048576) : Calls Tryd.prog 21 #[.string s] w fun e w' => e = .returned (.tuple #[.string (bytesV s), .int .i64 (bytesC s)]) ∧ Below w.heap.size w w' := by
  by_cases h : s.size ≤ 65536
  · have hv : Hid (bytesV s = unV s) := Lib.hid (by simp [bytesV, h])
    have hc : Hid (bytesC s = unC s) := Lib.hid (by simp [bytesC, h])
    go_enter Tryd.func21, Tryd.ntmps21
    go_wp2_with fail
    refine (impl_bytesIn _ _ hs).mono ?_
    rintro e w1 ⟨rfl, b1⟩
    go_wp2
    go_ret2
    rw [hv.out, hc.out]
    exact ⟨rfl, b1⟩
  · have hv : Hid (bytesV s = ⟨#[]⟩) := Lib.hid (by simp [bytesV, h])
    have hc : Hid (bytesC s = 2) := Lib.hid (by simp [bytesC, h])
    go_enter Tryd.func21, Tryd.ntmps21
    go_wp2
    go_ret2
    rw [hv.out, hc.out]
    exact ⟨rfl, Below.refl _ _⟩

end Go.Proofs.YtdckjhobikfggaaDoor
