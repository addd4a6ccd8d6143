/- RunesOf: contracts of the model's functions. At most 2^20 bytes. -/
import Derived.Test.YtdckjhobikfggaaDoorRunesM
import Derived.Test.YtdckjhobikfggaaDoorTakeA
import Derived.Test.YtdckjhobikfggaaDoorInts
namespace Go.Proofs.YtdckjhobikfggaaDoor
open Go.RowKit

/-- A list in new memory, an offset and a code. -/
def RetRow (w : World) (zs : List Int) (p c : Int) (e : Ending) (w' : World) : Prop := ∃ v, e = .returned (.tuple #[v, .int .i64 p, .int .i64 c]) ∧ Own .i64 3 w' w.heap.size v zs ∧ Below w.heap.size w w'

set_option maxHeartbeats 1000000 in
theorem spec_l01Runes (s : ByteArray) (w : World) (hs : s.size ≤ 1048576) : Calls Tryd.prog 48 #[.string s] w (RetRow w (runesZ s s.size 0) (runesP s s.size 0) (runesC s s.size 0)) := by
  go_enter Tryd.func48, Tryd.ntmps48
  go_wp2
  go_loopw [5, 6] (fun v i wr => ∃ (k f : Nat) (acc : List Int), k ≤ s.size ∧ i = .int .i64 k ∧ Hid (Way s f k acc) ∧ Own .i64 3 wr w.heap.size v acc ∧ Below w.heap.size w wr) (fun _ i _ => s.size - (intOf i).toNat)
  case atStart => exact ⟨0, s.size, [], Nat.zero_le _, rfl, Lib.hid (Way.start s), Own.lit .i64 3 w w.heap.size [] (Nat.le_refl _) (Nat.zero_le _), (Below.refl _ _).alloc (Nat.le_refl _) _⟩
  case round =>
    obtain ⟨k, f, acc, hk, rfl, HW, ho, hb⟩ := hrel
    have hal := HW.out.len
    by_cases hlt : k < s.size
    · obtain ⟨f, rfl⟩ := HW.out.more hlt
      have hN := takeN_le s k
      by_cases hc : takeC s k = 0
      · have HW2 := Lib.hid (HW.out.step hlt hc)
        have hf := take_fits s k hlt hc
        have ⟨n1, n2, n3⟩ := takeN_pos s k hc
        have HN := Lib.hid n3
        have HC := Lib.hid hc
        clear HW hc n3
        go_wp2_with fail
        refine (spec_l01Take s k _ hlt hs).mono ?_
        rintro e w1 ⟨rfl, b1⟩
        rw [HC.out, ← HN.out]
        go_wp2_with (at_builtin; refine app_i64 _ rfl _ _ rfl w.heap.size _ _ rfl ((ho.all b1).alloc _) ⟨w1.heap.size, 0, none⟩ 1 1 [takeR s k] rfl rfl (by omega) (World.news_of_block (heap_alloc_new _ _)) (by omega) (by have := hb.size; have := b1.size; simp; omega) ?_)
        intro g cap w2 ho2 hg2 hlt2
        have ho3 : Own .i64 3 w2 w.heap.size (.slice (some ⟨g, 0, none⟩) (acc.length + 1) cap) (acc ++ [takeR s k]) := by simpa using ho2
        have hb2 : Below w.heap.size w w2 := ((hb.trans (b1.mono hb.size)).alloc (by have := hb.size; have := b1.size; omega) _).grown hg2 (by have := hb.size; have := b1.size; simp; omega) (fun g hg => (World.ownsRow.lt ho g hg).1)
        clear ho2 hg2 ho
        go_wp2
        go_roundw
        case rel => exact ⟨k + stepN s k, f, _, hf, by go_num, HW2, ho3, hb2⟩
        case measure => simp [intOf]; omega
      · have ⟨z1, z2, z3⟩ := HW.out.bad hlt hc
        have Z1 := Lib.hid z1
        have Z2 := Lib.hid z2
        have Z3 := Lib.hid z3
        have hc' : (takeC s k != 0) = true := by simpa using hc
        clear z1 z2 z3 HW hc
        go_wp2_with fail
        refine (spec_l01Take s k _ hlt hs).mono ?_
        rintro e w1 ⟨rfl, b1⟩
        go_wp2
        go_ret3
        rw [Z1.out, Z2.out, Z3.out]
        exact ⟨_, rfl, ho.all b1, hb.trans (b1.mono hb.size)⟩
    · have ⟨z1, z2, z3⟩ := HW.out.done hlt
      have Z1 := Lib.hid z1
      have Z2 := Lib.hid z2
      have Z3 := Lib.hid z3
      clear z1 z2 z3 HW
      go_wp2
      go_ret3
      rw [Z1.out, Z2.out, Z3.out]
      exact ⟨_, rfl, ho, hb⟩

theorem Own.len {k : IntKind} {e : TypeId} {w : World} {B : Nat} {v : Value} {zs : List Int} (h : Own k e w B v zs) : ∃ a c, v = .slice a zs.length c := by
  obtain ⟨a, c, hv, _⟩ := h.shape; exact ⟨a, c, hv⟩

set_option maxHeartbeats 400000 in
theorem spec_RunesOf (s : ByteArray) (w : World) (hs : s.size ≤ 1048576) : Calls Tryd.prog 19 #[.string s] w (RetRow w (roZ s) (roP s) (roC s)) := by
  by_cases h1 : 65536 < s.size
  · have HC : Hid (roC s = 2) := Lib.hid (by simp [roC, h1])
    have HP : Hid (roP s = 0) := Lib.hid (by simp [roP, h1])
    have HZ : Hid (roZ s = []) := Lib.hid (by simp [roZ, HC.out])
    go_enter Tryd.func19, Tryd.ntmps19
    go_wp2
    go_ret3
    rw [HC.out, HP.out, HZ.out]
    exact ⟨_, rfl, Own.lit .i64 3 w w.heap.size [] (Nat.le_refl _) (Nat.zero_le _), (Below.refl _ _).alloc (Nat.le_refl _) _⟩
  · have h1' : ¬ (65536 : Int) < (s.size : Int) := by omega
    have HP : Hid (roP s = runesP s s.size 0) := Lib.hid (by simp [roP, h1])
    have hle := runesZ_le s s.size 0
    by_cases hc : runesC s s.size 0 = 0
    · have HP0 := Lib.hid hc
      by_cases h2 : 4096 < (runesZ s s.size 0).length
      · have HC : Hid (roC s = 6) := Lib.hid (by simp only [roC, h1, if_false, hc, if_true, h2])
        have HZ : Hid (roZ s = []) := Lib.hid (by simp [roZ, HC.out])
        have HQ : Hid (runesP s s.size 0 = 0) := Lib.hid (runesP_zero s _ _ hc)
        clear hc
        go_enter Tryd.func19, Tryd.ntmps19
        go_wp2_with fail
        refine (spec_l01Runes s _ hs).mono ?_
        rintro e w1 ⟨v, rfl, o1, b1⟩
        obtain ⟨a, c, rfl⟩ := o1.len
        rw [HP0.out]
        go_wp2
        go_ret3
        rw [HC.out, HP.out, HQ.out, HZ.out]
        exact ⟨_, rfl, (Own.lit .i64 3 w1 w1.heap.size [] (Nat.le_refl _) (Nat.zero_le _)).low b1.size, b1.alloc b1.size _⟩
      · have HC : Hid (roC s = 0) := Lib.hid (by simp only [roC, h1, if_false, hc, if_true, h2])
        have HZ : Hid (roZ s = runesZ s s.size 0) := Lib.hid (by simp [roZ, HC.out])
        have HQ : Hid (runesP s s.size 0 = 0) := Lib.hid (runesP_zero s _ _ hc)
        have h2' : ¬ (4096 : Int) < ((runesZ s s.size 0).length : Int) := by omega
        clear hc
        go_enter Tryd.func19, Tryd.ntmps19
        go_wp2_with fail
        refine (spec_l01Runes s _ hs).mono ?_
        rintro e w1 ⟨v, rfl, o1, b1⟩
        obtain ⟨a, c, rfl⟩ := o1.len
        rw [HP0.out]
        go_wp2
        go_ret3
        rw [HC.out, HP.out, HQ.out, HZ.out]
        exact ⟨_, rfl, o1, b1⟩
    · have HC : Hid (roC s = runesC s s.size 0) := Lib.hid (by simp only [roC, h1, if_false, hc])
      have HZ : Hid (roZ s = []) := Lib.hid (by unfold roZ; rw [HC.out, if_neg hc])
      have hc' : (runesC s s.size 0 != 0) = true := by simpa using hc
      clear hc
      go_enter Tryd.func19, Tryd.ntmps19
      go_wp2_with fail
      refine (spec_l01Runes s _ hs).mono ?_
      rintro e w1 ⟨v, rfl, o1, b1⟩
      go_wp2
      go_ret3
      rw [HC.out, HP.out, HZ.out]
      exact ⟨_, rfl, (Own.lit .i64 3 w1 w1.heap.size [] (Nat.le_refl _) (Nat.zero_le _)).low b1.size, b1.alloc b1.size _⟩

end Go.Proofs.YtdckjhobikfggaaDoor
