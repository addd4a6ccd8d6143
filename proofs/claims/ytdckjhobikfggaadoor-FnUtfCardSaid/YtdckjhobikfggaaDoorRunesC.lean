/- RunesOf: contracts of the program's functions. At most 2^20 bytes; the sentinels and the library's errorType lie as their texts lay them. -/
import Derived.Test.YtdckjhobikfggaaDoorRunesB
import Derived.Test.YtdckjhobikfggaaDoorTakeB
import Derived.Test.YtdckjhobikfggaaDoorErrAsC
import Derived.Lib.OthersKept
import Derived.WalkSmall
namespace Go.Proofs.YtdckjhobikfggaaDoor
open Go.RowKit

/-- A list in new memory and an error. -/
def RetErr (w : World) (zs : List Int) (err : Value) (e : Ending) (w' : World) : Prop := ∃ v, e = .returned (.tuple #[v, err]) ∧ Own .i64 3 w' w.heap.size v zs ∧ Below w.heap.size w w'
def inZ (s : ByteArray) : List Int := if runesC s s.size 0 = 0 then runesZ s s.size 0 else []

theorem Own.iterAt {k : IntKind} {e : TypeId} {w : World} {B : Nat} {v : Value} {zs : List Int} (h : Own k e w B v zs) {g : Nat} (hg : g < B) (s : ByteArray) (p : Nat) : Own k e (w.iterAt g s p) B v zs := ownsRow_iterAt h hg s p

set_option maxHeartbeats 1000000 in
set_option maxRecDepth 100000 in
theorem impl_runesIn (s : ByteArray) (a b : Addr) (w : World) (hs : s.size ≤ 1048576) (hS : Sents w a b) : Calls Tryd.prog 42 #[.string s] w (RetErr w (inZ s) (errV (runesP s s.size 0).toNat a b (runesC s s.size 0))) := by
  have HS := Lib.hid hS
  clear hS
  go_enter Tryd.func42, Tryd.ntmps42
  go_wp2
  go_loopw [4] (fun v wr => ∃ (k f : Nat) (acc : List Int), k ≤ s.size ∧ wr.heap[w.heap.size]? = some (.stringIter s k) ∧ Hid (Way s f k acc) ∧ Own .i64 3 wr (w.heap.size + 1) v acc ∧ Below w.heap.size w wr) (fun _ wr => s.size - wr.iterPos w.heap.size)
  case atStart => exact ⟨0, s.size, [], Nat.zero_le _, World.iter_heap w s 0, Lib.hid (Way.start s), Own.nil _ _ _ _, (Below.refl _ _).alloc (Nat.le_refl _) _⟩
  case round =>
    obtain ⟨k, f, acc, hk, hit, HW, ho, hb⟩ := hrel
    have hal := HW.out.len
    have hsz : w.heap.size < wr.heap.size := (Array.getElem?_eq_some_iff.1 hit).1
    by_cases hlt : k < s.size
    · obtain ⟨f, rfl⟩ := HW.out.more hlt
      have hR := takeR_le s k
      have hdec := decode_take s k
      by_cases hc : takeC s k = 0
      · have ⟨n1, n2, n3⟩ := takeN_pos s k hc
        have hd : Utf8.decode s k = ((takeR s k).toNat, stepN s k) := by rw [hdec, if_pos hc]; rfl
        have hnx : ∀ ty, (Instr.next (.pointer (some ⟨w.heap.size, 0, none⟩)) true ty).run Tryd.prog wr = .ok (.tuple #[.bool true, .int .i64 k, .int .i32 (takeR s k)]) (wr.iterAt w.heap.size s (k + stepN s k)) := fun ty => by
          have := Lib.run_next_any_at (P := Tryd.prog) wr w.heap.size s k ty hit hlt
          rw [hd] at this
          rw [this]
          have : ((takeR s k).toNat : Int) = takeR s k := by omega
          simp [this]
        have HW2 := Lib.hid (HW.out.step hlt hc)
        have hf := take_fits s k hlt hc
        have ho1 := ho.iterAt (g := w.heap.size) (by omega) s (k + stepN s k)
        have hit1 := Lib.iterAt_heap wr w.heap.size s k (k + stepN s k) hit
        have hb1 := Lib.below_iterAt hb (k := w.heap.size) (by omega) s (k + stepN s k)
        have hs1 : w.heap.size < (wr.iterAt w.heap.size s (k + stepN s k)).heap.size := by rw [Lib.iterAt_size]; exact hsz
        have HE : Hid (errV k a b (takeC s k) = .nilIface) := Lib.hid (by rw [hc]; rfl)
        have HIT := Lib.hid hit
        generalize hWR : wr.iterAt w.heap.size s (k + stepN s k) = W1 at *
        clear hWR HW hc hdec hd n3 ho hit hb hsz
        by_cases h65 : takeR s k = 65533
        · have e1 : (takeR s k == 65533) = true := by simpa using h65
          clear h65
          go_wp2_with fail
          refine (impl_runeAt s k a b _ hlt hs (HS.out.keep hb1)).mono ?_
          rintro e w1 ⟨rfl, b1⟩
          rw [HE.out]
          go_wp2_with (at_builtin; refine app_i64 _ rfl _ _ rfl (w.heap.size + 1) _ _ rfl ((ho1.all b1).alloc _) ⟨w1.heap.size, 0, none⟩ 1 1 [takeR s k] rfl rfl (by omega) (World.news_of_block (heap_alloc_new _ _)) (by omega) (by have := b1.size; simp; omega) ?_)
          intro g cap w2 ho2 hg2 hlt2
          have ho3 : Own .i64 3 w2 (w.heap.size + 1) (.slice (some ⟨g, 0, none⟩) (acc.length + 1) cap) (acc ++ [takeR s k]) := by simpa using ho2
          have hown := Lib.hid (World.ownsRow.lt ho1)
          have hb2 : Below w.heap.size w w2 := ((hb1.trans (b1.mono (by omega))).alloc (by have := b1.size; omega) _).grown hg2 (by have := b1.size; simp; omega) (fun g hg => by have := (hown.out g hg).1; omega)
          have hit2 : w2.heap[w.heap.size]? = some (.stringIter s (k + stepN s k)) := by
            rw [hg2.block w.heap.size (by have := b1.size; simp; omega) (fun e => by have := (hown.out w.heap.size e.symm).1; omega), heap_alloc_old _ _ (by have := b1.size; omega), b1.block w.heap.size hs1]; exact hit1
          clear ho2 hg2 ho1 hit1
          go_wp2
          go_roundw
          case rel => exact ⟨k + stepN s k, f, _, hf, hit2, HW2, ho3, hb2⟩
          case measure => simp [World.iterPos, hit2, HIT.out]; omega
        · have e1 : (takeR s k == 65533) = false := by simpa using h65
          clear h65
          go_wp2_with (at_builtin; refine app_i64 _ rfl _ _ rfl (w.heap.size + 1) _ _ rfl (ho1.alloc _) ⟨W1.heap.size, 0, none⟩ 1 1 [takeR s k] rfl rfl (by omega) (World.news_of_block (heap_alloc_new _ _)) (by omega) (by simp; omega) ?_)
          intro g cap w2 ho2 hg2 hlt2
          have ho3 : Own .i64 3 w2 (w.heap.size + 1) (.slice (some ⟨g, 0, none⟩) (acc.length + 1) cap) (acc ++ [takeR s k]) := by simpa using ho2
          have hown := Lib.hid (World.ownsRow.lt ho1)
          have hb2 : Below w.heap.size w w2 := (hb1.alloc (by omega) _).grown hg2 (by simp; omega) (fun g hg => by have := (hown.out g hg).1; omega)
          have hit2 : w2.heap[w.heap.size]? = some (.stringIter s (k + stepN s k)) := by
            rw [hg2.block w.heap.size (by simp; omega) (fun e => by have := (hown.out w.heap.size e.symm).1; omega), heap_alloc_old _ _ hs1]; exact hit1
          clear ho2 hg2 ho1 hit1
          go_wp2
          go_roundw
          case rel => exact ⟨k + stepN s k, f, _, hf, hit2, HW2, ho3, hb2⟩
          case measure => simp [World.iterPos, hit2, HIT.out]; omega
      · have hd : Utf8.decode s k = (65533, 1) := by rw [hdec, if_neg hc]
        have hnx : ∀ ty, (Instr.next (.pointer (some ⟨w.heap.size, 0, none⟩)) true ty).run Tryd.prog wr = .ok (.tuple #[.bool true, .int .i64 k, .int .i32 65533]) (wr.iterAt w.heap.size s (k + 1)) := fun ty => by
          have := Lib.run_next_any_at (P := Tryd.prog) wr w.heap.size s k ty hit hlt
          rw [hd] at this
          rw [this]; rfl
        have ⟨z1, z2, z3⟩ := HW.out.bad hlt hc
        have HZ : Hid (inZ s = []) := Lib.hid (by unfold inZ; rw [z2, if_neg hc])
        have HEE : Hid (errV (runesP s s.size 0).toNat a b (runesC s s.size 0) = errV k a b (takeC s k)) := Lib.hid (by rw [z2, z3]; simp)
        have hb1 := Lib.below_iterAt hb (k := w.heap.size) (by omega) s (k + 1)
        have hs1 : w.heap.size < (wr.iterAt w.heap.size s (k + 1)).heap.size := by rw [Lib.iterAt_size]; exact hsz
        have HE : Hid (∃ x, errV k a b (takeC s k) = faultV k x) := Lib.hid (by
          rcases takeC_cases s k with h | h | h
          · exact absurd h hc
          · exact ⟨a, by rw [h]; rfl⟩
          · exact ⟨b, by rw [h]; rfl⟩)
        generalize hWR : wr.iterAt w.heap.size s (k + 1) = W1 at *
        clear hWR HW hc hdec hd ho hit hb hsz z1 z2 z3
        go_wp2_with fail
        refine (impl_runeAt s k a b _ hlt hs (HS.out.keep hb1)).mono ?_
        rintro e w1 ⟨rfl, b1⟩
        obtain ⟨x, hx⟩ := HE.out
        have HX := Lib.hid hx
        rw [hx]
        clear hx
        unfold faultV at *
        go_wp2
        go_ret2
        rw [HZ.out, HEE.out, HX.out]
        exact ⟨_, rfl, Own.nil _ _ _ _, hb1.trans (b1.mono (by omega))⟩
    · have hnx : ∀ ty, (Instr.next (.pointer (some ⟨w.heap.size, 0, none⟩)) true ty).run Tryd.prog wr = .ok (.tuple #[.bool false]) wr := fun ty => Lib.run_next_end_at (P := Tryd.prog) wr w.heap.size s k ty hit hlt
      have ⟨z1, z2, z3⟩ := HW.out.done hlt
      have HZ : Hid (inZ s = acc) := Lib.hid (by unfold inZ; rw [z2, if_pos rfl, z1])
      have HEE : Hid (errV (runesP s s.size 0).toNat a b (runesC s s.size 0) = .nilIface) := Lib.hid (by rw [z2]; rfl)
      clear z1 z2 z3 HW
      go_wp2
      go_ret2
      rw [HZ.out, HEE.out]
      exact ⟨_, rfl, ho.low (by omega), hb⟩

set_option maxHeartbeats 400000 in
set_option maxRecDepth 100000 in
theorem impl_RunesOf (s : ByteArray) (a b : Addr) (w : World) (hs : s.size ≤ 1048576) (hS : Sents w a b) (hT : ErrType w) : Calls Tryd.prog 13 #[.string s] w (RetRow w (roZ s) (roP s) (roC s)) := by
  have HS := Lib.hid hS
  have HT := Lib.hid hT
  clear hS hT
  by_cases h1 : 65536 < s.size
  · have HC : Hid (roC s = 2) := Lib.hid (by simp [roC, h1])
    have HP : Hid (roP s = 0) := Lib.hid (by simp [roP, h1])
    have HZ : Hid (roZ s = []) := Lib.hid (by simp [roZ, HC.out])
    go_enter Tryd.func13, Tryd.ntmps13
    go_wp2
    go_ret3
    rw [HC.out, HP.out, HZ.out]
    exact ⟨_, rfl, Own.nil _ _ _ _, Below.refl _ _⟩
  · have h1' : ¬ (65536 : Int) < (s.size : Int) := by omega
    have HP : Hid (roP s = runesP s s.size 0) := Lib.hid (by simp [roP, h1])
    have hle := runesZ_le s s.size 0
    by_cases hc : runesC s s.size 0 = 0
    · have HI : Hid (inZ s = runesZ s s.size 0) := Lib.hid (by simp [inZ, hc])
      have HE : Hid (errV (runesP s s.size 0).toNat a b (runesC s s.size 0) = .nilIface) := Lib.hid (by rw [hc]; rfl)
      have HQ : Hid (runesP s s.size 0 = 0) := Lib.hid (runesP_zero s _ _ hc)
      by_cases h2 : 4096 < (runesZ s s.size 0).length
      · have HC : Hid (roC s = 6) := Lib.hid (by simp only [roC, h1, if_false, hc, if_true, h2])
        have HZ : Hid (roZ s = []) := Lib.hid (by simp [roZ, HC.out])
        clear hc
        go_enter Tryd.func13, Tryd.ntmps13
        go_wp2_with fail
        refine (impl_runesIn s a b _ hs HS.out).mono ?_
        rintro e w1 ⟨v, rfl, o1, b1⟩
        rw [HI.out] at o1
        obtain ⟨a', c, rfl⟩ := o1.len
        rw [HE.out]
        go_wp2
        go_ret3
        rw [HC.out, HP.out, HQ.out, HZ.out]
        exact ⟨_, rfl, Own.nil _ _ _ _, b1⟩
      · have HC : Hid (roC s = 0) := Lib.hid (by simp only [roC, h1, if_false, hc, if_true, h2])
        have HZ : Hid (roZ s = runesZ s s.size 0) := Lib.hid (by simp [roZ, HC.out])
        have h2' : ¬ (4096 : Int) < ((runesZ s s.size 0).length : Int) := by omega
        clear hc
        go_enter Tryd.func13, Tryd.ntmps13
        go_wp2_with fail
        refine (impl_runesIn s a b _ hs HS.out).mono ?_
        rintro e w1 ⟨v, rfl, o1, b1⟩
        rw [HI.out] at o1
        obtain ⟨a', c, rfl⟩ := o1.len
        rw [HE.out]
        go_wp2
        go_ret3
        rw [HC.out, HP.out, HQ.out, HZ.out]
        exact ⟨_, rfl, o1, b1⟩
    · have HC : Hid (roC s = runesC s s.size 0) := Lib.hid (by simp only [roC, h1, if_false, hc])
      have HZ : Hid (roZ s = []) := Lib.hid (by unfold roZ; rw [HC.out, if_neg hc])
      have HP1 : Hid (((runesP s s.size 0).toNat : Int) = runesP s s.size 0) := Lib.hid (by have := runesP_nonneg s s.size 0; omega)
      rcases runesC_cases s s.size 0 with h | h | h
      · exact absurd h hc
      · have HE : Hid (errV (runesP s s.size 0).toNat a b (runesC s s.size 0) = faultV (runesP s s.size 0) a) := Lib.hid (by rw [h]; show faultV _ a = _; rw [HP1.out])
        have HV : Hid (runesC s s.size 0 = 13) := Lib.hid h
        clear hc h
        go_enter Tryd.func13, Tryd.ntmps13
        go_wp2_with fail
        refine (impl_runesIn s a b _ hs HS.out).mono ?_
        rintro e w1 ⟨v, rfl, o1, b1⟩
        rw [HE.out]
        have hF := Lib.hid (impl_faultOffset (runesP s s.size 0) a w1 (HT.out.keep b1))
        have hG := Lib.hid (fun W h => faultCode_short (runesP s s.size 0) a b W h)
        unfold faultV at *
        go_wp2_with fail
        refine hF.out.mono ?_
        rintro e w2 ⟨rfl, b2⟩
        have B2 : Below w.heap.size w w2 := b1.trans (b2.mono b1.size)
        go_wp2_with fail
        refine (hG.out _ (HS.out.keep B2)).mono ?_
        rintro e w3 ⟨rfl, b3⟩
        go_wp2
        go_ret3
        rw [HC.out, HP.out, HZ.out, HV.out]
        exact ⟨_, rfl, Own.nil _ _ _ _, B2.trans (b3.mono B2.size)⟩
      · have HE : Hid (errV (runesP s s.size 0).toNat a b (runesC s s.size 0) = faultV (runesP s s.size 0) b) := Lib.hid (by rw [h]; show faultV _ b = _; rw [HP1.out])
        have HV : Hid (runesC s s.size 0 = 16) := Lib.hid h
        clear hc h
        go_enter Tryd.func13, Tryd.ntmps13
        go_wp2_with fail
        refine (impl_runesIn s a b _ hs HS.out).mono ?_
        rintro e w1 ⟨v, rfl, o1, b1⟩
        rw [HE.out]
        have hF := Lib.hid (impl_faultOffset (runesP s s.size 0) b w1 (HT.out.keep b1))
        have hG := Lib.hid (fun W h => faultCode_utf (runesP s s.size 0) a b W h)
        unfold faultV at *
        go_wp2_with fail
        refine hF.out.mono ?_
        rintro e w2 ⟨rfl, b2⟩
        have B2 : Below w.heap.size w w2 := b1.trans (b2.mono b1.size)
        go_wp2_with fail
        refine (hG.out _ (HS.out.keep B2)).mono ?_
        rintro e w3 ⟨rfl, b3⟩
        go_wp2
        go_ret3
        rw [HC.out, HP.out, HZ.out, HV.out]
        exact ⟨_, rfl, Own.nil _ _ _ _, B2.trans (b3.mono B2.size)⟩

end Go.Proofs.YtdckjhobikfggaaDoor
