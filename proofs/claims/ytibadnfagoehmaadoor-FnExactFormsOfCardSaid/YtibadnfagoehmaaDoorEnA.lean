/- The specification's CanEncode. -/
import Derived.Test.YtibadnfagoehmaaDoorEnM
import Derived.Test.YtibadnfagoehmaaDoorPrC
import Derived.Test.YtibadnfagoehmaaDoorSetsC
import Derived.Test.YtibadnfagoehmaaDoorStD
namespace Go.Proofs.YtibadnfagoehmaaDoor
open Go.RowKit

theorem SetsAt.shape {w : World} {v : Value} {n : Int} (h : SetsAt w v n) : ∃ g c, v = .slice (some ⟨g, 0, none⟩) 4 c := by
  obtain ⟨g, c, _, _, _, _, rfl, _⟩ := h
  exact ⟨g, c, rfl⟩
theorem canG_take (g r : Int) (qs : List Int) (k : Nat) (h : k < qs.length) (h0 : canG g r (qs.take k) = false) (c : Int) (hc : codeS (setSpans (qs.getD k 0)) r = c) : canG g r (qs.take (k + 1)) = (decide (0 < c) && (decide (g ≠ 2) || decide (c ≠ 127))) := by
  subst hc
  rw [List.take_succ_eq_append_getElem h]
  unfold canG at h0 ⊢
  rw [List.any_append, h0]
  simp [List.getD, List.getElem?_eq_getElem h]
theorem Ints.pick {w : World} {a : Option Addr} {n c : Nat} {zs : List Int} (h : Ints .i64 w (.slice a n c) zs) (j : Nat) (hj : j < zs.length) : ∃ b off, a = some ⟨b, off, none⟩ ∧ w.cell? ⟨b, off + j, none⟩ = some (.int .i64 (zs.getD j 0)) := by
  rcases h with ⟨rfl, _⟩ | ⟨b, off, c2, hv, hc⟩
  · simp at hj
  · injection hv with h1 h2 h3
    exact ⟨b, off, h1, hc j hj⟩
theorem canG_some {g r : Int} {qs : List Int} {k : Nat} (h : canG g r (qs.take k) = true) : canG g r qs = true := by
  unfold canG at h ⊢
  rw [List.any_eq_true] at h ⊢
  obtain ⟨q, h1, h2⟩ := h
  exact ⟨q, List.mem_of_mem_take h1, h2⟩
theorem canB_yes {n r : Int} {g : Nat} (ho : ownR r = false) (hg : g < 4) (h : canG g r (prSets n g) = true) : canB n r = true := by
  unfold canB
  rw [if_neg (by rw [ho]; decide)]
  rcases (show g = 0 ∨ g = 1 ∨ g = 2 ∨ g = 3 by omega) with rfl | rfl | rfl | rfl
  · simp [show canG 0 r (prSet0 n) = true from h]
  · simp [show canG 1 r (prSet1 n) = true from h]
  · simp [show canG 2 r (prSet2 n) = true from h]
  · simp [canG, prSets] at h
theorem canB_no {n r : Int} (ho : ownR r = false) (h : ∀ g : Nat, g < 4 → canG g r (prSets n g) = false) : canB n r = false := by
  unfold canB
  rw [if_neg (by rw [ho]; decide)]
  simp [show canG 0 r (prSet0 n) = false from h 0 (by decide), show canG 1 r (prSet1 n) = false from h 1 (by decide), show canG 2 r (prSet2 n) = false from h 2 (by decide)]

set_option maxHeartbeats 1000000 in
theorem spec_l07Can (n r : Int) (w : World) : Calls Tryd.prog 61 #[.int .i64 n, .int .i64 r] w fun e w' => e = .returned (.bool (canB n r)) ∧ Below w.heap.size w w' := by
  by_cases ho : r < 33 ∨ r = 127
  · have HO : Hid (ownR r = true) := Lib.hid (by simpa [ownR] using ho)
    have HE : Hid (canB n r = (decide (r ≠ 14) && (decide (r ≠ 15) && decide (r ≠ 27)))) := Lib.hid (by unfold canB; rw [if_pos HO.out])
    by_cases h14 : r = 14
    · subst h14
      go_enter Tryd.func61, Tryd.ntmps61
      go_wp2
      go_ret
      exact ⟨ret_bool (by rw [HE.out]; decide), Below.refl _ _⟩
    by_cases h15 : r = 15
    · subst h15
      go_enter Tryd.func61, Tryd.ntmps61
      go_wp2
      go_ret
      exact ⟨ret_bool (by rw [HE.out]; decide), Below.refl _ _⟩
    by_cases h27 : r = 27
    · subst h27
      go_enter Tryd.func61, Tryd.ntmps61
      go_wp2
      go_ret
      exact ⟨ret_bool (by rw [HE.out]; decide), Below.refl _ _⟩
    have HF : Hid (canB n r = true) := Lib.hid (by rw [HE.out]; simp [h14, h15, h27])
    have e14 : (r != 14) = true := by simp [h14]
    have e15 : (r != 15) = true := by simp [h15]
    have e27 : (r != 27) = true := by simp [h27]
    clear h14 h15 h27 HE
    rcases ho with ho | ho
    · have e33 : decide (r < 33) = true := by simp [ho]
      clear ho
      go_enter Tryd.func61, Tryd.ntmps61
      go_wp2
      go_ret
      exact ⟨ret_bool HF.out.symm, Below.refl _ _⟩
    · subst ho
      go_enter Tryd.func61, Tryd.ntmps61
      go_wp2
      go_ret
      exact ⟨ret_bool HF.out.symm, Below.refl _ _⟩
  · have HO : Hid (ownR r = false) := Lib.hid (by simpa [ownR] using ho)
    have e33 : decide (r < 33) = false := by simp; omega
    have e127 : (r == 127) = false := by simp; omega
    clear ho
    have HP := Lib.hid (fun w => spec_l05Profile n w)
    unfold PrDone prV at HP
    go_enter Tryd.func61, Tryd.ntmps61
    go_wp2_with fail
    refine (HP.out _).mono ?_
    rintro e w1 ⟨v, rfl, hS, b1⟩
    obtain ⟨vg, vc, rfl⟩ := hS.shape
    have B0 := Lib.hid (b1.trans ((below_one w1 (.cells #[.string (prName n), .string (prHead n), .slice (some ⟨vg, 0, none⟩) 4 vc, .bool (prRight n), .bool (prShifts n), .bool (prSingle n), .bool (prReset n), .bool (prClear n)] 87)).mono b1.size))
    have HS := Lib.hid (hS.keep (below_one w1 (.cells #[.string (prName n), .string (prHead n), .slice (some ⟨vg, 0, none⟩) 4 vc, .bool (prRight n), .bool (prShifts n), .bool (prSingle n), .bool (prReset n), .bool (prClear n)] 87)))
    have HA : Hid (PrAt (w1.alloc (.cells #[.string (prName n), .string (prHead n), .slice (some ⟨vg, 0, none⟩) 4 vc, .bool (prRight n), .bool (prShifts n), .bool (prSingle n), .bool (prReset n), .bool (prClear n)] 87)) w1.heap.size n (.slice (some ⟨vg, 0, none⟩) 4 vc)) := Lib.hid (heap_alloc_new _ _)
    clear hS b1
    go_wp2
    generalize hg : w1.heap.size = g at *
    generalize w1.alloc (.cells #[.string (prName n), .string (prHead n), .slice (some ⟨vg, 0, none⟩) 4 vc, .bool (prRight n), .bool (prShifts n), .bool (prSingle n), .bool (prReset n), .bool (prClear n)] 87) = W at *
    clear hg
    go_loopw [6] (fun i wr => ∃ k : Nat, k ≤ 4 ∧ i = .int .i64 k ∧ Hid (∀ g : Nat, g < k → canG g r (prSets n g) = false) ∧ Below W.heap.size W wr) (fun i _ => 4 - (intOf i).toNat)
    case atStart => exact ⟨0, by omega, rfl, Lib.hid (fun g hg => absurd hg (by omega)), Below.refl _ _⟩
    case round =>
      obtain ⟨k, hk, rfl, HC, hb⟩ := hrel
      by_cases hk4 : k < 4
      · have hk4' : (k : Int) < 4 := by omega
        have hk0' : (0 : Int) ≤ (k : Int) := by omega
        go_wp2
        go_loopw [7, 8] (fun i _ wq => ∃ j : Nat, j ≤ (prSets n k).length ∧ i = .int .i64 j ∧ Hid (canG k r ((prSets n k).take j) = false) ∧ Below W.heap.size W wq) (fun i _ _ => (prSets n k).length - (intOf i).toNat)
        case atStart => exact ⟨0, by omega, rfl, Lib.hid rfl, hb⟩
        case round =>
          clear hb
          obtain ⟨j, hj, rfl, HJ, hq⟩ := hrel
          obtain ⟨gs, cs, u, hv, hu, hI⟩ := (HS.out.keep hq).pick k (by omega) (by omega)
          rw [Int.toNat_natCast] at hu
          have ⟨p2, _, _, _, _, _⟩ := (HA.out.keep hq).cells
          injection hv with v1 v2 v3
          injection v1 with v1
          injection v1 with v1 _ _
          subst v1 v3
          obtain ⟨ua, uc, rfl⟩ := hI.form
          have hfew := prSets_few n k
          have HY := Lib.hid (fun (h : canG k r (prSets n k) = true) => canB_yes (n := n) HO.out hk4 h)
          have HCk : Hid (∀ c, j < (prSets n k).length → codeS (setSpans ((prSets n k).getD j 0)) r = c → canG k r ((prSets n k).take (j + 1)) = (decide (0 < c) && (decide ((k : Int) ≠ 2) || decide (c ≠ 127)))) := Lib.hid (fun c h1 h2 => canG_take k r _ j h1 HJ.out c h2)
          have HNx : Hid (canG k r (prSets n k) = false → ∀ g : Nat, g < k + 1 → canG g r (prSets n g) = false) := Lib.hid (fun h g hg => by
            by_cases hgk : g = k
            · subst hgk; exact h
            · exact HC.out g (by omega))
          generalize prSets n k = zs at *
          by_cases hjl : j < zs.length
          · have hjl' : (j : Int) < (zs.length : Int) := by omega
            have hj0' : (0 : Int) ≤ (j : Int) := by omega
            obtain ⟨b, off, rfl, c1⟩ := hI.pick j hjl
            have HCj := Lib.hid (fun c => HCk.out c hjl)
            clear hI HCk HJ
            generalize zs.getD j 0 = z at *
            go_wp2_with fail
            refine (spec_l02For _ _ _).mono ?_
            rintro e w2 ⟨rfl, b2⟩
            have hb2 : Below W.heap.size W w2 := hq.trans (b2.mono hq.size)
            have HCc := Lib.hid (HCj.out _ rfl)
            generalize codeS (setSpans z) r = c at *
            clear c1 p2 hu hq b2 HCj
            by_cases hc : 0 < c
            · have ec : decide (0 < c) = true := by simp [hc]
              by_cases hk2 : k = 2
              · have ek : ((k : Int) != 2) = false := by simp [hk2]
                by_cases hc7 : c = 127
                · have ecc : (c != 127) = false := by simp [hc7]
                  have HN : Hid (canG k r (zs.take (j + 1)) = false) := Lib.hid (by rw [HCc.out]; simp [hk2, hc7])
                  clear hc hk2 hc7
                  go_wp2
                  go_roundw
                  case rel => exact ⟨j + 1, by omega, by go_num, HN, hb2⟩
                  case measure => simp [intOf]; omega
                · have ecc : (c != 127) = true := by simp [hc7]
                  have HN : Hid (canB n r = true) := Lib.hid (HY.out (canG_some (k := j + 1) (by rw [HCc.out]; simp [hc, hc7])))
                  clear hc hk2 hc7
                  go_wp2
                  go_ret
                  exact ⟨ret_bool HN.out.symm, B0.out.trans (hb2.mono B0.out.size)⟩
              · have ek : ((k : Int) != 2) = true := by simp; omega
                have HN : Hid (canB n r = true) := Lib.hid (HY.out (canG_some (k := j + 1) (by rw [HCc.out]; simp [hc]; omega)))
                clear hc hk2
                go_wp2
                go_ret
                exact ⟨ret_bool HN.out.symm, B0.out.trans (hb2.mono B0.out.size)⟩
            · have ec : decide (0 < c) = false := by simp; omega
              have HN : Hid (canG k r (zs.take (j + 1)) = false) := Lib.hid (by rw [HCc.out]; simp [hc])
              clear hc
              go_wp2
              go_roundw
              case rel => exact ⟨j + 1, by omega, by go_num, HN, hb2⟩
              case measure => simp [intOf]; omega
          · have HN : Hid (∀ g : Nat, g < k + 1 → canG g r (prSets n g) = false) := Lib.hid (HNx.out (by
              have := HJ.out
              rw [List.take_of_length_le (by omega)] at this
              exact this))
            go_wp2
            go_roundw
            case rel => exact ⟨k + 1, by omega, by go_num, HN, hq⟩
            case measure => simp [intOf]; omega
      · have HE : Hid (canB n r = false) := Lib.hid (canB_no HO.out fun g hg => HC.out g (by omega))
        go_wp2
        go_ret
        exact ⟨ret_bool HE.out.symm, B0.out.trans (hb.mono B0.out.size)⟩

set_option maxHeartbeats 400000 in
theorem spec_CanEncode (n r : Int) (w : World) : Calls Tryd.prog 24 #[.int .i64 n, .int .i64 r] w fun e w' => e = .returned (.tuple #[.bool (ceB n r), .int .i64 (ceC n r)]) ∧ Below w.heap.size w w' := by
  cases hn : proB n
  · have HE : Hid ((.tuple #[.bool (ceB n r), .int .i64 (ceC n r)] : Value) = .tuple #[.bool false, .int .i64 5]) := Lib.hid (by simp [ceB, ceC, hn])
    go_enter Tryd.func24, Tryd.ntmps24
    go_wp2_with fail
    refine (spec_l05No n _).mono ?_
    rintro e w1 ⟨rfl, rfl⟩
    rw [hn]
    go_wp2
    go_ret2
    exact ⟨ret_val HE.out.symm, Below.refl _ _⟩
  cases hr : okB r
  · have HE : Hid ((.tuple #[.bool (ceB n r), .int .i64 (ceC n r)] : Value) = .tuple #[.bool false, .int .i64 4]) := Lib.hid (by simp [ceB, ceC, hn, hr])
    go_enter Tryd.func24, Tryd.ntmps24
    go_wp2_with fail
    refine (spec_l05No n _).mono ?_
    rintro e w1 ⟨rfl, rfl⟩
    rw [hn]
    go_wp2_with fail
    refine (spec_l01OK r _).mono ?_
    rintro e w2 ⟨rfl, rfl⟩
    rw [hr]
    go_wp2
    go_ret2
    exact ⟨ret_val HE.out.symm, Below.refl _ _⟩
  · have HE : Hid ((.tuple #[.bool (ceB n r), .int .i64 (ceC n r)] : Value) = .tuple #[.bool (canB n r), .int .i64 0]) := Lib.hid (by simp [ceB, ceC, hn, hr])
    go_enter Tryd.func24, Tryd.ntmps24
    go_wp2_with fail
    refine (spec_l05No n _).mono ?_
    rintro e w1 ⟨rfl, rfl⟩
    rw [hn]
    go_wp2_with fail
    refine (spec_l01OK r _).mono ?_
    rintro e w2 ⟨rfl, rfl⟩
    rw [hr]
    go_wp2_with fail
    refine (spec_l07Can n r _).mono ?_
    rintro e w3 ⟨rfl, b3⟩
    generalize canB n r = q at *
    go_wp2
    go_ret2
    exact ⟨ret_val HE.out.symm, b3⟩

end Go.Proofs.YtibadnfagoehmaaDoor
