/- The specification's valid states. -/
import Derived.Test.YtbamjhldebobhaaDoorStB
import Derived.Test.YtbamjhldebobhaaDoorDigA
import Derived.Lib.QuietBelow
namespace Go.Proofs.YtbamjhldebobhaaDoor
open Go.RowKit Go.Sort

theorem stOK_reg {x : St} (m : Nat) (h : m < 4) (hf : regOK x m = false) : stOKB x = false := by
  have : m = 0 ∨ m = 1 ∨ m = 2 ∨ m = 3 := by omega
  unfold stOKB regsOK
  rcases this with rfl | rfl | rfl | rfl
  · rw [show regOK x 0 = false from hf]; rfl
  · rw [show regOK x 1 = false from hf]; cases regOK x 0 <;> rfl
  · rw [show regOK x 2 = false from hf]; cases regOK x 0 <;> cases regOK x 1 <;> rfl
  · rw [show regOK x 3 = false from hf]; cases regOK x 0 <;> cases regOK x 1 <;> cases regOK x 2 <;> rfl
theorem stOK_regs {x : St} (h : ∀ m : Nat, m < 4 → regOK x m = true) : stOKB x = (headOK x && leadOK x) := by
  unfold stOKB regsOK
  rw [show regOK x 0 = true from h 0 (by decide), show regOK x 1 = true from h 1 (by decide), show regOK x 2 = true from h 2 (by decide), show regOK x 3 = true from h 3 (by decide)]
  rfl
theorem sideOf_in {x : St} (r : Bool) (h : headOK x = true) : 0 ≤ sideOf x r ∧ sideOf x r ≤ 3 := by
  unfold headOK at h
  rw [Bool.and_eq_true, Bool.or_eq_true, decide_eq_true_eq] at h
  have h1 := inB_true h.1
  unfold sideOf
  rcases h.2 with h2 | h2
  · rw [if_neg (by omega)]
    split <;> omega
  · have := inB_true h2
    rw [if_pos (by omega)]
    omega

set_option maxHeartbeats 2000000 in
set_option maxRecDepth 100000 in
theorem spec_l04OK (x : St) (w : World) : Calls Tryd.prog 29 #[stV x] w fun e w' => e = .returned (.bool (stOKB x)) ∧ Below w.heap.size w w' := by
  have HX := Lib.hid (StAt.new w x)
  have B0 := Lib.hid (below_one w (.cells #[.int .i64 x.g0, .int .i64 x.g1, .int .i64 x.g2, .int .i64 x.g3, .int .i64 x.l, .int .i64 x.s, .int .i64 x.d] 24))
  have HG := Lib.hid (fun n w h0 h3 => spec_l04Get x n w h0 h3)
  have hs0 : (w.alloc (.cells #[.int .i64 x.g0, .int .i64 x.g1, .int .i64 x.g2, .int .i64 x.g3, .int .i64 x.l, .int .i64 x.s, .int .i64 x.d] 24)).heap.size = w.heap.size + 1 := by simp
  unfold stV at HG ⊢
  go_enter Tryd.func29, Tryd.ntmps29
  go_wp2
  generalize w.alloc (.cells #[.int .i64 x.g0, .int .i64 x.g1, .int .i64 x.g2, .int .i64 x.g3, .int .i64 x.l, .int .i64 x.s, .int .i64 x.d] 24) = w0 at *
  go_loopw [3] (fun i wr => ∃ j : Nat, j ≤ 4 ∧ i = .int .i64 j ∧ Hid (∀ m : Nat, m < j → regOK x m = true) ∧ Hid (Below (w.heap.size + 1) w0 wr)) (fun i _ => 4 - (intOf i).toNat)
  case atStart => exact ⟨0, by omega, rfl, Lib.hid (fun m h => absurd h (Nat.not_lt_zero m)), Lib.hid (Below.refl _ _)⟩
  case round =>
    obtain ⟨j, hj, rfl, HP, b⟩ := hrel
    have hsz : w.heap.size + 1 ≤ wr.heap.size := by have := b.out.size; omega
    have BW := Lib.hid (B0.out.trans (b.out.mono (Nat.le_succ _)))
    have ⟨y0, y1, y2, y3, y4, y5, y6⟩ := (HX.out.below b.out (Nat.lt_succ_self _)).cells
    by_cases hlt : j < 4
    · have v1 : (j : Int) < 4 := by omega
      have HR : Hid (regOK x j = (inB (stGet x j) 0 8 && !(decide ((j : Int) = 0) && (decide (stGet x j = 0) || decide (setKind (stGet x j) = 2))))) := Lib.hid rfl
      have HGj := Lib.hid (HG.out (j : Int) wr (by omega) (by omega))
      generalize stGet x j = g at *
      go_wp2_with fail
      refine HGj.out.mono ?_
      rintro e w1 ⟨rfl, b1⟩
      have b01 : Hid (Below (w.heap.size + 1) w0 w1) := Lib.hid (b.out.trans (b1.mono hsz))
      have hsz1 : w.heap.size + 1 ≤ w1.heap.size := by have := b01.out.size; omega
      have B1 : Hid (Below w.heap.size w w1) := Lib.hid (B0.out.trans (b01.out.mono (Nat.le_succ _)))
      clear y0 y1 y2 y3 y4 y5 y6 b1 HGj
      go_wp2_with fail
      refine (spec_l01In g 0 8 w1).mono ?_
      rintro e w2 ⟨rfl, rfl⟩
      cases hb : inB g 0 8
      · have HE : Hid (stOKB x = false) := Lib.hid (stOK_reg j hlt (by rw [HR.out, hb]; rfl))
        go_wp2
        go_ret
        exact ⟨ret_bool HE.out.symm, B1.out⟩
      · by_cases j0 : j = 0
        · subst j0
          by_cases g0 : g = 0
          · have HE : Hid (stOKB x = false) := Lib.hid (stOK_reg 0 hlt (by rw [HR.out, hb, g0]; rfl))
            subst g0
            go_wp2
            go_ret
            exact ⟨ret_bool HE.out.symm, B1.out⟩
          · have e0 : (g == 0) = false := by rw [beq_eq_false_iff_ne]; exact g0
            go_wp2_with fail
            refine (spec_l02Set g w1).mono ?_
            rintro e w2 ⟨yg, rfl, hyg, hblk, b2⟩
            clear hyg hblk
            have b02 : Hid (Below (w.heap.size + 1) w0 w2) := Lib.hid (b01.out.trans (b2.mono hsz1))
            have B2 : Hid (Below w.heap.size w w2) := Lib.hid (B0.out.trans (b02.out.mono (Nat.le_succ _)))
            clear b2
            unfold setV
            have F1 := setField1
            by_cases k2 : setKind g = 2
            · have HE : Hid (stOKB x = false) := Lib.hid (stOK_reg 0 hlt (by rw [HR.out, hb]; simp [g0, k2]))
              rw [k2]
              go_wp2
              go_ret
              exact ⟨ret_bool HE.out.symm, B2.out⟩
            · have HP' : Hid (∀ m : Nat, m < 0 + 1 → regOK x m = true) := Lib.hid (fun m hm => by
                obtain rfl : m = 0 := by omega
                rw [HR.out, hb]; simp [g0, k2])
              have ek : (setKind g == 2) = false := by rw [beq_eq_false_iff_ne]; exact k2
              go_wp2
              go_roundw
              case rel => exact ⟨0 + 1, by omega, by go_num, HP', b02⟩
              case measure => simp [intOf]
        · have ej : ((j : Int) == 0) = false := by rw [beq_eq_false_iff_ne]; omega
          have HP' : Hid (∀ m : Nat, m < j + 1 → regOK x m = true) := Lib.hid (fun m hm => by
            by_cases h : m < j
            · exact HP.out m h
            · obtain rfl : m = j := by omega
              rw [HR.out, hb]
              have : ¬ m = 0 := by omega
              simp [this])
          go_wp2
          go_roundw
          case rel => exact ⟨j + 1, by omega, by go_num, HP', b01⟩
          case measure => simp [intOf]; omega
    · obtain rfl : j = 4 := by omega
      have HS := Lib.hid (stOK_regs HP.out)
      have HH : Hid (headOK x = (inB x.l 0 3 && (decide (x.s = 0) || inB x.s 2 3))) := Lib.hid rfl
      clear HP hlt hj
      go_wp2_with fail
      refine (spec_l01In x.l 0 3 wr).mono ?_
      rintro e w2 ⟨rfl, rfl⟩
      cases hl : inB x.l 0 3
      · have HE : Hid (stOKB x = false) := Lib.hid (by rw [HS.out, HH.out, hl]; rfl)
        go_wp2
        go_ret
        exact ⟨ret_bool HE.out.symm, BW.out⟩
      by_cases s0 : x.s = 0
      · have es : (x.s != 0) = false := by simp [s0]
        have hh : headOK x = true := by rw [HH.out, hl, s0]; rfl
        clear HH hl s0
        by_cases d0 : x.d = 0
        · have HE : Hid (stOKB x = true) := Lib.hid (by rw [HS.out, hh, leadOK, d0]; rfl)
          go_wp2
          go_ret
          exact ⟨ret_bool HE.out.symm, BW.out⟩
        · have HL : Hid (stOKB x = (inB (x.d.tmod 128) 33 126 && (inB x.d 33 254 && (decide (0 < stGet x (sideOf x (decide (128 < x.d)))) && decide (setKind (stGet x (sideOf x (decide (128 < x.d)))) = 3))))) := Lib.hid (by
            rw [HS.out, hh, leadOK]
            have : decide (x.d = 0) = false := by simpa using d0
            rw [this]
            rfl)
          have ed : (x.d == 0) = false := by rw [beq_eq_false_iff_ne]; exact d0
          have ⟨hq0, hq3⟩ := sideOf_in (decide (128 < x.d)) hh
          have cS : ∀ d os, Calls Tryd.prog 58 #[.agg #[.int .i64 x.g0, .int .i64 x.g1, .int .i64 x.g2, .int .i64 x.g3, .int .i64 x.l, .int .i64 x.s, .int .i64 x.d], .bool (decide (128 < x.d))] (grow (redrawn wr d) os) fun e w'' => e = .returned (.int .i64 (sideOf x (decide (128 < x.d)))) ∧ ∃ p : Regrown, w'' = grow (redrawn wr p.d) p.os := fun d os => Calls.regrown_of (spec_l04Side x _ _)
          have cG : ∀ d os, Calls Tryd.prog 42 #[.agg #[.int .i64 x.g0, .int .i64 x.g1, .int .i64 x.g2, .int .i64 x.g3, .int .i64 x.l, .int .i64 x.s, .int .i64 x.d], .int .i64 (sideOf x (decide (128 < x.d)))] (grow (redrawn wr d) os) fun e w'' => e = .returned (.int .i64 (stGet x (sideOf x (decide (128 < x.d))))) ∧ ∃ p : Regrown, w'' = grow (redrawn wr p.d) p.os := fun d os => Calls.regrown_of (spec_l04Get x _ _ hq0 hq3)
          generalize stGet x (sideOf x (decide (128 < x.d))) = q at *
          generalize sideOf x (decide (128 < x.d)) = sd at *
          clear hh d0
          go_wp2_with fail
          have m0 := cell_regrown y0
          have m1 := cell_regrown y1
          have m2 := cell_regrown y2
          have m3 := cell_regrown y3
          have m4 := cell_regrown y4
          have m5 := cell_regrown y5
          have m6 := cell_regrown y6
          clear y0 y1 y2 y3 y4 y5 y6
          refine wp_region_quiet_below (by kernel_rfl) (by kernel_rfl) ?_
          repeat (quiet_step (first | exact cS _ _ | exact cG _ _))
          refine wpQuiet_nil ?_
          intro w' hw'
          obtain ⟨⟨dq, osq⟩, hw''⟩ := hw'
          have B9 : Hid (Below w.heap.size w w') := Lib.hid (by rw [hw'']; exact BW.out.trans ((below_regrown wr dq osq).mono BW.out.size))
          have y0 := m0 dq osq
          have y1 := m1 dq osq
          have y2 := m2 dq osq
          have y3 := m3 dq osq
          have y4 := m4 dq osq
          have y5 := m5 dq osq
          have y6 := m6 dq osq
          rw [← hw''] at y0 y1 y2 y3 y4 y5 y6
          clear m0 m1 m2 m3 m4 m5 m6 cS cG hw'' hq0 hq3
          generalize w' = W9 at *
          have um : IntKind.i64.wrap (x.d.tmod 128) = x.d.tmod 128 := IntWalk.i64_in _ (by
            have h1 := Int.tmod_lt_of_pos x.d (show (0 : Int) < 128 by decide)
            have h2 := Int.lt_tmod_of_pos x.d (show (0 : Int) < 128 by decide)
            omega)
          go_wp2_with fail
          refine (spec_l01In (x.d.tmod 128) 33 126 W9).mono ?_
          rintro e w2 ⟨rfl, rfl⟩
          cases h1 : inB (x.d.tmod 128) 33 126
          · have HE : Hid (stOKB x = false) := Lib.hid (by rw [HL.out, h1]; rfl)
            go_wp2
            go_ret
            exact ⟨ret_bool HE.out.symm, B9.out⟩
          · go_wp2_with fail
            refine (spec_l01In x.d 33 254 W9).mono ?_
            rintro e w2 ⟨rfl, rfl⟩
            cases h2 : inB x.d 33 254
            · have HE : Hid (stOKB x = false) := Lib.hid (by rw [HL.out, h1, h2]; rfl)
              go_wp2
              go_ret
              exact ⟨ret_bool HE.out.symm, B9.out⟩
            · by_cases hq : 0 < q
              · have HE : Hid (stOKB x = (setKind q == 3)) := Lib.hid (by
                  rw [HL.out, h1, h2, show decide (0 < q) = true by simpa using hq]
                  rfl)
                clear y0 y1 y2 y3 y4 y5 y6
                go_wp2_with fail
                refine (spec_l02Set q W9).mono ?_
                rintro e w2 ⟨yg, rfl, hyg, hblk, b2⟩
                clear hyg hblk
                have B10 : Hid (Below w.heap.size w w2) := Lib.hid (B9.out.trans (b2.mono B9.out.size))
                clear b2
                unfold setV
                have F1 := setField1
                go_wp2
                go_ret
                exact ⟨ret_bool HE.out.symm, B10.out⟩
              · have HE : Hid (stOKB x = false) := Lib.hid (by
                  rw [HL.out, h1, h2, show decide (0 < q) = false by simpa using hq]
                  rfl)
                go_wp2
                go_ret
                exact ⟨ret_bool HE.out.symm, B9.out⟩
      · have es : (x.s != 0) = true := by simpa using s0
        cases hs2 : inB x.s 2 3
        · have HE : Hid (stOKB x = false) := Lib.hid (by
            rw [HS.out, HH.out, hl, hs2, show decide (x.s = 0) = false by simpa using s0]
            rfl)
          go_wp2_with fail
          refine (spec_l01In x.s 2 3 wr).mono ?_
          rintro e w2 ⟨rfl, rfl⟩
          rw [hs2]
          go_wp2
          go_ret
          exact ⟨ret_bool HE.out.symm, BW.out⟩
        · have hh : headOK x = true := by
            rw [HH.out, hl, hs2]
            simp
          clear HH hl s0
          go_wp2_with fail
          refine (spec_l01In x.s 2 3 wr).mono ?_
          rintro e w2 ⟨rfl, rfl⟩
          rw [hs2]
          by_cases d0 : x.d = 0
          · have HE : Hid (stOKB x = true) := Lib.hid (by rw [HS.out, hh, leadOK, d0]; rfl)
            go_wp2
            go_ret
            exact ⟨ret_bool HE.out.symm, BW.out⟩
          · have HL : Hid (stOKB x = (inB (x.d.tmod 128) 33 126 && (inB x.d 33 254 && (decide (0 < stGet x (sideOf x (decide (128 < x.d)))) && decide (setKind (stGet x (sideOf x (decide (128 < x.d)))) = 3))))) := Lib.hid (by
              rw [HS.out, hh, leadOK]
              have : decide (x.d = 0) = false := by simpa using d0
              rw [this]
              rfl)
            have ed : (x.d == 0) = false := by rw [beq_eq_false_iff_ne]; exact d0
            have ⟨hq0, hq3⟩ := sideOf_in (decide (128 < x.d)) hh
            have cS : ∀ d os, Calls Tryd.prog 58 #[.agg #[.int .i64 x.g0, .int .i64 x.g1, .int .i64 x.g2, .int .i64 x.g3, .int .i64 x.l, .int .i64 x.s, .int .i64 x.d], .bool (decide (128 < x.d))] (grow (redrawn wr d) os) fun e w'' => e = .returned (.int .i64 (sideOf x (decide (128 < x.d)))) ∧ ∃ p : Regrown, w'' = grow (redrawn wr p.d) p.os := fun d os => Calls.regrown_of (spec_l04Side x _ _)
            have cG : ∀ d os, Calls Tryd.prog 42 #[.agg #[.int .i64 x.g0, .int .i64 x.g1, .int .i64 x.g2, .int .i64 x.g3, .int .i64 x.l, .int .i64 x.s, .int .i64 x.d], .int .i64 (sideOf x (decide (128 < x.d)))] (grow (redrawn wr d) os) fun e w'' => e = .returned (.int .i64 (stGet x (sideOf x (decide (128 < x.d))))) ∧ ∃ p : Regrown, w'' = grow (redrawn wr p.d) p.os := fun d os => Calls.regrown_of (spec_l04Get x _ _ hq0 hq3)
            generalize stGet x (sideOf x (decide (128 < x.d))) = q at *
            generalize sideOf x (decide (128 < x.d)) = sd at *
            clear hh d0
            go_wp2_with fail
            have m0 := cell_regrown y0
            have m1 := cell_regrown y1
            have m2 := cell_regrown y2
            have m3 := cell_regrown y3
            have m4 := cell_regrown y4
            have m5 := cell_regrown y5
            have m6 := cell_regrown y6
            clear y0 y1 y2 y3 y4 y5 y6
            refine wp_region_quiet_below (by kernel_rfl) (by kernel_rfl) ?_
            repeat (quiet_step (first | exact cS _ _ | exact cG _ _))
            refine wpQuiet_nil ?_
            intro w' hw'
            obtain ⟨⟨dq, osq⟩, hw''⟩ := hw'
            have B9 : Hid (Below w.heap.size w w') := Lib.hid (by rw [hw'']; exact BW.out.trans ((below_regrown wr dq osq).mono BW.out.size))
            have y0 := m0 dq osq
            have y1 := m1 dq osq
            have y2 := m2 dq osq
            have y3 := m3 dq osq
            have y4 := m4 dq osq
            have y5 := m5 dq osq
            have y6 := m6 dq osq
            rw [← hw''] at y0 y1 y2 y3 y4 y5 y6
            clear m0 m1 m2 m3 m4 m5 m6 cS cG hw'' hq0 hq3
            generalize w' = W9 at *
            have um : IntKind.i64.wrap (x.d.tmod 128) = x.d.tmod 128 := IntWalk.i64_in _ (by
              have h1 := Int.tmod_lt_of_pos x.d (show (0 : Int) < 128 by decide)
              have h2 := Int.lt_tmod_of_pos x.d (show (0 : Int) < 128 by decide)
              omega)
            go_wp2_with fail
            refine (spec_l01In (x.d.tmod 128) 33 126 W9).mono ?_
            rintro e w2 ⟨rfl, rfl⟩
            cases h1 : inB (x.d.tmod 128) 33 126
            · have HE : Hid (stOKB x = false) := Lib.hid (by rw [HL.out, h1]; rfl)
              go_wp2
              go_ret
              exact ⟨ret_bool HE.out.symm, B9.out⟩
            · go_wp2_with fail
              refine (spec_l01In x.d 33 254 W9).mono ?_
              rintro e w2 ⟨rfl, rfl⟩
              cases h2 : inB x.d 33 254
              · have HE : Hid (stOKB x = false) := Lib.hid (by rw [HL.out, h1, h2]; rfl)
                go_wp2
                go_ret
                exact ⟨ret_bool HE.out.symm, B9.out⟩
              · by_cases hq : 0 < q
                · have HE : Hid (stOKB x = (setKind q == 3)) := Lib.hid (by
                    rw [HL.out, h1, h2, show decide (0 < q) = true by simpa using hq]
                    rfl)
                  clear y0 y1 y2 y3 y4 y5 y6
                  go_wp2_with fail
                  refine (spec_l02Set q W9).mono ?_
                  rintro e w2 ⟨yg, rfl, hyg, hblk, b2⟩
                  clear hyg hblk
                  have B10 : Hid (Below w.heap.size w w2) := Lib.hid (B9.out.trans (b2.mono B9.out.size))
                  clear b2
                  unfold setV
                  have F1 := setField1
                  go_wp2
                  go_ret
                  exact ⟨ret_bool HE.out.symm, B10.out⟩
                · have HE : Hid (stOKB x = false) := Lib.hid (by
                    rw [HL.out, h1, h2, show decide (0 < q) = false by simpa using hq]
                    rfl)
                  go_wp2
                  go_ret
                  exact ⟨ret_bool HE.out.symm, B9.out⟩

end Go.Proofs.YtbamjhldebobhaaDoor
