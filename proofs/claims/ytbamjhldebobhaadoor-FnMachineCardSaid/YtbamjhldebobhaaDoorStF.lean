/- The specification's bytes of coded sets. -/
import Derived.Test.YtbamjhldebobhaaDoorStC
import Derived.Test.YtbamjhldebobhaaDoorStN
namespace Go.Proofs.YtbamjhldebobhaaDoor
open Go.RowKit Go.Sort

theorem results_cell_tmp2 {P : Program} {fn : Func} {p u v : Tmp} {ty : TypeId} (h : fn.results = #[.cell p ty, .tmp u, .tmp v]) (tmps : Array Value) (w : World) (g : Nat) (t : TypeId) (cs : Array Value) (fr : Nat × Nat) (d : TypeDesc)
    (hp : tmps.getD p undef = .pointer (some ⟨g, 0, none⟩)) (hg : w.heap[g]? = some (.cells cs t fr))
    (hu : P.underlying ty = some d) (hd : (match d with | .struct _ | .array _ _ => true | _ => false) = true) (hi : (P.info? ty).map (·.size) = some cs.size) :
    (results fn tmps).run P w = .ok (.tuple #[.agg cs, tmps.getD u undef, tmps.getD v undef]) w := by
  have h1 : (results fn tmps).run P w = ((asAddr (tmps.getD p undef)).run P w).andThen fun a w₁ => ((loadVar ty a).run P w₁).andThen fun x w₂ => .ok (.tuple #[x, tmps.getD u undef, tmps.getD v undef]) w₂ := by
    simp only [results, h]
    simp [Sem.run_bind, Result.andThen]
  rw [h1, hp]
  simp [asAddr, run_loadVar_row w g t ty cs fr d hg hu hd hi, Result.andThen]

theorem st_eta0 {x : St} (h : x.d = 0) : x = ⟨x.g0, x.g1, x.g2, x.g3, x.l, x.s, 0⟩ := by cases x; simp only at h; rw [h]

def stpV (p : Stp) : Value := .tuple #[stV p.y, .int .i64 p.r, .int .i64 p.c]
def StpDone (p : Stp) (w : World) (e : Ending) (w' : World) : Prop := e = .returned (stpV p) ∧ Below w.heap.size w w'
theorem st_ret3 {P : Program} {fn : Func} {p u v : Tmp} {a : Act} {w1 : World} {g : Nat} {t ty : TypeId} {fr : Nat × Nat} {d : TypeDesc} {y : St} {r c : Int} {Q : Ending → World → Prop} (h : fn.results = #[.cell p ty, .tmp u, .tmp v])
    (hp : a.tmps.getD p undef = .pointer (some ⟨g, 0, none⟩)) (hr : a.tmps.getD u undef = .int .i64 r) (hc : a.tmps.getD v undef = .int .i64 c) (hg : w1.heap[g]? = some (.cells #[.int .i64 y.g0, .int .i64 y.g1, .int .i64 y.g2, .int .i64 y.g3, .int .i64 y.l, .int .i64 y.s, .int .i64 y.d] t fr))
    (hu : P.underlying ty = some d) (hd : (match d with | .struct _ | .array _ _ => true | _ => false) = true) (hi : (P.info? ty).map (·.size) = some 7) (hdef : a.defers = []) (hQ : Q (.returned (stpV ⟨y, r, c⟩)) w1) :
    bodyPost P fn Q .ret a w1 :=
  bodyPost_ret (results_cell_tmp2 h _ _ g _ _ _ _ hp hg hu hd hi) hdef (by rw [hr, hc]; exact hQ)

set_option maxHeartbeats 4000000 in
set_option maxRecDepth 100000 in
theorem spec_l04Graphic (x : St) (a : Int) (r : Bool) (w : World) (hh : headOK x = true) (hd0 : 0 ≤ x.d) (hd1 : x.d ≤ 254) (ha0 : 0 ≤ a) (ha1 : a ≤ 255) : Calls Tryd.prog 62 #[stV x, .int .i64 a, .bool r] w (StpDone (graphic x a r) w) := by
  have ⟨hq0, hq3⟩ := sideOf_in r hh
  have B0 := below_two w (.cells #[.int .i64 x.g0, .int .i64 x.g1, .int .i64 x.g2, .int .i64 x.g3, .int .i64 x.l, .int .i64 x.s, .int .i64 x.d] 24) (.cells #[.int .i64 0, .int .i64 0, .int .i64 0, .int .i64 0, .int .i64 0, .int .i64 0, .int .i64 0] 24)
  have HB0 : Hid (StAt ((w.alloc (.cells #[.int .i64 x.g0, .int .i64 x.g1, .int .i64 x.g2, .int .i64 x.g3, .int .i64 x.l, .int .i64 x.s, .int .i64 x.d] 24)).alloc (.cells #[.int .i64 0, .int .i64 0, .int .i64 0, .int .i64 0, .int .i64 0, .int .i64 0, .int .i64 0] 24)) w.heap.size x) := Lib.hid (heap_alloc2_old _ _ _)
  have HS0 : Hid (StAt ((w.alloc (.cells #[.int .i64 x.g0, .int .i64 x.g1, .int .i64 x.g2, .int .i64 x.g3, .int .i64 x.l, .int .i64 x.s, .int .i64 x.d] 24)).alloc (.cells #[.int .i64 0, .int .i64 0, .int .i64 0, .int .i64 0, .int .i64 0, .int .i64 0, .int .i64 0] 24)) (w.heap.size + 1) zeroSt) := Lib.hid (heap_alloc2_new _ _ _)
  have HG0 : Hid (graphic x a r = if stGet x (sideOf x r) = 0 then ⟨x, -1, 17⟩
    else if setKind (stGet x (sideOf x r)) = 3 then
      if 0 < x.d ∧ decide (128 < x.d) ≠ r then ⟨x, -1, 13⟩ else if inB a 33 126 = false then ⟨x, -1, 12⟩ else if x.d = 0 then ⟨⟨x.g0, x.g1, x.g2, x.g3, x.l, x.s, a + sideNo r⟩, -1, 0⟩
      else gLast x (stGet x (sideOf x r)) (a + (x.d - sideNo r) * 256)
    else gLast x (stGet x (sideOf x r)) a) := Lib.hid rfl
  unfold stV
  clear hh
  go_enter Tryd.func62, Tryd.ntmps62
  go_wp2_with fail
  generalize ((w.alloc (.cells #[.int .i64 x.g0, .int .i64 x.g1, .int .i64 x.g2, .int .i64 x.g3, .int .i64 x.l, .int .i64 x.s, .int .i64 x.d] 24)).alloc (.cells #[.int .i64 0, .int .i64 0, .int .i64 0, .int .i64 0, .int .i64 0, .int .i64 0, .int .i64 0] 24)) = W0 at *
  have cS : ∀ d os, Calls Tryd.prog 58 #[.agg #[.int .i64 x.g0, .int .i64 x.g1, .int .i64 x.g2, .int .i64 x.g3, .int .i64 x.l, .int .i64 x.s, .int .i64 x.d], .bool r] (grow (redrawn W0 d) os) fun e w'' => e = .returned (.int .i64 (sideOf x r)) ∧ ∃ p : Regrown, w'' = grow (redrawn W0 p.d) p.os := fun d os => Calls.regrown_of (spec_l04Side x _ _)
  have cG : ∀ d os, Calls Tryd.prog 42 #[.agg #[.int .i64 x.g0, .int .i64 x.g1, .int .i64 x.g2, .int .i64 x.g3, .int .i64 x.l, .int .i64 x.s, .int .i64 x.d], .int .i64 (sideOf x r)] (grow (redrawn W0 d) os) fun e w'' => e = .returned (.int .i64 (stGet x (sideOf x r))) ∧ ∃ p : Regrown, w'' = grow (redrawn W0 p.d) p.os := fun d os => Calls.regrown_of (spec_l04Get x _ _ hq0 hq3)
  clear hq0 hq3
  generalize stGet x (sideOf x r) = q at *
  generalize sideOf x r = sd at *
  have ⟨y0, y1, y2, y3, y4, y5, y6⟩ := HB0.out.cells
  have m0 := cell_regrown y0
  have m1 := cell_regrown y1
  have m2 := cell_regrown y2
  have m3 := cell_regrown y3
  have m4 := cell_regrown y4
  have m5 := cell_regrown y5
  have m6 := cell_regrown y6
  clear y0 y1 y2 y3 y4 y5 y6
  refine wp_region_quiet_below (by kernel_rfl) (by kernel_rfl) ?_
  repeat (quiet_step (first | exact cS _ _ | exact cG _ _))
  refine wpQuiet_nil ?_
  intro W1 hw1
  obtain ⟨⟨dq, osq⟩, hw1'⟩ := hw1
  have b1 : Below W0.heap.size W0 W1 := by rw [hw1']; exact below_regrown W0 dq osq
  have B1 : Hid (Below w.heap.size w W1) := Lib.hid (B0.trans (b1.mono B0.size))
  have HB1 := Lib.hid (HB0.out.keep b1)
  have HS1 := Lib.hid (HS0.out.keep b1)
  clear m0 m1 m2 m3 m4 m5 m6 cS cG hw1' b1 HB0 HS0 B0
  by_cases hq : q = 0
  · have eq0 : (q == 0) = true := by simpa using hq
    have HE : Hid (graphic x a r = ⟨x, -1, 17⟩) := Lib.hid (by rw [HG0.out, if_pos hq])
    have ⟨y0, y1, y2, y3, y4, y5, y6⟩ := HB1.out.cells
    have ⟨r0, r1, r2, r3, r4, r5, r6⟩ := HS1.out.cells
    have ⟨z0, z1, z2, z3, z4, z5, z6⟩ := HS1.out.thaw
    simp only [zeroSt] at r0 r1 r2 r3 r4 r5 r6
    have hl : w.heap.size + 1 < W1.heap.size := HS1.out.lt
    go_wp2
    exact st_ret3 (y := x) rfl rfl rfl rfl (HS1.out.put x) Tryd.underlying24 rfl (by kernel_rfl) rfl ⟨by rw [HE.out], below_putSt B1.out (Nat.le_succ _) x⟩
  have eq0 : (q == 0) = false := by rw [beq_eq_false_iff_ne]; exact hq
  go_wp2_with fail
  refine (spec_l02Set q W1).mono ?_
  rintro e W2 ⟨yg, rfl, hyg, hblk, b2⟩
  clear hyg hblk
  have B2 : Hid (Below w.heap.size w W2) := Lib.hid (B1.out.trans (b2.mono B1.out.size))
  have HB2 := Lib.hid (HB1.out.keep b2)
  have HS2 := Lib.hid (HS1.out.keep b2)
  clear b2 HB1 HS1 B1
  unfold setV
  have F1 := setField1
  by_cases hk3 : setKind q = 3
  · have K3 := Lib.hid hk3
    rw [hk3]
    clear hk3
    have HI := Lib.hid (fun w => spec_l01In a 33 126 w)
    cases r
    · by_cases d0 : x.d = 0
      · have HW : Hid (¬ (0 < x.d ∧ decide (128 < x.d) ≠ false)) := Lib.hid (fun h => by omega)
        have v1 : ¬ 0 < x.d := by omega
        have ⟨y0, y1, y2, y3, y4, y5, y6⟩ := HB2.out.cells
        rw [d0] at y6
        cases hin : inB a 33 126
        · have HE : Hid (graphic x a false = ⟨⟨x.g0, x.g1, x.g2, x.g3, x.l, x.s, 0⟩, -1, 12⟩) := Lib.hid (by rw [HG0.out, if_neg hq, if_pos K3.out, if_neg HW.out, if_pos hin]; exact congrArg (fun y => Stp.mk y (-1) 12) (st_eta0 d0))
          rw [hin] at HI
          clear d0 v1
          go_wp2_with fail
          refine (HI.out W2).mono ?_
          rintro e w3 ⟨rfl, rfl⟩
          have ⟨r0, r1, r2, r3, r4, r5, r6⟩ := HS2.out.cells
          have ⟨z0, z1, z2, z3, z4, z5, z6⟩ := HS2.out.thaw
          simp only [zeroSt] at r0 r1 r2 r3 r4 r5 r6
          have hl : w.heap.size + 1 < W2.heap.size := HS2.out.lt
          go_wp2
          exact st_ret3 (y := ⟨x.g0, x.g1, x.g2, x.g3, x.l, x.s, 0⟩) rfl rfl rfl rfl (HS2.out.put ⟨x.g0, x.g1, x.g2, x.g3, x.l, x.s, 0⟩) Tryd.underlying24 rfl (by kernel_rfl) rfl ⟨by rw [HE.out], below_putSt B2.out (Nat.le_succ _) ⟨x.g0, x.g1, x.g2, x.g3, x.l, x.s, 0⟩⟩
        · have HE : Hid (graphic x a false = ⟨⟨x.g0, x.g1, x.g2, x.g3, x.l, x.s, a⟩, -1, 0⟩) := Lib.hid (by rw [HG0.out, if_neg hq, if_pos K3.out, if_neg HW.out, if_neg (by rw [hin]; decide), if_pos d0]; simp [sideNo])
          have ua : IntKind.i64.wrap (a) = a := IntWalk.i64_in _ (by omega)
          rw [hin] at HI
          clear d0 v1
          go_wp2_with fail
          refine (HI.out W2).mono ?_
          rintro e w3 ⟨rfl, rfl⟩
          have ⟨q0, q1, q2, q3, q4, q5, q6⟩ := HB2.out.thaw
          have hl6 : w.heap.size < W2.heap.size := HB2.out.lt
          have HS3 : Hid (StAt (W2.setCell ⟨w.heap.size, 6, none⟩ (.int .i64 (a))) (w.heap.size + 1) zeroSt) := Lib.hid (by
            unfold StAt
            rw [Below.heap_setCell _ _ _ _ (by simp)]
            exact HS2.out)
          have B3 : Hid (Below w.heap.size w (W2.setCell ⟨w.heap.size, 6, none⟩ (.int .i64 (a)))) := Lib.hid (B2.out.setCell (Nat.le_refl _) _)
          have ⟨r0, r1, r2, r3, r4, r5, r6⟩ := HS2.out.cells
          have ⟨z0, z1, z2, z3, z4, z5, z6⟩ := HS2.out.thaw
          simp only [zeroSt] at r0 r1 r2 r3 r4 r5 r6
          have hl : w.heap.size + 1 < W2.heap.size := HS2.out.lt
          go_wp2
          exact st_ret3 (y := ⟨x.g0, x.g1, x.g2, x.g3, x.l, x.s, a⟩) rfl rfl rfl rfl (HS3.out.put ⟨x.g0, x.g1, x.g2, x.g3, x.l, x.s, a⟩) Tryd.underlying24 rfl (by kernel_rfl) rfl ⟨by rw [HE.out], below_putSt B3.out (Nat.le_succ _) ⟨x.g0, x.g1, x.g2, x.g3, x.l, x.s, a⟩⟩
      have v0 : 0 < x.d := by omega
      cases v2 : decide (128 < x.d) == true
      · have v2' : decide (128 < x.d) = false := by cases h : decide (128 < x.d) <;> rw [h] at v2 <;> first | rfl | cases v2
        have HW : Hid (¬ (0 < x.d ∧ decide (128 < x.d) ≠ false)) := Lib.hid (fun h => h.2 v2')
        clear v2
        cases hin : inB a 33 126
        · have HE : Hid (graphic x a false = ⟨x, -1, 12⟩) := Lib.hid (by rw [HG0.out, if_neg hq, if_pos K3.out, if_neg HW.out, if_pos hin])
          rw [hin] at HI
          have ⟨y0, y1, y2, y3, y4, y5, y6⟩ := HB2.out.cells
          go_wp2_with fail
          refine (HI.out W2).mono ?_
          rintro e w3 ⟨rfl, rfl⟩
          clear y0 y1 y2 y3 y4 y5 y6
          have ⟨y0, y1, y2, y3, y4, y5, y6⟩ := HB2.out.cells
          have ⟨r0, r1, r2, r3, r4, r5, r6⟩ := HS2.out.cells
          have ⟨z0, z1, z2, z3, z4, z5, z6⟩ := HS2.out.thaw
          simp only [zeroSt] at r0 r1 r2 r3 r4 r5 r6
          have hl : w.heap.size + 1 < W2.heap.size := HS2.out.lt
          go_wp2
          exact st_ret3 (y := x) rfl rfl rfl rfl (HS2.out.put x) Tryd.underlying24 rfl (by kernel_rfl) rfl ⟨by rw [HE.out], below_putSt B2.out (Nat.le_succ _) x⟩
        · have ⟨a0, a1⟩ := inB_true hin
          rw [hin] at HI
          have e0 : (x.d == 0) = false := by rw [beq_eq_false_iff_ne]; exact d0
          have u1 : IntKind.i64.wrap x.d = x.d := IntWalk.i64_in _ (by omega)
          have u2 : IntKind.i64.wrap (x.d * 256) = x.d * 256 := IntWalk.i64_in _ (by omega)
          have u3 : IntKind.i64.wrap (a + x.d * 256) = a + x.d * 256 := IntWalk.i64_in _ (by omega)
          have hA0 : 0 ≤ a + x.d * 256 := by omega
          have hA1 : a + x.d * 256 ≤ 9223372036854775807 := by omega
          have HU : Hid (graphic x a false = gLast x q (a + x.d * 256)) := Lib.hid (by rw [HG0.out, if_neg hq, if_pos K3.out, if_neg HW.out, if_neg (by rw [hin]; decide), if_neg d0]; simp [sideNo])
          have ⟨y0, y1, y2, y3, y4, y5, y6⟩ := HB2.out.cells
          go_wp2_with fail
          refine (HI.out W2).mono ?_
          rintro e w3 ⟨rfl, rfl⟩
          clear y0 y1 y2 y3 y4 y5 y6
          have ⟨y0, y1, y2, y3, y4, y5, y6⟩ := HB2.out.cells
          have HK := Lib.hid (fun w => spec_l02Code 3 (a + x.d * 256) w hA0 hA1)
          have HN := Lib.hid (fun w => spec_l02Rune q (a + x.d * 256) w)
          have HQ : Hid (gLast x q (a + x.d * 256) = if kindB 3 (a + x.d * 256) = true ∧ 0 ≤ runeS (setSpans q) (a + x.d * 256) then ⟨⟨x.g0, x.g1, x.g2, x.g3, x.l, 0, 0⟩, runeS (setSpans q) (a + x.d * 256), 0⟩ else ⟨x, -1, 12⟩) := Lib.hid (by rw [gLast, K3.out])
          clear hA0 hA1
          generalize kindB 3 (a + x.d * 256) = kb at *
          generalize runeS (setSpans q) (a + x.d * 256) = rv at *
          go_wp2_with fail
          refine (HK.out W2).mono ?_
          rintro e w5 ⟨rfl, rfl⟩
          clear y0 y1 y2 y3 y4 y5 y6
          cases kb
          · have HE : Hid (graphic x a false = ⟨x, -1, 12⟩) := Lib.hid (by rw [HU.out, HQ.out, if_neg (fun h => by cases h.1)])
            have ⟨y0, y1, y2, y3, y4, y5, y6⟩ := HB2.out.cells
            have ⟨r0, r1, r2, r3, r4, r5, r6⟩ := HS2.out.cells
            have ⟨z0, z1, z2, z3, z4, z5, z6⟩ := HS2.out.thaw
            simp only [zeroSt] at r0 r1 r2 r3 r4 r5 r6
            have hl : w.heap.size + 1 < W2.heap.size := HS2.out.lt
            go_wp2
            exact st_ret3 (y := x) rfl rfl rfl rfl (HS2.out.put x) Tryd.underlying24 rfl (by kernel_rfl) rfl ⟨by rw [HE.out], below_putSt B2.out (Nat.le_succ _) x⟩
          · go_wp2_with fail
            refine (HN.out W2).mono ?_
            rintro e W6 ⟨rfl, b6⟩
            have B6 : Hid (Below w.heap.size w W6) := Lib.hid (B2.out.trans (b6.mono B2.out.size))
            have HB6 := Lib.hid (HB2.out.keep b6)
            have HS6 := Lib.hid (HS2.out.keep b6)
            clear b6
            by_cases hr : rv < 0
            · have HE : Hid (graphic x a false = ⟨x, -1, 12⟩) := Lib.hid (by rw [HU.out, HQ.out, if_neg (fun h => by omega)])
              have ⟨y0, y1, y2, y3, y4, y5, y6⟩ := HB6.out.cells
              have ⟨r0, r1, r2, r3, r4, r5, r6⟩ := HS6.out.cells
              have ⟨z0, z1, z2, z3, z4, z5, z6⟩ := HS6.out.thaw
              simp only [zeroSt] at r0 r1 r2 r3 r4 r5 r6
              have hl : w.heap.size + 1 < W6.heap.size := HS6.out.lt
              go_wp2
              exact st_ret3 (y := x) rfl rfl rfl rfl (HS6.out.put x) Tryd.underlying24 rfl (by kernel_rfl) rfl ⟨by rw [HE.out], below_putSt B6.out (Nat.le_succ _) x⟩
            · have HE : Hid (graphic x a false = ⟨⟨x.g0, x.g1, x.g2, x.g3, x.l, 0, 0⟩, rv, 0⟩) := Lib.hid (by rw [HU.out, HQ.out, if_pos ⟨by trivial, by omega⟩])
              have ⟨y0, y1, y2, y3, y4, y5, y6⟩ := HB6.out.cells
              have ⟨q0, q1, q2, q3, q4, q5, q6⟩ := HB6.out.thaw
              have hl6 : w.heap.size < W6.heap.size := HB6.out.lt
              go_wp2
              have HB7 : Hid (StAt ((W6.setCell ⟨w.heap.size, 5, none⟩ (.int .i64 0)).setCell ⟨w.heap.size, 6, none⟩ (.int .i64 0)) w.heap.size ⟨x.g0, x.g1, x.g2, x.g3, x.l, 0, 0⟩) := Lib.hid (heap_setCell_same _ _ 6 _ _ (.int .i64 0) (heap_setCell_same _ _ 5 _ _ (.int .i64 0) HB6.out))
              have HS7 : Hid (StAt ((W6.setCell ⟨w.heap.size, 5, none⟩ (.int .i64 0)).setCell ⟨w.heap.size, 6, none⟩ (.int .i64 0)) (w.heap.size + 1) zeroSt) := Lib.hid (by
                unfold StAt
                rw [Below.heap_setCell _ _ _ _ (by simp), Below.heap_setCell _ _ _ _ (by simp)]
                exact HS6.out)
              have B7 : Hid (Below w.heap.size w ((W6.setCell ⟨w.heap.size, 5, none⟩ (.int .i64 0)).setCell ⟨w.heap.size, 6, none⟩ (.int .i64 0))) := Lib.hid ((B6.out.setCell (Nat.le_refl _) _).setCell (Nat.le_refl _) _)
              clear y0 y1 y2 y3 y4 y5 y6 q0 q1 q2 q3 q4 q5 q6 hl6
              generalize (W6.setCell ⟨w.heap.size, 5, none⟩ (.int .i64 0)).setCell ⟨w.heap.size, 6, none⟩ (.int .i64 0) = W7 at *
              have ⟨y0, y1, y2, y3, y4, y5, y6⟩ := HB7.out.cells
              dsimp only at y0 y1 y2 y3 y4 y5 y6
              go_region_with ((go_at_call 80; refine (HN.out _).mono ?_; rintro e W8 ⟨rfl, b8⟩; have b78 : Below W7.heap.size W7 W8 := bel_drew b8; have ⟨p0, p1, p2, p3, p4, p5, p6⟩ := (HB7.out.keep b78).cells; have HS8 := Lib.hid (HS7.out.keep b78); have B8 : Hid (Below w.heap.size w W8) := Lib.hid (B7.out.trans (b78.mono B7.out.size)); have ⟨r0, r1, r2, r3, r4, r5, r6⟩ := HS8.out.cells; have ⟨z0, z1, z2, z3, z4, z5, z6⟩ := HS8.out.thaw; simp only [zeroSt] at r0 r1 r2 r3 r4 r5 r6; dsimp only at p0 p1 p2 p3 p4 p5 p6; have hl : w.heap.size + 1 < W8.heap.size := HS8.out.lt; clear b8 b78))
              all_goals
                go_wp2
                exact st_ret3 (y := ⟨x.g0, x.g1, x.g2, x.g3, x.l, 0, 0⟩) rfl rfl rfl rfl (HS8.out.put ⟨x.g0, x.g1, x.g2, x.g3, x.l, 0, 0⟩) Tryd.underlying24 rfl (by kernel_rfl) rfl ⟨by rw [HE.out], below_putSt B8.out (Nat.le_succ _) ⟨x.g0, x.g1, x.g2, x.g3, x.l, 0, 0⟩⟩
      · have v2' : decide (128 < x.d) = true := by cases h : decide (128 < x.d) <;> rw [h] at v2 <;> first | rfl | cases v2
        have HE : Hid (graphic x a false = ⟨x, -1, 13⟩) := Lib.hid (by rw [HG0.out, if_neg hq, if_pos K3.out, if_pos ⟨v0, by rw [v2']; decide⟩])
        clear v2
        have ⟨y0, y1, y2, y3, y4, y5, y6⟩ := HB2.out.cells
        have ⟨r0, r1, r2, r3, r4, r5, r6⟩ := HS2.out.cells
        have ⟨z0, z1, z2, z3, z4, z5, z6⟩ := HS2.out.thaw
        simp only [zeroSt] at r0 r1 r2 r3 r4 r5 r6
        have hl : w.heap.size + 1 < W2.heap.size := HS2.out.lt
        go_wp2
        exact st_ret3 (y := x) rfl rfl rfl rfl (HS2.out.put x) Tryd.underlying24 rfl (by kernel_rfl) rfl ⟨by rw [HE.out], below_putSt B2.out (Nat.le_succ _) x⟩
    · by_cases d0 : x.d = 0
      · have HW : Hid (¬ (0 < x.d ∧ decide (128 < x.d) ≠ true)) := Lib.hid (fun h => by omega)
        have v1 : ¬ 0 < x.d := by omega
        have ⟨y0, y1, y2, y3, y4, y5, y6⟩ := HB2.out.cells
        rw [d0] at y6
        cases hin : inB a 33 126
        · have HE : Hid (graphic x a true = ⟨⟨x.g0, x.g1, x.g2, x.g3, x.l, x.s, 0⟩, -1, 12⟩) := Lib.hid (by rw [HG0.out, if_neg hq, if_pos K3.out, if_neg HW.out, if_pos hin]; exact congrArg (fun y => Stp.mk y (-1) 12) (st_eta0 d0))
          rw [hin] at HI
          clear d0 v1
          go_wp2_with fail
          refine (HI.out W2).mono ?_
          rintro e w3 ⟨rfl, rfl⟩
          have ⟨r0, r1, r2, r3, r4, r5, r6⟩ := HS2.out.cells
          have ⟨z0, z1, z2, z3, z4, z5, z6⟩ := HS2.out.thaw
          simp only [zeroSt] at r0 r1 r2 r3 r4 r5 r6
          have hl : w.heap.size + 1 < W2.heap.size := HS2.out.lt
          go_wp2
          exact st_ret3 (y := ⟨x.g0, x.g1, x.g2, x.g3, x.l, x.s, 0⟩) rfl rfl rfl rfl (HS2.out.put ⟨x.g0, x.g1, x.g2, x.g3, x.l, x.s, 0⟩) Tryd.underlying24 rfl (by kernel_rfl) rfl ⟨by rw [HE.out], below_putSt B2.out (Nat.le_succ _) ⟨x.g0, x.g1, x.g2, x.g3, x.l, x.s, 0⟩⟩
        · have HE : Hid (graphic x a true = ⟨⟨x.g0, x.g1, x.g2, x.g3, x.l, x.s, a + 128⟩, -1, 0⟩) := Lib.hid (by rw [HG0.out, if_neg hq, if_pos K3.out, if_neg HW.out, if_neg (by rw [hin]; decide), if_pos d0]; rfl)
          have ua : IntKind.i64.wrap (a + 128) = a + 128 := IntWalk.i64_in _ (by omega)
          rw [hin] at HI
          clear d0 v1
          go_wp2_with fail
          refine (HI.out W2).mono ?_
          rintro e w3 ⟨rfl, rfl⟩
          have ⟨q0, q1, q2, q3, q4, q5, q6⟩ := HB2.out.thaw
          have hl6 : w.heap.size < W2.heap.size := HB2.out.lt
          have HS3 : Hid (StAt (W2.setCell ⟨w.heap.size, 6, none⟩ (.int .i64 (a + 128))) (w.heap.size + 1) zeroSt) := Lib.hid (by
            unfold StAt
            rw [Below.heap_setCell _ _ _ _ (by simp)]
            exact HS2.out)
          have B3 : Hid (Below w.heap.size w (W2.setCell ⟨w.heap.size, 6, none⟩ (.int .i64 (a + 128)))) := Lib.hid (B2.out.setCell (Nat.le_refl _) _)
          have ⟨r0, r1, r2, r3, r4, r5, r6⟩ := HS2.out.cells
          have ⟨z0, z1, z2, z3, z4, z5, z6⟩ := HS2.out.thaw
          simp only [zeroSt] at r0 r1 r2 r3 r4 r5 r6
          have hl : w.heap.size + 1 < W2.heap.size := HS2.out.lt
          go_wp2
          exact st_ret3 (y := ⟨x.g0, x.g1, x.g2, x.g3, x.l, x.s, a + 128⟩) rfl rfl rfl rfl (HS3.out.put ⟨x.g0, x.g1, x.g2, x.g3, x.l, x.s, a + 128⟩) Tryd.underlying24 rfl (by kernel_rfl) rfl ⟨by rw [HE.out], below_putSt B3.out (Nat.le_succ _) ⟨x.g0, x.g1, x.g2, x.g3, x.l, x.s, a + 128⟩⟩
      have v0 : 0 < x.d := by omega
      cases v2 : decide (128 < x.d) == false
      · have v2' : decide (128 < x.d) = true := by cases h : decide (128 < x.d) <;> rw [h] at v2 <;> first | rfl | cases v2
        have HW : Hid (¬ (0 < x.d ∧ decide (128 < x.d) ≠ true)) := Lib.hid (fun h => h.2 v2')
        clear v2
        cases hin : inB a 33 126
        · have HE : Hid (graphic x a true = ⟨x, -1, 12⟩) := Lib.hid (by rw [HG0.out, if_neg hq, if_pos K3.out, if_neg HW.out, if_pos hin])
          rw [hin] at HI
          have ⟨y0, y1, y2, y3, y4, y5, y6⟩ := HB2.out.cells
          go_wp2_with fail
          refine (HI.out W2).mono ?_
          rintro e w3 ⟨rfl, rfl⟩
          clear y0 y1 y2 y3 y4 y5 y6
          have ⟨y0, y1, y2, y3, y4, y5, y6⟩ := HB2.out.cells
          have ⟨r0, r1, r2, r3, r4, r5, r6⟩ := HS2.out.cells
          have ⟨z0, z1, z2, z3, z4, z5, z6⟩ := HS2.out.thaw
          simp only [zeroSt] at r0 r1 r2 r3 r4 r5 r6
          have hl : w.heap.size + 1 < W2.heap.size := HS2.out.lt
          go_wp2
          exact st_ret3 (y := x) rfl rfl rfl rfl (HS2.out.put x) Tryd.underlying24 rfl (by kernel_rfl) rfl ⟨by rw [HE.out], below_putSt B2.out (Nat.le_succ _) x⟩
        · have ⟨a0, a1⟩ := inB_true hin
          rw [hin] at HI
          have e0 : (x.d == 0) = false := by rw [beq_eq_false_iff_ne]; exact d0
          have u1 : IntKind.i64.wrap (x.d - 128) = x.d - 128 := IntWalk.i64_in _ (by omega)
          have u2 : IntKind.i64.wrap ((x.d - 128) * 256) = (x.d - 128) * 256 := IntWalk.i64_in _ (by omega)
          have u3 : IntKind.i64.wrap (a + (x.d - 128) * 256) = a + (x.d - 128) * 256 := IntWalk.i64_in _ (by omega)
          have hA0 : 0 ≤ a + (x.d - 128) * 256 := by have := of_decide_eq_true v2'; omega
          have hA1 : a + (x.d - 128) * 256 ≤ 9223372036854775807 := by omega
          have HU : Hid (graphic x a true = gLast x q (a + (x.d - 128) * 256)) := Lib.hid (by rw [HG0.out, if_neg hq, if_pos K3.out, if_neg HW.out, if_neg (by rw [hin]; decide), if_neg d0]; rfl)
          have ⟨y0, y1, y2, y3, y4, y5, y6⟩ := HB2.out.cells
          go_wp2_with fail
          refine (HI.out W2).mono ?_
          rintro e w3 ⟨rfl, rfl⟩
          clear y0 y1 y2 y3 y4 y5 y6
          have ⟨y0, y1, y2, y3, y4, y5, y6⟩ := HB2.out.cells
          have HK := Lib.hid (fun w => spec_l02Code 3 (a + (x.d - 128) * 256) w hA0 hA1)
          have HN := Lib.hid (fun w => spec_l02Rune q (a + (x.d - 128) * 256) w)
          have HQ : Hid (gLast x q (a + (x.d - 128) * 256) = if kindB 3 (a + (x.d - 128) * 256) = true ∧ 0 ≤ runeS (setSpans q) (a + (x.d - 128) * 256) then ⟨⟨x.g0, x.g1, x.g2, x.g3, x.l, 0, 0⟩, runeS (setSpans q) (a + (x.d - 128) * 256), 0⟩ else ⟨x, -1, 12⟩) := Lib.hid (by rw [gLast, K3.out])
          clear hA0 hA1
          generalize kindB 3 (a + (x.d - 128) * 256) = kb at *
          generalize runeS (setSpans q) (a + (x.d - 128) * 256) = rv at *
          go_wp2_with fail
          refine (HK.out W2).mono ?_
          rintro e w5 ⟨rfl, rfl⟩
          clear y0 y1 y2 y3 y4 y5 y6
          cases kb
          · have HE : Hid (graphic x a true = ⟨x, -1, 12⟩) := Lib.hid (by rw [HU.out, HQ.out, if_neg (fun h => by cases h.1)])
            have ⟨y0, y1, y2, y3, y4, y5, y6⟩ := HB2.out.cells
            have ⟨r0, r1, r2, r3, r4, r5, r6⟩ := HS2.out.cells
            have ⟨z0, z1, z2, z3, z4, z5, z6⟩ := HS2.out.thaw
            simp only [zeroSt] at r0 r1 r2 r3 r4 r5 r6
            have hl : w.heap.size + 1 < W2.heap.size := HS2.out.lt
            go_wp2
            exact st_ret3 (y := x) rfl rfl rfl rfl (HS2.out.put x) Tryd.underlying24 rfl (by kernel_rfl) rfl ⟨by rw [HE.out], below_putSt B2.out (Nat.le_succ _) x⟩
          · go_wp2_with fail
            refine (HN.out W2).mono ?_
            rintro e W6 ⟨rfl, b6⟩
            have B6 : Hid (Below w.heap.size w W6) := Lib.hid (B2.out.trans (b6.mono B2.out.size))
            have HB6 := Lib.hid (HB2.out.keep b6)
            have HS6 := Lib.hid (HS2.out.keep b6)
            clear b6
            by_cases hr : rv < 0
            · have HE : Hid (graphic x a true = ⟨x, -1, 12⟩) := Lib.hid (by rw [HU.out, HQ.out, if_neg (fun h => by omega)])
              have ⟨y0, y1, y2, y3, y4, y5, y6⟩ := HB6.out.cells
              have ⟨r0, r1, r2, r3, r4, r5, r6⟩ := HS6.out.cells
              have ⟨z0, z1, z2, z3, z4, z5, z6⟩ := HS6.out.thaw
              simp only [zeroSt] at r0 r1 r2 r3 r4 r5 r6
              have hl : w.heap.size + 1 < W6.heap.size := HS6.out.lt
              go_wp2
              exact st_ret3 (y := x) rfl rfl rfl rfl (HS6.out.put x) Tryd.underlying24 rfl (by kernel_rfl) rfl ⟨by rw [HE.out], below_putSt B6.out (Nat.le_succ _) x⟩
            · have HE : Hid (graphic x a true = ⟨⟨x.g0, x.g1, x.g2, x.g3, x.l, 0, 0⟩, rv, 0⟩) := Lib.hid (by rw [HU.out, HQ.out, if_pos ⟨by trivial, by omega⟩])
              have ⟨y0, y1, y2, y3, y4, y5, y6⟩ := HB6.out.cells
              have ⟨q0, q1, q2, q3, q4, q5, q6⟩ := HB6.out.thaw
              have hl6 : w.heap.size < W6.heap.size := HB6.out.lt
              go_wp2
              have HB7 : Hid (StAt ((W6.setCell ⟨w.heap.size, 5, none⟩ (.int .i64 0)).setCell ⟨w.heap.size, 6, none⟩ (.int .i64 0)) w.heap.size ⟨x.g0, x.g1, x.g2, x.g3, x.l, 0, 0⟩) := Lib.hid (heap_setCell_same _ _ 6 _ _ (.int .i64 0) (heap_setCell_same _ _ 5 _ _ (.int .i64 0) HB6.out))
              have HS7 : Hid (StAt ((W6.setCell ⟨w.heap.size, 5, none⟩ (.int .i64 0)).setCell ⟨w.heap.size, 6, none⟩ (.int .i64 0)) (w.heap.size + 1) zeroSt) := Lib.hid (by
                unfold StAt
                rw [Below.heap_setCell _ _ _ _ (by simp), Below.heap_setCell _ _ _ _ (by simp)]
                exact HS6.out)
              have B7 : Hid (Below w.heap.size w ((W6.setCell ⟨w.heap.size, 5, none⟩ (.int .i64 0)).setCell ⟨w.heap.size, 6, none⟩ (.int .i64 0))) := Lib.hid ((B6.out.setCell (Nat.le_refl _) _).setCell (Nat.le_refl _) _)
              clear y0 y1 y2 y3 y4 y5 y6 q0 q1 q2 q3 q4 q5 q6 hl6
              generalize (W6.setCell ⟨w.heap.size, 5, none⟩ (.int .i64 0)).setCell ⟨w.heap.size, 6, none⟩ (.int .i64 0) = W7 at *
              have ⟨y0, y1, y2, y3, y4, y5, y6⟩ := HB7.out.cells
              dsimp only at y0 y1 y2 y3 y4 y5 y6
              go_region_with ((go_at_call 80; refine (HN.out _).mono ?_; rintro e W8 ⟨rfl, b8⟩; have b78 : Below W7.heap.size W7 W8 := bel_drew b8; have ⟨p0, p1, p2, p3, p4, p5, p6⟩ := (HB7.out.keep b78).cells; have HS8 := Lib.hid (HS7.out.keep b78); have B8 : Hid (Below w.heap.size w W8) := Lib.hid (B7.out.trans (b78.mono B7.out.size)); have ⟨r0, r1, r2, r3, r4, r5, r6⟩ := HS8.out.cells; have ⟨z0, z1, z2, z3, z4, z5, z6⟩ := HS8.out.thaw; simp only [zeroSt] at r0 r1 r2 r3 r4 r5 r6; dsimp only at p0 p1 p2 p3 p4 p5 p6; have hl : w.heap.size + 1 < W8.heap.size := HS8.out.lt; clear b8 b78))
              all_goals
                go_wp2
                exact st_ret3 (y := ⟨x.g0, x.g1, x.g2, x.g3, x.l, 0, 0⟩) rfl rfl rfl rfl (HS8.out.put ⟨x.g0, x.g1, x.g2, x.g3, x.l, 0, 0⟩) Tryd.underlying24 rfl (by kernel_rfl) rfl ⟨by rw [HE.out], below_putSt B8.out (Nat.le_succ _) ⟨x.g0, x.g1, x.g2, x.g3, x.l, 0, 0⟩⟩
      · have v2' : decide (128 < x.d) = false := by cases h : decide (128 < x.d) <;> rw [h] at v2 <;> first | rfl | cases v2
        have HE : Hid (graphic x a true = ⟨x, -1, 13⟩) := Lib.hid (by rw [HG0.out, if_neg hq, if_pos K3.out, if_pos ⟨v0, by rw [v2']; decide⟩])
        clear v2
        have ⟨y0, y1, y2, y3, y4, y5, y6⟩ := HB2.out.cells
        have ⟨r0, r1, r2, r3, r4, r5, r6⟩ := HS2.out.cells
        have ⟨z0, z1, z2, z3, z4, z5, z6⟩ := HS2.out.thaw
        simp only [zeroSt] at r0 r1 r2 r3 r4 r5 r6
        have hl : w.heap.size + 1 < W2.heap.size := HS2.out.lt
        go_wp2
        exact st_ret3 (y := x) rfl rfl rfl rfl (HS2.out.put x) Tryd.underlying24 rfl (by kernel_rfl) rfl ⟨by rw [HE.out], below_putSt B2.out (Nat.le_succ _) x⟩
  · have ek : (setKind q == 3) = false := by rw [beq_eq_false_iff_ne]; exact hk3
    have hA0 : 0 ≤ a := ha0
    have hA1 : a ≤ 9223372036854775807 := by omega
    generalize hkd : setKind q = kd at *
    have HKD := Lib.hid hkd
    clear hkd
    have HU : Hid (graphic x a r = gLast x q (a)) := Lib.hid (by rw [HG0.out, if_neg hq, if_neg hk3])
    have HK := Lib.hid (fun w => spec_l02Code kd (a) w hA0 hA1)
    have HN := Lib.hid (fun w => spec_l02Rune q (a) w)
    have HQ : Hid (gLast x q (a) = if kindB (kd) (a) = true ∧ 0 ≤ runeS (setSpans q) (a) then ⟨⟨x.g0, x.g1, x.g2, x.g3, x.l, 0, 0⟩, runeS (setSpans q) (a), 0⟩ else ⟨x, -1, 12⟩) := Lib.hid (by rw [gLast, HKD.out])
    clear hA0 hA1
    generalize kindB (kd) (a) = kb at *
    generalize runeS (setSpans q) (a) = rv at *
    go_wp2_with fail
    refine (HK.out W2).mono ?_
    rintro e w5 ⟨rfl, rfl⟩
    cases kb
    · have HE : Hid (graphic x a r = ⟨x, -1, 12⟩) := Lib.hid (by rw [HU.out, HQ.out, if_neg (fun h => by cases h.1)])
      have ⟨y0, y1, y2, y3, y4, y5, y6⟩ := HB2.out.cells
      have ⟨r0, r1, r2, r3, r4, r5, r6⟩ := HS2.out.cells
      have ⟨z0, z1, z2, z3, z4, z5, z6⟩ := HS2.out.thaw
      simp only [zeroSt] at r0 r1 r2 r3 r4 r5 r6
      have hl : w.heap.size + 1 < W2.heap.size := HS2.out.lt
      go_wp2
      exact st_ret3 (y := x) rfl rfl rfl rfl (HS2.out.put x) Tryd.underlying24 rfl (by kernel_rfl) rfl ⟨by rw [HE.out], below_putSt B2.out (Nat.le_succ _) x⟩
    · go_wp2_with fail
      refine (HN.out W2).mono ?_
      rintro e W6 ⟨rfl, b6⟩
      have B6 : Hid (Below w.heap.size w W6) := Lib.hid (B2.out.trans (b6.mono B2.out.size))
      have HB6 := Lib.hid (HB2.out.keep b6)
      have HS6 := Lib.hid (HS2.out.keep b6)
      clear b6
      by_cases hr : rv < 0
      · have HE : Hid (graphic x a r = ⟨x, -1, 12⟩) := Lib.hid (by rw [HU.out, HQ.out, if_neg (fun h => by omega)])
        have ⟨y0, y1, y2, y3, y4, y5, y6⟩ := HB6.out.cells
        have ⟨r0, r1, r2, r3, r4, r5, r6⟩ := HS6.out.cells
        have ⟨z0, z1, z2, z3, z4, z5, z6⟩ := HS6.out.thaw
        simp only [zeroSt] at r0 r1 r2 r3 r4 r5 r6
        have hl : w.heap.size + 1 < W6.heap.size := HS6.out.lt
        go_wp2
        exact st_ret3 (y := x) rfl rfl rfl rfl (HS6.out.put x) Tryd.underlying24 rfl (by kernel_rfl) rfl ⟨by rw [HE.out], below_putSt B6.out (Nat.le_succ _) x⟩
      · have HE : Hid (graphic x a r = ⟨⟨x.g0, x.g1, x.g2, x.g3, x.l, 0, 0⟩, rv, 0⟩) := Lib.hid (by rw [HU.out, HQ.out, if_pos ⟨by trivial, by omega⟩])
        have ⟨y0, y1, y2, y3, y4, y5, y6⟩ := HB6.out.cells
        have ⟨q0, q1, q2, q3, q4, q5, q6⟩ := HB6.out.thaw
        have hl6 : w.heap.size < W6.heap.size := HB6.out.lt
        go_wp2
        have HB7 : Hid (StAt ((W6.setCell ⟨w.heap.size, 5, none⟩ (.int .i64 0)).setCell ⟨w.heap.size, 6, none⟩ (.int .i64 0)) w.heap.size ⟨x.g0, x.g1, x.g2, x.g3, x.l, 0, 0⟩) := Lib.hid (heap_setCell_same _ _ 6 _ _ (.int .i64 0) (heap_setCell_same _ _ 5 _ _ (.int .i64 0) HB6.out))
        have HS7 : Hid (StAt ((W6.setCell ⟨w.heap.size, 5, none⟩ (.int .i64 0)).setCell ⟨w.heap.size, 6, none⟩ (.int .i64 0)) (w.heap.size + 1) zeroSt) := Lib.hid (by
          unfold StAt
          rw [Below.heap_setCell _ _ _ _ (by simp), Below.heap_setCell _ _ _ _ (by simp)]
          exact HS6.out)
        have B7 : Hid (Below w.heap.size w ((W6.setCell ⟨w.heap.size, 5, none⟩ (.int .i64 0)).setCell ⟨w.heap.size, 6, none⟩ (.int .i64 0))) := Lib.hid ((B6.out.setCell (Nat.le_refl _) _).setCell (Nat.le_refl _) _)
        clear y0 y1 y2 y3 y4 y5 y6 q0 q1 q2 q3 q4 q5 q6 hl6
        generalize (W6.setCell ⟨w.heap.size, 5, none⟩ (.int .i64 0)).setCell ⟨w.heap.size, 6, none⟩ (.int .i64 0) = W7 at *
        have ⟨y0, y1, y2, y3, y4, y5, y6⟩ := HB7.out.cells
        dsimp only at y0 y1 y2 y3 y4 y5 y6
        go_region_with ((go_at_call 80; refine (HN.out _).mono ?_; rintro e W8 ⟨rfl, b8⟩; have b78 : Below W7.heap.size W7 W8 := bel_drew b8; have ⟨p0, p1, p2, p3, p4, p5, p6⟩ := (HB7.out.keep b78).cells; have HS8 := Lib.hid (HS7.out.keep b78); have B8 : Hid (Below w.heap.size w W8) := Lib.hid (B7.out.trans (b78.mono B7.out.size)); have ⟨r0, r1, r2, r3, r4, r5, r6⟩ := HS8.out.cells; have ⟨z0, z1, z2, z3, z4, z5, z6⟩ := HS8.out.thaw; simp only [zeroSt] at r0 r1 r2 r3 r4 r5 r6; dsimp only at p0 p1 p2 p3 p4 p5 p6; have hl : w.heap.size + 1 < W8.heap.size := HS8.out.lt; clear b8 b78))
        all_goals
          go_wp2
          exact st_ret3 (y := ⟨x.g0, x.g1, x.g2, x.g3, x.l, 0, 0⟩) rfl rfl rfl rfl (HS8.out.put ⟨x.g0, x.g1, x.g2, x.g3, x.l, 0, 0⟩) Tryd.underlying24 rfl (by kernel_rfl) rfl ⟨by rw [HE.out], below_putSt B8.out (Nat.le_succ _) ⟨x.g0, x.g1, x.g2, x.g3, x.l, 0, 0⟩⟩

end Go.Proofs.YtbamjhldebobhaaDoor
