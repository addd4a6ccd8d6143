/- The specification's RunState. Joined of: StF, StG, StH, MaH, RdA, RdB, PrJ, PrC, PlA, PlB, PlC, PrK, RdC, RdK, PrL, RdL, StI. -/
import Derived.Test.YtbamjhldebobhaaGreatDoorStC
import Derived.Test.YtbamjhldebobhaaGreatDoorStN
import Derived.Test.YtbamjhldebobhaaGreatDoorTokG
import Derived.Test.YtbamjhldebobhaaGreatDoorTokE
import Derived.Test.YtbamjhldebobhaaGreatDoorMaG
import Derived.Test.YtbamjhldebobhaaGreatDoorPrI
import Derived.Test.YtbamjhldebobhaaGreatDoorMaF
import Derived.Test.YtbamjhldebobhaaGreatDoorStL
import Derived.Test.YtbamjhldebobhaaGreatDoorPrB
import Derived.Maps.OwnSet
import Derived.Laws.StructEq
import Derived.Great.Frames
import Derived.Test.YtbamjhldebobhaaGreatDoorTokH
import Derived.Laws.EntriesVeiled
import Derived.Test.YtbamjhldebobhaaGreatDoorOwn

namespace Go.Proofs.YtbamjhldebobhaaGreatDoor
open Go.RowKit Go.Sort

theorem results_cell_tmp2 {P : Program} {fn : Func} {p u v : Tmp} {ty : TypeId} (h : fn.results = #[.cell p ty, .tmp u, .tmp v]) (tmps : Array Value) (w : World) (g : Nat) (t : TypeId) (cs : Array Value) (fr : Nat × Nat) (d : TypeDesc)
    (hp : tmps.getD p undef = .pointer (some ⟨g, 0, none⟩)) (hg : w.heap[g]? = some (.cells cs t fr))
    (hu : P.underlying ty = some d) (hd : (match d with | .struct _ | .array _ _ => true | _ => false) = true) (hi : (P.info? ty).map (·.size) = some cs.size) :
    (results fn tmps).run P w = .ok (.tuple #[.agg cs, tmps.getD u undef, tmps.getD v undef]) w := by
  have h1 : (results fn tmps).run P w = ((asAddr (tmps.getD p undef)).run P w).andThen fun a w₁ => ((loadVar ty a).run P w₁).andThen fun x w₂ => .ok (.tuple #[x, tmps.getD u undef, tmps.getD v undef]) w₂ := by
    simp only [results, h]
    simp [Sem.run_bind, Result.andThen]
  rw [h1, hp]
  simp [asAddr, run_loadVar_row w g t ty cs fr d hg hu hd hi, Result.andThen]

theorem st_eta0 {x : St} (h : x.d = 0) : x = ⟨x.g0, x.g1, x.g2, x.g3, x.l, x.s, 0⟩ := by cases x; simp only at h; rw [h]

def stpV (p : Stp) : Value := .tuple #[stV p.y, .int .i64 p.r, .int .i64 p.c]
def StpDone (p : Stp) (w : World) (e : Ending) (w' : World) : Prop := e = .returned (stpV p) ∧ Below w.heap.size w w'
theorem st_ret3 {P : Program} {fn : Func} {p u v : Tmp} {a : Act} {w1 : World} {g : Nat} {t ty : TypeId} {fr : Nat × Nat} {d : TypeDesc} {y : St} {r c : Int} {Q : Ending → World → Prop} (h : fn.results = #[.cell p ty, .tmp u, .tmp v])
    (hp : a.tmps.getD p undef = .pointer (some ⟨g, 0, none⟩)) (hr : a.tmps.getD u undef = .int .i64 r) (hc : a.tmps.getD v undef = .int .i64 c) (hg : w1.heap[g]? = some (.cells #[.int .i64 y.g0, .int .i64 y.g1, .int .i64 y.g2, .int .i64 y.g3, .int .i64 y.l, .int .i64 y.s, .int .i64 y.d] t fr))
    (hu : P.underlying ty = some d) (hd : (match d with | .struct _ | .array _ _ => true | _ => false) = true) (hi : (P.info? ty).map (·.size) = some 7) (hdef : a.defers = []) (hQ : Q (.returned (stpV ⟨y, r, c⟩)) w1) :
    bodyPost P fn Q .ret a w1 :=
  bodyPost_ret (results_cell_tmp2 h _ _ g _ _ _ _ hp hg hu hd hi) hdef (by rw [hr, hc]; exact hQ)

set_option maxHeartbeats 4000000 in
set_option maxRecDepth 100000 in
theorem spec_l04Graphic (x : St) (a : Int) (r : Bool) (w : World) (hh : headOK x = true) (hd0 : 0 ≤ x.d) (hd1 : x.d ≤ 254) (ha0 : 0 ≤ a) (ha1 : a ≤ 255) : Calls Tryz.prog 151 #[stV x, .int .i64 a, .bool r] w (StpDone (graphic x a r) w) := by
  have ⟨hq0, hq3⟩ := sideOf_in r hh
  have B0 := below_two w (.cells #[.int .i64 x.g0, .int .i64 x.g1, .int .i64 x.g2, .int .i64 x.g3, .int .i64 x.l, .int .i64 x.s, .int .i64 x.d] 39) (.cells #[.int .i64 0, .int .i64 0, .int .i64 0, .int .i64 0, .int .i64 0, .int .i64 0, .int .i64 0] 39)
  have HB0 : Hid (StAt ((w.alloc (.cells #[.int .i64 x.g0, .int .i64 x.g1, .int .i64 x.g2, .int .i64 x.g3, .int .i64 x.l, .int .i64 x.s, .int .i64 x.d] 39)).alloc (.cells #[.int .i64 0, .int .i64 0, .int .i64 0, .int .i64 0, .int .i64 0, .int .i64 0, .int .i64 0] 39)) w.heap.size x) := Lib.hid (heap_alloc2_old _ _ _)
  have HS0 : Hid (StAt ((w.alloc (.cells #[.int .i64 x.g0, .int .i64 x.g1, .int .i64 x.g2, .int .i64 x.g3, .int .i64 x.l, .int .i64 x.s, .int .i64 x.d] 39)).alloc (.cells #[.int .i64 0, .int .i64 0, .int .i64 0, .int .i64 0, .int .i64 0, .int .i64 0, .int .i64 0] 39)) (w.heap.size + 1) zeroSt) := Lib.hid (heap_alloc2_new _ _ _)
  have HG0 : Hid (graphic x a r = if stGet x (sideOf x r) = 0 then ⟨x, -1, 17⟩
    else if setKind (stGet x (sideOf x r)) = 3 then
      if 0 < x.d ∧ decide (128 < x.d) ≠ r then ⟨x, -1, 13⟩ else if inB a 33 126 = false then ⟨x, -1, 12⟩ else if x.d = 0 then ⟨⟨x.g0, x.g1, x.g2, x.g3, x.l, x.s, a + sideNo r⟩, -1, 0⟩
      else gLast x (stGet x (sideOf x r)) (a + (x.d - sideNo r) * 256)
    else gLast x (stGet x (sideOf x r)) a) := Lib.hid rfl
  unfold stV
  clear hh
  go_enter Tryz.func151, Tryz.ntmps151
  go_wp2_with fail
  generalize ((w.alloc (.cells #[.int .i64 x.g0, .int .i64 x.g1, .int .i64 x.g2, .int .i64 x.g3, .int .i64 x.l, .int .i64 x.s, .int .i64 x.d] 39)).alloc (.cells #[.int .i64 0, .int .i64 0, .int .i64 0, .int .i64 0, .int .i64 0, .int .i64 0, .int .i64 0] 39)) = W0 at *
  have cS : ∀ d os, Calls Tryz.prog 123 #[.agg #[.int .i64 x.g0, .int .i64 x.g1, .int .i64 x.g2, .int .i64 x.g3, .int .i64 x.l, .int .i64 x.s, .int .i64 x.d], .bool r] (grow (redrawn W0 d) os) fun e w'' => e = .returned (.int .i64 (sideOf x r)) ∧ ∃ p : Regrown, w'' = grow (redrawn W0 p.d) p.os := fun d os => Calls.regrown_of (spec_l04Side x _ _)
  have cG : ∀ d os, Calls Tryz.prog 122 #[.agg #[.int .i64 x.g0, .int .i64 x.g1, .int .i64 x.g2, .int .i64 x.g3, .int .i64 x.l, .int .i64 x.s, .int .i64 x.d], .int .i64 (sideOf x r)] (grow (redrawn W0 d) os) fun e w'' => e = .returned (.int .i64 (stGet x (sideOf x r))) ∧ ∃ p : Regrown, w'' = grow (redrawn W0 p.d) p.os := fun d os => Calls.regrown_of (spec_l04Get x _ _ hq0 hq3)
  clear hq0 hq3
  generalize stGet x (sideOf x r) = q at *
  generalize sideOf x r = sd at *
  have ⟨y0, y1, y2, y3, y4, y5, y6⟩ := HB0.out.cells
  have m0 := cell_regrown y0
  have m1 := cell_regrown y1
  have m2 := cell_regrown y2
  have m3 := cell_regrown y3
  have m4 := cell_regrown y4
  have m5 := cell_regrown y5
  have m6 := cell_regrown y6
  clear y0 y1 y2 y3 y4 y5 y6
  refine wp_region_quiet_below (by kernel_rfl) (by kernel_rfl) ?_
  repeat (quiet_step (first | exact cS _ _ | exact cG _ _))
  refine wpQuiet_nil ?_
  intro W1 hw1
  obtain ⟨⟨dq, osq⟩, hw1'⟩ := hw1
  have b1 : Below W0.heap.size W0 W1 := by rw [hw1']; exact below_regrown W0 dq osq
  have B1 : Hid (Below w.heap.size w W1) := Lib.hid (B0.trans (b1.mono B0.size))
  have HB1 := Lib.hid (HB0.out.keep b1)
  have HS1 := Lib.hid (HS0.out.keep b1)
  clear m0 m1 m2 m3 m4 m5 m6 cS cG hw1' b1 HB0 HS0 B0
  by_cases hq : q = 0
  · have eq0 : (q == 0) = true := by simpa using hq
    have HE : Hid (graphic x a r = ⟨x, -1, 17⟩) := Lib.hid (by rw [HG0.out, if_pos hq])
    have ⟨y0, y1, y2, y3, y4, y5, y6⟩ := HB1.out.cells
    have ⟨r0, r1, r2, r3, r4, r5, r6⟩ := HS1.out.cells
    have ⟨z0, z1, z2, z3, z4, z5, z6⟩ := HS1.out.thaw
    simp only [zeroSt] at r0 r1 r2 r3 r4 r5 r6
    have hl : w.heap.size + 1 < W1.heap.size := HS1.out.lt
    go_wp2
    exact st_ret3 (y := x) rfl rfl rfl rfl (HS1.out.put x) Tryz.underlying39 rfl (by kernel_rfl) rfl ⟨by rw [HE.out], below_putSt B1.out (Nat.le_succ _) x⟩
  have eq0 : (q == 0) = false := by rw [beq_eq_false_iff_ne]; exact hq
  go_wp2_with fail
  refine (spec_l02Set q W1).mono ?_
  rintro e W2 ⟨yg, rfl, hyg, hblk, b2⟩
  clear hyg hblk
  have B2 : Hid (Below w.heap.size w W2) := Lib.hid (B1.out.trans (b2.mono B1.out.size))
  have HB2 := Lib.hid (HB1.out.keep b2)
  have HS2 := Lib.hid (HS1.out.keep b2)
  clear b2 HB1 HS1 B1
  unfold setV
  have F1 := setField1
  by_cases hk3 : setKind q = 3
  · have K3 := Lib.hid hk3
    rw [hk3]
    clear hk3
    have HI := Lib.hid (fun w => spec_l01In a 33 126 w)
    cases r
    · by_cases d0 : x.d = 0
      · have HW : Hid (¬ (0 < x.d ∧ decide (128 < x.d) ≠ false)) := Lib.hid (fun h => by omega)
        have v1 : ¬ 0 < x.d := by omega
        have ⟨y0, y1, y2, y3, y4, y5, y6⟩ := HB2.out.cells
        rw [d0] at y6
        cases hin : inB a 33 126
        · have HE : Hid (graphic x a false = ⟨⟨x.g0, x.g1, x.g2, x.g3, x.l, x.s, 0⟩, -1, 12⟩) := Lib.hid (by rw [HG0.out, if_neg hq, if_pos K3.out, if_neg HW.out, if_pos hin]; exact congrArg (fun y => Stp.mk y (-1) 12) (st_eta0 d0))
          rw [hin] at HI
          clear d0 v1
          go_wp2_with fail
          refine (HI.out W2).mono ?_
          rintro e w3 ⟨rfl, rfl⟩
          have ⟨r0, r1, r2, r3, r4, r5, r6⟩ := HS2.out.cells
          have ⟨z0, z1, z2, z3, z4, z5, z6⟩ := HS2.out.thaw
          simp only [zeroSt] at r0 r1 r2 r3 r4 r5 r6
          have hl : w.heap.size + 1 < W2.heap.size := HS2.out.lt
          go_wp2
          exact st_ret3 (y := ⟨x.g0, x.g1, x.g2, x.g3, x.l, x.s, 0⟩) rfl rfl rfl rfl (HS2.out.put ⟨x.g0, x.g1, x.g2, x.g3, x.l, x.s, 0⟩) Tryz.underlying39 rfl (by kernel_rfl) rfl ⟨by rw [HE.out], below_putSt B2.out (Nat.le_succ _) ⟨x.g0, x.g1, x.g2, x.g3, x.l, x.s, 0⟩⟩
        · have HE : Hid (graphic x a false = ⟨⟨x.g0, x.g1, x.g2, x.g3, x.l, x.s, a⟩, -1, 0⟩) := Lib.hid (by rw [HG0.out, if_neg hq, if_pos K3.out, if_neg HW.out, if_neg (by rw [hin]; decide), if_pos d0]; simp [sideNo])
          have ua : IntKind.i64.wrap (a) = a := IntWalk.i64_in _ (by omega)
          rw [hin] at HI
          clear d0 v1
          go_wp2_with fail
          refine (HI.out W2).mono ?_
          rintro e w3 ⟨rfl, rfl⟩
          have ⟨q0, q1, q2, q3, q4, q5, q6⟩ := HB2.out.thaw
          have hl6 : w.heap.size < W2.heap.size := HB2.out.lt
          have HS3 : Hid (StAt (W2.setCell ⟨w.heap.size, 6, none⟩ (.int .i64 (a))) (w.heap.size + 1) zeroSt) := Lib.hid (by
            unfold StAt
            rw [Below.heap_setCell _ _ _ _ (by simp)]
            exact HS2.out)
          have B3 : Hid (Below w.heap.size w (W2.setCell ⟨w.heap.size, 6, none⟩ (.int .i64 (a)))) := Lib.hid (B2.out.setCell (Nat.le_refl _) _)
          have ⟨r0, r1, r2, r3, r4, r5, r6⟩ := HS2.out.cells
          have ⟨z0, z1, z2, z3, z4, z5, z6⟩ := HS2.out.thaw
          simp only [zeroSt] at r0 r1 r2 r3 r4 r5 r6
          have hl : w.heap.size + 1 < W2.heap.size := HS2.out.lt
          go_wp2
          exact st_ret3 (y := ⟨x.g0, x.g1, x.g2, x.g3, x.l, x.s, a⟩) rfl rfl rfl rfl (HS3.out.put ⟨x.g0, x.g1, x.g2, x.g3, x.l, x.s, a⟩) Tryz.underlying39 rfl (by kernel_rfl) rfl ⟨by rw [HE.out], below_putSt B3.out (Nat.le_succ _) ⟨x.g0, x.g1, x.g2, x.g3, x.l, x.s, a⟩⟩
      have v0 : 0 < x.d := by omega
      cases v2 : decide (128 < x.d) == true
      · have v2' : decide (128 < x.d) = false := by cases h : decide (128 < x.d) <;> rw [h] at v2 <;> first | rfl | cases v2
        have HW : Hid (¬ (0 < x.d ∧ decide (128 < x.d) ≠ false)) := Lib.hid (fun h => h.2 v2')
        clear v2
        cases hin : inB a 33 126
        · have HE : Hid (graphic x a false = ⟨x, -1, 12⟩) := Lib.hid (by rw [HG0.out, if_neg hq, if_pos K3.out, if_neg HW.out, if_pos hin])
          rw [hin] at HI
          have ⟨y0, y1, y2, y3, y4, y5, y6⟩ := HB2.out.cells
          go_wp2_with fail
          refine (HI.out W2).mono ?_
          rintro e w3 ⟨rfl, rfl⟩
          clear y0 y1 y2 y3 y4 y5 y6
          have ⟨y0, y1, y2, y3, y4, y5, y6⟩ := HB2.out.cells
          have ⟨r0, r1, r2, r3, r4, r5, r6⟩ := HS2.out.cells
          have ⟨z0, z1, z2, z3, z4, z5, z6⟩ := HS2.out.thaw
          simp only [zeroSt] at r0 r1 r2 r3 r4 r5 r6
          have hl : w.heap.size + 1 < W2.heap.size := HS2.out.lt
          go_wp2
          exact st_ret3 (y := x) rfl rfl rfl rfl (HS2.out.put x) Tryz.underlying39 rfl (by kernel_rfl) rfl ⟨by rw [HE.out], below_putSt B2.out (Nat.le_succ _) x⟩
        · have ⟨a0, a1⟩ := inB_true hin
          rw [hin] at HI
          have e0 : (x.d == 0) = false := by rw [beq_eq_false_iff_ne]; exact d0
          have u1 : IntKind.i64.wrap x.d = x.d := IntWalk.i64_in _ (by omega)
          have u2 : IntKind.i64.wrap (x.d * 256) = x.d * 256 := IntWalk.i64_in _ (by omega)
          have u3 : IntKind.i64.wrap (a + x.d * 256) = a + x.d * 256 := IntWalk.i64_in _ (by omega)
          have hA0 : 0 ≤ a + x.d * 256 := by omega
          have hA1 : a + x.d * 256 ≤ 9223372036854775807 := by omega
          have HU : Hid (graphic x a false = gLast x q (a + x.d * 256)) := Lib.hid (by rw [HG0.out, if_neg hq, if_pos K3.out, if_neg HW.out, if_neg (by rw [hin]; decide), if_neg d0]; simp [sideNo])
          have ⟨y0, y1, y2, y3, y4, y5, y6⟩ := HB2.out.cells
          go_wp2_with fail
          refine (HI.out W2).mono ?_
          rintro e w3 ⟨rfl, rfl⟩
          clear y0 y1 y2 y3 y4 y5 y6
          have ⟨y0, y1, y2, y3, y4, y5, y6⟩ := HB2.out.cells
          have HK := Lib.hid (fun w => spec_l02Code 3 (a + x.d * 256) w hA0 hA1)
          have HN := Lib.hid (fun w => spec_l02Rune q (a + x.d * 256) w)
          have HQ : Hid (gLast x q (a + x.d * 256) = if kindB 3 (a + x.d * 256) = true ∧ 0 ≤ runeS (setSpans q) (a + x.d * 256) then ⟨⟨x.g0, x.g1, x.g2, x.g3, x.l, 0, 0⟩, runeS (setSpans q) (a + x.d * 256), 0⟩ else ⟨x, -1, 12⟩) := Lib.hid (by rw [gLast, K3.out])
          clear hA0 hA1
          generalize kindB 3 (a + x.d * 256) = kb at *
          generalize runeS (setSpans q) (a + x.d * 256) = rv at *
          go_wp2_with fail
          refine (HK.out W2).mono ?_
          rintro e w5 ⟨rfl, rfl⟩
          clear y0 y1 y2 y3 y4 y5 y6
          cases kb
          · have HE : Hid (graphic x a false = ⟨x, -1, 12⟩) := Lib.hid (by rw [HU.out, HQ.out, if_neg (fun h => by cases h.1)])
            have ⟨y0, y1, y2, y3, y4, y5, y6⟩ := HB2.out.cells
            have ⟨r0, r1, r2, r3, r4, r5, r6⟩ := HS2.out.cells
            have ⟨z0, z1, z2, z3, z4, z5, z6⟩ := HS2.out.thaw
            simp only [zeroSt] at r0 r1 r2 r3 r4 r5 r6
            have hl : w.heap.size + 1 < W2.heap.size := HS2.out.lt
            go_wp2
            exact st_ret3 (y := x) rfl rfl rfl rfl (HS2.out.put x) Tryz.underlying39 rfl (by kernel_rfl) rfl ⟨by rw [HE.out], below_putSt B2.out (Nat.le_succ _) x⟩
          · go_wp2_with fail
            refine (HN.out W2).mono ?_
            rintro e W6 ⟨rfl, b6⟩
            have B6 : Hid (Below w.heap.size w W6) := Lib.hid (B2.out.trans (b6.mono B2.out.size))
            have HB6 := Lib.hid (HB2.out.keep b6)
            have HS6 := Lib.hid (HS2.out.keep b6)
            clear b6
            by_cases hr : rv < 0
            · have HE : Hid (graphic x a false = ⟨x, -1, 12⟩) := Lib.hid (by rw [HU.out, HQ.out, if_neg (fun h => by omega)])
              have ⟨y0, y1, y2, y3, y4, y5, y6⟩ := HB6.out.cells
              have ⟨r0, r1, r2, r3, r4, r5, r6⟩ := HS6.out.cells
              have ⟨z0, z1, z2, z3, z4, z5, z6⟩ := HS6.out.thaw
              simp only [zeroSt] at r0 r1 r2 r3 r4 r5 r6
              have hl : w.heap.size + 1 < W6.heap.size := HS6.out.lt
              go_wp2
              exact st_ret3 (y := x) rfl rfl rfl rfl (HS6.out.put x) Tryz.underlying39 rfl (by kernel_rfl) rfl ⟨by rw [HE.out], below_putSt B6.out (Nat.le_succ _) x⟩
            · have HE : Hid (graphic x a false = ⟨⟨x.g0, x.g1, x.g2, x.g3, x.l, 0, 0⟩, rv, 0⟩) := Lib.hid (by rw [HU.out, HQ.out, if_pos ⟨by trivial, by omega⟩])
              have ⟨y0, y1, y2, y3, y4, y5, y6⟩ := HB6.out.cells
              have ⟨q0, q1, q2, q3, q4, q5, q6⟩ := HB6.out.thaw
              have hl6 : w.heap.size < W6.heap.size := HB6.out.lt
              go_wp2
              have HB7 : Hid (StAt ((W6.setCell ⟨w.heap.size, 5, none⟩ (.int .i64 0)).setCell ⟨w.heap.size, 6, none⟩ (.int .i64 0)) w.heap.size ⟨x.g0, x.g1, x.g2, x.g3, x.l, 0, 0⟩) := Lib.hid (heap_setCell_same _ _ 6 _ _ (.int .i64 0) (heap_setCell_same _ _ 5 _ _ (.int .i64 0) HB6.out))
              have HS7 : Hid (StAt ((W6.setCell ⟨w.heap.size, 5, none⟩ (.int .i64 0)).setCell ⟨w.heap.size, 6, none⟩ (.int .i64 0)) (w.heap.size + 1) zeroSt) := Lib.hid (by
                unfold StAt
                rw [Below.heap_setCell _ _ _ _ (by simp), Below.heap_setCell _ _ _ _ (by simp)]
                exact HS6.out)
              have B7 : Hid (Below w.heap.size w ((W6.setCell ⟨w.heap.size, 5, none⟩ (.int .i64 0)).setCell ⟨w.heap.size, 6, none⟩ (.int .i64 0))) := Lib.hid ((B6.out.setCell (Nat.le_refl _) _).setCell (Nat.le_refl _) _)
              clear y0 y1 y2 y3 y4 y5 y6 q0 q1 q2 q3 q4 q5 q6 hl6
              generalize (W6.setCell ⟨w.heap.size, 5, none⟩ (.int .i64 0)).setCell ⟨w.heap.size, 6, none⟩ (.int .i64 0) = W7 at *
              have ⟨y0, y1, y2, y3, y4, y5, y6⟩ := HB7.out.cells
              dsimp only at y0 y1 y2 y3 y4 y5 y6
              go_region_with ((go_at_call 182; refine (HN.out _).mono ?_; rintro e W8 ⟨rfl, b8⟩; have b78 : Below W7.heap.size W7 W8 := bel_drew b8; have ⟨p0, p1, p2, p3, p4, p5, p6⟩ := (HB7.out.keep b78).cells; have HS8 := Lib.hid (HS7.out.keep b78); have B8 : Hid (Below w.heap.size w W8) := Lib.hid (B7.out.trans (b78.mono B7.out.size)); have ⟨r0, r1, r2, r3, r4, r5, r6⟩ := HS8.out.cells; have ⟨z0, z1, z2, z3, z4, z5, z6⟩ := HS8.out.thaw; simp only [zeroSt] at r0 r1 r2 r3 r4 r5 r6; dsimp only at p0 p1 p2 p3 p4 p5 p6; have hl : w.heap.size + 1 < W8.heap.size := HS8.out.lt; clear b8 b78))
              all_goals
                go_wp2
                exact st_ret3 (y := ⟨x.g0, x.g1, x.g2, x.g3, x.l, 0, 0⟩) rfl rfl rfl rfl (HS8.out.put ⟨x.g0, x.g1, x.g2, x.g3, x.l, 0, 0⟩) Tryz.underlying39 rfl (by kernel_rfl) rfl ⟨by rw [HE.out], below_putSt B8.out (Nat.le_succ _) ⟨x.g0, x.g1, x.g2, x.g3, x.l, 0, 0⟩⟩
      · have v2' : decide (128 < x.d) = true := by cases h : decide (128 < x.d) <;> rw [h] at v2 <;> first | rfl | cases v2
        have HE : Hid (graphic x a false = ⟨x, -1, 13⟩) := Lib.hid (by rw [HG0.out, if_neg hq, if_pos K3.out, if_pos ⟨v0, by rw [v2']; decide⟩])
        clear v2
        have ⟨y0, y1, y2, y3, y4, y5, y6⟩ := HB2.out.cells
        have ⟨r0, r1, r2, r3, r4, r5, r6⟩ := HS2.out.cells
        have ⟨z0, z1, z2, z3, z4, z5, z6⟩ := HS2.out.thaw
        simp only [zeroSt] at r0 r1 r2 r3 r4 r5 r6
        have hl : w.heap.size + 1 < W2.heap.size := HS2.out.lt
        go_wp2
        exact st_ret3 (y := x) rfl rfl rfl rfl (HS2.out.put x) Tryz.underlying39 rfl (by kernel_rfl) rfl ⟨by rw [HE.out], below_putSt B2.out (Nat.le_succ _) x⟩
    · by_cases d0 : x.d = 0
      · have HW : Hid (¬ (0 < x.d ∧ decide (128 < x.d) ≠ true)) := Lib.hid (fun h => by omega)
        have v1 : ¬ 0 < x.d := by omega
        have ⟨y0, y1, y2, y3, y4, y5, y6⟩ := HB2.out.cells
        rw [d0] at y6
        cases hin : inB a 33 126
        · have HE : Hid (graphic x a true = ⟨⟨x.g0, x.g1, x.g2, x.g3, x.l, x.s, 0⟩, -1, 12⟩) := Lib.hid (by rw [HG0.out, if_neg hq, if_pos K3.out, if_neg HW.out, if_pos hin]; exact congrArg (fun y => Stp.mk y (-1) 12) (st_eta0 d0))
          rw [hin] at HI
          clear d0 v1
          go_wp2_with fail
          refine (HI.out W2).mono ?_
          rintro e w3 ⟨rfl, rfl⟩
          have ⟨r0, r1, r2, r3, r4, r5, r6⟩ := HS2.out.cells
          have ⟨z0, z1, z2, z3, z4, z5, z6⟩ := HS2.out.thaw
          simp only [zeroSt] at r0 r1 r2 r3 r4 r5 r6
          have hl : w.heap.size + 1 < W2.heap.size := HS2.out.lt
          go_wp2
          exact st_ret3 (y := ⟨x.g0, x.g1, x.g2, x.g3, x.l, x.s, 0⟩) rfl rfl rfl rfl (HS2.out.put ⟨x.g0, x.g1, x.g2, x.g3, x.l, x.s, 0⟩) Tryz.underlying39 rfl (by kernel_rfl) rfl ⟨by rw [HE.out], below_putSt B2.out (Nat.le_succ _) ⟨x.g0, x.g1, x.g2, x.g3, x.l, x.s, 0⟩⟩
        · have HE : Hid (graphic x a true = ⟨⟨x.g0, x.g1, x.g2, x.g3, x.l, x.s, a + 128⟩, -1, 0⟩) := Lib.hid (by rw [HG0.out, if_neg hq, if_pos K3.out, if_neg HW.out, if_neg (by rw [hin]; decide), if_pos d0]; rfl)
          have ua : IntKind.i64.wrap (a + 128) = a + 128 := IntWalk.i64_in _ (by omega)
          rw [hin] at HI
          clear d0 v1
          go_wp2_with fail
          refine (HI.out W2).mono ?_
          rintro e w3 ⟨rfl, rfl⟩
          have ⟨q0, q1, q2, q3, q4, q5, q6⟩ := HB2.out.thaw
          have hl6 : w.heap.size < W2.heap.size := HB2.out.lt
          have HS3 : Hid (StAt (W2.setCell ⟨w.heap.size, 6, none⟩ (.int .i64 (a + 128))) (w.heap.size + 1) zeroSt) := Lib.hid (by
            unfold StAt
            rw [Below.heap_setCell _ _ _ _ (by simp)]
            exact HS2.out)
          have B3 : Hid (Below w.heap.size w (W2.setCell ⟨w.heap.size, 6, none⟩ (.int .i64 (a + 128)))) := Lib.hid (B2.out.setCell (Nat.le_refl _) _)
          have ⟨r0, r1, r2, r3, r4, r5, r6⟩ := HS2.out.cells
          have ⟨z0, z1, z2, z3, z4, z5, z6⟩ := HS2.out.thaw
          simp only [zeroSt] at r0 r1 r2 r3 r4 r5 r6
          have hl : w.heap.size + 1 < W2.heap.size := HS2.out.lt
          go_wp2
          exact st_ret3 (y := ⟨x.g0, x.g1, x.g2, x.g3, x.l, x.s, a + 128⟩) rfl rfl rfl rfl (HS3.out.put ⟨x.g0, x.g1, x.g2, x.g3, x.l, x.s, a + 128⟩) Tryz.underlying39 rfl (by kernel_rfl) rfl ⟨by rw [HE.out], below_putSt B3.out (Nat.le_succ _) ⟨x.g0, x.g1, x.g2, x.g3, x.l, x.s, a + 128⟩⟩
      have v0 : 0 < x.d := by omega
      cases v2 : decide (128 < x.d) == false
      · have v2' : decide (128 < x.d) = true := by cases h : decide (128 < x.d) <;> rw [h] at v2 <;> first | rfl | cases v2
        have HW : Hid (¬ (0 < x.d ∧ decide (128 < x.d) ≠ true)) := Lib.hid (fun h => h.2 v2')
        clear v2
        cases hin : inB a 33 126
        · have HE : Hid (graphic x a true = ⟨x, -1, 12⟩) := Lib.hid (by rw [HG0.out, if_neg hq, if_pos K3.out, if_neg HW.out, if_pos hin])
          rw [hin] at HI
          have ⟨y0, y1, y2, y3, y4, y5, y6⟩ := HB2.out.cells
          go_wp2_with fail
          refine (HI.out W2).mono ?_
          rintro e w3 ⟨rfl, rfl⟩
          clear y0 y1 y2 y3 y4 y5 y6
          have ⟨y0, y1, y2, y3, y4, y5, y6⟩ := HB2.out.cells
          have ⟨r0, r1, r2, r3, r4, r5, r6⟩ := HS2.out.cells
          have ⟨z0, z1, z2, z3, z4, z5, z6⟩ := HS2.out.thaw
          simp only [zeroSt] at r0 r1 r2 r3 r4 r5 r6
          have hl : w.heap.size + 1 < W2.heap.size := HS2.out.lt
          go_wp2
          exact st_ret3 (y := x) rfl rfl rfl rfl (HS2.out.put x) Tryz.underlying39 rfl (by kernel_rfl) rfl ⟨by rw [HE.out], below_putSt B2.out (Nat.le_succ _) x⟩
        · have ⟨a0, a1⟩ := inB_true hin
          rw [hin] at HI
          have e0 : (x.d == 0) = false := by rw [beq_eq_false_iff_ne]; exact d0
          have u1 : IntKind.i64.wrap (x.d - 128) = x.d - 128 := IntWalk.i64_in _ (by omega)
          have u2 : IntKind.i64.wrap ((x.d - 128) * 256) = (x.d - 128) * 256 := IntWalk.i64_in _ (by omega)
          have u3 : IntKind.i64.wrap (a + (x.d - 128) * 256) = a + (x.d - 128) * 256 := IntWalk.i64_in _ (by omega)
          have hA0 : 0 ≤ a + (x.d - 128) * 256 := by have := of_decide_eq_true v2'; omega
          have hA1 : a + (x.d - 128) * 256 ≤ 9223372036854775807 := by omega
          have HU : Hid (graphic x a true = gLast x q (a + (x.d - 128) * 256)) := Lib.hid (by rw [HG0.out, if_neg hq, if_pos K3.out, if_neg HW.out, if_neg (by rw [hin]; decide), if_neg d0]; rfl)
          have ⟨y0, y1, y2, y3, y4, y5, y6⟩ := HB2.out.cells
          go_wp2_with fail
          refine (HI.out W2).mono ?_
          rintro e w3 ⟨rfl, rfl⟩
          clear y0 y1 y2 y3 y4 y5 y6
          have ⟨y0, y1, y2, y3, y4, y5, y6⟩ := HB2.out.cells
          have HK := Lib.hid (fun w => spec_l02Code 3 (a + (x.d - 128) * 256) w hA0 hA1)
          have HN := Lib.hid (fun w => spec_l02Rune q (a + (x.d - 128) * 256) w)
          have HQ : Hid (gLast x q (a + (x.d - 128) * 256) = if kindB 3 (a + (x.d - 128) * 256) = true ∧ 0 ≤ runeS (setSpans q) (a + (x.d - 128) * 256) then ⟨⟨x.g0, x.g1, x.g2, x.g3, x.l, 0, 0⟩, runeS (setSpans q) (a + (x.d - 128) * 256), 0⟩ else ⟨x, -1, 12⟩) := Lib.hid (by rw [gLast, K3.out])
          clear hA0 hA1
          generalize kindB 3 (a + (x.d - 128) * 256) = kb at *
          generalize runeS (setSpans q) (a + (x.d - 128) * 256) = rv at *
          go_wp2_with fail
          refine (HK.out W2).mono ?_
          rintro e w5 ⟨rfl, rfl⟩
          clear y0 y1 y2 y3 y4 y5 y6
          cases kb
          · have HE : Hid (graphic x a true = ⟨x, -1, 12⟩) := Lib.hid (by rw [HU.out, HQ.out, if_neg (fun h => by cases h.1)])
            have ⟨y0, y1, y2, y3, y4, y5, y6⟩ := HB2.out.cells
            have ⟨r0, r1, r2, r3, r4, r5, r6⟩ := HS2.out.cells
            have ⟨z0, z1, z2, z3, z4, z5, z6⟩ := HS2.out.thaw
            simp only [zeroSt] at r0 r1 r2 r3 r4 r5 r6
            have hl : w.heap.size + 1 < W2.heap.size := HS2.out.lt
            go_wp2
            exact st_ret3 (y := x) rfl rfl rfl rfl (HS2.out.put x) Tryz.underlying39 rfl (by kernel_rfl) rfl ⟨by rw [HE.out], below_putSt B2.out (Nat.le_succ _) x⟩
          · go_wp2_with fail
            refine (HN.out W2).mono ?_
            rintro e W6 ⟨rfl, b6⟩
            have B6 : Hid (Below w.heap.size w W6) := Lib.hid (B2.out.trans (b6.mono B2.out.size))
            have HB6 := Lib.hid (HB2.out.keep b6)
            have HS6 := Lib.hid (HS2.out.keep b6)
            clear b6
            by_cases hr : rv < 0
            · have HE : Hid (graphic x a true = ⟨x, -1, 12⟩) := Lib.hid (by rw [HU.out, HQ.out, if_neg (fun h => by omega)])
              have ⟨y0, y1, y2, y3, y4, y5, y6⟩ := HB6.out.cells
              have ⟨r0, r1, r2, r3, r4, r5, r6⟩ := HS6.out.cells
              have ⟨z0, z1, z2, z3, z4, z5, z6⟩ := HS6.out.thaw
              simp only [zeroSt] at r0 r1 r2 r3 r4 r5 r6
              have hl : w.heap.size + 1 < W6.heap.size := HS6.out.lt
              go_wp2
              exact st_ret3 (y := x) rfl rfl rfl rfl (HS6.out.put x) Tryz.underlying39 rfl (by kernel_rfl) rfl ⟨by rw [HE.out], below_putSt B6.out (Nat.le_succ _) x⟩
            · have HE : Hid (graphic x a true = ⟨⟨x.g0, x.g1, x.g2, x.g3, x.l, 0, 0⟩, rv, 0⟩) := Lib.hid (by rw [HU.out, HQ.out, if_pos ⟨by trivial, by omega⟩])
              have ⟨y0, y1, y2, y3, y4, y5, y6⟩ := HB6.out.cells
              have ⟨q0, q1, q2, q3, q4, q5, q6⟩ := HB6.out.thaw
              have hl6 : w.heap.size < W6.heap.size := HB6.out.lt
              go_wp2
              have HB7 : Hid (StAt ((W6.setCell ⟨w.heap.size, 5, none⟩ (.int .i64 0)).setCell ⟨w.heap.size, 6, none⟩ (.int .i64 0)) w.heap.size ⟨x.g0, x.g1, x.g2, x.g3, x.l, 0, 0⟩) := Lib.hid (heap_setCell_same _ _ 6 _ _ (.int .i64 0) (heap_setCell_same _ _ 5 _ _ (.int .i64 0) HB6.out))
              have HS7 : Hid (StAt ((W6.setCell ⟨w.heap.size, 5, none⟩ (.int .i64 0)).setCell ⟨w.heap.size, 6, none⟩ (.int .i64 0)) (w.heap.size + 1) zeroSt) := Lib.hid (by
                unfold StAt
                rw [Below.heap_setCell _ _ _ _ (by simp), Below.heap_setCell _ _ _ _ (by simp)]
                exact HS6.out)
              have B7 : Hid (Below w.heap.size w ((W6.setCell ⟨w.heap.size, 5, none⟩ (.int .i64 0)).setCell ⟨w.heap.size, 6, none⟩ (.int .i64 0))) := Lib.hid ((B6.out.setCell (Nat.le_refl _) _).setCell (Nat.le_refl _) _)
              clear y0 y1 y2 y3 y4 y5 y6 q0 q1 q2 q3 q4 q5 q6 hl6
              generalize (W6.setCell ⟨w.heap.size, 5, none⟩ (.int .i64 0)).setCell ⟨w.heap.size, 6, none⟩ (.int .i64 0) = W7 at *
              have ⟨y0, y1, y2, y3, y4, y5, y6⟩ := HB7.out.cells
              dsimp only at y0 y1 y2 y3 y4 y5 y6
              go_region_with ((go_at_call 182; refine (HN.out _).mono ?_; rintro e W8 ⟨rfl, b8⟩; have b78 : Below W7.heap.size W7 W8 := bel_drew b8; have ⟨p0, p1, p2, p3, p4, p5, p6⟩ := (HB7.out.keep b78).cells; have HS8 := Lib.hid (HS7.out.keep b78); have B8 : Hid (Below w.heap.size w W8) := Lib.hid (B7.out.trans (b78.mono B7.out.size)); have ⟨r0, r1, r2, r3, r4, r5, r6⟩ := HS8.out.cells; have ⟨z0, z1, z2, z3, z4, z5, z6⟩ := HS8.out.thaw; simp only [zeroSt] at r0 r1 r2 r3 r4 r5 r6; dsimp only at p0 p1 p2 p3 p4 p5 p6; have hl : w.heap.size + 1 < W8.heap.size := HS8.out.lt; clear b8 b78))
              all_goals
                go_wp2
                exact st_ret3 (y := ⟨x.g0, x.g1, x.g2, x.g3, x.l, 0, 0⟩) rfl rfl rfl rfl (HS8.out.put ⟨x.g0, x.g1, x.g2, x.g3, x.l, 0, 0⟩) Tryz.underlying39 rfl (by kernel_rfl) rfl ⟨by rw [HE.out], below_putSt B8.out (Nat.le_succ _) ⟨x.g0, x.g1, x.g2, x.g3, x.l, 0, 0⟩⟩
      · have v2' : decide (128 < x.d) = false := by cases h : decide (128 < x.d) <;> rw [h] at v2 <;> first | rfl | cases v2
        have HE : Hid (graphic x a true = ⟨x, -1, 13⟩) := Lib.hid (by rw [HG0.out, if_neg hq, if_pos K3.out, if_pos ⟨v0, by rw [v2']; decide⟩])
        clear v2
        have ⟨y0, y1, y2, y3, y4, y5, y6⟩ := HB2.out.cells
        have ⟨r0, r1, r2, r3, r4, r5, r6⟩ := HS2.out.cells
        have ⟨z0, z1, z2, z3, z4, z5, z6⟩ := HS2.out.thaw
        simp only [zeroSt] at r0 r1 r2 r3 r4 r5 r6
        have hl : w.heap.size + 1 < W2.heap.size := HS2.out.lt
        go_wp2
        exact st_ret3 (y := x) rfl rfl rfl rfl (HS2.out.put x) Tryz.underlying39 rfl (by kernel_rfl) rfl ⟨by rw [HE.out], below_putSt B2.out (Nat.le_succ _) x⟩
  · have ek : (setKind q == 3) = false := by rw [beq_eq_false_iff_ne]; exact hk3
    have hA0 : 0 ≤ a := ha0
    have hA1 : a ≤ 9223372036854775807 := by omega
    generalize hkd : setKind q = kd at *
    have HKD := Lib.hid hkd
    clear hkd
    have HU : Hid (graphic x a r = gLast x q (a)) := Lib.hid (by rw [HG0.out, if_neg hq, if_neg hk3])
    have HK := Lib.hid (fun w => spec_l02Code kd (a) w hA0 hA1)
    have HN := Lib.hid (fun w => spec_l02Rune q (a) w)
    have HQ : Hid (gLast x q (a) = if kindB (kd) (a) = true ∧ 0 ≤ runeS (setSpans q) (a) then ⟨⟨x.g0, x.g1, x.g2, x.g3, x.l, 0, 0⟩, runeS (setSpans q) (a), 0⟩ else ⟨x, -1, 12⟩) := Lib.hid (by rw [gLast, HKD.out])
    clear hA0 hA1
    generalize kindB (kd) (a) = kb at *
    generalize runeS (setSpans q) (a) = rv at *
    go_wp2_with fail
    refine (HK.out W2).mono ?_
    rintro e w5 ⟨rfl, rfl⟩
    cases kb
    · have HE : Hid (graphic x a r = ⟨x, -1, 12⟩) := Lib.hid (by rw [HU.out, HQ.out, if_neg (fun h => by cases h.1)])
      have ⟨y0, y1, y2, y3, y4, y5, y6⟩ := HB2.out.cells
      have ⟨r0, r1, r2, r3, r4, r5, r6⟩ := HS2.out.cells
      have ⟨z0, z1, z2, z3, z4, z5, z6⟩ := HS2.out.thaw
      simp only [zeroSt] at r0 r1 r2 r3 r4 r5 r6
      have hl : w.heap.size + 1 < W2.heap.size := HS2.out.lt
      go_wp2
      exact st_ret3 (y := x) rfl rfl rfl rfl (HS2.out.put x) Tryz.underlying39 rfl (by kernel_rfl) rfl ⟨by rw [HE.out], below_putSt B2.out (Nat.le_succ _) x⟩
    · go_wp2_with fail
      refine (HN.out W2).mono ?_
      rintro e W6 ⟨rfl, b6⟩
      have B6 : Hid (Below w.heap.size w W6) := Lib.hid (B2.out.trans (b6.mono B2.out.size))
      have HB6 := Lib.hid (HB2.out.keep b6)
      have HS6 := Lib.hid (HS2.out.keep b6)
      clear b6
      by_cases hr : rv < 0
      · have HE : Hid (graphic x a r = ⟨x, -1, 12⟩) := Lib.hid (by rw [HU.out, HQ.out, if_neg (fun h => by omega)])
        have ⟨y0, y1, y2, y3, y4, y5, y6⟩ := HB6.out.cells
        have ⟨r0, r1, r2, r3, r4, r5, r6⟩ := HS6.out.cells
        have ⟨z0, z1, z2, z3, z4, z5, z6⟩ := HS6.out.thaw
        simp only [zeroSt] at r0 r1 r2 r3 r4 r5 r6
        have hl : w.heap.size + 1 < W6.heap.size := HS6.out.lt
        go_wp2
        exact st_ret3 (y := x) rfl rfl rfl rfl (HS6.out.put x) Tryz.underlying39 rfl (by kernel_rfl) rfl ⟨by rw [HE.out], below_putSt B6.out (Nat.le_succ _) x⟩
      · have HE : Hid (graphic x a r = ⟨⟨x.g0, x.g1, x.g2, x.g3, x.l, 0, 0⟩, rv, 0⟩) := Lib.hid (by rw [HU.out, HQ.out, if_pos ⟨by trivial, by omega⟩])
        have ⟨y0, y1, y2, y3, y4, y5, y6⟩ := HB6.out.cells
        have ⟨q0, q1, q2, q3, q4, q5, q6⟩ := HB6.out.thaw
        have hl6 : w.heap.size < W6.heap.size := HB6.out.lt
        go_wp2
        have HB7 : Hid (StAt ((W6.setCell ⟨w.heap.size, 5, none⟩ (.int .i64 0)).setCell ⟨w.heap.size, 6, none⟩ (.int .i64 0)) w.heap.size ⟨x.g0, x.g1, x.g2, x.g3, x.l, 0, 0⟩) := Lib.hid (heap_setCell_same _ _ 6 _ _ (.int .i64 0) (heap_setCell_same _ _ 5 _ _ (.int .i64 0) HB6.out))
        have HS7 : Hid (StAt ((W6.setCell ⟨w.heap.size, 5, none⟩ (.int .i64 0)).setCell ⟨w.heap.size, 6, none⟩ (.int .i64 0)) (w.heap.size + 1) zeroSt) := Lib.hid (by
          unfold StAt
          rw [Below.heap_setCell _ _ _ _ (by simp), Below.heap_setCell _ _ _ _ (by simp)]
          exact HS6.out)
        have B7 : Hid (Below w.heap.size w ((W6.setCell ⟨w.heap.size, 5, none⟩ (.int .i64 0)).setCell ⟨w.heap.size, 6, none⟩ (.int .i64 0))) := Lib.hid ((B6.out.setCell (Nat.le_refl _) _).setCell (Nat.le_refl _) _)
        clear y0 y1 y2 y3 y4 y5 y6 q0 q1 q2 q3 q4 q5 q6 hl6
        generalize (W6.setCell ⟨w.heap.size, 5, none⟩ (.int .i64 0)).setCell ⟨w.heap.size, 6, none⟩ (.int .i64 0) = W7 at *
        have ⟨y0, y1, y2, y3, y4, y5, y6⟩ := HB7.out.cells
        dsimp only at y0 y1 y2 y3 y4 y5 y6
        go_region_with ((go_at_call 182; refine (HN.out _).mono ?_; rintro e W8 ⟨rfl, b8⟩; have b78 : Below W7.heap.size W7 W8 := bel_drew b8; have ⟨p0, p1, p2, p3, p4, p5, p6⟩ := (HB7.out.keep b78).cells; have HS8 := Lib.hid (HS7.out.keep b78); have B8 : Hid (Below w.heap.size w W8) := Lib.hid (B7.out.trans (b78.mono B7.out.size)); have ⟨r0, r1, r2, r3, r4, r5, r6⟩ := HS8.out.cells; have ⟨z0, z1, z2, z3, z4, z5, z6⟩ := HS8.out.thaw; simp only [zeroSt] at r0 r1 r2 r3 r4 r5 r6; dsimp only at p0 p1 p2 p3 p4 p5 p6; have hl : w.heap.size + 1 < W8.heap.size := HS8.out.lt; clear b8 b78))
        all_goals
          go_wp2
          exact st_ret3 (y := ⟨x.g0, x.g1, x.g2, x.g3, x.l, 0, 0⟩) rfl rfl rfl rfl (HS8.out.put ⟨x.g0, x.g1, x.g2, x.g3, x.l, 0, 0⟩) Tryz.underlying39 rfl (by kernel_rfl) rfl ⟨by rw [HE.out], below_putSt B8.out (Nat.le_succ _) ⟨x.g0, x.g1, x.g2, x.g3, x.l, 0, 0⟩⟩

end Go.Proofs.YtbamjhldebobhaaGreatDoor

namespace Go.Proofs.YtbamjhldebobhaaGreatDoor
open Go.RowKit Go.Sort

theorem StAt.drew {w : World} {g : Nat} {x : St} (h : StAt w g x) : StAt w.drew g x := h

theorem step_blocks (w : World) (x : St) (t : Tok) : StAt (((w.alloc (.cells #[.int .i64 x.g0, .int .i64 x.g1, .int .i64 x.g2, .int .i64 x.g3, .int .i64 x.l, .int .i64 x.s, .int .i64 x.d] 39)).alloc (.cells #[.int .i64 t.k, .int .i64 t.a, .int .i64 t.b, .int .i64 t.c, .int .i64 t.p, .int .i64 t.n] 102)).alloc (.cells #[.int .i64 0, .int .i64 0, .int .i64 0, .int .i64 0, .int .i64 0, .int .i64 0, .int .i64 0] 39)) w.heap.size x ∧ TokAt (((w.alloc (.cells #[.int .i64 x.g0, .int .i64 x.g1, .int .i64 x.g2, .int .i64 x.g3, .int .i64 x.l, .int .i64 x.s, .int .i64 x.d] 39)).alloc (.cells #[.int .i64 t.k, .int .i64 t.a, .int .i64 t.b, .int .i64 t.c, .int .i64 t.p, .int .i64 t.n] 102)).alloc (.cells #[.int .i64 0, .int .i64 0, .int .i64 0, .int .i64 0, .int .i64 0, .int .i64 0, .int .i64 0] 39)) (w.heap.size + 1) t ∧ StAt (((w.alloc (.cells #[.int .i64 x.g0, .int .i64 x.g1, .int .i64 x.g2, .int .i64 x.g3, .int .i64 x.l, .int .i64 x.s, .int .i64 x.d] 39)).alloc (.cells #[.int .i64 t.k, .int .i64 t.a, .int .i64 t.b, .int .i64 t.c, .int .i64 t.p, .int .i64 t.n] 102)).alloc (.cells #[.int .i64 0, .int .i64 0, .int .i64 0, .int .i64 0, .int .i64 0, .int .i64 0, .int .i64 0] 39)) (w.heap.size + 2) zeroSt ∧ Below w.heap.size w (((w.alloc (.cells #[.int .i64 x.g0, .int .i64 x.g1, .int .i64 x.g2, .int .i64 x.g3, .int .i64 x.l, .int .i64 x.s, .int .i64 x.d] 39)).alloc (.cells #[.int .i64 t.k, .int .i64 t.a, .int .i64 t.b, .int .i64 t.c, .int .i64 t.p, .int .i64 t.n] 102)).alloc (.cells #[.int .i64 0, .int .i64 0, .int .i64 0, .int .i64 0, .int .i64 0, .int .i64 0, .int .i64 0] 39)) := by
  refine ⟨?_, ?_, ?_, below_three _ _ _ _⟩
  · exact ((below_one _ _).block _ (by simp; omega)).trans (heap_alloc2_old _ _ _)
  · exact ((below_one _ _).block _ (by simp)).trans (heap_alloc2_new _ _ _)
  · have := heap_alloc_new ((w.alloc (.cells #[.int .i64 x.g0, .int .i64 x.g1, .int .i64 x.g2, .int .i64 x.g3, .int .i64 x.l, .int .i64 x.s, .int .i64 x.d] 39)).alloc (.cells #[.int .i64 t.k, .int .i64 t.a, .int .i64 t.b, .int .i64 t.c, .int .i64 t.p, .int .i64 t.n] 102)) (.cells #[.int .i64 0, .int .i64 0, .int .i64 0, .int .i64 0, .int .i64 0, .int .i64 0, .int .i64 0] 39)
    simpa [StAt, zeroSt] using this

set_option maxHeartbeats 1000000 in
set_option maxRecDepth 100000 in
theorem spec_step3 (x : St) (a b c p n : Int) (w : World) (hx : stOKB x = true) (a0 : 0 ≤ a) (a1 : a ≤ 255) : Calls Tryz.prog 113 #[stV x, tokV ⟨3, a, b, c, p, n⟩] w (StpDone (stepT x ⟨3, a, b, c, p, n⟩) w) := by
  have ⟨h1, h2, h3⟩ := stOK_parts hx
  have ⟨d0, d1⟩ := lead_range h3
  have HG := Lib.hid (fun w => spec_l04Graphic x a false w h2 d0 d1 a0 a1)
  have HE : Hid (stepT x ⟨3, a, b, c, p, n⟩ = graphic x a false) := Lib.hid rfl
  clear hx h1 h2 h3 d0 d1 a0 a1
  generalize graphic x a false = g at *
  unfold StpDone stpV at HG
  unfold stV at HG ⊢
  have ⟨hB0, hT0, hS0, b0⟩ := step_blocks w x ⟨3, a, b, c, p, n⟩
  dsimp only at hB0 hT0 hS0 b0
  have HB0 := Lib.hid hB0
  have HT0 := Lib.hid hT0
  have HS0 := Lib.hid hS0
  have B0 := Lib.hid b0
  clear hB0 hT0 hS0 b0
  unfold tokV
  go_enter Tryz.func113, Tryz.ntmps113
  go_wp2_with fail
  refine (HG.out _).mono ?_
  generalize (((w.alloc (.cells #[.int .i64 x.g0, .int .i64 x.g1, .int .i64 x.g2, .int .i64 x.g3, .int .i64 x.l, .int .i64 x.s, .int .i64 x.d] 39)).alloc (.cells #[.int .i64 3, .int .i64 a, .int .i64 b, .int .i64 c, .int .i64 p, .int .i64 n] 102)).alloc (.cells #[.int .i64 0, .int .i64 0, .int .i64 0, .int .i64 0, .int .i64 0, .int .i64 0, .int .i64 0] 39)) = W0 at *
  rintro e W1 ⟨rfl, b1⟩
  have B1 : Hid (Below w.heap.size w W1) := Lib.hid (B0.out.trans (b1.mono B0.out.size))
  have HB1 := Lib.hid (HB0.out.keep b1)
  have HT1 := Lib.hid (HT0.out.keep b1)
  have HS1 := Lib.hid (HS0.out.keep b1)
  clear b1 HB0 HT0 HS0 B0
  have ⟨r0, r1, r2, r3, r4, r5, r6⟩ := HS1.out.cells
  have ⟨z0, z1, z2, z3, z4, z5, z6⟩ := HS1.out.thaw
  simp only [zeroSt] at r0 r1 r2 r3 r4 r5 r6
  have hl : w.heap.size + 2 < W1.heap.size := HS1.out.lt
  go_wp2
  exact st_ret3 (y := g.y) rfl rfl rfl rfl (HS1.out.put g.y) Tryz.underlying39 rfl (by kernel_rfl) rfl ⟨by rw [HE.out], below_putSt B1.out (by omega) g.y⟩

set_option maxHeartbeats 1000000 in
set_option maxRecDepth 100000 in
theorem spec_step4 (x : St) (a b c p n : Int) (w : World) (hx : stOKB x = true) (a0 : 0 ≤ a) (a1 : a ≤ 255) : Calls Tryz.prog 113 #[stV x, tokV ⟨4, a, b, c, p, n⟩] w (StpDone (stepT x ⟨4, a, b, c, p, n⟩) w) := by
  have ⟨h1, h2, h3⟩ := stOK_parts hx
  have ⟨d0, d1⟩ := lead_range h3
  have HG := Lib.hid (fun w => spec_l04Graphic x a true w h2 d0 d1 a0 a1)
  have HE : Hid (stepT x ⟨4, a, b, c, p, n⟩ = graphic x a true) := Lib.hid rfl
  clear hx h1 h2 h3 d0 d1 a0 a1
  generalize graphic x a true = g at *
  unfold StpDone stpV at HG
  unfold stV at HG ⊢
  have ⟨hB0, hT0, hS0, b0⟩ := step_blocks w x ⟨4, a, b, c, p, n⟩
  dsimp only at hB0 hT0 hS0 b0
  have HB0 := Lib.hid hB0
  have HT0 := Lib.hid hT0
  have HS0 := Lib.hid hS0
  have B0 := Lib.hid b0
  clear hB0 hT0 hS0 b0
  unfold tokV
  go_enter Tryz.func113, Tryz.ntmps113
  go_wp2_with fail
  refine (HG.out _).mono ?_
  generalize (((w.alloc (.cells #[.int .i64 x.g0, .int .i64 x.g1, .int .i64 x.g2, .int .i64 x.g3, .int .i64 x.l, .int .i64 x.s, .int .i64 x.d] 39)).alloc (.cells #[.int .i64 4, .int .i64 a, .int .i64 b, .int .i64 c, .int .i64 p, .int .i64 n] 102)).alloc (.cells #[.int .i64 0, .int .i64 0, .int .i64 0, .int .i64 0, .int .i64 0, .int .i64 0, .int .i64 0] 39)) = W0 at *
  rintro e W1 ⟨rfl, b1⟩
  have B1 : Hid (Below w.heap.size w W1) := Lib.hid (B0.out.trans (b1.mono B0.out.size))
  have HB1 := Lib.hid (HB0.out.keep b1)
  have HT1 := Lib.hid (HT0.out.keep b1)
  have HS1 := Lib.hid (HS0.out.keep b1)
  clear b1 HB0 HT0 HS0 B0
  have ⟨r0, r1, r2, r3, r4, r5, r6⟩ := HS1.out.cells
  have ⟨z0, z1, z2, z3, z4, z5, z6⟩ := HS1.out.thaw
  simp only [zeroSt] at r0 r1 r2 r3 r4 r5 r6
  have hl : w.heap.size + 2 < W1.heap.size := HS1.out.lt
  go_wp2
  exact st_ret3 (y := g.y) rfl rfl rfl rfl (HS1.out.put g.y) Tryz.underlying39 rfl (by kernel_rfl) rfl ⟨by rw [HE.out], below_putSt B1.out (by omega) g.y⟩

set_option maxHeartbeats 1000000 in
set_option maxRecDepth 100000 in
theorem spec_stepP (x : St) (k a b c p n : Int) (w : World) (hp : pendB x = true) (h2 : k ≠ 2) (h3 : k ≠ 3) (h4 : k ≠ 4) : Calls Tryz.prog 113 #[stV x, tokV ⟨k, a, b, c, p, n⟩] w (StpDone (stepT x ⟨k, a, b, c, p, n⟩) w) := by
  have HE : Hid (stepT x ⟨k, a, b, c, p, n⟩ = ⟨x, -1, 13⟩) := Lib.hid (by rw [stepT, if_neg h3, if_neg h4, if_pos hp, if_neg (fun h => h2 h.1)])
  have HP := Lib.hid (fun w => spec_l04Pending x w)
  rw [hp] at HP
  have e2 : (k == 2) = false := by rw [beq_eq_false_iff_ne]; exact h2
  have e3 : (k == 3) = false := by rw [beq_eq_false_iff_ne]; exact h3
  have e4 : (k == 4) = false := by rw [beq_eq_false_iff_ne]; exact h4
  clear hp h2 h3 h4
  unfold stV at HP ⊢
  have ⟨hB0, hT0, hS0, b0⟩ := step_blocks w x ⟨k, a, b, c, p, n⟩
  dsimp only at hB0 hT0 hS0 b0
  have HB0 := Lib.hid hB0
  have HT0 := Lib.hid hT0
  have HS0 := Lib.hid hS0
  have B0 := Lib.hid b0
  clear hB0 hT0 hS0 b0
  unfold tokV
  go_enter Tryz.func113, Tryz.ntmps113
  go_wp2_with fail
  refine (HP.out _).mono ?_
  generalize (((w.alloc (.cells #[.int .i64 x.g0, .int .i64 x.g1, .int .i64 x.g2, .int .i64 x.g3, .int .i64 x.l, .int .i64 x.s, .int .i64 x.d] 39)).alloc (.cells #[.int .i64 k, .int .i64 a, .int .i64 b, .int .i64 c, .int .i64 p, .int .i64 n] 102)).alloc (.cells #[.int .i64 0, .int .i64 0, .int .i64 0, .int .i64 0, .int .i64 0, .int .i64 0, .int .i64 0] 39)) = W0 at *
  rintro e W1 ⟨rfl, b1⟩
  have B1 : Hid (Below w.heap.size w W1) := Lib.hid (B0.out.trans (b1.mono B0.out.size))
  have HB1 := Lib.hid (HB0.out.keep b1)
  have HT1 := Lib.hid (HT0.out.keep b1)
  have HS1 := Lib.hid (HS0.out.keep b1)
  clear b1 HB0 HT0 HS0 B0
  have ⟨y0, y1, y2, y3, y4, y5, y6⟩ := HB1.out.cells
  have ⟨t0, t1, t2, t3, t4, t5⟩ := HT1.out.cells
  dsimp only at t0 t1 t2 t3 t4 t5
  have ⟨r0, r1, r2, r3, r4, r5, r6⟩ := HS1.out.cells
  have ⟨z0, z1, z2, z3, z4, z5, z6⟩ := HS1.out.thaw
  simp only [zeroSt] at r0 r1 r2 r3 r4 r5 r6
  have hl : w.heap.size + 2 < W1.heap.size := HS1.out.lt
  go_wp2
  exact st_ret3 (y := x) rfl rfl rfl rfl (HS1.out.put x) Tryz.underlying39 rfl (by kernel_rfl) rfl ⟨by rw [HE.out], below_putSt B1.out (by omega) x⟩

set_option maxHeartbeats 1000000 in
set_option maxRecDepth 100000 in
theorem spec_stepP2 (x : St) (a b c p n : Int) (w : World) (hx : stOKB x = true) (hp : pendB x = true) : Calls Tryz.prog 113 #[stV x, tokV ⟨2, a, b, c, p, n⟩] w (StpDone (stepT x ⟨2, a, b, c, p, n⟩) w) := by
  have ⟨h1, h2, h3⟩ := stOK_parts hx
  have ⟨d0, d1⟩ := lead_range h3
  have HP := Lib.hid (fun w => spec_l04Pending x w)
  rw [hp] at HP
  have HG := Lib.hid (fun w => spec_l04Graphic x 32 false w h2 d0 d1 (by decide) (by decide))
  by_cases hd : x.d = 0
  · have hs : x.s = 2 ∨ x.s = 3 := by
      have := (head_parts h2).2
      have hp' : 0 < x.s ∨ 0 < x.d := by simpa [pendB] using hp
      omega
    have HW := Lib.hid (fun w => spec_l04Wide x x.s w (by omega) (by omega))
    have ed : (x.d == 0) = true := by simpa using hd
    cases hw : wideB x x.s
    · have HE : Hid (stepT x ⟨2, a, b, c, p, n⟩ = ⟨x, -1, 13⟩) := Lib.hid (by rw [stepT, if_neg (by simp), if_neg (by simp), if_pos hp, if_neg (fun h => by rw [hw] at h; exact absurd h.2.2 (by decide))])
      rw [hw] at HW
      clear hx hp h1 h2 h3 d0 d1 hs HG hd hw
      unfold stV at HP HW ⊢
      have ⟨hB0, hT0, hS0, b0⟩ := step_blocks w x ⟨2, a, b, c, p, n⟩
      dsimp only at hB0 hT0 hS0 b0
      have HB0 := Lib.hid hB0
      have HT0 := Lib.hid hT0
      have HS0 := Lib.hid hS0
      have B0 := Lib.hid b0
      clear hB0 hT0 hS0 b0
      unfold tokV
      go_enter Tryz.func113, Tryz.ntmps113
      go_wp2_with fail
      refine (HP.out _).mono ?_
      generalize (((w.alloc (.cells #[.int .i64 x.g0, .int .i64 x.g1, .int .i64 x.g2, .int .i64 x.g3, .int .i64 x.l, .int .i64 x.s, .int .i64 x.d] 39)).alloc (.cells #[.int .i64 2, .int .i64 a, .int .i64 b, .int .i64 c, .int .i64 p, .int .i64 n] 102)).alloc (.cells #[.int .i64 0, .int .i64 0, .int .i64 0, .int .i64 0, .int .i64 0, .int .i64 0, .int .i64 0] 39)) = W0 at *
      rintro e W1 ⟨rfl, b1⟩
      have B1 : Hid (Below w.heap.size w W1) := Lib.hid (B0.out.trans (b1.mono B0.out.size))
      have HB1 := Lib.hid (HB0.out.keep b1)
      have HT1 := Lib.hid (HT0.out.keep b1)
      have HS1 := Lib.hid (HS0.out.keep b1)
      clear b1 HB0 HT0 HS0 B0
      have ⟨y0, y1, y2, y3, y4, y5, y6⟩ := HB1.out.cells
      have ⟨t0, t1, t2, t3, t4, t5⟩ := HT1.out.cells
      dsimp only at t0 t1 t2 t3 t4 t5
      go_wp2_with fail
      refine (HW.out _).mono ?_
      clear y0 y1 y2 y3 y4 y5 y6 t0 t1 t2 t3 t4 t5
      rintro e W2 ⟨rfl, b2⟩
      have B2 : Hid (Below w.heap.size w W2) := Lib.hid (B1.out.trans (b2.mono B1.out.size))
      have HB2 := Lib.hid (HB1.out.keep b2)
      have HT2 := Lib.hid (HT1.out.keep b2)
      have HS2 := Lib.hid (HS1.out.keep b2)
      clear b2 HB1 HT1 HS1 B1
      have ⟨y0, y1, y2, y3, y4, y5, y6⟩ := HB2.out.cells
      have ⟨t0, t1, t2, t3, t4, t5⟩ := HT2.out.cells
      dsimp only at t0 t1 t2 t3 t4 t5
      have ⟨r0, r1, r2, r3, r4, r5, r6⟩ := HS2.out.cells
      have ⟨z0, z1, z2, z3, z4, z5, z6⟩ := HS2.out.thaw
      simp only [zeroSt] at r0 r1 r2 r3 r4 r5 r6
      have hl : w.heap.size + 2 < W2.heap.size := HS2.out.lt
      go_wp2
      exact st_ret3 (y := x) rfl rfl rfl rfl (HS2.out.put x) Tryz.underlying39 rfl (by kernel_rfl) rfl ⟨by rw [HE.out], below_putSt B2.out (by omega) x⟩
    · have HE : Hid (stepT x ⟨2, a, b, c, p, n⟩ = graphic x 32 false) := Lib.hid (by rw [stepT, if_neg (by simp), if_neg (by simp), if_pos hp, if_pos ⟨rfl, hd, hw⟩])
      rw [hw] at HW
      clear hx hp h1 h2 h3 d0 d1 hs hd hw
      generalize graphic x 32 false = g at *
      unfold StpDone stpV at HG
      unfold stV at HP HW HG ⊢
      have ⟨hB0, hT0, hS0, b0⟩ := step_blocks w x ⟨2, a, b, c, p, n⟩
      dsimp only at hB0 hT0 hS0 b0
      have HB0 := Lib.hid hB0
      have HT0 := Lib.hid hT0
      have HS0 := Lib.hid hS0
      have B0 := Lib.hid b0
      clear hB0 hT0 hS0 b0
      unfold tokV
      go_enter Tryz.func113, Tryz.ntmps113
      go_wp2_with fail
      refine (HP.out _).mono ?_
      generalize (((w.alloc (.cells #[.int .i64 x.g0, .int .i64 x.g1, .int .i64 x.g2, .int .i64 x.g3, .int .i64 x.l, .int .i64 x.s, .int .i64 x.d] 39)).alloc (.cells #[.int .i64 2, .int .i64 a, .int .i64 b, .int .i64 c, .int .i64 p, .int .i64 n] 102)).alloc (.cells #[.int .i64 0, .int .i64 0, .int .i64 0, .int .i64 0, .int .i64 0, .int .i64 0, .int .i64 0] 39)) = W0 at *
      rintro e W1 ⟨rfl, b1⟩
      have B1 : Hid (Below w.heap.size w W1) := Lib.hid (B0.out.trans (b1.mono B0.out.size))
      have HB1 := Lib.hid (HB0.out.keep b1)
      have HT1 := Lib.hid (HT0.out.keep b1)
      have HS1 := Lib.hid (HS0.out.keep b1)
      clear b1 HB0 HT0 HS0 B0
      have ⟨y0, y1, y2, y3, y4, y5, y6⟩ := HB1.out.cells
      have ⟨t0, t1, t2, t3, t4, t5⟩ := HT1.out.cells
      dsimp only at t0 t1 t2 t3 t4 t5
      go_wp2_with fail
      refine (HW.out _).mono ?_
      clear y0 y1 y2 y3 y4 y5 y6 t0 t1 t2 t3 t4 t5
      rintro e W2 ⟨rfl, b2⟩
      have B2 : Hid (Below w.heap.size w W2) := Lib.hid (B1.out.trans (b2.mono B1.out.size))
      have HB2 := Lib.hid (HB1.out.keep b2)
      have HT2 := Lib.hid (HT1.out.keep b2)
      have HS2 := Lib.hid (HS1.out.keep b2)
      clear b2 HB1 HT1 HS1 B1
      have ⟨y0, y1, y2, y3, y4, y5, y6⟩ := HB2.out.cells
      have ⟨t0, t1, t2, t3, t4, t5⟩ := HT2.out.cells
      dsimp only at t0 t1 t2 t3 t4 t5
      go_wp2_with fail
      refine (HG.out _).mono ?_
      clear y0 y1 y2 y3 y4 y5 y6 t0 t1 t2 t3 t4 t5
      rintro e W3 ⟨rfl, b3⟩
      have B3 : Hid (Below w.heap.size w W3) := Lib.hid (B2.out.trans (b3.mono B2.out.size))
      have HB3 := Lib.hid (HB2.out.keep b3)
      have HT3 := Lib.hid (HT2.out.keep b3)
      have HS3 := Lib.hid (HS2.out.keep b3)
      clear b3 HB2 HT2 HS2 B2
      have ⟨r0, r1, r2, r3, r4, r5, r6⟩ := HS3.out.cells
      have ⟨z0, z1, z2, z3, z4, z5, z6⟩ := HS3.out.thaw
      simp only [zeroSt] at r0 r1 r2 r3 r4 r5 r6
      have hl : w.heap.size + 2 < W3.heap.size := HS3.out.lt
      go_wp2
      exact st_ret3 (y := g.y) rfl rfl rfl rfl (HS3.out.put g.y) Tryz.underlying39 rfl (by kernel_rfl) rfl ⟨by rw [HE.out], below_putSt B3.out (by omega) g.y⟩
  · have ed : (x.d == 0) = false := by rw [beq_eq_false_iff_ne]; exact hd
    have HE : Hid (stepT x ⟨2, a, b, c, p, n⟩ = ⟨x, -1, 13⟩) := Lib.hid (by rw [stepT, if_neg (by simp), if_neg (by simp), if_pos hp, if_neg (fun h => hd h.2.1)])
    clear hx hp h1 h2 h3 d0 d1 HG hd
    unfold stV at HP ⊢
    have ⟨hB0, hT0, hS0, b0⟩ := step_blocks w x ⟨2, a, b, c, p, n⟩
    dsimp only at hB0 hT0 hS0 b0
    have HB0 := Lib.hid hB0
    have HT0 := Lib.hid hT0
    have HS0 := Lib.hid hS0
    have B0 := Lib.hid b0
    clear hB0 hT0 hS0 b0
    unfold tokV
    go_enter Tryz.func113, Tryz.ntmps113
    go_wp2_with fail
    refine (HP.out _).mono ?_
    generalize (((w.alloc (.cells #[.int .i64 x.g0, .int .i64 x.g1, .int .i64 x.g2, .int .i64 x.g3, .int .i64 x.l, .int .i64 x.s, .int .i64 x.d] 39)).alloc (.cells #[.int .i64 2, .int .i64 a, .int .i64 b, .int .i64 c, .int .i64 p, .int .i64 n] 102)).alloc (.cells #[.int .i64 0, .int .i64 0, .int .i64 0, .int .i64 0, .int .i64 0, .int .i64 0, .int .i64 0] 39)) = W0 at *
    rintro e W1 ⟨rfl, b1⟩
    have B1 : Hid (Below w.heap.size w W1) := Lib.hid (B0.out.trans (b1.mono B0.out.size))
    have HB1 := Lib.hid (HB0.out.keep b1)
    have HT1 := Lib.hid (HT0.out.keep b1)
    have HS1 := Lib.hid (HS0.out.keep b1)
    clear b1 HB0 HT0 HS0 B0
    have ⟨y0, y1, y2, y3, y4, y5, y6⟩ := HB1.out.cells
    have ⟨t0, t1, t2, t3, t4, t5⟩ := HT1.out.cells
    dsimp only at t0 t1 t2 t3 t4 t5
    have ⟨r0, r1, r2, r3, r4, r5, r6⟩ := HS1.out.cells
    have ⟨z0, z1, z2, z3, z4, z5, z6⟩ := HS1.out.thaw
    simp only [zeroSt] at r0 r1 r2 r3 r4 r5 r6
    have hl : w.heap.size + 2 < W1.heap.size := HS1.out.lt
    go_wp2
    exact st_ret3 (y := x) rfl rfl rfl rfl (HS1.out.put x) Tryz.underlying39 rfl (by kernel_rfl) rfl ⟨by rw [HE.out], below_putSt B1.out (by omega) x⟩

set_option maxHeartbeats 1000000 in
set_option maxRecDepth 100000 in
theorem spec_step1 (x : St) (a b c p n : Int) (w : World) (hp : pendB x = false) : Calls Tryz.prog 113 #[stV x, tokV ⟨1, a, b, c, p, n⟩] w (StpDone (stepT x ⟨1, a, b, c, p, n⟩) w) := by
  have HP := Lib.hid (fun w => spec_l04Pending x w)
  rw [hp] at HP
  by_cases ha : 127 < a
  · have HE : Hid (stepT x ⟨1, a, b, c, p, n⟩ = ⟨x, -1, 10⟩) := Lib.hid (by rw [stepT, if_neg (by simp), if_neg (by simp), if_neg (by rw [hp]; decide), calm, if_pos rfl, if_pos ha])
    clear hp
    unfold stV at HP ⊢
    have ⟨hB0, hT0, hS0, b0⟩ := step_blocks w x ⟨1, a, b, c, p, n⟩
    dsimp only at hB0 hT0 hS0 b0
    have HB0 := Lib.hid hB0
    have HT0 := Lib.hid hT0
    have HS0 := Lib.hid hS0
    have B0 := Lib.hid b0
    clear hB0 hT0 hS0 b0
    unfold tokV
    go_enter Tryz.func113, Tryz.ntmps113
    go_wp2_with fail
    refine (HP.out _).mono ?_
    generalize (((w.alloc (.cells #[.int .i64 x.g0, .int .i64 x.g1, .int .i64 x.g2, .int .i64 x.g3, .int .i64 x.l, .int .i64 x.s, .int .i64 x.d] 39)).alloc (.cells #[.int .i64 1, .int .i64 a, .int .i64 b, .int .i64 c, .int .i64 p, .int .i64 n] 102)).alloc (.cells #[.int .i64 0, .int .i64 0, .int .i64 0, .int .i64 0, .int .i64 0, .int .i64 0, .int .i64 0] 39)) = W0 at *
    rintro e W1 ⟨rfl, b1⟩
    have B1 : Hid (Below w.heap.size w W1) := Lib.hid (B0.out.trans (b1.mono B0.out.size))
    have HB1 := Lib.hid (HB0.out.keep b1)
    have HT1 := Lib.hid (HT0.out.keep b1)
    have HS1 := Lib.hid (HS0.out.keep b1)
    clear b1 HB0 HT0 HS0 B0
    have ⟨y0, y1, y2, y3, y4, y5, y6⟩ := HB1.out.cells
    have ⟨t0, t1, t2, t3, t4, t5⟩ := HT1.out.cells
    dsimp only at t0 t1 t2 t3 t4 t5
    have ⟨r0, r1, r2, r3, r4, r5, r6⟩ := HS1.out.cells
    have ⟨z0, z1, z2, z3, z4, z5, z6⟩ := HS1.out.thaw
    simp only [zeroSt] at r0 r1 r2 r3 r4 r5 r6
    have hl : w.heap.size + 2 < W1.heap.size := HS1.out.lt
    go_wp2
    exact st_ret3 (y := x) rfl rfl rfl rfl (HS1.out.put x) Tryz.underlying39 rfl (by kernel_rfl) rfl ⟨by rw [HE.out], below_putSt B1.out (by omega) x⟩
  · have HE : Hid (stepT x ⟨1, a, b, c, p, n⟩ = ⟨x, a, 0⟩) := Lib.hid (by rw [stepT, if_neg (by simp), if_neg (by simp), if_neg (by rw [hp]; decide), calm, if_pos rfl, if_neg ha])
    clear hp
    unfold stV at HP ⊢
    have ⟨hB0, hT0, hS0, b0⟩ := step_blocks w x ⟨1, a, b, c, p, n⟩
    dsimp only at hB0 hT0 hS0 b0
    have HB0 := Lib.hid hB0
    have HT0 := Lib.hid hT0
    have HS0 := Lib.hid hS0
    have B0 := Lib.hid b0
    clear hB0 hT0 hS0 b0
    unfold tokV
    go_enter Tryz.func113, Tryz.ntmps113
    go_wp2_with fail
    refine (HP.out _).mono ?_
    generalize (((w.alloc (.cells #[.int .i64 x.g0, .int .i64 x.g1, .int .i64 x.g2, .int .i64 x.g3, .int .i64 x.l, .int .i64 x.s, .int .i64 x.d] 39)).alloc (.cells #[.int .i64 1, .int .i64 a, .int .i64 b, .int .i64 c, .int .i64 p, .int .i64 n] 102)).alloc (.cells #[.int .i64 0, .int .i64 0, .int .i64 0, .int .i64 0, .int .i64 0, .int .i64 0, .int .i64 0] 39)) = W0 at *
    rintro e W1 ⟨rfl, b1⟩
    have B1 : Hid (Below w.heap.size w W1) := Lib.hid (B0.out.trans (b1.mono B0.out.size))
    have HB1 := Lib.hid (HB0.out.keep b1)
    have HT1 := Lib.hid (HT0.out.keep b1)
    have HS1 := Lib.hid (HS0.out.keep b1)
    clear b1 HB0 HT0 HS0 B0
    have ⟨y0, y1, y2, y3, y4, y5, y6⟩ := HB1.out.cells
    have ⟨t0, t1, t2, t3, t4, t5⟩ := HT1.out.cells
    dsimp only at t0 t1 t2 t3 t4 t5
    have ⟨r0, r1, r2, r3, r4, r5, r6⟩ := HS1.out.cells
    have ⟨z0, z1, z2, z3, z4, z5, z6⟩ := HS1.out.thaw
    simp only [zeroSt] at r0 r1 r2 r3 r4 r5 r6
    have hl : w.heap.size + 2 < W1.heap.size := HS1.out.lt
    go_wp2
    go_region
    all_goals go_wp2
    all_goals exact st_ret3 (y := x) rfl rfl rfl rfl (HS1.out.put x).drew Tryz.underlying39 rfl (by kernel_rfl) rfl ⟨by rw [HE.out], below_drewN (below_putSt B1.out (by omega) x) 1⟩

set_option maxHeartbeats 1000000 in
set_option maxRecDepth 100000 in
theorem spec_step2 (x : St) (a b c p n : Int) (w : World) (hx : stOKB x = true) (hp : pendB x = false) : Calls Tryz.prog 113 #[stV x, tokV ⟨2, a, b, c, p, n⟩] w (StpDone (stepT x ⟨2, a, b, c, p, n⟩) w) := by
  have ⟨h1, h2, h3⟩ := stOK_parts hx
  have ⟨d0, d1⟩ := lead_range h3
  have hl := (head_parts h2).1
  have HP := Lib.hid (fun w => spec_l04Pending x w)
  rw [hp] at HP
  have HG := Lib.hid (fun w => spec_l04Graphic x 32 false w h2 d0 d1 (by decide) (by decide))
  have HW := Lib.hid (fun w => spec_l04Wide x x.l w hl.1 hl.2)
  cases hw : wideB x x.l
  · have HE : Hid (stepT x ⟨2, a, b, c, p, n⟩ = ⟨x, 32, 0⟩) := Lib.hid (by rw [stepT, if_neg (by simp), if_neg (by simp), if_neg (by rw [hp]; decide), calm, if_neg (by simp), if_pos rfl, if_neg (by rw [hw]; decide)])
    rw [hw] at HW
    clear hx hp h1 h2 h3 d0 d1 HG hw hl
    unfold stV at HP HW ⊢
    have ⟨hB0, hT0, hS0, b0⟩ := step_blocks w x ⟨2, a, b, c, p, n⟩
    dsimp only at hB0 hT0 hS0 b0
    have HB0 := Lib.hid hB0
    have HT0 := Lib.hid hT0
    have HS0 := Lib.hid hS0
    have B0 := Lib.hid b0
    clear hB0 hT0 hS0 b0
    unfold tokV
    go_enter Tryz.func113, Tryz.ntmps113
    go_wp2_with fail
    refine (HP.out _).mono ?_
    generalize (((w.alloc (.cells #[.int .i64 x.g0, .int .i64 x.g1, .int .i64 x.g2, .int .i64 x.g3, .int .i64 x.l, .int .i64 x.s, .int .i64 x.d] 39)).alloc (.cells #[.int .i64 2, .int .i64 a, .int .i64 b, .int .i64 c, .int .i64 p, .int .i64 n] 102)).alloc (.cells #[.int .i64 0, .int .i64 0, .int .i64 0, .int .i64 0, .int .i64 0, .int .i64 0, .int .i64 0] 39)) = W0 at *
    rintro e W1 ⟨rfl, b1⟩
    have B1 : Hid (Below w.heap.size w W1) := Lib.hid (B0.out.trans (b1.mono B0.out.size))
    have HB1 := Lib.hid (HB0.out.keep b1)
    have HT1 := Lib.hid (HT0.out.keep b1)
    have HS1 := Lib.hid (HS0.out.keep b1)
    clear b1 HB0 HT0 HS0 B0
    have ⟨y0, y1, y2, y3, y4, y5, y6⟩ := HB1.out.cells
    have ⟨t0, t1, t2, t3, t4, t5⟩ := HT1.out.cells
    dsimp only at t0 t1 t2 t3 t4 t5
    go_wp2_with fail
    refine (HW.out _).mono ?_
    clear y0 y1 y2 y3 y4 y5 y6 t0 t1 t2 t3 t4 t5
    rintro e W2 ⟨rfl, b2⟩
    have B2 : Hid (Below w.heap.size w W2) := Lib.hid (B1.out.trans (b2.mono B1.out.size))
    have HB2 := Lib.hid (HB1.out.keep b2)
    have HT2 := Lib.hid (HT1.out.keep b2)
    have HS2 := Lib.hid (HS1.out.keep b2)
    clear b2 HB1 HT1 HS1 B1
    have ⟨y0, y1, y2, y3, y4, y5, y6⟩ := HB2.out.cells
    have ⟨t0, t1, t2, t3, t4, t5⟩ := HT2.out.cells
    dsimp only at t0 t1 t2 t3 t4 t5
    have ⟨r0, r1, r2, r3, r4, r5, r6⟩ := HS2.out.cells
    have ⟨z0, z1, z2, z3, z4, z5, z6⟩ := HS2.out.thaw
    simp only [zeroSt] at r0 r1 r2 r3 r4 r5 r6
    have hl : w.heap.size + 2 < W2.heap.size := HS2.out.lt
    go_wp2
    exact st_ret3 (y := x) rfl rfl rfl rfl (HS2.out.put x) Tryz.underlying39 rfl (by kernel_rfl) rfl ⟨by rw [HE.out], below_putSt B2.out (by omega) x⟩
  · have HE : Hid (stepT x ⟨2, a, b, c, p, n⟩ = graphic x 32 false) := Lib.hid (by rw [stepT, if_neg (by simp), if_neg (by simp), if_neg (by rw [hp]; decide), calm, if_neg (by simp), if_pos rfl, if_pos hw])
    rw [hw] at HW
    clear hx hp h1 h2 h3 d0 d1 hw hl
    generalize graphic x 32 false = g at *
    unfold StpDone stpV at HG
    unfold stV at HP HW HG ⊢
    have ⟨hB0, hT0, hS0, b0⟩ := step_blocks w x ⟨2, a, b, c, p, n⟩
    dsimp only at hB0 hT0 hS0 b0
    have HB0 := Lib.hid hB0
    have HT0 := Lib.hid hT0
    have HS0 := Lib.hid hS0
    have B0 := Lib.hid b0
    clear hB0 hT0 hS0 b0
    unfold tokV
    go_enter Tryz.func113, Tryz.ntmps113
    go_wp2_with fail
    refine (HP.out _).mono ?_
    generalize (((w.alloc (.cells #[.int .i64 x.g0, .int .i64 x.g1, .int .i64 x.g2, .int .i64 x.g3, .int .i64 x.l, .int .i64 x.s, .int .i64 x.d] 39)).alloc (.cells #[.int .i64 2, .int .i64 a, .int .i64 b, .int .i64 c, .int .i64 p, .int .i64 n] 102)).alloc (.cells #[.int .i64 0, .int .i64 0, .int .i64 0, .int .i64 0, .int .i64 0, .int .i64 0, .int .i64 0] 39)) = W0 at *
    rintro e W1 ⟨rfl, b1⟩
    have B1 : Hid (Below w.heap.size w W1) := Lib.hid (B0.out.trans (b1.mono B0.out.size))
    have HB1 := Lib.hid (HB0.out.keep b1)
    have HT1 := Lib.hid (HT0.out.keep b1)
    have HS1 := Lib.hid (HS0.out.keep b1)
    clear b1 HB0 HT0 HS0 B0
    have ⟨y0, y1, y2, y3, y4, y5, y6⟩ := HB1.out.cells
    have ⟨t0, t1, t2, t3, t4, t5⟩ := HT1.out.cells
    dsimp only at t0 t1 t2 t3 t4 t5
    go_wp2_with fail
    refine (HW.out _).mono ?_
    clear y0 y1 y2 y3 y4 y5 y6 t0 t1 t2 t3 t4 t5
    rintro e W2 ⟨rfl, b2⟩
    have B2 : Hid (Below w.heap.size w W2) := Lib.hid (B1.out.trans (b2.mono B1.out.size))
    have HB2 := Lib.hid (HB1.out.keep b2)
    have HT2 := Lib.hid (HT1.out.keep b2)
    have HS2 := Lib.hid (HS1.out.keep b2)
    clear b2 HB1 HT1 HS1 B1
    have ⟨y0, y1, y2, y3, y4, y5, y6⟩ := HB2.out.cells
    have ⟨t0, t1, t2, t3, t4, t5⟩ := HT2.out.cells
    dsimp only at t0 t1 t2 t3 t4 t5
    go_wp2_with fail
    refine (HG.out _).mono ?_
    clear y0 y1 y2 y3 y4 y5 y6 t0 t1 t2 t3 t4 t5
    rintro e W3 ⟨rfl, b3⟩
    have B3 : Hid (Below w.heap.size w W3) := Lib.hid (B2.out.trans (b3.mono B2.out.size))
    have HB3 := Lib.hid (HB2.out.keep b3)
    have HT3 := Lib.hid (HT2.out.keep b3)
    have HS3 := Lib.hid (HS2.out.keep b3)
    clear b3 HB2 HT2 HS2 B2
    have ⟨r0, r1, r2, r3, r4, r5, r6⟩ := HS3.out.cells
    have ⟨z0, z1, z2, z3, z4, z5, z6⟩ := HS3.out.thaw
    simp only [zeroSt] at r0 r1 r2 r3 r4 r5 r6
    have hl : w.heap.size + 2 < W3.heap.size := HS3.out.lt
    go_wp2
    exact st_ret3 (y := g.y) rfl rfl rfl rfl (HS3.out.put g.y) Tryz.underlying39 rfl (by kernel_rfl) rfl ⟨by rw [HE.out], below_putSt B3.out (by omega) g.y⟩

set_option maxHeartbeats 1000000 in
set_option maxRecDepth 100000 in
theorem spec_step5 (x : St) (a b c p n : Int) (w : World) (hp : pendB x = false) : Calls Tryz.prog 113 #[stV x, tokV ⟨5, a, b, c, p, n⟩] w (StpDone (stepT x ⟨5, a, b, c, p, n⟩) w) := by
  have HE : Hid (stepT x ⟨5, a, b, c, p, n⟩ = ⟨⟨x.g0, x.g1, x.g2, x.g3, a, x.s, x.d⟩, -1, 0⟩) := Lib.hid (by rw [stepT, if_neg (by simp), if_neg (by simp), if_neg (by rw [hp]; decide), calm, if_neg (by simp), if_neg (by simp), if_pos rfl])
  have HP := Lib.hid (fun w => spec_l04Pending x w)
  rw [hp] at HP
  clear hp
  unfold stV at HP ⊢
  have ⟨hB0, hT0, hS0, b0⟩ := step_blocks w x ⟨5, a, b, c, p, n⟩
  dsimp only at hB0 hT0 hS0 b0
  have HB0 := Lib.hid hB0
  have HT0 := Lib.hid hT0
  have HS0 := Lib.hid hS0
  have B0 := Lib.hid b0
  clear hB0 hT0 hS0 b0
  unfold tokV
  go_enter Tryz.func113, Tryz.ntmps113
  go_wp2_with fail
  refine (HP.out _).mono ?_
  generalize (((w.alloc (.cells #[.int .i64 x.g0, .int .i64 x.g1, .int .i64 x.g2, .int .i64 x.g3, .int .i64 x.l, .int .i64 x.s, .int .i64 x.d] 39)).alloc (.cells #[.int .i64 5, .int .i64 a, .int .i64 b, .int .i64 c, .int .i64 p, .int .i64 n] 102)).alloc (.cells #[.int .i64 0, .int .i64 0, .int .i64 0, .int .i64 0, .int .i64 0, .int .i64 0, .int .i64 0] 39)) = W0 at *
  rintro e W1 ⟨rfl, b1⟩
  have B1 : Hid (Below w.heap.size w W1) := Lib.hid (B0.out.trans (b1.mono B0.out.size))
  have HB1 := Lib.hid (HB0.out.keep b1)
  have HT1 := Lib.hid (HT0.out.keep b1)
  have HS1 := Lib.hid (HS0.out.keep b1)
  clear b1 HB0 HT0 HS0 B0
  have ⟨y0, y1, y2, y3, y4, y5, y6⟩ := HB1.out.cells
  have ⟨t0, t1, t2, t3, t4, t5⟩ := HT1.out.cells
  dsimp only at t0 t1 t2 t3 t4 t5
  have ⟨q0, q1, q2, q3, q4, q5, q6⟩ := HB1.out.thaw
  have hl6 : w.heap.size < W1.heap.size := HB1.out.lt
  have HS3 : Hid (StAt (W1.setCell ⟨w.heap.size, 4, none⟩ (.int .i64 a)) (w.heap.size + 2) zeroSt) := Lib.hid (by
    unfold StAt
    rw [Below.heap_setCell _ _ _ _ (by simp)]
    exact HS1.out)
  have B3 : Hid (Below w.heap.size w (W1.setCell ⟨w.heap.size, 4, none⟩ (.int .i64 a))) := Lib.hid (B1.out.setCell (Nat.le_refl _) _)
  have ⟨r0, r1, r2, r3, r4, r5, r6⟩ := HS1.out.cells
  have ⟨z0, z1, z2, z3, z4, z5, z6⟩ := HS1.out.thaw
  simp only [zeroSt] at r0 r1 r2 r3 r4 r5 r6
  have hl : w.heap.size + 2 < W1.heap.size := HS1.out.lt
  go_wp2
  exact st_ret3 (y := ⟨x.g0, x.g1, x.g2, x.g3, a, x.s, x.d⟩) rfl rfl rfl rfl (HS3.out.put ⟨x.g0, x.g1, x.g2, x.g3, a, x.s, x.d⟩) Tryz.underlying39 rfl (by kernel_rfl) rfl ⟨by rw [HE.out], below_putSt B3.out (by omega) ⟨x.g0, x.g1, x.g2, x.g3, a, x.s, x.d⟩⟩

set_option maxHeartbeats 1000000 in
set_option maxRecDepth 100000 in
theorem spec_step6 (x : St) (a b c p n : Int) (w : World) (hp : pendB x = false) : Calls Tryz.prog 113 #[stV x, tokV ⟨6, a, b, c, p, n⟩] w (StpDone (stepT x ⟨6, a, b, c, p, n⟩) w) := by
  have HE : Hid (stepT x ⟨6, a, b, c, p, n⟩ = ⟨⟨x.g0, x.g1, x.g2, x.g3, x.l, a, x.d⟩, -1, 0⟩) := Lib.hid (by rw [stepT, if_neg (by simp), if_neg (by simp), if_neg (by rw [hp]; decide), calm, if_neg (by simp), if_neg (by simp), if_neg (by simp), if_pos rfl])
  have HP := Lib.hid (fun w => spec_l04Pending x w)
  rw [hp] at HP
  clear hp
  unfold stV at HP ⊢
  have ⟨hB0, hT0, hS0, b0⟩ := step_blocks w x ⟨6, a, b, c, p, n⟩
  dsimp only at hB0 hT0 hS0 b0
  have HB0 := Lib.hid hB0
  have HT0 := Lib.hid hT0
  have HS0 := Lib.hid hS0
  have B0 := Lib.hid b0
  clear hB0 hT0 hS0 b0
  unfold tokV
  go_enter Tryz.func113, Tryz.ntmps113
  go_wp2_with fail
  refine (HP.out _).mono ?_
  generalize (((w.alloc (.cells #[.int .i64 x.g0, .int .i64 x.g1, .int .i64 x.g2, .int .i64 x.g3, .int .i64 x.l, .int .i64 x.s, .int .i64 x.d] 39)).alloc (.cells #[.int .i64 6, .int .i64 a, .int .i64 b, .int .i64 c, .int .i64 p, .int .i64 n] 102)).alloc (.cells #[.int .i64 0, .int .i64 0, .int .i64 0, .int .i64 0, .int .i64 0, .int .i64 0, .int .i64 0] 39)) = W0 at *
  rintro e W1 ⟨rfl, b1⟩
  have B1 : Hid (Below w.heap.size w W1) := Lib.hid (B0.out.trans (b1.mono B0.out.size))
  have HB1 := Lib.hid (HB0.out.keep b1)
  have HT1 := Lib.hid (HT0.out.keep b1)
  have HS1 := Lib.hid (HS0.out.keep b1)
  clear b1 HB0 HT0 HS0 B0
  have ⟨y0, y1, y2, y3, y4, y5, y6⟩ := HB1.out.cells
  have ⟨t0, t1, t2, t3, t4, t5⟩ := HT1.out.cells
  dsimp only at t0 t1 t2 t3 t4 t5
  have ⟨q0, q1, q2, q3, q4, q5, q6⟩ := HB1.out.thaw
  have hl6 : w.heap.size < W1.heap.size := HB1.out.lt
  have HS3 : Hid (StAt (W1.setCell ⟨w.heap.size, 5, none⟩ (.int .i64 a)) (w.heap.size + 2) zeroSt) := Lib.hid (by
    unfold StAt
    rw [Below.heap_setCell _ _ _ _ (by simp)]
    exact HS1.out)
  have B3 : Hid (Below w.heap.size w (W1.setCell ⟨w.heap.size, 5, none⟩ (.int .i64 a))) := Lib.hid (B1.out.setCell (Nat.le_refl _) _)
  have ⟨r0, r1, r2, r3, r4, r5, r6⟩ := HS1.out.cells
  have ⟨z0, z1, z2, z3, z4, z5, z6⟩ := HS1.out.thaw
  simp only [zeroSt] at r0 r1 r2 r3 r4 r5 r6
  have hl : w.heap.size + 2 < W1.heap.size := HS1.out.lt
  go_wp2
  exact st_ret3 (y := ⟨x.g0, x.g1, x.g2, x.g3, x.l, a, x.d⟩) rfl rfl rfl rfl (HS3.out.put ⟨x.g0, x.g1, x.g2, x.g3, x.l, a, x.d⟩) Tryz.underlying39 rfl (by kernel_rfl) rfl ⟨by rw [HE.out], below_putSt B3.out (by omega) ⟨x.g0, x.g1, x.g2, x.g3, x.l, a, x.d⟩⟩

set_option maxHeartbeats 1000000 in
set_option maxRecDepth 100000 in
theorem spec_step7 (x : St) (a b c p n : Int) (w : World) (hp : pendB x = false) (a0 : 0 ≤ a) (a3 : a ≤ 3) : Calls Tryz.prog 113 #[stV x, tokV ⟨7, a, b, c, p, n⟩] w (StpDone (stepT x ⟨7, a, b, c, p, n⟩) w) := by
  have HP := Lib.hid (fun w => spec_l04Pending x w)
  rw [hp] at HP
  have HF := Lib.hid (fun w => spec_l02Find b c w)
  by_cases hf : findNo b c = 0
  · have HE : Hid (stepT x ⟨7, a, b, c, p, n⟩ = ⟨x, -1, 10⟩) := Lib.hid (by rw [stepT, if_neg (by simp), if_neg (by simp), if_neg (by rw [hp]; decide), calm, if_neg (by simp), if_neg (by simp), if_neg (by simp), if_neg (by simp), if_pos rfl, if_pos hf])
    rw [hf] at HF
    clear hp a0 a3 hf
    unfold stV at HP ⊢
    have ⟨hB0, hT0, hS0, b0⟩ := step_blocks w x ⟨7, a, b, c, p, n⟩
    dsimp only at hB0 hT0 hS0 b0
    have HB0 := Lib.hid hB0
    have HT0 := Lib.hid hT0
    have HS0 := Lib.hid hS0
    have B0 := Lib.hid b0
    clear hB0 hT0 hS0 b0
    unfold tokV
    go_enter Tryz.func113, Tryz.ntmps113
    go_wp2_with fail
    refine (HP.out _).mono ?_
    generalize (((w.alloc (.cells #[.int .i64 x.g0, .int .i64 x.g1, .int .i64 x.g2, .int .i64 x.g3, .int .i64 x.l, .int .i64 x.s, .int .i64 x.d] 39)).alloc (.cells #[.int .i64 7, .int .i64 a, .int .i64 b, .int .i64 c, .int .i64 p, .int .i64 n] 102)).alloc (.cells #[.int .i64 0, .int .i64 0, .int .i64 0, .int .i64 0, .int .i64 0, .int .i64 0, .int .i64 0] 39)) = W0 at *
    rintro e W1 ⟨rfl, b1⟩
    have B1 : Hid (Below w.heap.size w W1) := Lib.hid (B0.out.trans (b1.mono B0.out.size))
    have HB1 := Lib.hid (HB0.out.keep b1)
    have HT1 := Lib.hid (HT0.out.keep b1)
    have HS1 := Lib.hid (HS0.out.keep b1)
    clear b1 HB0 HT0 HS0 B0
    have ⟨y0, y1, y2, y3, y4, y5, y6⟩ := HB1.out.cells
    have ⟨t0, t1, t2, t3, t4, t5⟩ := HT1.out.cells
    dsimp only at t0 t1 t2 t3 t4 t5
    go_wp2_with fail
    refine (HF.out _).mono ?_
    clear y0 y1 y2 y3 y4 y5 y6 t0 t1 t2 t3 t4 t5
    rintro e W2 ⟨rfl, b2⟩
    have B2 : Hid (Below w.heap.size w W2) := Lib.hid (B1.out.trans (b2.mono B1.out.size))
    have HB2 := Lib.hid (HB1.out.keep b2)
    have HT2 := Lib.hid (HT1.out.keep b2)
    have HS2 := Lib.hid (HS1.out.keep b2)
    clear b2 HB1 HT1 HS1 B1
    have ⟨y0, y1, y2, y3, y4, y5, y6⟩ := HB2.out.cells
    have ⟨t0, t1, t2, t3, t4, t5⟩ := HT2.out.cells
    dsimp only at t0 t1 t2 t3 t4 t5
    have ⟨r0, r1, r2, r3, r4, r5, r6⟩ := HS2.out.cells
    have ⟨z0, z1, z2, z3, z4, z5, z6⟩ := HS2.out.thaw
    simp only [zeroSt] at r0 r1 r2 r3 r4 r5 r6
    have hl : w.heap.size + 2 < W2.heap.size := HS2.out.lt
    go_wp2
    exact st_ret3 (y := x) rfl rfl rfl rfl (HS2.out.put x) Tryz.underlying39 rfl (by kernel_rfl) rfl ⟨by rw [HE.out], below_putSt B2.out (by omega) x⟩
  · have HE : Hid (stepT x ⟨7, a, b, c, p, n⟩ = ⟨stPut x a (findNo b c), -1, 0⟩) := Lib.hid (by rw [stepT, if_neg (by simp), if_neg (by simp), if_neg (by rw [hp]; decide), calm, if_neg (by simp), if_neg (by simp), if_neg (by simp), if_neg (by simp), if_pos rfl, if_neg hf])
    have HU := Lib.hid (fun w => spec_l04Put x a (findNo b c) w a0 a3)
    have ef : (findNo b c == 0) = false := by rw [beq_eq_false_iff_ne]; exact hf
    clear hp a0 a3 hf
    generalize stPut x a (findNo b c) = y at *
    generalize findNo b c = f at *
    unfold StDone at HU
    unfold stV at HP HU ⊢
    have ⟨hB0, hT0, hS0, b0⟩ := step_blocks w x ⟨7, a, b, c, p, n⟩
    dsimp only at hB0 hT0 hS0 b0
    have HB0 := Lib.hid hB0
    have HT0 := Lib.hid hT0
    have HS0 := Lib.hid hS0
    have B0 := Lib.hid b0
    clear hB0 hT0 hS0 b0
    unfold tokV
    go_enter Tryz.func113, Tryz.ntmps113
    go_wp2_with fail
    refine (HP.out _).mono ?_
    generalize (((w.alloc (.cells #[.int .i64 x.g0, .int .i64 x.g1, .int .i64 x.g2, .int .i64 x.g3, .int .i64 x.l, .int .i64 x.s, .int .i64 x.d] 39)).alloc (.cells #[.int .i64 7, .int .i64 a, .int .i64 b, .int .i64 c, .int .i64 p, .int .i64 n] 102)).alloc (.cells #[.int .i64 0, .int .i64 0, .int .i64 0, .int .i64 0, .int .i64 0, .int .i64 0, .int .i64 0] 39)) = W0 at *
    rintro e W1 ⟨rfl, b1⟩
    have B1 : Hid (Below w.heap.size w W1) := Lib.hid (B0.out.trans (b1.mono B0.out.size))
    have HB1 := Lib.hid (HB0.out.keep b1)
    have HT1 := Lib.hid (HT0.out.keep b1)
    have HS1 := Lib.hid (HS0.out.keep b1)
    clear b1 HB0 HT0 HS0 B0
    have ⟨y0, y1, y2, y3, y4, y5, y6⟩ := HB1.out.cells
    have ⟨t0, t1, t2, t3, t4, t5⟩ := HT1.out.cells
    dsimp only at t0 t1 t2 t3 t4 t5
    go_wp2_with fail
    refine (HF.out _).mono ?_
    clear y0 y1 y2 y3 y4 y5 y6 t0 t1 t2 t3 t4 t5
    rintro e W2 ⟨rfl, b2⟩
    have B2 : Hid (Below w.heap.size w W2) := Lib.hid (B1.out.trans (b2.mono B1.out.size))
    have HB2 := Lib.hid (HB1.out.keep b2)
    have HT2 := Lib.hid (HT1.out.keep b2)
    have HS2 := Lib.hid (HS1.out.keep b2)
    clear b2 HB1 HT1 HS1 B1
    have ⟨y0, y1, y2, y3, y4, y5, y6⟩ := HB2.out.cells
    have ⟨t0, t1, t2, t3, t4, t5⟩ := HT2.out.cells
    dsimp only at t0 t1 t2 t3 t4 t5
    go_wp2_with fail
    refine (HU.out _).mono ?_
    clear y0 y1 y2 y3 y4 y5 y6 t0 t1 t2 t3 t4 t5
    rintro e W3 ⟨rfl, b3⟩
    have B3 : Hid (Below w.heap.size w W3) := Lib.hid (B2.out.trans (b3.mono B2.out.size))
    have HB3 := Lib.hid (HB2.out.keep b3)
    have HT3 := Lib.hid (HT2.out.keep b3)
    have HS3 := Lib.hid (HS2.out.keep b3)
    clear b3 HB2 HT2 HS2 B2
    have ⟨r0, r1, r2, r3, r4, r5, r6⟩ := HS3.out.cells
    have ⟨z0, z1, z2, z3, z4, z5, z6⟩ := HS3.out.thaw
    simp only [zeroSt] at r0 r1 r2 r3 r4 r5 r6
    have hl : w.heap.size + 2 < W3.heap.size := HS3.out.lt
    go_wp2
    exact st_ret3 (y := y) rfl rfl rfl rfl (HS3.out.put y) Tryz.underlying39 rfl (by kernel_rfl) rfl ⟨by rw [HE.out], below_putSt B3.out (by omega) y⟩

set_option maxHeartbeats 1000000 in
set_option maxRecDepth 100000 in
theorem spec_step8 (x : St) (a b c p n : Int) (w : World) (hp : pendB x = false) : Calls Tryz.prog 113 #[stV x, tokV ⟨8, a, b, c, p, n⟩] w (StpDone (stepT x ⟨8, a, b, c, p, n⟩) w) := by
  have HE : Hid (stepT x ⟨8, a, b, c, p, n⟩ = ⟨x, -1, 13⟩) := Lib.hid (by rw [stepT, if_neg (by simp), if_neg (by simp), if_neg (by rw [hp]; decide), calm, if_neg (by simp), if_neg (by simp), if_neg (by simp), if_neg (by simp), if_neg (by simp), if_pos rfl])
  have HP := Lib.hid (fun w => spec_l04Pending x w)
  rw [hp] at HP
  clear hp
  unfold stV at HP ⊢
  have ⟨hB0, hT0, hS0, b0⟩ := step_blocks w x ⟨8, a, b, c, p, n⟩
  dsimp only at hB0 hT0 hS0 b0
  have HB0 := Lib.hid hB0
  have HT0 := Lib.hid hT0
  have HS0 := Lib.hid hS0
  have B0 := Lib.hid b0
  clear hB0 hT0 hS0 b0
  unfold tokV
  go_enter Tryz.func113, Tryz.ntmps113
  go_wp2_with fail
  refine (HP.out _).mono ?_
  generalize (((w.alloc (.cells #[.int .i64 x.g0, .int .i64 x.g1, .int .i64 x.g2, .int .i64 x.g3, .int .i64 x.l, .int .i64 x.s, .int .i64 x.d] 39)).alloc (.cells #[.int .i64 8, .int .i64 a, .int .i64 b, .int .i64 c, .int .i64 p, .int .i64 n] 102)).alloc (.cells #[.int .i64 0, .int .i64 0, .int .i64 0, .int .i64 0, .int .i64 0, .int .i64 0, .int .i64 0] 39)) = W0 at *
  rintro e W1 ⟨rfl, b1⟩
  have B1 : Hid (Below w.heap.size w W1) := Lib.hid (B0.out.trans (b1.mono B0.out.size))
  have HB1 := Lib.hid (HB0.out.keep b1)
  have HT1 := Lib.hid (HT0.out.keep b1)
  have HS1 := Lib.hid (HS0.out.keep b1)
  clear b1 HB0 HT0 HS0 B0
  have ⟨y0, y1, y2, y3, y4, y5, y6⟩ := HB1.out.cells
  have ⟨t0, t1, t2, t3, t4, t5⟩ := HT1.out.cells
  dsimp only at t0 t1 t2 t3 t4 t5
  have ⟨r0, r1, r2, r3, r4, r5, r6⟩ := HS1.out.cells
  have ⟨z0, z1, z2, z3, z4, z5, z6⟩ := HS1.out.thaw
  simp only [zeroSt] at r0 r1 r2 r3 r4 r5 r6
  have hl : w.heap.size + 2 < W1.heap.size := HS1.out.lt
  go_wp2
  exact st_ret3 (y := x) rfl rfl rfl rfl (HS1.out.put x) Tryz.underlying39 rfl (by kernel_rfl) rfl ⟨by rw [HE.out], below_putSt B1.out (by omega) x⟩

set_option maxHeartbeats 1000000 in
set_option maxRecDepth 100000 in
theorem spec_step9 (x : St) (a b c p n : Int) (w : World) (hp : pendB x = false) : Calls Tryz.prog 113 #[stV x, tokV ⟨9, a, b, c, p, n⟩] w (StpDone (stepT x ⟨9, a, b, c, p, n⟩) w) := by
  have HE : Hid (stepT x ⟨9, a, b, c, p, n⟩ = ⟨x, -1, 10⟩) := Lib.hid (by rw [stepT, if_neg (by simp), if_neg (by simp), if_neg (by rw [hp]; decide), calm, if_neg (by simp), if_neg (by simp), if_neg (by simp), if_neg (by simp), if_neg (by simp), if_neg (by simp)])
  have HP := Lib.hid (fun w => spec_l04Pending x w)
  rw [hp] at HP
  clear hp
  unfold stV at HP ⊢
  have ⟨hB0, hT0, hS0, b0⟩ := step_blocks w x ⟨9, a, b, c, p, n⟩
  dsimp only at hB0 hT0 hS0 b0
  have HB0 := Lib.hid hB0
  have HT0 := Lib.hid hT0
  have HS0 := Lib.hid hS0
  have B0 := Lib.hid b0
  clear hB0 hT0 hS0 b0
  unfold tokV
  go_enter Tryz.func113, Tryz.ntmps113
  go_wp2_with fail
  refine (HP.out _).mono ?_
  generalize (((w.alloc (.cells #[.int .i64 x.g0, .int .i64 x.g1, .int .i64 x.g2, .int .i64 x.g3, .int .i64 x.l, .int .i64 x.s, .int .i64 x.d] 39)).alloc (.cells #[.int .i64 9, .int .i64 a, .int .i64 b, .int .i64 c, .int .i64 p, .int .i64 n] 102)).alloc (.cells #[.int .i64 0, .int .i64 0, .int .i64 0, .int .i64 0, .int .i64 0, .int .i64 0, .int .i64 0] 39)) = W0 at *
  rintro e W1 ⟨rfl, b1⟩
  have B1 : Hid (Below w.heap.size w W1) := Lib.hid (B0.out.trans (b1.mono B0.out.size))
  have HB1 := Lib.hid (HB0.out.keep b1)
  have HT1 := Lib.hid (HT0.out.keep b1)
  have HS1 := Lib.hid (HS0.out.keep b1)
  clear b1 HB0 HT0 HS0 B0
  have ⟨y0, y1, y2, y3, y4, y5, y6⟩ := HB1.out.cells
  have ⟨t0, t1, t2, t3, t4, t5⟩ := HT1.out.cells
  dsimp only at t0 t1 t2 t3 t4 t5
  have ⟨r0, r1, r2, r3, r4, r5, r6⟩ := HS1.out.cells
  have ⟨z0, z1, z2, z3, z4, z5, z6⟩ := HS1.out.thaw
  simp only [zeroSt] at r0 r1 r2 r3 r4 r5 r6
  have hl : w.heap.size + 2 < W1.heap.size := HS1.out.lt
  go_wp2
  exact st_ret3 (y := x) rfl rfl rfl rfl (HS1.out.put x) Tryz.underlying39 rfl (by kernel_rfl) rfl ⟨by rw [HE.out], below_putSt B1.out (by omega) x⟩

theorem spec_l04Step (x : St) (t : Tok) (w : World) (hx : stOKB x = true) (ht : tokLP t) : Calls Tryz.prog 113 #[stV x, tokV t] w (StpDone (stepT x t) w) := by
  obtain ⟨k, a, b, c, p, n⟩ := t
  have hk : k = 1 ∨ k = 2 ∨ k = 3 ∨ k = 4 ∨ k = 5 ∨ k = 6 ∨ k = 7 ∨ k = 8 ∨ k = 9 := by unfold tokLP at ht; dsimp only at ht; omega
  by_cases h3 : k = 3
  · subst h3
    exact spec_step3 x a b c p n w hx (by unfold tokLP at ht; dsimp only at ht; omega) (by unfold tokLP at ht; dsimp only at ht; omega)
  by_cases h4 : k = 4
  · subst h4
    exact spec_step4 x a b c p n w hx (by unfold tokLP at ht; dsimp only at ht; omega) (by unfold tokLP at ht; dsimp only at ht; omega)
  cases hp : pendB x
  · rcases hk with rfl | rfl | rfl | rfl | rfl | rfl | rfl | rfl | rfl
    · exact spec_step1 x a b c p n w hp
    · exact spec_step2 x a b c p n w hx hp
    · exact absurd rfl h3
    · exact absurd rfl h4
    · exact spec_step5 x a b c p n w hp
    · exact spec_step6 x a b c p n w hp
    · exact spec_step7 x a b c p n w hp (by unfold tokLP at ht; dsimp only at ht; omega) (by unfold tokLP at ht; dsimp only at ht; omega)
    · exact spec_step8 x a b c p n w hp
    · exact spec_step9 x a b c p n w hp
  · by_cases h2 : k = 2
    · subst h2
      exact spec_stepP2 x a b c p n w hx hp
    · exact spec_stepP x k a b c p n w hp h2 h3 h4

end Go.Proofs.YtbamjhldebobhaaGreatDoor

namespace Go.Proofs.YtbamjhldebobhaaGreatDoor
open Go.RowKit Go.Sort

theorem results_cell_tmp3 {P : Program} {fn : Func} {p u v z : Tmp} {ty : TypeId} (h : fn.results = #[.cell p ty, .tmp u, .tmp v, .tmp z]) (tmps : Array Value) (w : World) (g : Nat) (t : TypeId) (cs : Array Value) (fr : Nat × Nat) (d : TypeDesc)
    (hp : tmps.getD p undef = .pointer (some ⟨g, 0, none⟩)) (hg : w.heap[g]? = some (.cells cs t fr))
    (hu : P.underlying ty = some d) (hd : (match d with | .struct _ | .array _ _ => true | _ => false) = true) (hi : (P.info? ty).map (·.size) = some cs.size) :
    (results fn tmps).run P w = .ok (.tuple #[.agg cs, tmps.getD u undef, tmps.getD v undef, tmps.getD z undef]) w := by
  have h1 : (results fn tmps).run P w = ((asAddr (tmps.getD p undef)).run P w).andThen fun a w₁ => ((loadVar ty a).run P w₁).andThen fun x w₂ => .ok (.tuple #[x, tmps.getD u undef, tmps.getD v undef, tmps.getD z undef]) w₂ := by
    simp only [results, h]
    simp [Sem.run_bind, Result.andThen]
  rw [h1, hp]
  simp [asAddr, run_loadVar_row w g t ty cs fr d hg hu hd hi, Result.andThen]
theorem st_ret4 {P : Program} {fn : Func} {p u v z : Tmp} {a : Act} {w1 : World} {g : Nat} {t ty : TypeId} {fr : Nat × Nat} {d : TypeDesc} {y : St} {r m c : Value} {Q : Ending → World → Prop} (h : fn.results = #[.cell p ty, .tmp u, .tmp v, .tmp z])
    (hp : a.tmps.getD p undef = .pointer (some ⟨g, 0, none⟩)) (hr : a.tmps.getD u undef = r) (hm : a.tmps.getD v undef = m) (hc : a.tmps.getD z undef = c) (hg : w1.heap[g]? = some (.cells #[.int .i64 y.g0, .int .i64 y.g1, .int .i64 y.g2, .int .i64 y.g3, .int .i64 y.l, .int .i64 y.s, .int .i64 y.d] t fr))
    (hu : P.underlying ty = some d) (hd : (match d with | .struct _ | .array _ _ => true | _ => false) = true) (hi : (P.info? ty).map (·.size) = some 7) (hdef : a.defers = []) (hQ : Q (.returned (.tuple #[stV y, r, m, c])) w1) :
    bodyPost P fn Q .ret a w1 :=
  bodyPost_ret (results_cell_tmp3 h _ _ g _ _ _ _ hp hg hu hd hi) hdef (by rw [hr, hm, hc]; exact hQ)

theorem StAt.alloc {w : World} {g : Nat} {x : St} (h : StAt w g x) (o : Obj) : StAt (w.alloc o) g x := h.keep (below_one _ _)

/-- What StepState tells of a step. -/
def toldV (p : Stp) : Value := .tuple #[stV p.y, .int .i64 (if 0 ≤ p.r then p.r else 0), .bool (decide (0 ≤ p.r)), .int .i64 p.c]
def SsDone (x : St) (t : Tok) (w : World) (e : Ending) (w' : World) : Prop := e = .returned (toldV (ssP x t)) ∧ Below w.heap.size w w'
theorem told_bad {p : Stp} {y : St} {c : Int} (h : p = ⟨y, -1, c⟩) : toldV p = .tuple #[stV y, .int .i64 0, .bool false, .int .i64 c] := by rw [h]; rfl
theorem told_none {p : Stp} (h : p.r = -1) : toldV p = .tuple #[stV p.y, .int .i64 0, .bool false, .int .i64 p.c] := by unfold toldV; rw [h]; rfl
theorem told_some {p : Stp} (h : 0 ≤ p.r) : toldV p = .tuple #[stV p.y, .int .i64 p.r, .bool true, .int .i64 p.c] := by unfold toldV; rw [if_pos h, decide_eq_true h]

end Go.Proofs.YtbamjhldebobhaaGreatDoor

namespace Go.Proofs.YtbamjhldebobhaaGreatDoor
open Go.RowKit Go.Sort

set_option maxHeartbeats 1000000 in
set_option maxRecDepth 100000 in
theorem impl_step3 (x : St) (g : Nat) (a b c p n : Int) (w : World) (h : MAt w g x) (ht : TabM w) (hx : stOKB x = true) (a0 : 0 ≤ a) (a1 : a ≤ 255) : Calls Tryz.prog 157 #[.pointer (some ⟨g, 0, none⟩), tokV ⟨3, a, b, c, p, n⟩] w (MvDone (stepT x ⟨3, a, b, c, p, n⟩) g w) := by
  have B0 := Lib.hid (below_one w (.cells #[.int .i64 3, .int .i64 a, .int .i64 b, .int .i64 c, .int .i64 p, .int .i64 n] 102))
  have HM := Lib.hid h
  have HM0 := Lib.hid (h.keep B0.out)
  have HT0 := Lib.hid (ht.keep B0.out)
  have hg : g < w.heap.size := h.lt
  have HG := Lib.hid (fun w h ht => impl_take x g false a w h ht hx a0 a1)
  rw [show sideNo false = 0 from rfl] at HG
  have HE : Hid (stepT x ⟨3, a, b, c, p, n⟩ = graphic x a false) := Lib.hid rfl
  unfold MvDone mvV at HG
  generalize graphic x a false = q at *
  have HV : Hid (mvV q = .tuple #[.int .i64 (toldR q), .bool (toldB q), .int .i64 q.c]) := Lib.hid rfl
  generalize toldR q = tr at *
  generalize toldB q = tb at *
  clear h ht hx
  unfold tokV
  go_enter Tryz.func157, Tryz.ntmps157
  go_wp2_with fail
  refine (HG.out _ HM0.out HT0.out).mono ?_
  rintro e w2 ⟨rfl, m2, o2⟩
  go_wp2
  go_ret3
  refine MvDone.from ⟨?_, ?_, o2⟩ hg B0.out
  · rw [HE.out, HV.out]; rfl
  · rw [HE.out]; exact m2

set_option maxHeartbeats 1000000 in
set_option maxRecDepth 100000 in
theorem impl_step4 (x : St) (g : Nat) (a b c p n : Int) (w : World) (h : MAt w g x) (ht : TabM w) (hx : stOKB x = true) (a0 : 0 ≤ a) (a1 : a ≤ 255) : Calls Tryz.prog 157 #[.pointer (some ⟨g, 0, none⟩), tokV ⟨4, a, b, c, p, n⟩] w (MvDone (stepT x ⟨4, a, b, c, p, n⟩) g w) := by
  have B0 := Lib.hid (below_one w (.cells #[.int .i64 4, .int .i64 a, .int .i64 b, .int .i64 c, .int .i64 p, .int .i64 n] 102))
  have HM := Lib.hid h
  have HM0 := Lib.hid (h.keep B0.out)
  have HT0 := Lib.hid (ht.keep B0.out)
  have hg : g < w.heap.size := h.lt
  have HG := Lib.hid (fun w h ht => impl_take x g true a w h ht hx a0 a1)
  rw [show sideNo true = 128 from rfl] at HG
  have HE : Hid (stepT x ⟨4, a, b, c, p, n⟩ = graphic x a true) := Lib.hid rfl
  unfold MvDone mvV at HG
  generalize graphic x a true = q at *
  have HV : Hid (mvV q = .tuple #[.int .i64 (toldR q), .bool (toldB q), .int .i64 q.c]) := Lib.hid rfl
  generalize toldR q = tr at *
  generalize toldB q = tb at *
  clear h ht hx
  unfold tokV
  go_enter Tryz.func157, Tryz.ntmps157
  go_wp2_with fail
  refine (HG.out _ HM0.out HT0.out).mono ?_
  rintro e w2 ⟨rfl, m2, o2⟩
  go_wp2
  go_ret3
  refine MvDone.from ⟨?_, ?_, o2⟩ hg B0.out
  · rw [HE.out, HV.out]; rfl
  · rw [HE.out]; exact m2

set_option maxHeartbeats 1000000 in
set_option maxRecDepth 100000 in
theorem impl_step2 (x : St) (g : Nat) (a b c p n : Int) (w : World) (h : MAt w g x) (ht : TabM w) (hx : stOKB x = true) : Calls Tryz.prog 157 #[.pointer (some ⟨g, 0, none⟩), tokV ⟨2, a, b, c, p, n⟩] w (MvDone (stepT x ⟨2, a, b, c, p, n⟩) g w) := by
  have B0 := Lib.hid (below_one w (.cells #[.int .i64 2, .int .i64 a, .int .i64 b, .int .i64 c, .int .i64 p, .int .i64 n] 102))
  have HM := Lib.hid h
  have HM0 := Lib.hid (h.keep B0.out)
  have HT0 := Lib.hid (ht.keep B0.out)
  have hg : g < w.heap.size := h.lt
  have HG := Lib.hid (fun w h ht => impl_space x g w h ht hx)
  have HE : Hid (stepT x ⟨2, a, b, c, p, n⟩ = spaceP x) := Lib.hid (space_eq hx _ rfl)
  unfold MvDone mvV at HG
  generalize spaceP x = q at *
  have HV : Hid (mvV q = .tuple #[.int .i64 (toldR q), .bool (toldB q), .int .i64 q.c]) := Lib.hid rfl
  generalize toldR q = tr at *
  generalize toldB q = tb at *
  clear h ht hx
  unfold tokV
  go_enter Tryz.func157, Tryz.ntmps157
  go_wp2_with fail
  refine (HG.out _ HM0.out HT0.out).mono ?_
  rintro e w2 ⟨rfl, m2, o2⟩
  go_wp2
  go_ret3
  refine MvDone.from ⟨?_, ?_, o2⟩ hg B0.out
  · rw [HE.out, HV.out]; rfl
  · rw [HE.out]; exact m2

set_option maxHeartbeats 1000000 in
set_option maxRecDepth 100000 in
theorem impl_stepP (x : St) (g : Nat) (k a b c p n : Int) (w : World) (h : MAt w g x) (ht : TabM w) (hx : stOKB x = true) (hp : pendB x = true) (h2 : k ≠ 2) (h3 : k ≠ 3) (h4 : k ≠ 4) : Calls Tryz.prog 157 #[.pointer (some ⟨g, 0, none⟩), tokV ⟨k, a, b, c, p, n⟩] w (MvDone (stepT x ⟨k, a, b, c, p, n⟩) g w) := by
  have B0 := Lib.hid (below_one w (.cells #[.int .i64 k, .int .i64 a, .int .i64 b, .int .i64 c, .int .i64 p, .int .i64 n] 102))
  have HM := Lib.hid h
  have HM0 := Lib.hid (h.keep B0.out)
  have HT0 := Lib.hid (ht.keep B0.out)
  have hg : g < w.heap.size := h.lt
  have HP := Lib.hid (fun w h => impl_pending x g w h)
  rw [pend_eq hx, hp] at HP
  have HE : Hid (stepT x ⟨k, a, b, c, p, n⟩ = ⟨x, -1, 13⟩) := Lib.hid (by rw [stepT, if_neg h3, if_neg h4, if_pos hp, if_neg (fun h => h2 h.1)])
  have e2 : (k == 2) = false := by rw [beq_eq_false_iff_ne]; exact h2
  have e3 : (k == 3) = false := by rw [beq_eq_false_iff_ne]; exact h3
  have e4 : (k == 4) = false := by rw [beq_eq_false_iff_ne]; exact h4
  clear hp h2 h3 h4
  clear h ht hx
  unfold tokV
  go_enter Tryz.func157, Tryz.ntmps157
  go_wp2_with fail
  refine (HP.out _ HM0.out).mono ?_
  rintro e w2 ⟨rfl, rfl⟩
  go_wp2
  go_ret3
  exact mvDone_none HE.out HM.out B0.out

set_option maxHeartbeats 1000000 in
set_option maxRecDepth 100000 in
theorem impl_step1 (x : St) (g : Nat) (a b c p n : Int) (w : World) (h : MAt w g x) (ht : TabM w) (hx : stOKB x = true) (hp : pendB x = false) (ha : 0 ≤ a) : Calls Tryz.prog 157 #[.pointer (some ⟨g, 0, none⟩), tokV ⟨1, a, b, c, p, n⟩] w (MvDone (stepT x ⟨1, a, b, c, p, n⟩) g w) := by
  have B0 := Lib.hid (below_one w (.cells #[.int .i64 1, .int .i64 a, .int .i64 b, .int .i64 c, .int .i64 p, .int .i64 n] 102))
  have HM := Lib.hid h
  have HM0 := Lib.hid (h.keep B0.out)
  have HT0 := Lib.hid (ht.keep B0.out)
  have hg : g < w.heap.size := h.lt
  have HP := Lib.hid (fun w h => impl_pending x g w h)
  rw [pend_eq hx, hp] at HP
  have HC := Lib.hid (fun w => impl_control a w)
  clear h ht hx
  unfold tokV
  by_cases h1 : 127 < a
  · have HE : Hid (stepT x ⟨1, a, b, c, p, n⟩ = ⟨x, -1, 10⟩) := Lib.hid (by rw [stepT, if_neg (by simp), if_neg (by simp), if_neg (by rw [hp]; decide), calm, if_pos rfl, if_pos h1])
    rw [if_pos h1] at HC
    clear hp h1
    go_enter Tryz.func157, Tryz.ntmps157
    go_wp2_with fail
    refine (HP.out _ HM0.out).mono ?_
    rintro e w2 ⟨rfl, rfl⟩
    go_wp2_with fail
    refine (HC.out _).mono ?_
    rintro e w2 ⟨rfl, rfl⟩
    go_wp2
    go_ret3
    exact mvDone_none HE.out HM.out B0.out
  · have HE : Hid (stepT x ⟨1, a, b, c, p, n⟩ = ⟨x, a, 0⟩) := Lib.hid (by rw [stepT, if_neg (by simp), if_neg (by simp), if_neg (by rw [hp]; decide), calm, if_pos rfl, if_neg h1])
    rw [if_neg h1] at HC
    clear hp h1
    go_enter Tryz.func157, Tryz.ntmps157
    go_wp2_with fail
    refine (HP.out _ HM0.out).mono ?_
    rintro e w2 ⟨rfl, rfl⟩
    go_wp2_with fail
    refine (HC.out _).mono ?_
    rintro e w2 ⟨rfl, rfl⟩
    go_wp2
    go_ret3
    exact mvDone_same HE.out ha HM.out B0.out

/-- What changes the machine tells no character. -/
theorem calm_none {x : St} {t : Tok} (h : 5 ≤ t.k) : (calm x t).r = -1 := by
  unfold calm
  rw [if_neg (by omega), if_neg (by omega)]
  repeat' split
  all_goals rfl
theorem MvDone.ofCh {q : Stp} {g : Nat} {w w' : World} {c : Int} (hr : q.r = -1) (hc : c = q.c) (hm : MAt w' g q.y) (ho : Only g w w') : MvDone q g w (.returned (.tuple #[.int .i64 0, .bool false, .int .i64 c])) w' :=
  ⟨by rw [hc]; unfold mvV toldR toldB; rw [hr]; rfl, hm, ho⟩

set_option maxHeartbeats 1000000 in
set_option maxRecDepth 100000 in
theorem impl_step5 (x : St) (g : Nat) (k a b c p n : Int) (w : World) (h : MAt w g x) (ht : TabM w) (hx : stOKB x = true) (hp : pendB x = false) (hk : tokLP ⟨k, a, b, c, p, n⟩) (h5 : 5 ≤ k) : Calls Tryz.prog 157 #[.pointer (some ⟨g, 0, none⟩), tokV ⟨k, a, b, c, p, n⟩] w (MvDone (stepT x ⟨k, a, b, c, p, n⟩) g w) := by
  have B0 := Lib.hid (below_one w (.cells #[.int .i64 k, .int .i64 a, .int .i64 b, .int .i64 c, .int .i64 p, .int .i64 n] 102))
  have HM := Lib.hid h
  have HM0 := Lib.hid (h.keep B0.out)
  have HT0 := Lib.hid (ht.keep B0.out)
  have hg : g < w.heap.size := h.lt
  have HP := Lib.hid (fun w h => impl_pending x g w h)
  rw [pend_eq hx, hp] at HP
  have HC := Lib.hid (fun w h ht => impl_change x ⟨k, a, b, c, p, n⟩ g w h ht hk h5)
  have HE : Hid (stepT x ⟨k, a, b, c, p, n⟩ = calm x ⟨k, a, b, c, p, n⟩) := Lib.hid (by rw [stepT, if_neg (show ¬ k = 3 by omega), if_neg (show ¬ k = 4 by omega), if_neg (by rw [hp]; decide)])
  have HN := Lib.hid (calm_none (x := x) (t := ⟨k, a, b, c, p, n⟩) h5)
  unfold ChDone tokV at HC
  generalize calm x ⟨k, a, b, c, p, n⟩ = q at *
  have e1 : (k == 1) = false := by rw [beq_eq_false_iff_ne]; omega
  have e2 : (k == 2) = false := by rw [beq_eq_false_iff_ne]; omega
  have e3 : (k == 3) = false := by rw [beq_eq_false_iff_ne]; omega
  have e4 : (k == 4) = false := by rw [beq_eq_false_iff_ne]; omega
  clear hp hk h5
  clear h ht hx
  unfold tokV
  go_enter Tryz.func157, Tryz.ntmps157
  go_wp2_with fail
  refine (HP.out _ HM0.out).mono ?_
  rintro e w2 ⟨rfl, rfl⟩
  go_wp2_with fail
  refine (HC.out _ HM0.out HT0.out).mono ?_
  rintro e w2 ⟨rfl, m2, o2⟩
  go_wp2
  go_ret3
  rw [HE.out]
  exact MvDone.ofCh HN.out rfl m2 ((only_below hg B0.out).trans o2)

theorem impl_step (x : St) (t : Tok) (g : Nat) (w : World) (h : MAt w g x) (ht : TabM w) (hx : stOKB x = true) (hk : tokLP t) : Calls Tryz.prog 157 #[.pointer (some ⟨g, 0, none⟩), tokV t] w (MvDone (stepT x t) g w) := by
  obtain ⟨k, a, b, c, p, n⟩ := t
  have hk9 : 1 ≤ k ∧ k ≤ 9 := by unfold tokLP at hk; dsimp only at hk; omega
  by_cases h3 : k = 3
  · subst h3
    have ha : 0 ≤ a ∧ a ≤ 255 := by unfold tokLP at hk; dsimp only at hk; omega
    exact impl_step3 x g a b c p n w h ht hx ha.1 ha.2
  by_cases h4 : k = 4
  · subst h4
    have ha : 0 ≤ a ∧ a ≤ 255 := by unfold tokLP at hk; dsimp only at hk; omega
    exact impl_step4 x g a b c p n w h ht hx ha.1 ha.2
  by_cases h2 : k = 2
  · subst h2
    exact impl_step2 x g a b c p n w h ht hx
  cases hp : pendB x
  · by_cases h1 : k = 1
    · subst h1
      have ha : 0 ≤ a := by unfold tokLP at hk; dsimp only at hk; omega
      exact impl_step1 x g a b c p n w h ht hx hp ha
    · exact impl_step5 x g k a b c p n w h ht hx hp hk (by omega)
  · exact impl_stepP x g k a b c p n w h ht hx hp h2 h3 h4

end Go.Proofs.YtbamjhldebobhaaGreatDoor

namespace Go.Proofs.YtbamjhldebobhaaGreatDoor
open Go.RowKit Go.Sort

/-- What a reading holds beside the machine. -/
structure RK where
  n : Int
  m : Value
  l : Value

/-- A reading in block b. -/
def RdAt (w : World) (b : Nat) (n : Int) (m : Value) (x : St) (l : Value) : Prop := w.heap[b]? = some (.cells #[.int .i64 n, .string (prName n), .string (prHead n), .slice none 0 0, .bool (prRight n), .bool (prShifts n), .bool (prSingle n), .bool (prReset n), .bool (prClear n), m, .int .i64 x.g0, .int .i64 x.g1, .int .i64 x.g2, .int .i64 x.g3, .int .i64 x.l, .int .i64 x.s, .int .i64 x.d, l] 69)
/-- The same, for what the machine's methods say. -/
def MRt (κ : RK) (w : World) (b : Nat) (x : St) : Prop := RdAt w b κ.n κ.m x κ.l
theorem RdAt.lt {w : World} {g : Nat} {n : Int} {m l : Value} {x : St} (h : RdAt w g n m x l) : g < w.heap.size := (Array.getElem?_eq_some_iff.1 h).1
theorem RdAt.keep {w w' : World} {g : Nat} {n : Int} {m l : Value} {x : St} (h : RdAt w g n m x l) (b : Below w.heap.size w w') : RdAt w' g n m x l := (b.block g h.lt).trans h
theorem RdAt.below {w w' : World} {g B : Nat} {n : Int} {m l : Value} {x : St} (h : RdAt w g n m x l) (b : Below B w w') (hB : g < B) : RdAt w' g n m x l := (b.block g hB).trans h
theorem RdAt.cells {w : World} {g : Nat} {n : Int} {m l : Value} {x : St} (h : RdAt w g n m x l) : w.cell? ⟨g, 0, none⟩ = some (.int .i64 n) ∧ w.cell? ⟨g, 1, none⟩ = some (.string (prName n)) ∧ w.cell? ⟨g, 2, none⟩ = some (.string (prHead n)) ∧ w.cell? ⟨g, 4, none⟩ = some (.bool (prRight n)) ∧ w.cell? ⟨g, 5, none⟩ = some (.bool (prShifts n)) ∧ w.cell? ⟨g, 6, none⟩ = some (.bool (prSingle n)) ∧ w.cell? ⟨g, 7, none⟩ = some (.bool (prReset n)) ∧ w.cell? ⟨g, 8, none⟩ = some (.bool (prClear n)) ∧ w.cell? ⟨g, 9, none⟩ = some m ∧ w.cell? ⟨g, 17, none⟩ = some l := by
  refine ⟨?_, ?_, ?_, ?_, ?_, ?_, ?_, ?_, ?_, ?_⟩ <;> (rw [cell_of_row _ _ _ _ _ _ h]; rfl)
theorem RdAt.frozen {w : World} {g : Nat} {n : Int} {m l : Value} {x : St} (h : RdAt w g n m x l) (i : Nat) : w.frozen? ⟨g, i, none⟩ = false := frozen_of_row w _ i _ _ h
theorem MRt.lt {κ : RK} {w : World} {g : Nat} {x : St} (h : MRt κ w g x) : g < w.heap.size := RdAt.lt h
theorem MRt.keep {κ : RK} {w w' : World} {g : Nat} {x : St} (h : MRt κ w g x) (b : Below w.heap.size w w') : MRt κ w' g x := RdAt.keep h b
theorem MRt.below {κ : RK} {w w' : World} {g B : Nat} {x : St} (h : MRt κ w g x) (b : Below B w w') (hB : g < B) : MRt κ w' g x := RdAt.below h b hB
theorem MRt.cells {κ : RK} {w : World} {g : Nat} {x : St} (h : MRt κ w g x) : w.cell? ⟨g, 10, none⟩ = some (.int .i64 x.g0) ∧ w.cell? ⟨g, 11, none⟩ = some (.int .i64 x.g1) ∧ w.cell? ⟨g, 12, none⟩ = some (.int .i64 x.g2) ∧ w.cell? ⟨g, 13, none⟩ = some (.int .i64 x.g3) ∧ w.cell? ⟨g, 14, none⟩ = some (.int .i64 x.l) ∧ w.cell? ⟨g, 15, none⟩ = some (.int .i64 x.s) ∧ w.cell? ⟨g, 16, none⟩ = some (.int .i64 x.d) := by
  refine ⟨?_, ?_, ?_, ?_, ?_, ?_, ?_⟩ <;> (rw [cell_of_row _ _ _ _ _ _ h]; rfl)
theorem MRt.thaw {κ : RK} {w : World} {g : Nat} {x : St} (h : MRt κ w g x) : w.frozen? ⟨g, 10, none⟩ = false ∧ w.frozen? ⟨g, 11, none⟩ = false ∧ w.frozen? ⟨g, 12, none⟩ = false ∧ w.frozen? ⟨g, 13, none⟩ = false ∧ w.frozen? ⟨g, 14, none⟩ = false ∧ w.frozen? ⟨g, 15, none⟩ = false ∧ w.frozen? ⟨g, 16, none⟩ = false :=
  ⟨frozen_of_row w _ 10 _ _ h, frozen_of_row w _ 11 _ _ h, frozen_of_row w _ 12 _ _ h, frozen_of_row w _ 13 _ _ h, frozen_of_row w _ 14 _ _ h, frozen_of_row w _ 15 _ _ h, frozen_of_row w _ 16 _ _ h⟩

end Go.Proofs.YtbamjhldebobhaaGreatDoor

namespace Go.Proofs.YtbamjhldebobhaaGreatDoor
open Go.RowKit Go.Sort
variable {κ : RK}

theorem impl_pendingR (x : St) (b : Nat) (w : World) (h : MRt κ w b x) : Calls Tryz.prog 41 #[.pointer (some ⟨b, 10, none⟩)] w fun e w' => e = .returned (.bool (pendI x)) ∧ w = w' := by
  have ⟨y0, y1, y2, y3, y4, y5, y6⟩ := h.cells
  clear h
  by_cases hs : x.s = 0
  · have HE : Hid (pendI x = (x.d != 0)) := Lib.hid (by simp [pendI, hs])
    have es : (x.s != 0) = false := by simp [hs]
    go_enter Tryz.func41, Tryz.ntmps41
    go_wp2
    go_ret
    exact ⟨ret_bool HE.out.symm, rfl⟩
  · have HE : Hid (pendI x = true) := Lib.hid (by simp [pendI, hs])
    have es : (x.s != 0) = true := by simpa using hs
    go_enter Tryz.func41, Tryz.ntmps41
    go_wp2
    go_ret
    exact ⟨ret_bool HE.out.symm, rfl⟩

set_option maxHeartbeats 1000000 in
theorem impl_setForR (x : St) (b : Nat) (half : Int) (w : World) (h : MRt κ w b x) (hh : headOK x = true) : Calls Tryz.prog 192 #[.pointer (some ⟨b, 10, none⟩), .int .i64 half] w fun e w' => e = .returned (.int .i64 (setAt x (half == 128))) ∧ Below w.heap.size w w' := by
  have ⟨y0, y1, y2, y3, y4, y5, y6⟩ := h.cells
  clear h
  unfold headOK at hh
  rw [Bool.and_eq_true, Bool.or_eq_true, decide_eq_true_eq] at hh
  have ⟨l0, l3⟩ := inB_true hh.1
  have hs : x.s = 0 ∨ x.s = 2 ∨ x.s = 3 := by
    rcases hh.2 with h2 | h2
    · exact .inl h2
    · have := inB_true h2; omega
  have hl : x.l = 0 ∨ x.l = 1 ∨ x.l = 2 ∨ x.l = 3 := by omega
  clear hh l0 l3
  rcases hs with hs | hs | hs
  · rw [hs] at y5
    cases h8 : (half == 128)
    · rcases hl with hl | hl | hl | hl
      · rw [hl] at y4
        have HE : Hid (setAt x false = x.g0) := Lib.hid (by unfold setAt sideOf; rw [hs, hl, if_neg (by decide), if_neg (by decide)]; rfl)
        rw [HE.out]
        clear hs hl
        go_enter Tryz.func192, Tryz.ntmps192
        go_wp2
        go_quiet (fail)
        go_wp2
        go_ret
        exact ⟨rfl, below_drewN (Below.refl _ _) _⟩
      · rw [hl] at y4
        have HE : Hid (setAt x false = x.g1) := Lib.hid (by unfold setAt sideOf; rw [hs, hl, if_neg (by decide), if_neg (by decide)]; rfl)
        rw [HE.out]
        clear hs hl
        go_enter Tryz.func192, Tryz.ntmps192
        go_wp2
        go_quiet (fail)
        go_wp2
        go_ret
        exact ⟨rfl, below_drewN (Below.refl _ _) _⟩
      · rw [hl] at y4
        have HE : Hid (setAt x false = x.g2) := Lib.hid (by unfold setAt sideOf; rw [hs, hl, if_neg (by decide), if_neg (by decide)]; rfl)
        rw [HE.out]
        clear hs hl
        go_enter Tryz.func192, Tryz.ntmps192
        go_wp2
        go_quiet (fail)
        go_wp2
        go_ret
        exact ⟨rfl, below_drewN (Below.refl _ _) _⟩
      · rw [hl] at y4
        have HE : Hid (setAt x false = x.g3) := Lib.hid (by unfold setAt sideOf; rw [hs, hl, if_neg (by decide), if_neg (by decide)]; rfl)
        rw [HE.out]
        clear hs hl
        go_enter Tryz.func192, Tryz.ntmps192
        go_wp2
        go_quiet (fail)
        go_wp2
        go_ret
        exact ⟨rfl, below_drewN (Below.refl _ _) _⟩
    · have HE : Hid (setAt x true = x.g1) := Lib.hid (by unfold setAt sideOf; rw [hs, if_neg (by decide), if_pos rfl]; rfl)
      rw [HE.out]
      go_enter Tryz.func192, Tryz.ntmps192
      go_wp2
      go_ret
      exact ⟨rfl, Below.refl _ _⟩
  · rw [hs] at y5
    have HE : Hid (setAt x (half == 128) = x.g2) := Lib.hid (by unfold setAt sideOf; rw [hs, if_pos (by decide)]; rfl)
    rw [HE.out]
    go_enter Tryz.func192, Tryz.ntmps192
    go_wp2
    go_quiet (fail)
    go_wp2
    go_ret
    exact ⟨rfl, below_drewN (Below.refl _ _) _⟩
  · rw [hs] at y5
    have HE : Hid (setAt x (half == 128) = x.g3) := Lib.hid (by unfold setAt sideOf; rw [hs, if_pos (by decide)]; rfl)
    rw [HE.out]
    go_enter Tryz.func192, Tryz.ntmps192
    go_wp2
    go_quiet (fail)
    go_wp2
    go_ret
    exact ⟨rfl, below_drewN (Below.refl _ _) _⟩

def MvDoneR (κ : RK) (p : Stp) (b : Nat) (w : World) (e : Ending) (w' : World) : Prop := e = .returned (mvV p) ∧ MRt κ w' b p.y ∧ Only b w w'

theorem mvDone_noneR {x : St} {p : Stp} {b : Nat} {w w' : World} {c : Int} (h : p = ⟨x, -1, c⟩) (hm : MRt κ w b x) (hb : Below w.heap.size w w') : MvDoneR κ p b w (.returned (.tuple #[.int .i64 0, .bool false, .int .i64 c])) w' :=
  ⟨by rw [mv_none h], by rw [h]; exact hm.keep hb, only_below hm.lt hb⟩

theorem mvDone_goneR {x : St} {p : Stp} {b : Nat} {w w' : World} {rr : Int} (h : p = ⟨⟨x.g0, x.g1, x.g2, x.g3, x.l, 0, 0⟩, rr, 0⟩) (hr : 0 ≤ rr) (hm : MRt κ w b x) (hb : Below w.heap.size w w') : MvDoneR κ p b w (.returned (.tuple #[.int .i64 rr, .bool true, .int .i64 0])) ((w'.setCell ⟨b, 15, none⟩ (.int .i64 0)).setCell ⟨b, 16, none⟩ (.int .i64 0)) :=
  ⟨by rw [mv_some h hr], by rw [h]; exact heap_setCell_same _ _ 16 _ _ (.int .i64 0) (heap_setCell_same _ _ 15 _ _ (.int .i64 0) (hm.keep hb)), ((only_below hm.lt hb).trans (Only.set b 15 _ _)).trans (Only.set b 16 _ _)⟩

theorem mvDone_leadR {x : St} {p : Stp} {b : Nat} {w w' : World} {v : Int} (h : p = ⟨⟨x.g0, x.g1, x.g2, x.g3, x.l, x.s, v⟩, -1, 0⟩) (hm : MRt κ w b x) (hb : Below w.heap.size w w') : MvDoneR κ p b w (.returned (.tuple #[.int .i64 0, .bool false, .int .i64 0])) (w'.setCell ⟨b, 16, none⟩ (.int .i64 v)) :=
  ⟨by rw [mv_none h], by rw [h]; exact heap_setCell_same _ _ 16 _ _ (.int .i64 v) (hm.keep hb), (only_below hm.lt hb).trans (Only.set b 16 _ _)⟩

set_option maxHeartbeats 1000000 in
set_option maxRecDepth 100000 in
theorem impl_takeR (x : St) (b : Nat) (r : Bool) (a : Int) (w : World) (h : MRt κ w b x) (ht : TabM w) (hx : stOKB x = true) (a0 : 0 ≤ a) (a1 : a ≤ 255) : Calls Tryz.prog 187 #[.pointer (some ⟨b, 10, none⟩), .int .i64 (sideNo r), .int .i64 a] w (MvDoneR κ (graphic x a r) b w) := by
  obtain ⟨h1, h2, h3⟩ := stOK_parts hx
  have ⟨d0, d1⟩ := lead_range h3
  have HL := Lib.hid (half_lead h3)
  have hs : (sideNo r == 128) = r := by cases r <;> rfl
  have HF := Lib.hid (fun w h => impl_setForR (κ := κ) x b (sideNo r) w h h2)
  rw [hs] at HF
  obtain ⟨k, hk, k8⟩ := setAt_nat h1 r
  rw [hk] at HF
  have HG : Hid (graphic x a r = if (k : Int) = 0 then ⟨x, -1, 17⟩
    else if setKind k = 3 then
      if 0 < x.d ∧ decide (128 < x.d) ≠ r then ⟨x, -1, 13⟩ else if inB a 33 126 = false then ⟨x, -1, 12⟩ else if x.d = 0 then ⟨⟨x.g0, x.g1, x.g2, x.g3, x.l, x.s, a + sideNo r⟩, -1, 0⟩
      else gLast x k (a + (x.d - sideNo r) * 256)
    else gLast x k a) := Lib.hid (by
      have hk' : stGet x (sideOf x r) = (k : Int) := hk
      rw [graphic, hk'])
  have HM := Lib.hid h
  have HT := Lib.hid ht
  have hb : b < w.heap.size := h.lt
  clear h ht hx h1 h2 h3 hk hs
  by_cases k0 : k = 0
  · subst k0
    have HE : Hid (graphic x a r = ⟨x, -1, 17⟩) := Lib.hid (by rw [HG.out, if_pos (show ((0 : Nat) : Int) = 0 from rfl)])
    go_enter Tryz.func187, Tryz.ntmps187
    go_wp2_with fail
    refine (HF.out w HM.out).mono ?_
    rintro e w1 ⟨rfl, b1⟩
    go_wp2
    go_ret3
    exact mvDone_noneR HE.out HM.out b1
  have kz : ¬ (k : Int) = 0 := by omega
  have ek : ((k : Int) == 0) = false := by rw [beq_eq_false_iff_ne]; exact kz
  have hsb : setB (k : Int) = true := by simp [setB, inB]; omega
  have u1 : (0 : Int) ≤ (k : Int) := by omega
  have u2 : (k : Int) < 9 := by omega
  by_cases k3 : setKind (k : Int) = 3
  · have HK : Hid (kind0 (k : Int) = 3) := Lib.hid (by rw [kind0, if_neg kz, k3])
    have HC := Lib.hid (fun w => impl_isCode94 a w)
    have hv : sideNo r = 0 ∨ sideNo r = 128 := by cases r <;> simp [sideNo]
    by_cases z : x.d = 0
    · have HW : Hid (¬ (0 < x.d ∧ decide (128 < x.d) ≠ r)) := Lib.hid (fun h => by omega)
      have ez : (x.d != 0) = false := by simp [z]
      have ez2 : (x.d == 0) = true := by simpa using z
      cases hin : inB a 33 126
      · have HE : Hid (graphic x a r = ⟨x, -1, 12⟩) := Lib.hid (by rw [HG.out, if_neg kz, if_pos k3, if_neg HW.out, if_pos hin])
        rw [hin] at HC
        clear HG HL z k3 kz hsb
        go_enter Tryz.func187, Tryz.ntmps187
        go_wp2_with fail
        refine (HF.out w HM.out).mono ?_
        rintro e w1 ⟨rfl, b1⟩
        have c1 := (HT.out.keep b1).kind k k8
        rw [HK.out] at c1
        have HM1 := Lib.hid (HM.out.keep b1)
        have ⟨y0, y1, y2, y3, y4, y5, y6⟩ := HM1.out.cells
        go_wp2_with fail
        refine (HC.out w1).mono ?_
        rintro e w2 ⟨rfl, rfl⟩
        go_wp2
        go_ret3
        exact mvDone_noneR HE.out HM.out b1
      · have HE : Hid (graphic x a r = ⟨⟨x.g0, x.g1, x.g2, x.g3, x.l, x.s, sideNo r + a⟩, -1, 0⟩) := Lib.hid (by rw [HG.out, if_neg kz, if_pos k3, if_neg HW.out, if_neg (by rw [hin]; decide), if_pos z, Int.add_comm])
        have uw : IntKind.i64.wrap (sideNo r + a) = sideNo r + a := IntWalk.i64_in _ (by omega)
        rw [hin] at HC
        clear HG HL z k3 kz hsb hv
        go_enter Tryz.func187, Tryz.ntmps187
        go_wp2_with fail
        refine (HF.out w HM.out).mono ?_
        rintro e w1 ⟨rfl, b1⟩
        have c1 := (HT.out.keep b1).kind k k8
        rw [HK.out] at c1
        have HM1 := Lib.hid (HM.out.keep b1)
        have ⟨y0, y1, y2, y3, y4, y5, y6⟩ := HM1.out.cells
        go_wp2_with fail
        refine (HC.out w1).mono ?_
        rintro e w2 ⟨rfl, rfl⟩
        have ⟨q0, q1, q2, q3, q4, q5, q6⟩ := HM1.out.thaw
        have hl2 : b < w1.heap.size := HM1.out.lt
        go_wp2
        go_ret3
        exact mvDone_leadR HE.out HM.out b1
    · have hpos : 0 < x.d := by omega
      have ez : (x.d != 0) = true := by simpa using z
      have ez2 : (x.d == 0) = false := by rw [beq_eq_false_iff_ne]; exact z
      have HH := Lib.hid (fun w => impl_halfOf x.d w)
      rw [HL.out z] at HH
      cases hd : (sideNo (decide (128 < x.d)) != sideNo r)
      · have hd2 : decide (128 < x.d) = r := by
          cases h : decide (128 < x.d) <;> cases r <;> rw [h] at hd <;> first | rfl | (revert hd; decide)
        have HW : Hid (¬ (0 < x.d ∧ decide (128 < x.d) ≠ r)) := Lib.hid (fun h => h.2 hd2)
        have hdr : 128 ≤ x.d ∨ sideNo r = 0 := by
          cases r
          · exact .inr rfl
          · have := of_decide_eq_true hd2; exact .inl (by omega)
        generalize sideNo (decide (128 < x.d)) = hf at *
        cases hin : inB a 33 126
        · have HE : Hid (graphic x a r = ⟨x, -1, 12⟩) := Lib.hid (by rw [HG.out, if_neg kz, if_pos k3, if_neg HW.out, if_pos hin])
          rw [hin] at HC
          clear HG HL z k3 kz hsb hd2
          go_enter Tryz.func187, Tryz.ntmps187
          go_wp2_with fail
          refine (HF.out w HM.out).mono ?_
          rintro e w1 ⟨rfl, b1⟩
          have c1 := (HT.out.keep b1).kind k k8
          rw [HK.out] at c1
          have HM1 := Lib.hid (HM.out.keep b1)
          have ⟨y0, y1, y2, y3, y4, y5, y6⟩ := HM1.out.cells
          go_wp2_with fail
          refine (HH.out w1).mono ?_
          rintro e w2 ⟨rfl, rfl⟩
          go_wp2_with fail
          refine (HC.out w1).mono ?_
          rintro e w2 ⟨rfl, rfl⟩
          go_wp2
          go_ret3
          exact mvDone_noneR HE.out HM.out b1
        · have HE : Hid (graphic x a r = gLast x k ((x.d - sideNo r) * 256 + a)) := Lib.hid (by rw [HG.out, if_neg kz, if_pos k3, if_neg HW.out, if_neg (by rw [hin]; decide), if_neg z, Int.add_comm])
          have hA : 0 ≤ (x.d - sideNo r) * 256 + a := by omega
          have HR := Lib.hid (rf_told hsb hA x)
          have HU := Lib.hid (fun w ht => impl_RuneFor (k : Int) ((x.d - sideNo r) * 256 + a) w ht (by omega) (by omega))
          have uw1 : IntKind.i64.wrap (x.d - sideNo r) = x.d - sideNo r := IntWalk.i64_in _ (by omega)
          have uw2 : IntKind.i64.wrap ((x.d - sideNo r) * 256) = (x.d - sideNo r) * 256 := IntWalk.i64_in _ (by omega)
          have uw3 : IntKind.i64.wrap ((x.d - sideNo r) * 256 + a) = (x.d - sideNo r) * 256 + a := IntWalk.i64_in _ (by omega)
          rw [hin] at HC
          unfold rfV at HU
          clear HG HL z k3 kz hsb hd2
          generalize rfR (k : Int) ((x.d - sideNo r) * 256 + a) = rr at *
          generalize rfC (k : Int) ((x.d - sideNo r) * 256 + a) = rc at *
          go_enter Tryz.func187, Tryz.ntmps187
          go_wp2_with fail
          refine (HF.out w HM.out).mono ?_
          rintro e w1 ⟨rfl, b1⟩
          have c1 := (HT.out.keep b1).kind k k8
          rw [HK.out] at c1
          have HM1 := Lib.hid (HM.out.keep b1)
          have ⟨y0, y1, y2, y3, y4, y5, y6⟩ := HM1.out.cells
          go_wp2_with fail
          refine (HH.out w1).mono ?_
          rintro e w2 ⟨rfl, rfl⟩
          go_wp2_with fail
          refine (HC.out w1).mono ?_
          rintro e w2 ⟨rfl, rfl⟩
          go_wp2_with fail
          refine (HU.out w1 (HT.out.keep b1).1).mono ?_
          rintro e w2 ⟨rfl, b2⟩
          have B2 : Below w.heap.size w w2 := b1.trans (b2.mono b1.size)
          clear y0 y1 y2 y3 y4 y5 y6 c1
          by_cases hc : rc = 0
          · have ⟨hE, hr⟩ := HR.out.1 hc
            have HE2 : Hid (graphic x a r = ⟨⟨x.g0, x.g1, x.g2, x.g3, x.l, 0, 0⟩, rr, 0⟩) := Lib.hid (HE.out.trans hE)
            have HM2 := Lib.hid (HM.out.keep B2)
            have ⟨y0, y1, y2, y3, y4, y5, y6⟩ := HM2.out.cells
            have ⟨q0, q1, q2, q3, q4, q5, q6⟩ := HM2.out.thaw
            have hl2 : b < w2.heap.size := HM2.out.lt
            clear hE
            go_wp2
            go_ret3
            exact mvDone_goneR HE2.out hr HM.out B2
          · have HE2 : Hid (graphic x a r = ⟨x, -1, 12⟩) := Lib.hid (HE.out.trans (HR.out.2 hc))
            have ec : (rc != 0) = true := by simpa using hc
            go_wp2
            go_ret3
            exact mvDone_noneR HE2.out HM.out B2
      · have hd2 : decide (128 < x.d) ≠ r := fun h => by rw [h] at hd; simp at hd
        have HE : Hid (graphic x a r = ⟨x, -1, 13⟩) := Lib.hid (by rw [HG.out, if_neg kz, if_pos k3, if_pos ⟨hpos, hd2⟩])
        generalize sideNo (decide (128 < x.d)) = hf at *
        clear HG HL z k3 kz hsb hd2
        go_enter Tryz.func187, Tryz.ntmps187
        go_wp2_with fail
        refine (HF.out w HM.out).mono ?_
        rintro e w1 ⟨rfl, b1⟩
        have c1 := (HT.out.keep b1).kind k k8
        rw [HK.out] at c1
        have HM1 := Lib.hid (HM.out.keep b1)
        have ⟨y0, y1, y2, y3, y4, y5, y6⟩ := HM1.out.cells
        go_wp2_with fail
        refine (HH.out w1).mono ?_
        rintro e w2 ⟨rfl, rfl⟩
        go_wp2
        go_ret3
        exact mvDone_noneR HE.out HM.out b1
  · have HE : Hid (graphic x a r = gLast x k a) := Lib.hid (by rw [HG.out, if_neg kz, if_neg k3])
    have HR := Lib.hid (rf_told hsb a0 x)
    have HU := Lib.hid (fun w ht => impl_RuneFor (k : Int) a w ht (by omega) (by omega))
    have e3 : (setKind (k : Int) == 3) = false := by rw [beq_eq_false_iff_ne]; exact k3
    have HK : Hid (kind0 (k : Int) = setKind k) := Lib.hid (by rw [kind0, if_neg kz])
    clear k3 kz hsb HG
    unfold rfV at HU
    generalize rfR (k : Int) a = rr at *
    generalize rfC (k : Int) a = rc at *
    go_enter Tryz.func187, Tryz.ntmps187
    go_wp2_with fail
    refine (HF.out w HM.out).mono ?_
    rintro e w1 ⟨rfl, b1⟩
    have c1 := (HT.out.keep b1).kind k k8
    rw [HK.out] at c1
    generalize setKind (k : Int) = kd at *
    go_wp2_with fail
    refine (HU.out w1 (HT.out.keep b1).1).mono ?_
    rintro e w2 ⟨rfl, b2⟩
    have B2 : Below w.heap.size w w2 := b1.trans (b2.mono b1.size)
    by_cases hc : rc = 0
    · have ⟨hE, hr⟩ := HR.out.1 hc
      have HE2 : Hid (graphic x a r = ⟨⟨x.g0, x.g1, x.g2, x.g3, x.l, 0, 0⟩, rr, 0⟩) := Lib.hid (HE.out.trans hE)
      have HM2 := Lib.hid (HM.out.keep B2)
      have ⟨y0, y1, y2, y3, y4, y5, y6⟩ := HM2.out.cells
      have ⟨q0, q1, q2, q3, q4, q5, q6⟩ := HM2.out.thaw
      have hl2 : b < w2.heap.size := HM2.out.lt
      clear hE c1
      go_wp2
      go_ret3
      exact mvDone_goneR HE2.out hr HM.out B2
    · have HE2 : Hid (graphic x a r = ⟨x, -1, 12⟩) := Lib.hid (HE.out.trans (HR.out.2 hc))
      have ec : (rc != 0) = true := by simpa using hc
      go_wp2
      go_ret3
      exact mvDone_noneR HE2.out HM.out B2

end Go.Proofs.YtbamjhldebobhaaGreatDoor

namespace Go.Proofs.YtbamjhldebobhaaGreatDoor
open Go.RowKit

theorem GuAt.new (w : World) (n : Int) (m : Value) : GuAt (w.alloc (.cells #[.int .i64 n, .string (prName n), .string (prHead n), .slice none 0 0, .bool (prRight n), .bool (prShifts n), .bool (prSingle n), .bool (prReset n), .bool (prClear n), m] 63)) w.heap.size n m := heap_alloc_new _ _

/-- What endLine leaves: the code, the machine. -/
def elC (n : Int) (x : St) : Int := if restB n x = true then 0 else 14
def elX (n : Int) (x : St) : St := if restB n x = true then lineX n x else x
def ElDone (n : Int) (x : St) (b : Nat) (w : World) (e : Ending) (w' : World) : Prop := e = .returned (.int .i64 (elC n x)) ∧ MAt w' b (elX n x) ∧ Only b w w'
theorem elDone {n : Int} {x y : St} {b : Nat} {w w' : World} {c : Int} (hc : elC n x = c) (hy : elX n x = y) (hm : MAt w' b y) (ho : Only b w w') : ElDone n x b w (.returned (.int .i64 c)) w' := ⟨by rw [hc], by rw [hy]; exact hm, ho⟩
theorem putM_row {w : World} {g : Nat} {x : St} (h : MAt w g x) (y : St) : MAt (putSt w g y) g y := by
  have k0 : (w.setCell ⟨g, 0, none⟩ (.int .i64 y.g0)).heap[g]? = some (.cells #[.int .i64 y.g0, .int .i64 x.g1, .int .i64 x.g2, .int .i64 x.g3, .int .i64 x.l, .int .i64 x.s, .int .i64 x.d] 67) := heap_setCell_same _ g 0 _ _ (.int .i64 y.g0) h
  have k1 : ((w.setCell ⟨g, 0, none⟩ (.int .i64 y.g0)).setCell ⟨g, 1, none⟩ (.int .i64 y.g1)).heap[g]? = some (.cells #[.int .i64 y.g0, .int .i64 y.g1, .int .i64 x.g2, .int .i64 x.g3, .int .i64 x.l, .int .i64 x.s, .int .i64 x.d] 67) := heap_setCell_same _ g 1 _ _ (.int .i64 y.g1) k0
  have k2 : (((w.setCell ⟨g, 0, none⟩ (.int .i64 y.g0)).setCell ⟨g, 1, none⟩ (.int .i64 y.g1)).setCell ⟨g, 2, none⟩ (.int .i64 y.g2)).heap[g]? = some (.cells #[.int .i64 y.g0, .int .i64 y.g1, .int .i64 y.g2, .int .i64 x.g3, .int .i64 x.l, .int .i64 x.s, .int .i64 x.d] 67) := heap_setCell_same _ g 2 _ _ (.int .i64 y.g2) k1
  have k3 : ((((w.setCell ⟨g, 0, none⟩ (.int .i64 y.g0)).setCell ⟨g, 1, none⟩ (.int .i64 y.g1)).setCell ⟨g, 2, none⟩ (.int .i64 y.g2)).setCell ⟨g, 3, none⟩ (.int .i64 y.g3)).heap[g]? = some (.cells #[.int .i64 y.g0, .int .i64 y.g1, .int .i64 y.g2, .int .i64 y.g3, .int .i64 x.l, .int .i64 x.s, .int .i64 x.d] 67) := heap_setCell_same _ g 3 _ _ (.int .i64 y.g3) k2
  have k4 : (((((w.setCell ⟨g, 0, none⟩ (.int .i64 y.g0)).setCell ⟨g, 1, none⟩ (.int .i64 y.g1)).setCell ⟨g, 2, none⟩ (.int .i64 y.g2)).setCell ⟨g, 3, none⟩ (.int .i64 y.g3)).setCell ⟨g, 4, none⟩ (.int .i64 y.l)).heap[g]? = some (.cells #[.int .i64 y.g0, .int .i64 y.g1, .int .i64 y.g2, .int .i64 y.g3, .int .i64 y.l, .int .i64 x.s, .int .i64 x.d] 67) := heap_setCell_same _ g 4 _ _ (.int .i64 y.l) k3
  have k5 : ((((((w.setCell ⟨g, 0, none⟩ (.int .i64 y.g0)).setCell ⟨g, 1, none⟩ (.int .i64 y.g1)).setCell ⟨g, 2, none⟩ (.int .i64 y.g2)).setCell ⟨g, 3, none⟩ (.int .i64 y.g3)).setCell ⟨g, 4, none⟩ (.int .i64 y.l)).setCell ⟨g, 5, none⟩ (.int .i64 y.s)).heap[g]? = some (.cells #[.int .i64 y.g0, .int .i64 y.g1, .int .i64 y.g2, .int .i64 y.g3, .int .i64 y.l, .int .i64 y.s, .int .i64 x.d] 67) := heap_setCell_same _ g 5 _ _ (.int .i64 y.s) k4
  have k6 : (((((((w.setCell ⟨g, 0, none⟩ (.int .i64 y.g0)).setCell ⟨g, 1, none⟩ (.int .i64 y.g1)).setCell ⟨g, 2, none⟩ (.int .i64 y.g2)).setCell ⟨g, 3, none⟩ (.int .i64 y.g3)).setCell ⟨g, 4, none⟩ (.int .i64 y.l)).setCell ⟨g, 5, none⟩ (.int .i64 y.s)).setCell ⟨g, 6, none⟩ (.int .i64 y.d)).heap[g]? = some (.cells #[.int .i64 y.g0, .int .i64 y.g1, .int .i64 y.g2, .int .i64 y.g3, .int .i64 y.l, .int .i64 y.s, .int .i64 y.d] 67) := heap_setCell_same _ g 6 _ _ (.int .i64 y.d) k5
  exact k6
theorem only_putSt (b : Nat) (w : World) (y : St) : Only b w (putSt w b y) := ((((((Only.set b 0 w _).trans (Only.set b 1 _ _)).trans (Only.set b 2 _ _)).trans (Only.set b 3 _ _)).trans (Only.set b 4 _ _)).trans (Only.set b 5 _ _)).trans (Only.set b 6 _ _)

set_option maxHeartbeats 1000000 in
theorem impl_endLine (n : Int) (x : St) (m : Value) (g b : Nat) (w : World) (hg : GuAt w g n m) (hm : MAt w b x) (hx : stOKB x = true) : Calls Tryz.prog 158 #[.pointer (some ⟨g, 0, none⟩), .pointer (some ⟨b, 0, none⟩)] w (ElDone n x b w) := by
  have HR := Lib.hid (fun w hg hm => impl_atRest n x m g b w hg hm hx)
  have HG := Lib.hid hg
  have HM := Lib.hid hm
  have HS := Lib.hid (fun w => impl_startOf n w)
  have HF := Lib.hid (fun y w => impl_machineOf y w)
  unfold StDone stV at HS HF
  have ⟨c0, c1, c2, c3, c4, c5, c6, c7, c8, c9⟩ := row10_cells hg
  clear c1 c2 c3 c4 c5 c6 c7 c9 hg hm hx
  cases hr : restB n x
  · have HC : Hid (elC n x = 14) := Lib.hid (by simp [elC, hr])
    have HX : Hid (elX n x = x) := Lib.hid (by simp [elX, hr])
    rw [hr] at HR
    clear hr
    go_enter Tryz.func158, Tryz.ntmps158
    go_wp2_with fail
    refine (HR.out _ HG.out HM.out).mono ?_
    rintro e w1 ⟨rfl, rfl⟩
    go_wp2
    go_ret
    exact elDone HC.out HX.out HM.out (Only.refl _ _)
  · have HC : Hid (elC n x = 0) := Lib.hid (by simp [elC, hr])
    cases hc : prClear n
    · have HX : Hid (elX n x = x) := Lib.hid (by simp [elX, hr, lineX, hc])
      rw [hr] at HR
      rw [hc] at c8
      clear hr hc
      go_enter Tryz.func158, Tryz.ntmps158
      go_wp2_with fail
      refine (HR.out _ HG.out HM.out).mono ?_
      rintro e w1 ⟨rfl, rfl⟩
      go_wp2
      go_ret
      exact elDone HC.out HX.out HM.out (Only.refl _ _)
    · have HX : Hid (elX n x = startP n) := Lib.hid (by simp [elX, hr, lineX, hc])
      rw [hr] at HR
      rw [hc] at c8
      clear hr hc
      generalize startP n = y at *
      go_enter Tryz.func158, Tryz.ntmps158
      go_wp2_with fail
      refine (HR.out _ HG.out HM.out).mono ?_
      rintro e w1 ⟨rfl, rfl⟩
      go_wp2_with fail
      refine (HS.out _).mono ?_
      rintro e w1 ⟨rfl, b1⟩
      go_wp2_with fail
      refine (HF.out y _).mono ?_
      rintro e w2 ⟨rfl, b2⟩
      have O2 : Hid (Only b w w2) := Lib.hid (only_below HM.out.lt (b1.trans (b2.mono b1.size)))
      have HM2 := Lib.hid (HM.out.keep (b1.trans (b2.mono b1.size)))
      clear b1 b2 c0 c8
      have ⟨r0, r1, r2, r3, r4, r5, r6⟩ := HM2.out.cells
      have ⟨z0, z1, z2, z3, z4, z5, z6⟩ := HM2.out.thaw
      have hl : b < w2.heap.size := HM2.out.lt
      go_wp2
      go_ret
      exact elDone HC.out HX.out (putM_row HM2.out y) (O2.out.trans (only_putSt b w2 y))

theorem elC_le {n : Int} {x : St} (h1 : proB n = true) (h2 : stOKB x = true) : leC n x = elC n x ∧ leX n x = elX n x := by
  unfold leX leC elC elX
  rw [h1, h2]
  cases restB n x <;> simp

end Go.Proofs.YtbamjhldebobhaaGreatDoor

namespace Go.Proofs.YtbamjhldebobhaaGreatDoor
open Go.RowKit Go.Sort

/-- A list holds a number. -/
def hasB (zs : List Int) (n : Int) : Bool := zs.contains n
theorem hasB_iff (zs : List Int) (n : Int) : hasB zs n = true ↔ n ∈ zs := by simp [hasB]
theorem hasB_take (zs : List Int) (k : Nat) (n : Int) (h : k < zs.length) : hasB (zs.take (k + 1)) n = (hasB (zs.take k) n || decide (zs.getD k 0 = n)) := by
  rw [Bool.eq_iff_iff, hasB_iff, Bool.or_eq_true, hasB_iff, decide_eq_true_eq, List.take_succ_eq_append_getElem h, List.mem_append, List.mem_singleton]
  simp only [List.getD, List.getElem?_eq_getElem h, Option.getD_some]
  constructor
  · rintro (h | h)
    · exact .inl h
    · exact .inr h.symm
  · rintro (h | h)
    · exact .inl h
    · exact .inr h.symm

set_option maxHeartbeats 400000 in
theorem spec_l05In (v : Value) (zs : List Int) (n : Int) (w : World) (h : Ints .i64 w v zs) (hl : zs.length ≤ 1048576) : Calls Tryz.prog 150 #[v, .int .i64 n] w fun e w' => e = .returned (.bool (hasB zs n)) ∧ w = w' := by
  rcases h with ⟨rfl, a, c, rfl⟩ | ⟨b, off, c, rfl, hcell⟩
  · go_enter Tryz.func150, Tryz.ntmps150
    go_wp2
    go_loop [5] (fun i => i = .int .i64 0) (fun _ => 0)
    case atStart => rfl
    case round =>
      subst hrel
      go_wp2
      go_ret
      exact ⟨ret_bool rfl, rfl⟩
  · generalize hm : zs.length = m at *
    have HM := Lib.hid hm
    clear hm
    go_enter Tryz.func150, Tryz.ntmps150
    go_wp2
    go_loop [5] (fun i => ∃ j : Nat, j ≤ m ∧ i = .int .i64 j ∧ Hid (hasB (zs.take j) n = false)) (fun i => m - (intOf i).toNat)
    case atStart => exact ⟨0, Nat.zero_le _, rfl, Lib.hid rfl⟩
    case round =>
      obtain ⟨j, hj, rfl, HJ⟩ := hrel
      by_cases hlt : j < m
      · have c1 := hcell j hlt
        have e1 : (0 : Int) ≤ (j : Int) := by omega
        have e2 : (j : Int) < (m : Int) := by omega
        have HT := Lib.hid (hasB_take zs j n (by have := HM.out; omega))
        generalize zs.getD j 0 = z at *
        clear hcell
        by_cases hz : z = n
        · have ez : (z == n) = true := by simp [hz]
          have HE : Hid (hasB zs n = true) := Lib.hid (by
            have h1 : hasB (zs.take (j + 1)) n = true := by rw [HT.out, hz]; simp
            rw [hasB_iff] at h1 ⊢
            exact List.mem_of_mem_take h1)
          clear hz
          go_wp2
          go_ret
          exact ⟨ret_bool HE.out.symm, rfl⟩
        · have ez : (z == n) = false := by simp [hz]
          have HN : Hid (hasB (zs.take (j + 1)) n = false) := Lib.hid (by
            rw [HT.out, HJ.out]
            simp [hz])
          clear hz
          go_wp2
          go_round
          case rel => exact ⟨j + 1, by omega, by go_num, HN⟩
          case measure => simp [intOf]; omega
      · have HE : Hid (hasB zs n = false) := Lib.hid (by
          have h := HJ.out
          rw [List.take_of_length_le (by have := HM.out; omega)] at h
          exact h)
        go_wp2
        go_ret
        exact ⟨ret_bool HE.out.symm, rfl⟩

theorem l05_blocks (w : World) (n : Int) (v : Value) (t : Tok) : PrAt ((w.alloc (.cells #[.string (prName n), .string (prHead n), v, .bool (prRight n), .bool (prShifts n), .bool (prSingle n), .bool (prReset n), .bool (prClear n)] 60)).alloc (.cells #[.int .i64 t.k, .int .i64 t.a, .int .i64 t.b, .int .i64 t.c, .int .i64 t.p, .int .i64 t.n] 102)) w.heap.size n v ∧ TokAt ((w.alloc (.cells #[.string (prName n), .string (prHead n), v, .bool (prRight n), .bool (prShifts n), .bool (prSingle n), .bool (prReset n), .bool (prClear n)] 60)).alloc (.cells #[.int .i64 t.k, .int .i64 t.a, .int .i64 t.b, .int .i64 t.c, .int .i64 t.p, .int .i64 t.n] 102)) (w.heap.size + 1) t ∧
    Below w.heap.size w ((w.alloc (.cells #[.string (prName n), .string (prHead n), v, .bool (prRight n), .bool (prShifts n), .bool (prSingle n), .bool (prReset n), .bool (prClear n)] 60)).alloc (.cells #[.int .i64 t.k, .int .i64 t.a, .int .i64 t.b, .int .i64 t.c, .int .i64 t.p, .int .i64 t.n] 102)) :=
  ⟨heap_alloc2_old _ _ _, heap_alloc2_new _ _ _, below_two _ _ _⟩
theorem SetsAt.pick {w : World} {v : Value} {n : Int} (h : SetsAt w v n) (a : Int) (a0 : 0 ≤ a) (a3 : a ≤ 3) : ∃ g c u, v = .slice (some ⟨g, 0, none⟩) 4 c ∧ w.cell? ⟨g, a.toNat, none⟩ = some u ∧ Ints .i64 w u (prSets n a) := by
  obtain ⟨g, c, v0, v1, v2, v3, rfl, c0, c1, c2, c3, i0, i1, i2, i3⟩ := h
  rcases (show a = 0 ∨ a = 1 ∨ a = 2 ∨ a = 3 by omega) with rfl | rfl | rfl | rfl
  · exact ⟨g, c, v0, rfl, c0, i0⟩
  · exact ⟨g, c, v1, rfl, c1, i1⟩
  · exact ⟨g, c, v2, rfl, c2, i2⟩
  · exact ⟨g, c, v3, rfl, c3, i3⟩
theorem prSets_few (n a : Int) : (prSets n a).length ≤ 1048576 := by
  unfold prSets prSet0 prSet1 prSet2
  repeat' split
  all_goals decide

set_option maxHeartbeats 2000000 in
theorem spec_allows7 (n : Int) (v : Value) (a b c p m : Int) (w : World) (hv : SetsAt w v n) (a0 : 0 ≤ a) (a3 : a ≤ 3) : Calls Tryz.prog 112 #[prV n v, tokV ⟨7, a, b, c, p, m⟩] w fun e w' => e = .returned (.bool (allowB n ⟨7, a, b, c, p, m⟩)) ∧ Below w.heap.size w w' := by
  have ⟨hA, hK, hb⟩ := l05_blocks w n v ⟨7, a, b, c, p, m⟩
  have HA := Lib.hid hA
  have HK := Lib.hid hK
  have B0 := Lib.hid hb
  obtain ⟨gs, cs, u, rfl, hu, hI⟩ := (hv.keep hb).pick a a0 a3
  clear hA hK hb hv
  dsimp only at HA HK B0 hu hI
  obtain ⟨j, rfl⟩ : ∃ j : Nat, a = (j : Int) := ⟨a.toNat, by omega⟩
  have hj : (j : Int) < 4 := by omega
  rw [Int.toNat_natCast] at hu
  have HE : Hid (allowB n ⟨7, (j : Int), b, c, p, m⟩ = hasB (prSets n j) (findNo b c)) := Lib.hid (by simp only [allowB, hasB]; rfl)
  have hf := prSets_few n j
  unfold prV tokV
  generalize prSets n j = zs at *
  have ⟨_, t1, t2, t3, _, _⟩ := HK.out.cells
  have ⟨p2, _, _, _, _, _⟩ := HA.out.cells
  dsimp only at t1 t2 t3
  go_enter Tryz.func112, Tryz.ntmps112
  go_wp2_with fail
  generalize (w.alloc (.cells #[.string (prName n), .string (prHead n), .slice (some ⟨gs, 0, none⟩) 4 cs, .bool (prRight n), .bool (prShifts n), .bool (prSingle n), .bool (prReset n), .bool (prClear n)] 60)).alloc (.cells #[.int .i64 7, .int .i64 (j : Int), .int .i64 b, .int .i64 c, .int .i64 p, .int .i64 m] 102) = W0 at *
  have m1 := cell_regrown t1
  have m2 := cell_regrown t2
  have m3 := cell_regrown t3
  have m4 := cell_regrown p2
  have m5 := cell_regrown hu
  have cF : ∀ d os, Calls Tryz.prog 111 #[.int .i64 b, .int .i64 c] (grow (redrawn W0 d) os) fun e w'' => e = .returned (.int .i64 (findNo b c)) ∧ ∃ p : Regrown, w'' = grow (redrawn W0 p.d) p.os := fun d os => Calls.regrown_of (spec_l02Find b c _)
  have cI : ∀ d os, Calls Tryz.prog 150 #[u, .int .i64 (findNo b c)] (grow (redrawn W0 d) os) fun e w'' => e = .returned (.bool (hasB zs (findNo b c))) ∧ ∃ p : Regrown, w'' = grow (redrawn W0 p.d) p.os := fun d os => Calls.regrown_of ((spec_l05In u zs _ _ (hI.keep (below_regrown W0 d os)) hf).mono fun e w' ⟨h1, h2⟩ => ⟨h1, h2 ▸ Below.refl _ _⟩)
  generalize findNo b c = fb at *
  clear t1 t2 t3 p2 hu hf
  refine wp_region_quiet_below (by kernel_rfl) (by kernel_rfl) ?_
  repeat (quiet_step (first | exact cF _ _ | exact cI _ _))
  refine wpQuiet_nil ?_
  intro w' hw'
  obtain ⟨⟨dq, osq⟩, hw''⟩ := hw'
  have B9 : Hid (Below w.heap.size w w') := Lib.hid (by rw [hw'']; exact B0.out.trans ((below_regrown W0 dq osq).mono B0.out.size))
  clear m1 m2 m3 m4 m5 cF cI hw''
  go_wp2
  go_ret
  exact ⟨ret_bool HE.out.symm, B9.out⟩

/- l05Allows at a kind. -/
set_option maxHeartbeats 1000000 in
theorem spec_allows1 (n : Int) (v : Value) (a b c p m : Int) (w : World) : Calls Tryz.prog 112 #[prV n v, tokV ⟨1, a, b, c, p, m⟩] w fun e w' => e = .returned (.bool (allowB n ⟨1, a, b, c, p, m⟩)) ∧ Below w.heap.size w w' := by
  have ⟨_, _, hb⟩ := l05_blocks w n v ⟨1, a, b, c, p, m⟩
  have B0 := Lib.hid hb
  clear hb
  dsimp only at B0
  have HE : Hid (allowB n ⟨1, a, b, c, p, m⟩ = decide (a < 128)) := Lib.hid (by simp only [allowB]; rfl)
  generalize allowB n ⟨1, a, b, c, p, m⟩ = q at *
  unfold prV tokV
  go_enter Tryz.func112, Tryz.ntmps112
  go_wp2
  go_ret
  exact ⟨ret_bool HE.out.symm, B0.out⟩

set_option maxHeartbeats 1000000 in
theorem spec_allows2 (n : Int) (v : Value) (a b c p m : Int) (w : World) : Calls Tryz.prog 112 #[prV n v, tokV ⟨2, a, b, c, p, m⟩] w fun e w' => e = .returned (.bool (allowB n ⟨2, a, b, c, p, m⟩)) ∧ Below w.heap.size w w' := by
  have ⟨_, _, hb⟩ := l05_blocks w n v ⟨2, a, b, c, p, m⟩
  have B0 := Lib.hid hb
  clear hb
  dsimp only at B0
  have HE : Hid (allowB n ⟨2, a, b, c, p, m⟩ = true) := Lib.hid (by simp only [allowB]; rfl)
  generalize allowB n ⟨2, a, b, c, p, m⟩ = q at *
  unfold prV tokV
  go_enter Tryz.func112, Tryz.ntmps112
  go_wp2
  go_ret
  exact ⟨ret_bool HE.out.symm, B0.out⟩

set_option maxHeartbeats 1000000 in
theorem spec_allows3 (n : Int) (v : Value) (a b c p m : Int) (w : World) : Calls Tryz.prog 112 #[prV n v, tokV ⟨3, a, b, c, p, m⟩] w fun e w' => e = .returned (.bool (allowB n ⟨3, a, b, c, p, m⟩)) ∧ Below w.heap.size w w' := by
  have ⟨_, _, hb⟩ := l05_blocks w n v ⟨3, a, b, c, p, m⟩
  have B0 := Lib.hid hb
  clear hb
  dsimp only at B0
  have HE : Hid (allowB n ⟨3, a, b, c, p, m⟩ = true) := Lib.hid (by simp only [allowB]; rfl)
  generalize allowB n ⟨3, a, b, c, p, m⟩ = q at *
  unfold prV tokV
  go_enter Tryz.func112, Tryz.ntmps112
  go_wp2
  go_ret
  exact ⟨ret_bool HE.out.symm, B0.out⟩

set_option maxHeartbeats 1000000 in
theorem spec_allows4 (n : Int) (v : Value) (a b c p m : Int) (w : World) : Calls Tryz.prog 112 #[prV n v, tokV ⟨4, a, b, c, p, m⟩] w fun e w' => e = .returned (.bool (allowB n ⟨4, a, b, c, p, m⟩)) ∧ Below w.heap.size w w' := by
  have ⟨_, _, hb⟩ := l05_blocks w n v ⟨4, a, b, c, p, m⟩
  have B0 := Lib.hid hb
  clear hb
  dsimp only at B0
  have HE : Hid (allowB n ⟨4, a, b, c, p, m⟩ = prRight n) := Lib.hid (by simp only [allowB]; rfl)
  generalize allowB n ⟨4, a, b, c, p, m⟩ = q at *
  unfold prV tokV
  go_enter Tryz.func112, Tryz.ntmps112
  go_wp2
  go_ret
  exact ⟨ret_bool HE.out.symm, B0.out⟩

set_option maxHeartbeats 1000000 in
theorem spec_allows5 (n : Int) (v : Value) (a b c p m : Int) (w : World) : Calls Tryz.prog 112 #[prV n v, tokV ⟨5, a, b, c, p, m⟩] w fun e w' => e = .returned (.bool (allowB n ⟨5, a, b, c, p, m⟩)) ∧ Below w.heap.size w w' := by
  have ⟨_, _, hb⟩ := l05_blocks w n v ⟨5, a, b, c, p, m⟩
  have B0 := Lib.hid hb
  clear hb
  dsimp only at B0
  cases h : prShifts n
  · have HE : Hid (allowB n ⟨5, a, b, c, p, m⟩ = false) := Lib.hid (by simp only [allowB, h]; rfl)
    generalize allowB n ⟨5, a, b, c, p, m⟩ = q at *
    unfold prV tokV
    rw [h] at B0 ⊢
    go_enter Tryz.func112, Tryz.ntmps112
    go_wp2
    go_ret
    exact ⟨ret_bool HE.out.symm, B0.out⟩
  · have HE : Hid (allowB n ⟨5, a, b, c, p, m⟩ = decide (a < 2)) := Lib.hid (by simp only [allowB, h]; rfl)
    generalize allowB n ⟨5, a, b, c, p, m⟩ = q at *
    unfold prV tokV
    rw [h] at B0 ⊢
    go_enter Tryz.func112, Tryz.ntmps112
    go_wp2
    go_ret
    exact ⟨ret_bool HE.out.symm, B0.out⟩

set_option maxHeartbeats 1000000 in
theorem spec_allows6 (n : Int) (v : Value) (a b c p m : Int) (w : World) : Calls Tryz.prog 112 #[prV n v, tokV ⟨6, a, b, c, p, m⟩] w fun e w' => e = .returned (.bool (allowB n ⟨6, a, b, c, p, m⟩)) ∧ Below w.heap.size w w' := by
  have ⟨_, _, hb⟩ := l05_blocks w n v ⟨6, a, b, c, p, m⟩
  have B0 := Lib.hid hb
  clear hb
  dsimp only at B0
  cases h : prSingle n
  · have HE : Hid (allowB n ⟨6, a, b, c, p, m⟩ = false) := Lib.hid (by simp only [allowB, h]; rfl)
    generalize allowB n ⟨6, a, b, c, p, m⟩ = q at *
    unfold prV tokV
    rw [h] at B0 ⊢
    go_enter Tryz.func112, Tryz.ntmps112
    go_wp2
    go_ret
    exact ⟨ret_bool HE.out.symm, B0.out⟩
  · by_cases h2 : a = 2
    · have HE : Hid (allowB n ⟨6, a, b, c, p, m⟩ = (m == 2)) := Lib.hid (by simp only [allowB, h, h2]; rfl)
      generalize allowB n ⟨6, a, b, c, p, m⟩ = q at *
      unfold prV tokV
      rw [h] at B0 ⊢
      have e2 : (a == 2) = true := by simp [h2]
      clear h2
      go_enter Tryz.func112, Tryz.ntmps112
      go_wp2
      go_ret
      exact ⟨ret_bool HE.out.symm, B0.out⟩
    · have HE : Hid (allowB n ⟨6, a, b, c, p, m⟩ = false) := Lib.hid (by simp [allowB, h, h2])
      generalize allowB n ⟨6, a, b, c, p, m⟩ = q at *
      unfold prV tokV
      rw [h] at B0 ⊢
      have e2 : (a == 2) = false := by simp [h2]
      go_enter Tryz.func112, Tryz.ntmps112
      go_wp2
      go_ret
      exact ⟨ret_bool HE.out.symm, B0.out⟩

set_option maxHeartbeats 1000000 in
theorem spec_allows8 (n : Int) (v : Value) (a b c p m : Int) (w : World) : Calls Tryz.prog 112 #[prV n v, tokV ⟨8, a, b, c, p, m⟩] w fun e w' => e = .returned (.bool (allowB n ⟨8, a, b, c, p, m⟩)) ∧ Below w.heap.size w w' := by
  have ⟨_, _, hb⟩ := l05_blocks w n v ⟨8, a, b, c, p, m⟩
  have B0 := Lib.hid hb
  clear hb
  dsimp only at B0
  have HE : Hid (allowB n ⟨8, a, b, c, p, m⟩ = false) := Lib.hid (by simp only [allowB]; rfl)
  generalize allowB n ⟨8, a, b, c, p, m⟩ = q at *
  unfold prV tokV
  go_enter Tryz.func112, Tryz.ntmps112
  go_wp2
  go_ret
  exact ⟨ret_bool HE.out.symm, B0.out⟩

set_option maxHeartbeats 1000000 in
theorem spec_allows9 (n : Int) (v : Value) (a b c p m : Int) (w : World) : Calls Tryz.prog 112 #[prV n v, tokV ⟨9, a, b, c, p, m⟩] w fun e w' => e = .returned (.bool (allowB n ⟨9, a, b, c, p, m⟩)) ∧ Below w.heap.size w w' := by
  have ⟨_, _, hb⟩ := l05_blocks w n v ⟨9, a, b, c, p, m⟩
  have B0 := Lib.hid hb
  clear hb
  dsimp only at B0
  have HE : Hid (allowB n ⟨9, a, b, c, p, m⟩ = false) := Lib.hid (by simp only [allowB]; rfl)
  generalize allowB n ⟨9, a, b, c, p, m⟩ = q at *
  unfold prV tokV
  go_enter Tryz.func112, Tryz.ntmps112
  go_wp2
  go_ret
  exact ⟨ret_bool HE.out.symm, B0.out⟩

theorem spec_l05Allows (n : Int) (v : Value) (t : Tok) (w : World) (hv : SetsAt w v n) (ht : tokLP t) : Calls Tryz.prog 112 #[prV n v, tokV t] w fun e w' => e = .returned (.bool (allowB n t)) ∧ Below w.heap.size w w' := by
  obtain ⟨k, a, b, c, p, m⟩ := t
  obtain ⟨_, h⟩ := ht
  dsimp only at h
  rcases h with ⟨rfl, _⟩ | ⟨rfl, _⟩ | ⟨rfl, _⟩ | ⟨rfl, _⟩ | ⟨rfl, _⟩ | ⟨rfl, _⟩ | ⟨rfl, a0, a3, _⟩ | ⟨rfl | rfl, _⟩
  · exact spec_allows1 n v a b c p m w
  · exact spec_allows2 n v a b c p m w
  · exact spec_allows3 n v a b c p m w
  · exact spec_allows4 n v a b c p m w
  · exact spec_allows5 n v a b c p m w
  · exact spec_allows6 n v a b c p m w
  · exact spec_allows7 n v a b c p m w hv a0 a3
  · exact spec_allows8 n v a b c p m w
  · exact spec_allows9 n v a b c p m w

end Go.Proofs.YtbamjhldebobhaaGreatDoor

namespace Go.Proofs.YtbamjhldebobhaaGreatDoor
open Go.RowKit Go.MapKept Go.ChangeMaps

/-- A place as a key. -/
def plK (p r : Int) : Value := .agg #[.int .i64 p, .int .i64 r]

theorem equal_place (p r p' r' : Int) (w : World) : (Op.equal 173 (plK p r) (plK p' r')).run Tryz.prog w = .ok ((p == p') && (r == r')) w := by
  have he := Tryz.underlying3
  have q : ∀ (d : Nat) (x y : Int), (Op.equalIn (d + 1) 3 (.int .i64 x) (.int .i64 y)).run Tryz.prog w = .ok (x == y) w := fun d x y => run_equalIn_int w d 3 .i64 .i64 x y he
  unfold Op.equal plK
  rw [show Op.maxDepth = 9998 + 1 + 1 from rfl]
  go_simp
  by_cases h1 : p = p'
  · by_cases h2 : r = r'
    · simp [h1, h2]
    · simp [h1, h2]
  · simp [h1]

theorem check_place (e : Bool) (p r : Int) (w : World) : (Instr.checkKey e 10000 173 (plK p r)).run Tryz.prog w = .ok () w := by
  kernel_rfl

/-- The entries of a map of places, from number k on. -/
def plE : Nat → List ((Int × Int) × Value) → List MapEntry
  | _, [] => []
  | k, e :: t => ⟨plK e.1.1 e.1.2, e.2, k⟩ :: plE (k + 1) t
/-- Where a place's entry stands, and its value. -/
def plIdx (p r : Int) : Nat → List ((Int × Int) × Value) → Option (Nat × Value)
  | _, [] => none
  | i, e :: t => if ((p == e.1.1) && (r == e.1.2)) = true then some (i, e.2) else plIdx p r (i + 1) t
theorem plE_snoc (p r : Int) (v : Value) : ∀ (es : List ((Int × Int) × Value)) (k : Nat), plE k (es ++ [((p, r), v)]) = plE k es ++ [⟨plK p r, v, k + es.length⟩]
  | [], k => by simp [plE]
  | e :: t, k => by simp [plE, plE_snoc p r v t (k + 1)]; omega

theorem find_asking (p r : Int) (w : World) : ∀ (es : List ((Int × Int) × Value)) (k i : Nat), (Instr.findAsking 173 (plK p r) (plE k es) i).run Tryz.prog w = .ok (plIdx p r i es) w
  | [], k, i => rfl
  | e :: t, k, i => by
    have h := equal_place p r e.1.1 e.1.2 w
    unfold plE Instr.findAsking plIdx
    simp only [Sem.run_bind, h, Result.andThen_ok]
    split
    · rfl
    · exact find_asking p r w t (k + 1) (i + 1)

theorem find_key (p r : Int) (w : World) (es : List ((Int × Int) × Value)) : (Instr.findKey 173 (plK p r) (plE 0 es)).run Tryz.prog w = .ok (plIdx p r 0 es) w := by
  have hu := run_underlying Tryz.underlying173 w
  unfold Instr.findKey
  simp only [Sem.run_bind, hu, Result.andThen_ok]
  cases es with
  | nil => rfl
  | cons e t => exact find_asking p r w (e :: t) 0 0

/-- The map's block. -/
def plO (es : List ((Int × Int) × Value)) : Obj := .map (plE 0 es).toArray es.length

theorem insert_place {w : World} {b : Nat} {es : List ((Int × Int) × Value)} (p r : Int) (v : Value) (hb : w.heap[b]? = some (plO es)) (hn : plIdx p r 0 es = none) :
    (Instr.mapUpdate 61 (.map (some b)) (plK p r) v).run Tryz.prog w = .ok () (setBlock w b (plO (es ++ [((p, r), v)]))) := by
  have hu := run_underlying Tryz.underlying61 w
  have hg := MapKept.run_getObj_map (P := Tryz.prog) hb
  have hc := check_place false p r w
  have hf := find_key p r w es
  rw [hn] at hf
  have hs := MapKept.run_setObj_map (P := Tryz.prog) (plO (es ++ [((p, r), v)])) hb
  have e1 : plO (es ++ [((p, r), v)]) = .map ((plE 0 es).toArray.push ⟨plK p r, v, es.length⟩) (es.length + 1) := by
    unfold plO
    rw [plE_snoc]
    simp
  rw [e1] at hs ⊢
  unfold Instr.mapUpdate
  simp only [Sem.run_bind, hu, Result.andThen_ok, hg, hc, hf]
  exact hs

theorem lookup_place {w : World} {b : Nat} {es : List ((Int × Int) × Value)} (p r : Int) (hb : w.heap[b]? = some (plO es)) :
    (Instr.lookup 61 (.map (some b)) (plK p r) false).run Tryz.prog w = .ok (match plIdx p r 0 es with | some q => q.2 | none => .slice none 0 0) w := by
  have hu := run_underlying Tryz.underlying61 w
  have hg := MapKept.run_getObj_map (P := Tryz.prog) hb
  have hc := fun e => check_place e p r w
  have hf := find_key p r w es
  have hz : (zeroValue 22).run Tryz.prog w = .ok (.slice none 0 0) w := by kernel_rfl
  unfold Instr.lookup
  simp only [Sem.run_bind, hu, Result.andThen_ok, hg, Sem.run_pure, hc, hf]
  cases plIdx p r 0 es with
  | none => simp only [Sem.run_bind, hz, Result.andThen_ok, Sem.run_pure]; rfl
  | some q => rfl

/-- 'map[place][]int{k: v}' at a new key. -/
theorem wpList_insert_place (w : World) {ops : Array Oper} {rest : List Oper} {o : Oper} {a : Act} {Q : Exit → Act → World → Prop} (hg : o.guard = none) (m x v : Operand) (hop : o.op = Op.insert 61 m x v)
    (b : Nat) (es : List ((Int × Int) × Value)) (hm : a.eval m = .map (some b)) (hb : w.heap[b]? = some (plO es)) (p r : Int) (val : Value) (hx : a.eval x = plK p r) (hv : a.eval v = val) (hn : plIdx p r 0 es = none)
    (hK : ∀ w', w'.heap[b]? = some (plO (es ++ [((p, r), val)])) → w.grownBy w' (some b) → wpList Tryz.prog ops Q rest (a.put o.dst undef) w') : wpList Tryz.prog ops Q (o :: rest) a w := by
  refine wpList_plain hg fun K' hK' => ?_
  have hrun := insert_place p r val hb hn
  unfold Oper.wp
  simp [execOp, hop, hm, hx, hv, hrun, Result.andThen]
  refine hK' _ _ (hK _ (heap_setBlock_same hb _) ?_)
  exact ⟨rfl, rfl, rfl, by simp [setBlock], fun i _ hi => heap_setBlock_other hb _ (fun e => hi (by rw [e]))⟩

end Go.Proofs.YtbamjhldebobhaaGreatDoor

namespace Go.Proofs.YtbamjhldebobhaaGreatDoor
open Go.RowKit Go.MapKept Go.ChangeMaps

/-- How many operations have not come up. -/
def unl (l : Array Bool) : Nat := (l.toList.filter (fun b => !b)).length
theorem unl_list_set : ∀ (l : List Bool) (i : Nat), l[i]? = some false → ((l.set i true).filter (fun b => !b)).length + 1 = (l.filter (fun b => !b)).length
  | [], i, h => by simp at h
  | b :: t, 0, h => by
    simp at h
    subst h
    simp
  | b :: t, i + 1, h => by
    have := unl_list_set t i (by simpa using h)
    cases b <;> simp <;> omega
theorem getD_true {l : Array Bool} {i : Nat} (h : l.getD i true = false) : l[i]? = some false := by
  rw [Array.getD_eq_getD_getElem?] at h
  cases hl : l[i]? with
  | none => rw [hl] at h; simp at h
  | some b => rw [hl] at h; simp at h; rw [h]
theorem unl_set {l : Array Bool} {i : Nat} (h : l.getD i true = false) : unl (l.setIfInBounds i true) + 1 = unl l := by
  have := unl_list_set l.toList i (by simpa using getD_true h)
  unfold unl
  rw [Array.toList_setIfInBounds]
  exact this
theorem unl_zero {l : Array Bool} (h : unl l = 0) (i : Nat) : l.getD i true = true := by
  cases hb : l.getD i true with
  | true => rfl
  | false => have := unl_set hb; omega

theorem wpAny_inv {P : Program} {ops : Array Oper} {Q : Exit → Act → World → Prop} (I : Array Bool → Act → World → Prop)
    (hstep : ∀ l a w, I l a w → ∀ i ∈ Region.ready .any ops l, wpOp P ops Q i (fun a' w' => I (l.setIfInBounds i true) a' w') a w)
    (hend : ∀ l a w, I l a w → Region.ready .any ops l = [] → Q .normal a w) : ∀ (fuel : Nat) (l : Array Bool) (a : Act) (w : World), unl l ≤ fuel → I l a w → wpAny P .any ops Q fuel l a w
  | 0, l, a, w, hf, hI => by
    have hr : Region.ready .any ops l = [] := by
      cases hr : Region.ready .any ops l with
      | nil => rfl
      | cons j t =>
        have hj : j ∈ Region.ready .any ops l := by rw [hr]; simp
        have h1 := (mem_ready.1 hj).1
        have h2 := unl_zero (by omega : unl l = 0) j
        rw [h1] at h2
        cases h2
    exact ⟨hr, hend l a w hI hr⟩
  | fuel + 1, l, a, w, hf, hI => by
    refine ⟨hend l a w hI, fun i hi => wpOp_mono (fun a' w' h => ?_) (hstep l a w hI i hi)⟩
    refine wpAny_inv I hstep hend fuel _ a' w' ?_ h
    have := unl_set (mem_ready.1 hi).1
    omega

/-- Every operation waits only for earlier ones. -/
def earlierB (ops : Array Oper) : Bool := (List.range ops.size).all fun i => match ops[i]? with | some o => o.after.all (fun e => decide (e.on < i)) | none => true
theorem all_listed {ops : Array Oper} {l : Array Bool} (hb : earlierB ops = true) (hs : l.size = ops.size) (hr : Region.ready .any ops l = []) : ∀ (n i : Nat), i < n → i < ops.size → l.getD i false = true
  | 0, i, h, _ => absurd h (Nat.not_lt_zero i)
  | n + 1, i, h, hi => by
    cases hl : l.getD i false with
    | true => rfl
    | false =>
      have h0 : l[i]? = some false := by
        rw [Array.getD_eq_getD_getElem?] at hl
        rw [Array.getElem?_eq_getElem (by omega : i < l.size)] at hl ⊢
        simpa using hl
      have h1 : l.getD i true = false := by rw [Array.getD_eq_getD_getElem?, h0]; rfl
      have hm : i ∈ Region.ready .any ops l := by
        refine mem_ready.2 ⟨h1, ops[i], Array.getElem?_eq_getElem hi, fun e he _ => ?_⟩
        have hall := List.all_eq_true.1 hb i (List.mem_range.2 hi)
        rw [Array.getElem?_eq_getElem hi] at hall
        have hlt := of_decide_eq_true (Array.all_eq_true_iff_forall_mem.1 hall e he)
        exact all_listed hb hs hr n e.on (by omega) (by omega)
      rw [hr] at hm
      cases hm

/-- The places, and the sets of each. -/
def plKeys : List (Int × Int) := [(1, 0), (2, 0), (2, 2), (3, 0), (3, 1), (4, 0), (4, 1), (4, 2), (5, 0), (5, 1)]
def plLists : List (List Int) := [[1, 2, 6], [1, 2, 6, 7, 8], [4, 5], [1], [7], [1], [7, 8], [3, 6], [1, 2, 6, 7, 8], [3, 4, 5, 6, 7, 8]]
def plKey (k : Nat) : Int × Int := plKeys.getD k (0, 0)
def plList (k : Nat) : List Int := plLists.getD k []
def plSl (b k : Nat) : Value := .slice (some ⟨b, 0, none⟩) (plList k).length (plList k).length
def plC (k : Nat) : Obj := .cells ((plList k).map (Value.int .i64)).toArray 3

/-- The map of places in block mb: the entry of place k is the row in block blk k; everything from block C on. -/
def PlMap (w : World) (C mb : Nat) (blk : Nat → Nat) (has : Nat → Bool) : Prop := C ≤ mb ∧ ∃ es, w.heap[mb]? = some (plO es) ∧ (∀ k, k < 10 → (has k = true → (∃ i, plIdx (plKey k).1 (plKey k).2 0 es = some (i, plSl (blk k) k))) ∧ (has k = false → plIdx (plKey k).1 (plKey k).2 0 es = none)) ∧
  ∀ p r, (∀ k, k < 10 → plKey k ≠ (p, r)) → plIdx p r 0 es = none

theorem plIdx_snoc (p r p' r' : Int) (v : Value) : ∀ (es : List ((Int × Int) × Value)) (i : Nat), plIdx p r i (es ++ [((p', r'), v)]) = match plIdx p r i es with | some q => some q | none => if ((p == p') && (r == r')) = true then some (i + es.length, v) else none
  | [], i => by simp [plIdx]
  | e :: t, i => by
    simp only [List.cons_append, plIdx]
    split
    · rfl
    · rw [plIdx_snoc p r p' r' v t (i + 1)]
      cases plIdx p r (i + 1) t with
      | some q => rfl
      | none => simp only [List.length_cons]; split <;> simp; omega

theorem plKey_inj : ∀ j, j < 10 → ∀ k, k < 10 → plKey j = plKey k → j = k := by decide +kernel

end Go.Proofs.YtbamjhldebobhaaGreatDoor

namespace Go.Proofs.YtbamjhldebobhaaGreatDoor
open Go.RowKit Go.MapKept Go.ChangeMaps

theorem set_same {l : Array Bool} {i : Nat} (h : i < l.size) : (l.setIfInBounds i true).getD i false = true := by simp [Array.getD_eq_getD_getElem?, h]
theorem set_other {l : Array Bool} {i j : Nat} (h : i ≠ j) (b : Bool) : (l.setIfInBounds i true).getD j b = l.getD j b := by simp [Array.getD_eq_getD_getElem?, Array.getElem?_setIfInBounds_ne h]
theorem unlisted {l : Array Bool} {i : Nat} (h : l.getD i true = false) : l.getD i false = false ∧ i < l.size := by
  have h1 := getD_true h
  exact ⟨by rw [Array.getD_eq_getD_getElem?, h1]; rfl, (Array.getElem?_eq_some_iff.1 h1).1⟩

structure PlInv (w0 : World) (l : Array Bool) (a : Act) (w : World) : Prop where
  size : l.size = 33
  tm : a.tmps.size = 23
  df : a.defers = []
  bel : Below w0.heap.size w0 w
  ks : ∀ k, k < 10 → l.getD (3 * k + 1) false = true → a.eval (.tmp (2 * k + 2)) = plK (plKey k).1 (plKey k).2
  all : ∃ blk : Nat → Nat, (∀ k, k < 10 → l.getD (3 * k + 2) false = true → a.eval (.tmp (2 * k + 3)) = plSl (blk k) k ∧ w0.heap.size ≤ blk k ∧ w.heap[blk k]? = some (plC k)) ∧
    (∀ j k, j < 10 → k < 10 → l.getD (3 * j + 2) false = true → l.getD (3 * k + 2) false = true → blk j = blk k → j = k) ∧
    (l.getD 0 false = true → ∃ mb, a.eval (.tmp 1) = .map (some mb) ∧ PlMap w w0.heap.size mb blk (fun k => l.getD (3 * k + 3) false))
  ins : ∀ k, k < 10 → l.getD (3 * k + 3) false = true → l.getD 0 false = true ∧ l.getD (3 * k + 2) false = true
  fin : l.getD 31 false = true → l.getD 0 false = true ∧ a.eval (.tmp 22) = a.eval (.tmp 1)
  fin2 : l.getD 32 false = true → l.getD 31 false = true ∧ a.eval (.tmp 0) = a.eval (.tmp 22)

theorem tm_put {a : Act} {d : Option Tmp} {v : Value} : (a.put d v).tmps.size = a.tmps.size ∧ (a.put d v).defers = a.defers := by
  cases d with
  | none => exact ⟨rfl, rfl⟩
  | some d => exact ⟨by simp [Act.put], rfl⟩

theorem PlInv.build {w0 w : World} {l : Array Bool} {a : Act} (h : PlInv w0 l a w) (k : Nat) (hk : k < 10) (hu : l.getD (3 * k + 1) true = false) : PlInv w0 (l.setIfInBounds (3 * k + 1) true) (a.put (some (2 * k + 2)) (plK (plKey k).1 (plKey k).2)) w := by
  have ⟨hu0, hul⟩ := unlisted hu
  have hne : ∀ j : Nat, 2 * k + 2 ≠ j → (a.put (some (2 * k + 2)) (plK (plKey k).1 (plKey k).2)).eval (.tmp j) = a.eval (.tmp j) := fun j hj => Act.eval_put_ne a _ j _ hj
  obtain ⟨blk, a1, a2, a3⟩ := h.all
  refine ⟨by simpa using h.size, tm_put.1.trans h.tm, tm_put.2.trans h.df, h.bel, ?_, ⟨blk, ?_, ?_, ?_⟩, ?_, ?_, ?_⟩
  · intro j hj hl
    by_cases hjk : j = k
    · subst hjk
      exact Act.eval_put_same a _ _ (by rw [h.tm]; omega)
    · rw [set_other (by omega)] at hl
      rw [hne _ (by omega)]
      exact h.ks j hj hl
  · intro j hj hl
    rw [set_other (by omega)] at hl
    rw [hne _ (by omega)]
    exact a1 j hj hl
  · intro i j hi hj h1 h2
    rw [set_other (by omega)] at h1 h2
    exact a2 i j hi hj h1 h2
  · intro h0
    rw [set_other (by omega)] at h0
    obtain ⟨mb, m1, m2⟩ := a3 h0
    refine ⟨mb, by rw [hne _ (by omega)]; exact m1, ?_⟩
    have : (fun j => (l.setIfInBounds (3 * k + 1) true).getD (3 * j + 3) false) = fun j => l.getD (3 * j + 3) false := funext fun j => set_other (by omega) _
    rw [this]
    exact m2
  · intro j hj hl
    rw [set_other (by omega)] at hl ⊢
    rw [set_other (by omega)]
    exact h.ins j hj hl
  · intro hl
    rw [set_other (by omega)] at hl ⊢
    rw [hne _ (by omega), hne _ (by omega)]
    exact h.fin hl
  · intro hl
    rw [set_other (by omega)] at hl ⊢
    rw [hne _ (by omega), hne _ (by omega)]
    exact h.fin2 hl

theorem PlInv.slice {w0 w : World} {l : Array Bool} {a : Act} (h : PlInv w0 l a w) (k : Nat) (hk : k < 10) (hu : l.getD (3 * k + 2) true = false) : PlInv w0 (l.setIfInBounds (3 * k + 2) true) (a.put (some (2 * k + 3)) (plSl w.heap.size k)) (w.alloc (plC k)) := by
  have ⟨hu0, hul⟩ := unlisted hu
  have hne : ∀ j : Nat, 2 * k + 3 ≠ j → (a.put (some (2 * k + 3)) (plSl w.heap.size k)).eval (.tmp j) = a.eval (.tmp j) := fun j hj => Act.eval_put_ne a _ j _ hj
  obtain ⟨blk, a1, a2, a3⟩ := h.all
  have hlt : ∀ j, j < 10 → l.getD (3 * j + 2) false = true → blk j < w.heap.size := fun j hj hl => (Array.getElem?_eq_some_iff.1 (a1 j hj hl).2.2).1
  refine ⟨by simpa using h.size, tm_put.1.trans h.tm, tm_put.2.trans h.df, h.bel.alloc h.bel.size _, ?_, ⟨fun j => if j = k then w.heap.size else blk j, ?_, ?_, ?_⟩, ?_, ?_, ?_⟩
  · intro j hj hl
    rw [set_other (by omega)] at hl
    rw [hne _ (by omega)]
    exact h.ks j hj hl
  · intro j hj hl
    by_cases hjk : j = k
    · subst hjk
      dsimp only
      rw [if_pos rfl]
      exact ⟨Act.eval_put_same a _ _ (by rw [h.tm]; omega), h.bel.size, at_new _ _ rfl⟩
    · rw [set_other (by omega)] at hl
      dsimp only
      rw [if_neg hjk, hne _ (by omega)]
      have := a1 j hj hl
      exact ⟨this.1, this.2.1, at_old _ this.2.2⟩
  · intro i j hi hj h1 h2
    dsimp only
    by_cases hik : i = k
    · by_cases hjk : j = k
      · intro _; omega
      · rw [set_other (by omega)] at h2
        rw [if_pos hik, if_neg hjk]
        have := hlt j hj h2
        intro he
        omega
    · rw [set_other (by omega)] at h1
      by_cases hjk : j = k
      · rw [if_neg hik, if_pos hjk]
        have := hlt i hi h1
        intro he
        omega
      · rw [set_other (by omega)] at h2
        rw [if_neg hik, if_neg hjk]
        exact a2 i j hi hj h1 h2
  · intro h0
    rw [set_other (by omega)] at h0
    obtain ⟨mb, m1, hmb, es, e1, e2, e3⟩ := a3 h0
    refine ⟨mb, by rw [hne _ (by omega)]; exact m1, hmb, es, at_old _ e1, ?_, e3⟩
    intro j hj
    dsimp only
    rw [set_other (by omega)]
    refine ⟨fun hl => ?_, (e2 j hj).2⟩
    have hjk : j ≠ k := by
      intro he
      subst he
      have := (h.ins j hj hl).2
      rw [hu0] at this
      cases this
    rw [if_neg hjk]
    exact (e2 j hj).1 hl
  · intro j hj hl
    rw [set_other (by omega)] at hl ⊢
    have := h.ins j hj hl
    refine ⟨this.1, ?_⟩
    by_cases hjk : j = k
    · subst hjk; exact set_same hul
    · rw [set_other (by omega)]; exact this.2
  · intro hl
    rw [set_other (by omega)] at hl ⊢
    rw [hne _ (by omega), hne _ (by omega)]
    exact h.fin hl
  · intro hl
    rw [set_other (by omega)] at hl ⊢
    rw [hne _ (by omega), hne _ (by omega)]
    exact h.fin2 hl

theorem PlInv.make {w0 w : World} {l : Array Bool} {a : Act} (h : PlInv w0 l a w) (hu : l.getD 0 true = false) : PlInv w0 (l.setIfInBounds 0 true) (a.put (some 1) (.map (some w.heap.size))) (w.alloc (.map #[] 0)) := by
  have ⟨hu0, hul⟩ := unlisted hu
  have hne : ∀ j : Nat, 1 ≠ j → (a.put (some 1) (.map (some w.heap.size))).eval (.tmp j) = a.eval (.tmp j) := fun j hj => Act.eval_put_ne a _ j _ hj
  obtain ⟨blk, a1, a2, a3⟩ := h.all
  refine ⟨by simpa using h.size, tm_put.1.trans h.tm, tm_put.2.trans h.df, h.bel.alloc h.bel.size _, ?_, ⟨blk, ?_, ?_, ?_⟩, ?_, ?_, ?_⟩
  · intro j hj hl
    rw [set_other (by omega)] at hl
    rw [hne _ (by omega)]
    exact h.ks j hj hl
  · intro j hj hl
    rw [set_other (by omega)] at hl
    rw [hne _ (by omega)]
    have := a1 j hj hl
    exact ⟨this.1, this.2.1, at_old _ this.2.2⟩
  · intro i j hi hj h1 h2
    rw [set_other (by omega)] at h1 h2
    exact a2 i j hi hj h1 h2
  · intro _
    refine ⟨w.heap.size, Act.eval_put_same a _ _ (by rw [h.tm]; omega), h.bel.size, [], at_new _ _ rfl, ?_, fun _ _ _ => rfl⟩
    intro j hj
    dsimp only
    rw [set_other (by omega)]
    refine ⟨fun hl => ?_, fun _ => rfl⟩
    have := (h.ins j hj hl).1
    rw [hu0] at this
    cases this
  · intro j hj hl
    rw [set_other (by omega)] at hl
    rw [set_other (by omega : 0 ≠ 3 * j + 2)]
    exact ⟨set_same hul, (h.ins j hj hl).2⟩
  · intro hl
    rw [set_other (by omega)] at hl
    have := (h.fin hl).1
    rw [hu0] at this
    cases this
  · intro hl
    rw [set_other (by omega)] at hl
    have := (h.fin (h.fin2 hl).1).1
    rw [hu0] at this
    cases this

theorem PlInv.insert {w0 w : World} {l : Array Bool} {a : Act} (h : PlInv w0 l a w) (k : Nat) (hk : k < 10) (hu : l.getD (3 * k + 3) true = false) (d0 : l.getD 0 false = true) (d1 : l.getD (3 * k + 1) false = true) (d2 : l.getD (3 * k + 2) false = true) :
    ∃ w', (Instr.mapUpdate 61 (a.eval (.tmp 1)) (a.eval (.tmp (2 * k + 2))) (a.eval (.tmp (2 * k + 3)))).run Tryz.prog w = .ok () w' ∧ PlInv w0 (l.setIfInBounds (3 * k + 3) true) a w' := by
  have ⟨hu0, hul⟩ := unlisted hu
  obtain ⟨blk, a1, a2, a3⟩ := h.all
  obtain ⟨mb, m1, hmb, es, e1, e2, e3⟩ := a3 d0
  have e1' : w.heap[mb]? = some (.map (plE 0 es).toArray es.length) := e1
  have hno := (e2 k hk).2 hu0
  refine ⟨setBlock w mb (plO (es ++ [(((plKey k).1, (plKey k).2), plSl (blk k) k)])), ?_, ?_⟩
  · rw [m1, h.ks k hk d1, (a1 k hk d2).1]
    exact insert_place (plKey k).1 (plKey k).2 (plSl (blk k) k) e1 hno
  · have hother : ∀ i, i ≠ mb → (setBlock w mb (plO (es ++ [(((plKey k).1, (plKey k).2), plSl (blk k) k)]))).heap[i]? = w.heap[i]? := fun i hi => heap_setBlock_other e1' _ hi
    refine ⟨by simpa using h.size, h.tm, h.df, ?_, ?_, ⟨blk, ?_, ?_, ?_⟩, ?_, ?_, ?_⟩
    · exact h.bel.grown (row := some mb) ⟨rfl, rfl, rfl, by simp [setBlock], fun i _ hi => heap_setBlock_other e1' _ (fun e => hi (by rw [e]))⟩ h.bel.size (fun i hi => by cases hi; exact hmb)
    · intro j hj hl
      rw [set_other (by omega)] at hl
      exact h.ks j hj hl
    · intro j hj hl
      rw [set_other (by omega)] at hl
      have := a1 j hj hl
      refine ⟨this.1, this.2.1, (hother _ ?_).trans this.2.2⟩
      intro he
      have h3 := this.2.2
      rw [he, e1] at h3
      unfold plO plC at h3
      simp at h3
    · intro i j hi hj h1 h2
      rw [set_other (by omega)] at h1 h2
      exact a2 i j hi hj h1 h2
    · intro _
      refine ⟨mb, m1, hmb, _, heap_setBlock_same e1' _, ?_, ?_⟩
      · intro j hj
        rw [plIdx_snoc]
        by_cases hjk : j = k
        · subst hjk
          refine ⟨fun _ => ?_, fun hl => ?_⟩
          · rw [hno]
            exact ⟨0 + es.length, by simp⟩
          · dsimp only at hl
            rw [set_same hul] at hl
            cases hl
        · dsimp only
          rw [set_other (by omega)]
          refine ⟨fun hl => ?_, fun hl => ?_⟩
          · obtain ⟨i, hi⟩ := (e2 j hj).1 hl
            rw [hi]
            exact ⟨i, rfl⟩
          · rw [(e2 j hj).2 hl]
            have hkk : plKey j ≠ plKey k := fun he => hjk (plKey_inj j hj k hk he)
            have : ((((plKey j).1 == (plKey k).1) && ((plKey j).2 == (plKey k).2)) = true) → False := by
              intro hb
              simp only [Bool.and_eq_true, beq_iff_eq] at hb
              exact hkk (Prod.ext hb.1 hb.2)
            simp only
            rw [if_neg this]
      · intro p r hpr
        rw [plIdx_snoc, e3 p r hpr]
        have : (((p == (plKey k).1) && (r == (plKey k).2)) = true) → False := by
          intro hb
          simp only [Bool.and_eq_true, beq_iff_eq] at hb
          exact hpr k hk (Prod.ext hb.1.symm hb.2.symm)
        simp only
        rw [if_neg this]
    · intro j hj hl
      rw [set_other (by omega : 3 * k + 3 ≠ 0), set_other (by omega : 3 * k + 3 ≠ 3 * j + 2)]
      by_cases hjk : j = k
      · subst hjk; exact ⟨d0, d2⟩
      · rw [set_other (by omega)] at hl
        exact h.ins j hj hl
    · intro hl
      rw [set_other (by omega)] at hl ⊢
      exact h.fin hl
    · intro hl
      rw [set_other (by omega)] at hl ⊢
      exact h.fin2 hl

theorem PlInv.move {w0 w : World} {l : Array Bool} {a : Act} (h : PlInv w0 l a w) (hu : l.getD 31 true = false) (d0 : l.getD 0 false = true) : PlInv w0 (l.setIfInBounds 31 true) (a.put (some 22) (a.eval (.tmp 1))) w := by
  have ⟨hu0, hul⟩ := unlisted hu
  have hne : ∀ j : Nat, 22 ≠ j → (a.put (some 22) (a.eval (.tmp 1))).eval (.tmp j) = a.eval (.tmp j) := fun j hj => Act.eval_put_ne a _ j _ hj
  obtain ⟨blk, a1, a2, a3⟩ := h.all
  refine ⟨by simpa using h.size, tm_put.1.trans h.tm, tm_put.2.trans h.df, h.bel, ?_, ⟨blk, ?_, ?_, ?_⟩, ?_, ?_, ?_⟩
  · intro j hj hl
    rw [set_other (by omega)] at hl
    rw [hne _ (by omega)]
    exact h.ks j hj hl
  · intro j hj hl
    rw [set_other (by omega)] at hl
    rw [hne _ (by omega)]
    exact a1 j hj hl
  · intro i j hi hj h1 h2
    rw [set_other (by omega)] at h1 h2
    exact a2 i j hi hj h1 h2
  · intro h0
    obtain ⟨mb, m1, m2⟩ := a3 d0
    refine ⟨mb, by rw [hne _ (by omega)]; exact m1, ?_⟩
    obtain ⟨hmb, es, e1, e2, e3⟩ := m2
    refine ⟨hmb, es, e1, fun j hj => ?_, e3⟩
    dsimp only
    rw [set_other (by omega)]
    exact e2 j hj
  · intro j hj hl
    rw [set_other (by omega)] at hl
    rw [set_other (by omega : 31 ≠ 0), set_other (by omega : 31 ≠ 3 * j + 2)]
    exact h.ins j hj hl
  · intro _
    rw [set_other (by omega : 31 ≠ 0), hne _ (by omega : 22 ≠ 1)]
    exact ⟨d0, Act.eval_put_same a _ _ (by rw [h.tm]; omega)⟩
  · intro hl
    rw [set_other (by omega)] at hl
    have := (h.fin2 hl).1
    rw [hu0] at this
    cases this

theorem PlInv.assign {w0 w : World} {l : Array Bool} {a : Act} (h : PlInv w0 l a w) (hu : l.getD 32 true = false) (d31 : l.getD 31 false = true) : PlInv w0 (l.setIfInBounds 32 true) (a.put (some 0) (a.eval (.tmp 22))) w := by
  have ⟨hu0, hul⟩ := unlisted hu
  have hne : ∀ j : Nat, 0 ≠ j → (a.put (some 0) (a.eval (.tmp 22))).eval (.tmp j) = a.eval (.tmp j) := fun j hj => Act.eval_put_ne a _ j _ hj
  obtain ⟨blk, a1, a2, a3⟩ := h.all
  refine ⟨by simpa using h.size, tm_put.1.trans h.tm, tm_put.2.trans h.df, h.bel, ?_, ⟨blk, ?_, ?_, ?_⟩, ?_, ?_, ?_⟩
  · intro j hj hl
    rw [set_other (by omega)] at hl
    rw [hne _ (by omega)]
    exact h.ks j hj hl
  · intro j hj hl
    rw [set_other (by omega)] at hl
    rw [hne _ (by omega)]
    exact a1 j hj hl
  · intro i j hi hj h1 h2
    rw [set_other (by omega)] at h1 h2
    exact a2 i j hi hj h1 h2
  · intro h0
    rw [set_other (by omega)] at h0
    obtain ⟨mb, m1, m2⟩ := a3 h0
    refine ⟨mb, by rw [hne _ (by omega)]; exact m1, ?_⟩
    obtain ⟨hmb, es, e1, e2, e3⟩ := m2
    refine ⟨hmb, es, e1, fun j hj => ?_, e3⟩
    dsimp only
    rw [set_other (by omega)]
    exact e2 j hj
  · intro j hj hl
    rw [set_other (by omega)] at hl
    rw [set_other (by omega : 32 ≠ 0), set_other (by omega : 32 ≠ 3 * j + 2)]
    exact h.ins j hj hl
  · intro hl
    rw [set_other (by omega)] at hl ⊢
    rw [hne _ (by omega), hne _ (by omega)]
    exact h.fin hl
  · intro _
    rw [set_other (by omega : 32 ≠ 31), hne _ (by omega : 0 ≠ 22)]
    exact ⟨d31, Act.eval_put_same a _ _ (by rw [h.tm]; omega)⟩

/-- One operation that comes up, by its run. -/
theorem op_value {P : Program} {ops : Array Oper} {Q : Exit → Act → World → Prop} {i : Nat} {o : Oper} {a : Act} {w w' : World} {v : Value} {K : Act → World → Prop} (ho : ops[i]? = some o) (hg : o.guard = none) (hr : (execOp a.eval o).run P w = .ok (.value v) w') (hK : K (a.put o.dst v) w') : wpOp P ops Q i K a w := by
  unfold wpOp
  rw [ho]
  have : Region.wanted o (yielded ops a.tmps) = true := by simp [Region.wanted, hg]
  simp only [this, if_true]
  exact .inl (by unfold Oper.wp; rw [hr]; exact hK)
theorem op_skip {P : Program} {ops : Array Oper} {Q : Exit → Act → World → Prop} {i : Nat} {o : Oper} {a : Act} {w w' : World} {K : Act → World → Prop} (ho : ops[i]? = some o) (hg : o.guard = none) (hr : (execOp a.eval o).run P w = .ok .skip w') (hK : K (a.put o.dst undef) w') : wpOp P ops Q i K a w := by
  unfold wpOp
  rw [ho]
  have : Region.wanted o (yielded ops a.tmps) = true := by simp [Region.wanted, hg]
  simp only [this, if_true]
  exact .inl (by unfold Oper.wp; rw [hr]; exact hK)

/-- The map of all places. -/
def PlacesAt (w : World) (C mb : Nat) : Prop := ∃ blk : Nat → Nat, (∀ k, k < 10 → C ≤ blk k ∧ w.heap[blk k]? = some (plC k)) ∧ (∀ j k, j < 10 → k < 10 → blk j = blk k → j = k) ∧ PlMap w C mb blk (fun _ => true)

theorem PlInv.last {w0 w : World} {l : Array Bool} {a : Act} (h : PlInv w0 l a w) (hl : ∀ i, i < 33 → l.getD i false = true) : ∃ mb, a.eval (.tmp 0) = .map (some mb) ∧ PlacesAt w w0.heap.size mb := by
  obtain ⟨blk, a1, a2, a3⟩ := h.all
  obtain ⟨mb, m1, hmb, es, e1, e2, e3⟩ := a3 (hl 0 (by omega))
  refine ⟨mb, ?_, blk, fun k hk => (a1 k hk (hl _ (by omega))).2, fun j k hj hk => a2 j k hj hk (hl _ (by omega)) (hl _ (by omega)), hmb, es, e1, fun k hk => ⟨fun _ => (e2 k hk).1 (hl _ (by omega)), fun hf => by cases hf⟩, e3⟩
  rw [(h.fin2 (hl 32 (by omega))).2, (h.fin (hl 31 (by omega))).2, m1]

set_option maxHeartbeats 4000000 in
set_option maxRecDepth 100000 in
theorem impl_setsOfPlaces (w : World) : Calls Tryz.prog 138 #[] w fun e w' => ∃ mb, e = .returned (.map (some mb)) ∧ PlacesAt w' w.heap.size mb ∧ Below w.heap.size w w' := by
  have hmm := @run_makeMap Tryz.prog
  go_enter Tryz.func138, Tryz.ntmps138
  go_wp2_with fail
  rename_i K hK
  refine wp_region_any (by kernel_rfl) ?_
  refine wpAny_inv (PlInv w) ?_ ?_ _ _ _ _ (by decide +kernel) ?_
  · intro l a w1 hI i hi
    obtain ⟨hu, o, ho, hd⟩ := mem_ready.1 hi
    have hi33 : i < 33 := by have := (Array.getElem?_eq_some_iff.1 ho).1; simpa using this
    rcases (show i = 0 ∨ i = 1 ∨ i = 2 ∨ i = 3 ∨ i = 4 ∨ i = 5 ∨ i = 6 ∨ i = 7 ∨ i = 8 ∨ i = 9 ∨ i = 10 ∨ i = 11 ∨ i = 12 ∨ i = 13 ∨ i = 14 ∨ i = 15 ∨ i = 16 ∨ i = 17 ∨ i = 18 ∨ i = 19 ∨ i = 20 ∨ i = 21 ∨ i = 22 ∨ i = 23 ∨ i = 24 ∨ i = 25 ∨ i = 26 ∨ i = 27 ∨ i = 28 ∨ i = 29 ∨ i = 30 ∨ i = 31 ∨ i = 32 by omega) with rfl | rfl | rfl | rfl | rfl | rfl | rfl | rfl | rfl | rfl | rfl | rfl | rfl | rfl | rfl | rfl | rfl | rfl | rfl | rfl | rfl | rfl | rfl | rfl | rfl | rfl | rfl | rfl | rfl | rfl | rfl | rfl | rfl
    · exact op_value rfl rfl (by simp [execOp, hmm]) (hI.make hu)
    · exact op_value rfl rfl (by go_simp; rfl) (hI.build 0 (by decide) hu)
    · exact op_value rfl rfl (by go_simp; exact ⟨rfl, rfl⟩) (hI.slice 0 (by decide) hu)
    · obtain rfl := Option.some.inj ho
      obtain ⟨w2, hr, hI2⟩ := hI.insert 0 (by decide) hu (hd ⟨0, .data⟩ (by simp) rfl) (hd ⟨1, .data⟩ (by simp) rfl) (hd ⟨2, .data⟩ (by simp) rfl)
      exact op_skip rfl rfl (by simp [execOp, hr, Result.andThen]) hI2
    · exact op_value rfl rfl (by go_simp; rfl) (hI.build 1 (by decide) hu)
    · exact op_value rfl rfl (by go_simp; exact ⟨rfl, rfl⟩) (hI.slice 1 (by decide) hu)
    · obtain rfl := Option.some.inj ho
      obtain ⟨w2, hr, hI2⟩ := hI.insert 1 (by decide) hu (hd ⟨0, .data⟩ (by simp) rfl) (hd ⟨4, .data⟩ (by simp) rfl) (hd ⟨5, .data⟩ (by simp) rfl)
      exact op_skip rfl rfl (by simp [execOp, hr, Result.andThen]) hI2
    · exact op_value rfl rfl (by go_simp; rfl) (hI.build 2 (by decide) hu)
    · exact op_value rfl rfl (by go_simp; exact ⟨rfl, rfl⟩) (hI.slice 2 (by decide) hu)
    · obtain rfl := Option.some.inj ho
      obtain ⟨w2, hr, hI2⟩ := hI.insert 2 (by decide) hu (hd ⟨0, .data⟩ (by simp) rfl) (hd ⟨7, .data⟩ (by simp) rfl) (hd ⟨8, .data⟩ (by simp) rfl)
      exact op_skip rfl rfl (by simp [execOp, hr, Result.andThen]) hI2
    · exact op_value rfl rfl (by go_simp; rfl) (hI.build 3 (by decide) hu)
    · exact op_value rfl rfl (by go_simp; exact ⟨rfl, rfl⟩) (hI.slice 3 (by decide) hu)
    · obtain rfl := Option.some.inj ho
      obtain ⟨w2, hr, hI2⟩ := hI.insert 3 (by decide) hu (hd ⟨0, .data⟩ (by simp) rfl) (hd ⟨10, .data⟩ (by simp) rfl) (hd ⟨11, .data⟩ (by simp) rfl)
      exact op_skip rfl rfl (by simp [execOp, hr, Result.andThen]) hI2
    · exact op_value rfl rfl (by go_simp; rfl) (hI.build 4 (by decide) hu)
    · exact op_value rfl rfl (by go_simp; exact ⟨rfl, rfl⟩) (hI.slice 4 (by decide) hu)
    · obtain rfl := Option.some.inj ho
      obtain ⟨w2, hr, hI2⟩ := hI.insert 4 (by decide) hu (hd ⟨0, .data⟩ (by simp) rfl) (hd ⟨13, .data⟩ (by simp) rfl) (hd ⟨14, .data⟩ (by simp) rfl)
      exact op_skip rfl rfl (by simp [execOp, hr, Result.andThen]) hI2
    · exact op_value rfl rfl (by go_simp; rfl) (hI.build 5 (by decide) hu)
    · exact op_value rfl rfl (by go_simp; exact ⟨rfl, rfl⟩) (hI.slice 5 (by decide) hu)
    · obtain rfl := Option.some.inj ho
      obtain ⟨w2, hr, hI2⟩ := hI.insert 5 (by decide) hu (hd ⟨0, .data⟩ (by simp) rfl) (hd ⟨16, .data⟩ (by simp) rfl) (hd ⟨17, .data⟩ (by simp) rfl)
      exact op_skip rfl rfl (by simp [execOp, hr, Result.andThen]) hI2
    · exact op_value rfl rfl (by go_simp; rfl) (hI.build 6 (by decide) hu)
    · exact op_value rfl rfl (by go_simp; exact ⟨rfl, rfl⟩) (hI.slice 6 (by decide) hu)
    · obtain rfl := Option.some.inj ho
      obtain ⟨w2, hr, hI2⟩ := hI.insert 6 (by decide) hu (hd ⟨0, .data⟩ (by simp) rfl) (hd ⟨19, .data⟩ (by simp) rfl) (hd ⟨20, .data⟩ (by simp) rfl)
      exact op_skip rfl rfl (by simp [execOp, hr, Result.andThen]) hI2
    · exact op_value rfl rfl (by go_simp; rfl) (hI.build 7 (by decide) hu)
    · exact op_value rfl rfl (by go_simp; exact ⟨rfl, rfl⟩) (hI.slice 7 (by decide) hu)
    · obtain rfl := Option.some.inj ho
      obtain ⟨w2, hr, hI2⟩ := hI.insert 7 (by decide) hu (hd ⟨0, .data⟩ (by simp) rfl) (hd ⟨22, .data⟩ (by simp) rfl) (hd ⟨23, .data⟩ (by simp) rfl)
      exact op_skip rfl rfl (by simp [execOp, hr, Result.andThen]) hI2
    · exact op_value rfl rfl (by go_simp; rfl) (hI.build 8 (by decide) hu)
    · exact op_value rfl rfl (by go_simp; exact ⟨rfl, rfl⟩) (hI.slice 8 (by decide) hu)
    · obtain rfl := Option.some.inj ho
      obtain ⟨w2, hr, hI2⟩ := hI.insert 8 (by decide) hu (hd ⟨0, .data⟩ (by simp) rfl) (hd ⟨25, .data⟩ (by simp) rfl) (hd ⟨26, .data⟩ (by simp) rfl)
      exact op_skip rfl rfl (by simp [execOp, hr, Result.andThen]) hI2
    · exact op_value rfl rfl (by go_simp; rfl) (hI.build 9 (by decide) hu)
    · exact op_value rfl rfl (by go_simp; exact ⟨rfl, rfl⟩) (hI.slice 9 (by decide) hu)
    · obtain rfl := Option.some.inj ho
      obtain ⟨w2, hr, hI2⟩ := hI.insert 9 (by decide) hu (hd ⟨0, .data⟩ (by simp) rfl) (hd ⟨28, .data⟩ (by simp) rfl) (hd ⟨29, .data⟩ (by simp) rfl)
      exact op_skip rfl rfl (by simp [execOp, hr, Result.andThen]) hI2
    · obtain rfl := Option.some.inj ho
      exact op_value rfl rfl (by simp [execOp]) (hI.move hu (hd ⟨0, .data⟩ (by simp) rfl))
    · obtain rfl := Option.some.inj ho
      exact op_value rfl rfl (by simp [execOp]) (hI.assign hu (hd ⟨31, .data⟩ (by simp) rfl))
  · intro l a w1 hI hr
    have hl := fun i hi => all_listed (by decide +kernel) (by rw [hI.size]; rfl) hr 33 i hi (by simpa using hi)
    obtain ⟨mb, h0, hp⟩ := hI.last hl
    refine hK _ _ ?_
    go_wp2
    exact bodyPost_ret (results_tmp rfl _ _ _) hI.df ⟨mb, congrArg Ending.returned h0, hp, hI.bel⟩
  · have hf : ∀ i, (Array.replicate 33 false).getD i false = false := fun i => by
      rw [Array.getD_eq_getD_getElem?, Array.getElem?_replicate]
      split <;> rfl
    have no : ∀ {i : Nat}, (Array.replicate 33 false).getD i false = true → False := fun h => by rw [hf] at h; cases h
    exact ⟨rfl, rfl, rfl, (Below.refl w.heap.size w).drew, fun k _ h => (no h).elim, ⟨fun _ => 0, fun k _ h => (no h).elim, fun j k _ _ h => (no h).elim, fun h => (no h).elim⟩, fun k _ h => (no h).elim, fun h => (no h).elim, fun h => (no h).elim⟩

end Go.Proofs.YtbamjhldebobhaaGreatDoor

namespace Go.Proofs.YtbamjhldebobhaaGreatDoor
open Go.RowKit

set_option maxHeartbeats 400000 in
theorem slices_Index (v : Value) (zs : List Int) (n : Int) (w : World) (h : Ints .i64 w v zs) (hl : zs.length ≤ 1048576) : Calls Tryz.prog 225 #[v, .int .i64 n] w fun e w' => ∃ r, e = .returned (.int .i64 r) ∧ decide (0 ≤ r) = hasB zs n ∧ w = w' := by
  rcases h with ⟨rfl, a, c, rfl⟩ | ⟨b, off, c, rfl, hcell⟩
  · go_enter Tryz.func225, Tryz.ntmps225
    go_wp2
    go_loop [8] (fun i => i = .int .i64 0) (fun _ => 0)
    case atStart => rfl
    case round =>
      subst hrel
      go_wp2
      go_ret
      exact ⟨_, rfl, rfl, rfl⟩
  · generalize hm : zs.length = m at *
    have HM := Lib.hid hm
    clear hm
    go_enter Tryz.func225, Tryz.ntmps225
    go_wp2
    go_loop [8] (fun i => ∃ j : Nat, j ≤ m ∧ i = .int .i64 j ∧ Hid (hasB (zs.take j) n = false)) (fun i => m - (intOf i).toNat)
    case atStart => exact ⟨0, Nat.zero_le _, rfl, Lib.hid rfl⟩
    case round =>
      obtain ⟨j, hj, rfl, HJ⟩ := hrel
      by_cases hlt : j < m
      · have c1 := hcell j hlt
        have e1 : (0 : Int) ≤ (j : Int) := by omega
        have e2 : (j : Int) < (m : Int) := by omega
        have HT := Lib.hid (hasB_take zs j n (by have := HM.out; omega))
        generalize zs.getD j 0 = z at *
        clear hcell
        by_cases hz : z = n
        · have ez : (n == z) = true := by simp [hz]
          have HE : Hid (hasB zs n = true) := Lib.hid (by
            have h1 : hasB (zs.take (j + 1)) n = true := by rw [HT.out, hz]; simp
            rw [hasB_iff] at h1 ⊢
            exact List.mem_of_mem_take h1)
          have HD : Hid (decide ((0 : Int) ≤ (j : Int)) = hasB zs n) := Lib.hid (by rw [HE.out]; exact decide_eq_true e1)
          clear hz
          go_wp2
          go_ret
          exact ⟨_, rfl, HD.out, rfl⟩
        · have ez : (n == z) = false := by
            have : ¬ n = z := fun h => hz h.symm
            simp [this]
          have HN : Hid (hasB (zs.take (j + 1)) n = false) := Lib.hid (by
            rw [HT.out, HJ.out]
            simp [hz])
          clear hz
          go_wp2
          go_round
          case rel => exact ⟨j + 1, by omega, by go_num, HN⟩
          case measure => simp [intOf]; omega
      · have HE : Hid (hasB zs n = false) := Lib.hid (by
          have h := HJ.out
          rw [List.take_of_length_le (by have := HM.out; omega)] at h
          exact h)
        go_wp2
        go_ret
        exact ⟨_, rfl, by rw [HE.out]; rfl, rfl⟩

theorem slices_Contains (v : Value) (zs : List Int) (n : Int) (w : World) (h : Ints .i64 w v zs) (hl : zs.length ≤ 1048576) : Calls Tryz.prog 222 #[v, .int .i64 n] w fun e w' => e = .returned (.bool (hasB zs n)) ∧ w = w' := by
  have HI := Lib.hid (fun w h => slices_Index v zs n w h hl)
  have HV := Lib.hid h
  clear h
  generalize hasB zs n = q at *
  go_enter Tryz.func222, Tryz.ntmps222
  go_wp2_with fail
  refine (HI.out _ HV.out).mono ?_
  rintro e w1 ⟨r, rfl, hr, rfl⟩
  have HR := Lib.hid hr
  clear hr
  go_wp2
  go_ret
  exact ⟨ret_bool HR.out, rfl⟩

theorem PlacesAt.move {w w' : World} {C mb : Nat} (h : PlacesAt w C mb) (hk : ∀ i, C ≤ i → i < w.heap.size → w'.heap[i]? = w.heap[i]?) : PlacesAt w' C mb := by
  obtain ⟨blk, h1, h2, hC, es, h3, h4⟩ := h
  exact ⟨blk, fun k hk10 => ⟨(h1 k hk10).1, (hk _ (h1 k hk10).1 (Array.getElem?_eq_some_iff.1 (h1 k hk10).2).1).trans (h1 k hk10).2⟩, h2, hC, es, (hk _ hC (Array.getElem?_eq_some_iff.1 h3).1).trans h3, h4⟩
theorem PlacesAt.keep {w w' : World} {C mb : Nat} (h : PlacesAt w C mb) (b : Below w.heap.size w w') : PlacesAt w' C mb := h.move fun i _ hi => b.block i hi
theorem PlacesAt.only {w w' : World} {C mb b : Nat} (h : PlacesAt w C mb) (o : Only b w w') (hb : b < C) : PlacesAt w' C mb := h.move fun i hi hl => o.2 i (by omega) hl
theorem PlacesAt.low {w : World} {C C' mb : Nat} (h : PlacesAt w C mb) (hC : C' ≤ C) : PlacesAt w C' mb := by
  obtain ⟨blk, h1, h2, h3, h4⟩ := h
  exact ⟨blk, fun k hk => ⟨Nat.le_trans hC (h1 k hk).1, (h1 k hk).2⟩, h2, Nat.le_trans hC h3, h4⟩

/-- The number of a profile's register among the places; 10 of none. -/
def plNo (n a : Int) : Nat := if n = 1 ∧ a = 0 then 0 else if n = 2 ∧ a = 0 then 1 else if n = 2 ∧ a = 2 then 2 else if n = 3 ∧ a = 0 then 3 else if n = 3 ∧ a = 1 then 4 else if n = 4 ∧ a = 0 then 5 else if n = 4 ∧ a = 1 then 6 else if n = 4 ∧ a = 2 then 7 else if n = 5 ∧ a = 0 then 8 else if n = 5 ∧ a = 1 then 9 else 10
theorem plNo_spec {n a : Int} (hn : proB n = true) (a0 : 0 ≤ a) (a3 : a ≤ 3) : (plNo n a < 10 ∧ plKey (plNo n a) = (n, a) ∧ plList (plNo n a) = prSets n a) ∨ ((∀ k, k < 10 → plKey k ≠ (n, a)) ∧ prSets n a = []) := by
  rcases pro_cases hn with rfl | rfl | rfl | rfl | rfl <;> rcases (show a = 0 ∨ a = 1 ∨ a = 2 ∨ a = 3 by omega) with rfl | rfl | rfl | rfl <;> decide +kernel
theorem plList_few : ∀ k, (plList k).length ≤ 6 := by
  intro k
  by_cases h : k < 10
  · exact (show ∀ k, k < 10 → (plList k).length ≤ 6 by decide +kernel) k h
  · have : plList k = [] := by
      unfold plList
      rw [List.getD_eq_getElem?_getD, List.getElem?_eq_none (by simp [plLists]; omega)]
      rfl
    rw [this]
    decide
theorem own_row {w : World} {C b k : Nat} (hC : C ≤ b) (h : w.heap[b]? = some (plC k)) : Own .i64 3 w C (plSl b k) (plList k) := by
  refine ⟨by simp, .inr ⟨b, (plList k).length, _, rfl, hC, h, Nat.le_refl _, ?_, by simp, List.take_of_length_le (by simp)⟩⟩
  have := plList_few k
  unfold maxLen
  omega

/-- The value of a register's sets: a row of the map's own, or nil. -/
theorem PlacesAt.look {w : World} {C mb : Nat} (h : PlacesAt w C mb) {n a : Int} (hn : proB n = true) (a0 : 0 ≤ a) (a3 : a ≤ 3) : ∃ s l c, (∀ q, (Instr.lookup 61 (.map (some mb)) (.agg #[.int .i64 n, .int .i64 a]) false).run Tryz.prog (w.drewN q) = .ok (.slice s l c) (w.drewN q)) ∧ Own .i64 3 w C (.slice s l c) (prSets n a) := by
  obtain ⟨blk, h1, h2, hC, es, h3, h4, h5⟩ := h
  have hl := fun q => lookup_place (w := w.drewN q) n a h3
  rcases plNo_spec hn a0 a3 with ⟨k1, k2, k3⟩ | ⟨k1, k2⟩
  · obtain ⟨i, hi⟩ := (h4 _ k1).1 rfl
    rw [k2] at hi
    rw [hi] at hl
    refine ⟨_, _, _, hl, ?_⟩
    rw [← k3]
    exact own_row (h1 _ k1).1 (h1 _ k1).2
  · rw [h5 n a k1] at hl
    refine ⟨_, _, _, hl, ?_⟩
    rw [k2]
    exact Own.nil _ _ _ _

/-- A guide with its map, made or not yet. -/
def GuOK (w : World) (g : Nat) (n : Int) (C : Nat) : Prop := ∃ m, GuAt w g n m ∧ (m = .map none ∨ ∃ mb, m = .map (some mb) ∧ PlacesAt w C mb)
theorem GuOK.keep {w w' : World} {g C : Nat} {n : Int} (h : GuOK w g n C) (b : Below w.heap.size w w') : GuOK w' g n C := by
  obtain ⟨m, h1, h2⟩ := h
  refine ⟨m, h1.keep b, h2.imp id ?_⟩
  rintro ⟨mb, h3, h4⟩
  exact ⟨mb, h3, h4.keep b⟩
theorem GuOK.only {w w' : World} {g C b : Nat} {n : Int} (h : GuOK w g n C) (o : Only b w w') (hb : b < C) (hg : g ≠ b) : GuOK w' g n C := by
  obtain ⟨m, h1, h2⟩ := h
  refine ⟨m, (o.2 g hg h1.lt).trans h1, h2.imp id ?_⟩
  rintro ⟨mb, h3, h4⟩
  exact ⟨mb, h3, h4.only o hb⟩
theorem GuAt.put {w : World} {g : Nat} {n : Int} {m : Value} (h : GuAt w g n m) (m' : Value) : GuAt (w.setCell ⟨g, 9, none⟩ m') g n m' := heap_setCell_same _ _ 9 _ _ m' h

def SfDone (n a : Int) (g C : Nat) (w : World) (e : Ending) (w' : World) : Prop := ∃ s l c mb, e = .returned (.slice s l c) ∧ GuAt w' g n (.map (some mb)) ∧ PlacesAt w' C mb ∧ Own .i64 3 w' C (.slice s l c) (prSets n a) ∧ Only g w w'

set_option maxHeartbeats 1000000 in
theorem impl_setsFor (n : Int) (a : Int) (g C : Nat) (w : World) (h : GuOK w g n C) (hg : g < C) (hC : C ≤ w.heap.size) (hn : proB n = true) (a0 : 0 ≤ a) (a3 : a ≤ 3) : Calls Tryz.prog 101 #[.pointer (some ⟨g, 0, none⟩), .int .i64 a] w (SfDone n a g C w) := by
  obtain ⟨m, hm, h2⟩ := h
  have q1 : ∀ (x y : Operand) (m : Option Nat) (w : World), (eqGuard .eql 61 x y (.map m) (.map none)).run Tryz.prog w = .ok () w := fun _ _ _ _ => by kernel_rfl
  have q2 : ∀ (w : World), (binOp .eql 61 (.map none) (.map none)).run Tryz.prog w = .ok (.bool true) w := fun _ => by kernel_rfl
  have q3 : ∀ (mb : Nat) (w : World), (binOp .eql 61 (.map (some mb)) (.map none)).run Tryz.prog w = .ok (.bool false) w := fun _ _ => by kernel_rfl
  rcases h2 with rfl | ⟨mb, rfl, hp⟩
  · have HS := Lib.hid (fun w => impl_setsOfPlaces w)
    have HM := Lib.hid hm
    have ⟨c0, c1, c2, c3, c4, c5, c6, c7, c8, c9⟩ := row10_cells hm
    clear c1 c2 c3 c4 c5 c6 c7 c8 hm
    go_enter Tryz.func101, Tryz.ntmps101
    go_wp2_with fail
    refine (HS.out _).mono ?_
    rintro e w1 ⟨mb, rfl, hp, b1⟩
    have HM1 := Lib.hid (HM.out.keep b1)
    have ⟨d0, d1, d2, d3, d4, d5, d6, d7, d8, d9⟩ := row10_cells HM1.out
    have ⟨_, _, _, _, _, _, _, _, _, f9⟩ := row10_thaw HM1.out
    have HM2 := Lib.hid (HM1.out.put (.map (some mb)))
    have hgl : g < w1.heap.size := HM1.out.lt
    have O2 : Hid (Only g w (w1.setCell ⟨g, 9, none⟩ (.map (some mb)))) := Lib.hid ((only_below HM.out.lt b1).trans (Only.set g 9 w1 _))
    have HP2 : Hid (PlacesAt (w1.setCell ⟨g, 9, none⟩ (.map (some mb))) C mb) := Lib.hid ((hp.low hC).only (Only.set g 9 w1 _) hg)
    obtain ⟨s, l, c, hl, ho⟩ := HP2.out.look hn a0 a3
    have HL := Lib.hid (fun q => show SfDone n a g C w (.returned (.slice s l c)) ((w1.setCell ⟨g, 9, none⟩ (.map (some mb))).drewN q) from ⟨s, l, c, mb, rfl, HM2.out, HP2.out.move (fun _ _ _ => rfl), ho, O2.out.drewN q⟩)
    clear d1 d2 d3 d4 d5 d6 d7 d8 b1 hp ho c0 c9
    have ⟨x0, x1, x2, x3, x4, x5, x6, x7, x8, x9⟩ := row10_cells HM2.out
    clear x1 x2 x3 x4 x5 x6 x7 x8
    go_wp2
    generalize w1.setCell ⟨g, 9, none⟩ (.map (some mb)) = W2 at *
    go_quiet (fail)
    go_wp2
    go_ret
    exact HL.out _
  · obtain ⟨s, l, c, hl, ho⟩ := hp.look hn a0 a3
    have HL := Lib.hid (fun q => show SfDone n a g C w (.returned (.slice s l c)) (w.drewN q) from ⟨s, l, c, mb, rfl, hm, hp.move (fun _ _ _ => rfl), ho, (Only.refl _ _).drewN q⟩)
    have ⟨c0, c1, c2, c3, c4, c5, c6, c7, c8, c9⟩ := row10_cells hm
    clear c1 c2 c3 c4 c5 c6 c7 c8 hp ho hm
    go_enter Tryz.func101, Tryz.ntmps101
    go_wp2_with fail
    go_quiet (fail)
    go_wp2
    go_ret
    exact HL.out _

/-- A set is no set 0. -/
theorem prSets_pos (n a : Int) : hasB (prSets n a) 0 = false := by
  unfold prSets prSet0 prSet1 prSet2
  repeat' split
  all_goals rfl
theorem allow7_bad {n a b c p m : Int} (h : fsC b c ≠ 0) (hb : 1 ≤ b) (hb3 : b ≤ 3) : allowB n ⟨7, a, b, c, p, m⟩ = false := by
  have hf : findNo b c = 0 := by
    unfold fsC at h
    rw [if_pos (by simp [inB]; omega)] at h
    by_cases h0 : findNo b c = 0
    · exact h0
    · rw [if_neg h0] at h
      exact absurd rfl h
  have := prSets_pos n a
  unfold hasB at this
  simp only [allowB, hf]
  exact this
theorem allow7_ok {n a b c p m : Int} : allowB n ⟨7, a, b, c, p, m⟩ = hasB (prSets n a) (findNo b c) := by simp only [allowB, hasB]; rfl

/-- What the guide's methods that may make its map leave. -/
def GaDone (q : Bool) (g : Nat) (n : Int) (C : Nat) (w : World) (e : Ending) (w' : World) : Prop := e = .returned (.bool q) ∧ GuOK w' g n C ∧ Only g w w'

set_option maxHeartbeats 1000000 in
theorem impl_allowsName (n : Int) (g C : Nat) (a b c p m : Int) (w : World) (h : GuOK w g n C) (hg : g < C) (hC : C ≤ w.heap.size) (ht : TabSets w) (hn : proB n = true) (a0 : 0 ≤ a) (a3 : a ≤ 3) (b0 : 1 ≤ b) (b3 : b ≤ 3) :
    Calls Tryz.prog 219 #[.pointer (some ⟨g, 0, none⟩), tokV ⟨7, a, b, c, p, m⟩] w (GaDone (allowB n ⟨7, a, b, c, p, m⟩) g n C w) := by
  have HF := Lib.hid (fun w ht => impl_FindSet b c w ht)
  have HT := Lib.hid ht
  have B0 := Lib.hid (below_one w (.cells #[.int .i64 7, .int .i64 a, .int .i64 b, .int .i64 c, .int .i64 p, .int .i64 m] 102))
  have HT0 := Lib.hid (HT.out.keep B0.out)
  have HG0 := Lib.hid (h.keep B0.out)
  have hgl : g < w.heap.size := by omega
  clear ht
  unfold tokV
  by_cases hf : fsC b c = 0
  · have HE := Lib.hid (allow7_ok (n := n) (a := a) (b := b) (c := c) (p := p) (m := m))
    have HS := Lib.hid (fun w h hC => impl_setsFor n a g C w h hg hC hn a0 a3)
    have HCn := Lib.hid (fun v x w h => slices_Contains v (prSets n a) x w h (prSets_few n a))
    rw [fsV_ok b c hf] at HF
    clear hf hn
    generalize allowB n ⟨7, a, b, c, p, m⟩ = q at *
    go_enter Tryz.func219, Tryz.ntmps219
    go_wp2_with fail
    refine (HF.out _ HT0.out).mono ?_
    rintro e w1 ⟨rfl, rfl⟩
    have hC0 : C ≤ (w.alloc (.cells #[.int .i64 7, .int .i64 a, .int .i64 b, .int .i64 c, .int .i64 p, .int .i64 m] 102)).heap.size := by simp; omega
    go_wp2_with fail
    refine (HS.out _ HG0.out hC0).mono ?_
    rintro e w2 ⟨s, l, cc, mb, rfl, hG, hP, hO, o2⟩
    have HD : Hid (GuOK w2 g n C ∧ Only g w w2) := Lib.hid ⟨⟨_, hG, .inr ⟨mb, rfl, hP⟩⟩, (only_below hgl B0.out).trans o2⟩
    have HO := Lib.hid hO.ints
    clear hG hP hO o2
    go_wp2_with fail
    refine (HCn.out _ _ _ HO.out).mono ?_
    rintro e w3 ⟨rfl, rfl⟩
    go_wp2
    go_ret
    exact ⟨ret_bool HE.out.symm, HD.out⟩
  · have HE := Lib.hid (allow7_bad (n := n) (a := a) (p := p) (m := m) hf b0 b3)
    have ef : (fsC b c == 0) = false := by simp [hf]
    rw [fsV_bad b c _ rfl hf] at HF
    generalize fsC b c = f at *
    generalize allowB n ⟨7, a, b, c, p, m⟩ = q at *
    go_enter Tryz.func219, Tryz.ntmps219
    go_wp2_with fail
    refine (HF.out _ HT0.out).mono ?_
    rintro e w1 ⟨rfl, rfl⟩
    go_wp2
    go_ret
    exact ⟨ret_bool HE.out.symm, HG0.out, only_below hgl B0.out⟩

end Go.Proofs.YtbamjhldebobhaaGreatDoor

namespace Go.Proofs.YtbamjhldebobhaaGreatDoor
open Go.RowKit Go.Sort

/-- What a reading holds beside the guide. -/
structure RZ where
  x : St
  l : Value
  m0 : Value
/-- A map that was made stays. -/
def RZ.q (ζ : RZ) (m : Value) : Prop := m = ζ.m0 ∨ ζ.m0 = .map none
theorem RZ.q_new {ζ : RZ} (h : ζ.q (.map none)) (m : Value) : ζ.q m := h.elim (fun h => .inr h.symm) .inr
def GRt (ζ : RZ) (w : World) (g : Nat) (n : Int) (m : Value) : Prop := RdAt w g n m ζ.x ζ.l
def GRk (ζ : RZ) (w : World) (g : Nat) (n : Int) (C : Nat) : Prop := ∃ m, GRt ζ w g n m ∧ (m = .map none ∨ ∃ mb, m = .map (some mb) ∧ PlacesAt w C mb) ∧ ζ.q m
theorem GRt.lt {ζ : RZ} {w : World} {g : Nat} {n : Int} {m : Value} (h : GRt ζ w g n m) : g < w.heap.size := RdAt.lt h
theorem GRt.keep {ζ : RZ} {w w' : World} {g : Nat} {n : Int} {m : Value} (h : GRt ζ w g n m) (b : Below w.heap.size w w') : GRt ζ w' g n m := RdAt.keep h b
theorem GRt.put {ζ : RZ} {w : World} {g : Nat} {n : Int} {m : Value} (h : GRt ζ w g n m) (m' : Value) : GRt ζ (w.setCell ⟨g, 9, none⟩ m') g n m' := heap_setCell_same _ _ 9 _ _ m' h
theorem GRk.keep {ζ : RZ} {w w' : World} {g C : Nat} {n : Int} (h : GRk ζ w g n C) (b : Below w.heap.size w w') : GRk ζ w' g n C := by
  obtain ⟨m, h1, h2, hq⟩ := h
  refine ⟨m, h1.keep b, h2.imp id ?_, hq⟩
  rintro ⟨mb, h3, h4⟩
  exact ⟨mb, h3, h4.keep b⟩
theorem grt_cells {ζ : RZ} {w : World} {g : Nat} {n : Int} {m : Value} (h : GRt ζ w g n m) : w.cell? ⟨g, 0, none⟩ = some (.int .i64 n) ∧ w.cell? ⟨g, 1, none⟩ = some (.string (prName n)) ∧ w.cell? ⟨g, 2, none⟩ = some (.string (prHead n)) ∧ w.cell? ⟨g, 3, none⟩ = some (.slice none 0 0) ∧ w.cell? ⟨g, 4, none⟩ = some (.bool (prRight n)) ∧ w.cell? ⟨g, 5, none⟩ = some (.bool (prShifts n)) ∧ w.cell? ⟨g, 6, none⟩ = some (.bool (prSingle n)) ∧ w.cell? ⟨g, 7, none⟩ = some (.bool (prReset n)) ∧ w.cell? ⟨g, 8, none⟩ = some (.bool (prClear n)) ∧ w.cell? ⟨g, 9, none⟩ = some m := by
  refine ⟨?_, ?_, ?_, ?_, ?_, ?_, ?_, ?_, ?_, ?_⟩ <;> (rw [cell_of_row _ _ _ _ _ _ h]; rfl)
theorem grt_thaw {ζ : RZ} {w : World} {g : Nat} {n : Int} {m : Value} (h : GRt ζ w g n m) : w.frozen? ⟨g, 0, none⟩ = false ∧ w.frozen? ⟨g, 1, none⟩ = false ∧ w.frozen? ⟨g, 2, none⟩ = false ∧ w.frozen? ⟨g, 3, none⟩ = false ∧ w.frozen? ⟨g, 4, none⟩ = false ∧ w.frozen? ⟨g, 5, none⟩ = false ∧ w.frozen? ⟨g, 6, none⟩ = false ∧ w.frozen? ⟨g, 7, none⟩ = false ∧ w.frozen? ⟨g, 8, none⟩ = false ∧ w.frozen? ⟨g, 9, none⟩ = false :=
  ⟨frozen_of_row w _ 0 _ _ h, frozen_of_row w _ 1 _ _ h, frozen_of_row w _ 2 _ _ h, frozen_of_row w _ 3 _ _ h, frozen_of_row w _ 4 _ _ h, frozen_of_row w _ 5 _ _ h, frozen_of_row w _ 6 _ _ h, frozen_of_row w _ 7 _ _ h, frozen_of_row w _ 8 _ _ h, frozen_of_row w _ 9 _ _ h⟩
theorem RdAt.mr {w : World} {b : Nat} {n : Int} {m l : Value} {x : St} (h : RdAt w b n m x l) : MRt ⟨n, m, l⟩ w b x := h
theorem RdAt.gr {w : World} {b : Nat} {n : Int} {m l : Value} {x : St} (h : RdAt w b n m x l) : GRt ⟨x, l, m⟩ w b n m := h

/-- The machine's cells written anew. -/
def putStR (w : World) (g : Nat) (y : St) : World := (((((((w.setCell ⟨g, 10, none⟩ (.int .i64 y.g0)).setCell ⟨g, 11, none⟩ (.int .i64 y.g1)).setCell ⟨g, 12, none⟩ (.int .i64 y.g2)).setCell ⟨g, 13, none⟩ (.int .i64 y.g3)).setCell ⟨g, 14, none⟩ (.int .i64 y.l)).setCell ⟨g, 15, none⟩ (.int .i64 y.s)).setCell ⟨g, 16, none⟩ (.int .i64 y.d))
theorem putR_row {w : World} {g : Nat} {n : Int} {m l : Value} {x : St} (h : RdAt w g n m x l) (y : St) : RdAt (putStR w g y) g n m y l := by
  have k0 : (w.setCell ⟨g, 10, none⟩ (.int .i64 y.g0)).heap[g]? = some (.cells #[.int .i64 n, .string (prName n), .string (prHead n), .slice none 0 0, .bool (prRight n), .bool (prShifts n), .bool (prSingle n), .bool (prReset n), .bool (prClear n), m, .int .i64 y.g0, .int .i64 x.g1, .int .i64 x.g2, .int .i64 x.g3, .int .i64 x.l, .int .i64 x.s, .int .i64 x.d, l] 69) := heap_setCell_same _ g 10 _ _ (.int .i64 y.g0) h
  have k1 : ((w.setCell ⟨g, 10, none⟩ (.int .i64 y.g0)).setCell ⟨g, 11, none⟩ (.int .i64 y.g1)).heap[g]? = some (.cells #[.int .i64 n, .string (prName n), .string (prHead n), .slice none 0 0, .bool (prRight n), .bool (prShifts n), .bool (prSingle n), .bool (prReset n), .bool (prClear n), m, .int .i64 y.g0, .int .i64 y.g1, .int .i64 x.g2, .int .i64 x.g3, .int .i64 x.l, .int .i64 x.s, .int .i64 x.d, l] 69) := heap_setCell_same _ g 11 _ _ (.int .i64 y.g1) k0
  have k2 : (((w.setCell ⟨g, 10, none⟩ (.int .i64 y.g0)).setCell ⟨g, 11, none⟩ (.int .i64 y.g1)).setCell ⟨g, 12, none⟩ (.int .i64 y.g2)).heap[g]? = some (.cells #[.int .i64 n, .string (prName n), .string (prHead n), .slice none 0 0, .bool (prRight n), .bool (prShifts n), .bool (prSingle n), .bool (prReset n), .bool (prClear n), m, .int .i64 y.g0, .int .i64 y.g1, .int .i64 y.g2, .int .i64 x.g3, .int .i64 x.l, .int .i64 x.s, .int .i64 x.d, l] 69) := heap_setCell_same _ g 12 _ _ (.int .i64 y.g2) k1
  have k3 : ((((w.setCell ⟨g, 10, none⟩ (.int .i64 y.g0)).setCell ⟨g, 11, none⟩ (.int .i64 y.g1)).setCell ⟨g, 12, none⟩ (.int .i64 y.g2)).setCell ⟨g, 13, none⟩ (.int .i64 y.g3)).heap[g]? = some (.cells #[.int .i64 n, .string (prName n), .string (prHead n), .slice none 0 0, .bool (prRight n), .bool (prShifts n), .bool (prSingle n), .bool (prReset n), .bool (prClear n), m, .int .i64 y.g0, .int .i64 y.g1, .int .i64 y.g2, .int .i64 y.g3, .int .i64 x.l, .int .i64 x.s, .int .i64 x.d, l] 69) := heap_setCell_same _ g 13 _ _ (.int .i64 y.g3) k2
  have k4 : (((((w.setCell ⟨g, 10, none⟩ (.int .i64 y.g0)).setCell ⟨g, 11, none⟩ (.int .i64 y.g1)).setCell ⟨g, 12, none⟩ (.int .i64 y.g2)).setCell ⟨g, 13, none⟩ (.int .i64 y.g3)).setCell ⟨g, 14, none⟩ (.int .i64 y.l)).heap[g]? = some (.cells #[.int .i64 n, .string (prName n), .string (prHead n), .slice none 0 0, .bool (prRight n), .bool (prShifts n), .bool (prSingle n), .bool (prReset n), .bool (prClear n), m, .int .i64 y.g0, .int .i64 y.g1, .int .i64 y.g2, .int .i64 y.g3, .int .i64 y.l, .int .i64 x.s, .int .i64 x.d, l] 69) := heap_setCell_same _ g 14 _ _ (.int .i64 y.l) k3
  have k5 : ((((((w.setCell ⟨g, 10, none⟩ (.int .i64 y.g0)).setCell ⟨g, 11, none⟩ (.int .i64 y.g1)).setCell ⟨g, 12, none⟩ (.int .i64 y.g2)).setCell ⟨g, 13, none⟩ (.int .i64 y.g3)).setCell ⟨g, 14, none⟩ (.int .i64 y.l)).setCell ⟨g, 15, none⟩ (.int .i64 y.s)).heap[g]? = some (.cells #[.int .i64 n, .string (prName n), .string (prHead n), .slice none 0 0, .bool (prRight n), .bool (prShifts n), .bool (prSingle n), .bool (prReset n), .bool (prClear n), m, .int .i64 y.g0, .int .i64 y.g1, .int .i64 y.g2, .int .i64 y.g3, .int .i64 y.l, .int .i64 y.s, .int .i64 x.d, l] 69) := heap_setCell_same _ g 15 _ _ (.int .i64 y.s) k4
  have k6 : (((((((w.setCell ⟨g, 10, none⟩ (.int .i64 y.g0)).setCell ⟨g, 11, none⟩ (.int .i64 y.g1)).setCell ⟨g, 12, none⟩ (.int .i64 y.g2)).setCell ⟨g, 13, none⟩ (.int .i64 y.g3)).setCell ⟨g, 14, none⟩ (.int .i64 y.l)).setCell ⟨g, 15, none⟩ (.int .i64 y.s)).setCell ⟨g, 16, none⟩ (.int .i64 y.d)).heap[g]? = some (.cells #[.int .i64 n, .string (prName n), .string (prHead n), .slice none 0 0, .bool (prRight n), .bool (prShifts n), .bool (prSingle n), .bool (prReset n), .bool (prClear n), m, .int .i64 y.g0, .int .i64 y.g1, .int .i64 y.g2, .int .i64 y.g3, .int .i64 y.l, .int .i64 y.s, .int .i64 y.d, l] 69) := heap_setCell_same _ g 16 _ _ (.int .i64 y.d) k5
  exact k6
theorem only_putStR (b : Nat) (w : World) (y : St) : Only b w (putStR w b y) := ((((((Only.set b 10 w _).trans (Only.set b 11 _ _)).trans (Only.set b 12 _ _)).trans (Only.set b 13 _ _)).trans (Only.set b 14 _ _)).trans (Only.set b 15 _ _)).trans (Only.set b 16 _ _)

set_option maxHeartbeats 1000000 in
theorem impl_atRestR (n : Int) (x : St) (m l : Value) (b : Nat) (w : World) (h : RdAt w b n m x l) (hx : stOKB x = true) : Calls Tryz.prog 117 #[.pointer (some ⟨b, 0, none⟩), .pointer (some ⟨b, 10, none⟩)] w fun e w' => e = .returned (.bool (restB n x)) ∧ w = w' := by
  have HP := Lib.hid (fun w h => impl_pendingR (κ := ⟨n, m, l⟩) x b w h)
  rw [pend_eq hx] at HP
  have HR : Hid (restB n x = (!pendB x && (!prReset n || (decide (x.l = 0) && decide (x.g0 = 1))))) := Lib.hid rfl
  have HM := Lib.hid h.mr
  have ⟨c0, c1, c2, c3, c4, c5, c6, c7, c8, c9⟩ := grt_cells h.gr
  have ⟨y0, y1, y2, y3, y4, y5, y6⟩ := h.mr.cells
  clear c0 c1 c2 c3 c4 c5 c6 c8 c9 h hx y1 y2 y3 y5 y6
  generalize restB n x = q at *
  cases hp : pendB x
  · rw [hp] at HP HR
    cases hr : prReset n
    · have HE : Hid (q = true) := Lib.hid (by rw [HR.out, hr]; rfl)
      rw [hr] at c7
      clear hr hp
      go_enter Tryz.func117, Tryz.ntmps117
      go_wp2_with fail
      refine (HP.out _ HM.out).mono ?_
      rintro e w1 ⟨rfl, rfl⟩
      go_wp2
      go_ret
      exact ⟨ret_bool HE.out.symm, rfl⟩
    · rw [hr] at c7
      by_cases hl : x.l = 0
      · have HE : Hid (q = (x.g0 == 1)) := Lib.hid (by rw [HR.out, hr, show decide (x.l = 0) = true by simpa using hl]; rfl)
        have el : (x.l == 0) = true := by simp [hl]
        clear hl hr hp
        go_enter Tryz.func117, Tryz.ntmps117
        go_wp2_with fail
        refine (HP.out _ HM.out).mono ?_
        rintro e w1 ⟨rfl, rfl⟩
        go_wp2
        go_ret
        exact ⟨ret_bool HE.out.symm, rfl⟩
      · have HE : Hid (q = false) := Lib.hid (by rw [HR.out, hr, show decide (x.l = 0) = false by simpa using hl]; rfl)
        have el : (x.l == 0) = false := by simp [hl]
        clear hr hp
        go_enter Tryz.func117, Tryz.ntmps117
        go_wp2_with fail
        refine (HP.out _ HM.out).mono ?_
        rintro e w1 ⟨rfl, rfl⟩
        go_wp2
        go_ret
        exact ⟨ret_bool HE.out.symm, rfl⟩
  · have HE : Hid (q = false) := Lib.hid (by rw [HR.out, hp]; rfl)
    rw [hp] at HP
    clear hp
    go_enter Tryz.func117, Tryz.ntmps117
    go_wp2_with fail
    refine (HP.out _ HM.out).mono ?_
    rintro e w1 ⟨rfl, rfl⟩
    go_wp2
    go_ret
    exact ⟨ret_bool HE.out.symm, rfl⟩

def ElDoneR (n : Int) (x : St) (m l : Value) (b : Nat) (w : World) (e : Ending) (w' : World) : Prop := e = .returned (.int .i64 (elC n x)) ∧ RdAt w' b n m (elX n x) l ∧ Only b w w'
theorem elDoneR {n : Int} {x y : St} {m l : Value} {b : Nat} {w w' : World} {c : Int} (hc : elC n x = c) (hy : elX n x = y) (hm : RdAt w' b n m y l) (ho : Only b w w') : ElDoneR n x m l b w (.returned (.int .i64 c)) w' := ⟨by rw [hc], by rw [hy]; exact hm, ho⟩

set_option maxHeartbeats 1000000 in
theorem impl_endLineR (n : Int) (x : St) (m l : Value) (b : Nat) (w : World) (h : RdAt w b n m x l) (hx : stOKB x = true) : Calls Tryz.prog 158 #[.pointer (some ⟨b, 0, none⟩), .pointer (some ⟨b, 10, none⟩)] w (ElDoneR n x m l b w) := by
  have HR := Lib.hid (fun w h => impl_atRestR n x m l b w h hx)
  have HM := Lib.hid h
  have HS := Lib.hid (fun w => impl_startOf n w)
  have HF := Lib.hid (fun y w => impl_machineOf y w)
  unfold StDone stV at HS HF
  have ⟨c0, c1, c2, c3, c4, c5, c6, c7, c8, c9⟩ := grt_cells h.gr
  clear c1 c2 c3 c4 c5 c6 c7 c9 h hx
  cases hr : restB n x
  · have HC : Hid (elC n x = 14) := Lib.hid (by simp [elC, hr])
    have HX : Hid (elX n x = x) := Lib.hid (by simp [elX, hr])
    rw [hr] at HR
    clear hr
    go_enter Tryz.func158, Tryz.ntmps158
    go_wp2_with fail
    refine (HR.out _ HM.out).mono ?_
    rintro e w1 ⟨rfl, rfl⟩
    go_wp2
    go_ret
    exact elDoneR HC.out HX.out HM.out (Only.refl _ _)
  · have HC : Hid (elC n x = 0) := Lib.hid (by simp [elC, hr])
    cases hc : prClear n
    · have HX : Hid (elX n x = x) := Lib.hid (by simp [elX, hr, lineX, hc])
      rw [hr] at HR
      rw [hc] at c8
      clear hr hc
      go_enter Tryz.func158, Tryz.ntmps158
      go_wp2_with fail
      refine (HR.out _ HM.out).mono ?_
      rintro e w1 ⟨rfl, rfl⟩
      go_wp2
      go_ret
      exact elDoneR HC.out HX.out HM.out (Only.refl _ _)
    · have HX : Hid (elX n x = startP n) := Lib.hid (by simp [elX, hr, lineX, hc])
      rw [hr] at HR
      rw [hc] at c8
      clear hr hc
      generalize startP n = y at *
      go_enter Tryz.func158, Tryz.ntmps158
      go_wp2_with fail
      refine (HR.out _ HM.out).mono ?_
      rintro e w1 ⟨rfl, rfl⟩
      go_wp2_with fail
      refine (HS.out _).mono ?_
      rintro e w1 ⟨rfl, b1⟩
      go_wp2_with fail
      refine (HF.out y _).mono ?_
      rintro e w2 ⟨rfl, b2⟩
      have O2 : Hid (Only b w w2) := Lib.hid (only_below HM.out.lt (b1.trans (b2.mono b1.size)))
      have HM2 := Lib.hid (HM.out.keep (b1.trans (b2.mono b1.size)))
      clear b1 b2 c0 c8
      have ⟨r0, r1, r2, r3, r4, r5, r6⟩ := HM2.out.mr.cells
      have ⟨z0, z1, z2, z3, z4, z5, z6⟩ := HM2.out.mr.thaw
      have hl : b < w2.heap.size := HM2.out.lt
      go_wp2
      go_ret
      exact elDoneR HC.out HX.out (putR_row HM2.out y) (O2.out.trans (only_putStR b w2 y))

end Go.Proofs.YtbamjhldebobhaaGreatDoor

namespace Go.Proofs.YtbamjhldebobhaaGreatDoor
open Go.RowKit Go.Sort
variable {ζ : RZ}

def SfDoneR (ζ : RZ) (n a : Int) (g C : Nat) (w : World) (e : Ending) (w' : World) : Prop := ∃ s l c mb, e = .returned (.slice s l c) ∧ GRt ζ w' g n (.map (some mb)) ∧ ζ.q (.map (some mb)) ∧ PlacesAt w' C mb ∧ Own .i64 3 w' C (.slice s l c) (prSets n a) ∧ Only g w w'

set_option maxHeartbeats 1000000 in
theorem impl_setsForR (n : Int) (a : Int) (g C : Nat) (w : World) (h : GRk ζ w g n C) (hg : g < C) (hC : C ≤ w.heap.size) (hn : proB n = true) (a0 : 0 ≤ a) (a3 : a ≤ 3) : Calls Tryz.prog 101 #[.pointer (some ⟨g, 0, none⟩), .int .i64 a] w (SfDoneR ζ n a g C w) := by
  obtain ⟨m, hm, h2, hq⟩ := h
  have q1 : ∀ (x y : Operand) (m : Option Nat) (w : World), (eqGuard .eql 61 x y (.map m) (.map none)).run Tryz.prog w = .ok () w := fun _ _ _ _ => by kernel_rfl
  have q2 : ∀ (w : World), (binOp .eql 61 (.map none) (.map none)).run Tryz.prog w = .ok (.bool true) w := fun _ => by kernel_rfl
  have q3 : ∀ (mb : Nat) (w : World), (binOp .eql 61 (.map (some mb)) (.map none)).run Tryz.prog w = .ok (.bool false) w := fun _ _ => by kernel_rfl
  rcases h2 with rfl | ⟨mb, rfl, hp⟩
  · have HS := Lib.hid (fun w => impl_setsOfPlaces w)
    have HQ := Lib.hid hq
    clear hq
    have HM := Lib.hid hm
    have ⟨c0, c1, c2, c3, c4, c5, c6, c7, c8, c9⟩ := grt_cells hm
    clear c1 c2 c3 c4 c5 c6 c7 c8 hm
    go_enter Tryz.func101, Tryz.ntmps101
    go_wp2_with fail
    refine (HS.out _).mono ?_
    rintro e w1 ⟨mb, rfl, hp, b1⟩
    have HM1 := Lib.hid (HM.out.keep b1)
    have ⟨d0, d1, d2, d3, d4, d5, d6, d7, d8, d9⟩ := grt_cells HM1.out
    have ⟨_, _, _, _, _, _, _, _, _, f9⟩ := grt_thaw HM1.out
    have HM2 := Lib.hid (HM1.out.put (.map (some mb)))
    have hgl : g < w1.heap.size := HM1.out.lt
    have O2 : Hid (Only g w (w1.setCell ⟨g, 9, none⟩ (.map (some mb)))) := Lib.hid ((only_below HM.out.lt b1).trans (Only.set g 9 w1 _))
    have HP2 : Hid (PlacesAt (w1.setCell ⟨g, 9, none⟩ (.map (some mb))) C mb) := Lib.hid ((hp.low hC).only (Only.set g 9 w1 _) hg)
    obtain ⟨s, l, c, hl, ho⟩ := HP2.out.look hn a0 a3
    have HL := Lib.hid (fun q => show SfDoneR ζ n a g C w (.returned (.slice s l c)) ((w1.setCell ⟨g, 9, none⟩ (.map (some mb))).drewN q) from ⟨s, l, c, mb, rfl, HM2.out, RZ.q_new HQ.out _, HP2.out.move (fun _ _ _ => rfl), ho, O2.out.drewN q⟩)
    clear d1 d2 d3 d4 d5 d6 d7 d8 b1 hp ho c0 c9
    have ⟨x0, x1, x2, x3, x4, x5, x6, x7, x8, x9⟩ := grt_cells HM2.out
    clear x1 x2 x3 x4 x5 x6 x7 x8
    go_wp2
    generalize w1.setCell ⟨g, 9, none⟩ (.map (some mb)) = W2 at *
    go_quiet (fail)
    go_wp2
    go_ret
    exact HL.out _
  · obtain ⟨s, l, c, hl, ho⟩ := hp.look hn a0 a3
    have HL := Lib.hid (fun q => show SfDoneR ζ n a g C w (.returned (.slice s l c)) (w.drewN q) from ⟨s, l, c, mb, rfl, hm, hq, hp.move (fun _ _ _ => rfl), ho, (Only.refl _ _).drewN q⟩)
    have ⟨c0, c1, c2, c3, c4, c5, c6, c7, c8, c9⟩ := grt_cells hm
    clear c1 c2 c3 c4 c5 c6 c7 c8 hp ho hm hq
    go_enter Tryz.func101, Tryz.ntmps101
    go_wp2_with fail
    go_quiet (fail)
    go_wp2
    go_ret
    exact HL.out _

/-- What the guide's methods that may make its map leave. -/
def GaDoneR (ζ : RZ) (q : Bool) (g : Nat) (n : Int) (C : Nat) (w : World) (e : Ending) (w' : World) : Prop := e = .returned (.bool q) ∧ GRk ζ w' g n C ∧ Only g w w'

set_option maxHeartbeats 1000000 in
theorem impl_allowsNameR (n : Int) (g C : Nat) (a b c p m : Int) (w : World) (h : GRk ζ w g n C) (hg : g < C) (hC : C ≤ w.heap.size) (ht : TabSets w) (hn : proB n = true) (a0 : 0 ≤ a) (a3 : a ≤ 3) (b0 : 1 ≤ b) (b3 : b ≤ 3) :
    Calls Tryz.prog 219 #[.pointer (some ⟨g, 0, none⟩), tokV ⟨7, a, b, c, p, m⟩] w (GaDoneR ζ (allowB n ⟨7, a, b, c, p, m⟩) g n C w) := by
  have HF := Lib.hid (fun w ht => impl_FindSet b c w ht)
  have HT := Lib.hid ht
  have B0 := Lib.hid (below_one w (.cells #[.int .i64 7, .int .i64 a, .int .i64 b, .int .i64 c, .int .i64 p, .int .i64 m] 102))
  have HT0 := Lib.hid (HT.out.keep B0.out)
  have HG0 := Lib.hid (h.keep B0.out)
  have hgl : g < w.heap.size := by omega
  clear ht
  unfold tokV
  by_cases hf : fsC b c = 0
  · have HE := Lib.hid (allow7_ok (n := n) (a := a) (b := b) (c := c) (p := p) (m := m))
    have HS := Lib.hid (fun w h hC => impl_setsForR (ζ := ζ) n a g C w h hg hC hn a0 a3)
    have HCn := Lib.hid (fun v x w h => slices_Contains v (prSets n a) x w h (prSets_few n a))
    rw [fsV_ok b c hf] at HF
    clear hf hn
    generalize allowB n ⟨7, a, b, c, p, m⟩ = q at *
    go_enter Tryz.func219, Tryz.ntmps219
    go_wp2_with fail
    refine (HF.out _ HT0.out).mono ?_
    rintro e w1 ⟨rfl, rfl⟩
    have hC0 : C ≤ (w.alloc (.cells #[.int .i64 7, .int .i64 a, .int .i64 b, .int .i64 c, .int .i64 p, .int .i64 m] 102)).heap.size := by simp; omega
    go_wp2_with fail
    refine (HS.out _ HG0.out hC0).mono ?_
    rintro e w2 ⟨s, l, cc, mb, rfl, hG, hQ, hP, hO, o2⟩
    have HD : Hid (GRk ζ w2 g n C ∧ Only g w w2) := Lib.hid ⟨⟨_, hG, .inr ⟨mb, rfl, hP⟩, hQ⟩, (only_below hgl B0.out).trans o2⟩
    have HO := Lib.hid hO.ints
    clear hG hQ hP hO o2
    go_wp2_with fail
    refine (HCn.out _ _ _ HO.out).mono ?_
    rintro e w3 ⟨rfl, rfl⟩
    go_wp2
    go_ret
    exact ⟨ret_bool HE.out.symm, HD.out⟩
  · have HE := Lib.hid (allow7_bad (n := n) (a := a) (p := p) (m := m) hf b0 b3)
    have ef : (fsC b c == 0) = false := by simp [hf]
    rw [fsV_bad b c _ rfl hf] at HF
    generalize fsC b c = f at *
    generalize allowB n ⟨7, a, b, c, p, m⟩ = q at *
    go_enter Tryz.func219, Tryz.ntmps219
    go_wp2_with fail
    refine (HF.out _ HT0.out).mono ?_
    rintro e w1 ⟨rfl, rfl⟩
    go_wp2
    go_ret
    exact ⟨ret_bool HE.out.symm, HG0.out, only_below hgl B0.out⟩

end Go.Proofs.YtbamjhldebobhaaGreatDoor

namespace Go.Proofs.YtbamjhldebobhaaGreatDoor
open Go.RowKit

set_option maxHeartbeats 1000000 in
theorem impl_rules (w : World) : Calls Tryz.prog 206 #[] w fun e w' => e = .returned (.agg #[.func (.func 214) #[] #[], .func (.func 215) #[] #[], .func (.func 213) #[] #[], .func (.func 213) #[] #[], .func (.func 216) #[] #[], .func (.func 217) #[] #[], .func (.func 218) #[] #[], .func (.func 219) #[] #[], .func (.func 214) #[] #[], .func (.func 214) #[] #[]]) ∧ Below w.heap.size w w' := by
  go_enter Tryz.func206, Tryz.ntmps206
  go_wp2
  exact bodyPost_ret (results_cell_row rfl _ _ w.heap.size _ _ _ _ rfl (heap_alloc_new _ _) Tryz.underlying231 rfl (by kernel_rfl)) rfl ⟨rfl, below_one _ _⟩

set_option maxHeartbeats 1000000 in
theorem rule1 (n : Int) (g : Nat) (m : Value) (t : Tok) (w : World) (_hg : GuAt w g n m) : Calls Tryz.prog 213 #[.pointer (some ⟨g, 0, none⟩), tokV t] w fun e w' => e = .returned (.bool (true)) ∧ Below w.heap.size w w' := by
  have B0 := Lib.hid (below_one w (.cells #[.int .i64 t.k, .int .i64 t.a, .int .i64 t.b, .int .i64 t.c, .int .i64 t.p, .int .i64 t.n] 102))
  unfold tokV
  go_enter Tryz.func213, Tryz.ntmps213
  go_wp2
  go_ret
  exact ⟨rfl, B0.out⟩

set_option maxHeartbeats 1000000 in
theorem rule2 (n : Int) (g : Nat) (m : Value) (t : Tok) (w : World) (_hg : GuAt w g n m) : Calls Tryz.prog 214 #[.pointer (some ⟨g, 0, none⟩), tokV t] w fun e w' => e = .returned (.bool (false)) ∧ Below w.heap.size w w' := by
  have B0 := Lib.hid (below_one w (.cells #[.int .i64 t.k, .int .i64 t.a, .int .i64 t.b, .int .i64 t.c, .int .i64 t.p, .int .i64 t.n] 102))
  unfold tokV
  go_enter Tryz.func214, Tryz.ntmps214
  go_wp2
  go_ret
  exact ⟨rfl, B0.out⟩

set_option maxHeartbeats 1000000 in
theorem rule3 (n : Int) (g : Nat) (m : Value) (t : Tok) (w : World) (_hg : GuAt w g n m) : Calls Tryz.prog 215 #[.pointer (some ⟨g, 0, none⟩), tokV t] w fun e w' => e = .returned (.bool (decide (t.a < 128))) ∧ Below w.heap.size w w' := by
  have B0 := Lib.hid (below_one w (.cells #[.int .i64 t.k, .int .i64 t.a, .int .i64 t.b, .int .i64 t.c, .int .i64 t.p, .int .i64 t.n] 102))
  unfold tokV
  go_enter Tryz.func215, Tryz.ntmps215
  go_wp2
  go_ret
  exact ⟨rfl, B0.out⟩

set_option maxHeartbeats 1000000 in
theorem rule4 (n : Int) (g : Nat) (m : Value) (t : Tok) (w : World) (hg : GuAt w g n m) : Calls Tryz.prog 216 #[.pointer (some ⟨g, 0, none⟩), tokV t] w fun e w' => e = .returned (.bool (prRight n)) ∧ Below w.heap.size w w' := by
  have B0 := Lib.hid (below_one w (.cells #[.int .i64 t.k, .int .i64 t.a, .int .i64 t.b, .int .i64 t.c, .int .i64 t.p, .int .i64 t.n] 102))
  have ⟨c0, c1, c2, c3, c4, c5, c6, c7, c8, c9⟩ := row10_cells (hg.keep (below_one w (.cells #[.int .i64 t.k, .int .i64 t.a, .int .i64 t.b, .int .i64 t.c, .int .i64 t.p, .int .i64 t.n] 102)))
  clear c0 c1 c2 c3 c5 c6 c7 c8 c9 hg
  unfold tokV
  go_enter Tryz.func216, Tryz.ntmps216
  go_wp2
  go_ret
  exact ⟨rfl, B0.out⟩

set_option maxHeartbeats 1000000 in
theorem rule5 (n : Int) (g : Nat) (m : Value) (t : Tok) (w : World) (hg : GuAt w g n m) : Calls Tryz.prog 217 #[.pointer (some ⟨g, 0, none⟩), tokV t] w fun e w' => e = .returned (.bool (prShifts n && decide (t.a < 2))) ∧ Below w.heap.size w w' := by
  have B0 := Lib.hid (below_one w (.cells #[.int .i64 t.k, .int .i64 t.a, .int .i64 t.b, .int .i64 t.c, .int .i64 t.p, .int .i64 t.n] 102))
  have ⟨c0, c1, c2, c3, c4, c5, c6, c7, c8, c9⟩ := row10_cells (hg.keep (below_one w (.cells #[.int .i64 t.k, .int .i64 t.a, .int .i64 t.b, .int .i64 t.c, .int .i64 t.p, .int .i64 t.n] 102)))
  clear c0 c1 c2 c3 c4 c6 c7 c8 c9 hg
  unfold tokV
  cases h : prShifts n
  · rw [h] at c5
    go_enter Tryz.func217, Tryz.ntmps217
    go_wp2
    go_ret
    exact ⟨rfl, B0.out⟩
  · rw [h] at c5
    have HE : Hid (decide (t.a ≤ 1) = (true && decide (t.a < 2))) := Lib.hid (by rw [Bool.true_and]; exact decide_eq_decide.2 (by omega))
    go_enter Tryz.func217, Tryz.ntmps217
    go_wp2
    go_ret
    exact ⟨ret_bool HE.out, B0.out⟩

set_option maxHeartbeats 1000000 in
theorem rule6 (n : Int) (g : Nat) (m : Value) (t : Tok) (w : World) (hg : GuAt w g n m) : Calls Tryz.prog 218 #[.pointer (some ⟨g, 0, none⟩), tokV t] w fun e w' => e = .returned (.bool (prSingle n && (decide (t.a = 2) && decide (t.n = 2)))) ∧ Below w.heap.size w w' := by
  have B0 := Lib.hid (below_one w (.cells #[.int .i64 t.k, .int .i64 t.a, .int .i64 t.b, .int .i64 t.c, .int .i64 t.p, .int .i64 t.n] 102))
  have ⟨c0, c1, c2, c3, c4, c5, c6, c7, c8, c9⟩ := row10_cells (hg.keep (below_one w (.cells #[.int .i64 t.k, .int .i64 t.a, .int .i64 t.b, .int .i64 t.c, .int .i64 t.p, .int .i64 t.n] 102)))
  clear c0 c1 c2 c3 c4 c5 c7 c8 c9 hg
  unfold tokV
  cases h : prSingle n
  · rw [h] at c6
    go_enter Tryz.func218, Tryz.ntmps218
    go_wp2
    go_ret
    exact ⟨rfl, B0.out⟩
  · rw [h] at c6
    by_cases h2 : t.a = 2
    · have e2 : (t.a == 2) = true := by simp [h2]
      have HE : Hid ((t.n == 2) = (true && (decide (t.a = 2) && decide (t.n = 2)))) := Lib.hid (by rw [decide_eq_true h2]; rfl)
      clear h2
      go_enter Tryz.func218, Tryz.ntmps218
      go_wp2
      go_ret
      exact ⟨ret_bool HE.out, B0.out⟩
    · have e2 : (t.a == 2) = false := by simp [h2]
      have HE : Hid (false = (true && (decide (t.a = 2) && decide (t.n = 2)))) := Lib.hid (by rw [decide_eq_false h2]; rfl)
      go_enter Tryz.func218, Tryz.ntmps218
      go_wp2
      go_ret
      exact ⟨ret_bool HE.out, B0.out⟩


/-- The worlds on the way through 'allows': the guide's map may have been made. -/
def AlW (W0 : World) (g : Nat) (n : Int) (C : Nat) : Type := { w' : World // GuOK w' g n C ∧ Only g W0 w' }
theorem alw_cell {W0 : World} {g tb i : Nat} {n : Int} {C : Nat} {v : Value} (h : W0.cell? ⟨tb, i, none⟩ = some v) (hne : tb ≠ g) (p : AlW W0 g n C) : p.1.cell? ⟨tb, i, none⟩ = some v := by
  have hl := World.block_lt_of_cell? W0 _ h
  have hb := p.2.2.2 tb hne hl
  rw [← h]
  unfold World.cell?
  rw [hb]
theorem alw_below {W0 : World} {g : Nat} {n : Int} {C : Nat} {f : FuncId} {args : Array Value} {v : Value} (hgW : g < W0.heap.size) (p : AlW W0 g n C) (h : Calls Tryz.prog f args p.1 fun e w' => e = .returned v ∧ Below p.1.heap.size p.1 w') : Calls Tryz.prog f args p.1 fun e w'' => e = .returned v ∧ ∃ q : AlW W0 g n C, w'' = q.1 :=
  h.mono fun _ w' ⟨he, hb⟩ => ⟨he, ⟨w', p.2.1.keep hb, p.2.2.trans (only_below (Nat.lt_of_lt_of_le hgW p.2.2.1.size) hb)⟩, rfl⟩
theorem alw_done {W0 : World} {g : Nat} {n : Int} {C : Nat} {f : FuncId} {args : Array Value} {q : Bool} (p : AlW W0 g n C) (h : Calls Tryz.prog f args p.1 (GaDone q g n C p.1)) : Calls Tryz.prog f args p.1 fun e w'' => e = .returned (.bool q) ∧ ∃ q : AlW W0 g n C, w'' = q.1 :=
  h.mono fun _ w' ⟨he, hG, ho⟩ => ⟨he, ⟨w', hG, p.2.2.trans ho⟩, rfl⟩

set_option maxHeartbeats 2000000 in
set_option maxRecDepth 100000 in
/-- The method at a kind whose predicate answers q. -/
theorem impl_allows_1 (k : Int) (hk : ∀ w : World, (Instr.index 231 (.agg #[.func (.func 214) #[] #[], .func (.func 215) #[] #[], .func (.func 213) #[] #[], .func (.func 213) #[] #[], .func (.func 216) #[] #[], .func (.func 217) #[] #[], .func (.func 218) #[] #[], .func (.func 219) #[] #[], .func (.func 214) #[] #[], .func (.func 214) #[] #[]]) (.int .i64 k)).run Tryz.prog w = .ok (.func (.func 213) #[] #[]) w)
    (n : Int) (g C : Nat) (a b c p m : Int) (q : Bool) (w : World) (h : GuOK w g n C) (hg : g < C) (hC : C ≤ w.heap.size)
    (hf : ∀ W, GuOK W g n C → Only g w W → C ≤ W.heap.size → Calls Tryz.prog 213 #[.pointer (some ⟨g, 0, none⟩), tokV ⟨k, a, b, c, p, m⟩] W (GaDone q g n C W)) :
    Calls Tryz.prog 186 #[.pointer (some ⟨g, 0, none⟩), tokV ⟨k, a, b, c, p, m⟩] w (GaDone q g n C w) := by
  have B0 := Lib.hid (below_one w (.cells #[.int .i64 k, .int .i64 a, .int .i64 b, .int .i64 c, .int .i64 p, .int .i64 m] 102))
  have hK : TokAt (w.alloc (.cells #[.int .i64 k, .int .i64 a, .int .i64 b, .int .i64 c, .int .i64 p, .int .i64 m] 102)) w.heap.size ⟨k, a, b, c, p, m⟩ := heap_alloc_new _ _
  have ⟨t0, t1, t2, t3, t4, t5⟩ := hK.cells
  dsimp only at t0 t1 t2 t3 t4 t5
  have HG0 := Lib.hid (h.keep B0.out)
  have hgl : g < w.heap.size := by omega
  have hne : w.heap.size ≠ g := by omega
  have hs0 : (w.alloc (.cells #[.int .i64 k, .int .i64 a, .int .i64 b, .int .i64 c, .int .i64 p, .int .i64 m] 102)).heap.size = w.heap.size + 1 := by simp
  unfold tokV at hf ⊢
  go_enter Tryz.func186, Tryz.ntmps186
  go_wp2_with fail
  generalize w.alloc (.cells #[.int .i64 k, .int .i64 a, .int .i64 b, .int .i64 c, .int .i64 p, .int .i64 m] 102) = W0 at *
  have hgW : g < W0.heap.size := by omega
  have m0 := fun p : AlW W0 g n C => alw_cell t0 hne p
  have m1 := fun p : AlW W0 g n C => alw_cell t1 hne p
  have m2 := fun p : AlW W0 g n C => alw_cell t2 hne p
  have m3 := fun p : AlW W0 g n C => alw_cell t3 hne p
  have m4 := fun p : AlW W0 g n C => alw_cell t4 hne p
  have m5 := fun p : AlW W0 g n C => alw_cell t5 hne p
  have cR := fun p : AlW W0 g n C => alw_below hgW p (impl_rules p.1)
  have cF := fun p : AlW W0 g n C => alw_done p (hf p.1 p.2.1 ((only_below hgl B0.out).trans p.2.2) (Nat.le_trans hC (Nat.le_trans B0.out.size p.2.2.1.size)))
  clear t0 t1 t2 t3 t4 t5 hf hK h
  haveI : Nonempty (AlW W0 g n C) := ⟨⟨W0, HG0.out, Only.refl g W0⟩⟩
  refine wp_region_quiet (C := fun w' => ∃ p : AlW W0 g n C, w' = p.1) (by kernel_rfl) (by kernel_rfl) ⟨⟨_, HG0.out.keep ((Below.refl W0.heap.size W0).drew), (Only.refl g W0).1.drew, (Only.refl g W0).2⟩, rfl⟩ ?_
  repeat (quiet_step (first | exact cR _ | exact cF _))
  refine wpQuiet_nil ?_
  intro w' hw'
  obtain ⟨⟨w9, hG9, hO9⟩, hw''⟩ := hw'
  have hw9 : w' = w9 := hw''
  subst hw9
  have HD : Hid (GuOK w' g n C ∧ Only g w w') := Lib.hid ⟨hG9, (only_below hgl B0.out).trans hO9⟩
  clear m0 m1 m2 m3 m4 m5 cR cF hw'' hG9 hO9
  go_wp2
  go_ret
  exact ⟨rfl, HD.out⟩

set_option maxHeartbeats 2000000 in
set_option maxRecDepth 100000 in
/-- The method at a kind whose predicate answers q. -/
theorem impl_allows_2 (k : Int) (hk : ∀ w : World, (Instr.index 231 (.agg #[.func (.func 214) #[] #[], .func (.func 215) #[] #[], .func (.func 213) #[] #[], .func (.func 213) #[] #[], .func (.func 216) #[] #[], .func (.func 217) #[] #[], .func (.func 218) #[] #[], .func (.func 219) #[] #[], .func (.func 214) #[] #[], .func (.func 214) #[] #[]]) (.int .i64 k)).run Tryz.prog w = .ok (.func (.func 214) #[] #[]) w)
    (n : Int) (g C : Nat) (a b c p m : Int) (q : Bool) (w : World) (h : GuOK w g n C) (hg : g < C) (hC : C ≤ w.heap.size)
    (hf : ∀ W, GuOK W g n C → Only g w W → C ≤ W.heap.size → Calls Tryz.prog 214 #[.pointer (some ⟨g, 0, none⟩), tokV ⟨k, a, b, c, p, m⟩] W (GaDone q g n C W)) :
    Calls Tryz.prog 186 #[.pointer (some ⟨g, 0, none⟩), tokV ⟨k, a, b, c, p, m⟩] w (GaDone q g n C w) := by
  have B0 := Lib.hid (below_one w (.cells #[.int .i64 k, .int .i64 a, .int .i64 b, .int .i64 c, .int .i64 p, .int .i64 m] 102))
  have hK : TokAt (w.alloc (.cells #[.int .i64 k, .int .i64 a, .int .i64 b, .int .i64 c, .int .i64 p, .int .i64 m] 102)) w.heap.size ⟨k, a, b, c, p, m⟩ := heap_alloc_new _ _
  have ⟨t0, t1, t2, t3, t4, t5⟩ := hK.cells
  dsimp only at t0 t1 t2 t3 t4 t5
  have HG0 := Lib.hid (h.keep B0.out)
  have hgl : g < w.heap.size := by omega
  have hne : w.heap.size ≠ g := by omega
  have hs0 : (w.alloc (.cells #[.int .i64 k, .int .i64 a, .int .i64 b, .int .i64 c, .int .i64 p, .int .i64 m] 102)).heap.size = w.heap.size + 1 := by simp
  unfold tokV at hf ⊢
  go_enter Tryz.func186, Tryz.ntmps186
  go_wp2_with fail
  generalize w.alloc (.cells #[.int .i64 k, .int .i64 a, .int .i64 b, .int .i64 c, .int .i64 p, .int .i64 m] 102) = W0 at *
  have hgW : g < W0.heap.size := by omega
  have m0 := fun p : AlW W0 g n C => alw_cell t0 hne p
  have m1 := fun p : AlW W0 g n C => alw_cell t1 hne p
  have m2 := fun p : AlW W0 g n C => alw_cell t2 hne p
  have m3 := fun p : AlW W0 g n C => alw_cell t3 hne p
  have m4 := fun p : AlW W0 g n C => alw_cell t4 hne p
  have m5 := fun p : AlW W0 g n C => alw_cell t5 hne p
  have cR := fun p : AlW W0 g n C => alw_below hgW p (impl_rules p.1)
  have cF := fun p : AlW W0 g n C => alw_done p (hf p.1 p.2.1 ((only_below hgl B0.out).trans p.2.2) (Nat.le_trans hC (Nat.le_trans B0.out.size p.2.2.1.size)))
  clear t0 t1 t2 t3 t4 t5 hf hK h
  haveI : Nonempty (AlW W0 g n C) := ⟨⟨W0, HG0.out, Only.refl g W0⟩⟩
  refine wp_region_quiet (C := fun w' => ∃ p : AlW W0 g n C, w' = p.1) (by kernel_rfl) (by kernel_rfl) ⟨⟨_, HG0.out.keep ((Below.refl W0.heap.size W0).drew), (Only.refl g W0).1.drew, (Only.refl g W0).2⟩, rfl⟩ ?_
  repeat (quiet_step (first | exact cR _ | exact cF _))
  refine wpQuiet_nil ?_
  intro w' hw'
  obtain ⟨⟨w9, hG9, hO9⟩, hw''⟩ := hw'
  have hw9 : w' = w9 := hw''
  subst hw9
  have HD : Hid (GuOK w' g n C ∧ Only g w w') := Lib.hid ⟨hG9, (only_below hgl B0.out).trans hO9⟩
  clear m0 m1 m2 m3 m4 m5 cR cF hw'' hG9 hO9
  go_wp2
  go_ret
  exact ⟨rfl, HD.out⟩

set_option maxHeartbeats 2000000 in
set_option maxRecDepth 100000 in
/-- The method at a kind whose predicate answers q. -/
theorem impl_allows_3 (k : Int) (hk : ∀ w : World, (Instr.index 231 (.agg #[.func (.func 214) #[] #[], .func (.func 215) #[] #[], .func (.func 213) #[] #[], .func (.func 213) #[] #[], .func (.func 216) #[] #[], .func (.func 217) #[] #[], .func (.func 218) #[] #[], .func (.func 219) #[] #[], .func (.func 214) #[] #[], .func (.func 214) #[] #[]]) (.int .i64 k)).run Tryz.prog w = .ok (.func (.func 215) #[] #[]) w)
    (n : Int) (g C : Nat) (a b c p m : Int) (q : Bool) (w : World) (h : GuOK w g n C) (hg : g < C) (hC : C ≤ w.heap.size)
    (hf : ∀ W, GuOK W g n C → Only g w W → C ≤ W.heap.size → Calls Tryz.prog 215 #[.pointer (some ⟨g, 0, none⟩), tokV ⟨k, a, b, c, p, m⟩] W (GaDone q g n C W)) :
    Calls Tryz.prog 186 #[.pointer (some ⟨g, 0, none⟩), tokV ⟨k, a, b, c, p, m⟩] w (GaDone q g n C w) := by
  have B0 := Lib.hid (below_one w (.cells #[.int .i64 k, .int .i64 a, .int .i64 b, .int .i64 c, .int .i64 p, .int .i64 m] 102))
  have hK : TokAt (w.alloc (.cells #[.int .i64 k, .int .i64 a, .int .i64 b, .int .i64 c, .int .i64 p, .int .i64 m] 102)) w.heap.size ⟨k, a, b, c, p, m⟩ := heap_alloc_new _ _
  have ⟨t0, t1, t2, t3, t4, t5⟩ := hK.cells
  dsimp only at t0 t1 t2 t3 t4 t5
  have HG0 := Lib.hid (h.keep B0.out)
  have hgl : g < w.heap.size := by omega
  have hne : w.heap.size ≠ g := by omega
  have hs0 : (w.alloc (.cells #[.int .i64 k, .int .i64 a, .int .i64 b, .int .i64 c, .int .i64 p, .int .i64 m] 102)).heap.size = w.heap.size + 1 := by simp
  unfold tokV at hf ⊢
  go_enter Tryz.func186, Tryz.ntmps186
  go_wp2_with fail
  generalize w.alloc (.cells #[.int .i64 k, .int .i64 a, .int .i64 b, .int .i64 c, .int .i64 p, .int .i64 m] 102) = W0 at *
  have hgW : g < W0.heap.size := by omega
  have m0 := fun p : AlW W0 g n C => alw_cell t0 hne p
  have m1 := fun p : AlW W0 g n C => alw_cell t1 hne p
  have m2 := fun p : AlW W0 g n C => alw_cell t2 hne p
  have m3 := fun p : AlW W0 g n C => alw_cell t3 hne p
  have m4 := fun p : AlW W0 g n C => alw_cell t4 hne p
  have m5 := fun p : AlW W0 g n C => alw_cell t5 hne p
  have cR := fun p : AlW W0 g n C => alw_below hgW p (impl_rules p.1)
  have cF := fun p : AlW W0 g n C => alw_done p (hf p.1 p.2.1 ((only_below hgl B0.out).trans p.2.2) (Nat.le_trans hC (Nat.le_trans B0.out.size p.2.2.1.size)))
  clear t0 t1 t2 t3 t4 t5 hf hK h
  haveI : Nonempty (AlW W0 g n C) := ⟨⟨W0, HG0.out, Only.refl g W0⟩⟩
  refine wp_region_quiet (C := fun w' => ∃ p : AlW W0 g n C, w' = p.1) (by kernel_rfl) (by kernel_rfl) ⟨⟨_, HG0.out.keep ((Below.refl W0.heap.size W0).drew), (Only.refl g W0).1.drew, (Only.refl g W0).2⟩, rfl⟩ ?_
  repeat (quiet_step (first | exact cR _ | exact cF _))
  refine wpQuiet_nil ?_
  intro w' hw'
  obtain ⟨⟨w9, hG9, hO9⟩, hw''⟩ := hw'
  have hw9 : w' = w9 := hw''
  subst hw9
  have HD : Hid (GuOK w' g n C ∧ Only g w w') := Lib.hid ⟨hG9, (only_below hgl B0.out).trans hO9⟩
  clear m0 m1 m2 m3 m4 m5 cR cF hw'' hG9 hO9
  go_wp2
  go_ret
  exact ⟨rfl, HD.out⟩

set_option maxHeartbeats 2000000 in
set_option maxRecDepth 100000 in
/-- The method at a kind whose predicate answers q. -/
theorem impl_allows_4 (k : Int) (hk : ∀ w : World, (Instr.index 231 (.agg #[.func (.func 214) #[] #[], .func (.func 215) #[] #[], .func (.func 213) #[] #[], .func (.func 213) #[] #[], .func (.func 216) #[] #[], .func (.func 217) #[] #[], .func (.func 218) #[] #[], .func (.func 219) #[] #[], .func (.func 214) #[] #[], .func (.func 214) #[] #[]]) (.int .i64 k)).run Tryz.prog w = .ok (.func (.func 216) #[] #[]) w)
    (n : Int) (g C : Nat) (a b c p m : Int) (q : Bool) (w : World) (h : GuOK w g n C) (hg : g < C) (hC : C ≤ w.heap.size)
    (hf : ∀ W, GuOK W g n C → Only g w W → C ≤ W.heap.size → Calls Tryz.prog 216 #[.pointer (some ⟨g, 0, none⟩), tokV ⟨k, a, b, c, p, m⟩] W (GaDone q g n C W)) :
    Calls Tryz.prog 186 #[.pointer (some ⟨g, 0, none⟩), tokV ⟨k, a, b, c, p, m⟩] w (GaDone q g n C w) := by
  have B0 := Lib.hid (below_one w (.cells #[.int .i64 k, .int .i64 a, .int .i64 b, .int .i64 c, .int .i64 p, .int .i64 m] 102))
  have hK : TokAt (w.alloc (.cells #[.int .i64 k, .int .i64 a, .int .i64 b, .int .i64 c, .int .i64 p, .int .i64 m] 102)) w.heap.size ⟨k, a, b, c, p, m⟩ := heap_alloc_new _ _
  have ⟨t0, t1, t2, t3, t4, t5⟩ := hK.cells
  dsimp only at t0 t1 t2 t3 t4 t5
  have HG0 := Lib.hid (h.keep B0.out)
  have hgl : g < w.heap.size := by omega
  have hne : w.heap.size ≠ g := by omega
  have hs0 : (w.alloc (.cells #[.int .i64 k, .int .i64 a, .int .i64 b, .int .i64 c, .int .i64 p, .int .i64 m] 102)).heap.size = w.heap.size + 1 := by simp
  unfold tokV at hf ⊢
  go_enter Tryz.func186, Tryz.ntmps186
  go_wp2_with fail
  generalize w.alloc (.cells #[.int .i64 k, .int .i64 a, .int .i64 b, .int .i64 c, .int .i64 p, .int .i64 m] 102) = W0 at *
  have hgW : g < W0.heap.size := by omega
  have m0 := fun p : AlW W0 g n C => alw_cell t0 hne p
  have m1 := fun p : AlW W0 g n C => alw_cell t1 hne p
  have m2 := fun p : AlW W0 g n C => alw_cell t2 hne p
  have m3 := fun p : AlW W0 g n C => alw_cell t3 hne p
  have m4 := fun p : AlW W0 g n C => alw_cell t4 hne p
  have m5 := fun p : AlW W0 g n C => alw_cell t5 hne p
  have cR := fun p : AlW W0 g n C => alw_below hgW p (impl_rules p.1)
  have cF := fun p : AlW W0 g n C => alw_done p (hf p.1 p.2.1 ((only_below hgl B0.out).trans p.2.2) (Nat.le_trans hC (Nat.le_trans B0.out.size p.2.2.1.size)))
  clear t0 t1 t2 t3 t4 t5 hf hK h
  haveI : Nonempty (AlW W0 g n C) := ⟨⟨W0, HG0.out, Only.refl g W0⟩⟩
  refine wp_region_quiet (C := fun w' => ∃ p : AlW W0 g n C, w' = p.1) (by kernel_rfl) (by kernel_rfl) ⟨⟨_, HG0.out.keep ((Below.refl W0.heap.size W0).drew), (Only.refl g W0).1.drew, (Only.refl g W0).2⟩, rfl⟩ ?_
  repeat (quiet_step (first | exact cR _ | exact cF _))
  refine wpQuiet_nil ?_
  intro w' hw'
  obtain ⟨⟨w9, hG9, hO9⟩, hw''⟩ := hw'
  have hw9 : w' = w9 := hw''
  subst hw9
  have HD : Hid (GuOK w' g n C ∧ Only g w w') := Lib.hid ⟨hG9, (only_below hgl B0.out).trans hO9⟩
  clear m0 m1 m2 m3 m4 m5 cR cF hw'' hG9 hO9
  go_wp2
  go_ret
  exact ⟨rfl, HD.out⟩

set_option maxHeartbeats 2000000 in
set_option maxRecDepth 100000 in
/-- The method at a kind whose predicate answers q. -/
theorem impl_allows_5 (k : Int) (hk : ∀ w : World, (Instr.index 231 (.agg #[.func (.func 214) #[] #[], .func (.func 215) #[] #[], .func (.func 213) #[] #[], .func (.func 213) #[] #[], .func (.func 216) #[] #[], .func (.func 217) #[] #[], .func (.func 218) #[] #[], .func (.func 219) #[] #[], .func (.func 214) #[] #[], .func (.func 214) #[] #[]]) (.int .i64 k)).run Tryz.prog w = .ok (.func (.func 217) #[] #[]) w)
    (n : Int) (g C : Nat) (a b c p m : Int) (q : Bool) (w : World) (h : GuOK w g n C) (hg : g < C) (hC : C ≤ w.heap.size)
    (hf : ∀ W, GuOK W g n C → Only g w W → C ≤ W.heap.size → Calls Tryz.prog 217 #[.pointer (some ⟨g, 0, none⟩), tokV ⟨k, a, b, c, p, m⟩] W (GaDone q g n C W)) :
    Calls Tryz.prog 186 #[.pointer (some ⟨g, 0, none⟩), tokV ⟨k, a, b, c, p, m⟩] w (GaDone q g n C w) := by
  have B0 := Lib.hid (below_one w (.cells #[.int .i64 k, .int .i64 a, .int .i64 b, .int .i64 c, .int .i64 p, .int .i64 m] 102))
  have hK : TokAt (w.alloc (.cells #[.int .i64 k, .int .i64 a, .int .i64 b, .int .i64 c, .int .i64 p, .int .i64 m] 102)) w.heap.size ⟨k, a, b, c, p, m⟩ := heap_alloc_new _ _
  have ⟨t0, t1, t2, t3, t4, t5⟩ := hK.cells
  dsimp only at t0 t1 t2 t3 t4 t5
  have HG0 := Lib.hid (h.keep B0.out)
  have hgl : g < w.heap.size := by omega
  have hne : w.heap.size ≠ g := by omega
  have hs0 : (w.alloc (.cells #[.int .i64 k, .int .i64 a, .int .i64 b, .int .i64 c, .int .i64 p, .int .i64 m] 102)).heap.size = w.heap.size + 1 := by simp
  unfold tokV at hf ⊢
  go_enter Tryz.func186, Tryz.ntmps186
  go_wp2_with fail
  generalize w.alloc (.cells #[.int .i64 k, .int .i64 a, .int .i64 b, .int .i64 c, .int .i64 p, .int .i64 m] 102) = W0 at *
  have hgW : g < W0.heap.size := by omega
  have m0 := fun p : AlW W0 g n C => alw_cell t0 hne p
  have m1 := fun p : AlW W0 g n C => alw_cell t1 hne p
  have m2 := fun p : AlW W0 g n C => alw_cell t2 hne p
  have m3 := fun p : AlW W0 g n C => alw_cell t3 hne p
  have m4 := fun p : AlW W0 g n C => alw_cell t4 hne p
  have m5 := fun p : AlW W0 g n C => alw_cell t5 hne p
  have cR := fun p : AlW W0 g n C => alw_below hgW p (impl_rules p.1)
  have cF := fun p : AlW W0 g n C => alw_done p (hf p.1 p.2.1 ((only_below hgl B0.out).trans p.2.2) (Nat.le_trans hC (Nat.le_trans B0.out.size p.2.2.1.size)))
  clear t0 t1 t2 t3 t4 t5 hf hK h
  haveI : Nonempty (AlW W0 g n C) := ⟨⟨W0, HG0.out, Only.refl g W0⟩⟩
  refine wp_region_quiet (C := fun w' => ∃ p : AlW W0 g n C, w' = p.1) (by kernel_rfl) (by kernel_rfl) ⟨⟨_, HG0.out.keep ((Below.refl W0.heap.size W0).drew), (Only.refl g W0).1.drew, (Only.refl g W0).2⟩, rfl⟩ ?_
  repeat (quiet_step (first | exact cR _ | exact cF _))
  refine wpQuiet_nil ?_
  intro w' hw'
  obtain ⟨⟨w9, hG9, hO9⟩, hw''⟩ := hw'
  have hw9 : w' = w9 := hw''
  subst hw9
  have HD : Hid (GuOK w' g n C ∧ Only g w w') := Lib.hid ⟨hG9, (only_below hgl B0.out).trans hO9⟩
  clear m0 m1 m2 m3 m4 m5 cR cF hw'' hG9 hO9
  go_wp2
  go_ret
  exact ⟨rfl, HD.out⟩

set_option maxHeartbeats 2000000 in
set_option maxRecDepth 100000 in
/-- The method at a kind whose predicate answers q. -/
theorem impl_allows_6 (k : Int) (hk : ∀ w : World, (Instr.index 231 (.agg #[.func (.func 214) #[] #[], .func (.func 215) #[] #[], .func (.func 213) #[] #[], .func (.func 213) #[] #[], .func (.func 216) #[] #[], .func (.func 217) #[] #[], .func (.func 218) #[] #[], .func (.func 219) #[] #[], .func (.func 214) #[] #[], .func (.func 214) #[] #[]]) (.int .i64 k)).run Tryz.prog w = .ok (.func (.func 218) #[] #[]) w)
    (n : Int) (g C : Nat) (a b c p m : Int) (q : Bool) (w : World) (h : GuOK w g n C) (hg : g < C) (hC : C ≤ w.heap.size)
    (hf : ∀ W, GuOK W g n C → Only g w W → C ≤ W.heap.size → Calls Tryz.prog 218 #[.pointer (some ⟨g, 0, none⟩), tokV ⟨k, a, b, c, p, m⟩] W (GaDone q g n C W)) :
    Calls Tryz.prog 186 #[.pointer (some ⟨g, 0, none⟩), tokV ⟨k, a, b, c, p, m⟩] w (GaDone q g n C w) := by
  have B0 := Lib.hid (below_one w (.cells #[.int .i64 k, .int .i64 a, .int .i64 b, .int .i64 c, .int .i64 p, .int .i64 m] 102))
  have hK : TokAt (w.alloc (.cells #[.int .i64 k, .int .i64 a, .int .i64 b, .int .i64 c, .int .i64 p, .int .i64 m] 102)) w.heap.size ⟨k, a, b, c, p, m⟩ := heap_alloc_new _ _
  have ⟨t0, t1, t2, t3, t4, t5⟩ := hK.cells
  dsimp only at t0 t1 t2 t3 t4 t5
  have HG0 := Lib.hid (h.keep B0.out)
  have hgl : g < w.heap.size := by omega
  have hne : w.heap.size ≠ g := by omega
  have hs0 : (w.alloc (.cells #[.int .i64 k, .int .i64 a, .int .i64 b, .int .i64 c, .int .i64 p, .int .i64 m] 102)).heap.size = w.heap.size + 1 := by simp
  unfold tokV at hf ⊢
  go_enter Tryz.func186, Tryz.ntmps186
  go_wp2_with fail
  generalize w.alloc (.cells #[.int .i64 k, .int .i64 a, .int .i64 b, .int .i64 c, .int .i64 p, .int .i64 m] 102) = W0 at *
  have hgW : g < W0.heap.size := by omega
  have m0 := fun p : AlW W0 g n C => alw_cell t0 hne p
  have m1 := fun p : AlW W0 g n C => alw_cell t1 hne p
  have m2 := fun p : AlW W0 g n C => alw_cell t2 hne p
  have m3 := fun p : AlW W0 g n C => alw_cell t3 hne p
  have m4 := fun p : AlW W0 g n C => alw_cell t4 hne p
  have m5 := fun p : AlW W0 g n C => alw_cell t5 hne p
  have cR := fun p : AlW W0 g n C => alw_below hgW p (impl_rules p.1)
  have cF := fun p : AlW W0 g n C => alw_done p (hf p.1 p.2.1 ((only_below hgl B0.out).trans p.2.2) (Nat.le_trans hC (Nat.le_trans B0.out.size p.2.2.1.size)))
  clear t0 t1 t2 t3 t4 t5 hf hK h
  haveI : Nonempty (AlW W0 g n C) := ⟨⟨W0, HG0.out, Only.refl g W0⟩⟩
  refine wp_region_quiet (C := fun w' => ∃ p : AlW W0 g n C, w' = p.1) (by kernel_rfl) (by kernel_rfl) ⟨⟨_, HG0.out.keep ((Below.refl W0.heap.size W0).drew), (Only.refl g W0).1.drew, (Only.refl g W0).2⟩, rfl⟩ ?_
  repeat (quiet_step (first | exact cR _ | exact cF _))
  refine wpQuiet_nil ?_
  intro w' hw'
  obtain ⟨⟨w9, hG9, hO9⟩, hw''⟩ := hw'
  have hw9 : w' = w9 := hw''
  subst hw9
  have HD : Hid (GuOK w' g n C ∧ Only g w w') := Lib.hid ⟨hG9, (only_below hgl B0.out).trans hO9⟩
  clear m0 m1 m2 m3 m4 m5 cR cF hw'' hG9 hO9
  go_wp2
  go_ret
  exact ⟨rfl, HD.out⟩

set_option maxHeartbeats 2000000 in
set_option maxRecDepth 100000 in
/-- The method at a kind whose predicate answers q. -/
theorem impl_allows_N (k : Int) (hk : ∀ w : World, (Instr.index 231 (.agg #[.func (.func 214) #[] #[], .func (.func 215) #[] #[], .func (.func 213) #[] #[], .func (.func 213) #[] #[], .func (.func 216) #[] #[], .func (.func 217) #[] #[], .func (.func 218) #[] #[], .func (.func 219) #[] #[], .func (.func 214) #[] #[], .func (.func 214) #[] #[]]) (.int .i64 k)).run Tryz.prog w = .ok (.func (.func 219) #[] #[]) w)
    (n : Int) (g C : Nat) (a b c p m : Int) (q : Bool) (w : World) (h : GuOK w g n C) (hg : g < C) (hC : C ≤ w.heap.size)
    (hf : ∀ W, GuOK W g n C → Only g w W → C ≤ W.heap.size → Calls Tryz.prog 219 #[.pointer (some ⟨g, 0, none⟩), tokV ⟨k, a, b, c, p, m⟩] W (GaDone q g n C W)) :
    Calls Tryz.prog 186 #[.pointer (some ⟨g, 0, none⟩), tokV ⟨k, a, b, c, p, m⟩] w (GaDone q g n C w) := by
  have B0 := Lib.hid (below_one w (.cells #[.int .i64 k, .int .i64 a, .int .i64 b, .int .i64 c, .int .i64 p, .int .i64 m] 102))
  have hK : TokAt (w.alloc (.cells #[.int .i64 k, .int .i64 a, .int .i64 b, .int .i64 c, .int .i64 p, .int .i64 m] 102)) w.heap.size ⟨k, a, b, c, p, m⟩ := heap_alloc_new _ _
  have ⟨t0, t1, t2, t3, t4, t5⟩ := hK.cells
  dsimp only at t0 t1 t2 t3 t4 t5
  have HG0 := Lib.hid (h.keep B0.out)
  have hgl : g < w.heap.size := by omega
  have hne : w.heap.size ≠ g := by omega
  have hs0 : (w.alloc (.cells #[.int .i64 k, .int .i64 a, .int .i64 b, .int .i64 c, .int .i64 p, .int .i64 m] 102)).heap.size = w.heap.size + 1 := by simp
  unfold tokV at hf ⊢
  go_enter Tryz.func186, Tryz.ntmps186
  go_wp2_with fail
  generalize w.alloc (.cells #[.int .i64 k, .int .i64 a, .int .i64 b, .int .i64 c, .int .i64 p, .int .i64 m] 102) = W0 at *
  have hgW : g < W0.heap.size := by omega
  have m0 := fun p : AlW W0 g n C => alw_cell t0 hne p
  have m1 := fun p : AlW W0 g n C => alw_cell t1 hne p
  have m2 := fun p : AlW W0 g n C => alw_cell t2 hne p
  have m3 := fun p : AlW W0 g n C => alw_cell t3 hne p
  have m4 := fun p : AlW W0 g n C => alw_cell t4 hne p
  have m5 := fun p : AlW W0 g n C => alw_cell t5 hne p
  have cR := fun p : AlW W0 g n C => alw_below hgW p (impl_rules p.1)
  have cF := fun p : AlW W0 g n C => alw_done p (hf p.1 p.2.1 ((only_below hgl B0.out).trans p.2.2) (Nat.le_trans hC (Nat.le_trans B0.out.size p.2.2.1.size)))
  clear t0 t1 t2 t3 t4 t5 hf hK h
  haveI : Nonempty (AlW W0 g n C) := ⟨⟨W0, HG0.out, Only.refl g W0⟩⟩
  refine wp_region_quiet (C := fun w' => ∃ p : AlW W0 g n C, w' = p.1) (by kernel_rfl) (by kernel_rfl) ⟨⟨_, HG0.out.keep ((Below.refl W0.heap.size W0).drew), (Only.refl g W0).1.drew, (Only.refl g W0).2⟩, rfl⟩ ?_
  repeat (quiet_step (first | exact cR _ | exact cF _))
  refine wpQuiet_nil ?_
  intro w' hw'
  obtain ⟨⟨w9, hG9, hO9⟩, hw''⟩ := hw'
  have hw9 : w' = w9 := hw''
  subst hw9
  have HD : Hid (GuOK w' g n C ∧ Only g w w') := Lib.hid ⟨hG9, (only_below hgl B0.out).trans hO9⟩
  clear m0 m1 m2 m3 m4 m5 cR cF hw'' hG9 hO9
  go_wp2
  go_ret
  exact ⟨rfl, HD.out⟩

theorem ga_below {n : Int} {g C : Nat} {q : Bool} {f : FuncId} {args : Array Value} {W : World} (hG : GuOK W g n C) (hgl : g < W.heap.size) (h : Calls Tryz.prog f args W fun e w' => e = .returned (.bool q) ∧ Below W.heap.size W w') : Calls Tryz.prog f args W (GaDone q g n C W) :=
  h.mono fun _ _ ⟨he, hb⟩ => ⟨he, hG.keep hb, only_below hgl hb⟩

theorem impl_allows (n : Int) (t : Tok) (g C : Nat) (w : World) (h : GuOK w g n C) (hg : g < C) (hC : C ≤ w.heap.size) (ht : ∀ W, Only g w W → TabSets W) (hn : proB n = true) (hk : tokLP t) :
    Calls Tryz.prog 186 #[.pointer (some ⟨g, 0, none⟩), tokV t] w (GaDone (allowB n t) g n C w) := by
  obtain ⟨k, a, b, c, p, m⟩ := t
  obtain ⟨_, hk⟩ := hk
  dsimp only at hk
  have rul : ∀ {W : World} {f : FuncId} {args : Array Value} {q : Bool}, GuOK W g n C → C ≤ W.heap.size → (∀ m, GuAt W g n m → Calls Tryz.prog f args W fun e w' => e = .returned (.bool q) ∧ Below W.heap.size W w') → Calls Tryz.prog f args W (GaDone q g n C W) := by
    intro W f args q hG hCW hc
    obtain ⟨m', hm', h2⟩ := hG
    exact ga_below ⟨m', hm', h2⟩ (by omega) (hc m' hm')
  rcases hk with ⟨rfl, _⟩ | ⟨rfl, _⟩ | ⟨rfl, _⟩ | ⟨rfl, _⟩ | ⟨rfl, _⟩ | ⟨rfl, _⟩ | ⟨rfl, a0, a3, b0, b3, _⟩ | ⟨rfl | rfl, _⟩
  · exact impl_allows_3 1 (fun _ => by kernel_rfl) n g C a b c p m _ w h hg hC fun W hG _ hCW => rul hG hCW fun m' hm' => rule3 n g m' ⟨1, a, b, c, p, m⟩ W hm'
  · exact impl_allows_1 2 (fun _ => by kernel_rfl) n g C a b c p m _ w h hg hC fun W hG _ hCW => rul hG hCW fun m' hm' => rule1 n g m' ⟨2, a, b, c, p, m⟩ W hm'
  · exact impl_allows_1 3 (fun _ => by kernel_rfl) n g C a b c p m _ w h hg hC fun W hG _ hCW => rul hG hCW fun m' hm' => rule1 n g m' ⟨3, a, b, c, p, m⟩ W hm'
  · exact impl_allows_4 4 (fun _ => by kernel_rfl) n g C a b c p m _ w h hg hC fun W hG _ hCW => rul hG hCW fun m' hm' => rule4 n g m' ⟨4, a, b, c, p, m⟩ W hm'
  · exact impl_allows_5 5 (fun _ => by kernel_rfl) n g C a b c p m _ w h hg hC fun W hG _ hCW => rul hG hCW fun m' hm' => rule5 n g m' ⟨5, a, b, c, p, m⟩ W hm'
  · exact impl_allows_6 6 (fun _ => by kernel_rfl) n g C a b c p m _ w h hg hC fun W hG _ hCW => rul hG hCW fun m' hm' => rule6 n g m' ⟨6, a, b, c, p, m⟩ W hm'
  · exact impl_allows_N 7 (fun _ => by kernel_rfl) n g C a b c p m _ w h hg hC fun W hG ho hCW => impl_allowsName n g C a b c p m W hG hg hCW (ht W ho) hn a0 a3 b0 b3
  · exact impl_allows_2 8 (fun _ => by kernel_rfl) n g C a b c p m _ w h hg hC fun W hG _ hCW => rul hG hCW fun m' hm' => rule2 n g m' ⟨8, a, b, c, p, m⟩ W hm'
  · exact impl_allows_2 9 (fun _ => by kernel_rfl) n g C a b c p m _ w h hg hC fun W hG _ hCW => rul hG hCW fun m' hm' => rule2 n g m' ⟨9, a, b, c, p, m⟩ W hm'

/-- AllowsToken: what it answers. -/
def atC (n : Int) (t : Tok) : Int := if proB n = true then (if tokOKB t = true then 0 else 1) else 5
def atB (n : Int) (t : Tok) : Bool := proB n && (tokOKB t && allowB n t)
def AtDone (n : Int) (t : Tok) (w : World) (e : Ending) (w' : World) : Prop := e = .returned (.tuple #[.bool (atB n t), .int .i64 (atC n t)]) ∧ Below w.heap.size w w'
theorem atDone_bad {n : Int} {t : Tok} {w w' : World} {c : Int} (h : atC n t = c) (h0 : c ≠ 0) (hb : Below w.heap.size w w') : AtDone n t w (.returned (.tuple #[.bool false, .int .i64 c])) w' := by
  refine ⟨?_, hb⟩
  have : atB n t = false := by
    unfold atC at h
    unfold atB
    cases h1 : proB n <;> cases h2 : tokOKB t <;> simp_all
  rw [this, h]
theorem atDone_ok {n : Int} {t : Tok} {w w' : World} {b : Bool} (h1 : proB n = true) (h2 : tokOKB t = true) (h3 : allowB n t = b) (hb : Below w.heap.size w w') : AtDone n t w (.returned (.tuple #[.bool b, .int .i64 0])) w' := by
  refine ⟨?_, hb⟩
  rw [atB, atC, h1, h2, h3]
  simp

end Go.Proofs.YtbamjhldebobhaaGreatDoor

namespace Go.Proofs.YtbamjhldebobhaaGreatDoor
open Go.RowKit Go.Sort
variable {ζ : RZ}

theorem rule1R (n : Int) (g : Nat) (m : Value) (t : Tok) (w : World) (_hg : GRt ζ w g n m) : Calls Tryz.prog 213 #[.pointer (some ⟨g, 0, none⟩), tokV t] w fun e w' => e = .returned (.bool (true)) ∧ Below w.heap.size w w' := by
  have B0 := Lib.hid (below_one w (.cells #[.int .i64 t.k, .int .i64 t.a, .int .i64 t.b, .int .i64 t.c, .int .i64 t.p, .int .i64 t.n] 102))
  unfold tokV
  go_enter Tryz.func213, Tryz.ntmps213
  go_wp2
  go_ret
  exact ⟨rfl, B0.out⟩

set_option maxHeartbeats 1000000 in
theorem rule2R (n : Int) (g : Nat) (m : Value) (t : Tok) (w : World) (_hg : GRt ζ w g n m) : Calls Tryz.prog 214 #[.pointer (some ⟨g, 0, none⟩), tokV t] w fun e w' => e = .returned (.bool (false)) ∧ Below w.heap.size w w' := by
  have B0 := Lib.hid (below_one w (.cells #[.int .i64 t.k, .int .i64 t.a, .int .i64 t.b, .int .i64 t.c, .int .i64 t.p, .int .i64 t.n] 102))
  unfold tokV
  go_enter Tryz.func214, Tryz.ntmps214
  go_wp2
  go_ret
  exact ⟨rfl, B0.out⟩

set_option maxHeartbeats 1000000 in
theorem rule3R (n : Int) (g : Nat) (m : Value) (t : Tok) (w : World) (_hg : GRt ζ w g n m) : Calls Tryz.prog 215 #[.pointer (some ⟨g, 0, none⟩), tokV t] w fun e w' => e = .returned (.bool (decide (t.a < 128))) ∧ Below w.heap.size w w' := by
  have B0 := Lib.hid (below_one w (.cells #[.int .i64 t.k, .int .i64 t.a, .int .i64 t.b, .int .i64 t.c, .int .i64 t.p, .int .i64 t.n] 102))
  unfold tokV
  go_enter Tryz.func215, Tryz.ntmps215
  go_wp2
  go_ret
  exact ⟨rfl, B0.out⟩

set_option maxHeartbeats 1000000 in
theorem rule4R (n : Int) (g : Nat) (m : Value) (t : Tok) (w : World) (hg : GRt ζ w g n m) : Calls Tryz.prog 216 #[.pointer (some ⟨g, 0, none⟩), tokV t] w fun e w' => e = .returned (.bool (prRight n)) ∧ Below w.heap.size w w' := by
  have B0 := Lib.hid (below_one w (.cells #[.int .i64 t.k, .int .i64 t.a, .int .i64 t.b, .int .i64 t.c, .int .i64 t.p, .int .i64 t.n] 102))
  have ⟨c0, c1, c2, c3, c4, c5, c6, c7, c8, c9⟩ := grt_cells (hg.keep (below_one w (.cells #[.int .i64 t.k, .int .i64 t.a, .int .i64 t.b, .int .i64 t.c, .int .i64 t.p, .int .i64 t.n] 102)))
  clear c0 c1 c2 c3 c5 c6 c7 c8 c9 hg
  unfold tokV
  go_enter Tryz.func216, Tryz.ntmps216
  go_wp2
  go_ret
  exact ⟨rfl, B0.out⟩

set_option maxHeartbeats 1000000 in
theorem rule5R (n : Int) (g : Nat) (m : Value) (t : Tok) (w : World) (hg : GRt ζ w g n m) : Calls Tryz.prog 217 #[.pointer (some ⟨g, 0, none⟩), tokV t] w fun e w' => e = .returned (.bool (prShifts n && decide (t.a < 2))) ∧ Below w.heap.size w w' := by
  have B0 := Lib.hid (below_one w (.cells #[.int .i64 t.k, .int .i64 t.a, .int .i64 t.b, .int .i64 t.c, .int .i64 t.p, .int .i64 t.n] 102))
  have ⟨c0, c1, c2, c3, c4, c5, c6, c7, c8, c9⟩ := grt_cells (hg.keep (below_one w (.cells #[.int .i64 t.k, .int .i64 t.a, .int .i64 t.b, .int .i64 t.c, .int .i64 t.p, .int .i64 t.n] 102)))
  clear c0 c1 c2 c3 c4 c6 c7 c8 c9 hg
  unfold tokV
  cases h : prShifts n
  · rw [h] at c5
    go_enter Tryz.func217, Tryz.ntmps217
    go_wp2
    go_ret
    exact ⟨rfl, B0.out⟩
  · rw [h] at c5
    have HE : Hid (decide (t.a ≤ 1) = (true && decide (t.a < 2))) := Lib.hid (by rw [Bool.true_and]; exact decide_eq_decide.2 (by omega))
    go_enter Tryz.func217, Tryz.ntmps217
    go_wp2
    go_ret
    exact ⟨ret_bool HE.out, B0.out⟩

set_option maxHeartbeats 1000000 in
theorem rule6R (n : Int) (g : Nat) (m : Value) (t : Tok) (w : World) (hg : GRt ζ w g n m) : Calls Tryz.prog 218 #[.pointer (some ⟨g, 0, none⟩), tokV t] w fun e w' => e = .returned (.bool (prSingle n && (decide (t.a = 2) && decide (t.n = 2)))) ∧ Below w.heap.size w w' := by
  have B0 := Lib.hid (below_one w (.cells #[.int .i64 t.k, .int .i64 t.a, .int .i64 t.b, .int .i64 t.c, .int .i64 t.p, .int .i64 t.n] 102))
  have ⟨c0, c1, c2, c3, c4, c5, c6, c7, c8, c9⟩ := grt_cells (hg.keep (below_one w (.cells #[.int .i64 t.k, .int .i64 t.a, .int .i64 t.b, .int .i64 t.c, .int .i64 t.p, .int .i64 t.n] 102)))
  clear c0 c1 c2 c3 c4 c5 c7 c8 c9 hg
  unfold tokV
  cases h : prSingle n
  · rw [h] at c6
    go_enter Tryz.func218, Tryz.ntmps218
    go_wp2
    go_ret
    exact ⟨rfl, B0.out⟩
  · rw [h] at c6
    by_cases h2 : t.a = 2
    · have e2 : (t.a == 2) = true := by simp [h2]
      have HE : Hid ((t.n == 2) = (true && (decide (t.a = 2) && decide (t.n = 2)))) := Lib.hid (by rw [decide_eq_true h2]; rfl)
      clear h2
      go_enter Tryz.func218, Tryz.ntmps218
      go_wp2
      go_ret
      exact ⟨ret_bool HE.out, B0.out⟩
    · have e2 : (t.a == 2) = false := by simp [h2]
      have HE : Hid (false = (true && (decide (t.a = 2) && decide (t.n = 2)))) := Lib.hid (by rw [decide_eq_false h2]; rfl)
      go_enter Tryz.func218, Tryz.ntmps218
      go_wp2
      go_ret
      exact ⟨ret_bool HE.out, B0.out⟩

/-- The worlds on the way through 'allows': the guide's map may have been made. -/
def AlWR (ζ : RZ) (W0 : World) (g : Nat) (n : Int) (C : Nat) : Type := { w' : World // GRk ζ w' g n C ∧ Only g W0 w' }

theorem alw_cellR {W0 : World} {g tb i : Nat} {n : Int} {C : Nat} {v : Value} (h : W0.cell? ⟨tb, i, none⟩ = some v) (hne : tb ≠ g) (p : AlWR ζ W0 g n C) : p.1.cell? ⟨tb, i, none⟩ = some v := by
  have hl := World.block_lt_of_cell? W0 _ h
  have hb := p.2.2.2 tb hne hl
  rw [← h]
  unfold World.cell?
  rw [hb]

theorem alw_belowR {W0 : World} {g : Nat} {n : Int} {C : Nat} {f : FuncId} {args : Array Value} {v : Value} (hgW : g < W0.heap.size) (p : AlWR ζ W0 g n C) (h : Calls Tryz.prog f args p.1 fun e w' => e = .returned v ∧ Below p.1.heap.size p.1 w') : Calls Tryz.prog f args p.1 fun e w'' => e = .returned v ∧ ∃ q : AlWR ζ W0 g n C, w'' = q.1 :=
  h.mono fun _ w' ⟨he, hb⟩ => ⟨he, ⟨w', p.2.1.keep hb, p.2.2.trans (only_below (Nat.lt_of_lt_of_le hgW p.2.2.1.size) hb)⟩, rfl⟩

theorem alw_doneR {W0 : World} {g : Nat} {n : Int} {C : Nat} {f : FuncId} {args : Array Value} {q : Bool} (p : AlWR ζ W0 g n C) (h : Calls Tryz.prog f args p.1 (GaDoneR ζ q g n C p.1)) : Calls Tryz.prog f args p.1 fun e w'' => e = .returned (.bool q) ∧ ∃ q : AlWR ζ W0 g n C, w'' = q.1 :=
  h.mono fun _ w' ⟨he, hG, ho⟩ => ⟨he, ⟨w', hG, p.2.2.trans ho⟩, rfl⟩

set_option maxHeartbeats 2000000 in
set_option maxRecDepth 100000 in
/-- The method at a kind whose predicate answers q. -/
theorem impl_allows_1R (k : Int) (hk : ∀ w : World, (Instr.index 231 (.agg #[.func (.func 214) #[] #[], .func (.func 215) #[] #[], .func (.func 213) #[] #[], .func (.func 213) #[] #[], .func (.func 216) #[] #[], .func (.func 217) #[] #[], .func (.func 218) #[] #[], .func (.func 219) #[] #[], .func (.func 214) #[] #[], .func (.func 214) #[] #[]]) (.int .i64 k)).run Tryz.prog w = .ok (.func (.func 213) #[] #[]) w)
    (n : Int) (g C : Nat) (a b c p m : Int) (q : Bool) (w : World) (h : GRk ζ w g n C) (hg : g < C) (hC : C ≤ w.heap.size)
    (hf : ∀ W, GRk ζ W g n C → Only g w W → C ≤ W.heap.size → Calls Tryz.prog 213 #[.pointer (some ⟨g, 0, none⟩), tokV ⟨k, a, b, c, p, m⟩] W (GaDoneR ζ q g n C W)) :
    Calls Tryz.prog 186 #[.pointer (some ⟨g, 0, none⟩), tokV ⟨k, a, b, c, p, m⟩] w (GaDoneR ζ q g n C w) := by
  have B0 := Lib.hid (below_one w (.cells #[.int .i64 k, .int .i64 a, .int .i64 b, .int .i64 c, .int .i64 p, .int .i64 m] 102))
  have hK : TokAt (w.alloc (.cells #[.int .i64 k, .int .i64 a, .int .i64 b, .int .i64 c, .int .i64 p, .int .i64 m] 102)) w.heap.size ⟨k, a, b, c, p, m⟩ := heap_alloc_new _ _
  have ⟨t0, t1, t2, t3, t4, t5⟩ := hK.cells
  dsimp only at t0 t1 t2 t3 t4 t5
  have HG0 := Lib.hid (h.keep B0.out)
  have hgl : g < w.heap.size := by omega
  have hne : w.heap.size ≠ g := by omega
  have hs0 : (w.alloc (.cells #[.int .i64 k, .int .i64 a, .int .i64 b, .int .i64 c, .int .i64 p, .int .i64 m] 102)).heap.size = w.heap.size + 1 := by simp
  unfold tokV at hf ⊢
  go_enter Tryz.func186, Tryz.ntmps186
  go_wp2_with fail
  generalize w.alloc (.cells #[.int .i64 k, .int .i64 a, .int .i64 b, .int .i64 c, .int .i64 p, .int .i64 m] 102) = W0 at *
  have hgW : g < W0.heap.size := by omega
  have m0 := fun p : AlWR ζ W0 g n C => alw_cellR t0 hne p
  have m1 := fun p : AlWR ζ W0 g n C => alw_cellR t1 hne p
  have m2 := fun p : AlWR ζ W0 g n C => alw_cellR t2 hne p
  have m3 := fun p : AlWR ζ W0 g n C => alw_cellR t3 hne p
  have m4 := fun p : AlWR ζ W0 g n C => alw_cellR t4 hne p
  have m5 := fun p : AlWR ζ W0 g n C => alw_cellR t5 hne p
  have cR := fun p : AlWR ζ W0 g n C => alw_belowR hgW p (impl_rules p.1)
  have cF := fun p : AlWR ζ W0 g n C => alw_doneR p (hf p.1 p.2.1 ((only_below hgl B0.out).trans p.2.2) (Nat.le_trans hC (Nat.le_trans B0.out.size p.2.2.1.size)))
  clear t0 t1 t2 t3 t4 t5 hf hK h
  haveI : Nonempty (AlWR ζ W0 g n C) := ⟨⟨W0, HG0.out, Only.refl g W0⟩⟩
  refine wp_region_quiet (C := fun w' => ∃ p : AlWR ζ W0 g n C, w' = p.1) (by kernel_rfl) (by kernel_rfl) ⟨⟨_, HG0.out.keep ((Below.refl W0.heap.size W0).drew), (Only.refl g W0).1.drew, (Only.refl g W0).2⟩, rfl⟩ ?_
  repeat (quiet_step (first | exact cR _ | exact cF _))
  refine wpQuiet_nil ?_
  intro w' hw'
  obtain ⟨⟨w9, hG9, hO9⟩, hw''⟩ := hw'
  have hw9 : w' = w9 := hw''
  subst hw9
  have HD : Hid (GRk ζ w' g n C ∧ Only g w w') := Lib.hid ⟨hG9, (only_below hgl B0.out).trans hO9⟩
  clear m0 m1 m2 m3 m4 m5 cR cF hw'' hG9 hO9
  go_wp2
  go_ret
  exact ⟨rfl, HD.out⟩

set_option maxHeartbeats 2000000 in
set_option maxRecDepth 100000 in
/-- The method at a kind whose predicate answers q. -/
theorem impl_allows_2R (k : Int) (hk : ∀ w : World, (Instr.index 231 (.agg #[.func (.func 214) #[] #[], .func (.func 215) #[] #[], .func (.func 213) #[] #[], .func (.func 213) #[] #[], .func (.func 216) #[] #[], .func (.func 217) #[] #[], .func (.func 218) #[] #[], .func (.func 219) #[] #[], .func (.func 214) #[] #[], .func (.func 214) #[] #[]]) (.int .i64 k)).run Tryz.prog w = .ok (.func (.func 214) #[] #[]) w)
    (n : Int) (g C : Nat) (a b c p m : Int) (q : Bool) (w : World) (h : GRk ζ w g n C) (hg : g < C) (hC : C ≤ w.heap.size)
    (hf : ∀ W, GRk ζ W g n C → Only g w W → C ≤ W.heap.size → Calls Tryz.prog 214 #[.pointer (some ⟨g, 0, none⟩), tokV ⟨k, a, b, c, p, m⟩] W (GaDoneR ζ q g n C W)) :
    Calls Tryz.prog 186 #[.pointer (some ⟨g, 0, none⟩), tokV ⟨k, a, b, c, p, m⟩] w (GaDoneR ζ q g n C w) := by
  have B0 := Lib.hid (below_one w (.cells #[.int .i64 k, .int .i64 a, .int .i64 b, .int .i64 c, .int .i64 p, .int .i64 m] 102))
  have hK : TokAt (w.alloc (.cells #[.int .i64 k, .int .i64 a, .int .i64 b, .int .i64 c, .int .i64 p, .int .i64 m] 102)) w.heap.size ⟨k, a, b, c, p, m⟩ := heap_alloc_new _ _
  have ⟨t0, t1, t2, t3, t4, t5⟩ := hK.cells
  dsimp only at t0 t1 t2 t3 t4 t5
  have HG0 := Lib.hid (h.keep B0.out)
  have hgl : g < w.heap.size := by omega
  have hne : w.heap.size ≠ g := by omega
  have hs0 : (w.alloc (.cells #[.int .i64 k, .int .i64 a, .int .i64 b, .int .i64 c, .int .i64 p, .int .i64 m] 102)).heap.size = w.heap.size + 1 := by simp
  unfold tokV at hf ⊢
  go_enter Tryz.func186, Tryz.ntmps186
  go_wp2_with fail
  generalize w.alloc (.cells #[.int .i64 k, .int .i64 a, .int .i64 b, .int .i64 c, .int .i64 p, .int .i64 m] 102) = W0 at *
  have hgW : g < W0.heap.size := by omega
  have m0 := fun p : AlWR ζ W0 g n C => alw_cellR t0 hne p
  have m1 := fun p : AlWR ζ W0 g n C => alw_cellR t1 hne p
  have m2 := fun p : AlWR ζ W0 g n C => alw_cellR t2 hne p
  have m3 := fun p : AlWR ζ W0 g n C => alw_cellR t3 hne p
  have m4 := fun p : AlWR ζ W0 g n C => alw_cellR t4 hne p
  have m5 := fun p : AlWR ζ W0 g n C => alw_cellR t5 hne p
  have cR := fun p : AlWR ζ W0 g n C => alw_belowR hgW p (impl_rules p.1)
  have cF := fun p : AlWR ζ W0 g n C => alw_doneR p (hf p.1 p.2.1 ((only_below hgl B0.out).trans p.2.2) (Nat.le_trans hC (Nat.le_trans B0.out.size p.2.2.1.size)))
  clear t0 t1 t2 t3 t4 t5 hf hK h
  haveI : Nonempty (AlWR ζ W0 g n C) := ⟨⟨W0, HG0.out, Only.refl g W0⟩⟩
  refine wp_region_quiet (C := fun w' => ∃ p : AlWR ζ W0 g n C, w' = p.1) (by kernel_rfl) (by kernel_rfl) ⟨⟨_, HG0.out.keep ((Below.refl W0.heap.size W0).drew), (Only.refl g W0).1.drew, (Only.refl g W0).2⟩, rfl⟩ ?_
  repeat (quiet_step (first | exact cR _ | exact cF _))
  refine wpQuiet_nil ?_
  intro w' hw'
  obtain ⟨⟨w9, hG9, hO9⟩, hw''⟩ := hw'
  have hw9 : w' = w9 := hw''
  subst hw9
  have HD : Hid (GRk ζ w' g n C ∧ Only g w w') := Lib.hid ⟨hG9, (only_below hgl B0.out).trans hO9⟩
  clear m0 m1 m2 m3 m4 m5 cR cF hw'' hG9 hO9
  go_wp2
  go_ret
  exact ⟨rfl, HD.out⟩

set_option maxHeartbeats 2000000 in
set_option maxRecDepth 100000 in
/-- The method at a kind whose predicate answers q. -/
theorem impl_allows_3R (k : Int) (hk : ∀ w : World, (Instr.index 231 (.agg #[.func (.func 214) #[] #[], .func (.func 215) #[] #[], .func (.func 213) #[] #[], .func (.func 213) #[] #[], .func (.func 216) #[] #[], .func (.func 217) #[] #[], .func (.func 218) #[] #[], .func (.func 219) #[] #[], .func (.func 214) #[] #[], .func (.func 214) #[] #[]]) (.int .i64 k)).run Tryz.prog w = .ok (.func (.func 215) #[] #[]) w)
    (n : Int) (g C : Nat) (a b c p m : Int) (q : Bool) (w : World) (h : GRk ζ w g n C) (hg : g < C) (hC : C ≤ w.heap.size)
    (hf : ∀ W, GRk ζ W g n C → Only g w W → C ≤ W.heap.size → Calls Tryz.prog 215 #[.pointer (some ⟨g, 0, none⟩), tokV ⟨k, a, b, c, p, m⟩] W (GaDoneR ζ q g n C W)) :
    Calls Tryz.prog 186 #[.pointer (some ⟨g, 0, none⟩), tokV ⟨k, a, b, c, p, m⟩] w (GaDoneR ζ q g n C w) := by
  have B0 := Lib.hid (below_one w (.cells #[.int .i64 k, .int .i64 a, .int .i64 b, .int .i64 c, .int .i64 p, .int .i64 m] 102))
  have hK : TokAt (w.alloc (.cells #[.int .i64 k, .int .i64 a, .int .i64 b, .int .i64 c, .int .i64 p, .int .i64 m] 102)) w.heap.size ⟨k, a, b, c, p, m⟩ := heap_alloc_new _ _
  have ⟨t0, t1, t2, t3, t4, t5⟩ := hK.cells
  dsimp only at t0 t1 t2 t3 t4 t5
  have HG0 := Lib.hid (h.keep B0.out)
  have hgl : g < w.heap.size := by omega
  have hne : w.heap.size ≠ g := by omega
  have hs0 : (w.alloc (.cells #[.int .i64 k, .int .i64 a, .int .i64 b, .int .i64 c, .int .i64 p, .int .i64 m] 102)).heap.size = w.heap.size + 1 := by simp
  unfold tokV at hf ⊢
  go_enter Tryz.func186, Tryz.ntmps186
  go_wp2_with fail
  generalize w.alloc (.cells #[.int .i64 k, .int .i64 a, .int .i64 b, .int .i64 c, .int .i64 p, .int .i64 m] 102) = W0 at *
  have hgW : g < W0.heap.size := by omega
  have m0 := fun p : AlWR ζ W0 g n C => alw_cellR t0 hne p
  have m1 := fun p : AlWR ζ W0 g n C => alw_cellR t1 hne p
  have m2 := fun p : AlWR ζ W0 g n C => alw_cellR t2 hne p
  have m3 := fun p : AlWR ζ W0 g n C => alw_cellR t3 hne p
  have m4 := fun p : AlWR ζ W0 g n C => alw_cellR t4 hne p
  have m5 := fun p : AlWR ζ W0 g n C => alw_cellR t5 hne p
  have cR := fun p : AlWR ζ W0 g n C => alw_belowR hgW p (impl_rules p.1)
  have cF := fun p : AlWR ζ W0 g n C => alw_doneR p (hf p.1 p.2.1 ((only_below hgl B0.out).trans p.2.2) (Nat.le_trans hC (Nat.le_trans B0.out.size p.2.2.1.size)))
  clear t0 t1 t2 t3 t4 t5 hf hK h
  haveI : Nonempty (AlWR ζ W0 g n C) := ⟨⟨W0, HG0.out, Only.refl g W0⟩⟩
  refine wp_region_quiet (C := fun w' => ∃ p : AlWR ζ W0 g n C, w' = p.1) (by kernel_rfl) (by kernel_rfl) ⟨⟨_, HG0.out.keep ((Below.refl W0.heap.size W0).drew), (Only.refl g W0).1.drew, (Only.refl g W0).2⟩, rfl⟩ ?_
  repeat (quiet_step (first | exact cR _ | exact cF _))
  refine wpQuiet_nil ?_
  intro w' hw'
  obtain ⟨⟨w9, hG9, hO9⟩, hw''⟩ := hw'
  have hw9 : w' = w9 := hw''
  subst hw9
  have HD : Hid (GRk ζ w' g n C ∧ Only g w w') := Lib.hid ⟨hG9, (only_below hgl B0.out).trans hO9⟩
  clear m0 m1 m2 m3 m4 m5 cR cF hw'' hG9 hO9
  go_wp2
  go_ret
  exact ⟨rfl, HD.out⟩

set_option maxHeartbeats 2000000 in
set_option maxRecDepth 100000 in
/-- The method at a kind whose predicate answers q. -/
theorem impl_allows_4R (k : Int) (hk : ∀ w : World, (Instr.index 231 (.agg #[.func (.func 214) #[] #[], .func (.func 215) #[] #[], .func (.func 213) #[] #[], .func (.func 213) #[] #[], .func (.func 216) #[] #[], .func (.func 217) #[] #[], .func (.func 218) #[] #[], .func (.func 219) #[] #[], .func (.func 214) #[] #[], .func (.func 214) #[] #[]]) (.int .i64 k)).run Tryz.prog w = .ok (.func (.func 216) #[] #[]) w)
    (n : Int) (g C : Nat) (a b c p m : Int) (q : Bool) (w : World) (h : GRk ζ w g n C) (hg : g < C) (hC : C ≤ w.heap.size)
    (hf : ∀ W, GRk ζ W g n C → Only g w W → C ≤ W.heap.size → Calls Tryz.prog 216 #[.pointer (some ⟨g, 0, none⟩), tokV ⟨k, a, b, c, p, m⟩] W (GaDoneR ζ q g n C W)) :
    Calls Tryz.prog 186 #[.pointer (some ⟨g, 0, none⟩), tokV ⟨k, a, b, c, p, m⟩] w (GaDoneR ζ q g n C w) := by
  have B0 := Lib.hid (below_one w (.cells #[.int .i64 k, .int .i64 a, .int .i64 b, .int .i64 c, .int .i64 p, .int .i64 m] 102))
  have hK : TokAt (w.alloc (.cells #[.int .i64 k, .int .i64 a, .int .i64 b, .int .i64 c, .int .i64 p, .int .i64 m] 102)) w.heap.size ⟨k, a, b, c, p, m⟩ := heap_alloc_new _ _
  have ⟨t0, t1, t2, t3, t4, t5⟩ := hK.cells
  dsimp only at t0 t1 t2 t3 t4 t5
  have HG0 := Lib.hid (h.keep B0.out)
  have hgl : g < w.heap.size := by omega
  have hne : w.heap.size ≠ g := by omega
  have hs0 : (w.alloc (.cells #[.int .i64 k, .int .i64 a, .int .i64 b, .int .i64 c, .int .i64 p, .int .i64 m] 102)).heap.size = w.heap.size + 1 := by simp
  unfold tokV at hf ⊢
  go_enter Tryz.func186, Tryz.ntmps186
  go_wp2_with fail
  generalize w.alloc (.cells #[.int .i64 k, .int .i64 a, .int .i64 b, .int .i64 c, .int .i64 p, .int .i64 m] 102) = W0 at *
  have hgW : g < W0.heap.size := by omega
  have m0 := fun p : AlWR ζ W0 g n C => alw_cellR t0 hne p
  have m1 := fun p : AlWR ζ W0 g n C => alw_cellR t1 hne p
  have m2 := fun p : AlWR ζ W0 g n C => alw_cellR t2 hne p
  have m3 := fun p : AlWR ζ W0 g n C => alw_cellR t3 hne p
  have m4 := fun p : AlWR ζ W0 g n C => alw_cellR t4 hne p
  have m5 := fun p : AlWR ζ W0 g n C => alw_cellR t5 hne p
  have cR := fun p : AlWR ζ W0 g n C => alw_belowR hgW p (impl_rules p.1)
  have cF := fun p : AlWR ζ W0 g n C => alw_doneR p (hf p.1 p.2.1 ((only_below hgl B0.out).trans p.2.2) (Nat.le_trans hC (Nat.le_trans B0.out.size p.2.2.1.size)))
  clear t0 t1 t2 t3 t4 t5 hf hK h
  haveI : Nonempty (AlWR ζ W0 g n C) := ⟨⟨W0, HG0.out, Only.refl g W0⟩⟩
  refine wp_region_quiet (C := fun w' => ∃ p : AlWR ζ W0 g n C, w' = p.1) (by kernel_rfl) (by kernel_rfl) ⟨⟨_, HG0.out.keep ((Below.refl W0.heap.size W0).drew), (Only.refl g W0).1.drew, (Only.refl g W0).2⟩, rfl⟩ ?_
  repeat (quiet_step (first | exact cR _ | exact cF _))
  refine wpQuiet_nil ?_
  intro w' hw'
  obtain ⟨⟨w9, hG9, hO9⟩, hw''⟩ := hw'
  have hw9 : w' = w9 := hw''
  subst hw9
  have HD : Hid (GRk ζ w' g n C ∧ Only g w w') := Lib.hid ⟨hG9, (only_below hgl B0.out).trans hO9⟩
  clear m0 m1 m2 m3 m4 m5 cR cF hw'' hG9 hO9
  go_wp2
  go_ret
  exact ⟨rfl, HD.out⟩

set_option maxHeartbeats 2000000 in
set_option maxRecDepth 100000 in
/-- The method at a kind whose predicate answers q. -/
theorem impl_allows_5R (k : Int) (hk : ∀ w : World, (Instr.index 231 (.agg #[.func (.func 214) #[] #[], .func (.func 215) #[] #[], .func (.func 213) #[] #[], .func (.func 213) #[] #[], .func (.func 216) #[] #[], .func (.func 217) #[] #[], .func (.func 218) #[] #[], .func (.func 219) #[] #[], .func (.func 214) #[] #[], .func (.func 214) #[] #[]]) (.int .i64 k)).run Tryz.prog w = .ok (.func (.func 217) #[] #[]) w)
    (n : Int) (g C : Nat) (a b c p m : Int) (q : Bool) (w : World) (h : GRk ζ w g n C) (hg : g < C) (hC : C ≤ w.heap.size)
    (hf : ∀ W, GRk ζ W g n C → Only g w W → C ≤ W.heap.size → Calls Tryz.prog 217 #[.pointer (some ⟨g, 0, none⟩), tokV ⟨k, a, b, c, p, m⟩] W (GaDoneR ζ q g n C W)) :
    Calls Tryz.prog 186 #[.pointer (some ⟨g, 0, none⟩), tokV ⟨k, a, b, c, p, m⟩] w (GaDoneR ζ q g n C w) := by
  have B0 := Lib.hid (below_one w (.cells #[.int .i64 k, .int .i64 a, .int .i64 b, .int .i64 c, .int .i64 p, .int .i64 m] 102))
  have hK : TokAt (w.alloc (.cells #[.int .i64 k, .int .i64 a, .int .i64 b, .int .i64 c, .int .i64 p, .int .i64 m] 102)) w.heap.size ⟨k, a, b, c, p, m⟩ := heap_alloc_new _ _
  have ⟨t0, t1, t2, t3, t4, t5⟩ := hK.cells
  dsimp only at t0 t1 t2 t3 t4 t5
  have HG0 := Lib.hid (h.keep B0.out)
  have hgl : g < w.heap.size := by omega
  have hne : w.heap.size ≠ g := by omega
  have hs0 : (w.alloc (.cells #[.int .i64 k, .int .i64 a, .int .i64 b, .int .i64 c, .int .i64 p, .int .i64 m] 102)).heap.size = w.heap.size + 1 := by simp
  unfold tokV at hf ⊢
  go_enter Tryz.func186, Tryz.ntmps186
  go_wp2_with fail
  generalize w.alloc (.cells #[.int .i64 k, .int .i64 a, .int .i64 b, .int .i64 c, .int .i64 p, .int .i64 m] 102) = W0 at *
  have hgW : g < W0.heap.size := by omega
  have m0 := fun p : AlWR ζ W0 g n C => alw_cellR t0 hne p
  have m1 := fun p : AlWR ζ W0 g n C => alw_cellR t1 hne p
  have m2 := fun p : AlWR ζ W0 g n C => alw_cellR t2 hne p
  have m3 := fun p : AlWR ζ W0 g n C => alw_cellR t3 hne p
  have m4 := fun p : AlWR ζ W0 g n C => alw_cellR t4 hne p
  have m5 := fun p : AlWR ζ W0 g n C => alw_cellR t5 hne p
  have cR := fun p : AlWR ζ W0 g n C => alw_belowR hgW p (impl_rules p.1)
  have cF := fun p : AlWR ζ W0 g n C => alw_doneR p (hf p.1 p.2.1 ((only_below hgl B0.out).trans p.2.2) (Nat.le_trans hC (Nat.le_trans B0.out.size p.2.2.1.size)))
  clear t0 t1 t2 t3 t4 t5 hf hK h
  haveI : Nonempty (AlWR ζ W0 g n C) := ⟨⟨W0, HG0.out, Only.refl g W0⟩⟩
  refine wp_region_quiet (C := fun w' => ∃ p : AlWR ζ W0 g n C, w' = p.1) (by kernel_rfl) (by kernel_rfl) ⟨⟨_, HG0.out.keep ((Below.refl W0.heap.size W0).drew), (Only.refl g W0).1.drew, (Only.refl g W0).2⟩, rfl⟩ ?_
  repeat (quiet_step (first | exact cR _ | exact cF _))
  refine wpQuiet_nil ?_
  intro w' hw'
  obtain ⟨⟨w9, hG9, hO9⟩, hw''⟩ := hw'
  have hw9 : w' = w9 := hw''
  subst hw9
  have HD : Hid (GRk ζ w' g n C ∧ Only g w w') := Lib.hid ⟨hG9, (only_below hgl B0.out).trans hO9⟩
  clear m0 m1 m2 m3 m4 m5 cR cF hw'' hG9 hO9
  go_wp2
  go_ret
  exact ⟨rfl, HD.out⟩

set_option maxHeartbeats 2000000 in
set_option maxRecDepth 100000 in
/-- The method at a kind whose predicate answers q. -/
theorem impl_allows_6R (k : Int) (hk : ∀ w : World, (Instr.index 231 (.agg #[.func (.func 214) #[] #[], .func (.func 215) #[] #[], .func (.func 213) #[] #[], .func (.func 213) #[] #[], .func (.func 216) #[] #[], .func (.func 217) #[] #[], .func (.func 218) #[] #[], .func (.func 219) #[] #[], .func (.func 214) #[] #[], .func (.func 214) #[] #[]]) (.int .i64 k)).run Tryz.prog w = .ok (.func (.func 218) #[] #[]) w)
    (n : Int) (g C : Nat) (a b c p m : Int) (q : Bool) (w : World) (h : GRk ζ w g n C) (hg : g < C) (hC : C ≤ w.heap.size)
    (hf : ∀ W, GRk ζ W g n C → Only g w W → C ≤ W.heap.size → Calls Tryz.prog 218 #[.pointer (some ⟨g, 0, none⟩), tokV ⟨k, a, b, c, p, m⟩] W (GaDoneR ζ q g n C W)) :
    Calls Tryz.prog 186 #[.pointer (some ⟨g, 0, none⟩), tokV ⟨k, a, b, c, p, m⟩] w (GaDoneR ζ q g n C w) := by
  have B0 := Lib.hid (below_one w (.cells #[.int .i64 k, .int .i64 a, .int .i64 b, .int .i64 c, .int .i64 p, .int .i64 m] 102))
  have hK : TokAt (w.alloc (.cells #[.int .i64 k, .int .i64 a, .int .i64 b, .int .i64 c, .int .i64 p, .int .i64 m] 102)) w.heap.size ⟨k, a, b, c, p, m⟩ := heap_alloc_new _ _
  have ⟨t0, t1, t2, t3, t4, t5⟩ := hK.cells
  dsimp only at t0 t1 t2 t3 t4 t5
  have HG0 := Lib.hid (h.keep B0.out)
  have hgl : g < w.heap.size := by omega
  have hne : w.heap.size ≠ g := by omega
  have hs0 : (w.alloc (.cells #[.int .i64 k, .int .i64 a, .int .i64 b, .int .i64 c, .int .i64 p, .int .i64 m] 102)).heap.size = w.heap.size + 1 := by simp
  unfold tokV at hf ⊢
  go_enter Tryz.func186, Tryz.ntmps186
  go_wp2_with fail
  generalize w.alloc (.cells #[.int .i64 k, .int .i64 a, .int .i64 b, .int .i64 c, .int .i64 p, .int .i64 m] 102) = W0 at *
  have hgW : g < W0.heap.size := by omega
  have m0 := fun p : AlWR ζ W0 g n C => alw_cellR t0 hne p
  have m1 := fun p : AlWR ζ W0 g n C => alw_cellR t1 hne p
  have m2 := fun p : AlWR ζ W0 g n C => alw_cellR t2 hne p
  have m3 := fun p : AlWR ζ W0 g n C => alw_cellR t3 hne p
  have m4 := fun p : AlWR ζ W0 g n C => alw_cellR t4 hne p
  have m5 := fun p : AlWR ζ W0 g n C => alw_cellR t5 hne p
  have cR := fun p : AlWR ζ W0 g n C => alw_belowR hgW p (impl_rules p.1)
  have cF := fun p : AlWR ζ W0 g n C => alw_doneR p (hf p.1 p.2.1 ((only_below hgl B0.out).trans p.2.2) (Nat.le_trans hC (Nat.le_trans B0.out.size p.2.2.1.size)))
  clear t0 t1 t2 t3 t4 t5 hf hK h
  haveI : Nonempty (AlWR ζ W0 g n C) := ⟨⟨W0, HG0.out, Only.refl g W0⟩⟩
  refine wp_region_quiet (C := fun w' => ∃ p : AlWR ζ W0 g n C, w' = p.1) (by kernel_rfl) (by kernel_rfl) ⟨⟨_, HG0.out.keep ((Below.refl W0.heap.size W0).drew), (Only.refl g W0).1.drew, (Only.refl g W0).2⟩, rfl⟩ ?_
  repeat (quiet_step (first | exact cR _ | exact cF _))
  refine wpQuiet_nil ?_
  intro w' hw'
  obtain ⟨⟨w9, hG9, hO9⟩, hw''⟩ := hw'
  have hw9 : w' = w9 := hw''
  subst hw9
  have HD : Hid (GRk ζ w' g n C ∧ Only g w w') := Lib.hid ⟨hG9, (only_below hgl B0.out).trans hO9⟩
  clear m0 m1 m2 m3 m4 m5 cR cF hw'' hG9 hO9
  go_wp2
  go_ret
  exact ⟨rfl, HD.out⟩

set_option maxHeartbeats 2000000 in
set_option maxRecDepth 100000 in
/-- The method at a kind whose predicate answers q. -/
theorem impl_allows_NR (k : Int) (hk : ∀ w : World, (Instr.index 231 (.agg #[.func (.func 214) #[] #[], .func (.func 215) #[] #[], .func (.func 213) #[] #[], .func (.func 213) #[] #[], .func (.func 216) #[] #[], .func (.func 217) #[] #[], .func (.func 218) #[] #[], .func (.func 219) #[] #[], .func (.func 214) #[] #[], .func (.func 214) #[] #[]]) (.int .i64 k)).run Tryz.prog w = .ok (.func (.func 219) #[] #[]) w)
    (n : Int) (g C : Nat) (a b c p m : Int) (q : Bool) (w : World) (h : GRk ζ w g n C) (hg : g < C) (hC : C ≤ w.heap.size)
    (hf : ∀ W, GRk ζ W g n C → Only g w W → C ≤ W.heap.size → Calls Tryz.prog 219 #[.pointer (some ⟨g, 0, none⟩), tokV ⟨k, a, b, c, p, m⟩] W (GaDoneR ζ q g n C W)) :
    Calls Tryz.prog 186 #[.pointer (some ⟨g, 0, none⟩), tokV ⟨k, a, b, c, p, m⟩] w (GaDoneR ζ q g n C w) := by
  have B0 := Lib.hid (below_one w (.cells #[.int .i64 k, .int .i64 a, .int .i64 b, .int .i64 c, .int .i64 p, .int .i64 m] 102))
  have hK : TokAt (w.alloc (.cells #[.int .i64 k, .int .i64 a, .int .i64 b, .int .i64 c, .int .i64 p, .int .i64 m] 102)) w.heap.size ⟨k, a, b, c, p, m⟩ := heap_alloc_new _ _
  have ⟨t0, t1, t2, t3, t4, t5⟩ := hK.cells
  dsimp only at t0 t1 t2 t3 t4 t5
  have HG0 := Lib.hid (h.keep B0.out)
  have hgl : g < w.heap.size := by omega
  have hne : w.heap.size ≠ g := by omega
  have hs0 : (w.alloc (.cells #[.int .i64 k, .int .i64 a, .int .i64 b, .int .i64 c, .int .i64 p, .int .i64 m] 102)).heap.size = w.heap.size + 1 := by simp
  unfold tokV at hf ⊢
  go_enter Tryz.func186, Tryz.ntmps186
  go_wp2_with fail
  generalize w.alloc (.cells #[.int .i64 k, .int .i64 a, .int .i64 b, .int .i64 c, .int .i64 p, .int .i64 m] 102) = W0 at *
  have hgW : g < W0.heap.size := by omega
  have m0 := fun p : AlWR ζ W0 g n C => alw_cellR t0 hne p
  have m1 := fun p : AlWR ζ W0 g n C => alw_cellR t1 hne p
  have m2 := fun p : AlWR ζ W0 g n C => alw_cellR t2 hne p
  have m3 := fun p : AlWR ζ W0 g n C => alw_cellR t3 hne p
  have m4 := fun p : AlWR ζ W0 g n C => alw_cellR t4 hne p
  have m5 := fun p : AlWR ζ W0 g n C => alw_cellR t5 hne p
  have cR := fun p : AlWR ζ W0 g n C => alw_belowR hgW p (impl_rules p.1)
  have cF := fun p : AlWR ζ W0 g n C => alw_doneR p (hf p.1 p.2.1 ((only_below hgl B0.out).trans p.2.2) (Nat.le_trans hC (Nat.le_trans B0.out.size p.2.2.1.size)))
  clear t0 t1 t2 t3 t4 t5 hf hK h
  haveI : Nonempty (AlWR ζ W0 g n C) := ⟨⟨W0, HG0.out, Only.refl g W0⟩⟩
  refine wp_region_quiet (C := fun w' => ∃ p : AlWR ζ W0 g n C, w' = p.1) (by kernel_rfl) (by kernel_rfl) ⟨⟨_, HG0.out.keep ((Below.refl W0.heap.size W0).drew), (Only.refl g W0).1.drew, (Only.refl g W0).2⟩, rfl⟩ ?_
  repeat (quiet_step (first | exact cR _ | exact cF _))
  refine wpQuiet_nil ?_
  intro w' hw'
  obtain ⟨⟨w9, hG9, hO9⟩, hw''⟩ := hw'
  have hw9 : w' = w9 := hw''
  subst hw9
  have HD : Hid (GRk ζ w' g n C ∧ Only g w w') := Lib.hid ⟨hG9, (only_below hgl B0.out).trans hO9⟩
  clear m0 m1 m2 m3 m4 m5 cR cF hw'' hG9 hO9
  go_wp2
  go_ret
  exact ⟨rfl, HD.out⟩

theorem ga_belowR {n : Int} {g C : Nat} {q : Bool} {f : FuncId} {args : Array Value} {W : World} (hG : GRk ζ W g n C) (hgl : g < W.heap.size) (h : Calls Tryz.prog f args W fun e w' => e = .returned (.bool q) ∧ Below W.heap.size W w') : Calls Tryz.prog f args W (GaDoneR ζ q g n C W) :=
  h.mono fun _ _ ⟨he, hb⟩ => ⟨he, hG.keep hb, only_below hgl hb⟩

theorem impl_allowsR (n : Int) (t : Tok) (g C : Nat) (w : World) (h : GRk ζ w g n C) (hg : g < C) (hC : C ≤ w.heap.size) (ht : ∀ W, Only g w W → TabSets W) (hn : proB n = true) (hk : tokLP t) :
    Calls Tryz.prog 186 #[.pointer (some ⟨g, 0, none⟩), tokV t] w (GaDoneR ζ (allowB n t) g n C w) := by
  obtain ⟨k, a, b, c, p, m⟩ := t
  obtain ⟨_, hk⟩ := hk
  dsimp only at hk
  have rul : ∀ {W : World} {f : FuncId} {args : Array Value} {q : Bool}, GRk ζ W g n C → C ≤ W.heap.size → (∀ m, GRt ζ W g n m → Calls Tryz.prog f args W fun e w' => e = .returned (.bool q) ∧ Below W.heap.size W w') → Calls Tryz.prog f args W (GaDoneR ζ q g n C W) := by
    intro W f args q hG hCW hc
    obtain ⟨m', hm', h2⟩ := hG
    exact ga_belowR ⟨m', hm', h2⟩ (by omega) (hc m' hm')
  rcases hk with ⟨rfl, _⟩ | ⟨rfl, _⟩ | ⟨rfl, _⟩ | ⟨rfl, _⟩ | ⟨rfl, _⟩ | ⟨rfl, _⟩ | ⟨rfl, a0, a3, b0, b3, _⟩ | ⟨rfl | rfl, _⟩
  · exact impl_allows_3R (ζ := ζ) 1 (fun _ => by kernel_rfl) n g C a b c p m _ w h hg hC fun W hG _ hCW => rul hG hCW fun m' hm' => rule3R (ζ := ζ) n g m' ⟨1, a, b, c, p, m⟩ W hm'
  · exact impl_allows_1R (ζ := ζ) 2 (fun _ => by kernel_rfl) n g C a b c p m _ w h hg hC fun W hG _ hCW => rul hG hCW fun m' hm' => rule1R (ζ := ζ) n g m' ⟨2, a, b, c, p, m⟩ W hm'
  · exact impl_allows_1R (ζ := ζ) 3 (fun _ => by kernel_rfl) n g C a b c p m _ w h hg hC fun W hG _ hCW => rul hG hCW fun m' hm' => rule1R (ζ := ζ) n g m' ⟨3, a, b, c, p, m⟩ W hm'
  · exact impl_allows_4R (ζ := ζ) 4 (fun _ => by kernel_rfl) n g C a b c p m _ w h hg hC fun W hG _ hCW => rul hG hCW fun m' hm' => rule4R (ζ := ζ) n g m' ⟨4, a, b, c, p, m⟩ W hm'
  · exact impl_allows_5R (ζ := ζ) 5 (fun _ => by kernel_rfl) n g C a b c p m _ w h hg hC fun W hG _ hCW => rul hG hCW fun m' hm' => rule5R (ζ := ζ) n g m' ⟨5, a, b, c, p, m⟩ W hm'
  · exact impl_allows_6R (ζ := ζ) 6 (fun _ => by kernel_rfl) n g C a b c p m _ w h hg hC fun W hG _ hCW => rul hG hCW fun m' hm' => rule6R (ζ := ζ) n g m' ⟨6, a, b, c, p, m⟩ W hm'
  · exact impl_allows_NR (ζ := ζ) 7 (fun _ => by kernel_rfl) n g C a b c p m _ w h hg hC fun W hG ho hCW => impl_allowsNameR (ζ := ζ) n g C a b c p m W hG hg hCW (ht W ho) hn a0 a3 b0 b3
  · exact impl_allows_2R (ζ := ζ) 8 (fun _ => by kernel_rfl) n g C a b c p m _ w h hg hC fun W hG _ hCW => rul hG hCW fun m' hm' => rule2R (ζ := ζ) n g m' ⟨8, a, b, c, p, m⟩ W hm'
  · exact impl_allows_2R (ζ := ζ) 9 (fun _ => by kernel_rfl) n g C a b c p m _ w h hg hC fun W hG _ hCW => rul hG hCW fun m' hm' => rule2R (ζ := ζ) n g m' ⟨9, a, b, c, p, m⟩ W hm'

end Go.Proofs.YtbamjhldebobhaaGreatDoor

namespace Go.Proofs.YtbamjhldebobhaaGreatDoor
open Go.RowKit Go.Sort

/-- A run handed back: the state, the characters in new memory, the offset, the code. -/
def RunDone (p : Rn) (w : World) (e : Ending) (w' : World) : Prop := ∃ v, e = .returned (.tuple #[stV p.y, v, .int .i64 p.p, .int .i64 p.c]) ∧ Own .i64 3 w' w.heap.size v p.z ∧ Below w.heap.size w w'
theorem addR_some {z : List Int} {r : Int} (h : 0 ≤ r) : addR z r = z ++ [r] := by rw [addR, if_pos h]
theorem addR_none {z : List Int} {r : Int} (h : r = -1) : addR z r = z := by rw [addR, if_neg (by omega)]

theorem heap_putSt {w : World} {g j : Nat} (y : St) (h : j ≠ g) : (putSt w g y).heap[j]? = w.heap[j]? := by
  unfold putSt
  rw [Below.heap_setCell _ _ _ _ (by simpa using h), Below.heap_setCell _ _ _ _ (by simpa using h), Below.heap_setCell _ _ _ _ (by simpa using h), Below.heap_setCell _ _ _ _ (by simpa using h), Below.heap_setCell _ _ _ _ (by simpa using h), Below.heap_setCell _ _ _ _ (by simpa using h), Below.heap_setCell _ _ _ _ (by simpa using h)]
theorem Own.putSt {k : IntKind} {e : TypeId} {w : World} {B g : Nat} {v : Value} {zs : List Int} (h : Own k e w B v zs) (hg : g < B) (y : St) : Own k e (putSt w g y) B v zs := by
  refine ⟨h.1, ?_⟩
  rcases h.2 with h | ⟨j, cap, cur, a, b, c, d⟩
  · exact .inl h
  · exact .inr ⟨j, cap, cur, a, b, by rw [heap_putSt y (by omega)]; exact c, d⟩
theorem StAt.other {w : World} {g j : Nat} {x : St} (h : StAt w j x) (y : St) (hg : j ≠ g) : StAt (Go.Proofs.YtbamjhldebobhaaGreatDoor.putSt w g y) j x := (heap_putSt y hg).trans h
theorem TokAt.other {w : World} {g j : Nat} {t : Tok} (h : TokAt w j t) (y : St) (hg : j ≠ g) : TokAt (Go.Proofs.YtbamjhldebobhaaGreatDoor.putSt w g y) j t := (heap_putSt y hg).trans h

theorem size_putSt (w : World) (g : Nat) (y : St) : (putSt w g y).heap.size = w.heap.size := by simp [putSt]

set_option maxHeartbeats 4000000 in
set_option maxRecDepth 100000 in
theorem spec_l04Run (x : St) (s : ByteArray) (w : World) (hx : stOKB x = true) (hs : s.size ≤ 65536) : Calls Tryz.prog 131 #[stV x, .string s] w (RunDone (runT s s.size 0 x []) w) := by
  have HB0 : Hid (StAt ((w.alloc (.cells #[.int .i64 x.g0, .int .i64 x.g1, .int .i64 x.g2, .int .i64 x.g3, .int .i64 x.l, .int .i64 x.s, .int .i64 x.d] 39)).alloc (.cells #[.int .i64 0, .int .i64 0, .int .i64 0, .int .i64 0, .int .i64 0, .int .i64 0, .int .i64 0] 39)) w.heap.size x) := Lib.hid (heap_alloc2_old _ _ _)
  have HS0 : Hid (StAt ((w.alloc (.cells #[.int .i64 x.g0, .int .i64 x.g1, .int .i64 x.g2, .int .i64 x.g3, .int .i64 x.l, .int .i64 x.s, .int .i64 x.d] 39)).alloc (.cells #[.int .i64 0, .int .i64 0, .int .i64 0, .int .i64 0, .int .i64 0, .int .i64 0, .int .i64 0] 39)) (w.heap.size + 1) zeroSt) := Lib.hid (heap_alloc2_new _ _ _)
  have B0 := Lib.hid (below_two w (.cells #[.int .i64 x.g0, .int .i64 x.g1, .int .i64 x.g2, .int .i64 x.g3, .int .i64 x.l, .int .i64 x.s, .int .i64 x.d] 39) (.cells #[.int .i64 0, .int .i64 0, .int .i64 0, .int .i64 0, .int .i64 0, .int .i64 0, .int .i64 0] 39))
  have hsz0 : ((w.alloc (.cells #[.int .i64 x.g0, .int .i64 x.g1, .int .i64 x.g2, .int .i64 x.g3, .int .i64 x.l, .int .i64 x.s, .int .i64 x.d] 39)).alloc (.cells #[.int .i64 0, .int .i64 0, .int .i64 0, .int .i64 0, .int .i64 0, .int .i64 0, .int .i64 0] 39)).heap.size = w.heap.size + 2 := by simp
  have HX := Lib.hid hx
  clear hx
  unfold stV
  go_enter Tryz.func131, Tryz.ntmps131
  go_wp2
  generalize (w.alloc (.cells #[.int .i64 x.g0, .int .i64 x.g1, .int .i64 x.g2, .int .i64 x.g3, .int .i64 x.l, .int .i64 x.s, .int .i64 x.d] 39)).alloc (.cells #[.int .i64 0, .int .i64 0, .int .i64 0, .int .i64 0, .int .i64 0, .int .i64 0, .int .i64 0] 39) = W0 at *
  go_loopw [8, 9] (fun v i wr => ∃ (k f : Nat) (xs : St) (zs : List Int), k ≤ s.size ∧ i = .int .i64 k ∧ Hid (s.size ≤ k + f) ∧ zs.length ≤ k ∧ Hid (runT s s.size 0 x [] = runT s f k xs zs) ∧ Hid (stOKB xs = true) ∧ Hid (Own .i64 3 wr (w.heap.size + 2) v zs) ∧ Hid (StAt wr w.heap.size xs) ∧ Hid (StAt wr (w.heap.size + 1) zeroSt) ∧ Hid (Below w.heap.size w wr)) (fun _ i _ => s.size - (intOf i).toNat)
  case atStart =>
    have HO0 := Own.lit .i64 3 W0 (w.heap.size + 2) [] (by omega) (by simp)
    rw [hsz0] at HO0
    exact ⟨0, s.size, x, [], by omega, rfl, Lib.hid (by omega), by simp, Lib.hid rfl, HX, Lib.hid HO0, Lib.hid (HB0.out.keep (below_one _ _)), Lib.hid (HS0.out.keep (below_one _ _)), Lib.hid (B0.out.alloc B0.out.size _)⟩
  case round =>
    obtain ⟨k, f, xs, zs, hk, rfl, HF, hzs, HR, HX, HO, HB, HS, BW⟩ := hrel
    obtain ⟨a0, c0, hform, _⟩ := HO.out.shape
    subst hform
    by_cases hlt : k < s.size
    · obtain ⟨f, rfl⟩ : ∃ q, f = q + 1 := ⟨f - 1, by have := HF.out; omega⟩
      have v2 : (k : Int) < (s.size : Int) := by omega
      have HU : Hid (runT s (f + 1) k xs zs = if (stepT xs (nextTok s k)).c = 0 then runT s f (k + (nextTok s k).n.toNat) (stepT xs (nextTok s k)).y (addR zs (stepT xs (nextTok s k)).r) else ⟨xs, zs, k, (stepT xs (nextTok s k)).c⟩) := Lib.hid (by rw [runT, if_pos hlt])
      have n1 := (nextTok_in s k hlt).2.1
      have n2 := (nextTok_in s k hlt).2.2
      have HN := Lib.hid (fun w => spec_l03Next s k w hlt (by omega))
      have HG := Lib.hid (fun w => spec_l04Step xs (nextTok s k) w HX.out (nextTok_ok s k hlt (Nat.le_trans hs (by decide))))
      have HC := Lib.hid (fun h => stepT_code (x := xs) (t := nextTok s k) h)
      have hr := stepT_r (x := xs) (nextTok_ok s k hlt (Nat.le_trans hs (by decide)))
      have HX2 := Lib.hid (stepT_ok HX.out (nextTok_ok s k hlt (Nat.le_trans hs (by decide))))
      unfold TokDone tokV at HN
      unfold StpDone stpV tokV stV at HG
      generalize nextTok s k = y at *
      generalize stepT xs y = p at *
      have u1 : IntKind.i64.wrap ((k : Int) + y.n) = (k : Int) + y.n := IntWalk.i64_in _ (by omega)
      go_wp2_with fail
      refine (HN.out _).mono ?_
      rintro e w1 ⟨rfl, b1⟩
      have B1 := Lib.hid (BW.out.trans (b1.mono BW.out.size))
      have O1 := Lib.hid ((HO.out.all b1).all (below_one w1 (.cells #[.int .i64 y.k, .int .i64 y.a, .int .i64 y.b, .int .i64 y.c, .int .i64 y.p, .int .i64 y.n] 102)))
      have HB1 := Lib.hid ((HB.out.keep b1).keep (below_one w1 (.cells #[.int .i64 y.k, .int .i64 y.a, .int .i64 y.b, .int .i64 y.c, .int .i64 y.p, .int .i64 y.n] 102)))
      have HS1 := Lib.hid ((HS.out.keep b1).keep (below_one w1 (.cells #[.int .i64 y.k, .int .i64 y.a, .int .i64 y.b, .int .i64 y.c, .int .i64 y.p, .int .i64 y.n] 102)))
      have HK1 := Lib.hid (TokAt.new w1 y)
      have B1b := Lib.hid (B1.out.alloc B1.out.size (.cells #[.int .i64 y.k, .int .i64 y.a, .int .i64 y.b, .int .i64 y.c, .int .i64 y.p, .int .i64 y.n] 102))
      have hw1 : w.heap.size + 1 < w1.heap.size := (HS.out.keep b1).lt
      have L1 := Lib.hid (fun g hg => World.ownsRow.lt (HO.out.all b1) g hg)
      clear b1 HO HB HS BW B1 HN
      have ⟨y0, y1, y2, y3, y4, y5, y6⟩ := HB1.out.cells
      have ⟨t0, t1, t2, t3, t4, t5⟩ := HK1.out.cells
      go_wp2_with fail
      refine (HG.out _).mono ?_
      clear y0 y1 y2 y3 y4 y5 y6 t0 t1 t2 t3 t4 t5
      generalize w1.alloc (.cells #[.int .i64 y.k, .int .i64 y.a, .int .i64 y.b, .int .i64 y.c, .int .i64 y.p, .int .i64 y.n] 102) = W1 at *
      rintro e w2 ⟨rfl, b2⟩
      have B2 := Lib.hid (B1b.out.trans (b2.mono B1b.out.size))
      have O2 := Lib.hid (O1.out.all b2)
      have HB2 := Lib.hid (HB1.out.keep b2)
      have HS2 := Lib.hid (HS1.out.keep b2)
      have HK2 := Lib.hid (HK1.out.keep b2)
      clear b2 O1 HB1 HS1 HK1 B1b
      by_cases hc : p.c = 0
      · have ec : (p.c != 0) = false := by simpa using hc
        have ⟨q0, q1, q2, q3, q4, q5, q6⟩ := HB2.out.thaw
        have ⟨y0, y1, y2, y3, y4, y5, y6⟩ := HB2.out.cells
        have hl6 : w.heap.size < w2.heap.size := HB2.out.lt
        have hk2 : w1.heap.size < w2.heap.size := HK2.out.lt
        have ⟨p0, p1, p2, p3, p4, p5, p6⟩ := (StAt.new w2 p.y).cells
        have ⟨t0, t1, t2, t3, t4, t5⟩ := HK2.out.cells
        have HN2 : Hid (∃ m : Nat, y.n = (m : Int) ∧ 1 ≤ m ∧ k + m ≤ s.size) := Lib.hid ⟨y.n.toNat, by omega, by omega, by omega⟩
        have BP := Lib.hid (below_putSt B2.out (Nat.le_refl _) p.y)
        have OP := Lib.hid (O2.out.putSt (show w.heap.size < w.heap.size + 2 by omega) p.y)
        have HSP := Lib.hid (HS2.out.other p.y (show w.heap.size + 1 ≠ w.heap.size by omega))
        have HBP := Lib.hid (HB2.out.put p.y)
        rcases hr with hr | hr
        · have HA : Hid (addR zs p.r = zs) := Lib.hid (addR_none hr)
          have vr : p.r < 0 := by omega
          obtain ⟨m, hm, m1, m2⟩ := HN2.out
          have HM := Lib.hid hm
          have e5 : (k : Int) + y.n = ((k + m : Nat) : Int) := by omega
          clear hm
          go_wp2
          go_roundw
          case rel => exact ⟨k + m, f, p.y, zs, m2, by simp, Lib.hid (by have := HF.out; omega), by omega, Lib.hid (by rw [HR.out, HU.out, if_pos hc, HA.out, HM.out]; simp), HX2, Lib.hid (OP.out.alloc _), Lib.hid (HBP.out.alloc _), Lib.hid (HSP.out.alloc _), Lib.hid (BP.out.alloc BP.out.size _)⟩
          case measure => simp [intOf]; omega
        · have HA : Hid (addR zs p.r = zs ++ [p.r]) := Lib.hid (addR_some hr)
          have O3 := Lib.hid ((OP.out.alloc (.cells #[.int .i64 p.y.g0, .int .i64 p.y.g1, .int .i64 p.y.g2, .int .i64 p.y.g3, .int .i64 p.y.l, .int .i64 p.y.s, .int .i64 p.y.d] 39)).alloc (.cells #[.int .i64 p.r] 3))
          have HNW := Lib.hid (World.news_of_block (show (((putSt w2 w.heap.size p.y).alloc (.cells #[.int .i64 p.y.g0, .int .i64 p.y.g1, .int .i64 p.y.g2, .int .i64 p.y.g3, .int .i64 p.y.l, .int .i64 p.y.s, .int .i64 p.y.d] 39)).alloc (.cells #[.int .i64 p.r] 3)).heap[w2.heap.size + 1]? = some (.cells ([p.r].map (Value.int .i64)).toArray 3) from by
            have := heap_alloc2_new (putSt w2 w.heap.size p.y) (.cells #[.int .i64 p.y.g0, .int .i64 p.y.g1, .int .i64 p.y.g2, .int .i64 p.y.g3, .int .i64 p.y.l, .int .i64 p.y.s, .int .i64 p.y.d] 39) (.cells #[.int .i64 p.r] 3)
            rw [size_putSt] at this
            exact this))
          have hB3 : w.heap.size + 2 ≤ (((putSt w2 w.heap.size p.y).alloc (.cells #[.int .i64 p.y.g0, .int .i64 p.y.g1, .int .i64 p.y.g2, .int .i64 p.y.g3, .int .i64 p.y.l, .int .i64 p.y.s, .int .i64 p.y.d] 39)).alloc (.cells #[.int .i64 p.r] 3)).heap.size := by
            simp only [World.size_alloc, size_putSt]; omega
          go_wp2_with (at_builtin; refine app_i64 _ rfl _ _ rfl (w.heap.size + 2) _ zs rfl O3.out ⟨w2.heap.size + 1, 0, none⟩ 1 1 [p.r] rfl rfl (by decide) HNW.out (by omega) hB3 ?_)
          intro g cap2 w4 o4 g4 lt4
          have hx4 : TokAt w4 w1.heap.size y := (g4.block _ (by simp; omega) (fun h => by have := (L1.out _ h.symm).2; omega)).trans (((HK2.out.other p.y (by omega)).keep (below_one _ (.cells #[.int .i64 p.y.g0, .int .i64 p.y.g1, .int .i64 p.y.g2, .int .i64 p.y.g3, .int .i64 p.y.l, .int .i64 p.y.s, .int .i64 p.y.d] 39))).keep (below_one _ (.cells #[.int .i64 p.r] 3)))
          have HB4 := Lib.hid ((g4.block w.heap.size (by simp; omega) (fun h => by have := (L1.out _ h.symm).1; omega)).trans ((HBP.out.alloc (.cells #[.int .i64 p.y.g0, .int .i64 p.y.g1, .int .i64 p.y.g2, .int .i64 p.y.g3, .int .i64 p.y.l, .int .i64 p.y.s, .int .i64 p.y.d] 39)).alloc (.cells #[.int .i64 p.r] 3)))
          have HS4 := Lib.hid ((g4.block (w.heap.size + 1) (by simp; omega) (fun h => by have := (L1.out _ h.symm).1; omega)).trans ((HSP.out.alloc (.cells #[.int .i64 p.y.g0, .int .i64 p.y.g1, .int .i64 p.y.g2, .int .i64 p.y.g3, .int .i64 p.y.l, .int .i64 p.y.s, .int .i64 p.y.d] 39)).alloc (.cells #[.int .i64 p.r] 3)))
          have B3 := BP.out.alloc BP.out.size (.cells #[.int .i64 p.y.g0, .int .i64 p.y.g1, .int .i64 p.y.g2, .int .i64 p.y.g3, .int .i64 p.y.l, .int .i64 p.y.s, .int .i64 p.y.d] 39)
          have B4 := Lib.hid ((B3.alloc B3.size (.cells #[.int .i64 p.r] 3)).grown g4 (by simp only [World.size_alloc, size_putSt]; omega) (fun j hj => by have := (L1.out j hj).1; omega))
          have O4 := Lib.hid o4
          clear o4 g4 B3
          clear y0 y1 y2 y3 y4 y5 y6 q0 q1 q2 q3 q4 q5 q6 p0 p1 p2 p3 p4 p5 p6 t0 t1 t2 t3 t4 t5
          have ⟨_, _, _, _, _, t5⟩ := hx4.cells
          clear hx4
          obtain ⟨m, hm, m1, m2⟩ := HN2.out
          have HM := Lib.hid hm
          have e5 : (k : Int) + y.n = ((k + m : Nat) : Int) := by omega
          clear hm
          go_wp2
          go_roundw
          case rel => exact ⟨k + m, f, p.y, zs ++ [p.r], m2, by simp, Lib.hid (by have := HF.out; omega), by simp; omega, Lib.hid (by rw [HR.out, HU.out, if_pos hc, HA.out, HM.out]; simp), HX2, O4, HB4, HS4, B4⟩
          case measure => simp [intOf]; omega
      · have ec : (p.c != 0) = true := by simpa using hc
        have HE : Hid (runT s s.size 0 x [] = ⟨xs, zs, k, p.c⟩) := Lib.hid (by rw [HR.out, HU.out, if_neg hc])
        have ⟨y0, y1, y2, y3, y4, y5, y6⟩ := (HB2.out.alloc (.cells #[.int .i64 p.y.g0, .int .i64 p.y.g1, .int .i64 p.y.g2, .int .i64 p.y.g3, .int .i64 p.y.l, .int .i64 p.y.s, .int .i64 p.y.d] 39)).cells
        have BB := Lib.hid (below_putSt B2.out (show w.heap.size ≤ w.heap.size + 1 by omega) xs)
        have ⟨r0, r1, r2, r3, r4, r5, r6⟩ := HS2.out.cells
        have ⟨z0, z1, z2, z3, z4, z5, z6⟩ := HS2.out.thaw
        simp only [zeroSt] at r0 r1 r2 r3 r4 r5 r6
        have hl : w.heap.size + 1 < w2.heap.size := HS2.out.lt
        have OE := Lib.hid (((O2.out.putSt (show w.heap.size + 1 < w.heap.size + 2 by omega) xs).alloc (.cells #[.int .i64 p.y.g0, .int .i64 p.y.g1, .int .i64 p.y.g2, .int .i64 p.y.g3, .int .i64 p.y.l, .int .i64 p.y.s, .int .i64 p.y.d] 39)).low (show w.heap.size ≤ w.heap.size + 2 by omega))
        go_wp2
        exact st_ret4 (y := xs) (r := .slice a0 zs.length c0) (m := .int .i64 k) (c := .int .i64 p.c) rfl rfl rfl rfl rfl ((HS2.out.put xs).alloc _) Tryz.underlying39 rfl (by kernel_rfl) rfl ⟨.slice a0 zs.length c0, by rw [HE.out], by rw [HE.out]; exact OE.out, BB.out.alloc BB.out.size _⟩
    · have v2 : ¬ (k : Int) < (s.size : Int) := by omega
      have HE : Hid (runT s s.size 0 x [] = ⟨xs, zs, s.size, 0⟩) := Lib.hid (by
        rw [HR.out]
        cases f with
        | zero => rfl
        | succ f => rw [runT, if_neg hlt])
      have ⟨y0, y1, y2, y3, y4, y5, y6⟩ := HB.out.cells
      have BB := Lib.hid (below_putSt BW.out (show w.heap.size ≤ w.heap.size + 1 by omega) xs)
      have ⟨r0, r1, r2, r3, r4, r5, r6⟩ := HS.out.cells
      have ⟨z0, z1, z2, z3, z4, z5, z6⟩ := HS.out.thaw
      simp only [zeroSt] at r0 r1 r2 r3 r4 r5 r6
      have hl : w.heap.size + 1 < wr.heap.size := HS.out.lt
      have OE := Lib.hid ((HO.out.putSt (show w.heap.size + 1 < w.heap.size + 2 by omega) xs).low (show w.heap.size ≤ w.heap.size + 2 by omega))
      go_wp2
      exact st_ret4 (y := xs) (r := .slice a0 zs.length c0) (m := .int .i64 s.size) (c := .int .i64 0) rfl rfl rfl rfl rfl (HS.out.put xs) Tryz.underlying39 rfl (by kernel_rfl) rfl ⟨.slice a0 zs.length c0, by rw [HE.out], by rw [HE.out]; exact OE.out, BB.out⟩

end Go.Proofs.YtbamjhldebobhaaGreatDoor
