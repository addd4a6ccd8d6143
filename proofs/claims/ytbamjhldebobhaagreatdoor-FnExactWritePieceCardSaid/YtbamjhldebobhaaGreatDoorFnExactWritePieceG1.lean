/- A reading in a block: the guide (cells 0 to 9), the machine (10 to 16), the list (17). Joined of: StF, StG, StH, StI, PrE, PrF, DcS, DcT, PcN, SetsJ, MaF, PcA, CloC, Words, LayI, DesI, ByteI, NextI, NextJ, TokH, MaG, MaH, RdA. -/
import Derived.Test.YtbamjhldebobhaaGreatDoorStC
import Derived.Test.YtbamjhldebobhaaGreatDoorStN
import Derived.Test.YtbamjhldebobhaaGreatDoorTokG
import Derived.Test.YtbamjhldebobhaaGreatDoorTokE
import Derived.Test.YtbamjhldebobhaaGreatDoorOwn
import Derived.Test.YtbamjhldebobhaaGreatDoorPrC
import Derived.Test.YtbamjhldebobhaaGreatDoorPrI
import Derived.Test.YtbamjhldebobhaaGreatDoorDcM
import Derived.Test.YtbamjhldebobhaaGreatDoorPcM
import Derived.Test.YtbamjhldebobhaaGreatDoorSetsT
import Derived.Test.YtbamjhldebobhaaGreatDoorMaD
import Derived.Test.YtbamjhldebobhaaGreatDoorStA
import Derived.Shelf.Strconv.Clone
import Derived.Test.YtbamjhldebobhaaGreatDoorInts
import Derived.Test.YtbamjhldebobhaaGreatDoorRunesA
import Derived.Laws.Rows
import Derived.Shelf.Strings.BuilderRune
import Derived.Shelf.Strings.Search1
import Derived.Shelf.Small.Strs
import Derived.Test.YtbamjhldebobhaaGreatDoorProg
import Derived.Test.YtbamjhldebobhaaGreatDoorTokB
import Derived.Test.YtbamjhldebobhaaGreatDoorTokC
import Derived.WalkMore
import Derived.Test.YtbamjhldebobhaaGreatDoorTokD
import Derived.Test.YtbamjhldebobhaaGreatDoorEscI

namespace Go.Proofs.YtbamjhldebobhaaGreatDoor
open Go.RowKit Go.Sort

theorem results_cell_tmp2 {P : Program} {fn : Func} {p u v : Tmp} {ty : TypeId} (h : fn.results = #[.cell p ty, .tmp u, .tmp v]) (tmps : Array Value) (w : World) (g : Nat) (t : TypeId) (cs : Array Value) (fr : Nat × Nat) (d : TypeDesc)
    (hp : tmps.getD p undef = .pointer (some ⟨g, 0, none⟩)) (hg : w.heap[g]? = some (.cells cs t fr))
    (hu : P.underlying ty = some d) (hd : (match d with | .struct _ | .array _ _ => true | _ => false) = true) (hi : (P.info? ty).map (·.size) = some cs.size) :
    (results fn tmps).run P w = .ok (.tuple #[.agg cs, tmps.getD u undef, tmps.getD v undef]) w := by
  have h1 : (results fn tmps).run P w = ((asAddr (tmps.getD p undef)).run P w).andThen fun a w₁ => ((loadVar ty a).run P w₁).andThen fun x w₂ => .ok (.tuple #[x, tmps.getD u undef, tmps.getD v undef]) w₂ := by
    simp only [results, h]
    simp [Sem.run_bind, Result.andThen]
  rw [h1, hp]
  simp [asAddr, run_loadVar_row w g t ty cs fr d hg hu hd hi, Result.andThen]

theorem st_eta0 {x : St} (h : x.d = 0) : x = ⟨x.g0, x.g1, x.g2, x.g3, x.l, x.s, 0⟩ := by cases x; simp only at h; rw [h]

def stpV (p : Stp) : Value := .tuple #[stV p.y, .int .i64 p.r, .int .i64 p.c]
def StpDone (p : Stp) (w : World) (e : Ending) (w' : World) : Prop := e = .returned (stpV p) ∧ Below w.heap.size w w'
theorem st_ret3 {P : Program} {fn : Func} {p u v : Tmp} {a : Act} {w1 : World} {g : Nat} {t ty : TypeId} {fr : Nat × Nat} {d : TypeDesc} {y : St} {r c : Int} {Q : Ending → World → Prop} (h : fn.results = #[.cell p ty, .tmp u, .tmp v])
    (hp : a.tmps.getD p undef = .pointer (some ⟨g, 0, none⟩)) (hr : a.tmps.getD u undef = .int .i64 r) (hc : a.tmps.getD v undef = .int .i64 c) (hg : w1.heap[g]? = some (.cells #[.int .i64 y.g0, .int .i64 y.g1, .int .i64 y.g2, .int .i64 y.g3, .int .i64 y.l, .int .i64 y.s, .int .i64 y.d] t fr))
    (hu : P.underlying ty = some d) (hd : (match d with | .struct _ | .array _ _ => true | _ => false) = true) (hi : (P.info? ty).map (·.size) = some 7) (hdef : a.defers = []) (hQ : Q (.returned (stpV ⟨y, r, c⟩)) w1) :
    bodyPost P fn Q .ret a w1 :=
  bodyPost_ret (results_cell_tmp2 h _ _ g _ _ _ _ hp hg hu hd hi) hdef (by rw [hr, hc]; exact hQ)

set_option maxHeartbeats 4000000 in
set_option maxRecDepth 100000 in
theorem spec_l04Graphic (x : St) (a : Int) (r : Bool) (w : World) (hh : headOK x = true) (hd0 : 0 ≤ x.d) (hd1 : x.d ≤ 254) (ha0 : 0 ≤ a) (ha1 : a ≤ 255) : Calls Tryz.prog 151 #[stV x, .int .i64 a, .bool r] w (StpDone (graphic x a r) w) := by
  have ⟨hq0, hq3⟩ := sideOf_in r hh
  have B0 := below_two w (.cells #[.int .i64 x.g0, .int .i64 x.g1, .int .i64 x.g2, .int .i64 x.g3, .int .i64 x.l, .int .i64 x.s, .int .i64 x.d] 39) (.cells #[.int .i64 0, .int .i64 0, .int .i64 0, .int .i64 0, .int .i64 0, .int .i64 0, .int .i64 0] 39)
  have HB0 : Hid (StAt ((w.alloc (.cells #[.int .i64 x.g0, .int .i64 x.g1, .int .i64 x.g2, .int .i64 x.g3, .int .i64 x.l, .int .i64 x.s, .int .i64 x.d] 39)).alloc (.cells #[.int .i64 0, .int .i64 0, .int .i64 0, .int .i64 0, .int .i64 0, .int .i64 0, .int .i64 0] 39)) w.heap.size x) := Lib.hid (heap_alloc2_old _ _ _)
  have HS0 : Hid (StAt ((w.alloc (.cells #[.int .i64 x.g0, .int .i64 x.g1, .int .i64 x.g2, .int .i64 x.g3, .int .i64 x.l, .int .i64 x.s, .int .i64 x.d] 39)).alloc (.cells #[.int .i64 0, .int .i64 0, .int .i64 0, .int .i64 0, .int .i64 0, .int .i64 0, .int .i64 0] 39)) (w.heap.size + 1) zeroSt) := Lib.hid (heap_alloc2_new _ _ _)
  have HG0 : Hid (graphic x a r = if stGet x (sideOf x r) = 0 then ⟨x, -1, 17⟩
    else if setKind (stGet x (sideOf x r)) = 3 then
      if 0 < x.d ∧ decide (128 < x.d) ≠ r then ⟨x, -1, 13⟩ else if inB a 33 126 = false then ⟨x, -1, 12⟩ else if x.d = 0 then ⟨⟨x.g0, x.g1, x.g2, x.g3, x.l, x.s, a + sideNo r⟩, -1, 0⟩
      else gLast x (stGet x (sideOf x r)) (a + (x.d - sideNo r) * 256)
    else gLast x (stGet x (sideOf x r)) a) := Lib.hid rfl
  unfold stV
  clear hh
  go_enter Tryz.func151, Tryz.ntmps151
  go_wp2_with fail
  generalize ((w.alloc (.cells #[.int .i64 x.g0, .int .i64 x.g1, .int .i64 x.g2, .int .i64 x.g3, .int .i64 x.l, .int .i64 x.s, .int .i64 x.d] 39)).alloc (.cells #[.int .i64 0, .int .i64 0, .int .i64 0, .int .i64 0, .int .i64 0, .int .i64 0, .int .i64 0] 39)) = W0 at *
  have cS : ∀ d os, Calls Tryz.prog 123 #[.agg #[.int .i64 x.g0, .int .i64 x.g1, .int .i64 x.g2, .int .i64 x.g3, .int .i64 x.l, .int .i64 x.s, .int .i64 x.d], .bool r] (grow (redrawn W0 d) os) fun e w'' => e = .returned (.int .i64 (sideOf x r)) ∧ ∃ p : Regrown, w'' = grow (redrawn W0 p.d) p.os := fun d os => Calls.regrown_of (spec_l04Side x _ _)
  have cG : ∀ d os, Calls Tryz.prog 122 #[.agg #[.int .i64 x.g0, .int .i64 x.g1, .int .i64 x.g2, .int .i64 x.g3, .int .i64 x.l, .int .i64 x.s, .int .i64 x.d], .int .i64 (sideOf x r)] (grow (redrawn W0 d) os) fun e w'' => e = .returned (.int .i64 (stGet x (sideOf x r))) ∧ ∃ p : Regrown, w'' = grow (redrawn W0 p.d) p.os := fun d os => Calls.regrown_of (spec_l04Get x _ _ hq0 hq3)
  clear hq0 hq3
  generalize stGet x (sideOf x r) = q at *
  generalize sideOf x r = sd at *
  have ⟨y0, y1, y2, y3, y4, y5, y6⟩ := HB0.out.cells
  have m0 := cell_regrown y0
  have m1 := cell_regrown y1
  have m2 := cell_regrown y2
  have m3 := cell_regrown y3
  have m4 := cell_regrown y4
  have m5 := cell_regrown y5
  have m6 := cell_regrown y6
  clear y0 y1 y2 y3 y4 y5 y6
  refine wp_region_quiet_below (by kernel_rfl) (by kernel_rfl) ?_
  repeat (quiet_step (first | exact cS _ _ | exact cG _ _))
  refine wpQuiet_nil ?_
  intro W1 hw1
  obtain ⟨⟨dq, osq⟩, hw1'⟩ := hw1
  have b1 : Below W0.heap.size W0 W1 := by rw [hw1']; exact below_regrown W0 dq osq
  have B1 : Hid (Below w.heap.size w W1) := Lib.hid (B0.trans (b1.mono B0.size))
  have HB1 := Lib.hid (HB0.out.keep b1)
  have HS1 := Lib.hid (HS0.out.keep b1)
  clear m0 m1 m2 m3 m4 m5 m6 cS cG hw1' b1 HB0 HS0 B0
  by_cases hq : q = 0
  · have eq0 : (q == 0) = true := by simpa using hq
    have HE : Hid (graphic x a r = ⟨x, -1, 17⟩) := Lib.hid (by rw [HG0.out, if_pos hq])
    have ⟨y0, y1, y2, y3, y4, y5, y6⟩ := HB1.out.cells
    have ⟨r0, r1, r2, r3, r4, r5, r6⟩ := HS1.out.cells
    have ⟨z0, z1, z2, z3, z4, z5, z6⟩ := HS1.out.thaw
    simp only [zeroSt] at r0 r1 r2 r3 r4 r5 r6
    have hl : w.heap.size + 1 < W1.heap.size := HS1.out.lt
    go_wp2
    exact st_ret3 (y := x) rfl rfl rfl rfl (HS1.out.put x) Tryz.underlying39 rfl (by kernel_rfl) rfl ⟨by rw [HE.out], below_putSt B1.out (Nat.le_succ _) x⟩
  have eq0 : (q == 0) = false := by rw [beq_eq_false_iff_ne]; exact hq
  go_wp2_with fail
  refine (spec_l02Set q W1).mono ?_
  rintro e W2 ⟨yg, rfl, hyg, hblk, b2⟩
  clear hyg hblk
  have B2 : Hid (Below w.heap.size w W2) := Lib.hid (B1.out.trans (b2.mono B1.out.size))
  have HB2 := Lib.hid (HB1.out.keep b2)
  have HS2 := Lib.hid (HS1.out.keep b2)
  clear b2 HB1 HS1 B1
  unfold setV
  have F1 := setField1
  by_cases hk3 : setKind q = 3
  · have K3 := Lib.hid hk3
    rw [hk3]
    clear hk3
    have HI := Lib.hid (fun w => spec_l01In a 33 126 w)
    cases r
    · by_cases d0 : x.d = 0
      · have HW : Hid (¬ (0 < x.d ∧ decide (128 < x.d) ≠ false)) := Lib.hid (fun h => by omega)
        have v1 : ¬ 0 < x.d := by omega
        have ⟨y0, y1, y2, y3, y4, y5, y6⟩ := HB2.out.cells
        rw [d0] at y6
        cases hin : inB a 33 126
        · have HE : Hid (graphic x a false = ⟨⟨x.g0, x.g1, x.g2, x.g3, x.l, x.s, 0⟩, -1, 12⟩) := Lib.hid (by rw [HG0.out, if_neg hq, if_pos K3.out, if_neg HW.out, if_pos hin]; exact congrArg (fun y => Stp.mk y (-1) 12) (st_eta0 d0))
          rw [hin] at HI
          clear d0 v1
          go_wp2_with fail
          refine (HI.out W2).mono ?_
          rintro e w3 ⟨rfl, rfl⟩
          have ⟨r0, r1, r2, r3, r4, r5, r6⟩ := HS2.out.cells
          have ⟨z0, z1, z2, z3, z4, z5, z6⟩ := HS2.out.thaw
          simp only [zeroSt] at r0 r1 r2 r3 r4 r5 r6
          have hl : w.heap.size + 1 < W2.heap.size := HS2.out.lt
          go_wp2
          exact st_ret3 (y := ⟨x.g0, x.g1, x.g2, x.g3, x.l, x.s, 0⟩) rfl rfl rfl rfl (HS2.out.put ⟨x.g0, x.g1, x.g2, x.g3, x.l, x.s, 0⟩) Tryz.underlying39 rfl (by kernel_rfl) rfl ⟨by rw [HE.out], below_putSt B2.out (Nat.le_succ _) ⟨x.g0, x.g1, x.g2, x.g3, x.l, x.s, 0⟩⟩
        · have HE : Hid (graphic x a false = ⟨⟨x.g0, x.g1, x.g2, x.g3, x.l, x.s, a⟩, -1, 0⟩) := Lib.hid (by rw [HG0.out, if_neg hq, if_pos K3.out, if_neg HW.out, if_neg (by rw [hin]; decide), if_pos d0]; simp [sideNo])
          have ua : IntKind.i64.wrap (a) = a := IntWalk.i64_in _ (by omega)
          rw [hin] at HI
          clear d0 v1
          go_wp2_with fail
          refine (HI.out W2).mono ?_
          rintro e w3 ⟨rfl, rfl⟩
          have ⟨q0, q1, q2, q3, q4, q5, q6⟩ := HB2.out.thaw
          have hl6 : w.heap.size < W2.heap.size := HB2.out.lt
          have HS3 : Hid (StAt (W2.setCell ⟨w.heap.size, 6, none⟩ (.int .i64 (a))) (w.heap.size + 1) zeroSt) := Lib.hid (by
            unfold StAt
            rw [Below.heap_setCell _ _ _ _ (by simp)]
            exact HS2.out)
          have B3 : Hid (Below w.heap.size w (W2.setCell ⟨w.heap.size, 6, none⟩ (.int .i64 (a)))) := Lib.hid (B2.out.setCell (Nat.le_refl _) _)
          have ⟨r0, r1, r2, r3, r4, r5, r6⟩ := HS2.out.cells
          have ⟨z0, z1, z2, z3, z4, z5, z6⟩ := HS2.out.thaw
          simp only [zeroSt] at r0 r1 r2 r3 r4 r5 r6
          have hl : w.heap.size + 1 < W2.heap.size := HS2.out.lt
          go_wp2
          exact st_ret3 (y := ⟨x.g0, x.g1, x.g2, x.g3, x.l, x.s, a⟩) rfl rfl rfl rfl (HS3.out.put ⟨x.g0, x.g1, x.g2, x.g3, x.l, x.s, a⟩) Tryz.underlying39 rfl (by kernel_rfl) rfl ⟨by rw [HE.out], below_putSt B3.out (Nat.le_succ _) ⟨x.g0, x.g1, x.g2, x.g3, x.l, x.s, a⟩⟩
      have v0 : 0 < x.d := by omega
      cases v2 : decide (128 < x.d) == true
      · have v2' : decide (128 < x.d) = false := by cases h : decide (128 < x.d) <;> rw [h] at v2 <;> first | rfl | cases v2
        have HW : Hid (¬ (0 < x.d ∧ decide (128 < x.d) ≠ false)) := Lib.hid (fun h => h.2 v2')
        clear v2
        cases hin : inB a 33 126
        · have HE : Hid (graphic x a false = ⟨x, -1, 12⟩) := Lib.hid (by rw [HG0.out, if_neg hq, if_pos K3.out, if_neg HW.out, if_pos hin])
          rw [hin] at HI
          have ⟨y0, y1, y2, y3, y4, y5, y6⟩ := HB2.out.cells
          go_wp2_with fail
          refine (HI.out W2).mono ?_
          rintro e w3 ⟨rfl, rfl⟩
          clear y0 y1 y2 y3 y4 y5 y6
          have ⟨y0, y1, y2, y3, y4, y5, y6⟩ := HB2.out.cells
          have ⟨r0, r1, r2, r3, r4, r5, r6⟩ := HS2.out.cells
          have ⟨z0, z1, z2, z3, z4, z5, z6⟩ := HS2.out.thaw
          simp only [zeroSt] at r0 r1 r2 r3 r4 r5 r6
          have hl : w.heap.size + 1 < W2.heap.size := HS2.out.lt
          go_wp2
          exact st_ret3 (y := x) rfl rfl rfl rfl (HS2.out.put x) Tryz.underlying39 rfl (by kernel_rfl) rfl ⟨by rw [HE.out], below_putSt B2.out (Nat.le_succ _) x⟩
        · have ⟨a0, a1⟩ := inB_true hin
          rw [hin] at HI
          have e0 : (x.d == 0) = false := by rw [beq_eq_false_iff_ne]; exact d0
          have u1 : IntKind.i64.wrap x.d = x.d := IntWalk.i64_in _ (by omega)
          have u2 : IntKind.i64.wrap (x.d * 256) = x.d * 256 := IntWalk.i64_in _ (by omega)
          have u3 : IntKind.i64.wrap (a + x.d * 256) = a + x.d * 256 := IntWalk.i64_in _ (by omega)
          have hA0 : 0 ≤ a + x.d * 256 := by omega
          have hA1 : a + x.d * 256 ≤ 9223372036854775807 := by omega
          have HU : Hid (graphic x a false = gLast x q (a + x.d * 256)) := Lib.hid (by rw [HG0.out, if_neg hq, if_pos K3.out, if_neg HW.out, if_neg (by rw [hin]; decide), if_neg d0]; simp [sideNo])
          have ⟨y0, y1, y2, y3, y4, y5, y6⟩ := HB2.out.cells
          go_wp2_with fail
          refine (HI.out W2).mono ?_
          rintro e w3 ⟨rfl, rfl⟩
          clear y0 y1 y2 y3 y4 y5 y6
          have ⟨y0, y1, y2, y3, y4, y5, y6⟩ := HB2.out.cells
          have HK := Lib.hid (fun w => spec_l02Code 3 (a + x.d * 256) w hA0 hA1)
          have HN := Lib.hid (fun w => spec_l02Rune q (a + x.d * 256) w)
          have HQ : Hid (gLast x q (a + x.d * 256) = if kindB 3 (a + x.d * 256) = true ∧ 0 ≤ runeS (setSpans q) (a + x.d * 256) then ⟨⟨x.g0, x.g1, x.g2, x.g3, x.l, 0, 0⟩, runeS (setSpans q) (a + x.d * 256), 0⟩ else ⟨x, -1, 12⟩) := Lib.hid (by rw [gLast, K3.out])
          clear hA0 hA1
          generalize kindB 3 (a + x.d * 256) = kb at *
          generalize runeS (setSpans q) (a + x.d * 256) = rv at *
          go_wp2_with fail
          refine (HK.out W2).mono ?_
          rintro e w5 ⟨rfl, rfl⟩
          clear y0 y1 y2 y3 y4 y5 y6
          cases kb
          · have HE : Hid (graphic x a false = ⟨x, -1, 12⟩) := Lib.hid (by rw [HU.out, HQ.out, if_neg (fun h => by cases h.1)])
            have ⟨y0, y1, y2, y3, y4, y5, y6⟩ := HB2.out.cells
            have ⟨r0, r1, r2, r3, r4, r5, r6⟩ := HS2.out.cells
            have ⟨z0, z1, z2, z3, z4, z5, z6⟩ := HS2.out.thaw
            simp only [zeroSt] at r0 r1 r2 r3 r4 r5 r6
            have hl : w.heap.size + 1 < W2.heap.size := HS2.out.lt
            go_wp2
            exact st_ret3 (y := x) rfl rfl rfl rfl (HS2.out.put x) Tryz.underlying39 rfl (by kernel_rfl) rfl ⟨by rw [HE.out], below_putSt B2.out (Nat.le_succ _) x⟩
          · go_wp2_with fail
            refine (HN.out W2).mono ?_
            rintro e W6 ⟨rfl, b6⟩
            have B6 : Hid (Below w.heap.size w W6) := Lib.hid (B2.out.trans (b6.mono B2.out.size))
            have HB6 := Lib.hid (HB2.out.keep b6)
            have HS6 := Lib.hid (HS2.out.keep b6)
            clear b6
            by_cases hr : rv < 0
            · have HE : Hid (graphic x a false = ⟨x, -1, 12⟩) := Lib.hid (by rw [HU.out, HQ.out, if_neg (fun h => by omega)])
              have ⟨y0, y1, y2, y3, y4, y5, y6⟩ := HB6.out.cells
              have ⟨r0, r1, r2, r3, r4, r5, r6⟩ := HS6.out.cells
              have ⟨z0, z1, z2, z3, z4, z5, z6⟩ := HS6.out.thaw
              simp only [zeroSt] at r0 r1 r2 r3 r4 r5 r6
              have hl : w.heap.size + 1 < W6.heap.size := HS6.out.lt
              go_wp2
              exact st_ret3 (y := x) rfl rfl rfl rfl (HS6.out.put x) Tryz.underlying39 rfl (by kernel_rfl) rfl ⟨by rw [HE.out], below_putSt B6.out (Nat.le_succ _) x⟩
            · have HE : Hid (graphic x a false = ⟨⟨x.g0, x.g1, x.g2, x.g3, x.l, 0, 0⟩, rv, 0⟩) := Lib.hid (by rw [HU.out, HQ.out, if_pos ⟨by trivial, by omega⟩])
              have ⟨y0, y1, y2, y3, y4, y5, y6⟩ := HB6.out.cells
              have ⟨q0, q1, q2, q3, q4, q5, q6⟩ := HB6.out.thaw
              have hl6 : w.heap.size < W6.heap.size := HB6.out.lt
              go_wp2
              have HB7 : Hid (StAt ((W6.setCell ⟨w.heap.size, 5, none⟩ (.int .i64 0)).setCell ⟨w.heap.size, 6, none⟩ (.int .i64 0)) w.heap.size ⟨x.g0, x.g1, x.g2, x.g3, x.l, 0, 0⟩) := Lib.hid (heap_setCell_same _ _ 6 _ _ (.int .i64 0) (heap_setCell_same _ _ 5 _ _ (.int .i64 0) HB6.out))
              have HS7 : Hid (StAt ((W6.setCell ⟨w.heap.size, 5, none⟩ (.int .i64 0)).setCell ⟨w.heap.size, 6, none⟩ (.int .i64 0)) (w.heap.size + 1) zeroSt) := Lib.hid (by
                unfold StAt
                rw [Below.heap_setCell _ _ _ _ (by simp), Below.heap_setCell _ _ _ _ (by simp)]
                exact HS6.out)
              have B7 : Hid (Below w.heap.size w ((W6.setCell ⟨w.heap.size, 5, none⟩ (.int .i64 0)).setCell ⟨w.heap.size, 6, none⟩ (.int .i64 0))) := Lib.hid ((B6.out.setCell (Nat.le_refl _) _).setCell (Nat.le_refl _) _)
              clear y0 y1 y2 y3 y4 y5 y6 q0 q1 q2 q3 q4 q5 q6 hl6
              generalize (W6.setCell ⟨w.heap.size, 5, none⟩ (.int .i64 0)).setCell ⟨w.heap.size, 6, none⟩ (.int .i64 0) = W7 at *
              have ⟨y0, y1, y2, y3, y4, y5, y6⟩ := HB7.out.cells
              dsimp only at y0 y1 y2 y3 y4 y5 y6
              go_region_with ((go_at_call 182; refine (HN.out _).mono ?_; rintro e W8 ⟨rfl, b8⟩; have b78 : Below W7.heap.size W7 W8 := bel_drew b8; have ⟨p0, p1, p2, p3, p4, p5, p6⟩ := (HB7.out.keep b78).cells; have HS8 := Lib.hid (HS7.out.keep b78); have B8 : Hid (Below w.heap.size w W8) := Lib.hid (B7.out.trans (b78.mono B7.out.size)); have ⟨r0, r1, r2, r3, r4, r5, r6⟩ := HS8.out.cells; have ⟨z0, z1, z2, z3, z4, z5, z6⟩ := HS8.out.thaw; simp only [zeroSt] at r0 r1 r2 r3 r4 r5 r6; dsimp only at p0 p1 p2 p3 p4 p5 p6; have hl : w.heap.size + 1 < W8.heap.size := HS8.out.lt; clear b8 b78))
              all_goals
                go_wp2
                exact st_ret3 (y := ⟨x.g0, x.g1, x.g2, x.g3, x.l, 0, 0⟩) rfl rfl rfl rfl (HS8.out.put ⟨x.g0, x.g1, x.g2, x.g3, x.l, 0, 0⟩) Tryz.underlying39 rfl (by kernel_rfl) rfl ⟨by rw [HE.out], below_putSt B8.out (Nat.le_succ _) ⟨x.g0, x.g1, x.g2, x.g3, x.l, 0, 0⟩⟩
      · have v2' : decide (128 < x.d) = true := by cases h : decide (128 < x.d) <;> rw [h] at v2 <;> first | rfl | cases v2
        have HE : Hid (graphic x a false = ⟨x, -1, 13⟩) := Lib.hid (by rw [HG0.out, if_neg hq, if_pos K3.out, if_pos ⟨v0, by rw [v2']; decide⟩])
        clear v2
        have ⟨y0, y1, y2, y3, y4, y5, y6⟩ := HB2.out.cells
        have ⟨r0, r1, r2, r3, r4, r5, r6⟩ := HS2.out.cells
        have ⟨z0, z1, z2, z3, z4, z5, z6⟩ := HS2.out.thaw
        simp only [zeroSt] at r0 r1 r2 r3 r4 r5 r6
        have hl : w.heap.size + 1 < W2.heap.size := HS2.out.lt
        go_wp2
        exact st_ret3 (y := x) rfl rfl rfl rfl (HS2.out.put x) Tryz.underlying39 rfl (by kernel_rfl) rfl ⟨by rw [HE.out], below_putSt B2.out (Nat.le_succ _) x⟩
    · by_cases d0 : x.d = 0
      · have HW : Hid (¬ (0 < x.d ∧ decide (128 < x.d) ≠ true)) := Lib.hid (fun h => by omega)
        have v1 : ¬ 0 < x.d := by omega
        have ⟨y0, y1, y2, y3, y4, y5, y6⟩ := HB2.out.cells
        rw [d0] at y6
        cases hin : inB a 33 126
        · have HE : Hid (graphic x a true = ⟨⟨x.g0, x.g1, x.g2, x.g3, x.l, x.s, 0⟩, -1, 12⟩) := Lib.hid (by rw [HG0.out, if_neg hq, if_pos K3.out, if_neg HW.out, if_pos hin]; exact congrArg (fun y => Stp.mk y (-1) 12) (st_eta0 d0))
          rw [hin] at HI
          clear d0 v1
          go_wp2_with fail
          refine (HI.out W2).mono ?_
          rintro e w3 ⟨rfl, rfl⟩
          have ⟨r0, r1, r2, r3, r4, r5, r6⟩ := HS2.out.cells
          have ⟨z0, z1, z2, z3, z4, z5, z6⟩ := HS2.out.thaw
          simp only [zeroSt] at r0 r1 r2 r3 r4 r5 r6
          have hl : w.heap.size + 1 < W2.heap.size := HS2.out.lt
          go_wp2
          exact st_ret3 (y := ⟨x.g0, x.g1, x.g2, x.g3, x.l, x.s, 0⟩) rfl rfl rfl rfl (HS2.out.put ⟨x.g0, x.g1, x.g2, x.g3, x.l, x.s, 0⟩) Tryz.underlying39 rfl (by kernel_rfl) rfl ⟨by rw [HE.out], below_putSt B2.out (Nat.le_succ _) ⟨x.g0, x.g1, x.g2, x.g3, x.l, x.s, 0⟩⟩
        · have HE : Hid (graphic x a true = ⟨⟨x.g0, x.g1, x.g2, x.g3, x.l, x.s, a + 128⟩, -1, 0⟩) := Lib.hid (by rw [HG0.out, if_neg hq, if_pos K3.out, if_neg HW.out, if_neg (by rw [hin]; decide), if_pos d0]; rfl)
          have ua : IntKind.i64.wrap (a + 128) = a + 128 := IntWalk.i64_in _ (by omega)
          rw [hin] at HI
          clear d0 v1
          go_wp2_with fail
          refine (HI.out W2).mono ?_
          rintro e w3 ⟨rfl, rfl⟩
          have ⟨q0, q1, q2, q3, q4, q5, q6⟩ := HB2.out.thaw
          have hl6 : w.heap.size < W2.heap.size := HB2.out.lt
          have HS3 : Hid (StAt (W2.setCell ⟨w.heap.size, 6, none⟩ (.int .i64 (a + 128))) (w.heap.size + 1) zeroSt) := Lib.hid (by
            unfold StAt
            rw [Below.heap_setCell _ _ _ _ (by simp)]
            exact HS2.out)
          have B3 : Hid (Below w.heap.size w (W2.setCell ⟨w.heap.size, 6, none⟩ (.int .i64 (a + 128)))) := Lib.hid (B2.out.setCell (Nat.le_refl _) _)
          have ⟨r0, r1, r2, r3, r4, r5, r6⟩ := HS2.out.cells
          have ⟨z0, z1, z2, z3, z4, z5, z6⟩ := HS2.out.thaw
          simp only [zeroSt] at r0 r1 r2 r3 r4 r5 r6
          have hl : w.heap.size + 1 < W2.heap.size := HS2.out.lt
          go_wp2
          exact st_ret3 (y := ⟨x.g0, x.g1, x.g2, x.g3, x.l, x.s, a + 128⟩) rfl rfl rfl rfl (HS3.out.put ⟨x.g0, x.g1, x.g2, x.g3, x.l, x.s, a + 128⟩) Tryz.underlying39 rfl (by kernel_rfl) rfl ⟨by rw [HE.out], below_putSt B3.out (Nat.le_succ _) ⟨x.g0, x.g1, x.g2, x.g3, x.l, x.s, a + 128⟩⟩
      have v0 : 0 < x.d := by omega
      cases v2 : decide (128 < x.d) == false
      · have v2' : decide (128 < x.d) = true := by cases h : decide (128 < x.d) <;> rw [h] at v2 <;> first | rfl | cases v2
        have HW : Hid (¬ (0 < x.d ∧ decide (128 < x.d) ≠ true)) := Lib.hid (fun h => h.2 v2')
        clear v2
        cases hin : inB a 33 126
        · have HE : Hid (graphic x a true = ⟨x, -1, 12⟩) := Lib.hid (by rw [HG0.out, if_neg hq, if_pos K3.out, if_neg HW.out, if_pos hin])
          rw [hin] at HI
          have ⟨y0, y1, y2, y3, y4, y5, y6⟩ := HB2.out.cells
          go_wp2_with fail
          refine (HI.out W2).mono ?_
          rintro e w3 ⟨rfl, rfl⟩
          clear y0 y1 y2 y3 y4 y5 y6
          have ⟨y0, y1, y2, y3, y4, y5, y6⟩ := HB2.out.cells
          have ⟨r0, r1, r2, r3, r4, r5, r6⟩ := HS2.out.cells
          have ⟨z0, z1, z2, z3, z4, z5, z6⟩ := HS2.out.thaw
          simp only [zeroSt] at r0 r1 r2 r3 r4 r5 r6
          have hl : w.heap.size + 1 < W2.heap.size := HS2.out.lt
          go_wp2
          exact st_ret3 (y := x) rfl rfl rfl rfl (HS2.out.put x) Tryz.underlying39 rfl (by kernel_rfl) rfl ⟨by rw [HE.out], below_putSt B2.out (Nat.le_succ _) x⟩
        · have ⟨a0, a1⟩ := inB_true hin
          rw [hin] at HI
          have e0 : (x.d == 0) = false := by rw [beq_eq_false_iff_ne]; exact d0
          have u1 : IntKind.i64.wrap (x.d - 128) = x.d - 128 := IntWalk.i64_in _ (by omega)
          have u2 : IntKind.i64.wrap ((x.d - 128) * 256) = (x.d - 128) * 256 := IntWalk.i64_in _ (by omega)
          have u3 : IntKind.i64.wrap (a + (x.d - 128) * 256) = a + (x.d - 128) * 256 := IntWalk.i64_in _ (by omega)
          have hA0 : 0 ≤ a + (x.d - 128) * 256 := by have := of_decide_eq_true v2'; omega
          have hA1 : a + (x.d - 128) * 256 ≤ 9223372036854775807 := by omega
          have HU : Hid (graphic x a true = gLast x q (a + (x.d - 128) * 256)) := Lib.hid (by rw [HG0.out, if_neg hq, if_pos K3.out, if_neg HW.out, if_neg (by rw [hin]; decide), if_neg d0]; rfl)
          have ⟨y0, y1, y2, y3, y4, y5, y6⟩ := HB2.out.cells
          go_wp2_with fail
          refine (HI.out W2).mono ?_
          rintro e w3 ⟨rfl, rfl⟩
          clear y0 y1 y2 y3 y4 y5 y6
          have ⟨y0, y1, y2, y3, y4, y5, y6⟩ := HB2.out.cells
          have HK := Lib.hid (fun w => spec_l02Code 3 (a + (x.d - 128) * 256) w hA0 hA1)
          have HN := Lib.hid (fun w => spec_l02Rune q (a + (x.d - 128) * 256) w)
          have HQ : Hid (gLast x q (a + (x.d - 128) * 256) = if kindB 3 (a + (x.d - 128) * 256) = true ∧ 0 ≤ runeS (setSpans q) (a + (x.d - 128) * 256) then ⟨⟨x.g0, x.g1, x.g2, x.g3, x.l, 0, 0⟩, runeS (setSpans q) (a + (x.d - 128) * 256), 0⟩ else ⟨x, -1, 12⟩) := Lib.hid (by rw [gLast, K3.out])
          clear hA0 hA1
          generalize kindB 3 (a + (x.d - 128) * 256) = kb at *
          generalize runeS (setSpans q) (a + (x.d - 128) * 256) = rv at *
          go_wp2_with fail
          refine (HK.out W2).mono ?_
          rintro e w5 ⟨rfl, rfl⟩
          clear y0 y1 y2 y3 y4 y5 y6
          cases kb
          · have HE : Hid (graphic x a true = ⟨x, -1, 12⟩) := Lib.hid (by rw [HU.out, HQ.out, if_neg (fun h => by cases h.1)])
            have ⟨y0, y1, y2, y3, y4, y5, y6⟩ := HB2.out.cells
            have ⟨r0, r1, r2, r3, r4, r5, r6⟩ := HS2.out.cells
            have ⟨z0, z1, z2, z3, z4, z5, z6⟩ := HS2.out.thaw
            simp only [zeroSt] at r0 r1 r2 r3 r4 r5 r6
            have hl : w.heap.size + 1 < W2.heap.size := HS2.out.lt
            go_wp2
            exact st_ret3 (y := x) rfl rfl rfl rfl (HS2.out.put x) Tryz.underlying39 rfl (by kernel_rfl) rfl ⟨by rw [HE.out], below_putSt B2.out (Nat.le_succ _) x⟩
          · go_wp2_with fail
            refine (HN.out W2).mono ?_
            rintro e W6 ⟨rfl, b6⟩
            have B6 : Hid (Below w.heap.size w W6) := Lib.hid (B2.out.trans (b6.mono B2.out.size))
            have HB6 := Lib.hid (HB2.out.keep b6)
            have HS6 := Lib.hid (HS2.out.keep b6)
            clear b6
            by_cases hr : rv < 0
            · have HE : Hid (graphic x a true = ⟨x, -1, 12⟩) := Lib.hid (by rw [HU.out, HQ.out, if_neg (fun h => by omega)])
              have ⟨y0, y1, y2, y3, y4, y5, y6⟩ := HB6.out.cells
              have ⟨r0, r1, r2, r3, r4, r5, r6⟩ := HS6.out.cells
              have ⟨z0, z1, z2, z3, z4, z5, z6⟩ := HS6.out.thaw
              simp only [zeroSt] at r0 r1 r2 r3 r4 r5 r6
              have hl : w.heap.size + 1 < W6.heap.size := HS6.out.lt
              go_wp2
              exact st_ret3 (y := x) rfl rfl rfl rfl (HS6.out.put x) Tryz.underlying39 rfl (by kernel_rfl) rfl ⟨by rw [HE.out], below_putSt B6.out (Nat.le_succ _) x⟩
            · have HE : Hid (graphic x a true = ⟨⟨x.g0, x.g1, x.g2, x.g3, x.l, 0, 0⟩, rv, 0⟩) := Lib.hid (by rw [HU.out, HQ.out, if_pos ⟨by trivial, by omega⟩])
              have ⟨y0, y1, y2, y3, y4, y5, y6⟩ := HB6.out.cells
              have ⟨q0, q1, q2, q3, q4, q5, q6⟩ := HB6.out.thaw
              have hl6 : w.heap.size < W6.heap.size := HB6.out.lt
              go_wp2
              have HB7 : Hid (StAt ((W6.setCell ⟨w.heap.size, 5, none⟩ (.int .i64 0)).setCell ⟨w.heap.size, 6, none⟩ (.int .i64 0)) w.heap.size ⟨x.g0, x.g1, x.g2, x.g3, x.l, 0, 0⟩) := Lib.hid (heap_setCell_same _ _ 6 _ _ (.int .i64 0) (heap_setCell_same _ _ 5 _ _ (.int .i64 0) HB6.out))
              have HS7 : Hid (StAt ((W6.setCell ⟨w.heap.size, 5, none⟩ (.int .i64 0)).setCell ⟨w.heap.size, 6, none⟩ (.int .i64 0)) (w.heap.size + 1) zeroSt) := Lib.hid (by
                unfold StAt
                rw [Below.heap_setCell _ _ _ _ (by simp), Below.heap_setCell _ _ _ _ (by simp)]
                exact HS6.out)
              have B7 : Hid (Below w.heap.size w ((W6.setCell ⟨w.heap.size, 5, none⟩ (.int .i64 0)).setCell ⟨w.heap.size, 6, none⟩ (.int .i64 0))) := Lib.hid ((B6.out.setCell (Nat.le_refl _) _).setCell (Nat.le_refl _) _)
              clear y0 y1 y2 y3 y4 y5 y6 q0 q1 q2 q3 q4 q5 q6 hl6
              generalize (W6.setCell ⟨w.heap.size, 5, none⟩ (.int .i64 0)).setCell ⟨w.heap.size, 6, none⟩ (.int .i64 0) = W7 at *
              have ⟨y0, y1, y2, y3, y4, y5, y6⟩ := HB7.out.cells
              dsimp only at y0 y1 y2 y3 y4 y5 y6
              go_region_with ((go_at_call 182; refine (HN.out _).mono ?_; rintro e W8 ⟨rfl, b8⟩; have b78 : Below W7.heap.size W7 W8 := bel_drew b8; have ⟨p0, p1, p2, p3, p4, p5, p6⟩ := (HB7.out.keep b78).cells; have HS8 := Lib.hid (HS7.out.keep b78); have B8 : Hid (Below w.heap.size w W8) := Lib.hid (B7.out.trans (b78.mono B7.out.size)); have ⟨r0, r1, r2, r3, r4, r5, r6⟩ := HS8.out.cells; have ⟨z0, z1, z2, z3, z4, z5, z6⟩ := HS8.out.thaw; simp only [zeroSt] at r0 r1 r2 r3 r4 r5 r6; dsimp only at p0 p1 p2 p3 p4 p5 p6; have hl : w.heap.size + 1 < W8.heap.size := HS8.out.lt; clear b8 b78))
              all_goals
                go_wp2
                exact st_ret3 (y := ⟨x.g0, x.g1, x.g2, x.g3, x.l, 0, 0⟩) rfl rfl rfl rfl (HS8.out.put ⟨x.g0, x.g1, x.g2, x.g3, x.l, 0, 0⟩) Tryz.underlying39 rfl (by kernel_rfl) rfl ⟨by rw [HE.out], below_putSt B8.out (Nat.le_succ _) ⟨x.g0, x.g1, x.g2, x.g3, x.l, 0, 0⟩⟩
      · have v2' : decide (128 < x.d) = false := by cases h : decide (128 < x.d) <;> rw [h] at v2 <;> first | rfl | cases v2
        have HE : Hid (graphic x a true = ⟨x, -1, 13⟩) := Lib.hid (by rw [HG0.out, if_neg hq, if_pos K3.out, if_pos ⟨v0, by rw [v2']; decide⟩])
        clear v2
        have ⟨y0, y1, y2, y3, y4, y5, y6⟩ := HB2.out.cells
        have ⟨r0, r1, r2, r3, r4, r5, r6⟩ := HS2.out.cells
        have ⟨z0, z1, z2, z3, z4, z5, z6⟩ := HS2.out.thaw
        simp only [zeroSt] at r0 r1 r2 r3 r4 r5 r6
        have hl : w.heap.size + 1 < W2.heap.size := HS2.out.lt
        go_wp2
        exact st_ret3 (y := x) rfl rfl rfl rfl (HS2.out.put x) Tryz.underlying39 rfl (by kernel_rfl) rfl ⟨by rw [HE.out], below_putSt B2.out (Nat.le_succ _) x⟩
  · have ek : (setKind q == 3) = false := by rw [beq_eq_false_iff_ne]; exact hk3
    have hA0 : 0 ≤ a := ha0
    have hA1 : a ≤ 9223372036854775807 := by omega
    generalize hkd : setKind q = kd at *
    have HKD := Lib.hid hkd
    clear hkd
    have HU : Hid (graphic x a r = gLast x q (a)) := Lib.hid (by rw [HG0.out, if_neg hq, if_neg hk3])
    have HK := Lib.hid (fun w => spec_l02Code kd (a) w hA0 hA1)
    have HN := Lib.hid (fun w => spec_l02Rune q (a) w)
    have HQ : Hid (gLast x q (a) = if kindB (kd) (a) = true ∧ 0 ≤ runeS (setSpans q) (a) then ⟨⟨x.g0, x.g1, x.g2, x.g3, x.l, 0, 0⟩, runeS (setSpans q) (a), 0⟩ else ⟨x, -1, 12⟩) := Lib.hid (by rw [gLast, HKD.out])
    clear hA0 hA1
    generalize kindB (kd) (a) = kb at *
    generalize runeS (setSpans q) (a) = rv at *
    go_wp2_with fail
    refine (HK.out W2).mono ?_
    rintro e w5 ⟨rfl, rfl⟩
    cases kb
    · have HE : Hid (graphic x a r = ⟨x, -1, 12⟩) := Lib.hid (by rw [HU.out, HQ.out, if_neg (fun h => by cases h.1)])
      have ⟨y0, y1, y2, y3, y4, y5, y6⟩ := HB2.out.cells
      have ⟨r0, r1, r2, r3, r4, r5, r6⟩ := HS2.out.cells
      have ⟨z0, z1, z2, z3, z4, z5, z6⟩ := HS2.out.thaw
      simp only [zeroSt] at r0 r1 r2 r3 r4 r5 r6
      have hl : w.heap.size + 1 < W2.heap.size := HS2.out.lt
      go_wp2
      exact st_ret3 (y := x) rfl rfl rfl rfl (HS2.out.put x) Tryz.underlying39 rfl (by kernel_rfl) rfl ⟨by rw [HE.out], below_putSt B2.out (Nat.le_succ _) x⟩
    · go_wp2_with fail
      refine (HN.out W2).mono ?_
      rintro e W6 ⟨rfl, b6⟩
      have B6 : Hid (Below w.heap.size w W6) := Lib.hid (B2.out.trans (b6.mono B2.out.size))
      have HB6 := Lib.hid (HB2.out.keep b6)
      have HS6 := Lib.hid (HS2.out.keep b6)
      clear b6
      by_cases hr : rv < 0
      · have HE : Hid (graphic x a r = ⟨x, -1, 12⟩) := Lib.hid (by rw [HU.out, HQ.out, if_neg (fun h => by omega)])
        have ⟨y0, y1, y2, y3, y4, y5, y6⟩ := HB6.out.cells
        have ⟨r0, r1, r2, r3, r4, r5, r6⟩ := HS6.out.cells
        have ⟨z0, z1, z2, z3, z4, z5, z6⟩ := HS6.out.thaw
        simp only [zeroSt] at r0 r1 r2 r3 r4 r5 r6
        have hl : w.heap.size + 1 < W6.heap.size := HS6.out.lt
        go_wp2
        exact st_ret3 (y := x) rfl rfl rfl rfl (HS6.out.put x) Tryz.underlying39 rfl (by kernel_rfl) rfl ⟨by rw [HE.out], below_putSt B6.out (Nat.le_succ _) x⟩
      · have HE : Hid (graphic x a r = ⟨⟨x.g0, x.g1, x.g2, x.g3, x.l, 0, 0⟩, rv, 0⟩) := Lib.hid (by rw [HU.out, HQ.out, if_pos ⟨by trivial, by omega⟩])
        have ⟨y0, y1, y2, y3, y4, y5, y6⟩ := HB6.out.cells
        have ⟨q0, q1, q2, q3, q4, q5, q6⟩ := HB6.out.thaw
        have hl6 : w.heap.size < W6.heap.size := HB6.out.lt
        go_wp2
        have HB7 : Hid (StAt ((W6.setCell ⟨w.heap.size, 5, none⟩ (.int .i64 0)).setCell ⟨w.heap.size, 6, none⟩ (.int .i64 0)) w.heap.size ⟨x.g0, x.g1, x.g2, x.g3, x.l, 0, 0⟩) := Lib.hid (heap_setCell_same _ _ 6 _ _ (.int .i64 0) (heap_setCell_same _ _ 5 _ _ (.int .i64 0) HB6.out))
        have HS7 : Hid (StAt ((W6.setCell ⟨w.heap.size, 5, none⟩ (.int .i64 0)).setCell ⟨w.heap.size, 6, none⟩ (.int .i64 0)) (w.heap.size + 1) zeroSt) := Lib.hid (by
          unfold StAt
          rw [Below.heap_setCell _ _ _ _ (by simp), Below.heap_setCell _ _ _ _ (by simp)]
          exact HS6.out)
        have B7 : Hid (Below w.heap.size w ((W6.setCell ⟨w.heap.size, 5, none⟩ (.int .i64 0)).setCell ⟨w.heap.size, 6, none⟩ (.int .i64 0))) := Lib.hid ((B6.out.setCell (Nat.le_refl _) _).setCell (Nat.le_refl _) _)
        clear y0 y1 y2 y3 y4 y5 y6 q0 q1 q2 q3 q4 q5 q6 hl6
        generalize (W6.setCell ⟨w.heap.size, 5, none⟩ (.int .i64 0)).setCell ⟨w.heap.size, 6, none⟩ (.int .i64 0) = W7 at *
        have ⟨y0, y1, y2, y3, y4, y5, y6⟩ := HB7.out.cells
        dsimp only at y0 y1 y2 y3 y4 y5 y6
        go_region_with ((go_at_call 182; refine (HN.out _).mono ?_; rintro e W8 ⟨rfl, b8⟩; have b78 : Below W7.heap.size W7 W8 := bel_drew b8; have ⟨p0, p1, p2, p3, p4, p5, p6⟩ := (HB7.out.keep b78).cells; have HS8 := Lib.hid (HS7.out.keep b78); have B8 : Hid (Below w.heap.size w W8) := Lib.hid (B7.out.trans (b78.mono B7.out.size)); have ⟨r0, r1, r2, r3, r4, r5, r6⟩ := HS8.out.cells; have ⟨z0, z1, z2, z3, z4, z5, z6⟩ := HS8.out.thaw; simp only [zeroSt] at r0 r1 r2 r3 r4 r5 r6; dsimp only at p0 p1 p2 p3 p4 p5 p6; have hl : w.heap.size + 1 < W8.heap.size := HS8.out.lt; clear b8 b78))
        all_goals
          go_wp2
          exact st_ret3 (y := ⟨x.g0, x.g1, x.g2, x.g3, x.l, 0, 0⟩) rfl rfl rfl rfl (HS8.out.put ⟨x.g0, x.g1, x.g2, x.g3, x.l, 0, 0⟩) Tryz.underlying39 rfl (by kernel_rfl) rfl ⟨by rw [HE.out], below_putSt B8.out (Nat.le_succ _) ⟨x.g0, x.g1, x.g2, x.g3, x.l, 0, 0⟩⟩

end Go.Proofs.YtbamjhldebobhaaGreatDoor

namespace Go.Proofs.YtbamjhldebobhaaGreatDoor
open Go.RowKit Go.Sort

theorem StAt.drew {w : World} {g : Nat} {x : St} (h : StAt w g x) : StAt w.drew g x := h

theorem step_blocks (w : World) (x : St) (t : Tok) : StAt (((w.alloc (.cells #[.int .i64 x.g0, .int .i64 x.g1, .int .i64 x.g2, .int .i64 x.g3, .int .i64 x.l, .int .i64 x.s, .int .i64 x.d] 39)).alloc (.cells #[.int .i64 t.k, .int .i64 t.a, .int .i64 t.b, .int .i64 t.c, .int .i64 t.p, .int .i64 t.n] 102)).alloc (.cells #[.int .i64 0, .int .i64 0, .int .i64 0, .int .i64 0, .int .i64 0, .int .i64 0, .int .i64 0] 39)) w.heap.size x ∧ TokAt (((w.alloc (.cells #[.int .i64 x.g0, .int .i64 x.g1, .int .i64 x.g2, .int .i64 x.g3, .int .i64 x.l, .int .i64 x.s, .int .i64 x.d] 39)).alloc (.cells #[.int .i64 t.k, .int .i64 t.a, .int .i64 t.b, .int .i64 t.c, .int .i64 t.p, .int .i64 t.n] 102)).alloc (.cells #[.int .i64 0, .int .i64 0, .int .i64 0, .int .i64 0, .int .i64 0, .int .i64 0, .int .i64 0] 39)) (w.heap.size + 1) t ∧ StAt (((w.alloc (.cells #[.int .i64 x.g0, .int .i64 x.g1, .int .i64 x.g2, .int .i64 x.g3, .int .i64 x.l, .int .i64 x.s, .int .i64 x.d] 39)).alloc (.cells #[.int .i64 t.k, .int .i64 t.a, .int .i64 t.b, .int .i64 t.c, .int .i64 t.p, .int .i64 t.n] 102)).alloc (.cells #[.int .i64 0, .int .i64 0, .int .i64 0, .int .i64 0, .int .i64 0, .int .i64 0, .int .i64 0] 39)) (w.heap.size + 2) zeroSt ∧ Below w.heap.size w (((w.alloc (.cells #[.int .i64 x.g0, .int .i64 x.g1, .int .i64 x.g2, .int .i64 x.g3, .int .i64 x.l, .int .i64 x.s, .int .i64 x.d] 39)).alloc (.cells #[.int .i64 t.k, .int .i64 t.a, .int .i64 t.b, .int .i64 t.c, .int .i64 t.p, .int .i64 t.n] 102)).alloc (.cells #[.int .i64 0, .int .i64 0, .int .i64 0, .int .i64 0, .int .i64 0, .int .i64 0, .int .i64 0] 39)) := by
  refine ⟨?_, ?_, ?_, below_three _ _ _ _⟩
  · exact ((below_one _ _).block _ (by simp; omega)).trans (heap_alloc2_old _ _ _)
  · exact ((below_one _ _).block _ (by simp)).trans (heap_alloc2_new _ _ _)
  · have := heap_alloc_new ((w.alloc (.cells #[.int .i64 x.g0, .int .i64 x.g1, .int .i64 x.g2, .int .i64 x.g3, .int .i64 x.l, .int .i64 x.s, .int .i64 x.d] 39)).alloc (.cells #[.int .i64 t.k, .int .i64 t.a, .int .i64 t.b, .int .i64 t.c, .int .i64 t.p, .int .i64 t.n] 102)) (.cells #[.int .i64 0, .int .i64 0, .int .i64 0, .int .i64 0, .int .i64 0, .int .i64 0, .int .i64 0] 39)
    simpa [StAt, zeroSt] using this

set_option maxHeartbeats 1000000 in
set_option maxRecDepth 100000 in
theorem spec_step3 (x : St) (a b c p n : Int) (w : World) (hx : stOKB x = true) (a0 : 0 ≤ a) (a1 : a ≤ 255) : Calls Tryz.prog 113 #[stV x, tokV ⟨3, a, b, c, p, n⟩] w (StpDone (stepT x ⟨3, a, b, c, p, n⟩) w) := by
  have ⟨h1, h2, h3⟩ := stOK_parts hx
  have ⟨d0, d1⟩ := lead_range h3
  have HG := Lib.hid (fun w => spec_l04Graphic x a false w h2 d0 d1 a0 a1)
  have HE : Hid (stepT x ⟨3, a, b, c, p, n⟩ = graphic x a false) := Lib.hid rfl
  clear hx h1 h2 h3 d0 d1 a0 a1
  generalize graphic x a false = g at *
  unfold StpDone stpV at HG
  unfold stV at HG ⊢
  have ⟨hB0, hT0, hS0, b0⟩ := step_blocks w x ⟨3, a, b, c, p, n⟩
  dsimp only at hB0 hT0 hS0 b0
  have HB0 := Lib.hid hB0
  have HT0 := Lib.hid hT0
  have HS0 := Lib.hid hS0
  have B0 := Lib.hid b0
  clear hB0 hT0 hS0 b0
  unfold tokV
  go_enter Tryz.func113, Tryz.ntmps113
  go_wp2_with fail
  refine (HG.out _).mono ?_
  generalize (((w.alloc (.cells #[.int .i64 x.g0, .int .i64 x.g1, .int .i64 x.g2, .int .i64 x.g3, .int .i64 x.l, .int .i64 x.s, .int .i64 x.d] 39)).alloc (.cells #[.int .i64 3, .int .i64 a, .int .i64 b, .int .i64 c, .int .i64 p, .int .i64 n] 102)).alloc (.cells #[.int .i64 0, .int .i64 0, .int .i64 0, .int .i64 0, .int .i64 0, .int .i64 0, .int .i64 0] 39)) = W0 at *
  rintro e W1 ⟨rfl, b1⟩
  have B1 : Hid (Below w.heap.size w W1) := Lib.hid (B0.out.trans (b1.mono B0.out.size))
  have HB1 := Lib.hid (HB0.out.keep b1)
  have HT1 := Lib.hid (HT0.out.keep b1)
  have HS1 := Lib.hid (HS0.out.keep b1)
  clear b1 HB0 HT0 HS0 B0
  have ⟨r0, r1, r2, r3, r4, r5, r6⟩ := HS1.out.cells
  have ⟨z0, z1, z2, z3, z4, z5, z6⟩ := HS1.out.thaw
  simp only [zeroSt] at r0 r1 r2 r3 r4 r5 r6
  have hl : w.heap.size + 2 < W1.heap.size := HS1.out.lt
  go_wp2
  exact st_ret3 (y := g.y) rfl rfl rfl rfl (HS1.out.put g.y) Tryz.underlying39 rfl (by kernel_rfl) rfl ⟨by rw [HE.out], below_putSt B1.out (by omega) g.y⟩

set_option maxHeartbeats 1000000 in
set_option maxRecDepth 100000 in
theorem spec_step4 (x : St) (a b c p n : Int) (w : World) (hx : stOKB x = true) (a0 : 0 ≤ a) (a1 : a ≤ 255) : Calls Tryz.prog 113 #[stV x, tokV ⟨4, a, b, c, p, n⟩] w (StpDone (stepT x ⟨4, a, b, c, p, n⟩) w) := by
  have ⟨h1, h2, h3⟩ := stOK_parts hx
  have ⟨d0, d1⟩ := lead_range h3
  have HG := Lib.hid (fun w => spec_l04Graphic x a true w h2 d0 d1 a0 a1)
  have HE : Hid (stepT x ⟨4, a, b, c, p, n⟩ = graphic x a true) := Lib.hid rfl
  clear hx h1 h2 h3 d0 d1 a0 a1
  generalize graphic x a true = g at *
  unfold StpDone stpV at HG
  unfold stV at HG ⊢
  have ⟨hB0, hT0, hS0, b0⟩ := step_blocks w x ⟨4, a, b, c, p, n⟩
  dsimp only at hB0 hT0 hS0 b0
  have HB0 := Lib.hid hB0
  have HT0 := Lib.hid hT0
  have HS0 := Lib.hid hS0
  have B0 := Lib.hid b0
  clear hB0 hT0 hS0 b0
  unfold tokV
  go_enter Tryz.func113, Tryz.ntmps113
  go_wp2_with fail
  refine (HG.out _).mono ?_
  generalize (((w.alloc (.cells #[.int .i64 x.g0, .int .i64 x.g1, .int .i64 x.g2, .int .i64 x.g3, .int .i64 x.l, .int .i64 x.s, .int .i64 x.d] 39)).alloc (.cells #[.int .i64 4, .int .i64 a, .int .i64 b, .int .i64 c, .int .i64 p, .int .i64 n] 102)).alloc (.cells #[.int .i64 0, .int .i64 0, .int .i64 0, .int .i64 0, .int .i64 0, .int .i64 0, .int .i64 0] 39)) = W0 at *
  rintro e W1 ⟨rfl, b1⟩
  have B1 : Hid (Below w.heap.size w W1) := Lib.hid (B0.out.trans (b1.mono B0.out.size))
  have HB1 := Lib.hid (HB0.out.keep b1)
  have HT1 := Lib.hid (HT0.out.keep b1)
  have HS1 := Lib.hid (HS0.out.keep b1)
  clear b1 HB0 HT0 HS0 B0
  have ⟨r0, r1, r2, r3, r4, r5, r6⟩ := HS1.out.cells
  have ⟨z0, z1, z2, z3, z4, z5, z6⟩ := HS1.out.thaw
  simp only [zeroSt] at r0 r1 r2 r3 r4 r5 r6
  have hl : w.heap.size + 2 < W1.heap.size := HS1.out.lt
  go_wp2
  exact st_ret3 (y := g.y) rfl rfl rfl rfl (HS1.out.put g.y) Tryz.underlying39 rfl (by kernel_rfl) rfl ⟨by rw [HE.out], below_putSt B1.out (by omega) g.y⟩

set_option maxHeartbeats 1000000 in
set_option maxRecDepth 100000 in
theorem spec_stepP (x : St) (k a b c p n : Int) (w : World) (hp : pendB x = true) (h2 : k ≠ 2) (h3 : k ≠ 3) (h4 : k ≠ 4) : Calls Tryz.prog 113 #[stV x, tokV ⟨k, a, b, c, p, n⟩] w (StpDone (stepT x ⟨k, a, b, c, p, n⟩) w) := by
  have HE : Hid (stepT x ⟨k, a, b, c, p, n⟩ = ⟨x, -1, 13⟩) := Lib.hid (by rw [stepT, if_neg h3, if_neg h4, if_pos hp, if_neg (fun h => h2 h.1)])
  have HP := Lib.hid (fun w => spec_l04Pending x w)
  rw [hp] at HP
  have e2 : (k == 2) = false := by rw [beq_eq_false_iff_ne]; exact h2
  have e3 : (k == 3) = false := by rw [beq_eq_false_iff_ne]; exact h3
  have e4 : (k == 4) = false := by rw [beq_eq_false_iff_ne]; exact h4
  clear hp h2 h3 h4
  unfold stV at HP ⊢
  have ⟨hB0, hT0, hS0, b0⟩ := step_blocks w x ⟨k, a, b, c, p, n⟩
  dsimp only at hB0 hT0 hS0 b0
  have HB0 := Lib.hid hB0
  have HT0 := Lib.hid hT0
  have HS0 := Lib.hid hS0
  have B0 := Lib.hid b0
  clear hB0 hT0 hS0 b0
  unfold tokV
  go_enter Tryz.func113, Tryz.ntmps113
  go_wp2_with fail
  refine (HP.out _).mono ?_
  generalize (((w.alloc (.cells #[.int .i64 x.g0, .int .i64 x.g1, .int .i64 x.g2, .int .i64 x.g3, .int .i64 x.l, .int .i64 x.s, .int .i64 x.d] 39)).alloc (.cells #[.int .i64 k, .int .i64 a, .int .i64 b, .int .i64 c, .int .i64 p, .int .i64 n] 102)).alloc (.cells #[.int .i64 0, .int .i64 0, .int .i64 0, .int .i64 0, .int .i64 0, .int .i64 0, .int .i64 0] 39)) = W0 at *
  rintro e W1 ⟨rfl, b1⟩
  have B1 : Hid (Below w.heap.size w W1) := Lib.hid (B0.out.trans (b1.mono B0.out.size))
  have HB1 := Lib.hid (HB0.out.keep b1)
  have HT1 := Lib.hid (HT0.out.keep b1)
  have HS1 := Lib.hid (HS0.out.keep b1)
  clear b1 HB0 HT0 HS0 B0
  have ⟨y0, y1, y2, y3, y4, y5, y6⟩ := HB1.out.cells
  have ⟨t0, t1, t2, t3, t4, t5⟩ := HT1.out.cells
  dsimp only at t0 t1 t2 t3 t4 t5
  have ⟨r0, r1, r2, r3, r4, r5, r6⟩ := HS1.out.cells
  have ⟨z0, z1, z2, z3, z4, z5, z6⟩ := HS1.out.thaw
  simp only [zeroSt] at r0 r1 r2 r3 r4 r5 r6
  have hl : w.heap.size + 2 < W1.heap.size := HS1.out.lt
  go_wp2
  exact st_ret3 (y := x) rfl rfl rfl rfl (HS1.out.put x) Tryz.underlying39 rfl (by kernel_rfl) rfl ⟨by rw [HE.out], below_putSt B1.out (by omega) x⟩

set_option maxHeartbeats 1000000 in
set_option maxRecDepth 100000 in
theorem spec_stepP2 (x : St) (a b c p n : Int) (w : World) (hx : stOKB x = true) (hp : pendB x = true) : Calls Tryz.prog 113 #[stV x, tokV ⟨2, a, b, c, p, n⟩] w (StpDone (stepT x ⟨2, a, b, c, p, n⟩) w) := by
  have ⟨h1, h2, h3⟩ := stOK_parts hx
  have ⟨d0, d1⟩ := lead_range h3
  have HP := Lib.hid (fun w => spec_l04Pending x w)
  rw [hp] at HP
  have HG := Lib.hid (fun w => spec_l04Graphic x 32 false w h2 d0 d1 (by decide) (by decide))
  by_cases hd : x.d = 0
  · have hs : x.s = 2 ∨ x.s = 3 := by
      have := (head_parts h2).2
      have hp' : 0 < x.s ∨ 0 < x.d := by simpa [pendB] using hp
      omega
    have HW := Lib.hid (fun w => spec_l04Wide x x.s w (by omega) (by omega))
    have ed : (x.d == 0) = true := by simpa using hd
    cases hw : wideB x x.s
    · have HE : Hid (stepT x ⟨2, a, b, c, p, n⟩ = ⟨x, -1, 13⟩) := Lib.hid (by rw [stepT, if_neg (by simp), if_neg (by simp), if_pos hp, if_neg (fun h => by rw [hw] at h; exact absurd h.2.2 (by decide))])
      rw [hw] at HW
      clear hx hp h1 h2 h3 d0 d1 hs HG hd hw
      unfold stV at HP HW ⊢
      have ⟨hB0, hT0, hS0, b0⟩ := step_blocks w x ⟨2, a, b, c, p, n⟩
      dsimp only at hB0 hT0 hS0 b0
      have HB0 := Lib.hid hB0
      have HT0 := Lib.hid hT0
      have HS0 := Lib.hid hS0
      have B0 := Lib.hid b0
      clear hB0 hT0 hS0 b0
      unfold tokV
      go_enter Tryz.func113, Tryz.ntmps113
      go_wp2_with fail
      refine (HP.out _).mono ?_
      generalize (((w.alloc (.cells #[.int .i64 x.g0, .int .i64 x.g1, .int .i64 x.g2, .int .i64 x.g3, .int .i64 x.l, .int .i64 x.s, .int .i64 x.d] 39)).alloc (.cells #[.int .i64 2, .int .i64 a, .int .i64 b, .int .i64 c, .int .i64 p, .int .i64 n] 102)).alloc (.cells #[.int .i64 0, .int .i64 0, .int .i64 0, .int .i64 0, .int .i64 0, .int .i64 0, .int .i64 0] 39)) = W0 at *
      rintro e W1 ⟨rfl, b1⟩
      have B1 : Hid (Below w.heap.size w W1) := Lib.hid (B0.out.trans (b1.mono B0.out.size))
      have HB1 := Lib.hid (HB0.out.keep b1)
      have HT1 := Lib.hid (HT0.out.keep b1)
      have HS1 := Lib.hid (HS0.out.keep b1)
      clear b1 HB0 HT0 HS0 B0
      have ⟨y0, y1, y2, y3, y4, y5, y6⟩ := HB1.out.cells
      have ⟨t0, t1, t2, t3, t4, t5⟩ := HT1.out.cells
      dsimp only at t0 t1 t2 t3 t4 t5
      go_wp2_with fail
      refine (HW.out _).mono ?_
      clear y0 y1 y2 y3 y4 y5 y6 t0 t1 t2 t3 t4 t5
      rintro e W2 ⟨rfl, b2⟩
      have B2 : Hid (Below w.heap.size w W2) := Lib.hid (B1.out.trans (b2.mono B1.out.size))
      have HB2 := Lib.hid (HB1.out.keep b2)
      have HT2 := Lib.hid (HT1.out.keep b2)
      have HS2 := Lib.hid (HS1.out.keep b2)
      clear b2 HB1 HT1 HS1 B1
      have ⟨y0, y1, y2, y3, y4, y5, y6⟩ := HB2.out.cells
      have ⟨t0, t1, t2, t3, t4, t5⟩ := HT2.out.cells
      dsimp only at t0 t1 t2 t3 t4 t5
      have ⟨r0, r1, r2, r3, r4, r5, r6⟩ := HS2.out.cells
      have ⟨z0, z1, z2, z3, z4, z5, z6⟩ := HS2.out.thaw
      simp only [zeroSt] at r0 r1 r2 r3 r4 r5 r6
      have hl : w.heap.size + 2 < W2.heap.size := HS2.out.lt
      go_wp2
      exact st_ret3 (y := x) rfl rfl rfl rfl (HS2.out.put x) Tryz.underlying39 rfl (by kernel_rfl) rfl ⟨by rw [HE.out], below_putSt B2.out (by omega) x⟩
    · have HE : Hid (stepT x ⟨2, a, b, c, p, n⟩ = graphic x 32 false) := Lib.hid (by rw [stepT, if_neg (by simp), if_neg (by simp), if_pos hp, if_pos ⟨rfl, hd, hw⟩])
      rw [hw] at HW
      clear hx hp h1 h2 h3 d0 d1 hs hd hw
      generalize graphic x 32 false = g at *
      unfold StpDone stpV at HG
      unfold stV at HP HW HG ⊢
      have ⟨hB0, hT0, hS0, b0⟩ := step_blocks w x ⟨2, a, b, c, p, n⟩
      dsimp only at hB0 hT0 hS0 b0
      have HB0 := Lib.hid hB0
      have HT0 := Lib.hid hT0
      have HS0 := Lib.hid hS0
      have B0 := Lib.hid b0
      clear hB0 hT0 hS0 b0
      unfold tokV
      go_enter Tryz.func113, Tryz.ntmps113
      go_wp2_with fail
      refine (HP.out _).mono ?_
      generalize (((w.alloc (.cells #[.int .i64 x.g0, .int .i64 x.g1, .int .i64 x.g2, .int .i64 x.g3, .int .i64 x.l, .int .i64 x.s, .int .i64 x.d] 39)).alloc (.cells #[.int .i64 2, .int .i64 a, .int .i64 b, .int .i64 c, .int .i64 p, .int .i64 n] 102)).alloc (.cells #[.int .i64 0, .int .i64 0, .int .i64 0, .int .i64 0, .int .i64 0, .int .i64 0, .int .i64 0] 39)) = W0 at *
      rintro e W1 ⟨rfl, b1⟩
      have B1 : Hid (Below w.heap.size w W1) := Lib.hid (B0.out.trans (b1.mono B0.out.size))
      have HB1 := Lib.hid (HB0.out.keep b1)
      have HT1 := Lib.hid (HT0.out.keep b1)
      have HS1 := Lib.hid (HS0.out.keep b1)
      clear b1 HB0 HT0 HS0 B0
      have ⟨y0, y1, y2, y3, y4, y5, y6⟩ := HB1.out.cells
      have ⟨t0, t1, t2, t3, t4, t5⟩ := HT1.out.cells
      dsimp only at t0 t1 t2 t3 t4 t5
      go_wp2_with fail
      refine (HW.out _).mono ?_
      clear y0 y1 y2 y3 y4 y5 y6 t0 t1 t2 t3 t4 t5
      rintro e W2 ⟨rfl, b2⟩
      have B2 : Hid (Below w.heap.size w W2) := Lib.hid (B1.out.trans (b2.mono B1.out.size))
      have HB2 := Lib.hid (HB1.out.keep b2)
      have HT2 := Lib.hid (HT1.out.keep b2)
      have HS2 := Lib.hid (HS1.out.keep b2)
      clear b2 HB1 HT1 HS1 B1
      have ⟨y0, y1, y2, y3, y4, y5, y6⟩ := HB2.out.cells
      have ⟨t0, t1, t2, t3, t4, t5⟩ := HT2.out.cells
      dsimp only at t0 t1 t2 t3 t4 t5
      go_wp2_with fail
      refine (HG.out _).mono ?_
      clear y0 y1 y2 y3 y4 y5 y6 t0 t1 t2 t3 t4 t5
      rintro e W3 ⟨rfl, b3⟩
      have B3 : Hid (Below w.heap.size w W3) := Lib.hid (B2.out.trans (b3.mono B2.out.size))
      have HB3 := Lib.hid (HB2.out.keep b3)
      have HT3 := Lib.hid (HT2.out.keep b3)
      have HS3 := Lib.hid (HS2.out.keep b3)
      clear b3 HB2 HT2 HS2 B2
      have ⟨r0, r1, r2, r3, r4, r5, r6⟩ := HS3.out.cells
      have ⟨z0, z1, z2, z3, z4, z5, z6⟩ := HS3.out.thaw
      simp only [zeroSt] at r0 r1 r2 r3 r4 r5 r6
      have hl : w.heap.size + 2 < W3.heap.size := HS3.out.lt
      go_wp2
      exact st_ret3 (y := g.y) rfl rfl rfl rfl (HS3.out.put g.y) Tryz.underlying39 rfl (by kernel_rfl) rfl ⟨by rw [HE.out], below_putSt B3.out (by omega) g.y⟩
  · have ed : (x.d == 0) = false := by rw [beq_eq_false_iff_ne]; exact hd
    have HE : Hid (stepT x ⟨2, a, b, c, p, n⟩ = ⟨x, -1, 13⟩) := Lib.hid (by rw [stepT, if_neg (by simp), if_neg (by simp), if_pos hp, if_neg (fun h => hd h.2.1)])
    clear hx hp h1 h2 h3 d0 d1 HG hd
    unfold stV at HP ⊢
    have ⟨hB0, hT0, hS0, b0⟩ := step_blocks w x ⟨2, a, b, c, p, n⟩
    dsimp only at hB0 hT0 hS0 b0
    have HB0 := Lib.hid hB0
    have HT0 := Lib.hid hT0
    have HS0 := Lib.hid hS0
    have B0 := Lib.hid b0
    clear hB0 hT0 hS0 b0
    unfold tokV
    go_enter Tryz.func113, Tryz.ntmps113
    go_wp2_with fail
    refine (HP.out _).mono ?_
    generalize (((w.alloc (.cells #[.int .i64 x.g0, .int .i64 x.g1, .int .i64 x.g2, .int .i64 x.g3, .int .i64 x.l, .int .i64 x.s, .int .i64 x.d] 39)).alloc (.cells #[.int .i64 2, .int .i64 a, .int .i64 b, .int .i64 c, .int .i64 p, .int .i64 n] 102)).alloc (.cells #[.int .i64 0, .int .i64 0, .int .i64 0, .int .i64 0, .int .i64 0, .int .i64 0, .int .i64 0] 39)) = W0 at *
    rintro e W1 ⟨rfl, b1⟩
    have B1 : Hid (Below w.heap.size w W1) := Lib.hid (B0.out.trans (b1.mono B0.out.size))
    have HB1 := Lib.hid (HB0.out.keep b1)
    have HT1 := Lib.hid (HT0.out.keep b1)
    have HS1 := Lib.hid (HS0.out.keep b1)
    clear b1 HB0 HT0 HS0 B0
    have ⟨y0, y1, y2, y3, y4, y5, y6⟩ := HB1.out.cells
    have ⟨t0, t1, t2, t3, t4, t5⟩ := HT1.out.cells
    dsimp only at t0 t1 t2 t3 t4 t5
    have ⟨r0, r1, r2, r3, r4, r5, r6⟩ := HS1.out.cells
    have ⟨z0, z1, z2, z3, z4, z5, z6⟩ := HS1.out.thaw
    simp only [zeroSt] at r0 r1 r2 r3 r4 r5 r6
    have hl : w.heap.size + 2 < W1.heap.size := HS1.out.lt
    go_wp2
    exact st_ret3 (y := x) rfl rfl rfl rfl (HS1.out.put x) Tryz.underlying39 rfl (by kernel_rfl) rfl ⟨by rw [HE.out], below_putSt B1.out (by omega) x⟩

set_option maxHeartbeats 1000000 in
set_option maxRecDepth 100000 in
theorem spec_step1 (x : St) (a b c p n : Int) (w : World) (hp : pendB x = false) : Calls Tryz.prog 113 #[stV x, tokV ⟨1, a, b, c, p, n⟩] w (StpDone (stepT x ⟨1, a, b, c, p, n⟩) w) := by
  have HP := Lib.hid (fun w => spec_l04Pending x w)
  rw [hp] at HP
  by_cases ha : 127 < a
  · have HE : Hid (stepT x ⟨1, a, b, c, p, n⟩ = ⟨x, -1, 10⟩) := Lib.hid (by rw [stepT, if_neg (by simp), if_neg (by simp), if_neg (by rw [hp]; decide), calm, if_pos rfl, if_pos ha])
    clear hp
    unfold stV at HP ⊢
    have ⟨hB0, hT0, hS0, b0⟩ := step_blocks w x ⟨1, a, b, c, p, n⟩
    dsimp only at hB0 hT0 hS0 b0
    have HB0 := Lib.hid hB0
    have HT0 := Lib.hid hT0
    have HS0 := Lib.hid hS0
    have B0 := Lib.hid b0
    clear hB0 hT0 hS0 b0
    unfold tokV
    go_enter Tryz.func113, Tryz.ntmps113
    go_wp2_with fail
    refine (HP.out _).mono ?_
    generalize (((w.alloc (.cells #[.int .i64 x.g0, .int .i64 x.g1, .int .i64 x.g2, .int .i64 x.g3, .int .i64 x.l, .int .i64 x.s, .int .i64 x.d] 39)).alloc (.cells #[.int .i64 1, .int .i64 a, .int .i64 b, .int .i64 c, .int .i64 p, .int .i64 n] 102)).alloc (.cells #[.int .i64 0, .int .i64 0, .int .i64 0, .int .i64 0, .int .i64 0, .int .i64 0, .int .i64 0] 39)) = W0 at *
    rintro e W1 ⟨rfl, b1⟩
    have B1 : Hid (Below w.heap.size w W1) := Lib.hid (B0.out.trans (b1.mono B0.out.size))
    have HB1 := Lib.hid (HB0.out.keep b1)
    have HT1 := Lib.hid (HT0.out.keep b1)
    have HS1 := Lib.hid (HS0.out.keep b1)
    clear b1 HB0 HT0 HS0 B0
    have ⟨y0, y1, y2, y3, y4, y5, y6⟩ := HB1.out.cells
    have ⟨t0, t1, t2, t3, t4, t5⟩ := HT1.out.cells
    dsimp only at t0 t1 t2 t3 t4 t5
    have ⟨r0, r1, r2, r3, r4, r5, r6⟩ := HS1.out.cells
    have ⟨z0, z1, z2, z3, z4, z5, z6⟩ := HS1.out.thaw
    simp only [zeroSt] at r0 r1 r2 r3 r4 r5 r6
    have hl : w.heap.size + 2 < W1.heap.size := HS1.out.lt
    go_wp2
    exact st_ret3 (y := x) rfl rfl rfl rfl (HS1.out.put x) Tryz.underlying39 rfl (by kernel_rfl) rfl ⟨by rw [HE.out], below_putSt B1.out (by omega) x⟩
  · have HE : Hid (stepT x ⟨1, a, b, c, p, n⟩ = ⟨x, a, 0⟩) := Lib.hid (by rw [stepT, if_neg (by simp), if_neg (by simp), if_neg (by rw [hp]; decide), calm, if_pos rfl, if_neg ha])
    clear hp
    unfold stV at HP ⊢
    have ⟨hB0, hT0, hS0, b0⟩ := step_blocks w x ⟨1, a, b, c, p, n⟩
    dsimp only at hB0 hT0 hS0 b0
    have HB0 := Lib.hid hB0
    have HT0 := Lib.hid hT0
    have HS0 := Lib.hid hS0
    have B0 := Lib.hid b0
    clear hB0 hT0 hS0 b0
    unfold tokV
    go_enter Tryz.func113, Tryz.ntmps113
    go_wp2_with fail
    refine (HP.out _).mono ?_
    generalize (((w.alloc (.cells #[.int .i64 x.g0, .int .i64 x.g1, .int .i64 x.g2, .int .i64 x.g3, .int .i64 x.l, .int .i64 x.s, .int .i64 x.d] 39)).alloc (.cells #[.int .i64 1, .int .i64 a, .int .i64 b, .int .i64 c, .int .i64 p, .int .i64 n] 102)).alloc (.cells #[.int .i64 0, .int .i64 0, .int .i64 0, .int .i64 0, .int .i64 0, .int .i64 0, .int .i64 0] 39)) = W0 at *
    rintro e W1 ⟨rfl, b1⟩
    have B1 : Hid (Below w.heap.size w W1) := Lib.hid (B0.out.trans (b1.mono B0.out.size))
    have HB1 := Lib.hid (HB0.out.keep b1)
    have HT1 := Lib.hid (HT0.out.keep b1)
    have HS1 := Lib.hid (HS0.out.keep b1)
    clear b1 HB0 HT0 HS0 B0
    have ⟨y0, y1, y2, y3, y4, y5, y6⟩ := HB1.out.cells
    have ⟨t0, t1, t2, t3, t4, t5⟩ := HT1.out.cells
    dsimp only at t0 t1 t2 t3 t4 t5
    have ⟨r0, r1, r2, r3, r4, r5, r6⟩ := HS1.out.cells
    have ⟨z0, z1, z2, z3, z4, z5, z6⟩ := HS1.out.thaw
    simp only [zeroSt] at r0 r1 r2 r3 r4 r5 r6
    have hl : w.heap.size + 2 < W1.heap.size := HS1.out.lt
    go_wp2
    go_region
    all_goals go_wp2
    all_goals exact st_ret3 (y := x) rfl rfl rfl rfl (HS1.out.put x).drew Tryz.underlying39 rfl (by kernel_rfl) rfl ⟨by rw [HE.out], below_drewN (below_putSt B1.out (by omega) x) 1⟩

set_option maxHeartbeats 1000000 in
set_option maxRecDepth 100000 in
theorem spec_step2 (x : St) (a b c p n : Int) (w : World) (hx : stOKB x = true) (hp : pendB x = false) : Calls Tryz.prog 113 #[stV x, tokV ⟨2, a, b, c, p, n⟩] w (StpDone (stepT x ⟨2, a, b, c, p, n⟩) w) := by
  have ⟨h1, h2, h3⟩ := stOK_parts hx
  have ⟨d0, d1⟩ := lead_range h3
  have hl := (head_parts h2).1
  have HP := Lib.hid (fun w => spec_l04Pending x w)
  rw [hp] at HP
  have HG := Lib.hid (fun w => spec_l04Graphic x 32 false w h2 d0 d1 (by decide) (by decide))
  have HW := Lib.hid (fun w => spec_l04Wide x x.l w hl.1 hl.2)
  cases hw : wideB x x.l
  · have HE : Hid (stepT x ⟨2, a, b, c, p, n⟩ = ⟨x, 32, 0⟩) := Lib.hid (by rw [stepT, if_neg (by simp), if_neg (by simp), if_neg (by rw [hp]; decide), calm, if_neg (by simp), if_pos rfl, if_neg (by rw [hw]; decide)])
    rw [hw] at HW
    clear hx hp h1 h2 h3 d0 d1 HG hw hl
    unfold stV at HP HW ⊢
    have ⟨hB0, hT0, hS0, b0⟩ := step_blocks w x ⟨2, a, b, c, p, n⟩
    dsimp only at hB0 hT0 hS0 b0
    have HB0 := Lib.hid hB0
    have HT0 := Lib.hid hT0
    have HS0 := Lib.hid hS0
    have B0 := Lib.hid b0
    clear hB0 hT0 hS0 b0
    unfold tokV
    go_enter Tryz.func113, Tryz.ntmps113
    go_wp2_with fail
    refine (HP.out _).mono ?_
    generalize (((w.alloc (.cells #[.int .i64 x.g0, .int .i64 x.g1, .int .i64 x.g2, .int .i64 x.g3, .int .i64 x.l, .int .i64 x.s, .int .i64 x.d] 39)).alloc (.cells #[.int .i64 2, .int .i64 a, .int .i64 b, .int .i64 c, .int .i64 p, .int .i64 n] 102)).alloc (.cells #[.int .i64 0, .int .i64 0, .int .i64 0, .int .i64 0, .int .i64 0, .int .i64 0, .int .i64 0] 39)) = W0 at *
    rintro e W1 ⟨rfl, b1⟩
    have B1 : Hid (Below w.heap.size w W1) := Lib.hid (B0.out.trans (b1.mono B0.out.size))
    have HB1 := Lib.hid (HB0.out.keep b1)
    have HT1 := Lib.hid (HT0.out.keep b1)
    have HS1 := Lib.hid (HS0.out.keep b1)
    clear b1 HB0 HT0 HS0 B0
    have ⟨y0, y1, y2, y3, y4, y5, y6⟩ := HB1.out.cells
    have ⟨t0, t1, t2, t3, t4, t5⟩ := HT1.out.cells
    dsimp only at t0 t1 t2 t3 t4 t5
    go_wp2_with fail
    refine (HW.out _).mono ?_
    clear y0 y1 y2 y3 y4 y5 y6 t0 t1 t2 t3 t4 t5
    rintro e W2 ⟨rfl, b2⟩
    have B2 : Hid (Below w.heap.size w W2) := Lib.hid (B1.out.trans (b2.mono B1.out.size))
    have HB2 := Lib.hid (HB1.out.keep b2)
    have HT2 := Lib.hid (HT1.out.keep b2)
    have HS2 := Lib.hid (HS1.out.keep b2)
    clear b2 HB1 HT1 HS1 B1
    have ⟨y0, y1, y2, y3, y4, y5, y6⟩ := HB2.out.cells
    have ⟨t0, t1, t2, t3, t4, t5⟩ := HT2.out.cells
    dsimp only at t0 t1 t2 t3 t4 t5
    have ⟨r0, r1, r2, r3, r4, r5, r6⟩ := HS2.out.cells
    have ⟨z0, z1, z2, z3, z4, z5, z6⟩ := HS2.out.thaw
    simp only [zeroSt] at r0 r1 r2 r3 r4 r5 r6
    have hl : w.heap.size + 2 < W2.heap.size := HS2.out.lt
    go_wp2
    exact st_ret3 (y := x) rfl rfl rfl rfl (HS2.out.put x) Tryz.underlying39 rfl (by kernel_rfl) rfl ⟨by rw [HE.out], below_putSt B2.out (by omega) x⟩
  · have HE : Hid (stepT x ⟨2, a, b, c, p, n⟩ = graphic x 32 false) := Lib.hid (by rw [stepT, if_neg (by simp), if_neg (by simp), if_neg (by rw [hp]; decide), calm, if_neg (by simp), if_pos rfl, if_pos hw])
    rw [hw] at HW
    clear hx hp h1 h2 h3 d0 d1 hw hl
    generalize graphic x 32 false = g at *
    unfold StpDone stpV at HG
    unfold stV at HP HW HG ⊢
    have ⟨hB0, hT0, hS0, b0⟩ := step_blocks w x ⟨2, a, b, c, p, n⟩
    dsimp only at hB0 hT0 hS0 b0
    have HB0 := Lib.hid hB0
    have HT0 := Lib.hid hT0
    have HS0 := Lib.hid hS0
    have B0 := Lib.hid b0
    clear hB0 hT0 hS0 b0
    unfold tokV
    go_enter Tryz.func113, Tryz.ntmps113
    go_wp2_with fail
    refine (HP.out _).mono ?_
    generalize (((w.alloc (.cells #[.int .i64 x.g0, .int .i64 x.g1, .int .i64 x.g2, .int .i64 x.g3, .int .i64 x.l, .int .i64 x.s, .int .i64 x.d] 39)).alloc (.cells #[.int .i64 2, .int .i64 a, .int .i64 b, .int .i64 c, .int .i64 p, .int .i64 n] 102)).alloc (.cells #[.int .i64 0, .int .i64 0, .int .i64 0, .int .i64 0, .int .i64 0, .int .i64 0, .int .i64 0] 39)) = W0 at *
    rintro e W1 ⟨rfl, b1⟩
    have B1 : Hid (Below w.heap.size w W1) := Lib.hid (B0.out.trans (b1.mono B0.out.size))
    have HB1 := Lib.hid (HB0.out.keep b1)
    have HT1 := Lib.hid (HT0.out.keep b1)
    have HS1 := Lib.hid (HS0.out.keep b1)
    clear b1 HB0 HT0 HS0 B0
    have ⟨y0, y1, y2, y3, y4, y5, y6⟩ := HB1.out.cells
    have ⟨t0, t1, t2, t3, t4, t5⟩ := HT1.out.cells
    dsimp only at t0 t1 t2 t3 t4 t5
    go_wp2_with fail
    refine (HW.out _).mono ?_
    clear y0 y1 y2 y3 y4 y5 y6 t0 t1 t2 t3 t4 t5
    rintro e W2 ⟨rfl, b2⟩
    have B2 : Hid (Below w.heap.size w W2) := Lib.hid (B1.out.trans (b2.mono B1.out.size))
    have HB2 := Lib.hid (HB1.out.keep b2)
    have HT2 := Lib.hid (HT1.out.keep b2)
    have HS2 := Lib.hid (HS1.out.keep b2)
    clear b2 HB1 HT1 HS1 B1
    have ⟨y0, y1, y2, y3, y4, y5, y6⟩ := HB2.out.cells
    have ⟨t0, t1, t2, t3, t4, t5⟩ := HT2.out.cells
    dsimp only at t0 t1 t2 t3 t4 t5
    go_wp2_with fail
    refine (HG.out _).mono ?_
    clear y0 y1 y2 y3 y4 y5 y6 t0 t1 t2 t3 t4 t5
    rintro e W3 ⟨rfl, b3⟩
    have B3 : Hid (Below w.heap.size w W3) := Lib.hid (B2.out.trans (b3.mono B2.out.size))
    have HB3 := Lib.hid (HB2.out.keep b3)
    have HT3 := Lib.hid (HT2.out.keep b3)
    have HS3 := Lib.hid (HS2.out.keep b3)
    clear b3 HB2 HT2 HS2 B2
    have ⟨r0, r1, r2, r3, r4, r5, r6⟩ := HS3.out.cells
    have ⟨z0, z1, z2, z3, z4, z5, z6⟩ := HS3.out.thaw
    simp only [zeroSt] at r0 r1 r2 r3 r4 r5 r6
    have hl : w.heap.size + 2 < W3.heap.size := HS3.out.lt
    go_wp2
    exact st_ret3 (y := g.y) rfl rfl rfl rfl (HS3.out.put g.y) Tryz.underlying39 rfl (by kernel_rfl) rfl ⟨by rw [HE.out], below_putSt B3.out (by omega) g.y⟩

set_option maxHeartbeats 1000000 in
set_option maxRecDepth 100000 in
theorem spec_step5 (x : St) (a b c p n : Int) (w : World) (hp : pendB x = false) : Calls Tryz.prog 113 #[stV x, tokV ⟨5, a, b, c, p, n⟩] w (StpDone (stepT x ⟨5, a, b, c, p, n⟩) w) := by
  have HE : Hid (stepT x ⟨5, a, b, c, p, n⟩ = ⟨⟨x.g0, x.g1, x.g2, x.g3, a, x.s, x.d⟩, -1, 0⟩) := Lib.hid (by rw [stepT, if_neg (by simp), if_neg (by simp), if_neg (by rw [hp]; decide), calm, if_neg (by simp), if_neg (by simp), if_pos rfl])
  have HP := Lib.hid (fun w => spec_l04Pending x w)
  rw [hp] at HP
  clear hp
  unfold stV at HP ⊢
  have ⟨hB0, hT0, hS0, b0⟩ := step_blocks w x ⟨5, a, b, c, p, n⟩
  dsimp only at hB0 hT0 hS0 b0
  have HB0 := Lib.hid hB0
  have HT0 := Lib.hid hT0
  have HS0 := Lib.hid hS0
  have B0 := Lib.hid b0
  clear hB0 hT0 hS0 b0
  unfold tokV
  go_enter Tryz.func113, Tryz.ntmps113
  go_wp2_with fail
  refine (HP.out _).mono ?_
  generalize (((w.alloc (.cells #[.int .i64 x.g0, .int .i64 x.g1, .int .i64 x.g2, .int .i64 x.g3, .int .i64 x.l, .int .i64 x.s, .int .i64 x.d] 39)).alloc (.cells #[.int .i64 5, .int .i64 a, .int .i64 b, .int .i64 c, .int .i64 p, .int .i64 n] 102)).alloc (.cells #[.int .i64 0, .int .i64 0, .int .i64 0, .int .i64 0, .int .i64 0, .int .i64 0, .int .i64 0] 39)) = W0 at *
  rintro e W1 ⟨rfl, b1⟩
  have B1 : Hid (Below w.heap.size w W1) := Lib.hid (B0.out.trans (b1.mono B0.out.size))
  have HB1 := Lib.hid (HB0.out.keep b1)
  have HT1 := Lib.hid (HT0.out.keep b1)
  have HS1 := Lib.hid (HS0.out.keep b1)
  clear b1 HB0 HT0 HS0 B0
  have ⟨y0, y1, y2, y3, y4, y5, y6⟩ := HB1.out.cells
  have ⟨t0, t1, t2, t3, t4, t5⟩ := HT1.out.cells
  dsimp only at t0 t1 t2 t3 t4 t5
  have ⟨q0, q1, q2, q3, q4, q5, q6⟩ := HB1.out.thaw
  have hl6 : w.heap.size < W1.heap.size := HB1.out.lt
  have HS3 : Hid (StAt (W1.setCell ⟨w.heap.size, 4, none⟩ (.int .i64 a)) (w.heap.size + 2) zeroSt) := Lib.hid (by
    unfold StAt
    rw [Below.heap_setCell _ _ _ _ (by simp)]
    exact HS1.out)
  have B3 : Hid (Below w.heap.size w (W1.setCell ⟨w.heap.size, 4, none⟩ (.int .i64 a))) := Lib.hid (B1.out.setCell (Nat.le_refl _) _)
  have ⟨r0, r1, r2, r3, r4, r5, r6⟩ := HS1.out.cells
  have ⟨z0, z1, z2, z3, z4, z5, z6⟩ := HS1.out.thaw
  simp only [zeroSt] at r0 r1 r2 r3 r4 r5 r6
  have hl : w.heap.size + 2 < W1.heap.size := HS1.out.lt
  go_wp2
  exact st_ret3 (y := ⟨x.g0, x.g1, x.g2, x.g3, a, x.s, x.d⟩) rfl rfl rfl rfl (HS3.out.put ⟨x.g0, x.g1, x.g2, x.g3, a, x.s, x.d⟩) Tryz.underlying39 rfl (by kernel_rfl) rfl ⟨by rw [HE.out], below_putSt B3.out (by omega) ⟨x.g0, x.g1, x.g2, x.g3, a, x.s, x.d⟩⟩

set_option maxHeartbeats 1000000 in
set_option maxRecDepth 100000 in
theorem spec_step6 (x : St) (a b c p n : Int) (w : World) (hp : pendB x = false) : Calls Tryz.prog 113 #[stV x, tokV ⟨6, a, b, c, p, n⟩] w (StpDone (stepT x ⟨6, a, b, c, p, n⟩) w) := by
  have HE : Hid (stepT x ⟨6, a, b, c, p, n⟩ = ⟨⟨x.g0, x.g1, x.g2, x.g3, x.l, a, x.d⟩, -1, 0⟩) := Lib.hid (by rw [stepT, if_neg (by simp), if_neg (by simp), if_neg (by rw [hp]; decide), calm, if_neg (by simp), if_neg (by simp), if_neg (by simp), if_pos rfl])
  have HP := Lib.hid (fun w => spec_l04Pending x w)
  rw [hp] at HP
  clear hp
  unfold stV at HP ⊢
  have ⟨hB0, hT0, hS0, b0⟩ := step_blocks w x ⟨6, a, b, c, p, n⟩
  dsimp only at hB0 hT0 hS0 b0
  have HB0 := Lib.hid hB0
  have HT0 := Lib.hid hT0
  have HS0 := Lib.hid hS0
  have B0 := Lib.hid b0
  clear hB0 hT0 hS0 b0
  unfold tokV
  go_enter Tryz.func113, Tryz.ntmps113
  go_wp2_with fail
  refine (HP.out _).mono ?_
  generalize (((w.alloc (.cells #[.int .i64 x.g0, .int .i64 x.g1, .int .i64 x.g2, .int .i64 x.g3, .int .i64 x.l, .int .i64 x.s, .int .i64 x.d] 39)).alloc (.cells #[.int .i64 6, .int .i64 a, .int .i64 b, .int .i64 c, .int .i64 p, .int .i64 n] 102)).alloc (.cells #[.int .i64 0, .int .i64 0, .int .i64 0, .int .i64 0, .int .i64 0, .int .i64 0, .int .i64 0] 39)) = W0 at *
  rintro e W1 ⟨rfl, b1⟩
  have B1 : Hid (Below w.heap.size w W1) := Lib.hid (B0.out.trans (b1.mono B0.out.size))
  have HB1 := Lib.hid (HB0.out.keep b1)
  have HT1 := Lib.hid (HT0.out.keep b1)
  have HS1 := Lib.hid (HS0.out.keep b1)
  clear b1 HB0 HT0 HS0 B0
  have ⟨y0, y1, y2, y3, y4, y5, y6⟩ := HB1.out.cells
  have ⟨t0, t1, t2, t3, t4, t5⟩ := HT1.out.cells
  dsimp only at t0 t1 t2 t3 t4 t5
  have ⟨q0, q1, q2, q3, q4, q5, q6⟩ := HB1.out.thaw
  have hl6 : w.heap.size < W1.heap.size := HB1.out.lt
  have HS3 : Hid (StAt (W1.setCell ⟨w.heap.size, 5, none⟩ (.int .i64 a)) (w.heap.size + 2) zeroSt) := Lib.hid (by
    unfold StAt
    rw [Below.heap_setCell _ _ _ _ (by simp)]
    exact HS1.out)
  have B3 : Hid (Below w.heap.size w (W1.setCell ⟨w.heap.size, 5, none⟩ (.int .i64 a))) := Lib.hid (B1.out.setCell (Nat.le_refl _) _)
  have ⟨r0, r1, r2, r3, r4, r5, r6⟩ := HS1.out.cells
  have ⟨z0, z1, z2, z3, z4, z5, z6⟩ := HS1.out.thaw
  simp only [zeroSt] at r0 r1 r2 r3 r4 r5 r6
  have hl : w.heap.size + 2 < W1.heap.size := HS1.out.lt
  go_wp2
  exact st_ret3 (y := ⟨x.g0, x.g1, x.g2, x.g3, x.l, a, x.d⟩) rfl rfl rfl rfl (HS3.out.put ⟨x.g0, x.g1, x.g2, x.g3, x.l, a, x.d⟩) Tryz.underlying39 rfl (by kernel_rfl) rfl ⟨by rw [HE.out], below_putSt B3.out (by omega) ⟨x.g0, x.g1, x.g2, x.g3, x.l, a, x.d⟩⟩

set_option maxHeartbeats 1000000 in
set_option maxRecDepth 100000 in
theorem spec_step7 (x : St) (a b c p n : Int) (w : World) (hp : pendB x = false) (a0 : 0 ≤ a) (a3 : a ≤ 3) : Calls Tryz.prog 113 #[stV x, tokV ⟨7, a, b, c, p, n⟩] w (StpDone (stepT x ⟨7, a, b, c, p, n⟩) w) := by
  have HP := Lib.hid (fun w => spec_l04Pending x w)
  rw [hp] at HP
  have HF := Lib.hid (fun w => spec_l02Find b c w)
  by_cases hf : findNo b c = 0
  · have HE : Hid (stepT x ⟨7, a, b, c, p, n⟩ = ⟨x, -1, 10⟩) := Lib.hid (by rw [stepT, if_neg (by simp), if_neg (by simp), if_neg (by rw [hp]; decide), calm, if_neg (by simp), if_neg (by simp), if_neg (by simp), if_neg (by simp), if_pos rfl, if_pos hf])
    rw [hf] at HF
    clear hp a0 a3 hf
    unfold stV at HP ⊢
    have ⟨hB0, hT0, hS0, b0⟩ := step_blocks w x ⟨7, a, b, c, p, n⟩
    dsimp only at hB0 hT0 hS0 b0
    have HB0 := Lib.hid hB0
    have HT0 := Lib.hid hT0
    have HS0 := Lib.hid hS0
    have B0 := Lib.hid b0
    clear hB0 hT0 hS0 b0
    unfold tokV
    go_enter Tryz.func113, Tryz.ntmps113
    go_wp2_with fail
    refine (HP.out _).mono ?_
    generalize (((w.alloc (.cells #[.int .i64 x.g0, .int .i64 x.g1, .int .i64 x.g2, .int .i64 x.g3, .int .i64 x.l, .int .i64 x.s, .int .i64 x.d] 39)).alloc (.cells #[.int .i64 7, .int .i64 a, .int .i64 b, .int .i64 c, .int .i64 p, .int .i64 n] 102)).alloc (.cells #[.int .i64 0, .int .i64 0, .int .i64 0, .int .i64 0, .int .i64 0, .int .i64 0, .int .i64 0] 39)) = W0 at *
    rintro e W1 ⟨rfl, b1⟩
    have B1 : Hid (Below w.heap.size w W1) := Lib.hid (B0.out.trans (b1.mono B0.out.size))
    have HB1 := Lib.hid (HB0.out.keep b1)
    have HT1 := Lib.hid (HT0.out.keep b1)
    have HS1 := Lib.hid (HS0.out.keep b1)
    clear b1 HB0 HT0 HS0 B0
    have ⟨y0, y1, y2, y3, y4, y5, y6⟩ := HB1.out.cells
    have ⟨t0, t1, t2, t3, t4, t5⟩ := HT1.out.cells
    dsimp only at t0 t1 t2 t3 t4 t5
    go_wp2_with fail
    refine (HF.out _).mono ?_
    clear y0 y1 y2 y3 y4 y5 y6 t0 t1 t2 t3 t4 t5
    rintro e W2 ⟨rfl, b2⟩
    have B2 : Hid (Below w.heap.size w W2) := Lib.hid (B1.out.trans (b2.mono B1.out.size))
    have HB2 := Lib.hid (HB1.out.keep b2)
    have HT2 := Lib.hid (HT1.out.keep b2)
    have HS2 := Lib.hid (HS1.out.keep b2)
    clear b2 HB1 HT1 HS1 B1
    have ⟨y0, y1, y2, y3, y4, y5, y6⟩ := HB2.out.cells
    have ⟨t0, t1, t2, t3, t4, t5⟩ := HT2.out.cells
    dsimp only at t0 t1 t2 t3 t4 t5
    have ⟨r0, r1, r2, r3, r4, r5, r6⟩ := HS2.out.cells
    have ⟨z0, z1, z2, z3, z4, z5, z6⟩ := HS2.out.thaw
    simp only [zeroSt] at r0 r1 r2 r3 r4 r5 r6
    have hl : w.heap.size + 2 < W2.heap.size := HS2.out.lt
    go_wp2
    exact st_ret3 (y := x) rfl rfl rfl rfl (HS2.out.put x) Tryz.underlying39 rfl (by kernel_rfl) rfl ⟨by rw [HE.out], below_putSt B2.out (by omega) x⟩
  · have HE : Hid (stepT x ⟨7, a, b, c, p, n⟩ = ⟨stPut x a (findNo b c), -1, 0⟩) := Lib.hid (by rw [stepT, if_neg (by simp), if_neg (by simp), if_neg (by rw [hp]; decide), calm, if_neg (by simp), if_neg (by simp), if_neg (by simp), if_neg (by simp), if_pos rfl, if_neg hf])
    have HU := Lib.hid (fun w => spec_l04Put x a (findNo b c) w a0 a3)
    have ef : (findNo b c == 0) = false := by rw [beq_eq_false_iff_ne]; exact hf
    clear hp a0 a3 hf
    generalize stPut x a (findNo b c) = y at *
    generalize findNo b c = f at *
    unfold StDone at HU
    unfold stV at HP HU ⊢
    have ⟨hB0, hT0, hS0, b0⟩ := step_blocks w x ⟨7, a, b, c, p, n⟩
    dsimp only at hB0 hT0 hS0 b0
    have HB0 := Lib.hid hB0
    have HT0 := Lib.hid hT0
    have HS0 := Lib.hid hS0
    have B0 := Lib.hid b0
    clear hB0 hT0 hS0 b0
    unfold tokV
    go_enter Tryz.func113, Tryz.ntmps113
    go_wp2_with fail
    refine (HP.out _).mono ?_
    generalize (((w.alloc (.cells #[.int .i64 x.g0, .int .i64 x.g1, .int .i64 x.g2, .int .i64 x.g3, .int .i64 x.l, .int .i64 x.s, .int .i64 x.d] 39)).alloc (.cells #[.int .i64 7, .int .i64 a, .int .i64 b, .int .i64 c, .int .i64 p, .int .i64 n] 102)).alloc (.cells #[.int .i64 0, .int .i64 0, .int .i64 0, .int .i64 0, .int .i64 0, .int .i64 0, .int .i64 0] 39)) = W0 at *
    rintro e W1 ⟨rfl, b1⟩
    have B1 : Hid (Below w.heap.size w W1) := Lib.hid (B0.out.trans (b1.mono B0.out.size))
    have HB1 := Lib.hid (HB0.out.keep b1)
    have HT1 := Lib.hid (HT0.out.keep b1)
    have HS1 := Lib.hid (HS0.out.keep b1)
    clear b1 HB0 HT0 HS0 B0
    have ⟨y0, y1, y2, y3, y4, y5, y6⟩ := HB1.out.cells
    have ⟨t0, t1, t2, t3, t4, t5⟩ := HT1.out.cells
    dsimp only at t0 t1 t2 t3 t4 t5
    go_wp2_with fail
    refine (HF.out _).mono ?_
    clear y0 y1 y2 y3 y4 y5 y6 t0 t1 t2 t3 t4 t5
    rintro e W2 ⟨rfl, b2⟩
    have B2 : Hid (Below w.heap.size w W2) := Lib.hid (B1.out.trans (b2.mono B1.out.size))
    have HB2 := Lib.hid (HB1.out.keep b2)
    have HT2 := Lib.hid (HT1.out.keep b2)
    have HS2 := Lib.hid (HS1.out.keep b2)
    clear b2 HB1 HT1 HS1 B1
    have ⟨y0, y1, y2, y3, y4, y5, y6⟩ := HB2.out.cells
    have ⟨t0, t1, t2, t3, t4, t5⟩ := HT2.out.cells
    dsimp only at t0 t1 t2 t3 t4 t5
    go_wp2_with fail
    refine (HU.out _).mono ?_
    clear y0 y1 y2 y3 y4 y5 y6 t0 t1 t2 t3 t4 t5
    rintro e W3 ⟨rfl, b3⟩
    have B3 : Hid (Below w.heap.size w W3) := Lib.hid (B2.out.trans (b3.mono B2.out.size))
    have HB3 := Lib.hid (HB2.out.keep b3)
    have HT3 := Lib.hid (HT2.out.keep b3)
    have HS3 := Lib.hid (HS2.out.keep b3)
    clear b3 HB2 HT2 HS2 B2
    have ⟨r0, r1, r2, r3, r4, r5, r6⟩ := HS3.out.cells
    have ⟨z0, z1, z2, z3, z4, z5, z6⟩ := HS3.out.thaw
    simp only [zeroSt] at r0 r1 r2 r3 r4 r5 r6
    have hl : w.heap.size + 2 < W3.heap.size := HS3.out.lt
    go_wp2
    exact st_ret3 (y := y) rfl rfl rfl rfl (HS3.out.put y) Tryz.underlying39 rfl (by kernel_rfl) rfl ⟨by rw [HE.out], below_putSt B3.out (by omega) y⟩

set_option maxHeartbeats 1000000 in
set_option maxRecDepth 100000 in
theorem spec_step8 (x : St) (a b c p n : Int) (w : World) (hp : pendB x = false) : Calls Tryz.prog 113 #[stV x, tokV ⟨8, a, b, c, p, n⟩] w (StpDone (stepT x ⟨8, a, b, c, p, n⟩) w) := by
  have HE : Hid (stepT x ⟨8, a, b, c, p, n⟩ = ⟨x, -1, 13⟩) := Lib.hid (by rw [stepT, if_neg (by simp), if_neg (by simp), if_neg (by rw [hp]; decide), calm, if_neg (by simp), if_neg (by simp), if_neg (by simp), if_neg (by simp), if_neg (by simp), if_pos rfl])
  have HP := Lib.hid (fun w => spec_l04Pending x w)
  rw [hp] at HP
  clear hp
  unfold stV at HP ⊢
  have ⟨hB0, hT0, hS0, b0⟩ := step_blocks w x ⟨8, a, b, c, p, n⟩
  dsimp only at hB0 hT0 hS0 b0
  have HB0 := Lib.hid hB0
  have HT0 := Lib.hid hT0
  have HS0 := Lib.hid hS0
  have B0 := Lib.hid b0
  clear hB0 hT0 hS0 b0
  unfold tokV
  go_enter Tryz.func113, Tryz.ntmps113
  go_wp2_with fail
  refine (HP.out _).mono ?_
  generalize (((w.alloc (.cells #[.int .i64 x.g0, .int .i64 x.g1, .int .i64 x.g2, .int .i64 x.g3, .int .i64 x.l, .int .i64 x.s, .int .i64 x.d] 39)).alloc (.cells #[.int .i64 8, .int .i64 a, .int .i64 b, .int .i64 c, .int .i64 p, .int .i64 n] 102)).alloc (.cells #[.int .i64 0, .int .i64 0, .int .i64 0, .int .i64 0, .int .i64 0, .int .i64 0, .int .i64 0] 39)) = W0 at *
  rintro e W1 ⟨rfl, b1⟩
  have B1 : Hid (Below w.heap.size w W1) := Lib.hid (B0.out.trans (b1.mono B0.out.size))
  have HB1 := Lib.hid (HB0.out.keep b1)
  have HT1 := Lib.hid (HT0.out.keep b1)
  have HS1 := Lib.hid (HS0.out.keep b1)
  clear b1 HB0 HT0 HS0 B0
  have ⟨y0, y1, y2, y3, y4, y5, y6⟩ := HB1.out.cells
  have ⟨t0, t1, t2, t3, t4, t5⟩ := HT1.out.cells
  dsimp only at t0 t1 t2 t3 t4 t5
  have ⟨r0, r1, r2, r3, r4, r5, r6⟩ := HS1.out.cells
  have ⟨z0, z1, z2, z3, z4, z5, z6⟩ := HS1.out.thaw
  simp only [zeroSt] at r0 r1 r2 r3 r4 r5 r6
  have hl : w.heap.size + 2 < W1.heap.size := HS1.out.lt
  go_wp2
  exact st_ret3 (y := x) rfl rfl rfl rfl (HS1.out.put x) Tryz.underlying39 rfl (by kernel_rfl) rfl ⟨by rw [HE.out], below_putSt B1.out (by omega) x⟩

set_option maxHeartbeats 1000000 in
set_option maxRecDepth 100000 in
theorem spec_step9 (x : St) (a b c p n : Int) (w : World) (hp : pendB x = false) : Calls Tryz.prog 113 #[stV x, tokV ⟨9, a, b, c, p, n⟩] w (StpDone (stepT x ⟨9, a, b, c, p, n⟩) w) := by
  have HE : Hid (stepT x ⟨9, a, b, c, p, n⟩ = ⟨x, -1, 10⟩) := Lib.hid (by rw [stepT, if_neg (by simp), if_neg (by simp), if_neg (by rw [hp]; decide), calm, if_neg (by simp), if_neg (by simp), if_neg (by simp), if_neg (by simp), if_neg (by simp), if_neg (by simp)])
  have HP := Lib.hid (fun w => spec_l04Pending x w)
  rw [hp] at HP
  clear hp
  unfold stV at HP ⊢
  have ⟨hB0, hT0, hS0, b0⟩ := step_blocks w x ⟨9, a, b, c, p, n⟩
  dsimp only at hB0 hT0 hS0 b0
  have HB0 := Lib.hid hB0
  have HT0 := Lib.hid hT0
  have HS0 := Lib.hid hS0
  have B0 := Lib.hid b0
  clear hB0 hT0 hS0 b0
  unfold tokV
  go_enter Tryz.func113, Tryz.ntmps113
  go_wp2_with fail
  refine (HP.out _).mono ?_
  generalize (((w.alloc (.cells #[.int .i64 x.g0, .int .i64 x.g1, .int .i64 x.g2, .int .i64 x.g3, .int .i64 x.l, .int .i64 x.s, .int .i64 x.d] 39)).alloc (.cells #[.int .i64 9, .int .i64 a, .int .i64 b, .int .i64 c, .int .i64 p, .int .i64 n] 102)).alloc (.cells #[.int .i64 0, .int .i64 0, .int .i64 0, .int .i64 0, .int .i64 0, .int .i64 0, .int .i64 0] 39)) = W0 at *
  rintro e W1 ⟨rfl, b1⟩
  have B1 : Hid (Below w.heap.size w W1) := Lib.hid (B0.out.trans (b1.mono B0.out.size))
  have HB1 := Lib.hid (HB0.out.keep b1)
  have HT1 := Lib.hid (HT0.out.keep b1)
  have HS1 := Lib.hid (HS0.out.keep b1)
  clear b1 HB0 HT0 HS0 B0
  have ⟨y0, y1, y2, y3, y4, y5, y6⟩ := HB1.out.cells
  have ⟨t0, t1, t2, t3, t4, t5⟩ := HT1.out.cells
  dsimp only at t0 t1 t2 t3 t4 t5
  have ⟨r0, r1, r2, r3, r4, r5, r6⟩ := HS1.out.cells
  have ⟨z0, z1, z2, z3, z4, z5, z6⟩ := HS1.out.thaw
  simp only [zeroSt] at r0 r1 r2 r3 r4 r5 r6
  have hl : w.heap.size + 2 < W1.heap.size := HS1.out.lt
  go_wp2
  exact st_ret3 (y := x) rfl rfl rfl rfl (HS1.out.put x) Tryz.underlying39 rfl (by kernel_rfl) rfl ⟨by rw [HE.out], below_putSt B1.out (by omega) x⟩

theorem spec_l04Step (x : St) (t : Tok) (w : World) (hx : stOKB x = true) (ht : tokLP t) : Calls Tryz.prog 113 #[stV x, tokV t] w (StpDone (stepT x t) w) := by
  obtain ⟨k, a, b, c, p, n⟩ := t
  have hk : k = 1 ∨ k = 2 ∨ k = 3 ∨ k = 4 ∨ k = 5 ∨ k = 6 ∨ k = 7 ∨ k = 8 ∨ k = 9 := by unfold tokLP at ht; dsimp only at ht; omega
  by_cases h3 : k = 3
  · subst h3
    exact spec_step3 x a b c p n w hx (by unfold tokLP at ht; dsimp only at ht; omega) (by unfold tokLP at ht; dsimp only at ht; omega)
  by_cases h4 : k = 4
  · subst h4
    exact spec_step4 x a b c p n w hx (by unfold tokLP at ht; dsimp only at ht; omega) (by unfold tokLP at ht; dsimp only at ht; omega)
  cases hp : pendB x
  · rcases hk with rfl | rfl | rfl | rfl | rfl | rfl | rfl | rfl | rfl
    · exact spec_step1 x a b c p n w hp
    · exact spec_step2 x a b c p n w hx hp
    · exact absurd rfl h3
    · exact absurd rfl h4
    · exact spec_step5 x a b c p n w hp
    · exact spec_step6 x a b c p n w hp
    · exact spec_step7 x a b c p n w hp (by unfold tokLP at ht; dsimp only at ht; omega) (by unfold tokLP at ht; dsimp only at ht; omega)
    · exact spec_step8 x a b c p n w hp
    · exact spec_step9 x a b c p n w hp
  · by_cases h2 : k = 2
    · subst h2
      exact spec_stepP2 x a b c p n w hx hp
    · exact spec_stepP x k a b c p n w hp h2 h3 h4

end Go.Proofs.YtbamjhldebobhaaGreatDoor

namespace Go.Proofs.YtbamjhldebobhaaGreatDoor
open Go.RowKit Go.Sort

theorem results_cell_tmp3 {P : Program} {fn : Func} {p u v z : Tmp} {ty : TypeId} (h : fn.results = #[.cell p ty, .tmp u, .tmp v, .tmp z]) (tmps : Array Value) (w : World) (g : Nat) (t : TypeId) (cs : Array Value) (fr : Nat × Nat) (d : TypeDesc)
    (hp : tmps.getD p undef = .pointer (some ⟨g, 0, none⟩)) (hg : w.heap[g]? = some (.cells cs t fr))
    (hu : P.underlying ty = some d) (hd : (match d with | .struct _ | .array _ _ => true | _ => false) = true) (hi : (P.info? ty).map (·.size) = some cs.size) :
    (results fn tmps).run P w = .ok (.tuple #[.agg cs, tmps.getD u undef, tmps.getD v undef, tmps.getD z undef]) w := by
  have h1 : (results fn tmps).run P w = ((asAddr (tmps.getD p undef)).run P w).andThen fun a w₁ => ((loadVar ty a).run P w₁).andThen fun x w₂ => .ok (.tuple #[x, tmps.getD u undef, tmps.getD v undef, tmps.getD z undef]) w₂ := by
    simp only [results, h]
    simp [Sem.run_bind, Result.andThen]
  rw [h1, hp]
  simp [asAddr, run_loadVar_row w g t ty cs fr d hg hu hd hi, Result.andThen]
theorem st_ret4 {P : Program} {fn : Func} {p u v z : Tmp} {a : Act} {w1 : World} {g : Nat} {t ty : TypeId} {fr : Nat × Nat} {d : TypeDesc} {y : St} {r m c : Value} {Q : Ending → World → Prop} (h : fn.results = #[.cell p ty, .tmp u, .tmp v, .tmp z])
    (hp : a.tmps.getD p undef = .pointer (some ⟨g, 0, none⟩)) (hr : a.tmps.getD u undef = r) (hm : a.tmps.getD v undef = m) (hc : a.tmps.getD z undef = c) (hg : w1.heap[g]? = some (.cells #[.int .i64 y.g0, .int .i64 y.g1, .int .i64 y.g2, .int .i64 y.g3, .int .i64 y.l, .int .i64 y.s, .int .i64 y.d] t fr))
    (hu : P.underlying ty = some d) (hd : (match d with | .struct _ | .array _ _ => true | _ => false) = true) (hi : (P.info? ty).map (·.size) = some 7) (hdef : a.defers = []) (hQ : Q (.returned (.tuple #[stV y, r, m, c])) w1) :
    bodyPost P fn Q .ret a w1 :=
  bodyPost_ret (results_cell_tmp3 h _ _ g _ _ _ _ hp hg hu hd hi) hdef (by rw [hr, hm, hc]; exact hQ)

theorem StAt.alloc {w : World} {g : Nat} {x : St} (h : StAt w g x) (o : Obj) : StAt (w.alloc o) g x := h.keep (below_one _ _)

/-- What StepState tells of a step. -/
def toldV (p : Stp) : Value := .tuple #[stV p.y, .int .i64 (if 0 ≤ p.r then p.r else 0), .bool (decide (0 ≤ p.r)), .int .i64 p.c]
def SsDone (x : St) (t : Tok) (w : World) (e : Ending) (w' : World) : Prop := e = .returned (toldV (ssP x t)) ∧ Below w.heap.size w w'
theorem told_bad {p : Stp} {y : St} {c : Int} (h : p = ⟨y, -1, c⟩) : toldV p = .tuple #[stV y, .int .i64 0, .bool false, .int .i64 c] := by rw [h]; rfl
theorem told_none {p : Stp} (h : p.r = -1) : toldV p = .tuple #[stV p.y, .int .i64 0, .bool false, .int .i64 p.c] := by unfold toldV; rw [h]; rfl
theorem told_some {p : Stp} (h : 0 ≤ p.r) : toldV p = .tuple #[stV p.y, .int .i64 p.r, .bool true, .int .i64 p.c] := by unfold toldV; rw [if_pos h, decide_eq_true h]

end Go.Proofs.YtbamjhldebobhaaGreatDoor

namespace Go.Proofs.YtbamjhldebobhaaGreatDoor
open Go.RowKit Go.Sort

/-- A run handed back: the state, the characters in new memory, the offset, the code. -/
def RunDone (p : Rn) (w : World) (e : Ending) (w' : World) : Prop := ∃ v, e = .returned (.tuple #[stV p.y, v, .int .i64 p.p, .int .i64 p.c]) ∧ Own .i64 3 w' w.heap.size v p.z ∧ Below w.heap.size w w'
theorem addR_some {z : List Int} {r : Int} (h : 0 ≤ r) : addR z r = z ++ [r] := by rw [addR, if_pos h]
theorem addR_none {z : List Int} {r : Int} (h : r = -1) : addR z r = z := by rw [addR, if_neg (by omega)]

theorem heap_putSt {w : World} {g j : Nat} (y : St) (h : j ≠ g) : (putSt w g y).heap[j]? = w.heap[j]? := by
  unfold putSt
  rw [Below.heap_setCell _ _ _ _ (by simpa using h), Below.heap_setCell _ _ _ _ (by simpa using h), Below.heap_setCell _ _ _ _ (by simpa using h), Below.heap_setCell _ _ _ _ (by simpa using h), Below.heap_setCell _ _ _ _ (by simpa using h), Below.heap_setCell _ _ _ _ (by simpa using h), Below.heap_setCell _ _ _ _ (by simpa using h)]
theorem Own.putSt {k : IntKind} {e : TypeId} {w : World} {B g : Nat} {v : Value} {zs : List Int} (h : Own k e w B v zs) (hg : g < B) (y : St) : Own k e (putSt w g y) B v zs := by
  refine ⟨h.1, ?_⟩
  rcases h.2 with h | ⟨j, cap, cur, a, b, c, d⟩
  · exact .inl h
  · exact .inr ⟨j, cap, cur, a, b, by rw [heap_putSt y (by omega)]; exact c, d⟩
theorem StAt.other {w : World} {g j : Nat} {x : St} (h : StAt w j x) (y : St) (hg : j ≠ g) : StAt (Go.Proofs.YtbamjhldebobhaaGreatDoor.putSt w g y) j x := (heap_putSt y hg).trans h
theorem TokAt.other {w : World} {g j : Nat} {t : Tok} (h : TokAt w j t) (y : St) (hg : j ≠ g) : TokAt (Go.Proofs.YtbamjhldebobhaaGreatDoor.putSt w g y) j t := (heap_putSt y hg).trans h

theorem size_putSt (w : World) (g : Nat) (y : St) : (putSt w g y).heap.size = w.heap.size := by simp [putSt]

set_option maxHeartbeats 4000000 in
set_option maxRecDepth 100000 in
theorem spec_l04Run (x : St) (s : ByteArray) (w : World) (hx : stOKB x = true) (hs : s.size ≤ 65536) : Calls Tryz.prog 131 #[stV x, .string s] w (RunDone (runT s s.size 0 x []) w) := by
  have HB0 : Hid (StAt ((w.alloc (.cells #[.int .i64 x.g0, .int .i64 x.g1, .int .i64 x.g2, .int .i64 x.g3, .int .i64 x.l, .int .i64 x.s, .int .i64 x.d] 39)).alloc (.cells #[.int .i64 0, .int .i64 0, .int .i64 0, .int .i64 0, .int .i64 0, .int .i64 0, .int .i64 0] 39)) w.heap.size x) := Lib.hid (heap_alloc2_old _ _ _)
  have HS0 : Hid (StAt ((w.alloc (.cells #[.int .i64 x.g0, .int .i64 x.g1, .int .i64 x.g2, .int .i64 x.g3, .int .i64 x.l, .int .i64 x.s, .int .i64 x.d] 39)).alloc (.cells #[.int .i64 0, .int .i64 0, .int .i64 0, .int .i64 0, .int .i64 0, .int .i64 0, .int .i64 0] 39)) (w.heap.size + 1) zeroSt) := Lib.hid (heap_alloc2_new _ _ _)
  have B0 := Lib.hid (below_two w (.cells #[.int .i64 x.g0, .int .i64 x.g1, .int .i64 x.g2, .int .i64 x.g3, .int .i64 x.l, .int .i64 x.s, .int .i64 x.d] 39) (.cells #[.int .i64 0, .int .i64 0, .int .i64 0, .int .i64 0, .int .i64 0, .int .i64 0, .int .i64 0] 39))
  have hsz0 : ((w.alloc (.cells #[.int .i64 x.g0, .int .i64 x.g1, .int .i64 x.g2, .int .i64 x.g3, .int .i64 x.l, .int .i64 x.s, .int .i64 x.d] 39)).alloc (.cells #[.int .i64 0, .int .i64 0, .int .i64 0, .int .i64 0, .int .i64 0, .int .i64 0, .int .i64 0] 39)).heap.size = w.heap.size + 2 := by simp
  have HX := Lib.hid hx
  clear hx
  unfold stV
  go_enter Tryz.func131, Tryz.ntmps131
  go_wp2
  generalize (w.alloc (.cells #[.int .i64 x.g0, .int .i64 x.g1, .int .i64 x.g2, .int .i64 x.g3, .int .i64 x.l, .int .i64 x.s, .int .i64 x.d] 39)).alloc (.cells #[.int .i64 0, .int .i64 0, .int .i64 0, .int .i64 0, .int .i64 0, .int .i64 0, .int .i64 0] 39) = W0 at *
  go_loopw [8, 9] (fun v i wr => ∃ (k f : Nat) (xs : St) (zs : List Int), k ≤ s.size ∧ i = .int .i64 k ∧ Hid (s.size ≤ k + f) ∧ zs.length ≤ k ∧ Hid (runT s s.size 0 x [] = runT s f k xs zs) ∧ Hid (stOKB xs = true) ∧ Hid (Own .i64 3 wr (w.heap.size + 2) v zs) ∧ Hid (StAt wr w.heap.size xs) ∧ Hid (StAt wr (w.heap.size + 1) zeroSt) ∧ Hid (Below w.heap.size w wr)) (fun _ i _ => s.size - (intOf i).toNat)
  case atStart =>
    have HO0 := Own.lit .i64 3 W0 (w.heap.size + 2) [] (by omega) (by simp)
    rw [hsz0] at HO0
    exact ⟨0, s.size, x, [], by omega, rfl, Lib.hid (by omega), by simp, Lib.hid rfl, HX, Lib.hid HO0, Lib.hid (HB0.out.keep (below_one _ _)), Lib.hid (HS0.out.keep (below_one _ _)), Lib.hid (B0.out.alloc B0.out.size _)⟩
  case round =>
    obtain ⟨k, f, xs, zs, hk, rfl, HF, hzs, HR, HX, HO, HB, HS, BW⟩ := hrel
    obtain ⟨a0, c0, hform, _⟩ := HO.out.shape
    subst hform
    by_cases hlt : k < s.size
    · obtain ⟨f, rfl⟩ : ∃ q, f = q + 1 := ⟨f - 1, by have := HF.out; omega⟩
      have v2 : (k : Int) < (s.size : Int) := by omega
      have HU : Hid (runT s (f + 1) k xs zs = if (stepT xs (nextTok s k)).c = 0 then runT s f (k + (nextTok s k).n.toNat) (stepT xs (nextTok s k)).y (addR zs (stepT xs (nextTok s k)).r) else ⟨xs, zs, k, (stepT xs (nextTok s k)).c⟩) := Lib.hid (by rw [runT, if_pos hlt])
      have n1 := (nextTok_in s k hlt).2.1
      have n2 := (nextTok_in s k hlt).2.2
      have HN := Lib.hid (fun w => spec_l03Next s k w hlt (by omega))
      have HG := Lib.hid (fun w => spec_l04Step xs (nextTok s k) w HX.out (nextTok_ok s k hlt (Nat.le_trans hs (by decide))))
      have HC := Lib.hid (fun h => stepT_code (x := xs) (t := nextTok s k) h)
      have hr := stepT_r (x := xs) (nextTok_ok s k hlt (Nat.le_trans hs (by decide)))
      have HX2 := Lib.hid (stepT_ok HX.out (nextTok_ok s k hlt (Nat.le_trans hs (by decide))))
      unfold TokDone tokV at HN
      unfold StpDone stpV tokV stV at HG
      generalize nextTok s k = y at *
      generalize stepT xs y = p at *
      have u1 : IntKind.i64.wrap ((k : Int) + y.n) = (k : Int) + y.n := IntWalk.i64_in _ (by omega)
      go_wp2_with fail
      refine (HN.out _).mono ?_
      rintro e w1 ⟨rfl, b1⟩
      have B1 := Lib.hid (BW.out.trans (b1.mono BW.out.size))
      have O1 := Lib.hid ((HO.out.all b1).all (below_one w1 (.cells #[.int .i64 y.k, .int .i64 y.a, .int .i64 y.b, .int .i64 y.c, .int .i64 y.p, .int .i64 y.n] 102)))
      have HB1 := Lib.hid ((HB.out.keep b1).keep (below_one w1 (.cells #[.int .i64 y.k, .int .i64 y.a, .int .i64 y.b, .int .i64 y.c, .int .i64 y.p, .int .i64 y.n] 102)))
      have HS1 := Lib.hid ((HS.out.keep b1).keep (below_one w1 (.cells #[.int .i64 y.k, .int .i64 y.a, .int .i64 y.b, .int .i64 y.c, .int .i64 y.p, .int .i64 y.n] 102)))
      have HK1 := Lib.hid (TokAt.new w1 y)
      have B1b := Lib.hid (B1.out.alloc B1.out.size (.cells #[.int .i64 y.k, .int .i64 y.a, .int .i64 y.b, .int .i64 y.c, .int .i64 y.p, .int .i64 y.n] 102))
      have hw1 : w.heap.size + 1 < w1.heap.size := (HS.out.keep b1).lt
      have L1 := Lib.hid (fun g hg => World.ownsRow.lt (HO.out.all b1) g hg)
      clear b1 HO HB HS BW B1 HN
      have ⟨y0, y1, y2, y3, y4, y5, y6⟩ := HB1.out.cells
      have ⟨t0, t1, t2, t3, t4, t5⟩ := HK1.out.cells
      go_wp2_with fail
      refine (HG.out _).mono ?_
      clear y0 y1 y2 y3 y4 y5 y6 t0 t1 t2 t3 t4 t5
      generalize w1.alloc (.cells #[.int .i64 y.k, .int .i64 y.a, .int .i64 y.b, .int .i64 y.c, .int .i64 y.p, .int .i64 y.n] 102) = W1 at *
      rintro e w2 ⟨rfl, b2⟩
      have B2 := Lib.hid (B1b.out.trans (b2.mono B1b.out.size))
      have O2 := Lib.hid (O1.out.all b2)
      have HB2 := Lib.hid (HB1.out.keep b2)
      have HS2 := Lib.hid (HS1.out.keep b2)
      have HK2 := Lib.hid (HK1.out.keep b2)
      clear b2 O1 HB1 HS1 HK1 B1b
      by_cases hc : p.c = 0
      · have ec : (p.c != 0) = false := by simpa using hc
        have ⟨q0, q1, q2, q3, q4, q5, q6⟩ := HB2.out.thaw
        have ⟨y0, y1, y2, y3, y4, y5, y6⟩ := HB2.out.cells
        have hl6 : w.heap.size < w2.heap.size := HB2.out.lt
        have hk2 : w1.heap.size < w2.heap.size := HK2.out.lt
        have ⟨p0, p1, p2, p3, p4, p5, p6⟩ := (StAt.new w2 p.y).cells
        have ⟨t0, t1, t2, t3, t4, t5⟩ := HK2.out.cells
        have HN2 : Hid (∃ m : Nat, y.n = (m : Int) ∧ 1 ≤ m ∧ k + m ≤ s.size) := Lib.hid ⟨y.n.toNat, by omega, by omega, by omega⟩
        have BP := Lib.hid (below_putSt B2.out (Nat.le_refl _) p.y)
        have OP := Lib.hid (O2.out.putSt (show w.heap.size < w.heap.size + 2 by omega) p.y)
        have HSP := Lib.hid (HS2.out.other p.y (show w.heap.size + 1 ≠ w.heap.size by omega))
        have HBP := Lib.hid (HB2.out.put p.y)
        rcases hr with hr | hr
        · have HA : Hid (addR zs p.r = zs) := Lib.hid (addR_none hr)
          have vr : p.r < 0 := by omega
          obtain ⟨m, hm, m1, m2⟩ := HN2.out
          have HM := Lib.hid hm
          have e5 : (k : Int) + y.n = ((k + m : Nat) : Int) := by omega
          clear hm
          go_wp2
          go_roundw
          case rel => exact ⟨k + m, f, p.y, zs, m2, by simp, Lib.hid (by have := HF.out; omega), by omega, Lib.hid (by rw [HR.out, HU.out, if_pos hc, HA.out, HM.out]; simp), HX2, Lib.hid (OP.out.alloc _), Lib.hid (HBP.out.alloc _), Lib.hid (HSP.out.alloc _), Lib.hid (BP.out.alloc BP.out.size _)⟩
          case measure => simp [intOf]; omega
        · have HA : Hid (addR zs p.r = zs ++ [p.r]) := Lib.hid (addR_some hr)
          have O3 := Lib.hid ((OP.out.alloc (.cells #[.int .i64 p.y.g0, .int .i64 p.y.g1, .int .i64 p.y.g2, .int .i64 p.y.g3, .int .i64 p.y.l, .int .i64 p.y.s, .int .i64 p.y.d] 39)).alloc (.cells #[.int .i64 p.r] 3))
          have HNW := Lib.hid (World.news_of_block (show (((putSt w2 w.heap.size p.y).alloc (.cells #[.int .i64 p.y.g0, .int .i64 p.y.g1, .int .i64 p.y.g2, .int .i64 p.y.g3, .int .i64 p.y.l, .int .i64 p.y.s, .int .i64 p.y.d] 39)).alloc (.cells #[.int .i64 p.r] 3)).heap[w2.heap.size + 1]? = some (.cells ([p.r].map (Value.int .i64)).toArray 3) from by
            have := heap_alloc2_new (putSt w2 w.heap.size p.y) (.cells #[.int .i64 p.y.g0, .int .i64 p.y.g1, .int .i64 p.y.g2, .int .i64 p.y.g3, .int .i64 p.y.l, .int .i64 p.y.s, .int .i64 p.y.d] 39) (.cells #[.int .i64 p.r] 3)
            rw [size_putSt] at this
            exact this))
          have hB3 : w.heap.size + 2 ≤ (((putSt w2 w.heap.size p.y).alloc (.cells #[.int .i64 p.y.g0, .int .i64 p.y.g1, .int .i64 p.y.g2, .int .i64 p.y.g3, .int .i64 p.y.l, .int .i64 p.y.s, .int .i64 p.y.d] 39)).alloc (.cells #[.int .i64 p.r] 3)).heap.size := by
            simp only [World.size_alloc, size_putSt]; omega
          go_wp2_with (at_builtin; refine app_i64 _ rfl _ _ rfl (w.heap.size + 2) _ zs rfl O3.out ⟨w2.heap.size + 1, 0, none⟩ 1 1 [p.r] rfl rfl (by decide) HNW.out (by omega) hB3 ?_)
          intro g cap2 w4 o4 g4 lt4
          have hx4 : TokAt w4 w1.heap.size y := (g4.block _ (by simp; omega) (fun h => by have := (L1.out _ h.symm).2; omega)).trans (((HK2.out.other p.y (by omega)).keep (below_one _ (.cells #[.int .i64 p.y.g0, .int .i64 p.y.g1, .int .i64 p.y.g2, .int .i64 p.y.g3, .int .i64 p.y.l, .int .i64 p.y.s, .int .i64 p.y.d] 39))).keep (below_one _ (.cells #[.int .i64 p.r] 3)))
          have HB4 := Lib.hid ((g4.block w.heap.size (by simp; omega) (fun h => by have := (L1.out _ h.symm).1; omega)).trans ((HBP.out.alloc (.cells #[.int .i64 p.y.g0, .int .i64 p.y.g1, .int .i64 p.y.g2, .int .i64 p.y.g3, .int .i64 p.y.l, .int .i64 p.y.s, .int .i64 p.y.d] 39)).alloc (.cells #[.int .i64 p.r] 3)))
          have HS4 := Lib.hid ((g4.block (w.heap.size + 1) (by simp; omega) (fun h => by have := (L1.out _ h.symm).1; omega)).trans ((HSP.out.alloc (.cells #[.int .i64 p.y.g0, .int .i64 p.y.g1, .int .i64 p.y.g2, .int .i64 p.y.g3, .int .i64 p.y.l, .int .i64 p.y.s, .int .i64 p.y.d] 39)).alloc (.cells #[.int .i64 p.r] 3)))
          have B3 := BP.out.alloc BP.out.size (.cells #[.int .i64 p.y.g0, .int .i64 p.y.g1, .int .i64 p.y.g2, .int .i64 p.y.g3, .int .i64 p.y.l, .int .i64 p.y.s, .int .i64 p.y.d] 39)
          have B4 := Lib.hid ((B3.alloc B3.size (.cells #[.int .i64 p.r] 3)).grown g4 (by simp only [World.size_alloc, size_putSt]; omega) (fun j hj => by have := (L1.out j hj).1; omega))
          have O4 := Lib.hid o4
          clear o4 g4 B3
          clear y0 y1 y2 y3 y4 y5 y6 q0 q1 q2 q3 q4 q5 q6 p0 p1 p2 p3 p4 p5 p6 t0 t1 t2 t3 t4 t5
          have ⟨_, _, _, _, _, t5⟩ := hx4.cells
          clear hx4
          obtain ⟨m, hm, m1, m2⟩ := HN2.out
          have HM := Lib.hid hm
          have e5 : (k : Int) + y.n = ((k + m : Nat) : Int) := by omega
          clear hm
          go_wp2
          go_roundw
          case rel => exact ⟨k + m, f, p.y, zs ++ [p.r], m2, by simp, Lib.hid (by have := HF.out; omega), by simp; omega, Lib.hid (by rw [HR.out, HU.out, if_pos hc, HA.out, HM.out]; simp), HX2, O4, HB4, HS4, B4⟩
          case measure => simp [intOf]; omega
      · have ec : (p.c != 0) = true := by simpa using hc
        have HE : Hid (runT s s.size 0 x [] = ⟨xs, zs, k, p.c⟩) := Lib.hid (by rw [HR.out, HU.out, if_neg hc])
        have ⟨y0, y1, y2, y3, y4, y5, y6⟩ := (HB2.out.alloc (.cells #[.int .i64 p.y.g0, .int .i64 p.y.g1, .int .i64 p.y.g2, .int .i64 p.y.g3, .int .i64 p.y.l, .int .i64 p.y.s, .int .i64 p.y.d] 39)).cells
        have BB := Lib.hid (below_putSt B2.out (show w.heap.size ≤ w.heap.size + 1 by omega) xs)
        have ⟨r0, r1, r2, r3, r4, r5, r6⟩ := HS2.out.cells
        have ⟨z0, z1, z2, z3, z4, z5, z6⟩ := HS2.out.thaw
        simp only [zeroSt] at r0 r1 r2 r3 r4 r5 r6
        have hl : w.heap.size + 1 < w2.heap.size := HS2.out.lt
        have OE := Lib.hid (((O2.out.putSt (show w.heap.size + 1 < w.heap.size + 2 by omega) xs).alloc (.cells #[.int .i64 p.y.g0, .int .i64 p.y.g1, .int .i64 p.y.g2, .int .i64 p.y.g3, .int .i64 p.y.l, .int .i64 p.y.s, .int .i64 p.y.d] 39)).low (show w.heap.size ≤ w.heap.size + 2 by omega))
        go_wp2
        exact st_ret4 (y := xs) (r := .slice a0 zs.length c0) (m := .int .i64 k) (c := .int .i64 p.c) rfl rfl rfl rfl rfl ((HS2.out.put xs).alloc _) Tryz.underlying39 rfl (by kernel_rfl) rfl ⟨.slice a0 zs.length c0, by rw [HE.out], by rw [HE.out]; exact OE.out, BB.out.alloc BB.out.size _⟩
    · have v2 : ¬ (k : Int) < (s.size : Int) := by omega
      have HE : Hid (runT s s.size 0 x [] = ⟨xs, zs, s.size, 0⟩) := Lib.hid (by
        rw [HR.out]
        cases f with
        | zero => rfl
        | succ f => rw [runT, if_neg hlt])
      have ⟨y0, y1, y2, y3, y4, y5, y6⟩ := HB.out.cells
      have BB := Lib.hid (below_putSt BW.out (show w.heap.size ≤ w.heap.size + 1 by omega) xs)
      have ⟨r0, r1, r2, r3, r4, r5, r6⟩ := HS.out.cells
      have ⟨z0, z1, z2, z3, z4, z5, z6⟩ := HS.out.thaw
      simp only [zeroSt] at r0 r1 r2 r3 r4 r5 r6
      have hl : w.heap.size + 1 < wr.heap.size := HS.out.lt
      have OE := Lib.hid ((HO.out.putSt (show w.heap.size + 1 < w.heap.size + 2 by omega) xs).low (show w.heap.size ≤ w.heap.size + 2 by omega))
      go_wp2
      exact st_ret4 (y := xs) (r := .slice a0 zs.length c0) (m := .int .i64 s.size) (c := .int .i64 0) rfl rfl rfl rfl rfl (HS.out.put xs) Tryz.underlying39 rfl (by kernel_rfl) rfl ⟨.slice a0 zs.length c0, by rw [HE.out], by rw [HE.out]; exact OE.out, BB.out⟩

end Go.Proofs.YtbamjhldebobhaaGreatDoor

namespace Go.Proofs.YtbamjhldebobhaaGreatDoor
open Go.RowKit Go.Sort

theorem SetsAt.form {w : World} {v : Value} {n : Int} (h : SetsAt w v n) : ∃ g c, v = .slice (some ⟨g, 0, none⟩) 4 c := by
  obtain ⟨g, c, _, _, _, _, rfl, _⟩ := h
  exact ⟨g, c, rfl⟩

set_option maxHeartbeats 4000000 in
theorem spec_l05Step7 (n : Int) (x : St) (t : Tok) (w : World) (hx : stOKB x = true) (ht : tokLP t) (k7 : t.k = 7) : Calls Tryz.prog 66 #[.int .i64 n, stV x, tokV t] w (StpDone (stepP n x t) w) := by
  have HP := Lib.hid (fun w => spec_l05Profile n w)
  have HF := Lib.hid (fun w => spec_l02Find t.b t.c w)
  have HAl := Lib.hid (fun v w hv => spec_l05Allows n v t w hv ht)
  have HSt := Lib.hid (fun w => spec_l04Step x t w hx ht)
  have ⟨hB0, hT0, hS0, b0⟩ := step_blocks w x t
  have HB0 := Lib.hid hB0
  have HK0 := Lib.hid hT0
  have HS0 := Lib.hid hS0
  have B0 := Lib.hid b0
  have e8 : (t.k == 8) = false := by rw [k7]; rfl
  have e9 : (t.k == 9) = false := by rw [k7]; rfl
  have e7 : (t.k == 7) = true := by rw [k7]; rfl
  have e1 : (t.k == 1) = false := by rw [k7]; rfl
  have HE : Hid (stepP n x t = if findNo t.b t.c = 0 then ⟨x, -1, 10⟩ else if allowB n t = false then ⟨x, -1, 11⟩ else if (stepT x t).c ≠ 0 then ⟨x, -1, (stepT x t).c⟩ else ⟨(stepT x t).y, (stepT x t).r, 0⟩) := Lib.hid (by
    unfold stepP
    rw [if_neg (by omega : ¬ t.k = 8)]
    by_cases hf : findNo t.b t.c = 0
    · rw [if_pos (.inr ⟨k7, hf⟩), if_pos hf]
    · rw [if_neg (by rintro (h | ⟨_, h⟩); omega; exact hf h), if_neg hf, if_neg (by omega : ¬ (t.k = 1 ∧ t.a = 10))])
  clear hB0 hT0 hS0 b0 k7 ht hx
  unfold PrDone prV at HP
  unfold StpDone stpV at HSt
  unfold prV at HAl
  unfold stV at HSt ⊢
  unfold tokV at HAl HSt ⊢
  generalize stepP n x t = st at *
  generalize allowB n t = al at *
  generalize stepT x t = so at *
  obtain ⟨y, r, c⟩ := so
  dsimp only at HE HSt
  go_enter Tryz.func66, Tryz.ntmps66
  go_wp2_with fail
  refine (HP.out _).mono ?_
  generalize ((w.alloc (.cells #[.int .i64 x.g0, .int .i64 x.g1, .int .i64 x.g2, .int .i64 x.g3, .int .i64 x.l, .int .i64 x.s, .int .i64 x.d] 39)).alloc (.cells #[.int .i64 t.k, .int .i64 t.a, .int .i64 t.b, .int .i64 t.c, .int .i64 t.p, .int .i64 t.n] 102)).alloc (.cells #[.int .i64 0, .int .i64 0, .int .i64 0, .int .i64 0, .int .i64 0, .int .i64 0, .int .i64 0] 39) = W0 at *
  rintro e w1 ⟨v, rfl, hv, b1⟩
  obtain ⟨gs, cs, rfl⟩ := hv.form
  have B1 : Hid (Below w.heap.size w (w1.alloc (.cells #[.string (prName n), .string (prHead n), .slice (some ⟨gs, 0, none⟩) 4 cs, .bool (prRight n), .bool (prShifts n), .bool (prSingle n), .bool (prReset n), .bool (prClear n)] 60))) := Lib.hid ((B0.out.trans (b1.mono B0.out.size)).alloc (B0.out.trans (b1.mono B0.out.size)).size _)
  have HB1 := Lib.hid ((HB0.out.keep b1).keep (below_one w1 (.cells #[.string (prName n), .string (prHead n), .slice (some ⟨gs, 0, none⟩) 4 cs, .bool (prRight n), .bool (prShifts n), .bool (prSingle n), .bool (prReset n), .bool (prClear n)] 60)))
  have HK1 := Lib.hid ((HK0.out.keep b1).keep (below_one w1 (.cells #[.string (prName n), .string (prHead n), .slice (some ⟨gs, 0, none⟩) 4 cs, .bool (prRight n), .bool (prShifts n), .bool (prSingle n), .bool (prReset n), .bool (prClear n)] 60)))
  have HS1 := Lib.hid ((HS0.out.keep b1).keep (below_one w1 (.cells #[.string (prName n), .string (prHead n), .slice (some ⟨gs, 0, none⟩) 4 cs, .bool (prRight n), .bool (prShifts n), .bool (prSingle n), .bool (prReset n), .bool (prClear n)] 60)))
  have HA1 : Hid (PrAt (w1.alloc (.cells #[.string (prName n), .string (prHead n), .slice (some ⟨gs, 0, none⟩) 4 cs, .bool (prRight n), .bool (prShifts n), .bool (prSingle n), .bool (prReset n), .bool (prClear n)] 60)) w1.heap.size n (.slice (some ⟨gs, 0, none⟩) 4 cs)) := Lib.hid (heap_alloc_new _ _)
  have HV1 := Lib.hid (hv.keep (below_one w1 (.cells #[.string (prName n), .string (prHead n), .slice (some ⟨gs, 0, none⟩) 4 cs, .bool (prRight n), .bool (prShifts n), .bool (prSingle n), .bool (prReset n), .bool (prClear n)] 60)))
  clear b1 hv HB0 HK0 HS0
  have ⟨t0, t1, t2, t3, t4, t5⟩ := HK1.out.cells
  go_wp2_with fail
  refine (HF.out _).mono ?_
  generalize w1.alloc (.cells #[.string (prName n), .string (prHead n), .slice (some ⟨gs, 0, none⟩) 4 cs, .bool (prRight n), .bool (prShifts n), .bool (prSingle n), .bool (prReset n), .bool (prClear n)] 60) = W1 at *
  clear t0 t1 t2 t3 t4 t5
  rintro e w2 ⟨rfl, b2⟩
  have B2 : Hid (Below w.heap.size w w2) := Lib.hid (B1.out.trans (b2.mono B1.out.size))
  have HB2 := Lib.hid (HB1.out.keep b2)
  have HK2 := Lib.hid (HK1.out.keep b2)
  have HS2 := Lib.hid (HS1.out.keep b2)
  have HA2 := Lib.hid (HA1.out.keep b2)
  have HV2 := Lib.hid (HV1.out.keep b2)
  clear b2 B1 HB1 HK1 HS1 HA1 HV1
  have ⟨t0, t1, t2, t3, t4, t5⟩ := HK2.out.cells
  by_cases hf : findNo t.b t.c = 0
  · have HR : Hid (st = ⟨x, -1, 10⟩) := Lib.hid (by rw [HE.out, if_pos hf])
    have ef : (findNo t.b t.c == 0) = true := by simp [hf]
    generalize findNo t.b t.c = ff at *
    clear hf HE
    have ⟨y0, y1, y2, y3, y4, y5, y6⟩ := HB2.out.cells
    have ⟨r0, r1, r2, r3, r4, r5, r6⟩ := HS2.out.cells
    have ⟨z0, z1, z2, z3, z4, z5, z6⟩ := HS2.out.thaw
    simp only [zeroSt] at r0 r1 r2 r3 r4 r5 r6
    have hl : w.heap.size + 2 < w2.heap.size := HS2.out.lt
    go_wp2
    exact st_ret3 (y := x) (r := -1) (c := 10) rfl rfl rfl rfl (HS2.out.put x) Tryz.underlying39 rfl (by kernel_rfl) rfl ⟨by rw [HR.out], below_putSt B2.out (by omega) x⟩
  rw [if_neg hf] at HE
  have ef : (findNo t.b t.c == 0) = false := by simp [hf]
  generalize findNo t.b t.c = ff at *
  clear hf
  have ⟨p0, p1, p2, p3, p4, p5, p6, p7⟩ := row8_cells HA2.out
  go_wp2_with fail
  refine (HAl.out _ _ HV2.out).mono ?_
  clear p0 p1 p2 p3 p4 p5 p6 p7 t0 t1 t2 t3 t4 t5
  rintro e w3 ⟨rfl, b3⟩
  have B3 : Hid (Below w.heap.size w w3) := Lib.hid (B2.out.trans (b3.mono B2.out.size))
  have HB3 := Lib.hid (HB2.out.keep b3)
  have HK3 := Lib.hid (HK2.out.keep b3)
  have HS3 := Lib.hid (HS2.out.keep b3)
  have HA3 := Lib.hid (HA2.out.keep b3)
  have HV3 := Lib.hid (HV2.out.keep b3)
  clear b3 B2 HB2 HK2 HS2 HA2 HV2
  cases al
  · have HR : Hid (st = ⟨x, -1, 11⟩) := Lib.hid (by rw [HE.out]; rfl)
    have ⟨y0, y1, y2, y3, y4, y5, y6⟩ := HB3.out.cells
    have ⟨r0, r1, r2, r3, r4, r5, r6⟩ := HS3.out.cells
    have ⟨z0, z1, z2, z3, z4, z5, z6⟩ := HS3.out.thaw
    simp only [zeroSt] at r0 r1 r2 r3 r4 r5 r6
    have hl : w.heap.size + 2 < w3.heap.size := HS3.out.lt
    go_wp2
    exact st_ret3 (y := x) (r := -1) (c := 11) rfl rfl rfl rfl (HS3.out.put x) Tryz.underlying39 rfl (by kernel_rfl) rfl ⟨by rw [HR.out], below_putSt B3.out (by omega) x⟩
  have ⟨t0, t1, t2, t3, t4, t5⟩ := HK3.out.cells
  have ⟨y0, y1, y2, y3, y4, y5, y6⟩ := HB3.out.cells
  go_wp2_with fail
  refine (HSt.out _).mono ?_
  clear y0 y1 y2 y3 y4 y5 y6 t0 t1 t2 t3 t4 t5
  rintro e w4 ⟨rfl, b4⟩
  have b5 : Below w3.heap.size w3 (w4.alloc (.cells #[.int .i64 y.g0, .int .i64 y.g1, .int .i64 y.g2, .int .i64 y.g3, .int .i64 y.l, .int .i64 y.s, .int .i64 y.d] 39)) := b4.alloc b4.size _
  have hy4 : w.heap.size + 2 < w4.heap.size := (HS3.out.keep b4).lt
  have HB4x : Hid (Below w.heap.size w w4) := Lib.hid (B3.out.trans (b4.mono B3.out.size))
  clear b4
  have B5 : Hid (Below w.heap.size w (w4.alloc (.cells #[.int .i64 y.g0, .int .i64 y.g1, .int .i64 y.g2, .int .i64 y.g3, .int .i64 y.l, .int .i64 y.s, .int .i64 y.d] 39))) := Lib.hid (B3.out.trans (b5.mono B3.out.size))
  have HB5 := Lib.hid (HB3.out.keep b5)
  have HK5 := Lib.hid (HK3.out.keep b5)
  have HS5 := Lib.hid (HS3.out.keep b5)
  have HA5 := Lib.hid (HA3.out.keep b5)
  have HV5 := Lib.hid (HV3.out.keep b5)
  clear b5 B3 HB3 HK3 HS3 HA3 HV3
  have HY5 : Hid (StAt (w4.alloc (.cells #[.int .i64 y.g0, .int .i64 y.g1, .int .i64 y.g2, .int .i64 y.g3, .int .i64 y.l, .int .i64 y.s, .int .i64 y.d] 39)) w4.heap.size y) := Lib.hid (heap_alloc_new _ _)
  by_cases hc : c = 0
  · subst hc
    have HR : Hid (st = ⟨y, r, 0⟩) := Lib.hid (by rw [HE.out]; simp)
    have ⟨y0, y1, y2, y3, y4, y5, y6⟩ := HY5.out.cells
    have ⟨t0, t1, t2, t3, t4, t5⟩ := HK5.out.cells
    have HS4 : Hid (StAt w4 (w.heap.size + 2) zeroSt) := Lib.hid (((below_one w4 (.cells #[.int .i64 y.g0, .int .i64 y.g1, .int .i64 y.g2, .int .i64 y.g3, .int .i64 y.l, .int .i64 y.s, .int .i64 y.d] 39)).block _ hy4).symm.trans HS5.out)
    have B4 : Hid (Below w.heap.size w w4) := Lib.hid (HB4x.out)
    have ⟨r0, r1, r2, r3, r4, r5, r6⟩ := HS4.out.cells
    have ⟨z0, z1, z2, z3, z4, z5, z6⟩ := HS4.out.thaw
    simp only [zeroSt] at r0 r1 r2 r3 r4 r5 r6
    go_wp2
    exact st_ret3 (y := y) (r := r) (c := 0) rfl rfl rfl rfl ((HS4.out.put y).keep (below_one _ _)) Tryz.underlying39 rfl (by kernel_rfl) rfl ⟨by rw [HR.out], (below_putSt B4.out (by omega) y).alloc (below_putSt B4.out (by omega) y).size _⟩
  · have HR : Hid (st = ⟨x, -1, c⟩) := Lib.hid (by rw [HE.out]; simp [hc])
    have ec : (c != 0) = true := by simp [hc]
    have ⟨y0, y1, y2, y3, y4, y5, y6⟩ := HB5.out.cells
    have HS4 : Hid (StAt w4 (w.heap.size + 2) zeroSt) := Lib.hid (((below_one w4 (.cells #[.int .i64 y.g0, .int .i64 y.g1, .int .i64 y.g2, .int .i64 y.g3, .int .i64 y.l, .int .i64 y.s, .int .i64 y.d] 39)).block _ hy4).symm.trans HS5.out)
    have B4 : Hid (Below w.heap.size w w4) := Lib.hid (HB4x.out)
    have HB4 : Hid (StAt w4 w.heap.size x) := Lib.hid (((below_one w4 (.cells #[.int .i64 y.g0, .int .i64 y.g1, .int .i64 y.g2, .int .i64 y.g3, .int .i64 y.l, .int .i64 y.s, .int .i64 y.d] 39)).block _ (by omega)).symm.trans HB5.out)
    have ⟨q0, q1, q2, q3, q4, q5, q6⟩ := HB4.out.cells
    have ⟨r0, r1, r2, r3, r4, r5, r6⟩ := HS4.out.cells
    have ⟨z0, z1, z2, z3, z4, z5, z6⟩ := HS4.out.thaw
    simp only [zeroSt] at r0 r1 r2 r3 r4 r5 r6
    go_wp2
    exact st_ret3 (y := x) (r := -1) (c := c) rfl rfl rfl rfl ((HS4.out.put x).keep (below_one _ _)) Tryz.underlying39 rfl (by kernel_rfl) rfl ⟨by rw [HR.out], (below_putSt B4.out (by omega) x).alloc (below_putSt B4.out (by omega) x).size _⟩

set_option maxHeartbeats 4000000 in
theorem spec_l05StepO (n : Int) (x : St) (t : Tok) (w : World) (hx : stOKB x = true) (ht : tokLP t) (k7 : t.k ≠ 7) : Calls Tryz.prog 66 #[.int .i64 n, stV x, tokV t] w (StpDone (stepP n x t) w) := by
  have HP := Lib.hid (fun w => spec_l05Profile n w)
  have HAl := Lib.hid (fun v w hv => spec_l05Allows n v t w hv ht)
  have HSt := Lib.hid (fun w => spec_l04Step x t w hx ht)
  have HRe := Lib.hid (fun v w => spec_l05Rest n v x w)
  have ⟨hB0, hT0, hS0, b0⟩ := step_blocks w x t
  have HB0 := Lib.hid hB0
  have HK0 := Lib.hid hT0
  have HS0 := Lib.hid hS0
  have B0 := Lib.hid b0
  have e7 : (t.k == 7) = false := by simp [k7]
  have HE : Hid (stepP n x t = if t.k = 8 then ⟨x, -1, 13⟩ else if t.k = 9 then ⟨x, -1, 10⟩ else if allowB n t = false then ⟨x, -1, 11⟩ else if (stepT x t).c ≠ 0 then ⟨x, -1, (stepT x t).c⟩ else if t.k = 1 ∧ t.a = 10 then (if restB n x = true then ⟨lineX n (stepT x t).y, (stepT x t).r, 0⟩ else ⟨x, -1, 14⟩) else ⟨(stepT x t).y, (stepT x t).r, 0⟩) := Lib.hid (by
    unfold stepP
    by_cases h8 : t.k = 8
    · rw [if_pos h8, if_pos h8]
    rw [if_neg h8, if_neg h8]
    by_cases h9 : t.k = 9
    · rw [if_pos (.inl h9), if_pos h9]
    · rw [if_neg (show ¬ (t.k = 9 ∨ (t.k = 7 ∧ findNo t.b t.c = 0)) by rintro (h | ⟨h, _⟩); exact h9 h; exact k7 h), if_neg h9])
  clear hB0 hT0 hS0 b0 k7 ht hx
  unfold PrDone prV at HP
  unfold StpDone stpV at HSt
  unfold prV at HAl HRe
  unfold stV at HSt HRe ⊢
  unfold tokV at HAl HSt ⊢
  generalize stepP n x t = st at *
  generalize allowB n t = al at *
  generalize stepT x t = so at *
  obtain ⟨y, r, c⟩ := so
  dsimp only at HE HSt
  go_enter Tryz.func66, Tryz.ntmps66
  go_wp2_with fail
  refine (HP.out _).mono ?_
  generalize ((w.alloc (.cells #[.int .i64 x.g0, .int .i64 x.g1, .int .i64 x.g2, .int .i64 x.g3, .int .i64 x.l, .int .i64 x.s, .int .i64 x.d] 39)).alloc (.cells #[.int .i64 t.k, .int .i64 t.a, .int .i64 t.b, .int .i64 t.c, .int .i64 t.p, .int .i64 t.n] 102)).alloc (.cells #[.int .i64 0, .int .i64 0, .int .i64 0, .int .i64 0, .int .i64 0, .int .i64 0, .int .i64 0] 39) = W0 at *
  rintro e w1 ⟨v, rfl, hv, b1⟩
  obtain ⟨gs, cs, rfl⟩ := hv.form
  have B1 : Hid (Below w.heap.size w (w1.alloc (.cells #[.string (prName n), .string (prHead n), .slice (some ⟨gs, 0, none⟩) 4 cs, .bool (prRight n), .bool (prShifts n), .bool (prSingle n), .bool (prReset n), .bool (prClear n)] 60))) := Lib.hid ((B0.out.trans (b1.mono B0.out.size)).alloc (B0.out.trans (b1.mono B0.out.size)).size _)
  have HB1 := Lib.hid ((HB0.out.keep b1).keep (below_one w1 (.cells #[.string (prName n), .string (prHead n), .slice (some ⟨gs, 0, none⟩) 4 cs, .bool (prRight n), .bool (prShifts n), .bool (prSingle n), .bool (prReset n), .bool (prClear n)] 60)))
  have HK1 := Lib.hid ((HK0.out.keep b1).keep (below_one w1 (.cells #[.string (prName n), .string (prHead n), .slice (some ⟨gs, 0, none⟩) 4 cs, .bool (prRight n), .bool (prShifts n), .bool (prSingle n), .bool (prReset n), .bool (prClear n)] 60)))
  have HS1 := Lib.hid ((HS0.out.keep b1).keep (below_one w1 (.cells #[.string (prName n), .string (prHead n), .slice (some ⟨gs, 0, none⟩) 4 cs, .bool (prRight n), .bool (prShifts n), .bool (prSingle n), .bool (prReset n), .bool (prClear n)] 60)))
  have HA1 : Hid (PrAt (w1.alloc (.cells #[.string (prName n), .string (prHead n), .slice (some ⟨gs, 0, none⟩) 4 cs, .bool (prRight n), .bool (prShifts n), .bool (prSingle n), .bool (prReset n), .bool (prClear n)] 60)) w1.heap.size n (.slice (some ⟨gs, 0, none⟩) 4 cs)) := Lib.hid (heap_alloc_new _ _)
  have HV1 := Lib.hid (hv.keep (below_one w1 (.cells #[.string (prName n), .string (prHead n), .slice (some ⟨gs, 0, none⟩) 4 cs, .bool (prRight n), .bool (prShifts n), .bool (prSingle n), .bool (prReset n), .bool (prClear n)] 60)))
  have HB1x := Lib.hid (HB0.out.keep b1)
  have HS1x := Lib.hid (HS0.out.keep b1)
  have B1x : Hid (Below w.heap.size w w1) := Lib.hid (B0.out.trans (b1.mono B0.out.size))
  clear b1 hv HB0 HK0 HS0
  have ⟨t0, t1, t2, t3, t4, t5⟩ := HK1.out.cells
  generalize hw2 : w1.alloc (.cells #[.string (prName n), .string (prHead n), .slice (some ⟨gs, 0, none⟩) 4 cs, .bool (prRight n), .bool (prShifts n), .bool (prSingle n), .bool (prReset n), .bool (prClear n)] 60) = w2 at *
  have B2 := B1
  have HB2 := HB1
  have HK2 := HK1
  have HS2 := HS1
  have HA2 := HA1
  have HV2 := HV1
  clear B1 HB1 HK1 HS1 HA1 HV1
  by_cases h8 : t.k = 8
  · have HR : Hid (st = ⟨x, -1, 13⟩) := Lib.hid (by rw [HE.out, if_pos h8])
    have e8 : (t.k == 8) = true := by simp [h8]
    subst hw2
    clear HE h8
    have HB3 : Hid (StAt w1 w.heap.size x) := HB1x
    have HS3 : Hid (StAt w1 (w.heap.size + 2) zeroSt) := HS1x
    have ⟨q0, q1, q2, q3, q4, q5, q6⟩ := HB3.out.cells
    have ⟨y0, y1, y2, y3, y4, y5, y6⟩ := HB2.out.cells
    have ⟨r0, r1, r2, r3, r4, r5, r6⟩ := HS3.out.cells
    have ⟨z0, z1, z2, z3, z4, z5, z6⟩ := HS3.out.thaw
    simp only [zeroSt] at r0 r1 r2 r3 r4 r5 r6
    have hl : w.heap.size + 2 < w1.heap.size := HS3.out.lt
    go_wp2
    exact st_ret3 (y := x) (r := -1) (c := 13) rfl rfl rfl rfl ((HS3.out.put x).keep (below_one _ _)) Tryz.underlying39 rfl (by kernel_rfl) rfl ⟨by rw [HR.out], (below_putSt B1x.out (by omega) x).alloc (below_putSt B1x.out (by omega) x).size _⟩
  rw [if_neg h8] at HE
  have e8 : (t.k == 8) = false := by simp [h8]
  by_cases h9 : t.k = 9
  · have HR : Hid (st = ⟨x, -1, 10⟩) := Lib.hid (by rw [HE.out, if_pos h9])
    have e9 : (t.k == 9) = true := by simp [h9]
    subst hw2
    clear HE h8 h9
    have HB3 : Hid (StAt w1 w.heap.size x) := HB1x
    have HS3 : Hid (StAt w1 (w.heap.size + 2) zeroSt) := HS1x
    have ⟨q0, q1, q2, q3, q4, q5, q6⟩ := HB3.out.cells
    have ⟨y0, y1, y2, y3, y4, y5, y6⟩ := HB2.out.cells
    have ⟨r0, r1, r2, r3, r4, r5, r6⟩ := HS3.out.cells
    have ⟨z0, z1, z2, z3, z4, z5, z6⟩ := HS3.out.thaw
    simp only [zeroSt] at r0 r1 r2 r3 r4 r5 r6
    have hl : w.heap.size + 2 < w1.heap.size := HS3.out.lt
    go_wp2
    exact st_ret3 (y := x) (r := -1) (c := 10) rfl rfl rfl rfl ((HS3.out.put x).keep (below_one _ _)) Tryz.underlying39 rfl (by kernel_rfl) rfl ⟨by rw [HR.out], (below_putSt B1x.out (by omega) x).alloc (below_putSt B1x.out (by omega) x).size _⟩
  rw [if_neg h9] at HE
  have e9 : (t.k == 9) = false := by simp [h9]
  subst hw2
  clear h8 h9
  have ⟨p0, p1, p2, p3, p4, p5, p6, p7⟩ := row8_cells HA2.out
  go_wp2_with fail
  refine (HAl.out _ _ HV2.out).mono ?_
  generalize w1.alloc (.cells #[.string (prName n), .string (prHead n), .slice (some ⟨gs, 0, none⟩) 4 cs, .bool (prRight n), .bool (prShifts n), .bool (prSingle n), .bool (prReset n), .bool (prClear n)] 60) = W1 at *
  clear p0 p1 p2 p3 p4 p5 p6 p7 t0 t1 t2 t3 t4 t5
  rintro e w3 ⟨rfl, b3⟩
  have B3 : Hid (Below w.heap.size w w3) := Lib.hid (B2.out.trans (b3.mono B2.out.size))
  have HB3 := Lib.hid (HB2.out.keep b3)
  have HK3 := Lib.hid (HK2.out.keep b3)
  have HS3 := Lib.hid (HS2.out.keep b3)
  have HA3 := Lib.hid (HA2.out.keep b3)
  have HV3 := Lib.hid (HV2.out.keep b3)
  clear b3 B2 HB2 HK2 HS2 HA2 HV2
  cases al
  · have HR : Hid (st = ⟨x, -1, 11⟩) := Lib.hid (by rw [HE.out]; rfl)
    have ⟨y0, y1, y2, y3, y4, y5, y6⟩ := HB3.out.cells
    have ⟨r0, r1, r2, r3, r4, r5, r6⟩ := HS3.out.cells
    have ⟨z0, z1, z2, z3, z4, z5, z6⟩ := HS3.out.thaw
    simp only [zeroSt] at r0 r1 r2 r3 r4 r5 r6
    have hl : w.heap.size + 2 < w3.heap.size := HS3.out.lt
    go_wp2
    exact st_ret3 (y := x) (r := -1) (c := 11) rfl rfl rfl rfl (HS3.out.put x) Tryz.underlying39 rfl (by kernel_rfl) rfl ⟨by rw [HR.out], below_putSt B3.out (by omega) x⟩
  have ⟨t0, t1, t2, t3, t4, t5⟩ := HK3.out.cells
  have ⟨y0, y1, y2, y3, y4, y5, y6⟩ := HB3.out.cells
  go_wp2_with fail
  refine (HSt.out _).mono ?_
  clear y0 y1 y2 y3 y4 y5 y6 t0 t1 t2 t3 t4 t5
  rintro e w4 ⟨rfl, b4⟩
  have b5 : Below w3.heap.size w3 (w4.alloc (.cells #[.int .i64 y.g0, .int .i64 y.g1, .int .i64 y.g2, .int .i64 y.g3, .int .i64 y.l, .int .i64 y.s, .int .i64 y.d] 39)) := b4.alloc b4.size _
  have hy4 : w.heap.size + 2 < w4.heap.size := (HS3.out.keep b4).lt
  have HB4x : Hid (Below w.heap.size w w4) := Lib.hid (B3.out.trans (b4.mono B3.out.size))
  clear b4
  have B5 : Hid (Below w.heap.size w (w4.alloc (.cells #[.int .i64 y.g0, .int .i64 y.g1, .int .i64 y.g2, .int .i64 y.g3, .int .i64 y.l, .int .i64 y.s, .int .i64 y.d] 39))) := Lib.hid (B3.out.trans (b5.mono B3.out.size))
  have HB5 := Lib.hid (HB3.out.keep b5)
  have HK5 := Lib.hid (HK3.out.keep b5)
  have HS5 := Lib.hid (HS3.out.keep b5)
  have HA5 := Lib.hid (HA3.out.keep b5)
  have HV5 := Lib.hid (HV3.out.keep b5)
  clear b5 B3 HB3 HK3 HS3 HA3 HV3
  have HY5 : Hid (StAt (w4.alloc (.cells #[.int .i64 y.g0, .int .i64 y.g1, .int .i64 y.g2, .int .i64 y.g3, .int .i64 y.l, .int .i64 y.s, .int .i64 y.d] 39)) w4.heap.size y) := Lib.hid (heap_alloc_new _ _)
  by_cases hc : c = 0
  · subst hc
    by_cases h1 : t.k = 1 ∧ t.a = 10
    · have e1 : (t.k == 1) = true := by simp [h1.1]
      have ea : (t.a == 10) = true := by simp [h1.2]
      cases hr : restB n x
      · have HR : Hid (st = ⟨x, -1, 14⟩) := Lib.hid (by rw [HE.out]; simp [h1, hr])
        rw [hr] at HRe
        clear h1 hr
        have ⟨p0, p1, p2, p3, p4, p5, p6, p7⟩ := row8_cells HA5.out
        have ⟨t0, t1, t2, t3, t4, t5⟩ := HK5.out.cells
        have ⟨y0, y1, y2, y3, y4, y5, y6⟩ := HB5.out.cells
        go_wp2_with fail
        refine (HRe.out _ _).mono ?_
        generalize w4.alloc (.cells #[.int .i64 y.g0, .int .i64 y.g1, .int .i64 y.g2, .int .i64 y.g3, .int .i64 y.l, .int .i64 y.s, .int .i64 y.d] 39) = W4 at *
        clear p0 p1 p2 p3 p4 p5 p6 p7 t0 t1 t2 t3 t4 t5 y0 y1 y2 y3 y4 y5 y6
        rintro e w6 ⟨rfl, b6⟩
        have B6 : Hid (Below w.heap.size w w6) := Lib.hid (B5.out.trans (b6.mono B5.out.size))
        have HB6 := Lib.hid (HB5.out.keep b6)
        have HK6 := Lib.hid (HK5.out.keep b6)
        have HS6 := Lib.hid (HS5.out.keep b6)
        have HA6 := Lib.hid (HA5.out.keep b6)
        have HV6 := Lib.hid (HV5.out.keep b6)
        clear b6 B5 HB5 HK5 HS5 HA5 HV5
        have ⟨y0, y1, y2, y3, y4, y5, y6⟩ := HB6.out.cells
        have ⟨r0, r1, r2, r3, r4, r5, r6⟩ := HS6.out.cells
        have ⟨z0, z1, z2, z3, z4, z5, z6⟩ := HS6.out.thaw
        simp only [zeroSt] at r0 r1 r2 r3 r4 r5 r6
        have hl : w.heap.size + 2 < w6.heap.size := HS6.out.lt
        go_wp2
        exact st_ret3 (y := x) (r := -1) (c := 14) rfl rfl rfl rfl (HS6.out.put x) Tryz.underlying39 rfl (by kernel_rfl) rfl ⟨by rw [HR.out], below_putSt B6.out (by omega) x⟩
      · have HR : Hid (st = ⟨lineX n y, r, 0⟩) := Lib.hid (by rw [HE.out]; simp [h1, hr])
        rw [hr] at HRe
        clear h1 hr
        have ⟨p0, p1, p2, p3, p4, p5, p6, p7⟩ := row8_cells HA5.out
        have ⟨t0, t1, t2, t3, t4, t5⟩ := HK5.out.cells
        have ⟨y0, y1, y2, y3, y4, y5, y6⟩ := HB5.out.cells
        go_wp2_with fail
        refine (HRe.out _ _).mono ?_
        generalize w4.alloc (.cells #[.int .i64 y.g0, .int .i64 y.g1, .int .i64 y.g2, .int .i64 y.g3, .int .i64 y.l, .int .i64 y.s, .int .i64 y.d] 39) = W4 at *
        clear p0 p1 p2 p3 p4 p5 p6 p7 t0 t1 t2 t3 t4 t5 y0 y1 y2 y3 y4 y5 y6
        rintro e w6 ⟨rfl, b6⟩
        have HY6 := Lib.hid (HY5.out.keep b6)
        have B6 : Hid (Below w.heap.size w w6) := Lib.hid (B5.out.trans (b6.mono B5.out.size))
        have HB6 := Lib.hid (HB5.out.keep b6)
        have HK6 := Lib.hid (HK5.out.keep b6)
        have HS6 := Lib.hid (HS5.out.keep b6)
        have HA6 := Lib.hid (HA5.out.keep b6)
        have HV6 := Lib.hid (HV5.out.keep b6)
        clear b6 B5 HB5 HK5 HS5 HA5 HV5
        have ⟨y0, y1, y2, y3, y4, y5, y6⟩ := HY6.out.cells
        have HLi := Lib.hid (fun w => spec_l05Line n y w)
        unfold StDone stV at HLi
        generalize lineX n y = z at *
        go_wp2_with fail
        refine (HLi.out _).mono ?_
        clear y0 y1 y2 y3 y4 y5 y6
        rintro e w7 ⟨rfl, b7⟩
        have HY7 := Lib.hid (HY6.out.keep b7)
        have B7 : Hid (Below w.heap.size w w7) := Lib.hid (B6.out.trans (b7.mono B6.out.size))
        have HB7 := Lib.hid (HB6.out.keep b7)
        have HK7 := Lib.hid (HK6.out.keep b7)
        have HS7 := Lib.hid (HS6.out.keep b7)
        have HA7 := Lib.hid (HA6.out.keep b7)
        have HV7 := Lib.hid (HV6.out.keep b7)
        clear b7 B6 HB6 HK6 HS6 HA6 HV6
        have HY8 := Lib.hid (HY7.out.put z)
        have HS8 : Hid (StAt (putSt w7 w4.heap.size z) (w.heap.size + 2) zeroSt) := Lib.hid (by
          unfold StAt
          rw [heap_putSt _ (by omega)]
          exact HS7.out)
        have B8 : Hid (Below w.heap.size w (putSt w7 w4.heap.size z)) := Lib.hid (below_putSt B7.out (by omega) z)
        have ⟨y0, y1, y2, y3, y4, y5, y6⟩ := HY7.out.cells
        have ⟨q0, q1, q2, q3, q4, q5, q6⟩ := HY7.out.thaw
        have ⟨r0, r1, r2, r3, r4, r5, r6⟩ := HS7.out.cells
        have ⟨z0, z1, z2, z3, z4, z5, z6⟩ := HS7.out.thaw
        simp only [zeroSt] at r0 r1 r2 r3 r4 r5 r6
        have hl7 : w4.heap.size < w7.heap.size := HY7.out.lt
        have hl8 : w.heap.size + 2 < w7.heap.size := HS7.out.lt
        have hne : w.heap.size + 2 ≠ w4.heap.size := by omega
        go_wp2
        exact st_ret3 (y := z) (r := r) (c := 0) rfl rfl rfl rfl (HS8.out.put z) Tryz.underlying39 rfl (by kernel_rfl) rfl ⟨by rw [HR.out], below_putSt B8.out (by omega) z⟩
    by_cases k1 : t.k = 1
    · have e1 : (t.k == 1) = true := by simp [k1]
      have ea : (t.a == 10) = false := by
        have : ¬ t.a = 10 := fun h => h1 ⟨k1, h⟩
        simp [this]
      have HR : Hid (st = ⟨y, r, 0⟩) := Lib.hid (by rw [HE.out]; simp [h1])
      clear h1 k1
      have ⟨y0, y1, y2, y3, y4, y5, y6⟩ := HY5.out.cells
      have ⟨t0, t1, t2, t3, t4, t5⟩ := HK5.out.cells
      have HS4 : Hid (StAt w4 (w.heap.size + 2) zeroSt) := Lib.hid (((below_one w4 (.cells #[.int .i64 y.g0, .int .i64 y.g1, .int .i64 y.g2, .int .i64 y.g3, .int .i64 y.l, .int .i64 y.s, .int .i64 y.d] 39)).block _ hy4).symm.trans HS5.out)
      have B4 : Hid (Below w.heap.size w w4) := Lib.hid (HB4x.out)
      have ⟨r0, r1, r2, r3, r4, r5, r6⟩ := HS4.out.cells
      have ⟨z0, z1, z2, z3, z4, z5, z6⟩ := HS4.out.thaw
      simp only [zeroSt] at r0 r1 r2 r3 r4 r5 r6
      go_wp2
      exact st_ret3 (y := y) (r := r) (c := 0) rfl rfl rfl rfl ((HS4.out.put y).keep (below_one _ _)) Tryz.underlying39 rfl (by kernel_rfl) rfl ⟨by rw [HR.out], (below_putSt B4.out (by omega) y).alloc (below_putSt B4.out (by omega) y).size _⟩
    · have e1 : (t.k == 1) = false := by simp [k1]
      have HR : Hid (st = ⟨y, r, 0⟩) := Lib.hid (by rw [HE.out]; simp [h1])
      clear h1 k1
      have ⟨y0, y1, y2, y3, y4, y5, y6⟩ := HY5.out.cells
      have ⟨t0, t1, t2, t3, t4, t5⟩ := HK5.out.cells
      have HS4 : Hid (StAt w4 (w.heap.size + 2) zeroSt) := Lib.hid (((below_one w4 (.cells #[.int .i64 y.g0, .int .i64 y.g1, .int .i64 y.g2, .int .i64 y.g3, .int .i64 y.l, .int .i64 y.s, .int .i64 y.d] 39)).block _ hy4).symm.trans HS5.out)
      have B4 : Hid (Below w.heap.size w w4) := Lib.hid (HB4x.out)
      have ⟨r0, r1, r2, r3, r4, r5, r6⟩ := HS4.out.cells
      have ⟨z0, z1, z2, z3, z4, z5, z6⟩ := HS4.out.thaw
      simp only [zeroSt] at r0 r1 r2 r3 r4 r5 r6
      go_wp2
      exact st_ret3 (y := y) (r := r) (c := 0) rfl rfl rfl rfl ((HS4.out.put y).keep (below_one _ _)) Tryz.underlying39 rfl (by kernel_rfl) rfl ⟨by rw [HR.out], (below_putSt B4.out (by omega) y).alloc (below_putSt B4.out (by omega) y).size _⟩
  · have HR : Hid (st = ⟨x, -1, c⟩) := Lib.hid (by rw [HE.out]; simp [hc])
    have ec : (c != 0) = true := by simp [hc]
    have ⟨y0, y1, y2, y3, y4, y5, y6⟩ := HB5.out.cells
    have HS4 : Hid (StAt w4 (w.heap.size + 2) zeroSt) := Lib.hid (((below_one w4 (.cells #[.int .i64 y.g0, .int .i64 y.g1, .int .i64 y.g2, .int .i64 y.g3, .int .i64 y.l, .int .i64 y.s, .int .i64 y.d] 39)).block _ hy4).symm.trans HS5.out)
    have B4 : Hid (Below w.heap.size w w4) := Lib.hid (HB4x.out)
    have HB4 : Hid (StAt w4 w.heap.size x) := Lib.hid (((below_one w4 (.cells #[.int .i64 y.g0, .int .i64 y.g1, .int .i64 y.g2, .int .i64 y.g3, .int .i64 y.l, .int .i64 y.s, .int .i64 y.d] 39)).block _ (by omega)).symm.trans HB5.out)
    have ⟨q0, q1, q2, q3, q4, q5, q6⟩ := HB4.out.cells
    have ⟨r0, r1, r2, r3, r4, r5, r6⟩ := HS4.out.cells
    have ⟨z0, z1, z2, z3, z4, z5, z6⟩ := HS4.out.thaw
    simp only [zeroSt] at r0 r1 r2 r3 r4 r5 r6
    go_wp2
    exact st_ret3 (y := x) (r := -1) (c := c) rfl rfl rfl rfl ((HS4.out.put x).keep (below_one _ _)) Tryz.underlying39 rfl (by kernel_rfl) rfl ⟨by rw [HR.out], (below_putSt B4.out (by omega) x).alloc (below_putSt B4.out (by omega) x).size _⟩

end Go.Proofs.YtbamjhldebobhaaGreatDoor

namespace Go.Proofs.YtbamjhldebobhaaGreatDoor
open Go.RowKit Go.Sort

theorem spec_l05Step (n : Int) (x : St) (t : Tok) (w : World) (hx : stOKB x = true) (ht : tokLP t) : Calls Tryz.prog 66 #[.int .i64 n, stV x, tokV t] w (StpDone (stepP n x t) w) := by
  by_cases h : t.k = 7
  · exact spec_l05Step7 n x t w hx ht h
  · exact spec_l05StepO n x t w hx ht h
theorem stepP_code {n : Int} {x : St} {t : Tok} (h : (stepP n x t).c ≠ 0) : (stepP n x t).y = x ∧ (stepP n x t).r = -1 := by
  unfold stepP at h ⊢
  repeat' split
  all_goals first | exact ⟨rfl, rfl⟩ | (exfalso; simp_all)
theorem stepP_r {n : Int} {x : St} {t : Tok} (ht : tokLP t) : (stepP n x t).r = -1 ∨ 0 ≤ (stepP n x t).r := by
  have h := stepT_r (x := x) ht
  unfold stepP
  repeat' split
  all_goals first | exact .inl rfl | exact h
/-- StepProfile: the step, or what is told of bad arguments. -/
def spP (n : Int) (x : St) (t : Tok) : Stp := if proB n = true then (if stOKB x = true ∧ tokOKB t = true then stepP n x t else ⟨zeroSt, -1, 1⟩) else ⟨zeroSt, -1, 5⟩
def SpDone (n : Int) (x : St) (t : Tok) (w : World) (e : Ending) (w' : World) : Prop := e = .returned (toldV (spP n x t)) ∧ Below w.heap.size w w'

end Go.Proofs.YtbamjhldebobhaaGreatDoor

namespace Go.Proofs.YtbamjhldebobhaaGreatDoor
open Go.RowKit Go.Sort

set_option maxHeartbeats 1000000 in
theorem str_HasPrefix (s h : ByteArray) (w : World) : Calls Tryz.prog 77 #[.string s, .string h] w fun e w' => e = .returned (.bool (hasPre s h)) ∧ w = w' := by
  by_cases hl : h.size ≤ s.size
  · have hl' : (h.size : Int) ≤ (s.size : Int) := by omega
    have HE : Hid (((s.extract 0 h.size).toList == h.toList) = hasPre s h) := Lib.hid (by rw [hasPre, decide_eq_true hl, Bool.true_and])
    go_enter Tryz.func77, Tryz.ntmps77
    go_wp2
    go_ret
    exact ⟨ret_bool HE.out, rfl⟩
  · have hl' : ¬ (h.size : Int) ≤ (s.size : Int) := by omega
    have HE : Hid (false = hasPre s h) := Lib.hid (by rw [hasPre, decide_eq_false hl, Bool.false_and])
    go_enter Tryz.func77, Tryz.ntmps77
    go_wp2
    go_ret
    exact ⟨ret_bool HE.out, rfl⟩

set_option maxHeartbeats 1000000 in
theorem spec_l06Header (n : Int) (v : Value) (s : ByteArray) (w : World) : Calls Tryz.prog 63 #[prV n v, .string s] w fun e w' => e = .returned (.bool (headB n s)) ∧ Below w.heap.size w w' := by
  have B0 := Lib.hid (below_one w (.cells #[.string (prName n), .string (prHead n), v, .bool (prRight n), .bool (prShifts n), .bool (prSingle n), .bool (prReset n), .bool (prClear n)] 60))
  unfold prV headB
  generalize prHead n = h at *
  have A0 : (w.alloc (.cells #[.string (prName n), .string h, v, .bool (prRight n), .bool (prShifts n), .bool (prSingle n), .bool (prReset n), .bool (prClear n)] 60)).heap[w.heap.size]? = some (.cells #[.string (prName n), .string h, v, .bool (prRight n), .bool (prShifts n), .bool (prSingle n), .bool (prReset n), .bool (prClear n)] 60) := heap_alloc_new _ _
  have c1 : (w.alloc (.cells #[.string (prName n), .string h, v, .bool (prRight n), .bool (prShifts n), .bool (prSingle n), .bool (prReset n), .bool (prClear n)] 60)).cell? ⟨w.heap.size, 1, none⟩ = some (.string h) := by rw [cell_of_row _ _ _ _ _ _ A0]; rfl
  clear A0
  by_cases hl : h.size ≤ s.size
  · have hl' : (h.size : Int) ≤ (s.size : Int) := by omega
    have HE : Hid (((s.extract 0 h.size).toList == h.toList) = hasPre s h) := Lib.hid (by rw [hasPre, decide_eq_true hl, Bool.true_and])
    go_enter Tryz.func63, Tryz.ntmps63
    go_wp2
    generalize w.alloc (.cells #[.string (prName n), .string h, v, .bool (prRight n), .bool (prShifts n), .bool (prSingle n), .bool (prReset n), .bool (prClear n)] 60) = W0 at *
    go_quiet (fail)
    go_wp2
    go_ret
    exact ⟨ret_bool HE.out, below_drewN B0.out _⟩
  · have hl' : ¬ (h.size : Int) ≤ (s.size : Int) := by omega
    have HE : Hid (false = hasPre s h) := Lib.hid (by rw [hasPre, decide_eq_false hl, Bool.false_and])
    go_enter Tryz.func63, Tryz.ntmps63
    go_wp2
    generalize w.alloc (.cells #[.string (prName n), .string h, v, .bool (prRight n), .bool (prShifts n), .bool (prSingle n), .bool (prReset n), .bool (prClear n)] 60) = W0 at *
    go_quiet (fail)
    go_wp2
    go_ret
    exact ⟨ret_bool HE.out, below_drewN B0.out _⟩

set_option maxHeartbeats 1000000 in
theorem spec_l06Ask (n : Int) (s : ByteArray) (w : World) : Calls Tryz.prog 33 #[.int .i64 n, .string s] w fun e w' => e = .returned (.int .i64 (askC n s)) ∧ w = w' := by
  have HN := Lib.hid (fun w => spec_l05No n w)
  by_cases h1 : 65536 < s.size
  · have h1' : (65536 : Int) < (s.size : Int) := by omega
    have HE : Hid (2 = askC n s) := Lib.hid (by rw [askC, if_pos h1])
    go_enter Tryz.func33, Tryz.ntmps33
    go_wp2
    go_ret
    exact ⟨ret_int HE.out, rfl⟩
  have h1' : ¬ (65536 : Int) < (s.size : Int) := by omega
  cases hn : proB n
  · have HE : Hid (5 = askC n s) := Lib.hid (by rw [askC, if_neg h1, hn]; rfl)
    rw [hn] at HN
    go_enter Tryz.func33, Tryz.ntmps33
    go_wp2_with fail
    refine (HN.out _).mono ?_
    rintro e w1 ⟨rfl, rfl⟩
    go_wp2
    go_ret
    exact ⟨ret_int HE.out, rfl⟩
  rw [hn] at HN
  by_cases h2 : 4096 < s.size
  · have h2' : (4096 : Int) < (s.size : Int) := by omega
    have HE : Hid (8 = askC n s) := Lib.hid (by rw [askC, if_neg h1, hn, if_pos rfl, if_pos h2])
    go_enter Tryz.func33, Tryz.ntmps33
    go_wp2_with fail
    refine (HN.out _).mono ?_
    rintro e w1 ⟨rfl, rfl⟩
    go_wp2
    go_ret
    exact ⟨ret_int HE.out, rfl⟩
  · have h2' : ¬ (4096 : Int) < (s.size : Int) := by omega
    have HE : Hid (0 = askC n s) := Lib.hid (by rw [askC, if_neg h1, hn, if_pos rfl, if_neg h2])
    go_enter Tryz.func33, Tryz.ntmps33
    go_wp2_with fail
    refine (HN.out _).mono ?_
    rintro e w1 ⟨rfl, rfl⟩
    go_wp2
    go_ret
    exact ⟨ret_int HE.out, rfl⟩

set_option maxHeartbeats 1000000 in
theorem spec_l06End (n : Int) (v : Value) (x : St) (w : World) (hv : ∃ g c, v = .slice (some ⟨g, 0, none⟩) 4 c) : Calls Tryz.prog 67 #[prV n v, stV x] w fun e w' => e = .returned (.int .i64 (endC n x)) ∧ Below w.heap.size w w' := by
  obtain ⟨vg, vc, rfl⟩ := hv
  have HP := Lib.hid (fun w => spec_l04Pending x w)
  have HR := Lib.hid (fun w => spec_l05Rest n (.slice (some ⟨vg, 0, none⟩) 4 vc) x w)
  have HE : Hid (endC n x = if pendB x = true then 13 else if restB n x = true then 0 else 14) := Lib.hid rfl
  have B0 := Lib.hid (below_two w (.cells #[.string (prName n), .string (prHead n), (.slice (some ⟨vg, 0, none⟩) 4 vc), .bool (prRight n), .bool (prShifts n), .bool (prSingle n), .bool (prReset n), .bool (prClear n)] 60) (.cells #[.int .i64 x.g0, .int .i64 x.g1, .int .i64 x.g2, .int .i64 x.g3, .int .i64 x.l, .int .i64 x.s, .int .i64 x.d] 39))
  have A0 : Hid (((w.alloc (.cells #[.string (prName n), .string (prHead n), (.slice (some ⟨vg, 0, none⟩) 4 vc), .bool (prRight n), .bool (prShifts n), .bool (prSingle n), .bool (prReset n), .bool (prClear n)] 60)).alloc (.cells #[.int .i64 x.g0, .int .i64 x.g1, .int .i64 x.g2, .int .i64 x.g3, .int .i64 x.l, .int .i64 x.s, .int .i64 x.d] 39)).heap[w.heap.size]? = some (.cells #[.string (prName n), .string (prHead n), (.slice (some ⟨vg, 0, none⟩) 4 vc), .bool (prRight n), .bool (prShifts n), .bool (prSingle n), .bool (prReset n), .bool (prClear n)] 60)) := Lib.hid (heap_alloc2_old _ _ _)
  have S0 : Hid (StAt ((w.alloc (.cells #[.string (prName n), .string (prHead n), (.slice (some ⟨vg, 0, none⟩) 4 vc), .bool (prRight n), .bool (prShifts n), .bool (prSingle n), .bool (prReset n), .bool (prClear n)] 60)).alloc (.cells #[.int .i64 x.g0, .int .i64 x.g1, .int .i64 x.g2, .int .i64 x.g3, .int .i64 x.l, .int .i64 x.s, .int .i64 x.d] 39)) (w.heap.size + 1) x) := Lib.hid (heap_alloc2_new _ _ _)
  unfold prV stV at *
  have ⟨y0, y1, y2, y3, y4, y5, y6⟩ := S0.out.cells
  cases hp : pendB x
  · rw [hp] at HP HE
    go_enter Tryz.func67, Tryz.ntmps67
    go_wp2_with fail
    refine (HP.out _).mono ?_
    generalize (w.alloc (.cells #[.string (prName n), .string (prHead n), (.slice (some ⟨vg, 0, none⟩) 4 vc), .bool (prRight n), .bool (prShifts n), .bool (prSingle n), .bool (prReset n), .bool (prClear n)] 60)).alloc (.cells #[.int .i64 x.g0, .int .i64 x.g1, .int .i64 x.g2, .int .i64 x.g3, .int .i64 x.l, .int .i64 x.s, .int .i64 x.d] 39) = W0 at *
    clear y0 y1 y2 y3 y4 y5 y6
    rintro e w1 ⟨rfl, b1⟩
    have B1 : Hid (Below w.heap.size w w1) := Lib.hid (B0.out.trans (b1.mono B0.out.size))
    have S1 := Lib.hid (S0.out.keep b1)
    have A1 := Lib.hid ((b1.block _ (Array.getElem?_eq_some_iff.1 A0.out).1).trans A0.out)
    clear b1 A0 S0
    have ⟨y0, y1, y2, y3, y4, y5, y6⟩ := S1.out.cells
    have ⟨p0, p1, p2, p3, p4, p5, p6, p7⟩ := row8_cells A1.out
    go_wp2_with fail
    refine (HR.out _).mono ?_
    clear y0 y1 y2 y3 y4 y5 y6 p0 p1 p2 p3 p4 p5 p6 p7
    rintro e w2 ⟨rfl, b2⟩
    have B2 : Hid (Below w.heap.size w w2) := Lib.hid (B1.out.trans (b2.mono B1.out.size))
    clear b2
    cases hr : restB n x
    · have HE2 : Hid (endC n x = 14) := Lib.hid (by rw [HE.out, hr]; rfl)
      go_wp2
      go_ret
      exact ⟨ret_int HE2.out.symm, B2.out⟩
    · have HE2 : Hid (endC n x = 0) := Lib.hid (by rw [HE.out, hr]; rfl)
      go_wp2
      go_ret
      exact ⟨ret_int HE2.out.symm, B2.out⟩
  · have HE2 : Hid (endC n x = 13) := Lib.hid (by rw [HE.out, hp]; rfl)
    rw [hp] at HP
    go_enter Tryz.func67, Tryz.ntmps67
    go_wp2_with fail
    refine (HP.out _).mono ?_
    generalize (w.alloc (.cells #[.string (prName n), .string (prHead n), (.slice (some ⟨vg, 0, none⟩) 4 vc), .bool (prRight n), .bool (prShifts n), .bool (prSingle n), .bool (prReset n), .bool (prClear n)] 60)).alloc (.cells #[.int .i64 x.g0, .int .i64 x.g1, .int .i64 x.g2, .int .i64 x.g3, .int .i64 x.l, .int .i64 x.s, .int .i64 x.d] 39) = W0 at *
    clear y0 y1 y2 y3 y4 y5 y6
    rintro e w1 ⟨rfl, b1⟩
    have B1 : Hid (Below w.heap.size w w1) := Lib.hid (B0.out.trans (b1.mono B0.out.size))
    clear b1
    go_wp2
    go_ret
    exact ⟨ret_int HE2.out.symm, B1.out⟩

end Go.Proofs.YtbamjhldebobhaaGreatDoor

namespace Go.Proofs.YtbamjhldebobhaaGreatDoor
open Go.RowKit Go.Sort

/-- Decode handed back: the characters in new memory, the offset, the code. -/
def DecDone (d : Dc) (w : World) (e : Ending) (w' : World) : Prop := ∃ v, e = .returned (.tuple #[v, .int .i64 d.p, .int .i64 d.c]) ∧ Own .i64 3 w' w.heap.size v d.z ∧ Below w.heap.size w w'
theorem startP_ok (n : Int) : stOKB (startP n) = true := by
  unfold startP
  split <;> decide
theorem lineX_ok {n : Int} {x : St} (h : stOKB x = true) : stOKB (lineX n x) = true := by
  unfold lineX
  split
  · exact startP_ok n
  · exact h
theorem stepP_ok {n : Int} {x : St} {t : Tok} (hx : stOKB x = true) (ht : tokLP t) : stOKB (stepP n x t).y = true := by
  have h1 := stepT_ok hx ht
  unfold stepP
  generalize stepT x t = q at *
  split
  · exact hx
  split
  · exact hx
  split
  · exact hx
  split
  · exact hx
  split
  · split
    · exact lineX_ok h1
    · exact hx
  · exact h1
/-- A slice of the call's own lies in no block of cells of another type. -/
theorem Own.apart {k : IntKind} {e t : TypeId} {w : World} {B g : Nat} {v : Value} {zs : List Int} {cs : Array Value} {fr : Nat × Nat} (h : Own k e w B v zs) (hg : w.heap[g]? = some (.cells cs t fr)) (ht : t ≠ e) : v.ownBlock ≠ some g := by
  rcases h.2 with ⟨hv, _⟩ | ⟨j, cap, cur, a, b, c, d⟩
  · rw [hv]; exact fun h => by cases h
  · rw [a]
    intro hj
    have hj' : j = g := by simpa [Value.ownBlock] using hj
    subst hj'
    rw [c] at hg
    cases hg
    exact ht rfl
theorem Own.blocks {k : IntKind} {e : TypeId} {w w' : World} {B : Nat} {v : Value} {zs : List Int} (h : Own k e w B v zs) (hb : ∀ g, v.ownBlock = some g → w'.heap[g]? = w.heap[g]?) : Own k e w' B v zs := by
  refine ⟨h.1, ?_⟩
  rcases h.2 with h | ⟨g, cap, cur, a, b, c, d⟩
  · exact .inl h
  · exact .inr ⟨g, cap, cur, a, b, by rw [hb g (by rw [a]; rfl)]; exact c, d⟩
theorem Own.putStN {k : IntKind} {e : TypeId} {w : World} {B g : Nat} {v : Value} {zs : List Int} (h : Own k e w B v zs) (hg : v.ownBlock ≠ some g) (y : St) : Own k e (Go.Proofs.YtbamjhldebobhaaGreatDoor.putSt w g y) B v zs :=
  h.blocks fun j hj => heap_putSt y (fun e => hg (by rw [hj, e]))

set_option maxHeartbeats 4000000 in
set_option maxRecDepth 100000 in
theorem spec_l06Decode (n : Int) (s : ByteArray) (w : World) (hs : s.size ≤ 4096) : Calls Tryz.prog 34 #[.int .i64 n, .string s] w (DecDone (decP n s) w) := by
  have HPf := Lib.hid (fun w => spec_l05Profile n w)
  have HH := Lib.hid (fun v w => spec_l06Header n v s w)
  have HSt := Lib.hid (fun w => spec_l05Start n w)
  unfold prV at HH
  unfold StDone stV at HSt
  go_enter Tryz.func34, Tryz.ntmps34
  go_wp2_with fail
  refine (HPf.out _).mono ?_
  rintro e w1 ⟨pv, rfl, hpv, b1⟩
  obtain ⟨pg, pc, rfl⟩ := hpv.form
  unfold prV
  have B1 : Hid (Below w.heap.size w (w1.alloc (.cells #[.string (prName n), .string (prHead n), (.slice (some ⟨pg, 0, none⟩) 4 pc), .bool (prRight n), .bool (prShifts n), .bool (prSingle n), .bool (prReset n), .bool (prClear n)] 60))) := Lib.hid (b1.alloc b1.size _)
  have P1 : Hid ((w1.alloc (.cells #[.string (prName n), .string (prHead n), (.slice (some ⟨pg, 0, none⟩) 4 pc), .bool (prRight n), .bool (prShifts n), .bool (prSingle n), .bool (prReset n), .bool (prClear n)] 60)).heap[w1.heap.size]? = some (.cells #[.string (prName n), .string (prHead n), (.slice (some ⟨pg, 0, none⟩) 4 pc), .bool (prRight n), .bool (prShifts n), .bool (prSingle n), .bool (prReset n), .bool (prClear n)] 60)) := Lib.hid (heap_alloc_new _ _)
  have hw1 : w.heap.size ≤ w1.heap.size := b1.size
  have P1a := Lib.hid ((heap_alloc2_old w1 (.cells #[.string (prName n), .string (prHead n), (.slice (some ⟨pg, 0, none⟩) 4 pc), .bool (prRight n), .bool (prShifts n), .bool (prSingle n), .bool (prReset n), .bool (prClear n)] 60) (.cells #[] 3)))
  have ⟨p0, p1, p2, p3, p4, p5, p6, p7⟩ := row8_cells P1a.out
  clear b1 hpv
  go_wp2_with fail
  refine (HH.out _ _).mono ?_
  clear p0 p1 p2 p3 p4 p5 p6 p7
  have O0 : Hid (Own .i64 3 ((w1.alloc (.cells #[.string (prName n), .string (prHead n), (.slice (some ⟨pg, 0, none⟩) 4 pc), .bool (prRight n), .bool (prShifts n), .bool (prSingle n), .bool (prReset n), .bool (prClear n)] 60)).alloc (.cells #[] 3)) w.heap.size (.slice (some ⟨w1.heap.size + 1, 0, none⟩) 0 0) []) := Lib.hid (by
    have h := Own.lit .i64 3 (w1.alloc (.cells #[.string (prName n), .string (prHead n), (.slice (some ⟨pg, 0, none⟩) 4 pc), .bool (prRight n), .bool (prShifts n), .bool (prSingle n), .bool (prReset n), .bool (prClear n)] 60)) w.heap.size [] (by simp; omega) (by simp)
    rw [show (w1.alloc (.cells #[.string (prName n), .string (prHead n), (.slice (some ⟨pg, 0, none⟩) 4 pc), .bool (prRight n), .bool (prShifts n), .bool (prSingle n), .bool (prReset n), .bool (prClear n)] 60)).heap.size = w1.heap.size + 1 by simp] at h
    exact h)
  have B0 : Hid (Below w.heap.size w ((w1.alloc (.cells #[.string (prName n), .string (prHead n), (.slice (some ⟨pg, 0, none⟩) 4 pc), .bool (prRight n), .bool (prShifts n), .bool (prSingle n), .bool (prReset n), .bool (prClear n)] 60)).alloc (.cells #[] 3))) := Lib.hid (B1.out.alloc B1.out.size _)
  have hW0 : ((w1.alloc (.cells #[.string (prName n), .string (prHead n), (.slice (some ⟨pg, 0, none⟩) 4 pc), .bool (prRight n), .bool (prShifts n), .bool (prSingle n), .bool (prReset n), .bool (prClear n)] 60)).alloc (.cells #[] 3)).heap.size = w1.heap.size + 2 := by simp
  clear B1 P1
  generalize (w1.alloc (.cells #[.string (prName n), .string (prHead n), (.slice (some ⟨pg, 0, none⟩) 4 pc), .bool (prRight n), .bool (prShifts n), .bool (prSingle n), .bool (prReset n), .bool (prClear n)] 60)).alloc (.cells #[] 3) = W0 at *
  rintro e w2 ⟨rfl, b2⟩
  have O2 := Lib.hid (O0.out.all b2)
  have B2 := Lib.hid (B0.out.trans (b2.mono B0.out.size))
  have P2 := Lib.hid ((b2.block _ (Array.getElem?_eq_some_iff.1 P1a.out).1).trans P1a.out)
  have hw2 : w1.heap.size + 2 ≤ w2.heap.size := by rw [← hW0]; exact b2.size
  clear b2 O0 B0 P1a hW0
  cases hh : headB n s
  · have HE : Hid (decP n s = ⟨[], 0, 15⟩) := Lib.hid (by rw [decP, hh]; rfl)
    go_wp2
    go_ret3
    exact ⟨_, by rw [HE.out]; rfl, by rw [HE.out]; exact O2.out, B2.out⟩
  have HD : Hid (decP n s = decT n s s.size 0 (startP n) []) := Lib.hid (by rw [decP, hh]; rfl)
  go_wp2_with fail
  refine (HSt.out _).mono ?_
  rintro e w3 ⟨rfl, b3⟩
  have O3 := Lib.hid ((O2.out.all b3).alloc (.cells #[.int .i64 (startP n).g0, .int .i64 (startP n).g1, .int .i64 (startP n).g2, .int .i64 (startP n).g3, .int .i64 (startP n).l, .int .i64 (startP n).s, .int .i64 (startP n).d] 39))
  have B3 := Lib.hid ((B2.out.trans (b3.mono B2.out.size)).alloc (B2.out.trans (b3.mono B2.out.size)).size (.cells #[.int .i64 (startP n).g0, .int .i64 (startP n).g1, .int .i64 (startP n).g2, .int .i64 (startP n).g3, .int .i64 (startP n).l, .int .i64 (startP n).s, .int .i64 (startP n).d] 39))
  have P3 := Lib.hid ((((b3.block _ (Array.getElem?_eq_some_iff.1 P2.out).1).trans P2.out)).trans rfl)
  have P4 : Hid ((w3.alloc (.cells #[.int .i64 (startP n).g0, .int .i64 (startP n).g1, .int .i64 (startP n).g2, .int .i64 (startP n).g3, .int .i64 (startP n).l, .int .i64 (startP n).s, .int .i64 (startP n).d] 39)).heap[w1.heap.size]? = some (.cells #[.string (prName n), .string (prHead n), (.slice (some ⟨pg, 0, none⟩) 4 pc), .bool (prRight n), .bool (prShifts n), .bool (prSingle n), .bool (prReset n), .bool (prClear n)] 60)) := Lib.hid (((below_one w3 (.cells #[.int .i64 (startP n).g0, .int .i64 (startP n).g1, .int .i64 (startP n).g2, .int .i64 (startP n).g3, .int .i64 (startP n).l, .int .i64 (startP n).s, .int .i64 (startP n).d] 39)).block _ (Array.getElem?_eq_some_iff.1 P3.out).1).trans P3.out)
  have S3 := Lib.hid (StAt.new w3 (startP n))
  have hw3 : w1.heap.size + 2 ≤ w3.heap.size := Nat.le_trans hw2 b3.size
  have hX0 := Lib.hid (startP_ok n)
  clear b3 O2 B2 P2 P3 hh hw2
  generalize startP n = x0 at *
  go_wp2
  generalize w3.alloc (.cells #[.int .i64 x0.g0, .int .i64 x0.g1, .int .i64 x0.g2, .int .i64 x0.g3, .int .i64 x0.l, .int .i64 x0.s, .int .i64 x0.d] 39) = W3 at *
  go_loopw [8, 10] (fun v i wr => ∃ (k f : Nat) (xs : St) (zs : List Int), k ≤ s.size ∧ i = .int .i64 k ∧ Hid (s.size ≤ k + f) ∧ zs.length ≤ k ∧ Hid (decT n s s.size 0 x0 [] = decT n s f k xs zs) ∧ Hid (stOKB xs = true) ∧ Hid (Own .i64 3 wr w.heap.size v zs) ∧ Hid (StAt wr w3.heap.size xs) ∧ Hid (wr.heap[w1.heap.size]? = some (.cells #[.string (prName n), .string (prHead n), (.slice (some ⟨pg, 0, none⟩) 4 pc), .bool (prRight n), .bool (prShifts n), .bool (prSingle n), .bool (prReset n), .bool (prClear n)] 60)) ∧ Hid (Below w.heap.size w wr)) (fun _ i _ => s.size - (intOf i).toNat)
  case atStart =>
    exact ⟨0, s.size, x0, [], by omega, rfl, Lib.hid (by omega), by simp, Lib.hid rfl, hX0, O3, S3, P4, B3⟩
  case round =>
    obtain ⟨k, f, xs, zs, hk, rfl, HF, hzs, HR, HX, HO, HB, HP, BW⟩ := hrel
    obtain ⟨a0, c0, hform, _⟩ := HO.out.shape
    subst hform
    clear O3 P4 S3 B3
    have hV3 := HO.out.apart HB.out (by decide)
    have hV1 := HO.out.apart HP.out (by decide)
    have hl3 : w3.heap.size < wr.heap.size := HB.out.lt
    have hl1 : w1.heap.size < wr.heap.size := (Array.getElem?_eq_some_iff.1 HP.out).1
    by_cases hlt : k < s.size
    · obtain ⟨f, rfl⟩ : ∃ q, f = q + 1 := ⟨f - 1, by have := HF.out; omega⟩
      have v2 : (k : Int) < (s.size : Int) := by omega
      have HU : Hid (decT n s (f + 1) k xs zs = if (stepP n xs (nextTok s k)).c = 0 then decT n s f (k + (nextTok s k).n.toNat) (stepP n xs (nextTok s k)).y (addR zs (stepP n xs (nextTok s k)).r) else ⟨zs, k, (stepP n xs (nextTok s k)).c⟩) := Lib.hid (by rw [decT, if_pos hlt])
      have n1 := (nextTok_in s k hlt).2.1
      have n2 := (nextTok_in s k hlt).2.2
      have HN := Lib.hid (fun w => spec_l03Next s k w hlt (by omega))
      have HG := Lib.hid (fun w => spec_l05Step n xs (nextTok s k) w HX.out (nextTok_ok s k hlt (by omega)))
      have hr := stepP_r (n := n) (x := xs) (nextTok_ok s k hlt (by omega))
      have HX2 := Lib.hid (stepP_ok (n := n) HX.out (nextTok_ok s k hlt (by omega)))
      unfold TokDone tokV at HN
      unfold StpDone stpV tokV stV at HG
      generalize nextTok s k = y at *
      generalize stepP n xs y = p at *
      have u1 : IntKind.i64.wrap ((k : Int) + y.n) = (k : Int) + y.n := IntWalk.i64_in _ (by omega)
      go_wp2_with fail
      refine (HN.out _).mono ?_
      rintro e w4 ⟨rfl, b1⟩
      have B1 := Lib.hid (BW.out.trans (b1.mono BW.out.size))
      have O1 := Lib.hid ((HO.out.all b1).all (below_one w4 (.cells #[.int .i64 y.k, .int .i64 y.a, .int .i64 y.b, .int .i64 y.c, .int .i64 y.p, .int .i64 y.n] 102)))
      have HB1 := Lib.hid ((HB.out.keep b1).keep (below_one w4 (.cells #[.int .i64 y.k, .int .i64 y.a, .int .i64 y.b, .int .i64 y.c, .int .i64 y.p, .int .i64 y.n] 102)))
      have HP0 := Lib.hid ((b1.block _ hl1).trans HP.out)
      have hl4 : w1.heap.size < w4.heap.size := Nat.lt_of_lt_of_le hl1 b1.size
      have hl43 : w3.heap.size < w4.heap.size := Nat.lt_of_lt_of_le hl3 b1.size
      have HP1 := Lib.hid (((below_one w4 (.cells #[.int .i64 y.k, .int .i64 y.a, .int .i64 y.b, .int .i64 y.c, .int .i64 y.p, .int .i64 y.n] 102)).block _ hl4).trans HP0.out)
      have HK1 := Lib.hid (TokAt.new w4 y)
      have B1b := Lib.hid (B1.out.alloc B1.out.size (.cells #[.int .i64 y.k, .int .i64 y.a, .int .i64 y.b, .int .i64 y.c, .int .i64 y.p, .int .i64 y.n] 102))
      have L1 := Lib.hid (fun g hg => World.ownsRow.lt (HO.out.all b1) g hg)
      clear b1 HO HB HP HP0 BW B1 HN
      have ⟨y0, y1, y2, y3, y4, y5, y6⟩ := HB1.out.cells
      have ⟨t0, t1, t2, t3, t4, t5⟩ := HK1.out.cells
      go_wp2_with fail
      refine (HG.out _).mono ?_
      clear y0 y1 y2 y3 y4 y5 y6 t0 t1 t2 t3 t4 t5
      generalize w4.alloc (.cells #[.int .i64 y.k, .int .i64 y.a, .int .i64 y.b, .int .i64 y.c, .int .i64 y.p, .int .i64 y.n] 102) = W4 at *
      rintro e w5 ⟨rfl, b2⟩
      have B2 := Lib.hid (B1b.out.trans (b2.mono B1b.out.size))
      have O2 := Lib.hid (O1.out.all b2)
      have HB2 := Lib.hid (HB1.out.keep b2)
      have HP2 := Lib.hid ((b2.block _ (Array.getElem?_eq_some_iff.1 HP1.out).1).trans HP1.out)
      have HK2 := Lib.hid (HK1.out.keep b2)
      clear b2 O1 HB1 HP1 HK1 B1b
      by_cases hc : p.c = 0
      · have ec : (p.c != 0) = false := by simpa using hc
        have ⟨q0, q1, q2, q3, q4, q5, q6⟩ := HB2.out.thaw
        have ⟨y0, y1, y2, y3, y4, y5, y6⟩ := HB2.out.cells
        have hl6 : w3.heap.size < w5.heap.size := HB2.out.lt
        have hk2 : w4.heap.size < w5.heap.size := HK2.out.lt
        have ⟨p0, p1, p2, p3, p4, p5, p6⟩ := (StAt.new w5 p.y).cells
        have ⟨t0, t1, t2, t3, t4, t5⟩ := HK2.out.cells
        have HN2 : Hid (∃ m : Nat, y.n = (m : Int) ∧ 1 ≤ m ∧ k + m ≤ s.size) := Lib.hid ⟨y.n.toNat, by omega, by omega, by omega⟩
        have BP := Lib.hid (below_putSt B2.out (show w.heap.size ≤ w3.heap.size by omega) p.y)
        have OP := Lib.hid (O2.out.putStN hV3 p.y)
        have HBP := Lib.hid (HB2.out.put p.y)
        have HPP : Hid ((putSt w5 w3.heap.size p.y).heap[w1.heap.size]? = some (.cells #[.string (prName n), .string (prHead n), (.slice (some ⟨pg, 0, none⟩) 4 pc), .bool (prRight n), .bool (prShifts n), .bool (prSingle n), .bool (prReset n), .bool (prClear n)] 60)) := Lib.hid ((heap_putSt p.y (by omega)).trans HP2.out)
        have hlP : w1.heap.size < (putSt w5 w3.heap.size p.y).heap.size := (Array.getElem?_eq_some_iff.1 HPP.out).1
        have HPQ := Lib.hid (((below_one (putSt w5 w3.heap.size p.y) (.cells #[.int .i64 p.y.g0, .int .i64 p.y.g1, .int .i64 p.y.g2, .int .i64 p.y.g3, .int .i64 p.y.l, .int .i64 p.y.s, .int .i64 p.y.d] 39)).block _ hlP).trans HPP.out)
        rcases hr with hr | hr
        · have HA : Hid (addR zs p.r = zs) := Lib.hid (addR_none hr)
          have vr : p.r < 0 := by omega
          obtain ⟨m, hm, m1, m2⟩ := HN2.out
          have HM := Lib.hid hm
          have e5 : (k : Int) + y.n = ((k + m : Nat) : Int) := by omega
          clear hm
          go_wp2
          go_roundw
          case rel => exact ⟨k + m, f, p.y, zs, m2, by simp, Lib.hid (by have := HF.out; omega), by omega, Lib.hid (by rw [HR.out, HU.out, if_pos hc, HA.out, HM.out]; simp), HX2, Lib.hid (OP.out.alloc _), Lib.hid (HBP.out.alloc _), HPQ, Lib.hid (BP.out.alloc BP.out.size _)⟩
          case measure => simp [intOf]; omega
        · have HA : Hid (addR zs p.r = zs ++ [p.r]) := Lib.hid (addR_some hr)
          have O3 := Lib.hid ((OP.out.alloc (.cells #[.int .i64 p.y.g0, .int .i64 p.y.g1, .int .i64 p.y.g2, .int .i64 p.y.g3, .int .i64 p.y.l, .int .i64 p.y.s, .int .i64 p.y.d] 39)).alloc (.cells #[.int .i64 p.r] 3))
          have HNW := Lib.hid (World.news_of_block (show (((putSt w5 w3.heap.size p.y).alloc (.cells #[.int .i64 p.y.g0, .int .i64 p.y.g1, .int .i64 p.y.g2, .int .i64 p.y.g3, .int .i64 p.y.l, .int .i64 p.y.s, .int .i64 p.y.d] 39)).alloc (.cells #[.int .i64 p.r] 3)).heap[w5.heap.size + 1]? = some (.cells ([p.r].map (Value.int .i64)).toArray 3) from by
            have := heap_alloc2_new (putSt w5 w3.heap.size p.y) (.cells #[.int .i64 p.y.g0, .int .i64 p.y.g1, .int .i64 p.y.g2, .int .i64 p.y.g3, .int .i64 p.y.l, .int .i64 p.y.s, .int .i64 p.y.d] 39) (.cells #[.int .i64 p.r] 3)
            rw [size_putSt] at this
            exact this))
          have hB3 : w.heap.size ≤ (((putSt w5 w3.heap.size p.y).alloc (.cells #[.int .i64 p.y.g0, .int .i64 p.y.g1, .int .i64 p.y.g2, .int .i64 p.y.g3, .int .i64 p.y.l, .int .i64 p.y.s, .int .i64 p.y.d] 39)).alloc (.cells #[.int .i64 p.r] 3)).heap.size := by
            simp only [World.size_alloc, size_putSt]; omega
          have HPR := Lib.hid (((below_one ((putSt w5 w3.heap.size p.y).alloc (.cells #[.int .i64 p.y.g0, .int .i64 p.y.g1, .int .i64 p.y.g2, .int .i64 p.y.g3, .int .i64 p.y.l, .int .i64 p.y.s, .int .i64 p.y.d] 39)) (.cells #[.int .i64 p.r] 3)).block _ (Array.getElem?_eq_some_iff.1 HPQ.out).1).trans HPQ.out)
          go_wp2_with (at_builtin; refine app_i64 _ rfl _ _ rfl w.heap.size _ zs rfl O3.out ⟨w5.heap.size + 1, 0, none⟩ 1 1 [p.r] rfl rfl (by decide) HNW.out (by omega) hB3 ?_)
          intro g cap2 w6 o4 g4 lt4
          have hx4 : TokAt w6 w4.heap.size y := (g4.block _ (by simp; omega) (fun h => by have := (L1.out _ h.symm).2; omega)).trans (((HK2.out.other p.y (by omega)).keep (below_one _ (.cells #[.int .i64 p.y.g0, .int .i64 p.y.g1, .int .i64 p.y.g2, .int .i64 p.y.g3, .int .i64 p.y.l, .int .i64 p.y.s, .int .i64 p.y.d] 39))).keep (below_one _ (.cells #[.int .i64 p.r] 3)))
          have HB4 := Lib.hid ((g4.block w3.heap.size (by simp; omega) (fun h => hV3 h.symm)).trans ((HBP.out.alloc (.cells #[.int .i64 p.y.g0, .int .i64 p.y.g1, .int .i64 p.y.g2, .int .i64 p.y.g3, .int .i64 p.y.l, .int .i64 p.y.s, .int .i64 p.y.d] 39)).alloc (.cells #[.int .i64 p.r] 3)))
          have HP4 := Lib.hid ((g4.block w1.heap.size (by simp; omega) (fun h => hV1 h.symm)).trans HPR.out)
          have B3 := BP.out.alloc BP.out.size (.cells #[.int .i64 p.y.g0, .int .i64 p.y.g1, .int .i64 p.y.g2, .int .i64 p.y.g3, .int .i64 p.y.l, .int .i64 p.y.s, .int .i64 p.y.d] 39)
          have B4 := Lib.hid ((B3.alloc B3.size (.cells #[.int .i64 p.r] 3)).grown g4 (by simp only [World.size_alloc, size_putSt]; omega) (fun j hj => by have := (L1.out j hj).1; omega))
          have O4 := Lib.hid o4
          clear o4 g4 B3
          clear y0 y1 y2 y3 y4 y5 y6 q0 q1 q2 q3 q4 q5 q6 p0 p1 p2 p3 p4 p5 p6 t0 t1 t2 t3 t4 t5
          have ⟨_, _, _, _, _, t5⟩ := hx4.cells
          clear hx4
          obtain ⟨m, hm, m1, m2⟩ := HN2.out
          have HM := Lib.hid hm
          have e5 : (k : Int) + y.n = ((k + m : Nat) : Int) := by omega
          clear hm
          go_wp2
          go_roundw
          case rel => exact ⟨k + m, f, p.y, zs ++ [p.r], m2, by simp, Lib.hid (by have := HF.out; omega), by simp; omega, Lib.hid (by rw [HR.out, HU.out, if_pos hc, HA.out, HM.out]; simp), HX2, O4, HB4, HP4, B4⟩
          case measure => simp [intOf]; omega
      · have ec : (p.c != 0) = true := by simpa using hc
        have HE : Hid (decP n s = ⟨zs, k, p.c⟩) := Lib.hid (by rw [HD.out, HR.out, HU.out, if_neg hc])
        go_wp2
        go_ret3
        exact ⟨_, by rw [HE.out]; rfl, by rw [HE.out]; exact O2.out.alloc _, B2.out.alloc B2.out.size _⟩
    · have v2 : ¬ (k : Int) < (s.size : Int) := by omega
      have HE : Hid (decP n s = ⟨zs, s.size, endC n xs⟩) := Lib.hid (by
        rw [HD.out, HR.out]
        cases f with
        | zero => rfl
        | succ f => rw [decT, if_neg hlt])
      have HEn := Lib.hid (fun w => spec_l06End n (.slice (some ⟨pg, 0, none⟩) 4 pc) xs w ⟨pg, pc, rfl⟩)
      unfold prV stV at HEn
      have ⟨y0, y1, y2, y3, y4, y5, y6⟩ := HB.out.cells
      have ⟨p0, p1, p2, p3, p4, p5, p6, p7⟩ := row8_cells HP.out
      go_wp2_with fail
      refine (HEn.out _).mono ?_
      clear y0 y1 y2 y3 y4 y5 y6 p0 p1 p2 p3 p4 p5 p6 p7
      rintro e w4 ⟨rfl, b1⟩
      have B1 := Lib.hid (BW.out.trans (b1.mono BW.out.size))
      have O1 := Lib.hid (HO.out.all b1)
      clear b1
      go_wp2
      go_ret3
      exact ⟨_, by rw [HE.out]; rfl, by rw [HE.out]; exact O1.out, B1.out⟩

end Go.Proofs.YtbamjhldebobhaaGreatDoor

namespace Go.Proofs.YtbamjhldebobhaaGreatDoor

theorem plainTok_k (mid : ByteArray) (f p n : Int) : (plainTok mid f p n).k ≠ 8 := by
  unfold plainTok
  repeat' split
  all_goals (intro h; revert h; simp only; omega)
theorem escTok_tail (s : ByteArray) (k : Nat) : ∀ f i, i ≤ k + 4 → s.size ≤ i + f → (escTok s k f i).k = 8 → s.size ≤ k + 4
  | 0, i, h1, h2, _ => by omega
  | f + 1, i, h1, h2, h3 => by
    unfold escTok at h3
    split at h3
    · split at h3
      · split at h3
        · exact absurd h3 (by simp only; omega)
        · exact escTok_tail s k f (i + 1) (by omega) (by omega) h3
      · split at h3
        · exact absurd h3 (plainTok_k _ _ _ _)
        · exact absurd h3 (by simp only; omega)
    · omega
/-- A tail has at most four bytes. -/
theorem tail_le (s : ByteArray) (k : Nat) (hk : k < s.size) (h : (nextTok s k).k = 8) : s.size ≤ k + 4 := by
  unfold nextTok at h
  split at h
  · exact escTok_tail s k _ _ (by omega) (by omega) h
  repeat' split at h
  all_goals (exfalso; revert h; simp only; omega)

theorem wait_begun {n : Int} {r : ByteArray} (h : 0 < r.size) : waitB n true r = decide ((nextTok r 0).k = 8) := by
  unfold waitB
  rw [if_pos rfl, decide_eq_false (by omega : ¬ r.size = 0), Bool.false_or]
  by_cases h8 : (nextTok r 0).k = 8
  · rw [decide_eq_true h8, decide_eq_true (by have := tail_le r 0 h h8; omega)]; rfl
  · rw [decide_eq_false h8, Bool.and_false]
theorem wait_empty {n : Int} {b : Bool} {r : ByteArray} (h : r.size = 0) : waitB n b r = true := by
  unfold waitB
  split <;> rw [decide_eq_true h, Bool.true_or]
theorem wait_ahead {n : Int} {r : ByteArray} (h : 0 < r.size) : waitB n false r = (decide (r.size < (prHead n).size) && hasPre (prHead n) r) := by
  unfold waitB
  rw [if_neg (by decide), decide_eq_false (by omega : ¬ r.size = 0), Bool.false_or]

theorem deOK_parts {d : De} (h : deOK d = true) : proB d.n = true ∧ stOKB d.x = true ∧ 0 ≤ d.a ∧ d.a ≤ 1000000000 ∧ 0 ≤ d.c ∧ d.c ≤ 18 ∧ (d.o = true → d.r.size = 0) ∧ (d.c ≠ 0 → d.o = true) ∧ waitB d.n d.b d.r = true := by
  unfold deOK at h
  simp only [Bool.and_eq_true, Bool.not_eq_true', Bool.and_eq_false_imp, decide_eq_false_iff_not, decide_eq_true_eq] at h
  obtain ⟨h1, h2, h3, h4, h5, h6, h7⟩ := h
  have a := inB_true h3
  have c := inB_true h4
  refine ⟨h1, h2, a.1, a.2, c.1, c.2, fun h => by have := h5 h; omega, fun h => by simpa using h6 h, h7⟩

theorem head_le (n : Int) : (prHead n).size ≤ 4 := by
  unfold prHead
  split <;> decide
/-- What waits has at most four bytes. -/
theorem wait_le {n : Int} {b : Bool} {r : ByteArray} (h : waitB n b r = true) : r.size ≤ 4 := by
  by_cases h0 : r.size = 0
  · omega
  cases b
  · rw [wait_ahead (by omega)] at h
    simp only [Bool.and_eq_true, decide_eq_true_eq] at h
    have := head_le n
    omega
  · rw [wait_begun (by omega)] at h
    have := tail_le r 0 (by omega) (by simpa using h)
    omega

theorem wrT_le (n : Int) (s : ByteArray) : ∀ (f k : Nat) (a : Int) (x : St) (z : List Int), (wrT n s f k a x z).z.length ≤ z.length + f
  | 0, _, _, _, _ => by simp [wrT]
  | f + 1, k, a, x, z => by
    unfold wrT
    split
    · split
      · simp
      · split
        · have h1 := wrT_le n s f (k + (nextTok s k).n.toNat) (a + (nextTok s k).n) (stepP n x (nextTok s k)).y (addR z (stepP n x (nextTok s k)).r)
          have h2 : (addR z (stepP n x (nextTok s k)).r).length ≤ z.length + 1 := by unfold addR; split <;> simp
          omega
        · simp
    · simp

end Go.Proofs.YtbamjhldebobhaaGreatDoor

namespace Go.Proofs.YtbamjhldebobhaaGreatDoor
open Go.RowKit

/-- The place of n among count numbers from first on. -/
def placeV (first count n : Int) : Value := if inB n first (first + count - 1) = true then .tuple #[.int .i64 (n - first), .bool true] else .tuple #[.int .i64 0, .bool false]
theorem impl_placeIn (first count n : Int) (w : World) (h1 : 0 ≤ first) (h2 : first ≤ 2000000) (_h3 : 0 ≤ count) (_h4 : count ≤ 2000000) (hu : n ≤ 9223372036854775807) :
    Calls Tryz.prog 140 #[.int .i64 first, .int .i64 count, .int .i64 n] w fun e w' => e = .returned (placeV first count n) ∧ w = w' := by
  by_cases a1 : n < first
  · have HE : Hid (placeV first count n = .tuple #[.int .i64 0, .bool false]) := Lib.hid (by rw [placeV, inB_false_of (by omega)]; simp)
    go_enter Tryz.func140, Tryz.ntmps140
    go_wp2
    go_ret2
    exact ⟨ret_val HE.out.symm, rfl⟩
  · have u1 : IntKind.i64.wrap (n - first) = n - first := IntWalk.i64_in _ (by omega)
    by_cases a2 : count ≤ n - first
    · have HE : Hid (placeV first count n = .tuple #[.int .i64 0, .bool false]) := Lib.hid (by rw [placeV, inB_false_of (by omega)]; simp)
      go_enter Tryz.func140, Tryz.ntmps140
      go_wp2
      go_ret2
      exact ⟨ret_val HE.out.symm, rfl⟩
    · have HE : Hid (placeV first count n = .tuple #[.int .i64 (n - first), .bool true]) := Lib.hid (by
        have : inB n first (first + count - 1) = true := by simp [inB]; omega
        rw [placeV, this]; simp)
      go_enter Tryz.func140, Tryz.ntmps140
      go_wp2
      go_ret2
      exact ⟨ret_val HE.out.symm, rfl⟩

theorem SpAt.open {w : World} {v : Value} {n : Int} (h : SpAt w v (setSpans n)) : ∃ g off c, v = .slice (some ⟨g, off, none⟩) (setSpans n).length c ∧ ∀ i (h : i < (setSpans n).length),
    w.cell? ⟨g, off + i * 3, none⟩ = some (.int .i64 ((setSpans n)[i]).1) ∧ w.cell? ⟨g, off + i * 3 + 1, none⟩ = some (.int .i64 ((setSpans n)[i]).2.1) ∧ w.cell? ⟨g, off + i * 3 + 2, none⟩ = some (.int .i64 ((setSpans n)[i]).2.2) := by
  rcases h with ⟨h0, _⟩ | h
  · have := (set_few n).1
    rw [h0] at this
    simp at this
  · exact h

/-- Each span begins above nought. -/
theorem set_pos (n : Int) : ∀ s ∈ setSpans n, 0 < s.1 := by
  unfold setSpans
  repeat' split
  all_goals (intro s hs; simp only [List.mem_cons, List.not_mem_nil, or_false] at hs; rcases hs with rfl | rfl | rfl | rfl <;> simp)

set_option maxHeartbeats 1000000 in
set_option maxRecDepth 100000 in
theorem impl_RuneFor (n code : Int) (w : World) (ht : TabSets w) (hl : -9223372036854775808 ≤ code) (hu : code ≤ 9223372036854775807) : Calls Tryz.prog 207 #[.int .i64 n, .int .i64 code] w fun e w' => e = .returned (rfV n code) ∧ Below w.heap.size w w' := by
  cases hn : setB n
  · have HE := Lib.hid (rfV_bad n code 5 (by simp [rfC, hn]) (by decide))
    clear ht
    go_enter Tryz.func207, Tryz.ntmps207
    go_wp2_with fail
    refine (impl_isSet n w).mono ?_
    rintro e w1 ⟨rfl, rfl⟩
    rw [hn]
    go_wp2
    go_ret2
    exact ⟨ret_val HE.out.symm, Below.refl _ _⟩
  · have HO : Hid (codeOKB n code = isCodeB (setKind n) code) := Lib.hid (by simp [codeOKB, isCodeB, hn])
    obtain ⟨k, rfl, k1, k8⟩ := setB_nat hn
    obtain ⟨_, c1, _, v, c3, hs⟩ := ht k k1 k8
    have hk := setKind_cases (k : Int)
    clear ht
    have u1 : (0 : Int) ≤ (k : Int) := by omega
    have u2 : (k : Int) < 9 := by omega
    generalize hkd : setKind (k : Int) = kd at *
    cases hc : isCodeB kd code
    · have HE := Lib.hid (rfV_bad (k : Int) code 4 (by simp [rfC, hn, HO.out, hc]) (by decide))
      clear hkd hs c3
      go_enter Tryz.func207, Tryz.ntmps207
      go_wp2_with fail
      refine (impl_isSet (k : Int) w).mono ?_
      rintro e w1 ⟨rfl, rfl⟩
      rw [hn]
      go_wp2_with fail
      refine (impl_isCode kd code w hk hl hu).mono ?_
      rintro e w1 ⟨rfl, rfl⟩
      rw [hc]
      go_wp2
      go_ret2
      exact ⟨ret_val HE.out.symm, Below.refl _ _⟩
    · have HB : Hid (runeS (setSpans (k : Int)) code < 0 → rfV (k : Int) code = .tuple #[.int .i64 0, .int .i64 12]) := Lib.hid (fun h => rfV_bad (k : Int) code 12 (by simp [rfC, hn, HO.out, hc, h]) (by decide))
      have HG : Hid (¬ runeS (setSpans (k : Int)) code < 0 → rfV (k : Int) code = .tuple #[.int .i64 (runeS (setSpans (k : Int)) code), .int .i64 0]) := Lib.hid (fun h => rfV_ok (k : Int) code (by simp [rfC, hn, HO.out, hc, h]))
      obtain ⟨g, off, c, rfl, hcs⟩ := hs.open
      have HC := Lib.hid hcs
      have HS := Lib.hid (set_small (k : Int))
      have f2 := (set_few (k : Int)).2
      clear hkd hs hcs
      generalize setSpans (k : Int) = sp at *
      go_enter Tryz.func207, Tryz.ntmps207
      go_wp2_with fail
      refine (impl_isSet (k : Int) w).mono ?_
      rintro e w1 ⟨rfl, rfl⟩
      rw [hn]
      go_wp2_with fail
      refine (impl_isCode kd code w hk hl hu).mono ?_
      rintro e w1 ⟨rfl, rfl⟩
      rw [hc]
      go_wp2
      go_loopw [25] (fun i wr => ∃ j : Nat, j ≤ sp.length ∧ i = .int .i64 j ∧ Hid (runeS sp code = runeS (sp.drop j) code) ∧ Below w.heap.size w wr) (fun i _ => sp.length - (intOf i).toNat)
      case atStart => exact ⟨0, Nat.zero_le _, rfl, Lib.hid rfl, Below.refl _ _⟩
      case round =>
        obtain ⟨j, hj, rfl, HR, b⟩ := hrel
        by_cases hlt : j < sp.length
        · have ⟨x0, x1, x2⟩ := HC.out j hlt
          have hsm := HS.out _ (List.getElem_mem hlt)
          have HD := Lib.hid (runeS_drop sp code j hlt)
          have y0 := (b.cell (World.block_lt_of_cell? w _ x0)).trans x0
          have y1 := (b.cell (World.block_lt_of_cell? w _ x1)).trans x1
          have y2 := (b.cell (World.block_lt_of_cell? w _ x2)).trans x2
          generalize sp[j] = s at *
          obtain ⟨sc, sr, sn⟩ := s
          obtain ⟨⟨a1, a2⟩, ⟨a3, a4⟩, a5, a6⟩ := hsm
          simp only at a1 a2 a3 a4 a5 a6 y0 y1 y2
          clear x0 x1 x2
          have v1 : (0 : Int) ≤ (j : Int) := by omega
          have v2 : (j : Int) < (sp.length : Int) := by omega
          go_wp2_with fail
          refine (impl_placeIn sc sn code _ a1 a2 a5 a6 hu).mono ?_
          rintro e w2 ⟨rfl, rfl⟩
          unfold placeV
          have B := b.alloc b.size (.cells #[.int .i64 sc, .int .i64 sr, .int .i64 sn] 147)
          cases hin : inB code sc (sc + sn - 1)
          · have HX : Hid (runeS sp code = runeS (sp.drop (j + 1)) code) := Lib.hid (by rw [HR.out, HD.out, hin]; simp)
            go_wp2
            go_roundw
            case rel => exact ⟨j + 1, by omega, by go_num, HX, B⟩
            case measure => simp [intOf]; omega
          · have ⟨i1, i2⟩ := inB_true hin
            have v5 : IntKind.i64.wrap (sr + (code - sc)) = sr + (code - sc) := IntWalk.i64_in _ (by omega)
            have HX : Hid (runeS sp code = sr + (code - sc)) := Lib.hid (by rw [HR.out, HD.out, hin]; simp; omega)
            go_wp2
            go_ret2
            refine ⟨ret_val ?_, B⟩
            rw [HG.out (by rw [HX.out]; omega), HX.out]
            rfl
        · go_wp2
          go_ret2
          refine ⟨ret_val ?_, b⟩
          have hjn : sp.length ≤ j := by omega
          rw [HB.out (by rw [HR.out, List.drop_eq_nil_of_le hjn, runeS]; decide)]
          rfl

set_option maxHeartbeats 1000000 in
set_option maxRecDepth 100000 in
theorem impl_CodeFor (n r : Int) (w : World) (ht : TabSets w) (hu : r ≤ 9223372036854775807) : Calls Tryz.prog 102 #[.int .i64 n, .int .i64 r] w fun e w' => e = .returned (cfV n r) ∧ Below w.heap.size w w' := by
  cases hn : setB n
  · have HE := Lib.hid (cfV_bad n r 5 (by simp [cfC, hn]) (by decide))
    clear ht
    go_enter Tryz.func102, Tryz.ntmps102
    go_wp2_with fail
    refine (impl_isSet n w).mono ?_
    rintro e w1 ⟨rfl, rfl⟩
    rw [hn]
    go_wp2
    go_ret2
    exact ⟨ret_val HE.out.symm, Below.refl _ _⟩
  · obtain ⟨k, rfl, k1, k8⟩ := setB_nat hn
    obtain ⟨_, _, _, v, c3, hs⟩ := ht k k1 k8
    clear ht
    have u1 : (0 : Int) ≤ (k : Int) := by omega
    have u2 : (k : Int) < 9 := by omega
    have HB : Hid (codeS (setSpans (k : Int)) r = 0 → cfV (k : Int) r = .tuple #[.int .i64 0, .int .i64 12]) := Lib.hid (fun h => cfV_bad (k : Int) r 12 (by simp [cfC, hn, h]) (by decide))
    have HG : Hid (codeS (setSpans (k : Int)) r ≠ 0 → cfV (k : Int) r = .tuple #[.int .i64 (codeS (setSpans (k : Int)) r), .int .i64 0]) := Lib.hid (fun h => cfV_ok (k : Int) r (by simp [cfC, hn, h]))
    obtain ⟨g, off, c, rfl, hcs⟩ := hs.open
    have HC := Lib.hid hcs
    have HS := Lib.hid (set_small (k : Int))
    have HP := Lib.hid (set_pos (k : Int))
    have f2 := (set_few (k : Int)).2
    clear hs hcs
    generalize setSpans (k : Int) = sp at *
    go_enter Tryz.func102, Tryz.ntmps102
    go_wp2_with fail
    refine (impl_isSet (k : Int) w).mono ?_
    rintro e w1 ⟨rfl, rfl⟩
    rw [hn]
    go_wp2
    go_loopw [18] (fun i wr => ∃ j : Nat, j ≤ sp.length ∧ i = .int .i64 j ∧ Hid (codeS sp r = codeS (sp.drop j) r) ∧ Below w.heap.size w wr) (fun i _ => sp.length - (intOf i).toNat)
    case atStart => exact ⟨0, Nat.zero_le _, rfl, Lib.hid rfl, Below.refl _ _⟩
    case round =>
      obtain ⟨j, hj, rfl, HR, b⟩ := hrel
      by_cases hlt : j < sp.length
      · have ⟨x0, x1, x2⟩ := HC.out j hlt
        have hsm := HS.out _ (List.getElem_mem hlt)
        have hps := HP.out _ (List.getElem_mem hlt)
        have HD := Lib.hid (codeS_drop sp r j hlt)
        have y0 := (b.cell (World.block_lt_of_cell? w _ x0)).trans x0
        have y1 := (b.cell (World.block_lt_of_cell? w _ x1)).trans x1
        have y2 := (b.cell (World.block_lt_of_cell? w _ x2)).trans x2
        generalize sp[j] = s at *
        obtain ⟨sc, sr, sn⟩ := s
        obtain ⟨⟨a1, a2⟩, ⟨a3, a4⟩, a5, a6⟩ := hsm
        simp only at a1 a2 a3 a4 a5 a6 y0 y1 y2 hps
        clear x0 x1 x2
        have v1 : (0 : Int) ≤ (j : Int) := by omega
        have v2 : (j : Int) < (sp.length : Int) := by omega
        go_wp2_with fail
        refine (impl_placeIn sr sn r _ a3 a4 a5 a6 hu).mono ?_
        rintro e w2 ⟨rfl, rfl⟩
        unfold placeV
        have B := b.alloc b.size (.cells #[.int .i64 sc, .int .i64 sr, .int .i64 sn] 147)
        cases hin : inB r sr (sr + sn - 1)
        · have HX : Hid (codeS sp r = codeS (sp.drop (j + 1)) r) := Lib.hid (by rw [HR.out, HD.out, hin]; simp)
          go_wp2
          go_roundw
          case rel => exact ⟨j + 1, by omega, by go_num, HX, B⟩
          case measure => simp [intOf]; omega
        · have ⟨i1, i2⟩ := inB_true hin
          have v5 : IntKind.i64.wrap (sc + (r - sr)) = sc + (r - sr) := IntWalk.i64_in _ (by omega)
          have HX : Hid (codeS sp r = sc + (r - sr)) := Lib.hid (by rw [HR.out, HD.out, hin]; simp; omega)
          go_wp2
          go_ret2
          refine ⟨ret_val ?_, B⟩
          rw [HG.out (by rw [HX.out]; omega), HX.out]
          rfl
      · go_wp2
        go_ret2
        refine ⟨ret_val ?_, b⟩
        have hjn : sp.length ≤ j := by omega
        rw [HB.out (by rw [HR.out, List.drop_eq_nil_of_le hjn]; rfl)]
        rfl

end Go.Proofs.YtbamjhldebobhaaGreatDoor

namespace Go.Proofs.YtbamjhldebobhaaGreatDoor
open Go.RowKit Go.Sort

/-- What the machine's methods tell of a step. -/
def toldR (p : Stp) : Int := if 0 ≤ p.r then p.r else 0
def toldB (p : Stp) : Bool := decide (0 ≤ p.r)
def mvV (p : Stp) : Value := .tuple #[.int .i64 (toldR p), .bool (toldB p), .int .i64 p.c]
def MvDone (p : Stp) (b : Nat) (w : World) (e : Ending) (w' : World) : Prop := e = .returned (mvV p) ∧ MAt w' b p.y ∧ Only b w w'
theorem mv_none {p : Stp} {y : St} {c : Int} (h : p = ⟨y, -1, c⟩) : mvV p = .tuple #[.int .i64 0, .bool false, .int .i64 c] := by rw [h]; rfl
theorem mv_some {p : Stp} {y : St} {r c : Int} (h : p = ⟨y, r, c⟩) (hr : 0 ≤ r) : mvV p = .tuple #[.int .i64 r, .bool true, .int .i64 c] := by
  rw [h]; unfold mvV toldR toldB; dsimp only; rw [if_pos hr, decide_eq_true hr]
theorem only_below {b : Nat} {w w' : World} (hb : b < w.heap.size) (h : Below w.heap.size w w') : Only b w w' := ⟨h.mono (by omega), fun g _ hg => h.block g hg⟩
theorem mvDone_none {x : St} {p : Stp} {b : Nat} {w w' : World} {c : Int} (h : p = ⟨x, -1, c⟩) (hm : MAt w b x) (hb : Below w.heap.size w w') : MvDone p b w (.returned (.tuple #[.int .i64 0, .bool false, .int .i64 c])) w' :=
  ⟨by rw [mv_none h], by rw [h]; exact hm.keep hb, only_below hm.lt hb⟩

theorem mvDone_gone {x : St} {p : Stp} {b : Nat} {w w' : World} {rr : Int} (h : p = ⟨⟨x.g0, x.g1, x.g2, x.g3, x.l, 0, 0⟩, rr, 0⟩) (hr : 0 ≤ rr) (hm : MAt w b x) (hb : Below w.heap.size w w') : MvDone p b w (.returned (.tuple #[.int .i64 rr, .bool true, .int .i64 0])) ((w'.setCell ⟨b, 5, none⟩ (.int .i64 0)).setCell ⟨b, 6, none⟩ (.int .i64 0)) :=
  ⟨by rw [mv_some h hr], by rw [h]; exact heap_setCell_same _ _ 6 _ _ (.int .i64 0) (heap_setCell_same _ _ 5 _ _ (.int .i64 0) (hm.keep hb)), ((only_below hm.lt hb).trans (Only.set b 5 _ _)).trans (Only.set b 6 _ _)⟩
theorem mvDone_lead {x : St} {p : Stp} {b : Nat} {w w' : World} {v : Int} (h : p = ⟨⟨x.g0, x.g1, x.g2, x.g3, x.l, x.s, v⟩, -1, 0⟩) (hm : MAt w b x) (hb : Below w.heap.size w w') : MvDone p b w (.returned (.tuple #[.int .i64 0, .bool false, .int .i64 0])) (w'.setCell ⟨b, 6, none⟩ (.int .i64 v)) :=
  ⟨by rw [mv_none h], by rw [h]; exact heap_setCell_same _ _ 6 _ _ (.int .i64 v) (hm.keep hb), (only_below hm.lt hb).trans (Only.set b 6 _ _)⟩

/-- The lead's half. -/
theorem half_lead {x : St} (h : leadOK x = true) (h0 : x.d ≠ 0) : halfN x.d = sideNo (decide (128 < x.d)) := by
  unfold leadOK at h
  rw [Bool.or_eq_true, decide_eq_true_eq, Bool.and_eq_true, Bool.and_eq_true] at h
  rcases h with h | ⟨h1, h2, _⟩
  · exact absurd h h0
  have ⟨a, b⟩ := inB_true h1
  have ⟨c, d⟩ := inB_true h2
  rw [Int.tmod_eq_emod_of_nonneg (by omega)] at a b
  unfold halfN sideNo
  by_cases h3 : 128 < x.d
  · rw [if_pos (by omega), if_pos (by simpa using h3)]
  · rw [if_neg (by omega), if_neg (by simpa using h3)]

/-- RuneFor's code, where the set is one and the code no negative number. -/
theorem rf_told {q A : Int} (hq : setB q = true) (hA : 0 ≤ A) (x : St) : (rfC q A = 0 → gLast x q A = ⟨⟨x.g0, x.g1, x.g2, x.g3, x.l, 0, 0⟩, rfR q A, 0⟩ ∧ 0 ≤ rfR q A) ∧ (rfC q A ≠ 0 → gLast x q A = ⟨x, -1, 12⟩) := by
  have hk : codeOKB q A = kindB (setKind q) A := by unfold codeOKB; rw [hq, decide_eq_true hA]; rfl
  constructor
  · intro h
    have hr : rfR q A = runeS (setSpans q) A := by rw [rfR, if_pos h]
    unfold rfC at h
    rw [if_pos hq, hk] at h
    split at h
    · split at h
      · cases h
      · next h1 h2 =>
        rw [hr]
        exact ⟨by rw [gLast, if_pos ⟨h1, by omega⟩], by omega⟩
    · cases h
  · intro h
    unfold rfC at h
    rw [if_pos hq, hk] at h
    unfold gLast
    split
    · next h1 => rw [if_pos h1.1, if_neg (by omega)] at h; exact absurd rfl h
    · rfl

set_option maxHeartbeats 1000000 in
set_option maxRecDepth 100000 in
theorem impl_take (x : St) (b : Nat) (r : Bool) (a : Int) (w : World) (h : MAt w b x) (ht : TabM w) (hx : stOKB x = true) (a0 : 0 ≤ a) (a1 : a ≤ 255) : Calls Tryz.prog 187 #[.pointer (some ⟨b, 0, none⟩), .int .i64 (sideNo r), .int .i64 a] w (MvDone (graphic x a r) b w) := by
  obtain ⟨h1, h2, h3⟩ := stOK_parts hx
  have ⟨d0, d1⟩ := lead_range h3
  have HL := Lib.hid (half_lead h3)
  have hs : (sideNo r == 128) = r := by cases r <;> rfl
  have HF := Lib.hid (fun w h => impl_setFor x b (sideNo r) w h h2)
  rw [hs] at HF
  obtain ⟨k, hk, k8⟩ := setAt_nat h1 r
  rw [hk] at HF
  have HG : Hid (graphic x a r = if (k : Int) = 0 then ⟨x, -1, 17⟩
    else if setKind k = 3 then
      if 0 < x.d ∧ decide (128 < x.d) ≠ r then ⟨x, -1, 13⟩ else if inB a 33 126 = false then ⟨x, -1, 12⟩ else if x.d = 0 then ⟨⟨x.g0, x.g1, x.g2, x.g3, x.l, x.s, a + sideNo r⟩, -1, 0⟩
      else gLast x k (a + (x.d - sideNo r) * 256)
    else gLast x k a) := Lib.hid (by
      have hk' : stGet x (sideOf x r) = (k : Int) := hk
      rw [graphic, hk'])
  have HM := Lib.hid h
  have HT := Lib.hid ht
  have hb : b < w.heap.size := h.lt
  clear h ht hx h1 h2 h3 hk hs
  by_cases k0 : k = 0
  · subst k0
    have HE : Hid (graphic x a r = ⟨x, -1, 17⟩) := Lib.hid (by rw [HG.out, if_pos (show ((0 : Nat) : Int) = 0 from rfl)])
    go_enter Tryz.func187, Tryz.ntmps187
    go_wp2_with fail
    refine (HF.out w HM.out).mono ?_
    rintro e w1 ⟨rfl, b1⟩
    go_wp2
    go_ret3
    exact mvDone_none HE.out HM.out b1
  have kz : ¬ (k : Int) = 0 := by omega
  have ek : ((k : Int) == 0) = false := by rw [beq_eq_false_iff_ne]; exact kz
  have hsb : setB (k : Int) = true := by simp [setB, inB]; omega
  have u1 : (0 : Int) ≤ (k : Int) := by omega
  have u2 : (k : Int) < 9 := by omega
  by_cases k3 : setKind (k : Int) = 3
  · have HK : Hid (kind0 (k : Int) = 3) := Lib.hid (by rw [kind0, if_neg kz, k3])
    have HC := Lib.hid (fun w => impl_isCode94 a w)
    have hv : sideNo r = 0 ∨ sideNo r = 128 := by cases r <;> simp [sideNo]
    by_cases z : x.d = 0
    · have HW : Hid (¬ (0 < x.d ∧ decide (128 < x.d) ≠ r)) := Lib.hid (fun h => by omega)
      have ez : (x.d != 0) = false := by simp [z]
      have ez2 : (x.d == 0) = true := by simpa using z
      cases hin : inB a 33 126
      · have HE : Hid (graphic x a r = ⟨x, -1, 12⟩) := Lib.hid (by rw [HG.out, if_neg kz, if_pos k3, if_neg HW.out, if_pos hin])
        rw [hin] at HC
        clear HG HL z k3 kz hsb
        go_enter Tryz.func187, Tryz.ntmps187
        go_wp2_with fail
        refine (HF.out w HM.out).mono ?_
        rintro e w1 ⟨rfl, b1⟩
        have c1 := (HT.out.keep b1).kind k k8
        rw [HK.out] at c1
        have HM1 := Lib.hid (HM.out.keep b1)
        have ⟨y0, y1, y2, y3, y4, y5, y6⟩ := HM1.out.cells
        go_wp2_with fail
        refine (HC.out w1).mono ?_
        rintro e w2 ⟨rfl, rfl⟩
        go_wp2
        go_ret3
        exact mvDone_none HE.out HM.out b1
      · have HE : Hid (graphic x a r = ⟨⟨x.g0, x.g1, x.g2, x.g3, x.l, x.s, sideNo r + a⟩, -1, 0⟩) := Lib.hid (by rw [HG.out, if_neg kz, if_pos k3, if_neg HW.out, if_neg (by rw [hin]; decide), if_pos z, Int.add_comm])
        have uw : IntKind.i64.wrap (sideNo r + a) = sideNo r + a := IntWalk.i64_in _ (by omega)
        rw [hin] at HC
        clear HG HL z k3 kz hsb hv
        go_enter Tryz.func187, Tryz.ntmps187
        go_wp2_with fail
        refine (HF.out w HM.out).mono ?_
        rintro e w1 ⟨rfl, b1⟩
        have c1 := (HT.out.keep b1).kind k k8
        rw [HK.out] at c1
        have HM1 := Lib.hid (HM.out.keep b1)
        have ⟨y0, y1, y2, y3, y4, y5, y6⟩ := HM1.out.cells
        go_wp2_with fail
        refine (HC.out w1).mono ?_
        rintro e w2 ⟨rfl, rfl⟩
        have ⟨q0, q1, q2, q3, q4, q5, q6⟩ := HM1.out.thaw
        have hl2 : b < w1.heap.size := HM1.out.lt
        go_wp2
        go_ret3
        exact mvDone_lead HE.out HM.out b1
    · have hpos : 0 < x.d := by omega
      have ez : (x.d != 0) = true := by simpa using z
      have ez2 : (x.d == 0) = false := by rw [beq_eq_false_iff_ne]; exact z
      have HH := Lib.hid (fun w => impl_halfOf x.d w)
      rw [HL.out z] at HH
      cases hd : (sideNo (decide (128 < x.d)) != sideNo r)
      · have hd2 : decide (128 < x.d) = r := by
          cases h : decide (128 < x.d) <;> cases r <;> rw [h] at hd <;> first | rfl | (revert hd; decide)
        have HW : Hid (¬ (0 < x.d ∧ decide (128 < x.d) ≠ r)) := Lib.hid (fun h => h.2 hd2)
        have hdr : 128 ≤ x.d ∨ sideNo r = 0 := by
          cases r
          · exact .inr rfl
          · have := of_decide_eq_true hd2; exact .inl (by omega)
        generalize sideNo (decide (128 < x.d)) = hf at *
        cases hin : inB a 33 126
        · have HE : Hid (graphic x a r = ⟨x, -1, 12⟩) := Lib.hid (by rw [HG.out, if_neg kz, if_pos k3, if_neg HW.out, if_pos hin])
          rw [hin] at HC
          clear HG HL z k3 kz hsb hd2
          go_enter Tryz.func187, Tryz.ntmps187
          go_wp2_with fail
          refine (HF.out w HM.out).mono ?_
          rintro e w1 ⟨rfl, b1⟩
          have c1 := (HT.out.keep b1).kind k k8
          rw [HK.out] at c1
          have HM1 := Lib.hid (HM.out.keep b1)
          have ⟨y0, y1, y2, y3, y4, y5, y6⟩ := HM1.out.cells
          go_wp2_with fail
          refine (HH.out w1).mono ?_
          rintro e w2 ⟨rfl, rfl⟩
          go_wp2_with fail
          refine (HC.out w1).mono ?_
          rintro e w2 ⟨rfl, rfl⟩
          go_wp2
          go_ret3
          exact mvDone_none HE.out HM.out b1
        · have HE : Hid (graphic x a r = gLast x k ((x.d - sideNo r) * 256 + a)) := Lib.hid (by rw [HG.out, if_neg kz, if_pos k3, if_neg HW.out, if_neg (by rw [hin]; decide), if_neg z, Int.add_comm])
          have hA : 0 ≤ (x.d - sideNo r) * 256 + a := by omega
          have HR := Lib.hid (rf_told hsb hA x)
          have HU := Lib.hid (fun w ht => impl_RuneFor (k : Int) ((x.d - sideNo r) * 256 + a) w ht (by omega) (by omega))
          have uw1 : IntKind.i64.wrap (x.d - sideNo r) = x.d - sideNo r := IntWalk.i64_in _ (by omega)
          have uw2 : IntKind.i64.wrap ((x.d - sideNo r) * 256) = (x.d - sideNo r) * 256 := IntWalk.i64_in _ (by omega)
          have uw3 : IntKind.i64.wrap ((x.d - sideNo r) * 256 + a) = (x.d - sideNo r) * 256 + a := IntWalk.i64_in _ (by omega)
          rw [hin] at HC
          unfold rfV at HU
          clear HG HL z k3 kz hsb hd2
          generalize rfR (k : Int) ((x.d - sideNo r) * 256 + a) = rr at *
          generalize rfC (k : Int) ((x.d - sideNo r) * 256 + a) = rc at *
          go_enter Tryz.func187, Tryz.ntmps187
          go_wp2_with fail
          refine (HF.out w HM.out).mono ?_
          rintro e w1 ⟨rfl, b1⟩
          have c1 := (HT.out.keep b1).kind k k8
          rw [HK.out] at c1
          have HM1 := Lib.hid (HM.out.keep b1)
          have ⟨y0, y1, y2, y3, y4, y5, y6⟩ := HM1.out.cells
          go_wp2_with fail
          refine (HH.out w1).mono ?_
          rintro e w2 ⟨rfl, rfl⟩
          go_wp2_with fail
          refine (HC.out w1).mono ?_
          rintro e w2 ⟨rfl, rfl⟩
          go_wp2_with fail
          refine (HU.out w1 (HT.out.keep b1).1).mono ?_
          rintro e w2 ⟨rfl, b2⟩
          have B2 : Below w.heap.size w w2 := b1.trans (b2.mono b1.size)
          clear y0 y1 y2 y3 y4 y5 y6 c1
          by_cases hc : rc = 0
          · have ⟨hE, hr⟩ := HR.out.1 hc
            have HE2 : Hid (graphic x a r = ⟨⟨x.g0, x.g1, x.g2, x.g3, x.l, 0, 0⟩, rr, 0⟩) := Lib.hid (HE.out.trans hE)
            have HM2 := Lib.hid (HM.out.keep B2)
            have ⟨y0, y1, y2, y3, y4, y5, y6⟩ := HM2.out.cells
            have ⟨q0, q1, q2, q3, q4, q5, q6⟩ := HM2.out.thaw
            have hl2 : b < w2.heap.size := HM2.out.lt
            clear hE
            go_wp2
            go_ret3
            exact mvDone_gone HE2.out hr HM.out B2
          · have HE2 : Hid (graphic x a r = ⟨x, -1, 12⟩) := Lib.hid (HE.out.trans (HR.out.2 hc))
            have ec : (rc != 0) = true := by simpa using hc
            go_wp2
            go_ret3
            exact mvDone_none HE2.out HM.out B2
      · have hd2 : decide (128 < x.d) ≠ r := fun h => by rw [h] at hd; simp at hd
        have HE : Hid (graphic x a r = ⟨x, -1, 13⟩) := Lib.hid (by rw [HG.out, if_neg kz, if_pos k3, if_pos ⟨hpos, hd2⟩])
        generalize sideNo (decide (128 < x.d)) = hf at *
        clear HG HL z k3 kz hsb hd2
        go_enter Tryz.func187, Tryz.ntmps187
        go_wp2_with fail
        refine (HF.out w HM.out).mono ?_
        rintro e w1 ⟨rfl, b1⟩
        have c1 := (HT.out.keep b1).kind k k8
        rw [HK.out] at c1
        have HM1 := Lib.hid (HM.out.keep b1)
        have ⟨y0, y1, y2, y3, y4, y5, y6⟩ := HM1.out.cells
        go_wp2_with fail
        refine (HH.out w1).mono ?_
        rintro e w2 ⟨rfl, rfl⟩
        go_wp2
        go_ret3
        exact mvDone_none HE.out HM.out b1
  · have HE : Hid (graphic x a r = gLast x k a) := Lib.hid (by rw [HG.out, if_neg kz, if_neg k3])
    have HR := Lib.hid (rf_told hsb a0 x)
    have HU := Lib.hid (fun w ht => impl_RuneFor (k : Int) a w ht (by omega) (by omega))
    have e3 : (setKind (k : Int) == 3) = false := by rw [beq_eq_false_iff_ne]; exact k3
    have HK : Hid (kind0 (k : Int) = setKind k) := Lib.hid (by rw [kind0, if_neg kz])
    clear k3 kz hsb HG
    unfold rfV at HU
    generalize rfR (k : Int) a = rr at *
    generalize rfC (k : Int) a = rc at *
    go_enter Tryz.func187, Tryz.ntmps187
    go_wp2_with fail
    refine (HF.out w HM.out).mono ?_
    rintro e w1 ⟨rfl, b1⟩
    have c1 := (HT.out.keep b1).kind k k8
    rw [HK.out] at c1
    generalize setKind (k : Int) = kd at *
    go_wp2_with fail
    refine (HU.out w1 (HT.out.keep b1).1).mono ?_
    rintro e w2 ⟨rfl, b2⟩
    have B2 : Below w.heap.size w w2 := b1.trans (b2.mono b1.size)
    by_cases hc : rc = 0
    · have ⟨hE, hr⟩ := HR.out.1 hc
      have HE2 : Hid (graphic x a r = ⟨⟨x.g0, x.g1, x.g2, x.g3, x.l, 0, 0⟩, rr, 0⟩) := Lib.hid (HE.out.trans hE)
      have HM2 := Lib.hid (HM.out.keep B2)
      have ⟨y0, y1, y2, y3, y4, y5, y6⟩ := HM2.out.cells
      have ⟨q0, q1, q2, q3, q4, q5, q6⟩ := HM2.out.thaw
      have hl2 : b < w2.heap.size := HM2.out.lt
      clear hE c1
      go_wp2
      go_ret3
      exact mvDone_gone HE2.out hr HM.out B2
    · have HE2 : Hid (graphic x a r = ⟨x, -1, 12⟩) := Lib.hid (HE.out.trans (HR.out.2 hc))
      have ec : (rc != 0) = true := by simpa using hc
      go_wp2
      go_ret3
      exact mvDone_none HE2.out HM.out B2

end Go.Proofs.YtbamjhldebobhaaGreatDoor

namespace Go.Proofs.YtbamjhldebobhaaGreatDoor
open Go.RowKit

/-- A decoder in block g. -/
def DeAt (w : World) (g : Nat) (d : De) : Prop := w.heap[g]? = some (.cells #[.int .i64 d.n, .int .i64 d.a, .int .i64 d.c, .int .i64 d.x.g0, .int .i64 d.x.g1, .int .i64 d.x.g2, .int .i64 d.x.g3, .int .i64 d.x.l, .int .i64 d.x.s, .int .i64 d.x.d, .string d.r, .bool d.b, .bool d.o] 41)
theorem DeAt.lt {w : World} {g : Nat} {d : De} (h : DeAt w g d) : g < w.heap.size := (Array.getElem?_eq_some_iff.1 h).1
theorem DeAt.keep {w w' : World} {g : Nat} {d : De} (h : DeAt w g d) (b : Below w.heap.size w w') : DeAt w' g d := (b.block g h.lt).trans h
theorem DeAt.below {w w' : World} {g B : Nat} {d : De} (h : DeAt w g d) (b : Below B w w') (hB : g < B) : DeAt w' g d := (b.block g hB).trans h
theorem DeAt.new (w : World) (d : De) : DeAt (w.alloc (.cells #[.int .i64 d.n, .int .i64 d.a, .int .i64 d.c, .int .i64 d.x.g0, .int .i64 d.x.g1, .int .i64 d.x.g2, .int .i64 d.x.g3, .int .i64 d.x.l, .int .i64 d.x.s, .int .i64 d.x.d, .string d.r, .bool d.b, .bool d.o] 41)) w.heap.size d := heap_alloc_new _ _
theorem deSlot0 (w : World) : DeAt (w.alloc (.cells #[.int .i64 0, .int .i64 0, .int .i64 0, .int .i64 0, .int .i64 0, .int .i64 0, .int .i64 0, .int .i64 0, .int .i64 0, .int .i64 0, .string ⟨#[]⟩, .bool false, .bool false] 41)) w.heap.size zeroDe := heap_alloc_new _ _
theorem DeAt.cells {w : World} {g : Nat} {d : De} (h : DeAt w g d) : w.cell? ⟨g, 0, none⟩ = some (.int .i64 d.n) ∧ w.cell? ⟨g, 1, none⟩ = some (.int .i64 d.a) ∧ w.cell? ⟨g, 2, none⟩ = some (.int .i64 d.c) ∧ w.cell? ⟨g, 3, none⟩ = some (.int .i64 d.x.g0) ∧ w.cell? ⟨g, 4, none⟩ = some (.int .i64 d.x.g1) ∧ w.cell? ⟨g, 5, none⟩ = some (.int .i64 d.x.g2) ∧ w.cell? ⟨g, 6, none⟩ = some (.int .i64 d.x.g3) ∧ w.cell? ⟨g, 7, none⟩ = some (.int .i64 d.x.l) ∧ w.cell? ⟨g, 8, none⟩ = some (.int .i64 d.x.s) ∧ w.cell? ⟨g, 9, none⟩ = some (.int .i64 d.x.d) ∧ w.cell? ⟨g, 10, none⟩ = some (.string d.r) ∧ w.cell? ⟨g, 11, none⟩ = some (.bool d.b) ∧ w.cell? ⟨g, 12, none⟩ = some (.bool d.o) := by
  refine ⟨?_, ?_, ?_, ?_, ?_, ?_, ?_, ?_, ?_, ?_, ?_, ?_, ?_⟩ <;> (rw [cell_of_row _ _ _ _ _ _ h]; rfl)
theorem DeAt.thaw {w : World} {g : Nat} {d : De} (h : DeAt w g d) : w.frozen? ⟨g, 0, none⟩ = false ∧ w.frozen? ⟨g, 1, none⟩ = false ∧ w.frozen? ⟨g, 2, none⟩ = false ∧ w.frozen? ⟨g, 3, none⟩ = false ∧ w.frozen? ⟨g, 4, none⟩ = false ∧ w.frozen? ⟨g, 5, none⟩ = false ∧ w.frozen? ⟨g, 6, none⟩ = false ∧ w.frozen? ⟨g, 7, none⟩ = false ∧ w.frozen? ⟨g, 8, none⟩ = false ∧ w.frozen? ⟨g, 9, none⟩ = false ∧ w.frozen? ⟨g, 10, none⟩ = false ∧ w.frozen? ⟨g, 11, none⟩ = false ∧ w.frozen? ⟨g, 12, none⟩ = false :=
  ⟨frozen_of_row w _ 0 _ _ h, frozen_of_row w _ 1 _ _ h, frozen_of_row w _ 2 _ _ h, frozen_of_row w _ 3 _ _ h, frozen_of_row w _ 4 _ _ h, frozen_of_row w _ 5 _ _ h, frozen_of_row w _ 6 _ _ h, frozen_of_row w _ 7 _ _ h, frozen_of_row w _ 8 _ _ h, frozen_of_row w _ 9 _ _ h, frozen_of_row w _ 10 _ _ h, frozen_of_row w _ 11 _ _ h, frozen_of_row w _ 12 _ _ h⟩
/-- A decoder stored field by field. -/
def putDe (w : World) (g : Nat) (d : De) : World := (((((((((((((w.setCell ⟨g, 0, none⟩ (.int .i64 d.n)).setCell ⟨g, 1, none⟩ (.int .i64 d.a)).setCell ⟨g, 2, none⟩ (.int .i64 d.c)).setCell ⟨g, 3, none⟩ (.int .i64 d.x.g0)).setCell ⟨g, 4, none⟩ (.int .i64 d.x.g1)).setCell ⟨g, 5, none⟩ (.int .i64 d.x.g2)).setCell ⟨g, 6, none⟩ (.int .i64 d.x.g3)).setCell ⟨g, 7, none⟩ (.int .i64 d.x.l)).setCell ⟨g, 8, none⟩ (.int .i64 d.x.s)).setCell ⟨g, 9, none⟩ (.int .i64 d.x.d)).setCell ⟨g, 10, none⟩ (.string d.r)).setCell ⟨g, 11, none⟩ (.bool d.b)).setCell ⟨g, 12, none⟩ (.bool d.o))
set_option maxRecDepth 100000 in
theorem DeAt.put {w : World} {g : Nat} {x : De} (h : DeAt w g x) (y : De) : DeAt (putDe w g y) g y := by
  have k0 : ((w.setCell ⟨g, 0, none⟩ (.int .i64 y.n))).heap[g]? = some (.cells #[.int .i64 y.n, .int .i64 x.a, .int .i64 x.c, .int .i64 x.x.g0, .int .i64 x.x.g1, .int .i64 x.x.g2, .int .i64 x.x.g3, .int .i64 x.x.l, .int .i64 x.x.s, .int .i64 x.x.d, .string x.r, .bool x.b, .bool x.o] 41) := heap_setCell_same _ g 0 _ _ (.int .i64 y.n) h
  have k1 : (((w.setCell ⟨g, 0, none⟩ (.int .i64 y.n)).setCell ⟨g, 1, none⟩ (.int .i64 y.a))).heap[g]? = some (.cells #[.int .i64 y.n, .int .i64 y.a, .int .i64 x.c, .int .i64 x.x.g0, .int .i64 x.x.g1, .int .i64 x.x.g2, .int .i64 x.x.g3, .int .i64 x.x.l, .int .i64 x.x.s, .int .i64 x.x.d, .string x.r, .bool x.b, .bool x.o] 41) := heap_setCell_same _ g 1 _ _ (.int .i64 y.a) k0
  have k2 : ((((w.setCell ⟨g, 0, none⟩ (.int .i64 y.n)).setCell ⟨g, 1, none⟩ (.int .i64 y.a)).setCell ⟨g, 2, none⟩ (.int .i64 y.c))).heap[g]? = some (.cells #[.int .i64 y.n, .int .i64 y.a, .int .i64 y.c, .int .i64 x.x.g0, .int .i64 x.x.g1, .int .i64 x.x.g2, .int .i64 x.x.g3, .int .i64 x.x.l, .int .i64 x.x.s, .int .i64 x.x.d, .string x.r, .bool x.b, .bool x.o] 41) := heap_setCell_same _ g 2 _ _ (.int .i64 y.c) k1
  have k3 : (((((w.setCell ⟨g, 0, none⟩ (.int .i64 y.n)).setCell ⟨g, 1, none⟩ (.int .i64 y.a)).setCell ⟨g, 2, none⟩ (.int .i64 y.c)).setCell ⟨g, 3, none⟩ (.int .i64 y.x.g0))).heap[g]? = some (.cells #[.int .i64 y.n, .int .i64 y.a, .int .i64 y.c, .int .i64 y.x.g0, .int .i64 x.x.g1, .int .i64 x.x.g2, .int .i64 x.x.g3, .int .i64 x.x.l, .int .i64 x.x.s, .int .i64 x.x.d, .string x.r, .bool x.b, .bool x.o] 41) := heap_setCell_same _ g 3 _ _ (.int .i64 y.x.g0) k2
  have k4 : ((((((w.setCell ⟨g, 0, none⟩ (.int .i64 y.n)).setCell ⟨g, 1, none⟩ (.int .i64 y.a)).setCell ⟨g, 2, none⟩ (.int .i64 y.c)).setCell ⟨g, 3, none⟩ (.int .i64 y.x.g0)).setCell ⟨g, 4, none⟩ (.int .i64 y.x.g1))).heap[g]? = some (.cells #[.int .i64 y.n, .int .i64 y.a, .int .i64 y.c, .int .i64 y.x.g0, .int .i64 y.x.g1, .int .i64 x.x.g2, .int .i64 x.x.g3, .int .i64 x.x.l, .int .i64 x.x.s, .int .i64 x.x.d, .string x.r, .bool x.b, .bool x.o] 41) := heap_setCell_same _ g 4 _ _ (.int .i64 y.x.g1) k3
  have k5 : (((((((w.setCell ⟨g, 0, none⟩ (.int .i64 y.n)).setCell ⟨g, 1, none⟩ (.int .i64 y.a)).setCell ⟨g, 2, none⟩ (.int .i64 y.c)).setCell ⟨g, 3, none⟩ (.int .i64 y.x.g0)).setCell ⟨g, 4, none⟩ (.int .i64 y.x.g1)).setCell ⟨g, 5, none⟩ (.int .i64 y.x.g2))).heap[g]? = some (.cells #[.int .i64 y.n, .int .i64 y.a, .int .i64 y.c, .int .i64 y.x.g0, .int .i64 y.x.g1, .int .i64 y.x.g2, .int .i64 x.x.g3, .int .i64 x.x.l, .int .i64 x.x.s, .int .i64 x.x.d, .string x.r, .bool x.b, .bool x.o] 41) := heap_setCell_same _ g 5 _ _ (.int .i64 y.x.g2) k4
  have k6 : ((((((((w.setCell ⟨g, 0, none⟩ (.int .i64 y.n)).setCell ⟨g, 1, none⟩ (.int .i64 y.a)).setCell ⟨g, 2, none⟩ (.int .i64 y.c)).setCell ⟨g, 3, none⟩ (.int .i64 y.x.g0)).setCell ⟨g, 4, none⟩ (.int .i64 y.x.g1)).setCell ⟨g, 5, none⟩ (.int .i64 y.x.g2)).setCell ⟨g, 6, none⟩ (.int .i64 y.x.g3))).heap[g]? = some (.cells #[.int .i64 y.n, .int .i64 y.a, .int .i64 y.c, .int .i64 y.x.g0, .int .i64 y.x.g1, .int .i64 y.x.g2, .int .i64 y.x.g3, .int .i64 x.x.l, .int .i64 x.x.s, .int .i64 x.x.d, .string x.r, .bool x.b, .bool x.o] 41) := heap_setCell_same _ g 6 _ _ (.int .i64 y.x.g3) k5
  have k7 : (((((((((w.setCell ⟨g, 0, none⟩ (.int .i64 y.n)).setCell ⟨g, 1, none⟩ (.int .i64 y.a)).setCell ⟨g, 2, none⟩ (.int .i64 y.c)).setCell ⟨g, 3, none⟩ (.int .i64 y.x.g0)).setCell ⟨g, 4, none⟩ (.int .i64 y.x.g1)).setCell ⟨g, 5, none⟩ (.int .i64 y.x.g2)).setCell ⟨g, 6, none⟩ (.int .i64 y.x.g3)).setCell ⟨g, 7, none⟩ (.int .i64 y.x.l))).heap[g]? = some (.cells #[.int .i64 y.n, .int .i64 y.a, .int .i64 y.c, .int .i64 y.x.g0, .int .i64 y.x.g1, .int .i64 y.x.g2, .int .i64 y.x.g3, .int .i64 y.x.l, .int .i64 x.x.s, .int .i64 x.x.d, .string x.r, .bool x.b, .bool x.o] 41) := heap_setCell_same _ g 7 _ _ (.int .i64 y.x.l) k6
  have k8 : ((((((((((w.setCell ⟨g, 0, none⟩ (.int .i64 y.n)).setCell ⟨g, 1, none⟩ (.int .i64 y.a)).setCell ⟨g, 2, none⟩ (.int .i64 y.c)).setCell ⟨g, 3, none⟩ (.int .i64 y.x.g0)).setCell ⟨g, 4, none⟩ (.int .i64 y.x.g1)).setCell ⟨g, 5, none⟩ (.int .i64 y.x.g2)).setCell ⟨g, 6, none⟩ (.int .i64 y.x.g3)).setCell ⟨g, 7, none⟩ (.int .i64 y.x.l)).setCell ⟨g, 8, none⟩ (.int .i64 y.x.s))).heap[g]? = some (.cells #[.int .i64 y.n, .int .i64 y.a, .int .i64 y.c, .int .i64 y.x.g0, .int .i64 y.x.g1, .int .i64 y.x.g2, .int .i64 y.x.g3, .int .i64 y.x.l, .int .i64 y.x.s, .int .i64 x.x.d, .string x.r, .bool x.b, .bool x.o] 41) := heap_setCell_same _ g 8 _ _ (.int .i64 y.x.s) k7
  have k9 : (((((((((((w.setCell ⟨g, 0, none⟩ (.int .i64 y.n)).setCell ⟨g, 1, none⟩ (.int .i64 y.a)).setCell ⟨g, 2, none⟩ (.int .i64 y.c)).setCell ⟨g, 3, none⟩ (.int .i64 y.x.g0)).setCell ⟨g, 4, none⟩ (.int .i64 y.x.g1)).setCell ⟨g, 5, none⟩ (.int .i64 y.x.g2)).setCell ⟨g, 6, none⟩ (.int .i64 y.x.g3)).setCell ⟨g, 7, none⟩ (.int .i64 y.x.l)).setCell ⟨g, 8, none⟩ (.int .i64 y.x.s)).setCell ⟨g, 9, none⟩ (.int .i64 y.x.d))).heap[g]? = some (.cells #[.int .i64 y.n, .int .i64 y.a, .int .i64 y.c, .int .i64 y.x.g0, .int .i64 y.x.g1, .int .i64 y.x.g2, .int .i64 y.x.g3, .int .i64 y.x.l, .int .i64 y.x.s, .int .i64 y.x.d, .string x.r, .bool x.b, .bool x.o] 41) := heap_setCell_same _ g 9 _ _ (.int .i64 y.x.d) k8
  have k10 : ((((((((((((w.setCell ⟨g, 0, none⟩ (.int .i64 y.n)).setCell ⟨g, 1, none⟩ (.int .i64 y.a)).setCell ⟨g, 2, none⟩ (.int .i64 y.c)).setCell ⟨g, 3, none⟩ (.int .i64 y.x.g0)).setCell ⟨g, 4, none⟩ (.int .i64 y.x.g1)).setCell ⟨g, 5, none⟩ (.int .i64 y.x.g2)).setCell ⟨g, 6, none⟩ (.int .i64 y.x.g3)).setCell ⟨g, 7, none⟩ (.int .i64 y.x.l)).setCell ⟨g, 8, none⟩ (.int .i64 y.x.s)).setCell ⟨g, 9, none⟩ (.int .i64 y.x.d)).setCell ⟨g, 10, none⟩ (.string y.r))).heap[g]? = some (.cells #[.int .i64 y.n, .int .i64 y.a, .int .i64 y.c, .int .i64 y.x.g0, .int .i64 y.x.g1, .int .i64 y.x.g2, .int .i64 y.x.g3, .int .i64 y.x.l, .int .i64 y.x.s, .int .i64 y.x.d, .string y.r, .bool x.b, .bool x.o] 41) := heap_setCell_same _ g 10 _ _ (.string y.r) k9
  have k11 : (((((((((((((w.setCell ⟨g, 0, none⟩ (.int .i64 y.n)).setCell ⟨g, 1, none⟩ (.int .i64 y.a)).setCell ⟨g, 2, none⟩ (.int .i64 y.c)).setCell ⟨g, 3, none⟩ (.int .i64 y.x.g0)).setCell ⟨g, 4, none⟩ (.int .i64 y.x.g1)).setCell ⟨g, 5, none⟩ (.int .i64 y.x.g2)).setCell ⟨g, 6, none⟩ (.int .i64 y.x.g3)).setCell ⟨g, 7, none⟩ (.int .i64 y.x.l)).setCell ⟨g, 8, none⟩ (.int .i64 y.x.s)).setCell ⟨g, 9, none⟩ (.int .i64 y.x.d)).setCell ⟨g, 10, none⟩ (.string y.r)).setCell ⟨g, 11, none⟩ (.bool y.b))).heap[g]? = some (.cells #[.int .i64 y.n, .int .i64 y.a, .int .i64 y.c, .int .i64 y.x.g0, .int .i64 y.x.g1, .int .i64 y.x.g2, .int .i64 y.x.g3, .int .i64 y.x.l, .int .i64 y.x.s, .int .i64 y.x.d, .string y.r, .bool y.b, .bool x.o] 41) := heap_setCell_same _ g 11 _ _ (.bool y.b) k10
  have k12 : ((((((((((((((w.setCell ⟨g, 0, none⟩ (.int .i64 y.n)).setCell ⟨g, 1, none⟩ (.int .i64 y.a)).setCell ⟨g, 2, none⟩ (.int .i64 y.c)).setCell ⟨g, 3, none⟩ (.int .i64 y.x.g0)).setCell ⟨g, 4, none⟩ (.int .i64 y.x.g1)).setCell ⟨g, 5, none⟩ (.int .i64 y.x.g2)).setCell ⟨g, 6, none⟩ (.int .i64 y.x.g3)).setCell ⟨g, 7, none⟩ (.int .i64 y.x.l)).setCell ⟨g, 8, none⟩ (.int .i64 y.x.s)).setCell ⟨g, 9, none⟩ (.int .i64 y.x.d)).setCell ⟨g, 10, none⟩ (.string y.r)).setCell ⟨g, 11, none⟩ (.bool y.b)).setCell ⟨g, 12, none⟩ (.bool y.o))).heap[g]? = some (.cells #[.int .i64 y.n, .int .i64 y.a, .int .i64 y.c, .int .i64 y.x.g0, .int .i64 y.x.g1, .int .i64 y.x.g2, .int .i64 y.x.g3, .int .i64 y.x.l, .int .i64 y.x.s, .int .i64 y.x.d, .string y.r, .bool y.b, .bool y.o] 41) := heap_setCell_same _ g 12 _ _ (.bool y.o) k11
  exact k12
theorem below_putDe {B : Nat} {a w : World} (h : Below B a w) {g : Nat} (hg : B ≤ g) (y : De) : Below B a (putDe w g y) := (((((((((((((h.setCell hg _).setCell hg _).setCell hg _).setCell hg _).setCell hg _).setCell hg _).setCell hg _).setCell hg _).setCell hg _).setCell hg _).setCell hg _).setCell hg _).setCell hg _)
theorem only_putDe (g : Nat) (w : World) (y : De) : Only g w (putDe w g y) := ((((((((((((((Only.refl _ _).trans (Only.set g 0 _ _)).trans (Only.set g 1 _ _)).trans (Only.set g 2 _ _)).trans (Only.set g 3 _ _)).trans (Only.set g 4 _ _)).trans (Only.set g 5 _ _)).trans (Only.set g 6 _ _)).trans (Only.set g 7 _ _)).trans (Only.set g 8 _ _)).trans (Only.set g 9 _ _)).trans (Only.set g 10 _ _)).trans (Only.set g 11 _ _)).trans (Only.set g 12 _ _))
/-- One field stored. -/
theorem DeAt.set1 {w : World} {g : Nat} {d : De} (h : DeAt w g d) (v : Int) : DeAt (w.setCell ⟨g, 1, none⟩ (.int .i64 v)) g ⟨d.n, v, d.c, d.x, d.r, d.b, d.o⟩ := heap_setCell_same _ g 1 _ _ (.int .i64 v) h
theorem DeAt.set2 {w : World} {g : Nat} {d : De} (h : DeAt w g d) (v : Int) : DeAt (w.setCell ⟨g, 2, none⟩ (.int .i64 v)) g ⟨d.n, d.a, v, d.x, d.r, d.b, d.o⟩ := heap_setCell_same _ g 2 _ _ (.int .i64 v) h
theorem DeAt.set10 {w : World} {g : Nat} {d : De} (h : DeAt w g d) (v : ByteArray) : DeAt (w.setCell ⟨g, 10, none⟩ (.string v)) g ⟨d.n, d.a, d.c, d.x, v, d.b, d.o⟩ := heap_setCell_same _ g 10 _ _ (.string v) h
theorem DeAt.set11 {w : World} {g : Nat} {d : De} (h : DeAt w g d) (v : Bool) : DeAt (w.setCell ⟨g, 11, none⟩ (.bool v)) g ⟨d.n, d.a, d.c, d.x, d.r, v, d.o⟩ := heap_setCell_same _ g 11 _ _ (.bool v) h
theorem DeAt.set12 {w : World} {g : Nat} {d : De} (h : DeAt w g d) (v : Bool) : DeAt (w.setCell ⟨g, 12, none⟩ (.bool v)) g ⟨d.n, d.a, d.c, d.x, d.r, d.b, v⟩ := heap_setCell_same _ g 12 _ _ (.bool v) h
/-- Its state stored. -/
def putDS (w : World) (g : Nat) (y : St) : World := (((((((w.setCell ⟨g, 3, none⟩ (.int .i64 y.g0)).setCell ⟨g, 4, none⟩ (.int .i64 y.g1)).setCell ⟨g, 5, none⟩ (.int .i64 y.g2)).setCell ⟨g, 6, none⟩ (.int .i64 y.g3)).setCell ⟨g, 7, none⟩ (.int .i64 y.l)).setCell ⟨g, 8, none⟩ (.int .i64 y.s)).setCell ⟨g, 9, none⟩ (.int .i64 y.d))
theorem DeAt.putS {w : World} {g : Nat} {d : De} (h : DeAt w g d) (y : St) : DeAt (putDS w g y) g ⟨d.n, d.a, d.c, y, d.r, d.b, d.o⟩ := by
  have k0 : ((w.setCell ⟨g, 3, none⟩ (.int .i64 y.g0))).heap[g]? = some (.cells #[.int .i64 d.n, .int .i64 d.a, .int .i64 d.c, .int .i64 y.g0, .int .i64 d.x.g1, .int .i64 d.x.g2, .int .i64 d.x.g3, .int .i64 d.x.l, .int .i64 d.x.s, .int .i64 d.x.d, .string d.r, .bool d.b, .bool d.o] 41) := heap_setCell_same _ g 3 _ _ (.int .i64 y.g0) h
  have k1 : (((w.setCell ⟨g, 3, none⟩ (.int .i64 y.g0)).setCell ⟨g, 4, none⟩ (.int .i64 y.g1))).heap[g]? = some (.cells #[.int .i64 d.n, .int .i64 d.a, .int .i64 d.c, .int .i64 y.g0, .int .i64 y.g1, .int .i64 d.x.g2, .int .i64 d.x.g3, .int .i64 d.x.l, .int .i64 d.x.s, .int .i64 d.x.d, .string d.r, .bool d.b, .bool d.o] 41) := heap_setCell_same _ g 4 _ _ (.int .i64 y.g1) k0
  have k2 : ((((w.setCell ⟨g, 3, none⟩ (.int .i64 y.g0)).setCell ⟨g, 4, none⟩ (.int .i64 y.g1)).setCell ⟨g, 5, none⟩ (.int .i64 y.g2))).heap[g]? = some (.cells #[.int .i64 d.n, .int .i64 d.a, .int .i64 d.c, .int .i64 y.g0, .int .i64 y.g1, .int .i64 y.g2, .int .i64 d.x.g3, .int .i64 d.x.l, .int .i64 d.x.s, .int .i64 d.x.d, .string d.r, .bool d.b, .bool d.o] 41) := heap_setCell_same _ g 5 _ _ (.int .i64 y.g2) k1
  have k3 : (((((w.setCell ⟨g, 3, none⟩ (.int .i64 y.g0)).setCell ⟨g, 4, none⟩ (.int .i64 y.g1)).setCell ⟨g, 5, none⟩ (.int .i64 y.g2)).setCell ⟨g, 6, none⟩ (.int .i64 y.g3))).heap[g]? = some (.cells #[.int .i64 d.n, .int .i64 d.a, .int .i64 d.c, .int .i64 y.g0, .int .i64 y.g1, .int .i64 y.g2, .int .i64 y.g3, .int .i64 d.x.l, .int .i64 d.x.s, .int .i64 d.x.d, .string d.r, .bool d.b, .bool d.o] 41) := heap_setCell_same _ g 6 _ _ (.int .i64 y.g3) k2
  have k4 : ((((((w.setCell ⟨g, 3, none⟩ (.int .i64 y.g0)).setCell ⟨g, 4, none⟩ (.int .i64 y.g1)).setCell ⟨g, 5, none⟩ (.int .i64 y.g2)).setCell ⟨g, 6, none⟩ (.int .i64 y.g3)).setCell ⟨g, 7, none⟩ (.int .i64 y.l))).heap[g]? = some (.cells #[.int .i64 d.n, .int .i64 d.a, .int .i64 d.c, .int .i64 y.g0, .int .i64 y.g1, .int .i64 y.g2, .int .i64 y.g3, .int .i64 y.l, .int .i64 d.x.s, .int .i64 d.x.d, .string d.r, .bool d.b, .bool d.o] 41) := heap_setCell_same _ g 7 _ _ (.int .i64 y.l) k3
  have k5 : (((((((w.setCell ⟨g, 3, none⟩ (.int .i64 y.g0)).setCell ⟨g, 4, none⟩ (.int .i64 y.g1)).setCell ⟨g, 5, none⟩ (.int .i64 y.g2)).setCell ⟨g, 6, none⟩ (.int .i64 y.g3)).setCell ⟨g, 7, none⟩ (.int .i64 y.l)).setCell ⟨g, 8, none⟩ (.int .i64 y.s))).heap[g]? = some (.cells #[.int .i64 d.n, .int .i64 d.a, .int .i64 d.c, .int .i64 y.g0, .int .i64 y.g1, .int .i64 y.g2, .int .i64 y.g3, .int .i64 y.l, .int .i64 y.s, .int .i64 d.x.d, .string d.r, .bool d.b, .bool d.o] 41) := heap_setCell_same _ g 8 _ _ (.int .i64 y.s) k4
  have k6 : ((((((((w.setCell ⟨g, 3, none⟩ (.int .i64 y.g0)).setCell ⟨g, 4, none⟩ (.int .i64 y.g1)).setCell ⟨g, 5, none⟩ (.int .i64 y.g2)).setCell ⟨g, 6, none⟩ (.int .i64 y.g3)).setCell ⟨g, 7, none⟩ (.int .i64 y.l)).setCell ⟨g, 8, none⟩ (.int .i64 y.s)).setCell ⟨g, 9, none⟩ (.int .i64 y.d))).heap[g]? = some (.cells #[.int .i64 d.n, .int .i64 d.a, .int .i64 d.c, .int .i64 y.g0, .int .i64 y.g1, .int .i64 y.g2, .int .i64 y.g3, .int .i64 y.l, .int .i64 y.s, .int .i64 y.d, .string d.r, .bool d.b, .bool d.o] 41) := heap_setCell_same _ g 9 _ _ (.int .i64 y.d) k5
  exact k6
theorem below_putDS {B : Nat} {a w : World} (h : Below B a w) {g : Nat} (hg : B ≤ g) (y : St) : Below B a (putDS w g y) := (((((((h.setCell hg _).setCell hg _).setCell hg _).setCell hg _).setCell hg _).setCell hg _).setCell hg _)
theorem only_putDS (g : Nat) (w : World) (y : St) : Only g w (putDS w g y) := ((((((((Only.refl _ _).trans (Only.set g 3 _ _)).trans (Only.set g 4 _ _)).trans (Only.set g 5 _ _)).trans (Only.set g 6 _ _)).trans (Only.set g 7 _ _)).trans (Only.set g 8 _ _)).trans (Only.set g 9 _ _))
/-- A decoder handed back in a slot. -/
def DeDone (d : De) (w : World) (e : Ending) (w' : World) : Prop := e = .returned (deV d) ∧ Below w.heap.size w w'

end Go.Proofs.YtbamjhldebobhaaGreatDoor

namespace Go.Proofs
open Go.Shelf

def Tryz.layC_ren : Go.Shelf.Ren := ⟨fun | 316 => 164 | n => n, fun | 0 => 0 | 3 => 3 | 4 => 4 | 5 => 5 | 9 => 9 | 37 => 51 | 127 => 222 | n => n, fun | n => n⟩
theorem Tryz.layC316 : LaysM.n316 Tryz.prog Tryz.layC_ren := {
  mixed := by kernel_rfl
  f316 := Tryz.func164.trans (congrArg some (by kernel_rfl))
  t0 := Tryz.underlying0
  a0 := Tryz.isAgg0
  z0 := Tryz.sizeOf0
  v0 := Tryz.zeroValue0
  t3 := Tryz.underlying3
  a3 := Tryz.isAgg3
  z3 := Tryz.sizeOf3
  v3 := Tryz.zeroValue3
  t4 := Tryz.underlying4
  a4 := Tryz.isAgg4
  z4 := Tryz.sizeOf4
  v4 := Tryz.zeroValue4
  t9 := Tryz.underlying9
  a9 := Tryz.isAgg9
  z9 := Tryz.sizeOf9
  v9 := Tryz.zeroValue9
  t37 := Tryz.underlying51
  a37 := Tryz.isAgg51
  z37 := Tryz.sizeOf51
  v37 := Tryz.zeroValue51
  t127 := Tryz.underlying222
  a127 := Tryz.isAgg222
  z127 := Tryz.sizeOf222
  v127 := Tryz.zeroValue222
  t5 := Tryz.underlying5
  a5 := Tryz.isAgg5
  z5 := Tryz.sizeOf5
  v5 := Tryz.zeroValue5
  i0 := by kernel_rfl
  i3 := by kernel_rfl
  i4 := by kernel_rfl
  i5 := by kernel_rfl
  i9 := by kernel_rfl
  i37 := by kernel_rfl
  i127 := by kernel_rfl }

end Go.Proofs
namespace Go.Proofs.YtbamjhldebobhaaGreatDoor
open Go.RowKit

theorem lib_Clone (s : ByteArray) (w : World) (h : s.size ≤ 1048576) : Calls Tryz.prog 164 #[.string s] w fun e w' => e = .returned (.string s) ∧ Below w.heap.size w w' :=
  Any.stringslite_Clone (ρ := Tryz.layC_ren) Tryz.layC316 s w (by omega)

theorem str_Clone (s : ByteArray) (w : World) (h : s.size ≤ 1048576) : Calls Tryz.prog 126 #[.string s] w fun e w' => e = .returned (.string s) ∧ Below w.heap.size w w' := by
  have HC := Lib.hid (fun w => lib_Clone s w h)
  clear h
  go_enter Tryz.func126, Tryz.ntmps126
  go_wp2_with fail
  refine (HC.out _).mono ?_
  rintro e w1 ⟨rfl, b1⟩
  go_wp2
  go_ret
  exact ⟨rfl, b1⟩

end Go.Proofs.YtbamjhldebobhaaGreatDoor

namespace Go.Proofs.YtbamjhldebobhaaGreatDoor
open Go.RowKit

def words : List ByteArray := [⟨#[111, 107]⟩, ⟨#[98, 97, 100]⟩, ⟨#[108, 111, 110, 103]⟩, ⟨#[102, 111, 114, 109]⟩, ⟨#[114, 97, 110, 103, 101]⟩, ⟨#[110, 111, 110, 101]⟩, ⟨#[109, 97, 110, 121]⟩, ⟨#[102, 117, 108, 108]⟩, ⟨#[115, 105, 122, 101]⟩, ⟨#[107, 105, 110, 100]⟩, ⟨#[101, 115, 99, 97, 112, 101]⟩, ⟨#[102, 111, 114, 98, 105, 100, 100, 101, 110]⟩, ⟨#[117, 110, 109, 97, 112, 112, 101, 100]⟩, ⟨#[115, 104, 111, 114, 116]⟩, ⟨#[114, 101, 115, 101, 116]⟩, ⟨#[104, 101, 97, 100, 101, 114]⟩, ⟨#[117, 116, 102]⟩, ⟨#[115, 116, 97, 116, 101]⟩, ⟨#[115, 97, 109, 101]⟩]
def wd (k : Nat) : ByteArray := words.getD k ⟨#[]⟩
/-- The program's own table, as its text lays it. -/
def TabWords (w : World) : Prop := ∃ t fr, w.heap[0]? = some (.cells (words.map Value.string).toArray t fr)
theorem TabWords.cell {w : World} (h : TabWords w) (k : Nat) (hk : k < 19) : w.cell? ⟨0, k, none⟩ = some (.string (wd k)) := by
  obtain ⟨t, fr, h⟩ := h
  rw [cell_of_row w _ k _ t fr h]
  have hl : words.length = 19 := rfl
  simp [wd, List.getD, List.getElem?_eq_getElem (show k < words.length by omega)]
theorem TabWords.keep {w w' : World} (h : TabWords w) (hb : Below w.heap.size w w') : TabWords w' := by
  obtain ⟨t, fr, h⟩ := h
  refine ⟨t, fr, ?_⟩
  rw [hb.block _ (Array.getElem?_eq_some_iff.1 h).1]; exact h
def wordV (c : Int) : ByteArray := if 0 ≤ c ∧ c < 19 then wd c.toNat else ⟨#[]⟩

theorem words_at (k : Nat) (h : k < (words.map Value.string).length) : (words.map Value.string)[k] = .string (wd k) := by
  rw [List.getElem_map]
  have h' : k < words.length := by simpa using h
  simp [wd, List.getD, List.getElem?_eq_getElem h']

theorem impl_CodeWord (c : Int) (w : World) (ht : TabWords w) : Calls Tryz.prog 86 #[.int .i64 c] w fun e w' => e = .returned (.string (wordV c)) ∧ w = w' := by
  by_cases h0 : 0 ≤ c
  · by_cases h1 : c < 19
    · have HV : Hid (wordV c = wd c.toNat) := Lib.hid (by simp [wordV, h0, h1])
      obtain ⟨k, rfl⟩ := Int.eq_ofNat_of_zero_le h0
      rw [Int.toNat_natCast] at HV
      have hc := ht.cell k (by omega)
      clear ht
      go_enter Tryz.func86, Tryz.ntmps86
      go_wp2
      go_ret
      exact ⟨ret_str HV.out.symm, rfl⟩
    · have HV : Hid (wordV c = ⟨#[]⟩) := Lib.hid (by simp [wordV, h1])
      go_enter Tryz.func86, Tryz.ntmps86
      go_wp2
      go_ret
      exact ⟨ret_str HV.out.symm, rfl⟩
  · have HV : Hid (wordV c = ⟨#[]⟩) := Lib.hid (by simp [wordV, h0])
    go_enter Tryz.func86, Tryz.ntmps86
    go_wp2
    go_ret
    exact ⟨ret_str HV.out.symm, rfl⟩

end Go.Proofs.YtbamjhldebobhaaGreatDoor

namespace Go.Proofs
open Go.Shelf
def Tryz.layI_ren : Go.Shelf.Ren := ⟨fun | 137 => 211 | 217 => 221 | 266 => 224 | n => n, fun | 3 => 3 | 5 => 5 | 9 => 9 | n => n, fun | n => n⟩
theorem Tryz.layI137 : Lays.n137 Tryz.prog Tryz.layI_ren := {
  mixed := by kernel_rfl
  f137 := Tryz.func211.trans (congrArg some (by kernel_rfl))
  f217 := Tryz.func221.trans (congrArg some (by kernel_rfl))
  f266 := Tryz.func224.trans (congrArg some (by kernel_rfl))
  t3 := Tryz.underlying3
  a3 := Tryz.isAgg3
  z3 := Tryz.sizeOf3
  v3 := Tryz.zeroValue3
  t5 := Tryz.underlying5
  a5 := Tryz.isAgg5
  z5 := Tryz.sizeOf5
  v5 := Tryz.zeroValue5
  t9 := Tryz.underlying9
  a9 := Tryz.isAgg9
  z9 := Tryz.sizeOf9
  v9 := Tryz.zeroValue9 }
end Go.Proofs

namespace Go.Proofs.YtbamjhldebobhaaGreatDoor
open Go.RowKit

def idx94 (b : Int) : Int := if 40 ≤ b ∧ b ≤ 43 then b - 40 else -1
def idx96 (b : Int) : Int := if 45 ≤ b ∧ b ≤ 47 then b - 45 else -1
theorem idx94_all : ∀ n : Fin 256, Lib.indexByte (⟨#[40, 41, 42, 43]⟩ : ByteArray).data.toList ((n.val : Int).toNat.toUInt8) = idx94 (n.val : Int) := by decide +kernel
theorem idx96_all : ∀ n : Fin 256, Lib.indexByte (⟨#[45, 46, 47]⟩ : ByteArray).data.toList ((n.val : Int).toNat.toUInt8) = idx96 (n.val : Int) := by decide +kernel
theorem str_idx94 (c : Int) (w : World) (h0 : 0 ≤ c) (h1 : c < 256) : Calls Tryz.prog 211 #[.string ⟨#[40, 41, 42, 43]⟩, .int .u8 c] w fun e w' => e = .returned (.int .i64 (idx94 c)) ∧ w = w' := by
  refine (Any.strings_IndexByte Tryz.layI137 ⟨#[40, 41, 42, 43]⟩ c w).mono ?_
  rintro e w' ⟨rfl, rfl⟩
  have := idx94_all ⟨c.toNat, by omega⟩
  simp only at this
  have hc : ((c.toNat : Nat) : Int) = c := by omega
  rw [hc] at this
  exact ⟨by rw [this], rfl⟩
theorem str_idx96 (c : Int) (w : World) (h0 : 0 ≤ c) (h1 : c < 256) : Calls Tryz.prog 211 #[.string ⟨#[45, 46, 47]⟩, .int .u8 c] w fun e w' => e = .returned (.int .i64 (idx96 c)) ∧ w = w' := by
  refine (Any.strings_IndexByte Tryz.layI137 ⟨#[45, 46, 47]⟩ c w).mono ?_
  rintro e w' ⟨rfl, rfl⟩
  have := idx96_all ⟨c.toNat, by omega⟩
  simp only at this
  have hc : ((c.toNat : Nat) : Int) = c := by omega
  rw [hc] at this
  exact ⟨by rw [this], rfl⟩

theorem placeOf_none (s : ByteArray) : ∀ (l : List ByteArray) (k : Int), (∀ t ∈ l, ¬ t = s) → placeOf s l k = -1
  | [], _, _ => rfl
  | t :: r, k, h => by
    rw [placeOf, if_neg (h t (by simp))]
    exact placeOf_none s r (k + 1) (fun u hu => h u (by simp [hu]))
theorem one_all : ∀ n : Fin 256, midNo ⟨#[n.val.toUInt8]⟩ = if 0 ≤ idx94 (n.val : Int) then idx94 (n.val : Int) else if 0 ≤ idx96 (n.val : Int) then idx96 (n.val : Int) + 4 else if (n.val : Int) = 36 then 7 else -1 := by decide +kernel
theorem two_all : ∀ n : Fin 256, midNo ⟨#[36, n.val.toUInt8]⟩ = if 0 ≤ idx94 (n.val : Int) then idx94 (n.val : Int) + 8 else -1 := by decide +kernel

theorem mid_long (s : ByteArray) (h : 2 < s.size) : midNo s = -1 := by
  refine placeOf_none s mids 0 (fun t ht e => ?_)
  have h2 : ∀ t ∈ mids, t.size ≤ 2 := by decide
  have := h2 t ht
  rw [e] at this
  omega
theorem mid_one (s : ByteArray) (h : s.size = 1) : s = ⟨#[s[0].toNat.toUInt8]⟩ := by
  apply ByteArray.ext
  apply Array.ext
  · exact h
  · intro i h1 h2
    have : i = 0 := by simp at h2; omega
    subst this
    simp
    rfl
theorem mid_two (s : ByteArray) (h : s.size = 2) : s = ⟨#[s[0].toNat.toUInt8, s[1].toNat.toUInt8]⟩ := by
  apply ByteArray.ext
  apply Array.ext
  · exact h
  · intro i h1 h2
    have : i = 0 ∨ i = 1 := by simp at h2; omega
    rcases this with rfl | rfl
    · simp
      rfl
    · simp
      rfl
theorem midNo_one (s : ByteArray) (h : s.size = 1) : midNo s = if (0 : Int) ≤ idx94 (s[0].toNat : Int) then idx94 (s[0].toNat : Int) else if (0 : Int) ≤ idx96 (s[0].toNat : Int) then idx96 (s[0].toNat : Int) + 4 else if (s[0].toNat : Int) = 36 then 7 else -1 := by
  have := one_all ⟨s[0].toNat, s[0].toNat_lt⟩
  simp only at this
  rw [← mid_one s h] at this
  exact this
theorem midNo_two (s : ByteArray) (h : s.size = 2) (h36 : (s[0].toNat : Int) = 36) : midNo s = if (0 : Int) ≤ idx94 (s[1].toNat : Int) then idx94 (s[1].toNat : Int) + 8 else -1 := by
  have := two_all ⟨s[1].toNat, s[1].toNat_lt⟩
  simp only at this
  have h0 : s[0].toNat.toUInt8 = 36 := by
    have : s[0].toNat = 36 := by omega
    rw [this]; rfl
  rw [← h0, ← mid_two s h] at this
  exact this
theorem midNo_two' (s : ByteArray) (h : s.size = 2) (h36 : ¬ (s[0].toNat : Int) = 36) : midNo s = -1 := by
  refine placeOf_none s mids 0 (fun t ht e => ?_)
  have h2 : ∀ t ∈ mids, t.size = 2 → byteAt t 0 = 36 := by decide
  have := h2 t ht (by rw [e]; exact h)
  rw [e, byteAt_eq s 0 (by omega)] at this
  exact h36 this
theorem is36 (s : ByteArray) (h : s.size = 1) : s = ⟨#[36]⟩ ↔ (s[0].toNat : Int) = 36 := by
  constructor
  · intro e; subst e; rfl
  · intro e
    rw [mid_one s h]
    have : s[0].toNat = 36 := by omega
    rw [this]; rfl

def desK (s : ByteArray) (f : Int) : Int := if s = ⟨#[36]⟩ then (if f ≤ 66 then 3 else 0) else midK s
def desG (s : ByteArray) : Int := if s = ⟨#[36]⟩ ∨ midNo s < 0 then 0 else midG s
def desV (s : ByteArray) (f : Int) : Value := .tuple #[.int .i64 (desG s), .int .i64 (desK s f)]
theorem desV_of {s : ByteArray} {f g k : Int} (hg : desG s = g) (hk : desK s f = k) : desV s f = .tuple #[.int .i64 g, .int .i64 k] := by rw [desV, hg, hk]

/-- A whole escape sequence with intermediates, told by them. -/
theorem plainTok_des (s : ByteArray) (f p n : Int) (hm : ¬ s = ⟨#[]⟩) : plainTok s f p n = if desK s f = 0 ∨ f < 64 then ⟨9, 0, 0, 0, p, n⟩ else ⟨7, desG s, desK s f, f, p, n⟩ := by
  have hr := midNo_range s
  unfold plainTok desK desG
  rw [if_neg hm]
  by_cases h36 : s = ⟨#[36]⟩
  · subst h36
    have e1 : midG ⟨#[36]⟩ = 0 := by decide
    have e2 : midK ⟨#[36]⟩ = 3 := by decide
    simp only [e1, e2, true_and, if_true, true_or]
    by_cases hf : f ≤ 66
    · simp only [hf, if_true]
      by_cases h64 : f < 64
      · simp [h64]
      · have h66 : ¬ 66 < f := by omega
        simp [h64, h66]
    · have h66 : 66 < f := by omega
      simp [hf, h66]
  · simp only [h36, if_false, false_and, false_or, or_false]
    rcases hr with h | ⟨h1, h2⟩
    · have e1 : midG s < 0 := by simp [midG, h]
      have e2 : midK s = 0 := by simp [midK, h]
      simp [e1, e2]
    · have e1 : ¬ midG s < 0 := by unfold midG; repeat' split
                                   all_goals omega
      have e2 : ¬ midK s = 0 := by unfold midK; repeat' split
                                   all_goals omega
      have e3 : ¬ midNo s < 0 := by omega
      simp [e1, e2, e3]

theorem idx94_le (b : Int) : -1 ≤ idx94 b ∧ idx94 b ≤ 3 := by unfold idx94; split <;> omega
theorem idx96_le (b : Int) : -1 ≤ idx96 b ∧ idx96 b ≤ 2 := by unfold idx96; split <;> omega
theorem des_of {s : ByteArray} {f n : Int} (h36 : ¬ s = ⟨#[36]⟩) (hn : midNo s = n) : desG s = (if n < 0 then 0 else if n < 4 then n else if n < 7 then n - 3 else if n = 7 then 0 else n - 8) ∧ desK s f = (if n < 0 then 0 else if n < 4 then 1 else if n < 7 then 2 else 3) := by
  subst hn
  refine ⟨?_, ?_⟩
  · unfold desG midG
    by_cases h : midNo s < 0
    · simp [h36, h]
    · simp [h36, h]
  · unfold desK midK
    simp [h36]

theorem des_94 {s : ByteArray} {f x : Int} (h36 : ¬ s = ⟨#[36]⟩) (hn : midNo s = x) (h0 : 0 ≤ x) (h1 : x ≤ 3) : desV s f = .tuple #[.int .i64 x, .int .i64 1] := by
  have ⟨a, b⟩ := des_of (f := f) h36 hn
  rw [if_neg (by omega), if_pos (by omega)] at a b
  exact desV_of a b
theorem des_96 {s : ByteArray} {f y : Int} (h36 : ¬ s = ⟨#[36]⟩) (hn : midNo s = y + 4) (h0 : 0 ≤ y) (h1 : y ≤ 2) : desV s f = .tuple #[.int .i64 (y + 1), .int .i64 2] := by
  have ⟨a, b⟩ := des_of (f := f) h36 hn
  rw [if_neg (by omega), if_neg (by omega), if_pos (by omega)] at a b
  exact desV_of (by omega) b
theorem des_pair {s : ByteArray} {f x : Int} (h36 : ¬ s = ⟨#[36]⟩) (hn : midNo s = x + 8) (h0 : 0 ≤ x) : desV s f = .tuple #[.int .i64 x, .int .i64 3] := by
  have ⟨a, b⟩ := des_of (f := f) h36 hn
  rw [if_neg (by omega), if_neg (by omega), if_neg (by omega)] at a b
  rw [if_neg (by omega)] at a
  exact desV_of (by omega) b
theorem des_none {s : ByteArray} {f : Int} (h36 : ¬ s = ⟨#[36]⟩) (hn : midNo s = -1) : desV s f = .tuple #[.int .i64 0, .int .i64 0] := by
  have ⟨a, b⟩ := des_of (f := f) h36 hn
  exact desV_of a b

set_option maxHeartbeats 2000000 in
theorem des_one (s : ByteArray) (f : Int) (w : World) (h1 : s.size = 1) : Calls Tryz.prog 204 #[.string s, .int .i64 f] w fun e w' => e = .returned (desV s f) ∧ w = w' := by
  have hi := is36 s h1
  have hn := midNo_one s h1
  have hb := byteAt_le s 0
  rw [byteAt_eq s 0 (by omega)] at hb
  have hz : (s.size : Int) = 1 := by omega
  by_cases h36 : s = ⟨#[36]⟩
  · have hb36 := hi.1 h36
    have t1 : (s.toList == [36]) = true := by rw [h36, list36]; rfl
    by_cases hf : f ≤ 66
    · have HE := Lib.hid (desV_of (s := s) (f := f) (g := 0) (k := 3) (by simp [desG, h36]) (by simp [desK, h36, hf]))
      clear hi hn hb hb36 h36
      go_enter Tryz.func204, Tryz.ntmps204
      go_wp2
      go_ret2
      exact ⟨ret_val HE.out.symm, rfl⟩
    · have HE := Lib.hid (desV_of (s := s) (f := f) (g := 0) (k := 0) (by simp [desG, h36]) (by simp [desK, h36, hf]))
      have i1 : idx94 36 = -1 := by decide
      have i2 : idx96 36 = -1 := by decide
      clear hi hn h36
      go_enter Tryz.func204, Tryz.ntmps204
      go_wp2_with fail
      refine (str_idx94 36 w (by omega) (by omega)).mono ?_
      rintro e w1 ⟨rfl, rfl⟩
      rw [i1]
      go_wp2_with fail
      refine (str_idx96 36 w (by omega) (by omega)).mono ?_
      rintro e w1 ⟨rfl, rfl⟩
      rw [i2]
      go_wp2
      go_ret2
      exact ⟨ret_val HE.out.symm, rfl⟩
  · have t1 : (s.toList == [36]) = false := by have := str_eqf h36; rwa [list36] at this
    have hb36 : ¬ (s[0].toNat : Int) = 36 := fun h => h36 (hi.2 h)
    clear hi
    generalize hbb : (s[0].toNat : Int) = b at *
    have hx := idx94_le b
    have hy := idx96_le b
    have HX := Lib.hid (fun w => str_idx94 b w (by omega) (by omega))
    have HY := Lib.hid (fun w => str_idx96 b w (by omega) (by omega))
    generalize idx94 b = x at *
    generalize idx96 b = y at *
    by_cases x0 : 0 ≤ x
    · have HE := Lib.hid (des_94 (f := f) h36 (by rw [hn, if_pos x0]) x0 hx.2)
      clear hn h36 hb36
      go_enter Tryz.func204, Tryz.ntmps204
      go_wp2_with fail
      refine (HX.out w).mono ?_
      rintro e w1 ⟨rfl, rfl⟩
      go_wp2
      go_ret2
      exact ⟨ret_val HE.out.symm, rfl⟩
    · rw [if_neg x0] at hn
      by_cases y0 : 0 ≤ y
      · rw [if_pos y0] at hn
        have HE := Lib.hid (des_96 (f := f) h36 hn y0 hy.2)
        clear hn h36 hb36
        go_enter Tryz.func204, Tryz.ntmps204
        go_wp2_with fail
        refine (HX.out w).mono ?_
        rintro e w1 ⟨rfl, rfl⟩
        go_wp2_with fail
        refine (HY.out w).mono ?_
        rintro e w1 ⟨rfl, rfl⟩
        go_wp2
        go_ret2
        exact ⟨ret_val HE.out.symm, rfl⟩
      · rw [if_neg y0, if_neg hb36] at hn
        have HE := Lib.hid (des_none (f := f) h36 hn)
        clear hn h36 hb36
        go_enter Tryz.func204, Tryz.ntmps204
        go_wp2_with fail
        refine (HX.out w).mono ?_
        rintro e w1 ⟨rfl, rfl⟩
        go_wp2_with fail
        refine (HY.out w).mono ?_
        rintro e w1 ⟨rfl, rfl⟩
        go_wp2
        go_ret2
        exact ⟨ret_val HE.out.symm, rfl⟩

set_option maxHeartbeats 2000000 in
theorem des_two (s : ByteArray) (f : Int) (w : World) (h1 : s.size = 2) : Calls Tryz.prog 204 #[.string s, .int .i64 f] w fun e w' => e = .returned (desV s f) ∧ w = w' := by
  have hz : (s.size : Int) = 2 := by omega
  have h36 : ¬ s = ⟨#[36]⟩ := fun h => by subst h; simp [ByteArray.size] at h1
  have t1 : (s.toList == [36]) = false := by have := str_eqf h36; rwa [list36] at this
  have hb := byteAt_le s 1
  rw [byteAt_eq s 1 (by omega)] at hb
  have hb0 := byteAt_le s 0
  rw [byteAt_eq s 0 (by omega)] at hb0
  by_cases b36 : (s[0].toNat : Int) = 36
  · have hn := midNo_two s h1 b36
    generalize hbb : (s[1].toNat : Int) = b at *
    have hx := idx94_le b
    have HX := Lib.hid (fun w => str_idx94 b w (by omega) (by omega))
    have HY := Lib.hid (fun w => str_idx96 b w (by omega) (by omega))
    generalize idx94 b = x at *
    generalize idx96 b = y at *
    by_cases x0 : 0 ≤ x
    · rw [if_pos x0] at hn
      have HE := Lib.hid (des_pair (f := f) h36 hn x0)
      clear hn h36 hb0
      go_enter Tryz.func204, Tryz.ntmps204
      go_wp2_with fail
      refine (HX.out w).mono ?_
      rintro e w1 ⟨rfl, rfl⟩
      go_wp2
      go_ret2
      exact ⟨ret_val HE.out.symm, rfl⟩
    · rw [if_neg x0] at hn
      have HE := Lib.hid (des_none (f := f) h36 hn)
      clear hn h36 hb0
      go_enter Tryz.func204, Tryz.ntmps204
      go_wp2_with fail
      refine (HX.out w).mono ?_
      rintro e w1 ⟨rfl, rfl⟩
      go_wp2_with fail
      refine (HY.out w).mono ?_
      rintro e w1 ⟨rfl, rfl⟩
      by_cases y0 : 0 ≤ y
      all_goals
        go_wp2
        go_ret2
        exact ⟨ret_val HE.out.symm, rfl⟩
  · have hn := midNo_two' s h1 b36
    have HE := Lib.hid (des_none (f := f) h36 hn)
    have c36 : ((s[0].toNat : Int) == 36) = false := by simpa using b36
    clear hn h36 b36 hb
    go_enter Tryz.func204, Tryz.ntmps204
    go_wp2
    go_ret2
    exact ⟨ret_val HE.out.symm, rfl⟩

set_option maxHeartbeats 2000000 in
theorem impl_designated (s : ByteArray) (f : Int) (w : World) (hm : ¬ s = ⟨#[]⟩) (hs : s.size ≤ 1048576) : Calls Tryz.prog 204 #[.string s, .int .i64 f] w fun e w' => e = .returned (desV s f) ∧ w = w' := by
  by_cases h1 : s.size = 1
  · exact des_one s f w h1
  by_cases h2 : s.size = 2
  · exact des_two s f w h2
  have h0 : ¬ s.size = 0 := fun h => hm (ByteArray.ext (Array.eq_empty_of_size_eq_zero h))
  have h3 : 2 < s.size := by omega
  have h36 : ¬ s = ⟨#[36]⟩ := fun h => by subst h; simp [ByteArray.size] at h1
  have t1 : (s.toList == [36]) = false := by have := str_eqf h36; rwa [list36] at this
  have hn := mid_long s h3
  have HE := Lib.hid (des_none (f := f) h36 hn)
  have c1 : ((s.size : Int) == 2) = false := by simp; omega
  have c2 : ((s.size : Int) != 1) = true := by simp; omega
  clear hn h36 hm h0 h1 h2
  go_enter Tryz.func204, Tryz.ntmps204
  go_wp2
  go_ret2
  exact ⟨ret_val HE.out.symm, rfl⟩

end Go.Proofs.YtbamjhldebobhaaGreatDoor

namespace Go.Proofs.YtbamjhldebobhaaGreatDoor
open Go.RowKit

/-- The token, without its place, of a byte other than ESC. -/
def byteTok (b : Int) : Tok :=
  if b = 15 then ⟨5, 0, 0, 0, 0, 0⟩ else if b = 14 then ⟨5, 1, 0, 0, 0, 0⟩ else if b = 142 then ⟨6, 2, 0, 0, 0, 0⟩ else if b = 143 then ⟨6, 3, 0, 0, 0, 0⟩
  else if b = 32 then ⟨2, 0, 0, 0, 0, 0⟩ else if 33 ≤ b ∧ b ≤ 126 then ⟨3, b, 0, 0, 0, 0⟩ else if 160 ≤ b then ⟨4, b - 128, 0, 0, 0, 0⟩ else ⟨1, b, 0, 0, 0, 0⟩

set_option maxHeartbeats 2000000 in
theorem impl_byteToken (b : Int) (w : World) (h0 : 0 ≤ b) (h1 : b ≤ 65536) : Calls Tryz.prog 155 #[.int .i64 b] w (TokDone (byteTok b) w) := by
  by_cases c1 : b = 15
  · subst c1
    go_enter Tryz.func155, Tryz.ntmps155
    go_wp2
    exact tok_ret (y := ⟨5, 0, 0, 0, 0, 0⟩) rfl rfl rfl (heap_alloc_new _ _) Tryz.underlying102 rfl (by kernel_rfl) rfl (below_one _ _)
  by_cases c2 : b = 14
  · subst c2
    clear c1
    go_enter Tryz.func155, Tryz.ntmps155
    go_wp2
    exact tok_ret (y := ⟨5, 1, 0, 0, 0, 0⟩) rfl rfl rfl (heap_alloc_new _ _) Tryz.underlying102 rfl (by kernel_rfl) rfl (below_one _ _)
  by_cases c3 : b = 142
  · subst c3
    clear c1 c2
    go_enter Tryz.func155, Tryz.ntmps155
    go_wp2
    exact tok_ret (y := ⟨6, 2, 0, 0, 0, 0⟩) rfl rfl rfl (heap_alloc_new _ _) Tryz.underlying102 rfl (by kernel_rfl) rfl (below_one _ _)
  by_cases c4 : b = 143
  · subst c4
    clear c1 c2 c3
    go_enter Tryz.func155, Tryz.ntmps155
    go_wp2
    exact tok_ret (y := ⟨6, 3, 0, 0, 0, 0⟩) rfl rfl rfl (heap_alloc_new _ _) Tryz.underlying102 rfl (by kernel_rfl) rfl (below_one _ _)
  by_cases c5 : b = 32
  · subst c5
    clear c1 c2 c3 c4
    go_enter Tryz.func155, Tryz.ntmps155
    go_wp2
    exact tok_ret (y := ⟨2, 0, 0, 0, 0, 0⟩) rfl rfl rfl (heap_alloc_new _ _) Tryz.underlying102 rfl (by kernel_rfl) rfl (below_one _ _)
  have e1 : (b == 15) = false := by rw [beq_eq_false_iff_ne]; exact c1
  have e2 : (b == 14) = false := by rw [beq_eq_false_iff_ne]; exact c2
  have e3 : (b == 142) = false := by rw [beq_eq_false_iff_ne]; exact c3
  have e4 : (b == 143) = false := by rw [beq_eq_false_iff_ne]; exact c4
  have e5 : (b == 32) = false := by rw [beq_eq_false_iff_ne]; exact c5
  by_cases c6 : 33 ≤ b
  · by_cases c7 : b ≤ 126
    · have HE : Hid (byteTok b = ⟨3, b, 0, 0, 0, 0⟩) := Lib.hid (by rw [byteTok, if_neg c1, if_neg c2, if_neg c3, if_neg c4, if_neg c5, if_pos ⟨c6, c7⟩])
      clear c1 c2 c3 c4 c5
      go_enter Tryz.func155, Tryz.ntmps155
      go_wp2
      exact tok_ret HE.out rfl rfl (heap_alloc_new _ _) Tryz.underlying102 rfl (by kernel_rfl) rfl (below_one _ _)
    · have c8 : 126 < b := by omega
      by_cases c9 : 160 ≤ b
      · have HE : Hid (byteTok b = ⟨4, b - 128, 0, 0, 0, 0⟩) := Lib.hid (by rw [byteTok, if_neg c1, if_neg c2, if_neg c3, if_neg c4, if_neg c5, if_neg (by omega), if_pos c9])
        have u1 : IntKind.i64.wrap (b - 128) = b - 128 := IntWalk.i64_in _ (by omega)
        clear c1 c2 c3 c4 c5 c7
        go_enter Tryz.func155, Tryz.ntmps155
        go_wp2
        exact tok_ret HE.out rfl rfl (heap_alloc_new _ _) Tryz.underlying102 rfl (by kernel_rfl) rfl (below_one _ _)
      · have HE : Hid (byteTok b = ⟨1, b, 0, 0, 0, 0⟩) := Lib.hid (by rw [byteTok, if_neg c1, if_neg c2, if_neg c3, if_neg c4, if_neg c5, if_neg (by omega), if_neg c9])
        have c10 : b < 160 := by omega
        clear c1 c2 c3 c4 c5 c7 c9
        go_enter Tryz.func155, Tryz.ntmps155
        go_wp2
        exact tok_ret HE.out rfl rfl (heap_alloc_new _ _) Tryz.underlying102 rfl (by kernel_rfl) rfl (below_one _ _)
  · have HE : Hid (byteTok b = ⟨1, b, 0, 0, 0, 0⟩) := Lib.hid (by rw [byteTok, if_neg c1, if_neg c2, if_neg c3, if_neg c4, if_neg c5, if_neg (by omega), if_neg (by omega)])
    have c10 : b < 33 := by omega
    clear c1 c2 c3 c4 c5 c6
    go_enter Tryz.func155, Tryz.ntmps155
    go_wp2
    exact tok_ret HE.out rfl rfl (heap_alloc_new _ _) Tryz.underlying102 rfl (by kernel_rfl) rfl (below_one _ _)

end Go.Proofs.YtbamjhldebobhaaGreatDoor

namespace Go.Proofs.YtbamjhldebobhaaGreatDoor
open Go.RowKit

set_option maxHeartbeats 2000000 in
theorem impl_shiftToken (f : Int) (w : World) : Calls Tryz.prog 203 #[.int .i64 f] w (TokDone (plainTok ⟨#[]⟩ f 0 0) w) := by
  by_cases c1 : f = 110
  · subst c1
    go_enter Tryz.func203, Tryz.ntmps203
    go_wp2
    exact tok_ret (y := ⟨5, 2, 0, 0, 0, 0⟩) rfl rfl rfl (heap_alloc_new _ _) Tryz.underlying102 rfl (by kernel_rfl) rfl (below_one _ _)
  by_cases c2 : f = 111
  · subst c2
    clear c1
    go_enter Tryz.func203, Tryz.ntmps203
    go_wp2
    exact tok_ret (y := ⟨5, 3, 0, 0, 0, 0⟩) rfl rfl rfl (heap_alloc_new _ _) Tryz.underlying102 rfl (by kernel_rfl) rfl (below_one _ _)
  by_cases c3 : f = 78
  · subst c3
    clear c1 c2
    go_enter Tryz.func203, Tryz.ntmps203
    go_wp2
    exact tok_ret (y := ⟨6, 2, 0, 0, 0, 0⟩) rfl rfl rfl (heap_alloc_new _ _) Tryz.underlying102 rfl (by kernel_rfl) rfl (below_one _ _)
  by_cases c4 : f = 79
  · subst c4
    clear c1 c2 c3
    go_enter Tryz.func203, Tryz.ntmps203
    go_wp2
    exact tok_ret (y := ⟨6, 3, 0, 0, 0, 0⟩) rfl rfl rfl (heap_alloc_new _ _) Tryz.underlying102 rfl (by kernel_rfl) rfl (below_one _ _)
  have HE : Hid (plainTok ⟨#[]⟩ f 0 0 = ⟨9, 0, 0, 0, 0, 0⟩) := Lib.hid (by
    have a1 : ¬ (f = 78 ∨ f = 79) := by omega
    have a2 : ¬ (f = 110 ∨ f = 111) := by omega
    simp [plainTok, a1, a2])
  have e1 : (f == 110) = false := by rw [beq_eq_false_iff_ne]; exact c1
  have e2 : (f == 111) = false := by rw [beq_eq_false_iff_ne]; exact c2
  have e3 : (f == 78) = false := by rw [beq_eq_false_iff_ne]; exact c3
  have e4 : (f == 79) = false := by rw [beq_eq_false_iff_ne]; exact c4
  clear c1 c2 c3 c4
  go_enter Tryz.func203, Tryz.ntmps203
  go_wp2
  exact tok_ret HE.out rfl rfl (heap_alloc_new _ _) Tryz.underlying102 rfl (by kernel_rfl) rfl (below_one _ _)

set_option maxHeartbeats 2000000 in
set_option maxRecDepth 100000 in
theorem impl_escapeToken (s : ByteArray) (f : Int) (w : World) (hs : s.size ≤ 1048576) : Calls Tryz.prog 183 #[.string s, .int .i64 f] w (TokDone (plainTok s f 0 0) w) := by
  by_cases hm : s = ⟨#[]⟩
  · subst hm
    have hR0 := slot0 w
    have b0 := below_one w (.cells #[.int .i64 0, .int .i64 0, .int .i64 0, .int .i64 0, .int .i64 0, .int .i64 0] 102)
    go_enter Tryz.func183, Tryz.ntmps183
    go_wp2_with fail
    refine (impl_shiftToken f _).mono ?_
    rintro e w3 ⟨rfl, b3⟩
    have hR3 := Lib.hid (hR0.keep b3)
    have b03 : Below w.heap.size w w3 := b0.trans (b3.mono b0.size)
    have ⟨r0, r1, r2, r3, r4, r5⟩ := hR3.out.cells
    have ⟨z0, z1, z2, z3, z4, z5⟩ := hR3.out.thaw
    simp only [zeroTok] at r0 r1 r2 r3 r4 r5
    have hl3 : w.heap.size < w3.heap.size := hR3.out.lt
    generalize plainTok ⟨#[]⟩ f 0 0 = y at *
    clear hR0 b0 b3
    unfold tokV
    go_wp2
    exact tok_ret (y := y) rfl rfl rfl (hR3.out.put y) Tryz.underlying102 rfl (by kernel_rfl) rfl (below_put b03 (Nat.le_refl _) y)
  · have HP := Lib.hid (plainTok_des s f 0 0 hm)
    have hm3 : s.toList.isEmpty = false := by
      rw [ByteArray.toList_eq]
      cases h : s.data.toList with
      | nil => exact absurd (ByteArray.ext (Array.toList_inj.1 h)) hm
      | cons _ _ => rfl
    have HD := Lib.hid (fun w => impl_designated s f w hm hs)
    unfold desV at HD
    clear hm
    generalize desG s = g at *
    generalize desK s f = k at *
    by_cases k0 : k = 0
    · have HE : Hid (plainTok s f 0 0 = ⟨9, 0, 0, 0, 0, 0⟩) := Lib.hid (by rw [HP.out, if_pos (.inl k0)])
      subst k0
      go_enter Tryz.func183, Tryz.ntmps183
      go_wp2_with fail
      refine (HD.out _).mono ?_
      rintro e w3 ⟨rfl, rfl⟩
      go_wp2
      exact tok_ret HE.out rfl rfl (heap_alloc_new _ _) Tryz.underlying102 rfl (by kernel_rfl) rfl (below_one _ _)
    · have e0 : (k == 0) = false := by rw [beq_eq_false_iff_ne]; exact k0
      by_cases f64 : f < 64
      · have HE : Hid (plainTok s f 0 0 = ⟨9, 0, 0, 0, 0, 0⟩) := Lib.hid (by rw [HP.out, if_pos (.inr f64)])
        clear k0
        go_enter Tryz.func183, Tryz.ntmps183
        go_wp2_with fail
        refine (HD.out _).mono ?_
        rintro e w3 ⟨rfl, rfl⟩
        go_wp2
        exact tok_ret HE.out rfl rfl (heap_alloc_new _ _) Tryz.underlying102 rfl (by kernel_rfl) rfl (below_one _ _)
      · have HE : Hid (plainTok s f 0 0 = ⟨7, g, k, f, 0, 0⟩) := Lib.hid (by rw [HP.out, if_neg (by omega)])
        have f64' : 64 ≤ f := by omega
        clear k0 f64
        go_enter Tryz.func183, Tryz.ntmps183
        go_wp2_with fail
        refine (HD.out _).mono ?_
        rintro e w3 ⟨rfl, rfl⟩
        go_wp2
        exact tok_ret HE.out rfl rfl (heap_alloc_new _ _) Tryz.underlying102 rfl (by kernel_rfl) rfl (below_one _ _)

end Go.Proofs.YtbamjhldebobhaaGreatDoor

namespace Go.Proofs.YtbamjhldebobhaaGreatDoor
open Go.RowKit

theorem plainTok_at (m : ByteArray) (f p n : Int) : plainTok m f p n = ⟨(plainTok m f 0 0).k, (plainTok m f 0 0).a, (plainTok m f 0 0).b, (plainTok m f 0 0).c, p, n⟩ := by
  unfold plainTok
  repeat' split
  all_goals rfl
theorem nextTok_byte (s : ByteArray) (k : Nat) (h : ¬ byteAt s k = 27) : nextTok s k = ⟨(byteTok (byteAt s k)).k, (byteTok (byteAt s k)).a, (byteTok (byteAt s k)).b, (byteTok (byteAt s k)).c, k, 1⟩ := by
  rw [nextTok, if_neg h]
  generalize byteAt s k = b
  unfold byteTok inB
  by_cases c1 : b = 15
  · subst c1; rfl
  by_cases c2 : b = 14
  · subst c2; rfl
  by_cases c3 : b = 142
  · subst c3; rfl
  by_cases c4 : b = 143
  · subst c4; rfl
  rw [if_neg (show ¬ (b = 14 ∨ b = 15) by omega), if_neg (show ¬ (b = 142 ∨ b = 143) by omega)]
  simp only [c1, c2, c3, c4, if_false]
  by_cases c5 : b = 32
  · simp [c5]
  by_cases c6 : 33 ≤ b ∧ b ≤ 126
  · simp [c5, c6.1, c6.2]
  by_cases c7 : 160 ≤ b
  · have c8 : ¬ b ≤ 126 := by omega
    simp [c5, c7, c8]
  · have c8 : ¬ (33 ≤ b ∧ b ≤ 126) := c6
    have c9 : (decide (33 ≤ b) && decide (b ≤ 126)) = false := by
      cases h : (decide (33 ≤ b) && decide (b ≤ 126))
      · rfl
      · simp at h; exact absurd h c8
    simp [c5, c7, c8]

set_option maxHeartbeats 4000000 in
set_option maxRecDepth 100000 in
theorem impl_escapeAt (s : ByteArray) (k : Nat) (w : World) (hk : k < s.size) (hs : s.size ≤ 1048576) :
    Calls Tryz.prog 154 #[.string s, .int .i64 k] w (TokDone (escTok s k (s.size - k) (k + 1)) w) := by
  have hR := Lib.hid (slot0 w)
  have b0 := below_one w (.cells #[.int .i64 0, .int .i64 0, .int .i64 0, .int .i64 0, .int .i64 0, .int .i64 0] 102)
  have k0 : (0 : Int) ≤ (k : Int) := by omega
  have u1 : IntKind.i64.wrap ((k : Int) + 1) = (k : Int) + 1 := IntWalk.i64_in _ (by omega)
  go_enter Tryz.func154, Tryz.ntmps154
  go_wp2
  go_step3
  go_wp2
  go_step3
  go_wp2
  generalize w.alloc (.cells #[.int .i64 0, .int .i64 0, .int .i64 0, .int .i64 0, .int .i64 0, .int .i64 0] 102) = w1 at *
  go_loop [5, 6] (fun q i => ∃ j f : Nat, q = .int .i64 8 ∧ k < j ∧ j ≤ s.size ∧ j ≤ k + 4 ∧ i = .int .i64 j ∧ Hid (j + f = s.size + 1) ∧ Hid (escTok s k (s.size - k) (k + 1) = escTok s k f j)) (fun _ i => s.size - (intOf i).toNat)
  case atStart => exact ⟨k + 1, s.size - k, rfl, by omega, by omega, by omega, by simp, Lib.hid (by omega), Lib.hid rfl⟩
  case round =>
    obtain ⟨j, f, rfl, hj, hjs, hj4, rfl, HF, HR⟩ := hrel
    have hl1 : w.heap.size < w1.heap.size := hR.out.lt
    have u6 : IntKind.i64.wrap ((j : Int) - k) = (j : Int) - k := IntWalk.i64_in _ (by omega)
    have u4 : IntKind.i64.wrap ((j : Int) + 1) = (j : Int) + 1 := IntWalk.i64_in _ (by omega)
    have u5 : IntKind.i64.wrap ((j : Int) + 1 - k) = (j : Int) + 1 - k := IntWalk.i64_in _ (by omega)
    by_cases hlt : j < s.size
    · obtain ⟨f, rfl⟩ : ∃ q, f = q + 1 := ⟨f - 1, by have := HF.out; omega⟩
      have hb := byteAt_le s j
      have he := byteAt_eq s j hlt
      have HU : Hid (escTok s k (f + 1) j = if inB (byteAt s j) 32 47 = true then (if j = k + 4 then ⟨9, 0, 0, 0, k, 5⟩ else escTok s k f (j + 1))
        else if inB (byteAt s j) 48 126 = true then plainTok (s.extract (k + 1) j) (byteAt s j) k ((j : Int) + 1 - k) else ⟨9, 0, 0, 0, k, (j : Int) - k⟩) := Lib.hid (by rw [escTok, if_pos hlt])
      rw [he] at hb HU
      clear he
      have v1 : (0 : Int) ≤ (j : Int) := by omega
      have v2 : (j : Int) < (s.size : Int) := by omega
      generalize hbb : (s[j].toNat : Int) = b at *
      by_cases c1 : 48 ≤ b
      · by_cases c2 : b ≤ 126
        · have HE : Hid (escTok s k (s.size - k) (k + 1) = plainTok (s.extract (k + 1) j) b k ((j : Int) + 1 - k)) := Lib.hid (by
            rw [HR.out, HU.out, if_neg (by simp [inB]; omega), if_pos (by simp [inB]; omega)])
          go_wp2_with fail
          refine (impl_escapeToken _ b w1 ?_).mono ?_
          · simp; omega
          rintro e w3 ⟨rfl, b3⟩
          have HP := Lib.hid (plainTok_at (s.extract (k + 1) j) b k ((j : Int) + 1 - k))
          generalize plainTok (s.extract (k + 1) j) b 0 0 = y at *
          have hR3 := Lib.hid (hR.out.keep b3)
          have b03 : Below w.heap.size w w3 := b0.trans (b3.mono b0.size)
          have ⟨r0, r1, r2, r3, r4, r5⟩ := hR3.out.cells
          have ⟨z0, z1, z2, z3, z4, z5⟩ := hR3.out.thaw
          simp only [zeroTok] at r0 r1 r2 r3 r4 r5
          have hl3 : w.heap.size < w3.heap.size := hR3.out.lt
          clear b3
          unfold tokV
          go_wp2
          have hT := (hR3.out.put ⟨y.k, y.a, y.b, y.c, k, (j : Int) + 1 - k⟩)
          exact tok_ret (y := ⟨y.k, y.a, y.b, y.c, k, (j : Int) + 1 - k⟩) (HE.out.trans HP.out) rfl rfl (hT.keep (below_one _ _)) Tryz.underlying102 rfl (by kernel_rfl) rfl ((below_put b03 (Nat.le_refl _) ⟨y.k, y.a, y.b, y.c, k, (j : Int) + 1 - k⟩).alloc (below_put b03 (Nat.le_refl _) ⟨y.k, y.a, y.b, y.c, k, (j : Int) + 1 - k⟩).size _)
        · have HE : Hid (escTok s k (s.size - k) (k + 1) = ⟨9, 0, 0, 0, k, (j : Int) - k⟩) := Lib.hid (by
            rw [HR.out, HU.out, if_neg (by simp [inB]; omega), if_neg (by simp [inB]; omega)])
          have c3 : 126 < b := by omega
          have c4 : 47 < b := by omega
          have ⟨r0, r1, r2, r3, r4, r5⟩ := hR.out.cells
          have ⟨z0, z1, z2, z3, z4, z5⟩ := hR.out.thaw
          simp only [zeroTok] at r0 r1 r2 r3 r4 r5
          clear c2
          go_wp2
          exact tok_ret (y := ⟨9, 0, 0, 0, k, (j : Int) - k⟩) HE.out rfl rfl (hR.out.put ⟨9, 0, 0, 0, k, (j : Int) - k⟩) Tryz.underlying102 rfl (by kernel_rfl) rfl (below_put b0 (Nat.le_refl _) ⟨9, 0, 0, 0, k, (j : Int) - k⟩)
      · have c3 : b < 48 := by omega
        have c4 : b ≤ 47 := by omega
        by_cases c2 : 32 ≤ b
        · by_cases h4 : j = k + 4
          · have HE : Hid (escTok s k (s.size - k) (k + 1) = ⟨9, 0, 0, 0, k, (j : Int) + 1 - k⟩) := Lib.hid (by
              rw [HR.out, HU.out, if_pos (by simp [inB]; omega), if_pos h4, show (j : Int) + 1 - k = 5 by omega])
            have h4' : (3 : Int) < (j : Int) - k := by omega
            have ⟨r0, r1, r2, r3, r4, r5⟩ := hR.out.cells
            have ⟨z0, z1, z2, z3, z4, z5⟩ := hR.out.thaw
            simp only [zeroTok] at r0 r1 r2 r3 r4 r5
            clear h4 c1
            go_wp2
            exact tok_ret (y := ⟨9, 0, 0, 0, k, (j : Int) + 1 - k⟩) HE.out rfl rfl (hR.out.put ⟨9, 0, 0, 0, k, (j : Int) + 1 - k⟩) Tryz.underlying102 rfl (by kernel_rfl) rfl (below_put b0 (Nat.le_refl _) ⟨9, 0, 0, 0, k, (j : Int) + 1 - k⟩)
          · have HE : Hid (escTok s k (s.size - k) (k + 1) = escTok s k f (j + 1)) := Lib.hid (by
              rw [HR.out, HU.out, if_pos (by simp [inB]; omega), if_neg h4])
            have h4' : (j : Int) - k ≤ 3 := by omega
            clear c1
            go_wp2
            go_round
            case rel => exact ⟨j + 1, f, rfl, by omega, by omega, by omega, by go_num, Lib.hid (by have := HF.out; omega), HE⟩
            case measure => simp [intOf]; omega
        · have HE : Hid (escTok s k (s.size - k) (k + 1) = ⟨9, 0, 0, 0, k, (j : Int) - k⟩) := Lib.hid (by
            rw [HR.out, HU.out, if_neg (by simp [inB]; omega), if_neg (by simp [inB]; omega)])
          have c5 : b < 32 := by omega
          have ⟨r0, r1, r2, r3, r4, r5⟩ := hR.out.cells
          have ⟨z0, z1, z2, z3, z4, z5⟩ := hR.out.thaw
          simp only [zeroTok] at r0 r1 r2 r3 r4 r5
          clear c1 c2
          go_wp2
          exact tok_ret (y := ⟨9, 0, 0, 0, k, (j : Int) - k⟩) HE.out rfl rfl (hR.out.put ⟨9, 0, 0, 0, k, (j : Int) - k⟩) Tryz.underlying102 rfl (by kernel_rfl) rfl (below_put b0 (Nat.le_refl _) ⟨9, 0, 0, 0, k, (j : Int) - k⟩)
    · have hje : j = s.size := by omega
      have HE : Hid (escTok s k (s.size - k) (k + 1) = ⟨8, 0, 0, 0, k, (j : Int) - k⟩) := Lib.hid (by
        rw [HR.out, hje]
        cases f with
        | zero => rfl
        | succ f => rw [escTok, if_neg (by omega)])
      have v2 : ¬ (j : Int) < (s.size : Int) := by omega
      have ⟨r0, r1, r2, r3, r4, r5⟩ := hR.out.cells
      have ⟨z0, z1, z2, z3, z4, z5⟩ := hR.out.thaw
      simp only [zeroTok] at r0 r1 r2 r3 r4 r5
      clear hje
      go_wp2
      exact tok_ret (y := ⟨8, 0, 0, 0, k, (j : Int) - k⟩) HE.out rfl rfl (hR.out.put ⟨8, 0, 0, 0, k, (j : Int) - k⟩) Tryz.underlying102 rfl (by kernel_rfl) rfl (below_put b0 (Nat.le_refl _) ⟨8, 0, 0, 0, k, (j : Int) - k⟩)

set_option maxHeartbeats 2000000 in
set_option maxRecDepth 100000 in
theorem impl_tokenAt (s : ByteArray) (k : Nat) (w : World) (hk : k < s.size) (hs : s.size ≤ 1048576) : Calls Tryz.prog 120 #[.string s, .int .i64 k] w (TokDone (nextTok s k) w) := by
  have hR0 := slot0 w
  have b0 := below_one w (.cells #[.int .i64 0, .int .i64 0, .int .i64 0, .int .i64 0, .int .i64 0, .int .i64 0] 102)
  have hb := byteAt_le s k
  have he := byteAt_eq s k hk
  have k0 : (0 : Int) ≤ (k : Int) := by omega
  have k1 : (k : Int) < (s.size : Int) := by omega
  by_cases c1 : byteAt s k = 27
  · have HE : Hid (nextTok s k = escTok s k (s.size - k) (k + 1)) := Lib.hid (by rw [nextTok, if_pos c1])
    have hb2 : (s[k].toNat : Int) = 27 := by omega
    clear he c1 hb
    go_enter Tryz.func120, Tryz.ntmps120
    go_wp2_with fail
    refine (impl_escapeAt s k _ hk hs).mono ?_
    rintro e w3 ⟨rfl, b3⟩
    have hR3 := Lib.hid (hR0.keep b3)
    have b03 : Below w.heap.size w w3 := b0.trans (b3.mono b0.size)
    have ⟨r0, r1, r2, r3, r4, r5⟩ := hR3.out.cells
    have ⟨z0, z1, z2, z3, z4, z5⟩ := hR3.out.thaw
    simp only [zeroTok] at r0 r1 r2 r3 r4 r5
    have hl3 : w.heap.size < w3.heap.size := hR3.out.lt
    generalize escTok s k (s.size - k) (k + 1) = y at *
    clear hR0 b0 b3
    unfold tokV
    go_wp2
    exact tok_ret (y := y) HE.out rfl rfl (hR3.out.put y) Tryz.underlying102 rfl (by kernel_rfl) rfl (below_put b03 (Nat.le_refl _) y)
  · have HE := Lib.hid (nextTok_byte s k c1)
    have e1 : ((s[k].toNat : Int) == 27) = false := by rw [beq_eq_false_iff_ne]; omega
    rw [he] at HE hb
    clear he c1
    go_enter Tryz.func120, Tryz.ntmps120
    go_wp2_with fail
    refine (impl_byteToken (s[k].toNat : Int) _ (by omega) (by omega)).mono ?_
    rintro e w3 ⟨rfl, b3⟩
    have hR3 := Lib.hid (hR0.keep b3)
    have b03 : Below w.heap.size w w3 := b0.trans (b3.mono b0.size)
    have ⟨r0, r1, r2, r3, r4, r5⟩ := hR3.out.cells
    have ⟨z0, z1, z2, z3, z4, z5⟩ := hR3.out.thaw
    simp only [zeroTok] at r0 r1 r2 r3 r4 r5
    have hl3 : w.heap.size < w3.heap.size := hR3.out.lt
    generalize byteTok (s[k].toNat : Int) = y at *
    clear hR0 b0 b3
    unfold tokV
    go_wp2
    have hT := (hR3.out.put ⟨y.k, y.a, y.b, y.c, k, 1⟩)
    exact tok_ret (y := ⟨y.k, y.a, y.b, y.c, k, 1⟩) HE.out rfl rfl (hT.keep (below_one _ _)) Tryz.underlying102 rfl (by kernel_rfl) rfl ((below_put b03 (Nat.le_refl _) ⟨y.k, y.a, y.b, y.c, k, 1⟩).alloc (below_put b03 (Nat.le_refl _) ⟨y.k, y.a, y.b, y.c, k, 1⟩).size _)

end Go.Proofs.YtbamjhldebobhaaGreatDoor

namespace Go.Proofs.YtbamjhldebobhaaGreatDoor
open Go.RowKit

theorem tokField0 (y : Tok) (w : World) : (Instr.field 102 (.agg #[.int .i64 y.k, .int .i64 y.a, .int .i64 y.b, .int .i64 y.c, .int .i64 y.p, .int .i64 y.n]) 0).run Tryz.prog w = .ok (.int .i64 y.k) w := by kernel_rfl

def ctlB (a : Int) : Bool := decide (0 ≤ a) && decide (a < 160) && decide (a ≠ 27) && decide ((byteTok a).k = 1)
theorem ctlB_iff (a : Int) : ctlB a = true ↔ ((0 ≤ a ∧ a ≤ 13) ∨ (16 ≤ a ∧ a ≤ 31 ∧ a ≠ 27) ∨ a = 127 ∨ (128 ≤ a ∧ a ≤ 159 ∧ a ≠ 142 ∧ a ≠ 143)) := by
  simp only [ctlB, Bool.and_eq_true, decide_eq_true_eq]
  unfold byteTok
  repeat' split
  all_goals dsimp only
  all_goals omega

set_option maxHeartbeats 1000000 in
theorem impl_isControl (a : Int) (w : World) : Calls Tryz.prog 137 #[.int .i64 a] w fun e w' => e = .returned (.bool (ctlB a)) ∧ Below w.heap.size w w' := by
  by_cases h0 : a < 0
  · have HE : Hid (ctlB a = false) := Lib.hid (by simp [ctlB]; omega)
    go_enter Tryz.func137, Tryz.ntmps137
    go_wp2
    go_ret
    exact ⟨ret_bool HE.out.symm, Below.refl _ _⟩
  have h0' : 0 ≤ a := by omega
  by_cases h1 : 160 ≤ a
  · have HE : Hid (ctlB a = false) := Lib.hid (by simp [ctlB]; omega)
    clear h0
    go_enter Tryz.func137, Tryz.ntmps137
    go_wp2
    go_ret
    exact ⟨ret_bool HE.out.symm, Below.refl _ _⟩
  have h1' : a < 160 := by omega
  by_cases h2 : a = 27
  · subst h2
    clear h0 h1 h0' h1'
    go_enter Tryz.func137, Tryz.ntmps137
    go_wp2
    go_ret
    exact ⟨ret_bool (by decide), Below.refl _ _⟩
  have HE : Hid (ctlB a = ((byteTok a).k == 1)) := Lib.hid (by
    have q0 : decide (0 ≤ a) = true := by simpa using h0'
    have q1 : decide (a < 160) = true := by simpa using h1'
    have q2 : decide (a ≠ 27) = true := by simpa using h2
    rw [ctlB, q0, q1, q2]
    rfl)
  have e2 : (a != 27) = true := by simpa using h2
  have HF := Lib.hid (tokField0 (byteTok a))
  clear h0 h1 h2
  generalize hy : byteTok a = y at *
  have HY := Lib.hid hy
  clear hy
  have fy := HF.out
  go_enter Tryz.func137, Tryz.ntmps137
  go_wp2_with fail
  refine (impl_byteToken a w h0' (by omega)).mono ?_
  rintro e w1 ⟨rfl, b1⟩
  rw [HY.out]
  unfold tokV
  go_wp2
  go_ret
  exact ⟨ret_bool HE.out.symm, b1⟩

def valB (k a : Int) : Bool :=
  if k = 1 then ctlB a else if k = 3 then inB a 33 126 else if k = 4 then inB a 32 127 else if k = 5 then inB a 0 3 else if k = 6 then decide (a = 2 ∨ a = 3)
  else if k = 2 ∨ k = 8 ∨ k = 9 then decide (a = 0) else false

def fldB (x : Tok) : Bool := if x.k = 7 then inB x.b 1 3 && (regB x.b x.a && (decide (64 ≤ x.c) && decide (x.c ≤ 126))) else valB x.k x.a && (decide (x.b = 0) && decide (x.c = 0))

def lenB (x : Tok) : Bool :=
  if x.k = 5 ∧ 2 ≤ x.a then decide (x.n = 2) else if x.k = 6 then decide (x.n = 1 ∨ x.n = 2) else if x.k = 7 then decide (x.n = 3 ∨ x.n = 4) else if x.k = 8 ∨ x.k = 9 then decide (1 ≤ x.n) && decide (x.n ≤ 65536) else decide (x.n = 1)

def tokOKI (x : Tok) : Bool := decide (0 ≤ x.p) && (decide (x.p ≤ 65536) && (fldB x && lenB x))
theorem regB_iff (kd g : Int) : regB kd g = true ↔ (0 ≤ g ∧ g ≤ 3) ∧ ¬ (kd = 2 ∧ g = 0) := by
  unfold regB inB
  rw [Bool.and_eq_true, Bool.and_eq_true, decide_eq_true_eq, decide_eq_true_eq, Bool.not_eq_true', Bool.and_eq_false_iff, decide_eq_false_iff_not, decide_eq_false_iff_not]
  omega
theorem okI1 (a b c p n : Int) : tokOKI ⟨1, a, b, c, p, n⟩ = true ↔ tokOKP ⟨1, a, b, c, p, n⟩ := by
  show (decide (0 ≤ p) && (decide (p ≤ 65536) && ((ctlB a && (decide (b = 0) && decide (c = 0))) && decide (n = 1)))) = true ↔ _
  unfold tokOKP
  simp only [Bool.and_eq_true, decide_eq_true_eq, ctlB_iff, Int.reduceEq, false_and, true_and, or_false]
  omega
theorem okI2 (a b c p n : Int) : tokOKI ⟨2, a, b, c, p, n⟩ = true ↔ tokOKP ⟨2, a, b, c, p, n⟩ := by
  show (decide (0 ≤ p) && (decide (p ≤ 65536) && ((decide (a = 0) && (decide (b = 0) && decide (c = 0))) && decide (n = 1)))) = true ↔ _
  unfold tokOKP
  simp only [Bool.and_eq_true, decide_eq_true_eq, Int.reduceEq, false_and, true_and, false_or, or_false]
  omega
theorem okI3 (a b c p n : Int) : tokOKI ⟨3, a, b, c, p, n⟩ = true ↔ tokOKP ⟨3, a, b, c, p, n⟩ := by
  show (decide (0 ≤ p) && (decide (p ≤ 65536) && ((inB a 33 126 && (decide (b = 0) && decide (c = 0))) && decide (n = 1)))) = true ↔ _
  unfold tokOKP
  simp only [Bool.and_eq_true, decide_eq_true_eq, inB, Int.reduceEq, false_and, true_and, false_or, or_false]
  omega
theorem okI4 (a b c p n : Int) : tokOKI ⟨4, a, b, c, p, n⟩ = true ↔ tokOKP ⟨4, a, b, c, p, n⟩ := by
  show (decide (0 ≤ p) && (decide (p ≤ 65536) && ((inB a 32 127 && (decide (b = 0) && decide (c = 0))) && decide (n = 1)))) = true ↔ _
  unfold tokOKP
  simp only [Bool.and_eq_true, decide_eq_true_eq, inB, Int.reduceEq, false_and, true_and, false_or, or_false]
  omega
theorem okI6 (a b c p n : Int) : tokOKI ⟨6, a, b, c, p, n⟩ = true ↔ tokOKP ⟨6, a, b, c, p, n⟩ := by
  show (decide (0 ≤ p) && (decide (p ≤ 65536) && ((decide (a = 2 ∨ a = 3) && (decide (b = 0) && decide (c = 0))) && decide (n = 1 ∨ n = 2)))) = true ↔ _
  unfold tokOKP
  simp only [Bool.and_eq_true, decide_eq_true_eq, Int.reduceEq, false_and, true_and, false_or, or_false]
  omega
theorem okI7 (a b c p n : Int) : tokOKI ⟨7, a, b, c, p, n⟩ = true ↔ tokOKP ⟨7, a, b, c, p, n⟩ := by
  show (decide (0 ≤ p) && (decide (p ≤ 65536) && ((inB b 1 3 && (regB b a && (decide (64 ≤ c) && decide (c ≤ 126)))) && decide (n = 3 ∨ n = 4)))) = true ↔ _
  unfold tokOKP
  simp only [Bool.and_eq_true, decide_eq_true_eq, inB, regB_iff, Int.reduceEq, false_and, true_and, false_or, or_false]
  omega
theorem okI8 (a b c p n : Int) : tokOKI ⟨8, a, b, c, p, n⟩ = true ↔ tokOKP ⟨8, a, b, c, p, n⟩ := by
  show (decide (0 ≤ p) && (decide (p ≤ 65536) && ((decide (a = 0) && (decide (b = 0) && decide (c = 0))) && (decide (1 ≤ n) && decide (n ≤ 65536))))) = true ↔ _
  unfold tokOKP
  simp only [Bool.and_eq_true, decide_eq_true_eq, Int.reduceEq, false_and, true_and, false_or, or_false]
  omega
theorem okI9 (a b c p n : Int) : tokOKI ⟨9, a, b, c, p, n⟩ = true ↔ tokOKP ⟨9, a, b, c, p, n⟩ := by
  show (decide (0 ≤ p) && (decide (p ≤ 65536) && ((decide (a = 0) && (decide (b = 0) && decide (c = 0))) && (decide (1 ≤ n) && decide (n ≤ 65536))))) = true ↔ _
  unfold tokOKP
  simp only [Bool.and_eq_true, decide_eq_true_eq, Int.reduceEq, false_and, true_and, false_or]
  omega
theorem okI5 (a b c p n : Int) : tokOKI ⟨5, a, b, c, p, n⟩ = true ↔ tokOKP ⟨5, a, b, c, p, n⟩ := by
  by_cases a2 : 2 ≤ a
  · have hl : lenB ⟨5, a, b, c, p, n⟩ = decide (n = 2) := by rw [lenB, if_pos ⟨rfl, a2⟩]
    show (decide (0 ≤ p) && (decide (p ≤ 65536) && ((inB a 0 3 && (decide (b = 0) && decide (c = 0))) && lenB ⟨5, a, b, c, p, n⟩))) = true ↔ _
    rw [hl]
    unfold tokOKP
    simp only [Bool.and_eq_true, decide_eq_true_eq, inB, Int.reduceEq, false_and, true_and, false_or, or_false]
    omega
  · have hl : lenB ⟨5, a, b, c, p, n⟩ = decide (n = 1) := by rw [lenB, if_neg (fun h => a2 h.2)]; rfl
    show (decide (0 ≤ p) && (decide (p ≤ 65536) && ((inB a 0 3 && (decide (b = 0) && decide (c = 0))) && lenB ⟨5, a, b, c, p, n⟩))) = true ↔ _
    rw [hl]
    unfold tokOKP
    simp only [Bool.and_eq_true, decide_eq_true_eq, inB, Int.reduceEq, false_and, true_and, false_or, or_false]
    omega
theorem tokOKI_eq (x : Tok) : tokOKI x = tokOKB x := by
  refine tokOKB_of ?_
  obtain ⟨k, a, b, c, p, n⟩ := x
  by_cases hk : k < 1 ∨ 9 < k
  · have h1 : valB k a = false := by
      rw [valB, if_neg (by omega), if_neg (by omega), if_neg (by omega), if_neg (by omega), if_neg (by omega), if_neg (by omega)]
    have h2 : fldB ⟨k, a, b, c, p, n⟩ = false := by
      rw [fldB, if_neg (by dsimp only; omega)]
      dsimp only
      rw [h1]
      rfl
    unfold tokOKI
    rw [h2]
    unfold tokOKP
    constructor
    · intro h; simp at h
    · intro h; exfalso; dsimp only at h; omega
  · have : k = 1 ∨ k = 2 ∨ k = 3 ∨ k = 4 ∨ k = 5 ∨ k = 6 ∨ k = 7 ∨ k = 8 ∨ k = 9 := by omega
    rcases this with rfl | rfl | rfl | rfl | rfl | rfl | rfl | rfl | rfl
    · exact okI1 a b c p n
    · exact okI2 a b c p n
    · exact okI3 a b c p n
    · exact okI4 a b c p n
    · exact okI5 a b c p n
    · exact okI6 a b c p n
    · exact okI7 a b c p n
    · exact okI8 a b c p n
    · exact okI9 a b c p n

end Go.Proofs.YtbamjhldebobhaaGreatDoor

namespace Go.Proofs.YtbamjhldebobhaaGreatDoor
open Go.RowKit Go.Sort

/-- A space in a state: a code of a set of 96, or a character of its own. -/
def spaceP (x : St) : Stp := if x.d = 0 ∧ setKind (setAt x false) = 2 ∧ setAt x false ≠ 0 then graphic x 32 false else if pendB x = true then ⟨x, -1, 13⟩ else ⟨x, 32, 0⟩
theorem space_eq {x : St} (hx : stOKB x = true) (t : Tok) (ht : t.k = 2) : stepT x t = spaceP x := by
  obtain ⟨h1, h2, h3⟩ := stOK_parts hx
  have hs := (head_parts h2).2
  have hl := lead_range h3
  have hr := setAt_range h1 false
  unfold stepT
  rw [if_neg (by omega), if_neg (by omega)]
  unfold spaceP
  have hw : ∀ n, 0 ≤ stGet x n → (wideB x n = true ↔ setKind (stGet x n) = 2 ∧ stGet x n ≠ 0) := by
    intro n hn
    unfold wideB
    rw [Bool.and_eq_true, decide_eq_true_eq, decide_eq_true_eq]
    constructor
    · intro ⟨a, b⟩; exact ⟨b, by omega⟩
    · intro ⟨a, b⟩; exact ⟨by omega, a⟩
  by_cases hp : pendB x = true
  · rw [if_pos hp]
    by_cases hd : x.d = 0
    · have hs2 : 0 < x.s := by
        unfold pendB at hp
        rw [Bool.or_eq_true, decide_eq_true_eq, decide_eq_true_eq] at hp
        omega
      have he : setAt x false = stGet x x.s := by unfold setAt sideOf; rw [if_pos hs2]
      rw [he] at hr ⊢
      have := hw x.s hr.1
      by_cases hc : wideB x x.s = true
      · rw [if_pos ⟨ht, hd, hc⟩, if_pos ⟨hd, this.1 hc⟩]
      · rw [if_neg (fun h => hc h.2.2), if_neg (fun h => hc (this.2 h.2)), if_pos hp]
    · rw [if_neg (fun h => hd h.2.1), if_neg (fun h => hd h.1), if_pos hp]
  · rw [if_neg hp]
    have ⟨s0, d0⟩ := calm_parts hx (by simpa using hp)
    have he : setAt x false = stGet x x.l := by unfold setAt sideOf; rw [if_neg (by omega), if_neg (by decide)]
    rw [he] at hr ⊢
    have := hw x.l hr.1
    unfold calm
    rw [if_neg (by omega), if_pos ht]
    by_cases hc : wideB x x.l = true
    · rw [if_pos hc, if_pos ⟨d0, this.1 hc⟩]
    · rw [if_neg hc, if_neg (fun h => hc (this.2 h.2)), if_neg hp]

theorem mvDone_same {x : St} {p : Stp} {b : Nat} {w w' : World} {r : Int} (h : p = ⟨x, r, 0⟩) (hr : 0 ≤ r) (hm : MAt w b x) (hb : Below w.heap.size w w') : MvDone p b w (.returned (.tuple #[.int .i64 r, .bool true, .int .i64 0])) w' :=
  ⟨by rw [mv_some h hr], by rw [h]; exact hm.keep hb, only_below hm.lt hb⟩
theorem MvDone.from {p : Stp} {b : Nat} {w w1 w2 : World} {e : Ending} (h : MvDone p b w1 e w2) (hb : b < w.heap.size) (hw : Below w.heap.size w w1) : MvDone p b w e w2 :=
  ⟨h.1, h.2.1, (only_below hb hw).trans h.2.2⟩

set_option maxHeartbeats 1000000 in
set_option maxRecDepth 100000 in
theorem impl_space (x : St) (b : Nat) (w : World) (h : MAt w b x) (ht : TabM w) (hx : stOKB x = true) : Calls Tryz.prog 188 #[.pointer (some ⟨b, 0, none⟩)] w (MvDone (spaceP x) b w) := by
  obtain ⟨h1, h2, h3⟩ := stOK_parts hx
  have HF := Lib.hid (fun w h => impl_setFor x b 0 w h h2)
  rw [show ((0 : Int) == 128) = false from rfl] at HF
  obtain ⟨k, hk, k8⟩ := setAt_nat h1 false
  rw [hk] at HF
  have HG := Lib.hid (fun w h ht => impl_take x b false 32 w h ht hx (by decide) (by decide))
  rw [show sideNo false = 0 from rfl] at HG
  have HP := Lib.hid (fun w h => impl_pending x b w h)
  rw [pend_eq hx] at HP
  have HM := Lib.hid h
  have HT := Lib.hid ht
  have hb : b < w.heap.size := h.lt
  have HS : Hid (spaceP x = if x.d = 0 ∧ setKind (k : Int) = 2 ∧ (k : Int) ≠ 0 then graphic x 32 false else if pendB x = true then ⟨x, -1, 13⟩ else ⟨x, 32, 0⟩) := Lib.hid (by rw [spaceP, hk])
  have ⟨y0, y1, y2, y3, y4, y5, y6⟩ := h.cells
  have u1 : (0 : Int) ≤ (k : Int) := by omega
  have u2 : (k : Int) < 9 := by omega
  clear h ht hx h1 h2 h3 hk
  unfold MvDone mvV at HG
  by_cases z : x.d = 0
  · have ez : (x.d == 0) = true := by simpa using z
    have hk2 : (kind0 (k : Int) == 2) = true ↔ (setKind (k : Int) = 2 ∧ (k : Int) ≠ 0) := by
      unfold kind0
      by_cases k0 : (k : Int) = 0
      · rw [if_pos k0]; simp [k0]
      · rw [if_neg k0]
        exact ⟨fun h => ⟨by simpa using h, k0⟩, fun h => by simpa using h.1⟩
    cases h2 : (kind0 (k : Int) == 2)
    · have hn : ¬ (x.d = 0 ∧ setKind (k : Int) = 2 ∧ (k : Int) ≠ 0) := fun h => by rw [hk2.2 h.2] at h2; cases h2
      clear hk2
      cases hp : pendB x
      · have HE : Hid (spaceP x = ⟨x, 32, 0⟩) := Lib.hid (by rw [HS.out, if_neg hn, if_neg (by rw [hp]; decide)])
        rw [hp] at HP
        clear hn z HS
        go_enter Tryz.func188, Tryz.ntmps188
        go_wp2_with fail
        refine (HF.out w HM.out).mono ?_
        rintro e w1 ⟨rfl, b1⟩
        have c1 := (HT.out.keep b1).kind k k8
        generalize kind0 (k : Int) = kd at *
        clear y0 y1 y2 y3 y4 y5 y6
        go_wp2_with fail
        refine (HP.out w1 (HM.out.keep b1)).mono ?_
        rintro e w2 ⟨rfl, rfl⟩
        go_wp2
        go_ret3
        exact mvDone_same HE.out (by decide) HM.out b1
      · have HE : Hid (spaceP x = ⟨x, -1, 13⟩) := Lib.hid (by rw [HS.out, if_neg hn, if_pos hp])
        rw [hp] at HP
        clear hn z HS
        go_enter Tryz.func188, Tryz.ntmps188
        go_wp2_with fail
        refine (HF.out w HM.out).mono ?_
        rintro e w1 ⟨rfl, b1⟩
        have c1 := (HT.out.keep b1).kind k k8
        generalize kind0 (k : Int) = kd at *
        clear y0 y1 y2 y3 y4 y5 y6
        go_wp2_with fail
        refine (HP.out w1 (HM.out.keep b1)).mono ?_
        rintro e w2 ⟨rfl, rfl⟩
        go_wp2
        go_ret3
        exact mvDone_none HE.out HM.out b1
    · have HE : Hid (spaceP x = graphic x 32 false) := Lib.hid (by rw [HS.out, if_pos ⟨z, hk2.1 h2⟩])
      clear hk2 z HS
      generalize graphic x 32 false = g at *
      have HV : Hid (mvV g = .tuple #[.int .i64 (toldR g), .bool (toldB g), .int .i64 g.c]) := Lib.hid rfl
      generalize toldR g = tr at *
      generalize toldB g = tb at *
      go_enter Tryz.func188, Tryz.ntmps188
      go_wp2_with fail
      refine (HF.out w HM.out).mono ?_
      rintro e w1 ⟨rfl, b1⟩
      have c1 := (HT.out.keep b1).kind k k8
      generalize kind0 (k : Int) = kd at *
      clear y0 y1 y2 y3 y4 y5 y6
      go_wp2_with fail
      refine (HG.out w1 (HM.out.keep b1) (HT.out.keep b1)).mono ?_
      rintro e w2 ⟨rfl, m2, o2⟩
      go_wp2
      go_ret3
      refine MvDone.from ⟨?_, ?_, o2⟩ hb b1
      · rw [HE.out, HV.out]; rfl
      · rw [HE.out]; exact m2
  · have ez : (x.d == 0) = false := by rw [beq_eq_false_iff_ne]; exact z
    have hn : ¬ (x.d = 0 ∧ setKind (k : Int) = 2 ∧ (k : Int) ≠ 0) := fun h => z h.1
    cases hp : pendB x
    · have HE : Hid (spaceP x = ⟨x, 32, 0⟩) := Lib.hid (by rw [HS.out, if_neg hn, if_neg (by rw [hp]; decide)])
      rw [hp] at HP
      clear hn z HS
      go_enter Tryz.func188, Tryz.ntmps188
      go_wp2_with fail
      refine (HP.out w HM.out).mono ?_
      rintro e w2 ⟨rfl, rfl⟩
      go_wp2
      go_ret3
      exact mvDone_same HE.out (by decide) HM.out (Below.refl _ _)
    · have HE : Hid (spaceP x = ⟨x, -1, 13⟩) := Lib.hid (by rw [HS.out, if_neg hn, if_pos hp])
      rw [hp] at HP
      clear hn z HS
      go_enter Tryz.func188, Tryz.ntmps188
      go_wp2_with fail
      refine (HP.out w HM.out).mono ?_
      rintro e w2 ⟨rfl, rfl⟩
      go_wp2
      go_ret3
      exact mvDone_none HE.out HM.out (Below.refl _ _)

theorem impl_control (a : Int) (w : World) : Calls Tryz.prog 189 #[.int .i64 a] w fun e w' => e = .returned (if 127 < a then .tuple #[.int .i64 0, .bool false, .int .i64 10] else .tuple #[.int .i64 a, .bool true, .int .i64 0]) ∧ w = w' := by
  by_cases h : 127 < a
  · rw [if_pos h]
    go_enter Tryz.func189, Tryz.ntmps189
    go_wp2
    go_ret3
    exact ⟨rfl, rfl⟩
  · rw [if_neg h]
    go_enter Tryz.func189, Tryz.ntmps189
    go_wp2
    go_ret3
    exact ⟨rfl, rfl⟩

/-- A token changes the machine, and a code is told. -/
def ChDone (p : Stp) (g : Nat) (w : World) (e : Ending) (w' : World) : Prop := e = .returned (.int .i64 p.c) ∧ MAt w' g p.y ∧ Only g w w'
theorem chDone_none {x : St} {p : Stp} {g : Nat} {w w' : World} {c : Int} (h : p = ⟨x, -1, c⟩) (hm : MAt w g x) (hb : Below w.heap.size w w') : ChDone p g w (.returned (.int .i64 c)) w' :=
  ⟨by rw [h], by rw [h]; exact hm.keep hb, only_below hm.lt hb⟩
theorem ChDone.drew {p : Stp} {g : Nat} {w w' : World} {e : Ending} (h : ChDone p g w e w') : ChDone p g w e w'.drew := ⟨h.1, h.2.1, h.2.2.drewN 1⟩
theorem chDone_set {x y : St} {p : Stp} {g j : Nat} {v : Int} {w : World} {o : Obj} (h : p = ⟨y, -1, 0⟩) (hm : MAt w g x) (hy : MAt (w.setCell ⟨g, j, none⟩ (.int .i64 v)) g y) : ChDone p g w (.returned (.int .i64 0)) ((w.setCell ⟨g, j, none⟩ (.int .i64 v)).alloc o) :=
  ⟨by rw [h], by rw [h]; exact hy.keep (below_one _ _), (Only.set g j w _).alloc hm.lt o⟩

set_option maxHeartbeats 1000000 in
set_option maxRecDepth 100000 in
theorem impl_change5 (x : St) (g : Nat) (a b c p n : Int) (w : World) (h : MAt w g x) : Calls Tryz.prog 190 #[.pointer (some ⟨g, 0, none⟩), tokV ⟨5, a, b, c, p, n⟩] w (ChDone (calm x ⟨5, a, b, c, p, n⟩) g w) := by
  have HE : Hid (calm x ⟨5, a, b, c, p, n⟩ = ⟨⟨x.g0, x.g1, x.g2, x.g3, a, x.s, x.d⟩, -1, 0⟩) := Lib.hid rfl
  have B0 := Lib.hid (below_one w (.cells #[.int .i64 5, .int .i64 a, .int .i64 b, .int .i64 c, .int .i64 p, .int .i64 n] 102))
  have HM := Lib.hid h
  have HM0 := Lib.hid (h.keep B0.out)
  have hg : g < w.heap.size := h.lt
  clear h
  unfold tokV
  have ⟨y0, y1, y2, y3, y4, y5, y6⟩ := HM0.out.cells
  have ⟨q0, q1, q2, q3, q4, q5, q6⟩ := HM0.out.thaw
  have ⟨m0, m1, m2, m3, m4, m5, m6⟩ := HM.out.cells
  have ⟨n0, n1, n2, n3, n4, n5, n6⟩ := HM.out.thaw
  go_enter Tryz.func190, Tryz.ntmps190
  go_wp2
  go_ret
  exact chDone_set HE.out HM.out (heap_setCell_same _ _ 4 _ _ (.int .i64 a) HM.out)

set_option maxHeartbeats 1000000 in
set_option maxRecDepth 100000 in
theorem impl_change6 (x : St) (g : Nat) (a b c p n : Int) (w : World) (h : MAt w g x) : Calls Tryz.prog 190 #[.pointer (some ⟨g, 0, none⟩), tokV ⟨6, a, b, c, p, n⟩] w (ChDone (calm x ⟨6, a, b, c, p, n⟩) g w) := by
  have HE : Hid (calm x ⟨6, a, b, c, p, n⟩ = ⟨⟨x.g0, x.g1, x.g2, x.g3, x.l, a, x.d⟩, -1, 0⟩) := Lib.hid rfl
  have B0 := Lib.hid (below_one w (.cells #[.int .i64 6, .int .i64 a, .int .i64 b, .int .i64 c, .int .i64 p, .int .i64 n] 102))
  have HM := Lib.hid h
  have HM0 := Lib.hid (h.keep B0.out)
  have hg : g < w.heap.size := h.lt
  clear h
  unfold tokV
  have ⟨y0, y1, y2, y3, y4, y5, y6⟩ := HM0.out.cells
  have ⟨q0, q1, q2, q3, q4, q5, q6⟩ := HM0.out.thaw
  have ⟨m0, m1, m2, m3, m4, m5, m6⟩ := HM.out.cells
  have ⟨n0, n1, n2, n3, n4, n5, n6⟩ := HM.out.thaw
  go_enter Tryz.func190, Tryz.ntmps190
  go_wp2
  go_ret
  exact chDone_set HE.out HM.out (heap_setCell_same _ _ 5 _ _ (.int .i64 a) HM.out)

set_option maxHeartbeats 1000000 in
set_option maxRecDepth 100000 in
theorem impl_change8 (x : St) (g : Nat) (a b c p n : Int) (w : World) (h : MAt w g x) : Calls Tryz.prog 190 #[.pointer (some ⟨g, 0, none⟩), tokV ⟨8, a, b, c, p, n⟩] w (ChDone (calm x ⟨8, a, b, c, p, n⟩) g w) := by
  have HE : Hid (calm x ⟨8, a, b, c, p, n⟩ = ⟨x, -1, 13⟩) := Lib.hid rfl
  have B0 := Lib.hid (below_one w (.cells #[.int .i64 8, .int .i64 a, .int .i64 b, .int .i64 c, .int .i64 p, .int .i64 n] 102))
  have HM := Lib.hid h
  have HM0 := Lib.hid (h.keep B0.out)
  have hg : g < w.heap.size := h.lt
  clear h
  unfold tokV
  go_enter Tryz.func190, Tryz.ntmps190
  go_wp2
  go_ret
  exact chDone_none HE.out HM.out B0.out

set_option maxHeartbeats 1000000 in
set_option maxRecDepth 100000 in
theorem impl_change9 (x : St) (g : Nat) (a b c p n : Int) (w : World) (h : MAt w g x) : Calls Tryz.prog 190 #[.pointer (some ⟨g, 0, none⟩), tokV ⟨9, a, b, c, p, n⟩] w (ChDone (calm x ⟨9, a, b, c, p, n⟩) g w) := by
  have HE : Hid (calm x ⟨9, a, b, c, p, n⟩ = ⟨x, -1, 10⟩) := Lib.hid rfl
  have B0 := Lib.hid (below_one w (.cells #[.int .i64 9, .int .i64 a, .int .i64 b, .int .i64 c, .int .i64 p, .int .i64 n] 102))
  have HM := Lib.hid h
  have HM0 := Lib.hid (h.keep B0.out)
  have hg : g < w.heap.size := h.lt
  clear h
  unfold tokV
  go_enter Tryz.func190, Tryz.ntmps190
  go_wp2
  go_ret
  exact chDone_none HE.out HM.out B0.out

set_option maxHeartbeats 1000000 in
set_option maxRecDepth 100000 in
theorem impl_change7 (x : St) (g : Nat) (a b c p n : Int) (w : World) (h : MAt w g x) (ht : TabM w) (a0 : 0 ≤ a) (a3 : a ≤ 3) (b1 : 1 ≤ b) (b3 : b ≤ 3) : Calls Tryz.prog 190 #[.pointer (some ⟨g, 0, none⟩), tokV ⟨7, a, b, c, p, n⟩] w (ChDone (calm x ⟨7, a, b, c, p, n⟩) g w) := by
  have HF := Lib.hid (fun w ht => impl_FindSet b c w ht)
  have hb : inB b 1 3 = true := inB_of b1 b3
  have B0 := Lib.hid (below_one w (.cells #[.int .i64 7, .int .i64 a, .int .i64 b, .int .i64 c, .int .i64 p, .int .i64 n] 102))
  have HM := Lib.hid h
  have HM0 := Lib.hid (h.keep B0.out)
  have hg : g < w.heap.size := h.lt
  clear h
  unfold tokV
  have HT := Lib.hid (ht.keep B0.out)
  clear ht
  by_cases hf : findNo b c = 0
  · have HE : Hid (calm x ⟨7, a, b, c, p, n⟩ = ⟨x, -1, 10⟩) := Lib.hid (by rw [calm, if_neg (by simp), if_neg (by simp), if_neg (by simp), if_neg (by simp), if_pos rfl, if_pos hf])
    have hc : fsC b c = 5 := by unfold fsC; rw [if_pos hb, if_pos hf]
    rw [fsV_bad _ _ _ hc (by decide)] at HF
    clear hf hb hc a0 a3 b1 b3
    go_enter Tryz.func190, Tryz.ntmps190
    go_wp2_with fail
    refine (HF.out _ HT.out.1).mono ?_
    rintro e w2 ⟨rfl, rfl⟩
    go_wp2
    go_ret
    exact chDone_none HE.out HM.out B0.out
  have HE : Hid (calm x ⟨7, a, b, c, p, n⟩ = ⟨stPut x a (findNo b c), -1, 0⟩) := Lib.hid (by rw [calm, if_neg (by simp), if_neg (by simp), if_neg (by simp), if_neg (by simp), if_pos rfl, if_neg hf])
  have hc : fsC b c = 0 := by unfold fsC; rw [if_pos hb, if_neg hf]
  rw [fsV_ok _ _ hc] at HF
  have : a = 0 ∨ a = 1 ∨ a = 2 ∨ a = 3 := by omega
  clear hf hb hc a0 a3 b1 b3
  have ⟨y0, y1, y2, y3, y4, y5, y6⟩ := HM0.out.cells
  have ⟨q0, q1, q2, q3, q4, q5, q6⟩ := HM0.out.thaw
  have ⟨m0, m1, m2, m3, m4, m5, m6⟩ := HM.out.cells
  have ⟨n0, n1, n2, n3, n4, n5, n6⟩ := HM.out.thaw
  rcases this with rfl | rfl | rfl | rfl
  · have HP2 : Hid (stPut x 0 (findNo b c) = ⟨findNo b c, x.g1, x.g2, x.g3, x.l, x.s, x.d⟩) := Lib.hid rfl
    generalize findNo b c = f at *
    go_enter Tryz.func190, Tryz.ntmps190
    go_wp2_with fail
    refine (HF.out _ HT.out.1).mono ?_
    rintro e w2 ⟨rfl, rfl⟩
    go_wp2
    go_region
    all_goals go_wp2
    all_goals go_ret
    all_goals exact (chDone_set (y := ⟨f, x.g1, x.g2, x.g3, x.l, x.s, x.d⟩) (HE.out.trans (by rw [HP2.out])) HM.out (heap_setCell_same _ _ 0 _ _ (.int .i64 f) HM.out)).drew
  · have HP2 : Hid (stPut x 1 (findNo b c) = ⟨x.g0, findNo b c, x.g2, x.g3, x.l, x.s, x.d⟩) := Lib.hid rfl
    generalize findNo b c = f at *
    go_enter Tryz.func190, Tryz.ntmps190
    go_wp2_with fail
    refine (HF.out _ HT.out.1).mono ?_
    rintro e w2 ⟨rfl, rfl⟩
    go_wp2
    go_region
    all_goals go_wp2
    all_goals go_ret
    all_goals exact (chDone_set (y := ⟨x.g0, f, x.g2, x.g3, x.l, x.s, x.d⟩) (HE.out.trans (by rw [HP2.out])) HM.out (heap_setCell_same _ _ 1 _ _ (.int .i64 f) HM.out)).drew
  · have HP2 : Hid (stPut x 2 (findNo b c) = ⟨x.g0, x.g1, findNo b c, x.g3, x.l, x.s, x.d⟩) := Lib.hid rfl
    generalize findNo b c = f at *
    go_enter Tryz.func190, Tryz.ntmps190
    go_wp2_with fail
    refine (HF.out _ HT.out.1).mono ?_
    rintro e w2 ⟨rfl, rfl⟩
    go_wp2
    go_region
    all_goals go_wp2
    all_goals go_ret
    all_goals exact (chDone_set (y := ⟨x.g0, x.g1, f, x.g3, x.l, x.s, x.d⟩) (HE.out.trans (by rw [HP2.out])) HM.out (heap_setCell_same _ _ 2 _ _ (.int .i64 f) HM.out)).drew
  · have HP2 : Hid (stPut x 3 (findNo b c) = ⟨x.g0, x.g1, x.g2, findNo b c, x.l, x.s, x.d⟩) := Lib.hid rfl
    generalize findNo b c = f at *
    go_enter Tryz.func190, Tryz.ntmps190
    go_wp2_with fail
    refine (HF.out _ HT.out.1).mono ?_
    rintro e w2 ⟨rfl, rfl⟩
    go_wp2
    go_region
    all_goals go_wp2
    all_goals go_ret
    all_goals exact (chDone_set (y := ⟨x.g0, x.g1, x.g2, f, x.l, x.s, x.d⟩) (HE.out.trans (by rw [HP2.out])) HM.out (heap_setCell_same _ _ 3 _ _ (.int .i64 f) HM.out)).drew


theorem impl_change (x : St) (t : Tok) (g : Nat) (w : World) (h : MAt w g x) (ht : TabM w) (hk : tokLP t) (h5 : 5 ≤ t.k) : Calls Tryz.prog 190 #[.pointer (some ⟨g, 0, none⟩), tokV t] w (ChDone (calm x t) g w) := by
  obtain ⟨k, a, b, c, p, n⟩ := t
  have hk9 : k = 5 ∨ k = 6 ∨ k = 7 ∨ k = 8 ∨ k = 9 := by unfold tokLP at hk; dsimp only at hk h5; omega
  rcases hk9 with rfl | rfl | rfl | rfl | rfl
  · exact impl_change5 x g a b c p n w h
  · exact impl_change6 x g a b c p n w h
  · have h4 : 0 ≤ a ∧ a ≤ 3 ∧ 1 ≤ b ∧ b ≤ 3 := by unfold tokLP at hk; dsimp only at hk; omega
    exact impl_change7 x g a b c p n w h ht h4.1 h4.2.1 h4.2.2.1 h4.2.2.2
  · exact impl_change8 x g a b c p n w h
  · exact impl_change9 x g a b c p n w h


end Go.Proofs.YtbamjhldebobhaaGreatDoor

namespace Go.Proofs.YtbamjhldebobhaaGreatDoor
open Go.RowKit Go.Sort

set_option maxHeartbeats 1000000 in
set_option maxRecDepth 100000 in
theorem impl_step3 (x : St) (g : Nat) (a b c p n : Int) (w : World) (h : MAt w g x) (ht : TabM w) (hx : stOKB x = true) (a0 : 0 ≤ a) (a1 : a ≤ 255) : Calls Tryz.prog 157 #[.pointer (some ⟨g, 0, none⟩), tokV ⟨3, a, b, c, p, n⟩] w (MvDone (stepT x ⟨3, a, b, c, p, n⟩) g w) := by
  have B0 := Lib.hid (below_one w (.cells #[.int .i64 3, .int .i64 a, .int .i64 b, .int .i64 c, .int .i64 p, .int .i64 n] 102))
  have HM := Lib.hid h
  have HM0 := Lib.hid (h.keep B0.out)
  have HT0 := Lib.hid (ht.keep B0.out)
  have hg : g < w.heap.size := h.lt
  have HG := Lib.hid (fun w h ht => impl_take x g false a w h ht hx a0 a1)
  rw [show sideNo false = 0 from rfl] at HG
  have HE : Hid (stepT x ⟨3, a, b, c, p, n⟩ = graphic x a false) := Lib.hid rfl
  unfold MvDone mvV at HG
  generalize graphic x a false = q at *
  have HV : Hid (mvV q = .tuple #[.int .i64 (toldR q), .bool (toldB q), .int .i64 q.c]) := Lib.hid rfl
  generalize toldR q = tr at *
  generalize toldB q = tb at *
  clear h ht hx
  unfold tokV
  go_enter Tryz.func157, Tryz.ntmps157
  go_wp2_with fail
  refine (HG.out _ HM0.out HT0.out).mono ?_
  rintro e w2 ⟨rfl, m2, o2⟩
  go_wp2
  go_ret3
  refine MvDone.from ⟨?_, ?_, o2⟩ hg B0.out
  · rw [HE.out, HV.out]; rfl
  · rw [HE.out]; exact m2

set_option maxHeartbeats 1000000 in
set_option maxRecDepth 100000 in
theorem impl_step4 (x : St) (g : Nat) (a b c p n : Int) (w : World) (h : MAt w g x) (ht : TabM w) (hx : stOKB x = true) (a0 : 0 ≤ a) (a1 : a ≤ 255) : Calls Tryz.prog 157 #[.pointer (some ⟨g, 0, none⟩), tokV ⟨4, a, b, c, p, n⟩] w (MvDone (stepT x ⟨4, a, b, c, p, n⟩) g w) := by
  have B0 := Lib.hid (below_one w (.cells #[.int .i64 4, .int .i64 a, .int .i64 b, .int .i64 c, .int .i64 p, .int .i64 n] 102))
  have HM := Lib.hid h
  have HM0 := Lib.hid (h.keep B0.out)
  have HT0 := Lib.hid (ht.keep B0.out)
  have hg : g < w.heap.size := h.lt
  have HG := Lib.hid (fun w h ht => impl_take x g true a w h ht hx a0 a1)
  rw [show sideNo true = 128 from rfl] at HG
  have HE : Hid (stepT x ⟨4, a, b, c, p, n⟩ = graphic x a true) := Lib.hid rfl
  unfold MvDone mvV at HG
  generalize graphic x a true = q at *
  have HV : Hid (mvV q = .tuple #[.int .i64 (toldR q), .bool (toldB q), .int .i64 q.c]) := Lib.hid rfl
  generalize toldR q = tr at *
  generalize toldB q = tb at *
  clear h ht hx
  unfold tokV
  go_enter Tryz.func157, Tryz.ntmps157
  go_wp2_with fail
  refine (HG.out _ HM0.out HT0.out).mono ?_
  rintro e w2 ⟨rfl, m2, o2⟩
  go_wp2
  go_ret3
  refine MvDone.from ⟨?_, ?_, o2⟩ hg B0.out
  · rw [HE.out, HV.out]; rfl
  · rw [HE.out]; exact m2

set_option maxHeartbeats 1000000 in
set_option maxRecDepth 100000 in
theorem impl_step2 (x : St) (g : Nat) (a b c p n : Int) (w : World) (h : MAt w g x) (ht : TabM w) (hx : stOKB x = true) : Calls Tryz.prog 157 #[.pointer (some ⟨g, 0, none⟩), tokV ⟨2, a, b, c, p, n⟩] w (MvDone (stepT x ⟨2, a, b, c, p, n⟩) g w) := by
  have B0 := Lib.hid (below_one w (.cells #[.int .i64 2, .int .i64 a, .int .i64 b, .int .i64 c, .int .i64 p, .int .i64 n] 102))
  have HM := Lib.hid h
  have HM0 := Lib.hid (h.keep B0.out)
  have HT0 := Lib.hid (ht.keep B0.out)
  have hg : g < w.heap.size := h.lt
  have HG := Lib.hid (fun w h ht => impl_space x g w h ht hx)
  have HE : Hid (stepT x ⟨2, a, b, c, p, n⟩ = spaceP x) := Lib.hid (space_eq hx _ rfl)
  unfold MvDone mvV at HG
  generalize spaceP x = q at *
  have HV : Hid (mvV q = .tuple #[.int .i64 (toldR q), .bool (toldB q), .int .i64 q.c]) := Lib.hid rfl
  generalize toldR q = tr at *
  generalize toldB q = tb at *
  clear h ht hx
  unfold tokV
  go_enter Tryz.func157, Tryz.ntmps157
  go_wp2_with fail
  refine (HG.out _ HM0.out HT0.out).mono ?_
  rintro e w2 ⟨rfl, m2, o2⟩
  go_wp2
  go_ret3
  refine MvDone.from ⟨?_, ?_, o2⟩ hg B0.out
  · rw [HE.out, HV.out]; rfl
  · rw [HE.out]; exact m2

set_option maxHeartbeats 1000000 in
set_option maxRecDepth 100000 in
theorem impl_stepP (x : St) (g : Nat) (k a b c p n : Int) (w : World) (h : MAt w g x) (ht : TabM w) (hx : stOKB x = true) (hp : pendB x = true) (h2 : k ≠ 2) (h3 : k ≠ 3) (h4 : k ≠ 4) : Calls Tryz.prog 157 #[.pointer (some ⟨g, 0, none⟩), tokV ⟨k, a, b, c, p, n⟩] w (MvDone (stepT x ⟨k, a, b, c, p, n⟩) g w) := by
  have B0 := Lib.hid (below_one w (.cells #[.int .i64 k, .int .i64 a, .int .i64 b, .int .i64 c, .int .i64 p, .int .i64 n] 102))
  have HM := Lib.hid h
  have HM0 := Lib.hid (h.keep B0.out)
  have HT0 := Lib.hid (ht.keep B0.out)
  have hg : g < w.heap.size := h.lt
  have HP := Lib.hid (fun w h => impl_pending x g w h)
  rw [pend_eq hx, hp] at HP
  have HE : Hid (stepT x ⟨k, a, b, c, p, n⟩ = ⟨x, -1, 13⟩) := Lib.hid (by rw [stepT, if_neg h3, if_neg h4, if_pos hp, if_neg (fun h => h2 h.1)])
  have e2 : (k == 2) = false := by rw [beq_eq_false_iff_ne]; exact h2
  have e3 : (k == 3) = false := by rw [beq_eq_false_iff_ne]; exact h3
  have e4 : (k == 4) = false := by rw [beq_eq_false_iff_ne]; exact h4
  clear hp h2 h3 h4
  clear h ht hx
  unfold tokV
  go_enter Tryz.func157, Tryz.ntmps157
  go_wp2_with fail
  refine (HP.out _ HM0.out).mono ?_
  rintro e w2 ⟨rfl, rfl⟩
  go_wp2
  go_ret3
  exact mvDone_none HE.out HM.out B0.out

set_option maxHeartbeats 1000000 in
set_option maxRecDepth 100000 in
theorem impl_step1 (x : St) (g : Nat) (a b c p n : Int) (w : World) (h : MAt w g x) (ht : TabM w) (hx : stOKB x = true) (hp : pendB x = false) (ha : 0 ≤ a) : Calls Tryz.prog 157 #[.pointer (some ⟨g, 0, none⟩), tokV ⟨1, a, b, c, p, n⟩] w (MvDone (stepT x ⟨1, a, b, c, p, n⟩) g w) := by
  have B0 := Lib.hid (below_one w (.cells #[.int .i64 1, .int .i64 a, .int .i64 b, .int .i64 c, .int .i64 p, .int .i64 n] 102))
  have HM := Lib.hid h
  have HM0 := Lib.hid (h.keep B0.out)
  have HT0 := Lib.hid (ht.keep B0.out)
  have hg : g < w.heap.size := h.lt
  have HP := Lib.hid (fun w h => impl_pending x g w h)
  rw [pend_eq hx, hp] at HP
  have HC := Lib.hid (fun w => impl_control a w)
  clear h ht hx
  unfold tokV
  by_cases h1 : 127 < a
  · have HE : Hid (stepT x ⟨1, a, b, c, p, n⟩ = ⟨x, -1, 10⟩) := Lib.hid (by rw [stepT, if_neg (by simp), if_neg (by simp), if_neg (by rw [hp]; decide), calm, if_pos rfl, if_pos h1])
    rw [if_pos h1] at HC
    clear hp h1
    go_enter Tryz.func157, Tryz.ntmps157
    go_wp2_with fail
    refine (HP.out _ HM0.out).mono ?_
    rintro e w2 ⟨rfl, rfl⟩
    go_wp2_with fail
    refine (HC.out _).mono ?_
    rintro e w2 ⟨rfl, rfl⟩
    go_wp2
    go_ret3
    exact mvDone_none HE.out HM.out B0.out
  · have HE : Hid (stepT x ⟨1, a, b, c, p, n⟩ = ⟨x, a, 0⟩) := Lib.hid (by rw [stepT, if_neg (by simp), if_neg (by simp), if_neg (by rw [hp]; decide), calm, if_pos rfl, if_neg h1])
    rw [if_neg h1] at HC
    clear hp h1
    go_enter Tryz.func157, Tryz.ntmps157
    go_wp2_with fail
    refine (HP.out _ HM0.out).mono ?_
    rintro e w2 ⟨rfl, rfl⟩
    go_wp2_with fail
    refine (HC.out _).mono ?_
    rintro e w2 ⟨rfl, rfl⟩
    go_wp2
    go_ret3
    exact mvDone_same HE.out ha HM.out B0.out

/-- What changes the machine tells no character. -/
theorem calm_none {x : St} {t : Tok} (h : 5 ≤ t.k) : (calm x t).r = -1 := by
  unfold calm
  rw [if_neg (by omega), if_neg (by omega)]
  repeat' split
  all_goals rfl
theorem MvDone.ofCh {q : Stp} {g : Nat} {w w' : World} {c : Int} (hr : q.r = -1) (hc : c = q.c) (hm : MAt w' g q.y) (ho : Only g w w') : MvDone q g w (.returned (.tuple #[.int .i64 0, .bool false, .int .i64 c])) w' :=
  ⟨by rw [hc]; unfold mvV toldR toldB; rw [hr]; rfl, hm, ho⟩

set_option maxHeartbeats 1000000 in
set_option maxRecDepth 100000 in
theorem impl_step5 (x : St) (g : Nat) (k a b c p n : Int) (w : World) (h : MAt w g x) (ht : TabM w) (hx : stOKB x = true) (hp : pendB x = false) (hk : tokLP ⟨k, a, b, c, p, n⟩) (h5 : 5 ≤ k) : Calls Tryz.prog 157 #[.pointer (some ⟨g, 0, none⟩), tokV ⟨k, a, b, c, p, n⟩] w (MvDone (stepT x ⟨k, a, b, c, p, n⟩) g w) := by
  have B0 := Lib.hid (below_one w (.cells #[.int .i64 k, .int .i64 a, .int .i64 b, .int .i64 c, .int .i64 p, .int .i64 n] 102))
  have HM := Lib.hid h
  have HM0 := Lib.hid (h.keep B0.out)
  have HT0 := Lib.hid (ht.keep B0.out)
  have hg : g < w.heap.size := h.lt
  have HP := Lib.hid (fun w h => impl_pending x g w h)
  rw [pend_eq hx, hp] at HP
  have HC := Lib.hid (fun w h ht => impl_change x ⟨k, a, b, c, p, n⟩ g w h ht hk h5)
  have HE : Hid (stepT x ⟨k, a, b, c, p, n⟩ = calm x ⟨k, a, b, c, p, n⟩) := Lib.hid (by rw [stepT, if_neg (show ¬ k = 3 by omega), if_neg (show ¬ k = 4 by omega), if_neg (by rw [hp]; decide)])
  have HN := Lib.hid (calm_none (x := x) (t := ⟨k, a, b, c, p, n⟩) h5)
  unfold ChDone tokV at HC
  generalize calm x ⟨k, a, b, c, p, n⟩ = q at *
  have e1 : (k == 1) = false := by rw [beq_eq_false_iff_ne]; omega
  have e2 : (k == 2) = false := by rw [beq_eq_false_iff_ne]; omega
  have e3 : (k == 3) = false := by rw [beq_eq_false_iff_ne]; omega
  have e4 : (k == 4) = false := by rw [beq_eq_false_iff_ne]; omega
  clear hp hk h5
  clear h ht hx
  unfold tokV
  go_enter Tryz.func157, Tryz.ntmps157
  go_wp2_with fail
  refine (HP.out _ HM0.out).mono ?_
  rintro e w2 ⟨rfl, rfl⟩
  go_wp2_with fail
  refine (HC.out _ HM0.out HT0.out).mono ?_
  rintro e w2 ⟨rfl, m2, o2⟩
  go_wp2
  go_ret3
  rw [HE.out]
  exact MvDone.ofCh HN.out rfl m2 ((only_below hg B0.out).trans o2)

theorem impl_step (x : St) (t : Tok) (g : Nat) (w : World) (h : MAt w g x) (ht : TabM w) (hx : stOKB x = true) (hk : tokLP t) : Calls Tryz.prog 157 #[.pointer (some ⟨g, 0, none⟩), tokV t] w (MvDone (stepT x t) g w) := by
  obtain ⟨k, a, b, c, p, n⟩ := t
  have hk9 : 1 ≤ k ∧ k ≤ 9 := by unfold tokLP at hk; dsimp only at hk; omega
  by_cases h3 : k = 3
  · subst h3
    have ha : 0 ≤ a ∧ a ≤ 255 := by unfold tokLP at hk; dsimp only at hk; omega
    exact impl_step3 x g a b c p n w h ht hx ha.1 ha.2
  by_cases h4 : k = 4
  · subst h4
    have ha : 0 ≤ a ∧ a ≤ 255 := by unfold tokLP at hk; dsimp only at hk; omega
    exact impl_step4 x g a b c p n w h ht hx ha.1 ha.2
  by_cases h2 : k = 2
  · subst h2
    exact impl_step2 x g a b c p n w h ht hx
  cases hp : pendB x
  · by_cases h1 : k = 1
    · subst h1
      have ha : 0 ≤ a := by unfold tokLP at hk; dsimp only at hk; omega
      exact impl_step1 x g a b c p n w h ht hx hp ha
    · exact impl_step5 x g k a b c p n w h ht hx hp hk (by omega)
  · exact impl_stepP x g k a b c p n w h ht hx hp h2 h3 h4

end Go.Proofs.YtbamjhldebobhaaGreatDoor

namespace Go.Proofs.YtbamjhldebobhaaGreatDoor
open Go.RowKit Go.Sort

/-- What a reading holds beside the machine. -/
structure RK where
  n : Int
  m : Value
  l : Value

/-- A reading in block b. -/
def RdAt (w : World) (b : Nat) (n : Int) (m : Value) (x : St) (l : Value) : Prop := w.heap[b]? = some (.cells #[.int .i64 n, .string (prName n), .string (prHead n), .slice none 0 0, .bool (prRight n), .bool (prShifts n), .bool (prSingle n), .bool (prReset n), .bool (prClear n), m, .int .i64 x.g0, .int .i64 x.g1, .int .i64 x.g2, .int .i64 x.g3, .int .i64 x.l, .int .i64 x.s, .int .i64 x.d, l] 69)
/-- The same, for what the machine's methods say. -/
def MRt (κ : RK) (w : World) (b : Nat) (x : St) : Prop := RdAt w b κ.n κ.m x κ.l
theorem RdAt.lt {w : World} {g : Nat} {n : Int} {m l : Value} {x : St} (h : RdAt w g n m x l) : g < w.heap.size := (Array.getElem?_eq_some_iff.1 h).1
theorem RdAt.keep {w w' : World} {g : Nat} {n : Int} {m l : Value} {x : St} (h : RdAt w g n m x l) (b : Below w.heap.size w w') : RdAt w' g n m x l := (b.block g h.lt).trans h
theorem RdAt.below {w w' : World} {g B : Nat} {n : Int} {m l : Value} {x : St} (h : RdAt w g n m x l) (b : Below B w w') (hB : g < B) : RdAt w' g n m x l := (b.block g hB).trans h
theorem RdAt.cells {w : World} {g : Nat} {n : Int} {m l : Value} {x : St} (h : RdAt w g n m x l) : w.cell? ⟨g, 0, none⟩ = some (.int .i64 n) ∧ w.cell? ⟨g, 1, none⟩ = some (.string (prName n)) ∧ w.cell? ⟨g, 2, none⟩ = some (.string (prHead n)) ∧ w.cell? ⟨g, 4, none⟩ = some (.bool (prRight n)) ∧ w.cell? ⟨g, 5, none⟩ = some (.bool (prShifts n)) ∧ w.cell? ⟨g, 6, none⟩ = some (.bool (prSingle n)) ∧ w.cell? ⟨g, 7, none⟩ = some (.bool (prReset n)) ∧ w.cell? ⟨g, 8, none⟩ = some (.bool (prClear n)) ∧ w.cell? ⟨g, 9, none⟩ = some m ∧ w.cell? ⟨g, 17, none⟩ = some l := by
  refine ⟨?_, ?_, ?_, ?_, ?_, ?_, ?_, ?_, ?_, ?_⟩ <;> (rw [cell_of_row _ _ _ _ _ _ h]; rfl)
theorem RdAt.frozen {w : World} {g : Nat} {n : Int} {m l : Value} {x : St} (h : RdAt w g n m x l) (i : Nat) : w.frozen? ⟨g, i, none⟩ = false := frozen_of_row w _ i _ _ h
theorem MRt.lt {κ : RK} {w : World} {g : Nat} {x : St} (h : MRt κ w g x) : g < w.heap.size := RdAt.lt h
theorem MRt.keep {κ : RK} {w w' : World} {g : Nat} {x : St} (h : MRt κ w g x) (b : Below w.heap.size w w') : MRt κ w' g x := RdAt.keep h b
theorem MRt.below {κ : RK} {w w' : World} {g B : Nat} {x : St} (h : MRt κ w g x) (b : Below B w w') (hB : g < B) : MRt κ w' g x := RdAt.below h b hB
theorem MRt.cells {κ : RK} {w : World} {g : Nat} {x : St} (h : MRt κ w g x) : w.cell? ⟨g, 10, none⟩ = some (.int .i64 x.g0) ∧ w.cell? ⟨g, 11, none⟩ = some (.int .i64 x.g1) ∧ w.cell? ⟨g, 12, none⟩ = some (.int .i64 x.g2) ∧ w.cell? ⟨g, 13, none⟩ = some (.int .i64 x.g3) ∧ w.cell? ⟨g, 14, none⟩ = some (.int .i64 x.l) ∧ w.cell? ⟨g, 15, none⟩ = some (.int .i64 x.s) ∧ w.cell? ⟨g, 16, none⟩ = some (.int .i64 x.d) := by
  refine ⟨?_, ?_, ?_, ?_, ?_, ?_, ?_⟩ <;> (rw [cell_of_row _ _ _ _ _ _ h]; rfl)
theorem MRt.thaw {κ : RK} {w : World} {g : Nat} {x : St} (h : MRt κ w g x) : w.frozen? ⟨g, 10, none⟩ = false ∧ w.frozen? ⟨g, 11, none⟩ = false ∧ w.frozen? ⟨g, 12, none⟩ = false ∧ w.frozen? ⟨g, 13, none⟩ = false ∧ w.frozen? ⟨g, 14, none⟩ = false ∧ w.frozen? ⟨g, 15, none⟩ = false ∧ w.frozen? ⟨g, 16, none⟩ = false :=
  ⟨frozen_of_row w _ 10 _ _ h, frozen_of_row w _ 11 _ _ h, frozen_of_row w _ 12 _ _ h, frozen_of_row w _ 13 _ _ h, frozen_of_row w _ 14 _ _ h, frozen_of_row w _ 15 _ _ h, frozen_of_row w _ 16 _ _ h⟩

end Go.Proofs.YtbamjhldebobhaaGreatDoor
