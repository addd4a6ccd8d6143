/- The tied card of 'FnExactRunState': from the walk to the given statement. The listed package-level variables start as the program's text lays them (the given tie). Joined of: StI, LayI, DesI, NextI, NextJ, MaJ, Marks, FnExactRunStateWalk, FnExactRunStateCard. -/
import Derived.Test.YtanceljhdccepaaDoorStH
import Derived.Test.YtanceljhdccepaaDoorOwn
import Derived.Shelf.Strings.BuilderRune
import Derived.Shelf.Strings.Search1
import Derived.Shelf.Small.Strs
import Derived.Test.YtanceljhdccepaaDoorProg
import Derived.Test.YtanceljhdccepaaDoorTokB
import Derived.Test.YtanceljhdccepaaDoorTokC
import Derived.Test.YtanceljhdccepaaDoorByteI
import Derived.WalkMore
import Derived.Test.YtanceljhdccepaaDoorMaI
import Derived.Test.YtanceljhdccepaaDoorInts
import Derived.Test.YtanceljhdccepaaDoorStL
import Derived.Test.YtanceljhdccepaaDoorMaLaid
import Derived.Test.YtanceljhdccepaaDoorCards
import Derived.Test.YtanceljhdccepaaDoorTie
import Derived.Test.YtanceljhdccepaaDoorVars
import Derived.Lib.Hide
import Derived.Test.YtanceljhdccepaaDoorIntStruct

namespace Go.Proofs.YtanceljhdccepaaDoor
open Go.RowKit Go.Sort

/-- A run handed back: the state, the characters in new memory, the offset, the code. -/
def RunDone (p : Rn) (w : World) (e : Ending) (w' : World) : Prop := ∃ v, e = .returned (.tuple #[stV p.y, v, .int .i64 p.p, .int .i64 p.c]) ∧ Own .i64 3 w' w.heap.size v p.z ∧ Below w.heap.size w w'
theorem addR_some {z : List Int} {r : Int} (h : 0 ≤ r) : addR z r = z ++ [r] := by rw [addR, if_pos h]
theorem addR_none {z : List Int} {r : Int} (h : r = -1) : addR z r = z := by rw [addR, if_neg (by omega)]

theorem heap_putSt {w : World} {g j : Nat} (y : St) (h : j ≠ g) : (putSt w g y).heap[j]? = w.heap[j]? := by
  unfold putSt
  rw [Below.heap_setCell _ _ _ _ (by simpa using h), Below.heap_setCell _ _ _ _ (by simpa using h), Below.heap_setCell _ _ _ _ (by simpa using h), Below.heap_setCell _ _ _ _ (by simpa using h), Below.heap_setCell _ _ _ _ (by simpa using h), Below.heap_setCell _ _ _ _ (by simpa using h), Below.heap_setCell _ _ _ _ (by simpa using h)]
theorem Own.putSt {k : IntKind} {e : TypeId} {w : World} {B g : Nat} {v : Value} {zs : List Int} (h : Own k e w B v zs) (hg : g < B) (y : St) : Own k e (putSt w g y) B v zs := by
  refine ⟨h.1, ?_⟩
  rcases h.2 with h | ⟨j, cap, cur, a, b, c, d⟩
  · exact .inl h
  · exact .inr ⟨j, cap, cur, a, b, by rw [heap_putSt y (by omega)]; exact c, d⟩
theorem StAt.other {w : World} {g j : Nat} {x : St} (h : StAt w j x) (y : St) (hg : j ≠ g) : StAt (Go.Proofs.YtanceljhdccepaaDoor.putSt w g y) j x := (heap_putSt y hg).trans h
theorem TokAt.other {w : World} {g j : Nat} {t : Tok} (h : TokAt w j t) (y : St) (hg : j ≠ g) : TokAt (Go.Proofs.YtanceljhdccepaaDoor.putSt w g y) j t := (heap_putSt y hg).trans h

theorem size_putSt (w : World) (g : Nat) (y : St) : (putSt w g y).heap.size = w.heap.size := by simp [putSt]

set_option maxHeartbeats 4000000 in
set_option maxRecDepth 100000 in
theorem spec_l04Run (x : St) (s : ByteArray) (w : World) (hx : stOKB x = true) (hs : s.size ≤ 65536) : Calls Tryd.prog 49 #[stV x, .string s] w (RunDone (runT s s.size 0 x []) w) := by
  have HB0 : Hid (StAt ((w.alloc (.cells #[.int .i64 x.g0, .int .i64 x.g1, .int .i64 x.g2, .int .i64 x.g3, .int .i64 x.l, .int .i64 x.s, .int .i64 x.d] 24)).alloc (.cells #[.int .i64 0, .int .i64 0, .int .i64 0, .int .i64 0, .int .i64 0, .int .i64 0, .int .i64 0] 24)) w.heap.size x) := Lib.hid (heap_alloc2_old _ _ _)
  have HS0 : Hid (StAt ((w.alloc (.cells #[.int .i64 x.g0, .int .i64 x.g1, .int .i64 x.g2, .int .i64 x.g3, .int .i64 x.l, .int .i64 x.s, .int .i64 x.d] 24)).alloc (.cells #[.int .i64 0, .int .i64 0, .int .i64 0, .int .i64 0, .int .i64 0, .int .i64 0, .int .i64 0] 24)) (w.heap.size + 1) zeroSt) := Lib.hid (heap_alloc2_new _ _ _)
  have B0 := Lib.hid (below_two w (.cells #[.int .i64 x.g0, .int .i64 x.g1, .int .i64 x.g2, .int .i64 x.g3, .int .i64 x.l, .int .i64 x.s, .int .i64 x.d] 24) (.cells #[.int .i64 0, .int .i64 0, .int .i64 0, .int .i64 0, .int .i64 0, .int .i64 0, .int .i64 0] 24))
  have hsz0 : ((w.alloc (.cells #[.int .i64 x.g0, .int .i64 x.g1, .int .i64 x.g2, .int .i64 x.g3, .int .i64 x.l, .int .i64 x.s, .int .i64 x.d] 24)).alloc (.cells #[.int .i64 0, .int .i64 0, .int .i64 0, .int .i64 0, .int .i64 0, .int .i64 0, .int .i64 0] 24)).heap.size = w.heap.size + 2 := by simp
  have HX := Lib.hid hx
  clear hx
  unfold stV
  go_enter Tryd.func49, Tryd.ntmps49
  go_wp2
  generalize (w.alloc (.cells #[.int .i64 x.g0, .int .i64 x.g1, .int .i64 x.g2, .int .i64 x.g3, .int .i64 x.l, .int .i64 x.s, .int .i64 x.d] 24)).alloc (.cells #[.int .i64 0, .int .i64 0, .int .i64 0, .int .i64 0, .int .i64 0, .int .i64 0, .int .i64 0] 24) = W0 at *
  go_loopw [8, 9] (fun v i wr => ∃ (k f : Nat) (xs : St) (zs : List Int), k ≤ s.size ∧ i = .int .i64 k ∧ Hid (s.size ≤ k + f) ∧ zs.length ≤ k ∧ Hid (runT s s.size 0 x [] = runT s f k xs zs) ∧ Hid (stOKB xs = true) ∧ Hid (Own .i64 3 wr (w.heap.size + 2) v zs) ∧ Hid (StAt wr w.heap.size xs) ∧ Hid (StAt wr (w.heap.size + 1) zeroSt) ∧ Hid (Below w.heap.size w wr)) (fun _ i _ => s.size - (intOf i).toNat)
  case atStart =>
    have HO0 := Own.lit .i64 3 W0 (w.heap.size + 2) [] (by omega) (by simp)
    rw [hsz0] at HO0
    exact ⟨0, s.size, x, [], by omega, rfl, Lib.hid (by omega), by simp, Lib.hid rfl, HX, Lib.hid HO0, Lib.hid (HB0.out.keep (below_one _ _)), Lib.hid (HS0.out.keep (below_one _ _)), Lib.hid (B0.out.alloc B0.out.size _)⟩
  case round =>
    obtain ⟨k, f, xs, zs, hk, rfl, HF, hzs, HR, HX, HO, HB, HS, BW⟩ := hrel
    obtain ⟨a0, c0, hform, _⟩ := HO.out.shape
    subst hform
    by_cases hlt : k < s.size
    · obtain ⟨f, rfl⟩ : ∃ q, f = q + 1 := ⟨f - 1, by have := HF.out; omega⟩
      have v2 : (k : Int) < (s.size : Int) := by omega
      have HU : Hid (runT s (f + 1) k xs zs = if (stepT xs (nextTok s k)).c = 0 then runT s f (k + (nextTok s k).n.toNat) (stepT xs (nextTok s k)).y (addR zs (stepT xs (nextTok s k)).r) else ⟨xs, zs, k, (stepT xs (nextTok s k)).c⟩) := Lib.hid (by rw [runT, if_pos hlt])
      have n1 := (nextTok_in s k hlt).2.1
      have n2 := (nextTok_in s k hlt).2.2
      have HN := Lib.hid (fun w => spec_l03Next s k w hlt (by omega))
      have HG := Lib.hid (fun w => spec_l04Step xs (nextTok s k) w HX.out (nextTok_ok s k hlt hs))
      have HC := Lib.hid (fun h => stepT_code (x := xs) (t := nextTok s k) h)
      have hr := stepT_r (x := xs) (nextTok_ok s k hlt hs)
      have HX2 := Lib.hid (stepT_ok HX.out (nextTok_ok s k hlt hs))
      unfold TokDone tokV at HN
      unfold StpDone stpV tokV stV at HG
      generalize nextTok s k = y at *
      generalize stepT xs y = p at *
      have u1 : IntKind.i64.wrap ((k : Int) + y.n) = (k : Int) + y.n := IntWalk.i64_in _ (by omega)
      go_wp2_with fail
      refine (HN.out _).mono ?_
      rintro e w1 ⟨rfl, b1⟩
      have B1 := Lib.hid (BW.out.trans (b1.mono BW.out.size))
      have O1 := Lib.hid ((HO.out.all b1).all (below_one w1 (.cells #[.int .i64 y.k, .int .i64 y.a, .int .i64 y.b, .int .i64 y.c, .int .i64 y.p, .int .i64 y.n] 38)))
      have HB1 := Lib.hid ((HB.out.keep b1).keep (below_one w1 (.cells #[.int .i64 y.k, .int .i64 y.a, .int .i64 y.b, .int .i64 y.c, .int .i64 y.p, .int .i64 y.n] 38)))
      have HS1 := Lib.hid ((HS.out.keep b1).keep (below_one w1 (.cells #[.int .i64 y.k, .int .i64 y.a, .int .i64 y.b, .int .i64 y.c, .int .i64 y.p, .int .i64 y.n] 38)))
      have HK1 := Lib.hid (TokAt.new w1 y)
      have B1b := Lib.hid (B1.out.alloc B1.out.size (.cells #[.int .i64 y.k, .int .i64 y.a, .int .i64 y.b, .int .i64 y.c, .int .i64 y.p, .int .i64 y.n] 38))
      have hw1 : w.heap.size + 1 < w1.heap.size := (HS.out.keep b1).lt
      have L1 := Lib.hid (fun g hg => World.ownsRow.lt (HO.out.all b1) g hg)
      clear b1 HO HB HS BW B1 HN
      have ⟨y0, y1, y2, y3, y4, y5, y6⟩ := HB1.out.cells
      have ⟨t0, t1, t2, t3, t4, t5⟩ := HK1.out.cells
      go_wp2_with fail
      refine (HG.out _).mono ?_
      clear y0 y1 y2 y3 y4 y5 y6 t0 t1 t2 t3 t4 t5
      generalize w1.alloc (.cells #[.int .i64 y.k, .int .i64 y.a, .int .i64 y.b, .int .i64 y.c, .int .i64 y.p, .int .i64 y.n] 38) = W1 at *
      rintro e w2 ⟨rfl, b2⟩
      have B2 := Lib.hid (B1b.out.trans (b2.mono B1b.out.size))
      have O2 := Lib.hid (O1.out.all b2)
      have HB2 := Lib.hid (HB1.out.keep b2)
      have HS2 := Lib.hid (HS1.out.keep b2)
      have HK2 := Lib.hid (HK1.out.keep b2)
      clear b2 O1 HB1 HS1 HK1 B1b
      by_cases hc : p.c = 0
      · have ec : (p.c != 0) = false := by simpa using hc
        have ⟨q0, q1, q2, q3, q4, q5, q6⟩ := HB2.out.thaw
        have ⟨y0, y1, y2, y3, y4, y5, y6⟩ := HB2.out.cells
        have hl6 : w.heap.size < w2.heap.size := HB2.out.lt
        have hk2 : w1.heap.size < w2.heap.size := HK2.out.lt
        have ⟨p0, p1, p2, p3, p4, p5, p6⟩ := (StAt.new w2 p.y).cells
        have ⟨t0, t1, t2, t3, t4, t5⟩ := HK2.out.cells
        have HN2 : Hid (∃ m : Nat, y.n = (m : Int) ∧ 1 ≤ m ∧ k + m ≤ s.size) := Lib.hid ⟨y.n.toNat, by omega, by omega, by omega⟩
        have BP := Lib.hid (below_putSt B2.out (Nat.le_refl _) p.y)
        have OP := Lib.hid (O2.out.putSt (show w.heap.size < w.heap.size + 2 by omega) p.y)
        have HSP := Lib.hid (HS2.out.other p.y (show w.heap.size + 1 ≠ w.heap.size by omega))
        have HBP := Lib.hid (HB2.out.put p.y)
        rcases hr with hr | hr
        · have HA : Hid (addR zs p.r = zs) := Lib.hid (addR_none hr)
          have vr : p.r < 0 := by omega
          obtain ⟨m, hm, m1, m2⟩ := HN2.out
          have HM := Lib.hid hm
          have e5 : (k : Int) + y.n = ((k + m : Nat) : Int) := by omega
          clear hm
          go_wp2
          go_roundw
          case rel => exact ⟨k + m, f, p.y, zs, m2, by simp, Lib.hid (by have := HF.out; omega), by omega, Lib.hid (by rw [HR.out, HU.out, if_pos hc, HA.out, HM.out]; simp), HX2, Lib.hid (OP.out.alloc _), Lib.hid (HBP.out.alloc _), Lib.hid (HSP.out.alloc _), Lib.hid (BP.out.alloc BP.out.size _)⟩
          case measure => simp [intOf]; omega
        · have HA : Hid (addR zs p.r = zs ++ [p.r]) := Lib.hid (addR_some hr)
          have O3 := Lib.hid ((OP.out.alloc (.cells #[.int .i64 p.y.g0, .int .i64 p.y.g1, .int .i64 p.y.g2, .int .i64 p.y.g3, .int .i64 p.y.l, .int .i64 p.y.s, .int .i64 p.y.d] 24)).alloc (.cells #[.int .i64 p.r] 3))
          have HNW := Lib.hid (World.news_of_block (show (((putSt w2 w.heap.size p.y).alloc (.cells #[.int .i64 p.y.g0, .int .i64 p.y.g1, .int .i64 p.y.g2, .int .i64 p.y.g3, .int .i64 p.y.l, .int .i64 p.y.s, .int .i64 p.y.d] 24)).alloc (.cells #[.int .i64 p.r] 3)).heap[w2.heap.size + 1]? = some (.cells ([p.r].map (Value.int .i64)).toArray 3) from by
            have := heap_alloc2_new (putSt w2 w.heap.size p.y) (.cells #[.int .i64 p.y.g0, .int .i64 p.y.g1, .int .i64 p.y.g2, .int .i64 p.y.g3, .int .i64 p.y.l, .int .i64 p.y.s, .int .i64 p.y.d] 24) (.cells #[.int .i64 p.r] 3)
            rw [size_putSt] at this
            exact this))
          have hB3 : w.heap.size + 2 ≤ (((putSt w2 w.heap.size p.y).alloc (.cells #[.int .i64 p.y.g0, .int .i64 p.y.g1, .int .i64 p.y.g2, .int .i64 p.y.g3, .int .i64 p.y.l, .int .i64 p.y.s, .int .i64 p.y.d] 24)).alloc (.cells #[.int .i64 p.r] 3)).heap.size := by
            simp only [World.size_alloc, size_putSt]; omega
          go_wp2_with (at_builtin; refine app_i64 _ rfl _ _ rfl (w.heap.size + 2) _ zs rfl O3.out ⟨w2.heap.size + 1, 0, none⟩ 1 1 [p.r] rfl rfl (by decide) HNW.out (by omega) hB3 ?_)
          intro g cap2 w4 o4 g4 lt4
          have hx4 : TokAt w4 w1.heap.size y := (g4.block _ (by simp; omega) (fun h => by have := (L1.out _ h.symm).2; omega)).trans (((HK2.out.other p.y (by omega)).keep (below_one _ (.cells #[.int .i64 p.y.g0, .int .i64 p.y.g1, .int .i64 p.y.g2, .int .i64 p.y.g3, .int .i64 p.y.l, .int .i64 p.y.s, .int .i64 p.y.d] 24))).keep (below_one _ (.cells #[.int .i64 p.r] 3)))
          have HB4 := Lib.hid ((g4.block w.heap.size (by simp; omega) (fun h => by have := (L1.out _ h.symm).1; omega)).trans ((HBP.out.alloc (.cells #[.int .i64 p.y.g0, .int .i64 p.y.g1, .int .i64 p.y.g2, .int .i64 p.y.g3, .int .i64 p.y.l, .int .i64 p.y.s, .int .i64 p.y.d] 24)).alloc (.cells #[.int .i64 p.r] 3)))
          have HS4 := Lib.hid ((g4.block (w.heap.size + 1) (by simp; omega) (fun h => by have := (L1.out _ h.symm).1; omega)).trans ((HSP.out.alloc (.cells #[.int .i64 p.y.g0, .int .i64 p.y.g1, .int .i64 p.y.g2, .int .i64 p.y.g3, .int .i64 p.y.l, .int .i64 p.y.s, .int .i64 p.y.d] 24)).alloc (.cells #[.int .i64 p.r] 3)))
          have B3 := BP.out.alloc BP.out.size (.cells #[.int .i64 p.y.g0, .int .i64 p.y.g1, .int .i64 p.y.g2, .int .i64 p.y.g3, .int .i64 p.y.l, .int .i64 p.y.s, .int .i64 p.y.d] 24)
          have B4 := Lib.hid ((B3.alloc B3.size (.cells #[.int .i64 p.r] 3)).grown g4 (by simp only [World.size_alloc, size_putSt]; omega) (fun j hj => by have := (L1.out j hj).1; omega))
          have O4 := Lib.hid o4
          clear o4 g4 B3
          clear y0 y1 y2 y3 y4 y5 y6 q0 q1 q2 q3 q4 q5 q6 p0 p1 p2 p3 p4 p5 p6 t0 t1 t2 t3 t4 t5
          have ⟨_, _, _, _, _, t5⟩ := hx4.cells
          clear hx4
          obtain ⟨m, hm, m1, m2⟩ := HN2.out
          have HM := Lib.hid hm
          have e5 : (k : Int) + y.n = ((k + m : Nat) : Int) := by omega
          clear hm
          go_wp2
          go_roundw
          case rel => exact ⟨k + m, f, p.y, zs ++ [p.r], m2, by simp, Lib.hid (by have := HF.out; omega), by simp; omega, Lib.hid (by rw [HR.out, HU.out, if_pos hc, HA.out, HM.out]; simp), HX2, O4, HB4, HS4, B4⟩
          case measure => simp [intOf]; omega
      · have ec : (p.c != 0) = true := by simpa using hc
        have HE : Hid (runT s s.size 0 x [] = ⟨xs, zs, k, p.c⟩) := Lib.hid (by rw [HR.out, HU.out, if_neg hc])
        have ⟨y0, y1, y2, y3, y4, y5, y6⟩ := (HB2.out.alloc (.cells #[.int .i64 p.y.g0, .int .i64 p.y.g1, .int .i64 p.y.g2, .int .i64 p.y.g3, .int .i64 p.y.l, .int .i64 p.y.s, .int .i64 p.y.d] 24)).cells
        have BB := Lib.hid (below_putSt B2.out (show w.heap.size ≤ w.heap.size + 1 by omega) xs)
        have ⟨r0, r1, r2, r3, r4, r5, r6⟩ := HS2.out.cells
        have ⟨z0, z1, z2, z3, z4, z5, z6⟩ := HS2.out.thaw
        simp only [zeroSt] at r0 r1 r2 r3 r4 r5 r6
        have hl : w.heap.size + 1 < w2.heap.size := HS2.out.lt
        have OE := Lib.hid (((O2.out.putSt (show w.heap.size + 1 < w.heap.size + 2 by omega) xs).alloc (.cells #[.int .i64 p.y.g0, .int .i64 p.y.g1, .int .i64 p.y.g2, .int .i64 p.y.g3, .int .i64 p.y.l, .int .i64 p.y.s, .int .i64 p.y.d] 24)).low (show w.heap.size ≤ w.heap.size + 2 by omega))
        go_wp2
        exact st_ret4 (y := xs) (r := .slice a0 zs.length c0) (m := .int .i64 k) (c := .int .i64 p.c) rfl rfl rfl rfl rfl ((HS2.out.put xs).alloc _) Tryd.underlying24 rfl (by kernel_rfl) rfl ⟨.slice a0 zs.length c0, by rw [HE.out], by rw [HE.out]; exact OE.out, BB.out.alloc BB.out.size _⟩
    · have v2 : ¬ (k : Int) < (s.size : Int) := by omega
      have HE : Hid (runT s s.size 0 x [] = ⟨xs, zs, s.size, 0⟩) := Lib.hid (by
        rw [HR.out]
        cases f with
        | zero => rfl
        | succ f => rw [runT, if_neg hlt])
      have ⟨y0, y1, y2, y3, y4, y5, y6⟩ := HB.out.cells
      have BB := Lib.hid (below_putSt BW.out (show w.heap.size ≤ w.heap.size + 1 by omega) xs)
      have ⟨r0, r1, r2, r3, r4, r5, r6⟩ := HS.out.cells
      have ⟨z0, z1, z2, z3, z4, z5, z6⟩ := HS.out.thaw
      simp only [zeroSt] at r0 r1 r2 r3 r4 r5 r6
      have hl : w.heap.size + 1 < wr.heap.size := HS.out.lt
      have OE := Lib.hid ((HO.out.putSt (show w.heap.size + 1 < w.heap.size + 2 by omega) xs).low (show w.heap.size ≤ w.heap.size + 2 by omega))
      go_wp2
      exact st_ret4 (y := xs) (r := .slice a0 zs.length c0) (m := .int .i64 s.size) (c := .int .i64 0) rfl rfl rfl rfl rfl (HS.out.put xs) Tryd.underlying24 rfl (by kernel_rfl) rfl ⟨.slice a0 zs.length c0, by rw [HE.out], by rw [HE.out]; exact OE.out, BB.out⟩

set_option maxHeartbeats 1000000 in
set_option maxRecDepth 100000 in
theorem spec_RunState (x : St) (s : ByteArray) (w : World) (hs : s.size ≤ 9223372036854775807) : Calls Tryd.prog 14 #[stV x, .string s] w (RunDone (rsR x s) w) := by
  have HB0 : Hid (StAt ((w.alloc (.cells #[.int .i64 x.g0, .int .i64 x.g1, .int .i64 x.g2, .int .i64 x.g3, .int .i64 x.l, .int .i64 x.s, .int .i64 x.d] 24)).alloc (.cells #[.int .i64 0, .int .i64 0, .int .i64 0, .int .i64 0, .int .i64 0, .int .i64 0, .int .i64 0] 24)) w.heap.size x) := Lib.hid (heap_alloc2_old _ _ _)
  have HS0 : Hid (StAt ((w.alloc (.cells #[.int .i64 x.g0, .int .i64 x.g1, .int .i64 x.g2, .int .i64 x.g3, .int .i64 x.l, .int .i64 x.s, .int .i64 x.d] 24)).alloc (.cells #[.int .i64 0, .int .i64 0, .int .i64 0, .int .i64 0, .int .i64 0, .int .i64 0, .int .i64 0] 24)) (w.heap.size + 1) zeroSt) := Lib.hid (heap_alloc2_new _ _ _)
  have B0 := Lib.hid (below_two w (.cells #[.int .i64 x.g0, .int .i64 x.g1, .int .i64 x.g2, .int .i64 x.g3, .int .i64 x.l, .int .i64 x.s, .int .i64 x.d] 24) (.cells #[.int .i64 0, .int .i64 0, .int .i64 0, .int .i64 0, .int .i64 0, .int .i64 0, .int .i64 0] 24))
  have HO := Lib.hid (fun w => spec_l04OK x w)
  unfold stV at HO ⊢
  by_cases h1 : 65536 < s.size
  · have HE : Hid (rsR x s = ⟨zeroSt, [], 0, 2⟩) := Lib.hid (by rw [rsR, if_pos h1])
    have h1' : (65536 : Int) < (s.size : Int) := by omega
    have O0 : Hid (Own .i64 3 (((w.alloc (.cells #[.int .i64 x.g0, .int .i64 x.g1, .int .i64 x.g2, .int .i64 x.g3, .int .i64 x.l, .int .i64 x.s, .int .i64 x.d] 24)).alloc (.cells #[.int .i64 0, .int .i64 0, .int .i64 0, .int .i64 0, .int .i64 0, .int .i64 0, .int .i64 0] 24)).alloc (.cells #[] 3)) w.heap.size (.slice (some ⟨w.heap.size + 1 + 1, 0, none⟩) 0 0) []) := Lib.hid (by
      have h := Own.lit .i64 3 ((w.alloc (.cells #[.int .i64 x.g0, .int .i64 x.g1, .int .i64 x.g2, .int .i64 x.g3, .int .i64 x.l, .int .i64 x.s, .int .i64 x.d] 24)).alloc (.cells #[.int .i64 0, .int .i64 0, .int .i64 0, .int .i64 0, .int .i64 0, .int .i64 0, .int .i64 0] 24)) w.heap.size [] B0.out.size (by simp)
      rw [show ((w.alloc (.cells #[.int .i64 x.g0, .int .i64 x.g1, .int .i64 x.g2, .int .i64 x.g3, .int .i64 x.l, .int .i64 x.s, .int .i64 x.d] 24)).alloc (.cells #[.int .i64 0, .int .i64 0, .int .i64 0, .int .i64 0, .int .i64 0, .int .i64 0, .int .i64 0] 24)).heap.size = w.heap.size + 1 + 1 by simp] at h
      exact h)
    go_enter Tryd.func14, Tryd.ntmps14
    go_wp2
    exact st_ret4 (y := zeroSt) (r := .slice (some ⟨w.heap.size + 1 + 1, 0, none⟩) 0 0) (m := .int .i64 0) (c := .int .i64 2) rfl rfl rfl rfl rfl (HS0.out.alloc _) Tryd.underlying24 rfl (by kernel_rfl) rfl ⟨.slice (some ⟨w.heap.size + 1 + 1, 0, none⟩) 0 0, by rw [HE.out], by rw [HE.out]; exact O0.out, B0.out.alloc B0.out.size _⟩
  have h1' : (s.size : Int) ≤ 65536 := by omega
  cases ho : stOKB x
  · have HE : Hid (rsR x s = ⟨zeroSt, [], 0, 1⟩) := Lib.hid (by rw [rsR, if_neg h1, if_neg (by rw [ho]; decide)])
    rw [ho] at HO
    go_enter Tryd.func14, Tryd.ntmps14
    go_wp2_with fail
    refine (HO.out _).mono ?_
    generalize (w.alloc (.cells #[.int .i64 x.g0, .int .i64 x.g1, .int .i64 x.g2, .int .i64 x.g3, .int .i64 x.l, .int .i64 x.s, .int .i64 x.d] 24)).alloc (.cells #[.int .i64 0, .int .i64 0, .int .i64 0, .int .i64 0, .int .i64 0, .int .i64 0, .int .i64 0] 24) = W0 at *
    rintro e w1 ⟨rfl, b1⟩
    have B1 := Lib.hid (B0.out.trans (b1.mono B0.out.size))
    have HS1 := Lib.hid (HS0.out.keep b1)
    have ⟨r0, r1, r2, r3, r4, r5, r6⟩ := HS1.out.cells
    have ⟨z0, z1, z2, z3, z4, z5, z6⟩ := HS1.out.thaw
    simp only [zeroSt] at r0 r1 r2 r3 r4 r5 r6
    have hl : w.heap.size + 1 < w1.heap.size := HS1.out.lt
    clear b1
    have BB := Lib.hid (below_putSt B1.out (show w.heap.size ≤ w.heap.size + 1 by omega) zeroSt)
    have O0 : Hid (Own .i64 3 ((putSt w1 (w.heap.size + 1) zeroSt).alloc (.cells #[] 3)) w.heap.size (.slice (some ⟨w1.heap.size, 0, none⟩) 0 0) []) := Lib.hid (by
      have h := Own.lit .i64 3 (putSt w1 (w.heap.size + 1) zeroSt) w.heap.size [] BB.out.size (by simp)
      rw [size_putSt] at h
      exact h)
    go_wp2
    exact st_ret4 (y := zeroSt) (r := .slice (some ⟨w1.heap.size, 0, none⟩) 0 0) (m := .int .i64 0) (c := .int .i64 1) rfl rfl rfl rfl rfl ((HS1.out.put zeroSt).alloc _) Tryd.underlying24 rfl (by kernel_rfl) rfl ⟨.slice (some ⟨w1.heap.size, 0, none⟩) 0 0, by rw [HE.out], by rw [HE.out]; exact O0.out, BB.out.alloc BB.out.size _⟩
  rw [ho] at HO
  have HR := Lib.hid (fun w => spec_l04Run x s w ho (by omega))
  have HE : Hid (rsR x s = runT s s.size 0 x []) := Lib.hid (by rw [rsR, if_neg h1, if_pos ho])
  rw [HE.out]
  unfold RunDone stV at HR
  generalize runT s s.size 0 x [] = q at *
  clear ho HE
  go_enter Tryd.func14, Tryd.ntmps14
  go_wp2_with fail
  refine (HO.out _).mono ?_
  generalize (w.alloc (.cells #[.int .i64 x.g0, .int .i64 x.g1, .int .i64 x.g2, .int .i64 x.g3, .int .i64 x.l, .int .i64 x.s, .int .i64 x.d] 24)).alloc (.cells #[.int .i64 0, .int .i64 0, .int .i64 0, .int .i64 0, .int .i64 0, .int .i64 0, .int .i64 0] 24) = W0 at *
  rintro e w1 ⟨rfl, b1⟩
  have B1 := Lib.hid (B0.out.trans (b1.mono B0.out.size))
  have HB1 := Lib.hid (HB0.out.keep b1)
  have HS1 := Lib.hid (HS0.out.keep b1)
  clear b1
  have ⟨y0, y1, y2, y3, y4, y5, y6⟩ := HB1.out.cells
  go_wp2_with fail
  refine (HR.out _).mono ?_
  clear y0 y1 y2 y3 y4 y5 y6
  rintro e w2 ⟨v, rfl, o2, b2⟩
  have B2 := Lib.hid (B1.out.trans (b2.mono B1.out.size))
  have HS2 := Lib.hid (HS1.out.keep b2)
  have ⟨r0, r1, r2, r3, r4, r5, r6⟩ := HS2.out.cells
  have ⟨z0, z1, z2, z3, z4, z5, z6⟩ := HS2.out.thaw
  simp only [zeroSt] at r0 r1 r2 r3 r4 r5 r6
  have hl : w.heap.size + 1 < w2.heap.size := HS2.out.lt
  have OE := Lib.hid ((o2.putSt (show w.heap.size + 1 < w1.heap.size from HS1.out.lt) q.y).low B1.out.size)
  have BB := Lib.hid (below_putSt B2.out (show w.heap.size ≤ w.heap.size + 1 by omega) q.y)
  clear o2 b2
  go_wp2
  exact st_ret4 (y := q.y) (r := v) (m := .int .i64 q.p) (c := .int .i64 q.c) rfl rfl rfl rfl rfl (HS2.out.put q.y) Tryd.underlying24 rfl (by kernel_rfl) rfl ⟨v, rfl, OE.out, BB.out⟩

end Go.Proofs.YtanceljhdccepaaDoor

namespace Go.Proofs
open Go.Shelf
def Tryd.layI_ren : Go.Shelf.Ren := ⟨fun | 137 => 104 | 217 => 106 | 266 => 107 | n => n, fun | 3 => 3 | 5 => 5 | 9 => 9 | n => n, fun | n => n⟩
theorem Tryd.layI137 : Lays.n137 Tryd.prog Tryd.layI_ren := {
  mixed := by kernel_rfl
  f137 := Tryd.func104.trans (congrArg some (by kernel_rfl))
  f217 := Tryd.func106.trans (congrArg some (by kernel_rfl))
  f266 := Tryd.func107.trans (congrArg some (by kernel_rfl))
  t3 := Tryd.underlying3
  a3 := Tryd.isAgg3
  z3 := Tryd.sizeOf3
  v3 := Tryd.zeroValue3
  t5 := Tryd.underlying5
  a5 := Tryd.isAgg5
  z5 := Tryd.sizeOf5
  v5 := Tryd.zeroValue5
  t9 := Tryd.underlying9
  a9 := Tryd.isAgg9
  z9 := Tryd.sizeOf9
  v9 := Tryd.zeroValue9 }
end Go.Proofs

namespace Go.Proofs.YtanceljhdccepaaDoor
open Go.RowKit

def idx94 (b : Int) : Int := if 40 ≤ b ∧ b ≤ 43 then b - 40 else -1
def idx96 (b : Int) : Int := if 45 ≤ b ∧ b ≤ 47 then b - 45 else -1
theorem idx94_all : ∀ n : Fin 256, Lib.indexByte (⟨#[40, 41, 42, 43]⟩ : ByteArray).data.toList ((n.val : Int).toNat.toUInt8) = idx94 (n.val : Int) := by decide +kernel
theorem idx96_all : ∀ n : Fin 256, Lib.indexByte (⟨#[45, 46, 47]⟩ : ByteArray).data.toList ((n.val : Int).toNat.toUInt8) = idx96 (n.val : Int) := by decide +kernel
theorem str_idx94 (c : Int) (w : World) (h0 : 0 ≤ c) (h1 : c < 256) : Calls Tryd.prog 104 #[.string ⟨#[40, 41, 42, 43]⟩, .int .u8 c] w fun e w' => e = .returned (.int .i64 (idx94 c)) ∧ w = w' := by
  refine (Any.strings_IndexByte Tryd.layI137 ⟨#[40, 41, 42, 43]⟩ c w).mono ?_
  rintro e w' ⟨rfl, rfl⟩
  have := idx94_all ⟨c.toNat, by omega⟩
  simp only at this
  have hc : ((c.toNat : Nat) : Int) = c := by omega
  rw [hc] at this
  exact ⟨by rw [this], rfl⟩
theorem str_idx96 (c : Int) (w : World) (h0 : 0 ≤ c) (h1 : c < 256) : Calls Tryd.prog 104 #[.string ⟨#[45, 46, 47]⟩, .int .u8 c] w fun e w' => e = .returned (.int .i64 (idx96 c)) ∧ w = w' := by
  refine (Any.strings_IndexByte Tryd.layI137 ⟨#[45, 46, 47]⟩ c w).mono ?_
  rintro e w' ⟨rfl, rfl⟩
  have := idx96_all ⟨c.toNat, by omega⟩
  simp only at this
  have hc : ((c.toNat : Nat) : Int) = c := by omega
  rw [hc] at this
  exact ⟨by rw [this], rfl⟩

theorem placeOf_none (s : ByteArray) : ∀ (l : List ByteArray) (k : Int), (∀ t ∈ l, ¬ t = s) → placeOf s l k = -1
  | [], _, _ => rfl
  | t :: r, k, h => by
    rw [placeOf, if_neg (h t (by simp))]
    exact placeOf_none s r (k + 1) (fun u hu => h u (by simp [hu]))
theorem one_all : ∀ n : Fin 256, midNo ⟨#[n.val.toUInt8]⟩ = if 0 ≤ idx94 (n.val : Int) then idx94 (n.val : Int) else if 0 ≤ idx96 (n.val : Int) then idx96 (n.val : Int) + 4 else if (n.val : Int) = 36 then 7 else -1 := by decide +kernel
theorem two_all : ∀ n : Fin 256, midNo ⟨#[36, n.val.toUInt8]⟩ = if 0 ≤ idx94 (n.val : Int) then idx94 (n.val : Int) + 8 else -1 := by decide +kernel

theorem mid_long (s : ByteArray) (h : 2 < s.size) : midNo s = -1 := by
  refine placeOf_none s mids 0 (fun t ht e => ?_)
  have h2 : ∀ t ∈ mids, t.size ≤ 2 := by decide
  have := h2 t ht
  rw [e] at this
  omega
theorem mid_one (s : ByteArray) (h : s.size = 1) : s = ⟨#[s[0].toNat.toUInt8]⟩ := by
  apply ByteArray.ext
  apply Array.ext
  · exact h
  · intro i h1 h2
    have : i = 0 := by simp at h2; omega
    subst this
    simp
    rfl
theorem mid_two (s : ByteArray) (h : s.size = 2) : s = ⟨#[s[0].toNat.toUInt8, s[1].toNat.toUInt8]⟩ := by
  apply ByteArray.ext
  apply Array.ext
  · exact h
  · intro i h1 h2
    have : i = 0 ∨ i = 1 := by simp at h2; omega
    rcases this with rfl | rfl
    · simp
      rfl
    · simp
      rfl
theorem midNo_one (s : ByteArray) (h : s.size = 1) : midNo s = if (0 : Int) ≤ idx94 (s[0].toNat : Int) then idx94 (s[0].toNat : Int) else if (0 : Int) ≤ idx96 (s[0].toNat : Int) then idx96 (s[0].toNat : Int) + 4 else if (s[0].toNat : Int) = 36 then 7 else -1 := by
  have := one_all ⟨s[0].toNat, s[0].toNat_lt⟩
  simp only at this
  rw [← mid_one s h] at this
  exact this
theorem midNo_two (s : ByteArray) (h : s.size = 2) (h36 : (s[0].toNat : Int) = 36) : midNo s = if (0 : Int) ≤ idx94 (s[1].toNat : Int) then idx94 (s[1].toNat : Int) + 8 else -1 := by
  have := two_all ⟨s[1].toNat, s[1].toNat_lt⟩
  simp only at this
  have h0 : s[0].toNat.toUInt8 = 36 := by
    have : s[0].toNat = 36 := by omega
    rw [this]; rfl
  rw [← h0, ← mid_two s h] at this
  exact this
theorem midNo_two' (s : ByteArray) (h : s.size = 2) (h36 : ¬ (s[0].toNat : Int) = 36) : midNo s = -1 := by
  refine placeOf_none s mids 0 (fun t ht e => ?_)
  have h2 : ∀ t ∈ mids, t.size = 2 → byteAt t 0 = 36 := by decide
  have := h2 t ht (by rw [e]; exact h)
  rw [e, byteAt_eq s 0 (by omega)] at this
  exact h36 this
theorem is36 (s : ByteArray) (h : s.size = 1) : s = ⟨#[36]⟩ ↔ (s[0].toNat : Int) = 36 := by
  constructor
  · intro e; subst e; rfl
  · intro e
    rw [mid_one s h]
    have : s[0].toNat = 36 := by omega
    rw [this]; rfl

def desK (s : ByteArray) (f : Int) : Int := if s = ⟨#[36]⟩ then (if f ≤ 66 then 3 else 0) else midK s
def desG (s : ByteArray) : Int := if s = ⟨#[36]⟩ ∨ midNo s < 0 then 0 else midG s
def desV (s : ByteArray) (f : Int) : Value := .tuple #[.int .i64 (desG s), .int .i64 (desK s f)]
theorem desV_of {s : ByteArray} {f g k : Int} (hg : desG s = g) (hk : desK s f = k) : desV s f = .tuple #[.int .i64 g, .int .i64 k] := by rw [desV, hg, hk]

/-- A whole escape sequence with intermediates, told by them. -/
theorem plainTok_des (s : ByteArray) (f p n : Int) (hm : ¬ s = ⟨#[]⟩) : plainTok s f p n = if desK s f = 0 ∨ f < 64 then ⟨9, 0, 0, 0, p, n⟩ else ⟨7, desG s, desK s f, f, p, n⟩ := by
  have hr := midNo_range s
  unfold plainTok desK desG
  rw [if_neg hm]
  by_cases h36 : s = ⟨#[36]⟩
  · subst h36
    have e1 : midG ⟨#[36]⟩ = 0 := by decide
    have e2 : midK ⟨#[36]⟩ = 3 := by decide
    simp only [e1, e2, true_and, if_true, true_or]
    by_cases hf : f ≤ 66
    · simp only [hf, if_true]
      by_cases h64 : f < 64
      · simp [h64]
      · have h66 : ¬ 66 < f := by omega
        simp [h64, h66]
    · have h66 : 66 < f := by omega
      simp [hf, h66]
  · simp only [h36, if_false, false_and, false_or, or_false]
    rcases hr with h | ⟨h1, h2⟩
    · have e1 : midG s < 0 := by simp [midG, h]
      have e2 : midK s = 0 := by simp [midK, h]
      simp [e1, e2]
    · have e1 : ¬ midG s < 0 := by unfold midG; repeat' split
                                   all_goals omega
      have e2 : ¬ midK s = 0 := by unfold midK; repeat' split
                                   all_goals omega
      have e3 : ¬ midNo s < 0 := by omega
      simp [e1, e2, e3]

theorem idx94_le (b : Int) : -1 ≤ idx94 b ∧ idx94 b ≤ 3 := by unfold idx94; split <;> omega
theorem idx96_le (b : Int) : -1 ≤ idx96 b ∧ idx96 b ≤ 2 := by unfold idx96; split <;> omega
theorem des_of {s : ByteArray} {f n : Int} (h36 : ¬ s = ⟨#[36]⟩) (hn : midNo s = n) : desG s = (if n < 0 then 0 else if n < 4 then n else if n < 7 then n - 3 else if n = 7 then 0 else n - 8) ∧ desK s f = (if n < 0 then 0 else if n < 4 then 1 else if n < 7 then 2 else 3) := by
  subst hn
  refine ⟨?_, ?_⟩
  · unfold desG midG
    by_cases h : midNo s < 0
    · simp [h36, h]
    · simp [h36, h]
  · unfold desK midK
    simp [h36]

theorem des_94 {s : ByteArray} {f x : Int} (h36 : ¬ s = ⟨#[36]⟩) (hn : midNo s = x) (h0 : 0 ≤ x) (h1 : x ≤ 3) : desV s f = .tuple #[.int .i64 x, .int .i64 1] := by
  have ⟨a, b⟩ := des_of (f := f) h36 hn
  rw [if_neg (by omega), if_pos (by omega)] at a b
  exact desV_of a b
theorem des_96 {s : ByteArray} {f y : Int} (h36 : ¬ s = ⟨#[36]⟩) (hn : midNo s = y + 4) (h0 : 0 ≤ y) (h1 : y ≤ 2) : desV s f = .tuple #[.int .i64 (y + 1), .int .i64 2] := by
  have ⟨a, b⟩ := des_of (f := f) h36 hn
  rw [if_neg (by omega), if_neg (by omega), if_pos (by omega)] at a b
  exact desV_of (by omega) b
theorem des_pair {s : ByteArray} {f x : Int} (h36 : ¬ s = ⟨#[36]⟩) (hn : midNo s = x + 8) (h0 : 0 ≤ x) : desV s f = .tuple #[.int .i64 x, .int .i64 3] := by
  have ⟨a, b⟩ := des_of (f := f) h36 hn
  rw [if_neg (by omega), if_neg (by omega), if_neg (by omega)] at a b
  rw [if_neg (by omega)] at a
  exact desV_of (by omega) b
theorem des_none {s : ByteArray} {f : Int} (h36 : ¬ s = ⟨#[36]⟩) (hn : midNo s = -1) : desV s f = .tuple #[.int .i64 0, .int .i64 0] := by
  have ⟨a, b⟩ := des_of (f := f) h36 hn
  exact desV_of a b

set_option maxHeartbeats 2000000 in
theorem des_one (s : ByteArray) (f : Int) (w : World) (h1 : s.size = 1) : Calls Tryd.prog 101 #[.string s, .int .i64 f] w fun e w' => e = .returned (desV s f) ∧ w = w' := by
  have hi := is36 s h1
  have hn := midNo_one s h1
  have hb := byteAt_le s 0
  rw [byteAt_eq s 0 (by omega)] at hb
  have hz : (s.size : Int) = 1 := by omega
  by_cases h36 : s = ⟨#[36]⟩
  · have hb36 := hi.1 h36
    have t1 : (s.toList == [36]) = true := by rw [h36, list36]; rfl
    by_cases hf : f ≤ 66
    · have HE := Lib.hid (desV_of (s := s) (f := f) (g := 0) (k := 3) (by simp [desG, h36]) (by simp [desK, h36, hf]))
      clear hi hn hb hb36 h36
      go_enter Tryd.func101, Tryd.ntmps101
      go_wp2
      go_ret2
      exact ⟨ret_val HE.out.symm, rfl⟩
    · have HE := Lib.hid (desV_of (s := s) (f := f) (g := 0) (k := 0) (by simp [desG, h36]) (by simp [desK, h36, hf]))
      have i1 : idx94 36 = -1 := by decide
      have i2 : idx96 36 = -1 := by decide
      clear hi hn h36
      go_enter Tryd.func101, Tryd.ntmps101
      go_wp2_with fail
      refine (str_idx94 36 w (by omega) (by omega)).mono ?_
      rintro e w1 ⟨rfl, rfl⟩
      rw [i1]
      go_wp2_with fail
      refine (str_idx96 36 w (by omega) (by omega)).mono ?_
      rintro e w1 ⟨rfl, rfl⟩
      rw [i2]
      go_wp2
      go_ret2
      exact ⟨ret_val HE.out.symm, rfl⟩
  · have t1 : (s.toList == [36]) = false := by have := str_eqf h36; rwa [list36] at this
    have hb36 : ¬ (s[0].toNat : Int) = 36 := fun h => h36 (hi.2 h)
    clear hi
    generalize hbb : (s[0].toNat : Int) = b at *
    have hx := idx94_le b
    have hy := idx96_le b
    have HX := Lib.hid (fun w => str_idx94 b w (by omega) (by omega))
    have HY := Lib.hid (fun w => str_idx96 b w (by omega) (by omega))
    generalize idx94 b = x at *
    generalize idx96 b = y at *
    by_cases x0 : 0 ≤ x
    · have HE := Lib.hid (des_94 (f := f) h36 (by rw [hn, if_pos x0]) x0 hx.2)
      clear hn h36 hb36
      go_enter Tryd.func101, Tryd.ntmps101
      go_wp2_with fail
      refine (HX.out w).mono ?_
      rintro e w1 ⟨rfl, rfl⟩
      go_wp2
      go_ret2
      exact ⟨ret_val HE.out.symm, rfl⟩
    · rw [if_neg x0] at hn
      by_cases y0 : 0 ≤ y
      · rw [if_pos y0] at hn
        have HE := Lib.hid (des_96 (f := f) h36 hn y0 hy.2)
        clear hn h36 hb36
        go_enter Tryd.func101, Tryd.ntmps101
        go_wp2_with fail
        refine (HX.out w).mono ?_
        rintro e w1 ⟨rfl, rfl⟩
        go_wp2_with fail
        refine (HY.out w).mono ?_
        rintro e w1 ⟨rfl, rfl⟩
        go_wp2
        go_ret2
        exact ⟨ret_val HE.out.symm, rfl⟩
      · rw [if_neg y0, if_neg hb36] at hn
        have HE := Lib.hid (des_none (f := f) h36 hn)
        clear hn h36 hb36
        go_enter Tryd.func101, Tryd.ntmps101
        go_wp2_with fail
        refine (HX.out w).mono ?_
        rintro e w1 ⟨rfl, rfl⟩
        go_wp2_with fail
        refine (HY.out w).mono ?_
        rintro e w1 ⟨rfl, rfl⟩
        go_wp2
        go_ret2
        exact ⟨ret_val HE.out.symm, rfl⟩

set_option maxHeartbeats 2000000 in
theorem des_two (s : ByteArray) (f : Int) (w : World) (h1 : s.size = 2) : Calls Tryd.prog 101 #[.string s, .int .i64 f] w fun e w' => e = .returned (desV s f) ∧ w = w' := by
  have hz : (s.size : Int) = 2 := by omega
  have h36 : ¬ s = ⟨#[36]⟩ := fun h => by subst h; simp [ByteArray.size] at h1
  have t1 : (s.toList == [36]) = false := by have := str_eqf h36; rwa [list36] at this
  have hb := byteAt_le s 1
  rw [byteAt_eq s 1 (by omega)] at hb
  have hb0 := byteAt_le s 0
  rw [byteAt_eq s 0 (by omega)] at hb0
  by_cases b36 : (s[0].toNat : Int) = 36
  · have hn := midNo_two s h1 b36
    generalize hbb : (s[1].toNat : Int) = b at *
    have hx := idx94_le b
    have HX := Lib.hid (fun w => str_idx94 b w (by omega) (by omega))
    have HY := Lib.hid (fun w => str_idx96 b w (by omega) (by omega))
    generalize idx94 b = x at *
    generalize idx96 b = y at *
    by_cases x0 : 0 ≤ x
    · rw [if_pos x0] at hn
      have HE := Lib.hid (des_pair (f := f) h36 hn x0)
      clear hn h36 hb0
      go_enter Tryd.func101, Tryd.ntmps101
      go_wp2_with fail
      refine (HX.out w).mono ?_
      rintro e w1 ⟨rfl, rfl⟩
      go_wp2
      go_ret2
      exact ⟨ret_val HE.out.symm, rfl⟩
    · rw [if_neg x0] at hn
      have HE := Lib.hid (des_none (f := f) h36 hn)
      clear hn h36 hb0
      go_enter Tryd.func101, Tryd.ntmps101
      go_wp2_with fail
      refine (HX.out w).mono ?_
      rintro e w1 ⟨rfl, rfl⟩
      go_wp2_with fail
      refine (HY.out w).mono ?_
      rintro e w1 ⟨rfl, rfl⟩
      by_cases y0 : 0 ≤ y
      all_goals
        go_wp2
        go_ret2
        exact ⟨ret_val HE.out.symm, rfl⟩
  · have hn := midNo_two' s h1 b36
    have HE := Lib.hid (des_none (f := f) h36 hn)
    have c36 : ((s[0].toNat : Int) == 36) = false := by simpa using b36
    clear hn h36 b36 hb
    go_enter Tryd.func101, Tryd.ntmps101
    go_wp2
    go_ret2
    exact ⟨ret_val HE.out.symm, rfl⟩

set_option maxHeartbeats 2000000 in
theorem impl_designated (s : ByteArray) (f : Int) (w : World) (hm : ¬ s = ⟨#[]⟩) (hs : s.size ≤ 1048576) : Calls Tryd.prog 101 #[.string s, .int .i64 f] w fun e w' => e = .returned (desV s f) ∧ w = w' := by
  by_cases h1 : s.size = 1
  · exact des_one s f w h1
  by_cases h2 : s.size = 2
  · exact des_two s f w h2
  have h0 : ¬ s.size = 0 := fun h => hm (ByteArray.ext (Array.eq_empty_of_size_eq_zero h))
  have h3 : 2 < s.size := by omega
  have h36 : ¬ s = ⟨#[36]⟩ := fun h => by subst h; simp [ByteArray.size] at h1
  have t1 : (s.toList == [36]) = false := by have := str_eqf h36; rwa [list36] at this
  have hn := mid_long s h3
  have HE := Lib.hid (des_none (f := f) h36 hn)
  have c1 : ((s.size : Int) == 2) = false := by simp; omega
  have c2 : ((s.size : Int) != 1) = true := by simp; omega
  clear hn h36 hm h0 h1 h2
  go_enter Tryd.func101, Tryd.ntmps101
  go_wp2
  go_ret2
  exact ⟨ret_val HE.out.symm, rfl⟩

end Go.Proofs.YtanceljhdccepaaDoor

namespace Go.Proofs.YtanceljhdccepaaDoor
open Go.RowKit

set_option maxHeartbeats 2000000 in
theorem impl_shiftToken (f : Int) (w : World) : Calls Tryd.prog 100 #[.int .i64 f] w (TokDone (plainTok ⟨#[]⟩ f 0 0) w) := by
  by_cases c1 : f = 110
  · subst c1
    go_enter Tryd.func100, Tryd.ntmps100
    go_wp2
    exact tok_ret (y := ⟨5, 2, 0, 0, 0, 0⟩) rfl rfl rfl (heap_alloc_new _ _) Tryd.underlying38 rfl (by kernel_rfl) rfl (below_one _ _)
  by_cases c2 : f = 111
  · subst c2
    clear c1
    go_enter Tryd.func100, Tryd.ntmps100
    go_wp2
    exact tok_ret (y := ⟨5, 3, 0, 0, 0, 0⟩) rfl rfl rfl (heap_alloc_new _ _) Tryd.underlying38 rfl (by kernel_rfl) rfl (below_one _ _)
  by_cases c3 : f = 78
  · subst c3
    clear c1 c2
    go_enter Tryd.func100, Tryd.ntmps100
    go_wp2
    exact tok_ret (y := ⟨6, 2, 0, 0, 0, 0⟩) rfl rfl rfl (heap_alloc_new _ _) Tryd.underlying38 rfl (by kernel_rfl) rfl (below_one _ _)
  by_cases c4 : f = 79
  · subst c4
    clear c1 c2 c3
    go_enter Tryd.func100, Tryd.ntmps100
    go_wp2
    exact tok_ret (y := ⟨6, 3, 0, 0, 0, 0⟩) rfl rfl rfl (heap_alloc_new _ _) Tryd.underlying38 rfl (by kernel_rfl) rfl (below_one _ _)
  have HE : Hid (plainTok ⟨#[]⟩ f 0 0 = ⟨9, 0, 0, 0, 0, 0⟩) := Lib.hid (by
    have a1 : ¬ (f = 78 ∨ f = 79) := by omega
    have a2 : ¬ (f = 110 ∨ f = 111) := by omega
    simp [plainTok, a1, a2])
  have e1 : (f == 110) = false := by rw [beq_eq_false_iff_ne]; exact c1
  have e2 : (f == 111) = false := by rw [beq_eq_false_iff_ne]; exact c2
  have e3 : (f == 78) = false := by rw [beq_eq_false_iff_ne]; exact c3
  have e4 : (f == 79) = false := by rw [beq_eq_false_iff_ne]; exact c4
  clear c1 c2 c3 c4
  go_enter Tryd.func100, Tryd.ntmps100
  go_wp2
  exact tok_ret HE.out rfl rfl (heap_alloc_new _ _) Tryd.underlying38 rfl (by kernel_rfl) rfl (below_one _ _)

set_option maxHeartbeats 2000000 in
set_option maxRecDepth 100000 in
theorem impl_escapeToken (s : ByteArray) (f : Int) (w : World) (hs : s.size ≤ 1048576) : Calls Tryd.prog 93 #[.string s, .int .i64 f] w (TokDone (plainTok s f 0 0) w) := by
  by_cases hm : s = ⟨#[]⟩
  · subst hm
    have hR0 := slot0 w
    have b0 := below_one w (.cells #[.int .i64 0, .int .i64 0, .int .i64 0, .int .i64 0, .int .i64 0, .int .i64 0] 38)
    go_enter Tryd.func93, Tryd.ntmps93
    go_wp2_with fail
    refine (impl_shiftToken f _).mono ?_
    rintro e w3 ⟨rfl, b3⟩
    have hR3 := Lib.hid (hR0.keep b3)
    have b03 : Below w.heap.size w w3 := b0.trans (b3.mono b0.size)
    have ⟨r0, r1, r2, r3, r4, r5⟩ := hR3.out.cells
    have ⟨z0, z1, z2, z3, z4, z5⟩ := hR3.out.thaw
    simp only [zeroTok] at r0 r1 r2 r3 r4 r5
    have hl3 : w.heap.size < w3.heap.size := hR3.out.lt
    generalize plainTok ⟨#[]⟩ f 0 0 = y at *
    clear hR0 b0 b3
    unfold tokV
    go_wp2
    exact tok_ret (y := y) rfl rfl rfl (hR3.out.put y) Tryd.underlying38 rfl (by kernel_rfl) rfl (below_put b03 (Nat.le_refl _) y)
  · have HP := Lib.hid (plainTok_des s f 0 0 hm)
    have hm3 : s.toList.isEmpty = false := by
      rw [ByteArray.toList_eq]
      cases h : s.data.toList with
      | nil => exact absurd (ByteArray.ext (Array.toList_inj.1 h)) hm
      | cons _ _ => rfl
    have HD := Lib.hid (fun w => impl_designated s f w hm hs)
    unfold desV at HD
    clear hm
    generalize desG s = g at *
    generalize desK s f = k at *
    by_cases k0 : k = 0
    · have HE : Hid (plainTok s f 0 0 = ⟨9, 0, 0, 0, 0, 0⟩) := Lib.hid (by rw [HP.out, if_pos (.inl k0)])
      subst k0
      go_enter Tryd.func93, Tryd.ntmps93
      go_wp2_with fail
      refine (HD.out _).mono ?_
      rintro e w3 ⟨rfl, rfl⟩
      go_wp2
      exact tok_ret HE.out rfl rfl (heap_alloc_new _ _) Tryd.underlying38 rfl (by kernel_rfl) rfl (below_one _ _)
    · have e0 : (k == 0) = false := by rw [beq_eq_false_iff_ne]; exact k0
      by_cases f64 : f < 64
      · have HE : Hid (plainTok s f 0 0 = ⟨9, 0, 0, 0, 0, 0⟩) := Lib.hid (by rw [HP.out, if_pos (.inr f64)])
        clear k0
        go_enter Tryd.func93, Tryd.ntmps93
        go_wp2_with fail
        refine (HD.out _).mono ?_
        rintro e w3 ⟨rfl, rfl⟩
        go_wp2
        exact tok_ret HE.out rfl rfl (heap_alloc_new _ _) Tryd.underlying38 rfl (by kernel_rfl) rfl (below_one _ _)
      · have HE : Hid (plainTok s f 0 0 = ⟨7, g, k, f, 0, 0⟩) := Lib.hid (by rw [HP.out, if_neg (by omega)])
        have f64' : 64 ≤ f := by omega
        clear k0 f64
        go_enter Tryd.func93, Tryd.ntmps93
        go_wp2_with fail
        refine (HD.out _).mono ?_
        rintro e w3 ⟨rfl, rfl⟩
        go_wp2
        exact tok_ret HE.out rfl rfl (heap_alloc_new _ _) Tryd.underlying38 rfl (by kernel_rfl) rfl (below_one _ _)

end Go.Proofs.YtanceljhdccepaaDoor

namespace Go.Proofs.YtanceljhdccepaaDoor
open Go.RowKit

theorem plainTok_at (m : ByteArray) (f p n : Int) : plainTok m f p n = ⟨(plainTok m f 0 0).k, (plainTok m f 0 0).a, (plainTok m f 0 0).b, (plainTok m f 0 0).c, p, n⟩ := by
  unfold plainTok
  repeat' split
  all_goals rfl
theorem nextTok_byte (s : ByteArray) (k : Nat) (h : ¬ byteAt s k = 27) : nextTok s k = ⟨(byteTok (byteAt s k)).k, (byteTok (byteAt s k)).a, (byteTok (byteAt s k)).b, (byteTok (byteAt s k)).c, k, 1⟩ := by
  rw [nextTok, if_neg h]
  generalize byteAt s k = b
  unfold byteTok inB
  by_cases c1 : b = 15
  · subst c1; rfl
  by_cases c2 : b = 14
  · subst c2; rfl
  by_cases c3 : b = 142
  · subst c3; rfl
  by_cases c4 : b = 143
  · subst c4; rfl
  rw [if_neg (show ¬ (b = 14 ∨ b = 15) by omega), if_neg (show ¬ (b = 142 ∨ b = 143) by omega)]
  simp only [c1, c2, c3, c4, if_false]
  by_cases c5 : b = 32
  · simp [c5]
  by_cases c6 : 33 ≤ b ∧ b ≤ 126
  · simp [c5, c6.1, c6.2]
  by_cases c7 : 160 ≤ b
  · have c8 : ¬ b ≤ 126 := by omega
    simp [c5, c7, c8]
  · have c8 : ¬ (33 ≤ b ∧ b ≤ 126) := c6
    have c9 : (decide (33 ≤ b) && decide (b ≤ 126)) = false := by
      cases h : (decide (33 ≤ b) && decide (b ≤ 126))
      · rfl
      · simp at h; exact absurd h c8
    simp [c5, c7, c8]

set_option maxHeartbeats 4000000 in
set_option maxRecDepth 100000 in
theorem impl_escapeAt (s : ByteArray) (k : Nat) (w : World) (hk : k < s.size) (hs : s.size ≤ 1048576) :
    Calls Tryd.prog 74 #[.string s, .int .i64 k] w (TokDone (escTok s k (s.size - k) (k + 1)) w) := by
  have hR := Lib.hid (slot0 w)
  have b0 := below_one w (.cells #[.int .i64 0, .int .i64 0, .int .i64 0, .int .i64 0, .int .i64 0, .int .i64 0] 38)
  have k0 : (0 : Int) ≤ (k : Int) := by omega
  have u1 : IntKind.i64.wrap ((k : Int) + 1) = (k : Int) + 1 := IntWalk.i64_in _ (by omega)
  go_enter Tryd.func74, Tryd.ntmps74
  go_wp2
  go_step3
  go_wp2
  go_step3
  go_wp2
  generalize w.alloc (.cells #[.int .i64 0, .int .i64 0, .int .i64 0, .int .i64 0, .int .i64 0, .int .i64 0] 38) = w1 at *
  go_loop [5, 6] (fun q i => ∃ j f : Nat, q = .int .i64 8 ∧ k < j ∧ j ≤ s.size ∧ j ≤ k + 4 ∧ i = .int .i64 j ∧ Hid (j + f = s.size + 1) ∧ Hid (escTok s k (s.size - k) (k + 1) = escTok s k f j)) (fun _ i => s.size - (intOf i).toNat)
  case atStart => exact ⟨k + 1, s.size - k, rfl, by omega, by omega, by omega, by simp, Lib.hid (by omega), Lib.hid rfl⟩
  case round =>
    obtain ⟨j, f, rfl, hj, hjs, hj4, rfl, HF, HR⟩ := hrel
    have hl1 : w.heap.size < w1.heap.size := hR.out.lt
    have u6 : IntKind.i64.wrap ((j : Int) - k) = (j : Int) - k := IntWalk.i64_in _ (by omega)
    have u4 : IntKind.i64.wrap ((j : Int) + 1) = (j : Int) + 1 := IntWalk.i64_in _ (by omega)
    have u5 : IntKind.i64.wrap ((j : Int) + 1 - k) = (j : Int) + 1 - k := IntWalk.i64_in _ (by omega)
    by_cases hlt : j < s.size
    · obtain ⟨f, rfl⟩ : ∃ q, f = q + 1 := ⟨f - 1, by have := HF.out; omega⟩
      have hb := byteAt_le s j
      have he := byteAt_eq s j hlt
      have HU : Hid (escTok s k (f + 1) j = if inB (byteAt s j) 32 47 = true then (if j = k + 4 then ⟨9, 0, 0, 0, k, 5⟩ else escTok s k f (j + 1))
        else if inB (byteAt s j) 48 126 = true then plainTok (s.extract (k + 1) j) (byteAt s j) k ((j : Int) + 1 - k) else ⟨9, 0, 0, 0, k, (j : Int) - k⟩) := Lib.hid (by rw [escTok, if_pos hlt])
      rw [he] at hb HU
      clear he
      have v1 : (0 : Int) ≤ (j : Int) := by omega
      have v2 : (j : Int) < (s.size : Int) := by omega
      generalize hbb : (s[j].toNat : Int) = b at *
      by_cases c1 : 48 ≤ b
      · by_cases c2 : b ≤ 126
        · have HE : Hid (escTok s k (s.size - k) (k + 1) = plainTok (s.extract (k + 1) j) b k ((j : Int) + 1 - k)) := Lib.hid (by
            rw [HR.out, HU.out, if_neg (by simp [inB]; omega), if_pos (by simp [inB]; omega)])
          go_wp2_with fail
          refine (impl_escapeToken _ b w1 ?_).mono ?_
          · simp; omega
          rintro e w3 ⟨rfl, b3⟩
          have HP := Lib.hid (plainTok_at (s.extract (k + 1) j) b k ((j : Int) + 1 - k))
          generalize plainTok (s.extract (k + 1) j) b 0 0 = y at *
          have hR3 := Lib.hid (hR.out.keep b3)
          have b03 : Below w.heap.size w w3 := b0.trans (b3.mono b0.size)
          have ⟨r0, r1, r2, r3, r4, r5⟩ := hR3.out.cells
          have ⟨z0, z1, z2, z3, z4, z5⟩ := hR3.out.thaw
          simp only [zeroTok] at r0 r1 r2 r3 r4 r5
          have hl3 : w.heap.size < w3.heap.size := hR3.out.lt
          clear b3
          unfold tokV
          go_wp2
          have hT := (hR3.out.put ⟨y.k, y.a, y.b, y.c, k, (j : Int) + 1 - k⟩)
          exact tok_ret (y := ⟨y.k, y.a, y.b, y.c, k, (j : Int) + 1 - k⟩) (HE.out.trans HP.out) rfl rfl (hT.keep (below_one _ _)) Tryd.underlying38 rfl (by kernel_rfl) rfl ((below_put b03 (Nat.le_refl _) ⟨y.k, y.a, y.b, y.c, k, (j : Int) + 1 - k⟩).alloc (below_put b03 (Nat.le_refl _) ⟨y.k, y.a, y.b, y.c, k, (j : Int) + 1 - k⟩).size _)
        · have HE : Hid (escTok s k (s.size - k) (k + 1) = ⟨9, 0, 0, 0, k, (j : Int) - k⟩) := Lib.hid (by
            rw [HR.out, HU.out, if_neg (by simp [inB]; omega), if_neg (by simp [inB]; omega)])
          have c3 : 126 < b := by omega
          have c4 : 47 < b := by omega
          have ⟨r0, r1, r2, r3, r4, r5⟩ := hR.out.cells
          have ⟨z0, z1, z2, z3, z4, z5⟩ := hR.out.thaw
          simp only [zeroTok] at r0 r1 r2 r3 r4 r5
          clear c2
          go_wp2
          exact tok_ret (y := ⟨9, 0, 0, 0, k, (j : Int) - k⟩) HE.out rfl rfl (hR.out.put ⟨9, 0, 0, 0, k, (j : Int) - k⟩) Tryd.underlying38 rfl (by kernel_rfl) rfl (below_put b0 (Nat.le_refl _) ⟨9, 0, 0, 0, k, (j : Int) - k⟩)
      · have c3 : b < 48 := by omega
        have c4 : b ≤ 47 := by omega
        by_cases c2 : 32 ≤ b
        · by_cases h4 : j = k + 4
          · have HE : Hid (escTok s k (s.size - k) (k + 1) = ⟨9, 0, 0, 0, k, (j : Int) + 1 - k⟩) := Lib.hid (by
              rw [HR.out, HU.out, if_pos (by simp [inB]; omega), if_pos h4, show (j : Int) + 1 - k = 5 by omega])
            have h4' : (3 : Int) < (j : Int) - k := by omega
            have ⟨r0, r1, r2, r3, r4, r5⟩ := hR.out.cells
            have ⟨z0, z1, z2, z3, z4, z5⟩ := hR.out.thaw
            simp only [zeroTok] at r0 r1 r2 r3 r4 r5
            clear h4 c1
            go_wp2
            exact tok_ret (y := ⟨9, 0, 0, 0, k, (j : Int) + 1 - k⟩) HE.out rfl rfl (hR.out.put ⟨9, 0, 0, 0, k, (j : Int) + 1 - k⟩) Tryd.underlying38 rfl (by kernel_rfl) rfl (below_put b0 (Nat.le_refl _) ⟨9, 0, 0, 0, k, (j : Int) + 1 - k⟩)
          · have HE : Hid (escTok s k (s.size - k) (k + 1) = escTok s k f (j + 1)) := Lib.hid (by
              rw [HR.out, HU.out, if_pos (by simp [inB]; omega), if_neg h4])
            have h4' : (j : Int) - k ≤ 3 := by omega
            clear c1
            go_wp2
            go_round
            case rel => exact ⟨j + 1, f, rfl, by omega, by omega, by omega, by go_num, Lib.hid (by have := HF.out; omega), HE⟩
            case measure => simp [intOf]; omega
        · have HE : Hid (escTok s k (s.size - k) (k + 1) = ⟨9, 0, 0, 0, k, (j : Int) - k⟩) := Lib.hid (by
            rw [HR.out, HU.out, if_neg (by simp [inB]; omega), if_neg (by simp [inB]; omega)])
          have c5 : b < 32 := by omega
          have ⟨r0, r1, r2, r3, r4, r5⟩ := hR.out.cells
          have ⟨z0, z1, z2, z3, z4, z5⟩ := hR.out.thaw
          simp only [zeroTok] at r0 r1 r2 r3 r4 r5
          clear c1 c2
          go_wp2
          exact tok_ret (y := ⟨9, 0, 0, 0, k, (j : Int) - k⟩) HE.out rfl rfl (hR.out.put ⟨9, 0, 0, 0, k, (j : Int) - k⟩) Tryd.underlying38 rfl (by kernel_rfl) rfl (below_put b0 (Nat.le_refl _) ⟨9, 0, 0, 0, k, (j : Int) - k⟩)
    · have hje : j = s.size := by omega
      have HE : Hid (escTok s k (s.size - k) (k + 1) = ⟨8, 0, 0, 0, k, (j : Int) - k⟩) := Lib.hid (by
        rw [HR.out, hje]
        cases f with
        | zero => rfl
        | succ f => rw [escTok, if_neg (by omega)])
      have v2 : ¬ (j : Int) < (s.size : Int) := by omega
      have ⟨r0, r1, r2, r3, r4, r5⟩ := hR.out.cells
      have ⟨z0, z1, z2, z3, z4, z5⟩ := hR.out.thaw
      simp only [zeroTok] at r0 r1 r2 r3 r4 r5
      clear hje
      go_wp2
      exact tok_ret (y := ⟨8, 0, 0, 0, k, (j : Int) - k⟩) HE.out rfl rfl (hR.out.put ⟨8, 0, 0, 0, k, (j : Int) - k⟩) Tryd.underlying38 rfl (by kernel_rfl) rfl (below_put b0 (Nat.le_refl _) ⟨8, 0, 0, 0, k, (j : Int) - k⟩)

set_option maxHeartbeats 2000000 in
set_option maxRecDepth 100000 in
theorem impl_tokenAt (s : ByteArray) (k : Nat) (w : World) (hk : k < s.size) (hs : s.size ≤ 1048576) : Calls Tryd.prog 45 #[.string s, .int .i64 k] w (TokDone (nextTok s k) w) := by
  have hR0 := slot0 w
  have b0 := below_one w (.cells #[.int .i64 0, .int .i64 0, .int .i64 0, .int .i64 0, .int .i64 0, .int .i64 0] 38)
  have hb := byteAt_le s k
  have he := byteAt_eq s k hk
  have k0 : (0 : Int) ≤ (k : Int) := by omega
  have k1 : (k : Int) < (s.size : Int) := by omega
  by_cases c1 : byteAt s k = 27
  · have HE : Hid (nextTok s k = escTok s k (s.size - k) (k + 1)) := Lib.hid (by rw [nextTok, if_pos c1])
    have hb2 : (s[k].toNat : Int) = 27 := by omega
    clear he c1 hb
    go_enter Tryd.func45, Tryd.ntmps45
    go_wp2_with fail
    refine (impl_escapeAt s k _ hk hs).mono ?_
    rintro e w3 ⟨rfl, b3⟩
    have hR3 := Lib.hid (hR0.keep b3)
    have b03 : Below w.heap.size w w3 := b0.trans (b3.mono b0.size)
    have ⟨r0, r1, r2, r3, r4, r5⟩ := hR3.out.cells
    have ⟨z0, z1, z2, z3, z4, z5⟩ := hR3.out.thaw
    simp only [zeroTok] at r0 r1 r2 r3 r4 r5
    have hl3 : w.heap.size < w3.heap.size := hR3.out.lt
    generalize escTok s k (s.size - k) (k + 1) = y at *
    clear hR0 b0 b3
    unfold tokV
    go_wp2
    exact tok_ret (y := y) HE.out rfl rfl (hR3.out.put y) Tryd.underlying38 rfl (by kernel_rfl) rfl (below_put b03 (Nat.le_refl _) y)
  · have HE := Lib.hid (nextTok_byte s k c1)
    have e1 : ((s[k].toNat : Int) == 27) = false := by rw [beq_eq_false_iff_ne]; omega
    rw [he] at HE hb
    clear he c1
    go_enter Tryd.func45, Tryd.ntmps45
    go_wp2_with fail
    refine (impl_byteToken (s[k].toNat : Int) _ (by omega) (by omega)).mono ?_
    rintro e w3 ⟨rfl, b3⟩
    have hR3 := Lib.hid (hR0.keep b3)
    have b03 : Below w.heap.size w w3 := b0.trans (b3.mono b0.size)
    have ⟨r0, r1, r2, r3, r4, r5⟩ := hR3.out.cells
    have ⟨z0, z1, z2, z3, z4, z5⟩ := hR3.out.thaw
    simp only [zeroTok] at r0 r1 r2 r3 r4 r5
    have hl3 : w.heap.size < w3.heap.size := hR3.out.lt
    generalize byteTok (s[k].toNat : Int) = y at *
    clear hR0 b0 b3
    unfold tokV
    go_wp2
    have hT := (hR3.out.put ⟨y.k, y.a, y.b, y.c, k, 1⟩)
    exact tok_ret (y := ⟨y.k, y.a, y.b, y.c, k, 1⟩) HE.out rfl rfl (hT.keep (below_one _ _)) Tryd.underlying38 rfl (by kernel_rfl) rfl ((below_put b03 (Nat.le_refl _) ⟨y.k, y.a, y.b, y.c, k, 1⟩).alloc (below_put b03 (Nat.le_refl _) ⟨y.k, y.a, y.b, y.c, k, 1⟩).size _)

end Go.Proofs.YtanceljhdccepaaDoor

namespace Go.Proofs.YtanceljhdccepaaDoor
open Go.RowKit Go.Sort

theorem Own.only {k : IntKind} {e : TypeId} {w w' : World} {B g : Nat} {v : Value} {zs : List Int} (h : Own k e w B v zs) (ho : Only g w w') (hg : g < B) : Own k e w' B v zs := by
  have hlt := fun j hj => World.ownsRow.lt h j hj
  refine ⟨h.1, ?_⟩
  rcases h.2 with h | ⟨j, cap, cur, a, b, c, d⟩
  · exact .inl h
  · exact .inr ⟨j, cap, cur, a, b, by rw [ho.2 j (by omega) (hlt j (by rw [a]; rfl)).2]; exact c, d⟩
theorem StAt.only {w w' : World} {g j : Nat} {x : St} (h : StAt w j x) (ho : Only g w w') (hg : j ≠ g) : StAt w' j x := (ho.2 j hg h.lt).trans h
theorem TokAt.only {w w' : World} {g j : Nat} {t : Tok} (h : TokAt w j t) (ho : Only g w w') (hg : j ≠ g) (hl : j < w.heap.size) : TokAt w' j t := (ho.2 j hg hl).trans h

set_option maxHeartbeats 4000000 in
set_option maxRecDepth 100000 in
theorem impl_RunState (x : St) (s : ByteArray) (w : World) (ht : TabM w) (hw : Wide64 x) (hs : s.size ≤ 9223372036854775807) : Calls Tryd.prog 13 #[stV x, .string s] w (RunDone (rsR x s) w) := by
  have HS0 : Hid (StAt ((w.alloc (.cells #[.int .i64 x.g0, .int .i64 x.g1, .int .i64 x.g2, .int .i64 x.g3, .int .i64 x.l, .int .i64 x.s, .int .i64 x.d] 24)).alloc (.cells #[.int .i64 0, .int .i64 0, .int .i64 0, .int .i64 0, .int .i64 0, .int .i64 0, .int .i64 0] 24)) (w.heap.size + 1) zeroSt) := Lib.hid (heap_alloc2_new _ _ _)
  have B0 := Lib.hid (below_two w (.cells #[.int .i64 x.g0, .int .i64 x.g1, .int .i64 x.g2, .int .i64 x.g3, .int .i64 x.l, .int .i64 x.s, .int .i64 x.d] 24) (.cells #[.int .i64 0, .int .i64 0, .int .i64 0, .int .i64 0, .int .i64 0, .int .i64 0, .int .i64 0] 24))
  have HF := Lib.hid (fun w => impl_machineOf x w)
  have HO := Lib.hid (fun b w h ht => impl_ok x b w h ht hw.1 hw.2)
  have HST := Lib.hid (fun y b w h => impl_state y b w h)
  have HT := Lib.hid ht
  clear ht hw
  unfold StDone stV at HF HST
  unfold stV
  by_cases h1 : 65536 < s.size
  · have HE : Hid (rsR x s = ⟨zeroSt, [], 0, 2⟩) := Lib.hid (by rw [rsR, if_pos h1])
    have h1' : (65536 : Int) < (s.size : Int) := by omega
    go_enter Tryd.func13, Tryd.ntmps13
    go_wp2
    exact st_ret4 (y := zeroSt) (r := .slice none 0 0) (m := .int .i64 0) (c := .int .i64 2) rfl rfl rfl rfl rfl HS0.out Tryd.underlying24 rfl (by kernel_rfl) rfl ⟨.slice none 0 0, by rw [HE.out], by rw [HE.out]; exact Own.nil _ _ _ _, B0.out⟩
  have h1' : (s.size : Int) ≤ 65536 := by omega
  cases ho : stOKB x
  · have HE : Hid (rsR x s = ⟨zeroSt, [], 0, 1⟩) := Lib.hid (by rw [rsR, if_neg h1, if_neg (by rw [ho]; decide)])
    rw [ho] at HO
    go_enter Tryd.func13, Tryd.ntmps13
    go_wp2_with fail
    refine (HF.out _).mono ?_
    generalize (w.alloc (.cells #[.int .i64 x.g0, .int .i64 x.g1, .int .i64 x.g2, .int .i64 x.g3, .int .i64 x.l, .int .i64 x.s, .int .i64 x.d] 24)).alloc (.cells #[.int .i64 0, .int .i64 0, .int .i64 0, .int .i64 0, .int .i64 0, .int .i64 0, .int .i64 0] 24) = W0 at *
    rintro e w1 ⟨rfl, b1⟩
    have B1 := Lib.hid (B0.out.trans (b1.mono B0.out.size))
    have HS1 := Lib.hid ((HS0.out.keep b1).keep (below_one w1 (.cells #[.int .i64 x.g0, .int .i64 x.g1, .int .i64 x.g2, .int .i64 x.g3, .int .i64 x.l, .int .i64 x.s, .int .i64 x.d] 74)))
    have hw1 : w.heap.size + 1 < w1.heap.size := (HS0.out.keep b1).lt
    have B2 := Lib.hid (B1.out.alloc B1.out.size (.cells #[.int .i64 x.g0, .int .i64 x.g1, .int .i64 x.g2, .int .i64 x.g3, .int .i64 x.l, .int .i64 x.s, .int .i64 x.d] 74))
    have HM := Lib.hid (MAt.new w1 x)
    have HT2 := Lib.hid (HT.out.keep B2.out)
    clear b1 HS0 B0 B1
    go_wp2_with fail
    refine (HO.out w1.heap.size _ HM.out HT2.out).mono ?_
    generalize w1.alloc (.cells #[.int .i64 x.g0, .int .i64 x.g1, .int .i64 x.g2, .int .i64 x.g3, .int .i64 x.l, .int .i64 x.s, .int .i64 x.d] 74) = W1 at *
    rintro e W2 ⟨rfl, b2⟩
    have B3 := Lib.hid (B2.out.trans (b2.mono B2.out.size))
    have HS3 := Lib.hid (HS1.out.keep b2)
    have HM3 := Lib.hid (HM.out.keep b2)
    have hb3 : w1.heap.size < W2.heap.size := HM3.out.lt
    clear b2 B2 HM HT2 HS1
    have ⟨r0, r1, r2, r3, r4, r5, r6⟩ := HS3.out.cells
    have ⟨z0, z1, z2, z3, z4, z5, z6⟩ := HS3.out.thaw
    simp only [zeroSt] at r0 r1 r2 r3 r4 r5 r6
    have hl : w.heap.size + 1 < W2.heap.size := HS3.out.lt
    have BB := Lib.hid (below_putSt B3.out (show w.heap.size ≤ w.heap.size + 1 by omega) zeroSt)
    go_wp2
    exact st_ret4 (y := zeroSt) (r := .slice none 0 0) (m := .int .i64 0) (c := .int .i64 1) rfl rfl rfl rfl rfl (HS3.out.put zeroSt) Tryd.underlying24 rfl (by kernel_rfl) rfl ⟨.slice none 0 0, by rw [HE.out], by rw [HE.out]; exact Own.nil _ _ _ _, BB.out⟩
  rw [ho] at HO
  have HX := Lib.hid ho
  have HRS : Hid (rsR x s = runT s s.size 0 x []) := Lib.hid (by rw [rsR, if_neg h1, if_pos ho])
  clear ho h1
  go_enter Tryd.func13, Tryd.ntmps13
  go_wp2_with fail
  refine (HF.out _).mono ?_
  generalize (w.alloc (.cells #[.int .i64 x.g0, .int .i64 x.g1, .int .i64 x.g2, .int .i64 x.g3, .int .i64 x.l, .int .i64 x.s, .int .i64 x.d] 24)).alloc (.cells #[.int .i64 0, .int .i64 0, .int .i64 0, .int .i64 0, .int .i64 0, .int .i64 0, .int .i64 0] 24) = W0 at *
  rintro e w1 ⟨rfl, b1⟩
  have B1 := Lib.hid (B0.out.trans (b1.mono B0.out.size))
  have HS1 := Lib.hid ((HS0.out.keep b1).keep (below_one w1 (.cells #[.int .i64 x.g0, .int .i64 x.g1, .int .i64 x.g2, .int .i64 x.g3, .int .i64 x.l, .int .i64 x.s, .int .i64 x.d] 74)))
  have hw1 : w.heap.size + 1 < w1.heap.size := (HS0.out.keep b1).lt
  have B2 := Lib.hid (B1.out.alloc B1.out.size (.cells #[.int .i64 x.g0, .int .i64 x.g1, .int .i64 x.g2, .int .i64 x.g3, .int .i64 x.l, .int .i64 x.s, .int .i64 x.d] 74))
  have HM := Lib.hid (MAt.new w1 x)
  have HT2 := Lib.hid (HT.out.keep B2.out)
  clear b1 HS0 B0 B1
  go_wp2_with fail
  refine (HO.out w1.heap.size _ HM.out HT2.out).mono ?_
  generalize w1.alloc (.cells #[.int .i64 x.g0, .int .i64 x.g1, .int .i64 x.g2, .int .i64 x.g3, .int .i64 x.l, .int .i64 x.s, .int .i64 x.d] 74) = W1 at *
  rintro e W2 ⟨rfl, b2⟩
  have B3 := Lib.hid (B2.out.trans (b2.mono B2.out.size))
  have HS3 := Lib.hid (HS1.out.keep b2)
  have HM3 := Lib.hid (HM.out.keep b2)
  have hb3 : w1.heap.size < W2.heap.size := HM3.out.lt
  clear b2 B2 HM HT2 HS1
  go_wp2
  go_loopw [9, 10] (fun v i wr => ∃ (k f : Nat) (xs : St) (zs : List Int), k ≤ s.size ∧ i = .int .i64 k ∧ Hid (s.size ≤ k + f) ∧ zs.length ≤ k ∧ Hid (rsR x s = runT s f k xs zs) ∧ Hid (stOKB xs = true) ∧ Hid (Own .i64 3 wr W2.heap.size v zs) ∧ Hid (MAt wr w1.heap.size xs) ∧ Hid (StAt wr (w.heap.size + 1) zeroSt) ∧ Hid (Below w.heap.size w wr) ∧ W2.heap.size ≤ wr.heap.size) (fun _ i _ => s.size - (intOf i).toNat)
  case atStart => exact ⟨0, s.size, x, [], by omega, rfl, Lib.hid (by omega), by simp, HRS, HX, Lib.hid (Own.nil _ _ _ _), HM3, HS3, B3, Nat.le_refl _⟩
  case round =>
    obtain ⟨k, f, xs, zs, hk, rfl, HF2, hzs, HR, HX, HOw, HMr, HSr, BW, hwr⟩ := hrel
    obtain ⟨a0, c0, hform, _⟩ := HOw.out.shape
    subst hform
    by_cases hlt : k < s.size
    · obtain ⟨f, rfl⟩ : ∃ q, f = q + 1 := ⟨f - 1, by have := HF2.out; omega⟩
      have v2 : (k : Int) < (s.size : Int) := by omega
      have HU : Hid (runT s (f + 1) k xs zs = if (stepT xs (nextTok s k)).c = 0 then runT s f (k + (nextTok s k).n.toNat) (stepT xs (nextTok s k)).y (addR zs (stepT xs (nextTok s k)).r) else ⟨xs, zs, k, (stepT xs (nextTok s k)).c⟩) := Lib.hid (by rw [runT, if_pos hlt])
      have n1 := (nextTok_in s k hlt).2.1
      have n2 := (nextTok_in s k hlt).2.2
      have HN := Lib.hid (fun w => impl_tokenAt s k w hlt (by omega))
      have hok := nextTok_ok s k hlt (by omega)
      have HG := Lib.hid (fun g w h ht => impl_step xs (nextTok s k) g w h ht HX.out hok)
      have HC := Lib.hid (fun h => stepT_code (x := xs) (t := nextTok s k) h)
      have hr := stepT_r (x := xs) hok
      have HX2 := Lib.hid (stepT_ok HX.out hok)
      clear hok
      unfold TokDone tokV at HN
      unfold MvDone mvV tokV at HG
      generalize nextTok s k = y at *
      generalize stepT xs y = p at *
      have HTR : Hid (0 ≤ p.r → toldR p = p.r ∧ toldB p = true) := Lib.hid (fun h => ⟨by rw [toldR, if_pos h], by rw [toldB, decide_eq_true h]⟩)
      have HTN : Hid (p.r = -1 → toldB p = false) := Lib.hid (fun h => by rw [toldB, h]; rfl)
      generalize toldR p = tr at *
      generalize toldB p = tb at *
      have u1 : IntKind.i64.wrap ((k : Int) + y.n) = (k : Int) + y.n := IntWalk.i64_in _ (by omega)
      have HN2 : Hid (∃ m : Nat, y.n = (m : Int) ∧ 1 ≤ m ∧ k + m ≤ s.size) := Lib.hid ⟨y.n.toNat, by omega, by omega, by omega⟩
      go_wp2_with fail
      refine (HN.out _).mono ?_
      rintro e w4 ⟨rfl, b4⟩
      have B4 := Lib.hid (BW.out.trans (b4.mono BW.out.size))
      have L4 := Lib.hid (fun g hg => World.ownsRow.lt (HOw.out.all b4) g hg)
      have O4 := Lib.hid ((HOw.out.all b4).all (below_one w4 (.cells #[.int .i64 y.k, .int .i64 y.a, .int .i64 y.b, .int .i64 y.c, .int .i64 y.p, .int .i64 y.n] 38)))
      have HM4 := Lib.hid ((HMr.out.keep b4).keep (below_one w4 (.cells #[.int .i64 y.k, .int .i64 y.a, .int .i64 y.b, .int .i64 y.c, .int .i64 y.p, .int .i64 y.n] 38)))
      have HS4 := Lib.hid ((HSr.out.keep b4).keep (below_one w4 (.cells #[.int .i64 y.k, .int .i64 y.a, .int .i64 y.b, .int .i64 y.c, .int .i64 y.p, .int .i64 y.n] 38)))
      have HK4 := Lib.hid (TokAt.new w4 y)
      have B4b := Lib.hid (B4.out.alloc B4.out.size (.cells #[.int .i64 y.k, .int .i64 y.a, .int .i64 y.b, .int .i64 y.c, .int .i64 y.p, .int .i64 y.n] 38))
      have hw4 : W2.heap.size ≤ w4.heap.size := by have := b4.size; omega
      have HT4 := Lib.hid (HT.out.keep B4b.out)
      have hsz4 : w4.heap.size < (w4.alloc (.cells #[.int .i64 y.k, .int .i64 y.a, .int .i64 y.b, .int .i64 y.c, .int .i64 y.p, .int .i64 y.n] 38)).heap.size := by simp
      clear b4 HOw HMr HSr BW B4 HN
      have ⟨t0, t1, t2, t3, t4, t5⟩ := HK4.out.cells
      go_wp2_with fail
      refine (HG.out w1.heap.size _ HM4.out HT4.out).mono ?_
      clear t0 t1 t2 t3 t4 t5
      generalize w4.alloc (.cells #[.int .i64 y.k, .int .i64 y.a, .int .i64 y.b, .int .i64 y.c, .int .i64 y.p, .int .i64 y.n] 38) = W4 at *
      rintro e w5 ⟨rfl, m5, o5⟩
      have HM5 := Lib.hid m5
      have B5 := Lib.hid (B4b.out.trans (o5.1.mono (by omega)))
      have O5 := Lib.hid (O4.out.only o5 hb3)
      have HS5 := Lib.hid (HS4.out.only o5 (by omega))
      have HK5 := Lib.hid (HK4.out.only o5 (by omega) hsz4)
      have hsz5 : w4.heap.size < w5.heap.size := (Array.getElem?_eq_some_iff.1 HK5.out).1
      clear m5 o5 O4 HM4 HS4 HK4 B4b HT4 hsz4
      by_cases hc : p.c = 0
      · have ec : (p.c != 0) = false := by simpa using hc
        obtain ⟨m, hm, m1, m2⟩ := HN2.out
        have HMM := Lib.hid hm
        have e5 : (k : Int) + y.n = ((k + m : Nat) : Int) := by omega
        clear hm
        rcases hr with hr | hr
        · have HA : Hid (addR zs p.r = zs) := Lib.hid (addR_none hr)
          have htb := HTN.out hr
          subst htb
          have ⟨_, _, _, _, _, t5⟩ := HK5.out.cells
          go_wp2
          go_roundw
          case rel => exact ⟨k + m, f, p.y, zs, m2, by simp, Lib.hid (by have := HF2.out; omega), by omega, Lib.hid (by rw [HR.out, HU.out, if_pos hc, HA.out, HMM.out]; simp), HX2, O5, HM5, HS5, B5, by omega⟩
          case measure => simp [intOf]; omega
        · have ⟨e1, e2⟩ := HTR.out hr
          subst e2
          have HA : Hid (addR zs p.r = zs ++ [tr]) := Lib.hid (by rw [addR_some hr, e1])
          clear e1
          have O6 := Lib.hid (O5.out.alloc (.cells #[.int .i64 tr] 3))
          have HNW := Lib.hid (World.news_of_block (show (w5.alloc (.cells #[.int .i64 tr] 3)).heap[w5.heap.size]? = some (.cells ([tr].map (Value.int .i64)).toArray 3) from heap_alloc_new _ _))
          have hB6 : W2.heap.size ≤ (w5.alloc (.cells #[.int .i64 tr] 3)).heap.size := by simp; omega
          go_wp2_with (at_builtin; refine app_i64 _ rfl _ _ rfl W2.heap.size _ zs rfl O6.out ⟨w5.heap.size, 0, none⟩ 1 1 [tr] rfl rfl (by decide) HNW.out (by omega) hB6 ?_)
          intro g cap2 w7 o7 g7 lt7
          have hx7 : TokAt w7 w4.heap.size y := (g7.block _ (by simp; omega) (fun h => by have := (L4.out _ h.symm).2; omega)).trans (HK5.out.keep (below_one _ (.cells #[.int .i64 tr] 3)))
          have HM7 := Lib.hid ((g7.block w1.heap.size (by simp; omega) (fun h => by have := (L4.out _ h.symm).1; omega)).trans (HM5.out.keep (below_one _ (.cells #[.int .i64 tr] 3))))
          have HS7 := Lib.hid ((g7.block (w.heap.size + 1) (by simp; omega) (fun h => by have := (L4.out _ h.symm).1; omega)).trans (HS5.out.alloc (.cells #[.int .i64 tr] 3)))
          have B7 := Lib.hid ((B5.out.alloc B5.out.size (.cells #[.int .i64 tr] 3)).grown g7 (by simp; omega) (fun j hj => by have := (L4.out j hj).1; omega))
          have hs7 : W2.heap.size ≤ w7.heap.size := by have := (Array.getElem?_eq_some_iff.1 hx7).1; omega
          have O7 := Lib.hid o7
          clear o7 g7
          have ⟨_, _, _, _, _, t5⟩ := hx7.cells
          clear hx7
          go_wp2
          go_roundw
          case rel => exact ⟨k + m, f, p.y, zs ++ [tr], m2, by simp, Lib.hid (by have := HF2.out; omega), by simp; omega, Lib.hid (by rw [HR.out, HU.out, if_pos hc, HA.out, HMM.out]; simp), HX2, O7, HM7, HS7, B7, hs7⟩
          case measure => simp [intOf]; omega
      · have ec : (p.c != 0) = true := by simpa using hc
        have HE : Hid (rsR x s = ⟨xs, zs, k, p.c⟩) := Lib.hid (by rw [HR.out, HU.out, if_neg hc])
        have hy : p.y = xs := (HC.out hc).1
        rw [hy] at HM5
        clear hy
        go_wp2_with fail
        refine (HST.out xs w1.heap.size _ HM5.out).mono ?_
        rintro e w9 ⟨rfl, b9⟩
        have B9 := Lib.hid (B5.out.trans (b9.mono B5.out.size))
        have HS9 := Lib.hid (HS5.out.keep b9)
        have O9 := Lib.hid (O5.out.all b9)
        have ⟨r0, r1, r2, r3, r4, r5, r6⟩ := HS9.out.cells
        have ⟨z0, z1, z2, z3, z4, z5, z6⟩ := HS9.out.thaw
        simp only [zeroSt] at r0 r1 r2 r3 r4 r5 r6
        have hl : w.heap.size + 1 < w9.heap.size := HS9.out.lt
        have BB := Lib.hid (below_putSt B9.out (show w.heap.size ≤ w.heap.size + 1 by omega) xs)
        have OE := Lib.hid ((O9.out.putSt (show w.heap.size + 1 < W2.heap.size by omega) xs).low B3.out.size)
        clear b9
        go_wp2
        exact st_ret4 (y := xs) (r := .slice a0 zs.length c0) (m := .int .i64 k) (c := .int .i64 p.c) rfl rfl rfl rfl rfl (HS9.out.put xs) Tryd.underlying24 rfl (by kernel_rfl) rfl ⟨.slice a0 zs.length c0, by rw [HE.out], by rw [HE.out]; exact OE.out, BB.out⟩
    · have v2 : ¬ (k : Int) < (s.size : Int) := by omega
      have HE : Hid (rsR x s = ⟨xs, zs, s.size, 0⟩) := Lib.hid (by
        rw [HR.out]
        cases f with
        | zero => rfl
        | succ f => rw [runT, if_neg hlt])
      go_wp2_with fail
      refine (HST.out xs w1.heap.size _ HMr.out).mono ?_
      rintro e w9 ⟨rfl, b9⟩
      have B9 := Lib.hid (BW.out.trans (b9.mono BW.out.size))
      have HS9 := Lib.hid (HSr.out.keep b9)
      have O9 := Lib.hid (HOw.out.all b9)
      have ⟨r0, r1, r2, r3, r4, r5, r6⟩ := HS9.out.cells
      have ⟨z0, z1, z2, z3, z4, z5, z6⟩ := HS9.out.thaw
      simp only [zeroSt] at r0 r1 r2 r3 r4 r5 r6
      have hl : w.heap.size + 1 < w9.heap.size := HS9.out.lt
      have BB := Lib.hid (below_putSt B9.out (show w.heap.size ≤ w.heap.size + 1 by omega) xs)
      have OE := Lib.hid ((O9.out.putSt (show w.heap.size + 1 < W2.heap.size by omega) xs).low B3.out.size)
      clear b9
      go_wp2
      exact st_ret4 (y := xs) (r := .slice a0 zs.length c0) (m := .int .i64 s.size) (c := .int .i64 0) rfl rfl rfl rfl rfl (HS9.out.put xs) Tryd.underlying24 rfl (by kernel_rfl) rfl ⟨.slice a0 zs.length c0, by rw [HE.out], by rw [HE.out]; exact OE.out, BB.out⟩

end Go.Proofs.YtanceljhdccepaaDoor

namespace Go.Proofs.YtanceljhdccepaaDoor
open Go.RowKit

/-- The numbers k, k + 1, .. -/
def marks (k : Int) (n : Nat) : List Int := (List.range n).map fun i : Nat => k + (i : Int)
theorem marks_length (k : Int) (n : Nat) : (marks k n).length = n := by simp [marks]
theorem marks_at (k : Int) (n i : Nat) (h : i < n) : (marks k n).getD i 0 = k + i := by
  simp [marks, List.getD, h]

/-- Behind j steps: j marks, then what was there. -/
def markTo (zs : List Int) (k : Int) (j : Nat) : List Int := marks k j ++ zs.drop j
theorem markTo_zero (zs : List Int) (k : Int) : markTo zs k 0 = zs := by simp [markTo, marks]
theorem markTo_length (zs : List Int) (k : Int) (j : Nat) (h : j ≤ zs.length) : (markTo zs k j).length = zs.length := by simp [markTo, marks_length]; omega
theorem markTo_succ (zs : List Int) (k : Int) (j : Nat) (h : j < zs.length) : (markTo zs k j).set j (k + j) = markTo zs k (j + 1) := by
  unfold markTo
  have hl : (marks k j).length = j := marks_length k j
  have e : marks k (j + 1) = marks k j ++ [k + (j : Int)] := by simp [marks, List.range_succ]
  rw [List.set_append_right _ _ (by omega), hl, Nat.sub_self, List.drop_eq_getElem_cons h, e, List.set_cons_zero, List.append_assoc]
  rfl
theorem markTo_full (zs : List Int) (k : Int) : markTo zs k zs.length = marks k zs.length := by simp [markTo]

set_option maxHeartbeats 400000 in
theorem laws_markIntS (v : Value) (zs : List Int) (k : Int) (B : Nat) (w : World) (h : Own .i64 3 w B v zs) (hl : zs.length ≤ 1048576) (hk : 0 ≤ k) (hk2 : k ≤ 1099511627776) : Calls Tryd.prog 38 #[v, .int .i64 k] w fun e w' => e = .returned (.int .i64 (k + zs.length)) ∧ Own .i64 3 w' B v (marks k zs.length) ∧ Below B w w' := by
  obtain ⟨a, c, rfl, h1, h2, h3, h4⟩ := h.shape
  cases a with
  | none =>
    obtain ⟨rfl, rfl⟩ := h3 rfl
    clear h3 h4
    go_enter Tryd.func38, Tryd.ntmps38
    go_wp2
    go_loop [1, 5] (fun q i => q = .int .i64 k ∧ i = .int .i64 0) (fun _ _ => 0)
    case atStart => exact ⟨rfl, rfl⟩
    case round =>
      obtain ⟨rfl, rfl⟩ := hrel
      go_wp2
      go_ret
      exact ⟨ret_int (by simp), by simpa [marks] using h, Below.refl _ _⟩
  | some x =>
    obtain ⟨g, off, spot⟩ := x
    obtain ⟨rfl, rfl, hB⟩ := h4 _ rfl
    clear h3 h4
    generalize hn : zs.length = n at *
    have HN := Lib.hid hn
    clear hn
    go_enter Tryd.func38, Tryd.ntmps38
    go_wp2
    go_loopw [1, 5] (fun q i wr => ∃ j : Nat, j ≤ n ∧ q = .int .i64 (k + j) ∧ i = .int .i64 j ∧ Own .i64 3 wr B (.slice (some ⟨g, 0, none⟩) n c) (markTo zs k j) ∧ Below B w wr) (fun _ i _ => n - (intOf i).toNat)
    case atStart => exact ⟨0, Nat.zero_le _, by simp, rfl, by rw [markTo_zero]; exact h, Below.refl _ _⟩
    case round =>
      clear h
      obtain ⟨j, hj, rfl, rfl, ho, hb⟩ := hrel
      by_cases hlt : j < n
      · have hf := ho.frozen j
        have hold := ho.cell j (by rw [markTo_length _ _ _ (by have := HN.out; omega), HN.out]; exact hlt)
        have ho2 := ho.store j (k + j)
        rw [markTo_succ zs k j (by have := HN.out; omega)] at ho2
        have hb2 : Below B w (wr.setCell ⟨g, j, none⟩ (.int .i64 (k + j))) := hb.setCell hB _
        have e1 : (0 : Int) ≤ (j : Int) := by omega
        have e2 : (j : Int) < (n : Int) := by omega
        clear ho
        go_wp2
        go_roundw
        case rel => exact ⟨j + 1, by omega, by go_num, by go_num, ho2, hb2⟩
        case measure => simp [intOf]; omega
      · have hjn : j = n := by omega
        subst hjn
        go_wp2
        go_ret
        have := HN.out
        refine ⟨rfl, ?_, hb⟩
        rw [← HN.out, markTo_full, HN.out] at ho
        exact ho

set_option maxHeartbeats 400000 in
theorem laws_heldIntS (v : Value) (k : Int) (n : Nat) (w : World) (h : Ints .i64 w v (marks k n)) (hl : n ≤ 1048576) (hk : 0 ≤ k) (hk2 : k ≤ 1099511627776) : Calls Tryd.prog 39 #[v, .int .i64 k] w fun e w' => e = .returned (.int .i64 (k + n)) ∧ w = w' := by
  rcases h with ⟨h0, a, c, rfl⟩ | ⟨b, off, c, rfl, hcell⟩
  · have hn : n = 0 := by have := marks_length k n; rw [h0] at this; simpa using this.symm
    subst hn
    clear h0
    go_enter Tryd.func39, Tryd.ntmps39
    go_wp2
    go_loop [1, 5] (fun q i => q = .int .i64 k ∧ i = .int .i64 0) (fun _ _ => 0)
    case atStart => exact ⟨rfl, rfl⟩
    case round =>
      obtain ⟨rfl, rfl⟩ := hrel
      go_wp2
      go_ret
      exact ⟨ret_int (by simp), rfl⟩
  · rw [marks_length] at hcell ⊢
    go_enter Tryd.func39, Tryd.ntmps39
    go_wp2
    go_loop [1, 5] (fun q i => ∃ j : Nat, j ≤ n ∧ q = .int .i64 (k + j) ∧ i = .int .i64 j) (fun _ i => n - (intOf i).toNat)
    case atStart => exact ⟨0, Nat.zero_le _, by simp, rfl⟩
    case round =>
      obtain ⟨j, hj, rfl, rfl⟩ := hrel
      by_cases hlt : j < n
      · have c1 := hcell j hlt
        rw [marks_at k n j hlt] at c1
        have e1 : (0 : Int) ≤ (j : Int) := by omega
        have e2 : (j : Int) < (n : Int) := by omega
        clear hcell
        go_wp2
        go_round
        case rel => exact ⟨j + 1, by omega, by go_num, by go_num⟩
        case measure => simp [intOf]; omega
      · have hjn : j = n := by omega
        subst hjn
        go_wp2
        go_ret
        exact ⟨rfl, rfl⟩

end Go.Proofs.YtanceljhdccepaaDoor

namespace Go.Proofs.YtanceljhdccepaaDoor.fnExactRunState
open Go.RowKit

theorem addR_length (z : List Int) (r : Int) : (addR z r).length ≤ z.length + 1 := by
  unfold addR
  split <;> simp
theorem runT_length (s : ByteArray) : ∀ f k x z, (runT s f k x z).z.length ≤ z.length + f
  | 0, _, _, _ => by simp [runT]
  | f + 1, k, x, z => by
    unfold runT
    split
    · split
      · have := runT_length s f (k + (nextTok s k).n.toNat) (stepT x (nextTok s k)).y (addR z (stepT x (nextTok s k)).r)
        have := addR_length z (stepT x (nextTok s k)).r
        omega
      · dsimp only; omega
    · dsimp only; omega
theorem rsR_length (x : St) (s : ByteArray) : (rsR x s).z.length ≤ 65536 := by
  unfold rsR
  split
  · simp
  · split
    · have := runT_length s s.size 0 x []
      simp at this
      omega
    · simp

set_option maxHeartbeats 1000000 in
set_option maxRecDepth 100000 in
theorem walkS (x : St) (s : ByteArray) (w : World) (hd : Wide64 x) (hs : s.size ≤ maxLen) (ht : TabM w) : Calls Tryd.prog 9 #[stV x, .string s] w fun e w' => e = .returned (.bool true) ∧ Below w.heap.size w w' := by
  have hs' : s.size ≤ 9223372036854775807 := hs
  have HT := Lib.hid ht
  have B0 := Lib.hid (below_one w (.cells #[.int .i64 x.g0, .int .i64 x.g1, .int .i64 x.g2, .int .i64 x.g3, .int .i64 x.l, .int .i64 x.s, .int .i64 x.d] 57))
  have HL0 := Lib.hid (LSt.new w x)
  have HC := Lib.hid (fun w => laws_toState x w)
  have HS := Lib.hid (fun w => spec_RunState x s w hs')
  have HI := Lib.hid (fun w ht => impl_RunState x s w ht hd hs')
  have hz0 := rsR_length x s
  clear ht
  unfold StDone at HC
  unfold RunDone at HS HI
  generalize rsR x s = q at *
  have HQ := Lib.hid (fun w => laws_eqState_true q.y w)
  unfold stV at HC HS HI HQ ⊢
  clear hd
  have hz : q.z.length ≤ 1048576 := by omega
  by_cases hb : 1048576 < s.size
  · have hb' : (1048576 : Int) < (s.size : Int) := by omega
    go_enter Tryd.func9, Tryd.ntmps9
    go_wp2
    go_ret
    exact ⟨rfl, B0.out⟩
  have hb' : (s.size : Int) ≤ 1048576 := by omega
  go_enter Tryd.func9, Tryd.ntmps9
  go_wp2_with fail
  refine (HC.out _).mono ?_
  generalize w.alloc (.cells #[.int .i64 x.g0, .int .i64 x.g1, .int .i64 x.g2, .int .i64 x.g3, .int .i64 x.l, .int .i64 x.s, .int .i64 x.d] 57) = w0 at *
  rintro e w1 ⟨rfl, b1⟩
  have B1 := Lib.hid (B0.out.trans (b1.mono B0.out.size))
  have HL1 := Lib.hid (HL0.out.keep b1)
  clear b1 HL0 B0
  go_wp2_with fail
  refine (HS.out _).mono ?_
  rintro e w2 ⟨v1, rfl, o1, b2⟩
  have B2 := Lib.hid (B1.out.trans (b2.mono B1.out.size))
  have HL2 := Lib.hid ((HL1.out.keep b2).keep (below_one w2 (.cells #[.int .i64 q.y.g0, .int .i64 q.y.g1, .int .i64 q.y.g2, .int .i64 q.y.g3, .int .i64 q.y.l, .int .i64 q.y.s, .int .i64 q.y.d] 24)))
  have V2 := Lib.hid (StAt.new w2 q.y)
  have O2 := Lib.hid ((o1.low B1.out.size).alloc (.cells #[.int .i64 q.y.g0, .int .i64 q.y.g1, .int .i64 q.y.g2, .int .i64 q.y.g3, .int .i64 q.y.l, .int .i64 q.y.s, .int .i64 q.y.d] 24))
  have B2b := Lib.hid (B2.out.alloc B2.out.size (.cells #[.int .i64 q.y.g0, .int .i64 q.y.g1, .int .i64 q.y.g2, .int .i64 q.y.g3, .int .i64 q.y.l, .int .i64 q.y.s, .int .i64 q.y.d] 24))
  clear b2 o1 HL1
  have ⟨y0, y1, y2, y3, y4, y5, y6⟩ := HL2.out.cells
  go_wp2_with fail
  refine (HC.out _).mono ?_
  clear y0 y1 y2 y3 y4 y5 y6
  generalize w2.alloc (.cells #[.int .i64 q.y.g0, .int .i64 q.y.g1, .int .i64 q.y.g2, .int .i64 q.y.g3, .int .i64 q.y.l, .int .i64 q.y.s, .int .i64 q.y.d] 24) = W2 at *
  rintro e w3 ⟨rfl, b3⟩
  have B3 := Lib.hid (B2b.out.trans (b3.mono B2b.out.size))
  have HL3 := Lib.hid (HL2.out.keep b3)
  have V3 := Lib.hid (V2.out.keep b3)
  have O3 := Lib.hid (O2.out.all b3)
  clear b3 HL2 V2 O2 B2b
  go_wp2_with fail
  refine (HI.out _ (HT.out.keep B3.out)).mono ?_
  rintro e w4 ⟨v2, rfl, o2, b4⟩
  have B4 := Lib.hid (B3.out.trans (b4.mono B3.out.size))
  have HL4 := Lib.hid ((HL3.out.keep b4).keep (below_one w4 (.cells #[.int .i64 q.y.g0, .int .i64 q.y.g1, .int .i64 q.y.g2, .int .i64 q.y.g3, .int .i64 q.y.l, .int .i64 q.y.s, .int .i64 q.y.d] 24)))
  have V4 := Lib.hid ((V3.out.keep b4).keep (below_one w4 (.cells #[.int .i64 q.y.g0, .int .i64 q.y.g1, .int .i64 q.y.g2, .int .i64 q.y.g3, .int .i64 q.y.l, .int .i64 q.y.s, .int .i64 q.y.d] 24)))
  have U4 := Lib.hid (StAt.new w4 q.y)
  have O4 := Lib.hid ((O3.out.all b4).alloc (.cells #[.int .i64 q.y.g0, .int .i64 q.y.g1, .int .i64 q.y.g2, .int .i64 q.y.g3, .int .i64 q.y.l, .int .i64 q.y.s, .int .i64 q.y.d] 24))
  have P4 := Lib.hid (o2.alloc (.cells #[.int .i64 q.y.g0, .int .i64 q.y.g1, .int .i64 q.y.g2, .int .i64 q.y.g3, .int .i64 q.y.l, .int .i64 q.y.s, .int .i64 q.y.d] 24))
  have L3 := Lib.hid (fun g hg => (World.ownsRow.lt O3.out g hg).2)
  have HV3 := Lib.hid V3.out.lt
  have HLL := Lib.hid HL3.out.lt
  have B4b := Lib.hid (B4.out.alloc B4.out.size (.cells #[.int .i64 q.y.g0, .int .i64 q.y.g1, .int .i64 q.y.g2, .int .i64 q.y.g3, .int .i64 q.y.l, .int .i64 q.y.s, .int .i64 q.y.d] 24))
  clear b4 o2 HL3 V3 O3 B2 B4
  have ⟨y0, y1, y2, y3, y4, y5, y6⟩ := V4.out.cells
  have ⟨z0, z1, z2, z3, z4, z5, z6⟩ := U4.out.cells
  go_wp2_with fail
  refine (HQ.out _).mono ?_
  clear y0 y1 y2 y3 y4 y5 y6 z0 z1 z2 z3 z4 z5 z6
  generalize w4.alloc (.cells #[.int .i64 q.y.g0, .int .i64 q.y.g1, .int .i64 q.y.g2, .int .i64 q.y.g3, .int .i64 q.y.l, .int .i64 q.y.s, .int .i64 q.y.d] 24) = W4 at *
  rintro e w5 ⟨rfl, b5⟩
  have B5 := Lib.hid (B4b.out.trans (b5.mono B4b.out.size))
  have HL5 := Lib.hid (HL4.out.keep b5)
  have V5 := Lib.hid (V4.out.keep b5)
  have O5 := Lib.hid (O4.out.all b5)
  have P5 := Lib.hid (P4.out.all b5)
  clear b5 HL4 V4 U4 O4 P4 B4b
  go_wp2_with fail
  refine (laws_eqIntS _ _ _ _ _ P5.out.ints O5.out.ints (by omega) (by omega)).mono ?_
  rintro e w6 ⟨rfl, q1, rfl⟩
  rw [show decide (q.z = q.z) = true from decide_eq_true rfl]
  have BD := Lib.hid (below_drewN (Below.refl w5.heap.size w5) q1)
  have HL6 := Lib.hid (HL5.out.keep BD.out)
  have V6 := Lib.hid (V5.out.keep BD.out)
  have O6 := Lib.hid (O5.out.all BD.out)
  have P6 := Lib.hid (P5.out.all BD.out)
  have B6 := Lib.hid (below_drewN B5.out q1)
  clear BD HL5 V5 O5 P5 B5
  generalize w5.drewN q1 = W6 at *
  go_wp2_with fail
  refine (laws_markIntS _ _ 1 _ _ P6.out hz (by omega) (by omega)).mono ?_
  rintro e w7 ⟨rfl, o7, b7⟩
  have P7 := Lib.hid o7
  have O7 := Lib.hid (O6.out.below b7 L3.out)
  have HL7 : Hid (LSt w7 w.heap.size x) := Lib.hid ((b7.block _ HLL.out).trans HL6.out)
  have V7 : Hid (StAt w7 w2.heap.size q.y) := Lib.hid ((b7.block _ HV3.out).trans V6.out)
  have B7 := Lib.hid (B6.out.trans (b7.mono B3.out.size))
  clear o7 b7 O6 P6 HL6 V6 B6
  go_wp2_with fail
  refine (laws_heldIntS _ 1 _ _ P7.out.ints hz (by omega) (by omega)).mono ?_
  rintro e w8 ⟨rfl, rfl⟩
  have ⟨y0, y1, y2, y3, y4, y5, y6⟩ := HL7.out.cells
  go_wp2_with fail
  refine (HC.out _).mono ?_
  clear y0 y1 y2 y3 y4 y5 y6
  rintro e w8 ⟨rfl, b8⟩
  have B8 := Lib.hid (B7.out.trans (b8.mono B7.out.size))
  have V8 := Lib.hid (V7.out.keep b8)
  have O8 := Lib.hid (O7.out.all b8)
  have P8 := Lib.hid (P7.out.all b8)
  clear b8 V7 O7 P7 B7
  go_wp2_with fail
  refine (HI.out _ (HT.out.keep B8.out)).mono ?_
  rintro e w9 ⟨v9, rfl, o9, b9⟩
  have B9 := Lib.hid (B8.out.trans (b9.mono B8.out.size))
  have V9 := Lib.hid ((V8.out.keep b9).keep (below_one w9 (.cells #[.int .i64 q.y.g0, .int .i64 q.y.g1, .int .i64 q.y.g2, .int .i64 q.y.g3, .int .i64 q.y.l, .int .i64 q.y.s, .int .i64 q.y.d] 24)))
  have U9 := Lib.hid (StAt.new w9 q.y)
  have O9 := Lib.hid ((O8.out.all b9).alloc (.cells #[.int .i64 q.y.g0, .int .i64 q.y.g1, .int .i64 q.y.g2, .int .i64 q.y.g3, .int .i64 q.y.l, .int .i64 q.y.s, .int .i64 q.y.d] 24))
  have P9 := Lib.hid ((P8.out.all b9).alloc (.cells #[.int .i64 q.y.g0, .int .i64 q.y.g1, .int .i64 q.y.g2, .int .i64 q.y.g3, .int .i64 q.y.l, .int .i64 q.y.s, .int .i64 q.y.d] 24))
  have R9 := Lib.hid (o9.alloc (.cells #[.int .i64 q.y.g0, .int .i64 q.y.g1, .int .i64 q.y.g2, .int .i64 q.y.g3, .int .i64 q.y.l, .int .i64 q.y.s, .int .i64 q.y.d] 24))
  have B9b := Lib.hid (B9.out.alloc B9.out.size (.cells #[.int .i64 q.y.g0, .int .i64 q.y.g1, .int .i64 q.y.g2, .int .i64 q.y.g3, .int .i64 q.y.l, .int .i64 q.y.s, .int .i64 q.y.d] 24))
  clear b9 o9 V8 O8 P8 B9 B8
  have ⟨y0, y1, y2, y3, y4, y5, y6⟩ := V9.out.cells
  have ⟨z0, z1, z2, z3, z4, z5, z6⟩ := U9.out.cells
  go_wp2_with fail
  refine (HQ.out _).mono ?_
  clear y0 y1 y2 y3 y4 y5 y6 z0 z1 z2 z3 z4 z5 z6
  generalize w9.alloc (.cells #[.int .i64 q.y.g0, .int .i64 q.y.g1, .int .i64 q.y.g2, .int .i64 q.y.g3, .int .i64 q.y.l, .int .i64 q.y.s, .int .i64 q.y.d] 24) = W9 at *
  rintro e w10 ⟨rfl, b10⟩
  have B10 := Lib.hid (B9b.out.trans (b10.mono B9b.out.size))
  have O10 := Lib.hid (O9.out.all b10)
  have P10 := Lib.hid (P9.out.all b10)
  have R10 := Lib.hid (R9.out.all b10)
  clear b10 V9 U9 O9 P9 R9 B9b
  go_wp2_with fail
  refine (laws_eqIntS _ _ _ _ _ R10.out.ints O10.out.ints (by omega) (by omega)).mono ?_
  rintro e w11 ⟨rfl, q2, rfl⟩
  rw [show decide (q.z = q.z) = true from decide_eq_true rfl]
  have P11 := Lib.hid (P10.out.all (below_drewN (Below.refl w10.heap.size w10) q2))
  have B11 := Lib.hid (below_drewN B10.out q2)
  clear O10 P10 R10 B10
  generalize w10.drewN q2 = W11 at *
  go_wp2_with fail
  refine (laws_heldIntS _ 1 _ _ P11.out.ints hz (by omega) (by omega)).mono ?_
  rintro e w12 ⟨rfl, rfl⟩
  go_wp2
  go_ret
  exact ⟨rfl, B11.out⟩

theorem walk (g0 g1 g2 g3 l s d : Int) (t : ByteArray) (w : World) (hw : ∀ z ∈ [g0, g1, g2, g3, l, s, d], (Lit.int .i64 z).wf = true) (h1 : t.size ≤ maxLen) (ht : TabM w) : Calls Tryd.prog 9 #[.agg #[.int .i64 g0, .int .i64 g1, .int .i64 g2, .int .i64 g3, .int .i64 l, .int .i64 s, .int .i64 d], .string t] w fun e w' => e = .returned (.bool true) ∧ Below w.heap.size w w' :=
  walkS ⟨g0, g1, g2, g3, l, s, d⟩ t w (bounds_i64 (hw d (by simp))) h1 ht

theorem table {W : World} (h : laidMetH Tryd.prog Rows.fnExactRunStateRow.laid W) : TabM W := tabM_of_laid h
theorem readable : ∀ n ∈ Rows.fnExactRunStateSpec.vars, ∀ g t, Tryd.prog.globalNamed n = some g → (Tryd.prog.globals[g]?).map (·.type) = some t → Tryd.prog.readableRec t = true ∧ t < Tryd.prog.types.size := sets_readable

end Go.Proofs.YtanceljhdccepaaDoor.fnExactRunState

namespace Go.Proofs.YtanceljhdccepaaDoor.fnExactRunState
open Go.ChangeShapes Go.WideShapes Go.ChangeAt Go.RowKit
open Go.ChangeMaps (open_string shut_string)
set_option linter.unusedVariables false

set_option maxRecDepth 100000 in
theorem contract (H : Type) (enc : TypeId × Value → H) (W : World) (base : Nat) (args : Array Value) (ds gs : List (DataW H)) (before : List MemPlace)
    (hval : ∀ (j : Nat) t v, Tryd.f9.params[j]? = some t → args[j]? = some v → Value.okWide Tryd.prog W .any base t v)
    (hW : DataW.Whole enc Tryd.prog Tryd.f9.params.toList Rows.fnExactRunStateSpec.vars false W args.toList ds gs before) (hL : laidMetH Tryd.prog Rows.fnExactRunStateRow.laid W) :
    Calls Tryd.prog 9 args W fun e W' => ∃ v, e = .returned v ∧ Rows.fnExactRunStateSpec.post enc Tryd.prog Tryd.f9 false true false false W args v W' := by
  have HT := Lib.hid (table hL)
  clear hL
  have hW' := hW
  obtain ⟨p, q, hA0, hV0, rfl, hfz, hnd⟩ := hW
  have hV : DataW.TrodVars enc Tryd.prog W (fun _ => true) ["loop.example/g00748/impl.registry"] gs q := hV0
  clear hV0
  have hA : DataW.TrodAll enc Tryd.prog W 0 (fun _ => true) true Tryd.f9.params.toList args.toList ds p := hA0
  rw [Tryd.params9] at hA hval
  obtain ⟨v0, vs0, d0, ds0, p0, q0, hargs, rfl, rfl, h0, r0⟩ := trodAll_cons hA
  obtain ⟨v1, vs1, d1, ds1, p1, q1, rfl, rfl, rfl, h1, r1⟩ := trodAll_cons r0
  obtain ⟨rfl, rfl, rfl⟩ := trodAll_nil r1
  obtain rfl : args = #[v0, v1] := by cases args; simp_all
  have hgs : ∃ d, gs = [d] := by obtain ⟨_, _, _, _, d, _, hgs, _⟩ := trodVars_one hV; exact ⟨d, hgs⟩
  obtain ⟨g1, rfl⟩ := hgs
  obtain ⟨z0, l0, rfl, rfl, rfl, w0⟩ := open_intStruct Tryd.underlying57 (by kernel_rfl) (by kernel_rfl) (hval 0 57 v0 rfl rfl) h0
  obtain ⟨a0_0, a0_1, a0_2, a0_3, a0_4, a0_5, a0_6, rfl⟩ := list7 l0
  obtain ⟨a1, rfl, rfl, rfl, w1⟩ := open_string Tryd.underlying9 (hval 1 9 v1 rfl rfl) h1
  clear hA0
  refine (walk a0_0 a0_1 a0_2 a0_3 a0_4 a0_5 a0_6 a1 W w0 w1 HT.out).mono fun e W' ⟨he, bel⟩ => ?_
  subst he
  exact ⟨_, rfl, _, _, _, [], [], q, hW', trodAll_mk1 (shut_bool Tryd.underlying4 _), (trodAll_cons_mk (shut_intStruct Tryd.underlying57 (by kernel_rfl) (by kernel_rfl) [a0_0, a0_1, a0_2, a0_3, a0_4, a0_5, a0_6] rfl w0) (trodAll_cons_mk (shut_string Tryd.underlying9 w1) trodAll_mk0)), trodVars_below laidOut bel readable hV, bel.frame _, fun h => by cases h⟩

theorem laid_met (os : Os) : laidMetH Tryd.prog Rows.fnExactRunStateRow.laid ((World.doorLaid Tryd.prog 400 os).forCall (fun _ _ => 0) ⟨#[], #[.agg #[.int .i64 0, .int .i64 0, .int .i64 0, .int .i64 0, .int .i64 0, .int .i64 0, .int .i64 0], .string ByteArray.empty], []⟩).memory :=
  laidMetH_of_parts3 (fuel := 8) (laidMet_of_run' 8 (by kernel_rfl) (by kernel_rfl)) (by kernel_rfl) (by kernel_rfl)
theorem reads (os : Os) {H : Type} (enc : TypeId × Value → H) : ∃ x, DataW.whole enc Tryd.prog ((World.doorLaid Tryd.prog 400 os).forCall (fun _ _ => 0) ⟨#[], #[.agg #[.int .i64 0, .int .i64 0, .int .i64 0, .int .i64 0, .int .i64 0, .int .i64 0, .int .i64 0], .string ByteArray.empty], []⟩).memory Tryd.f9.params.toList Rows.fnExactRunStateSpec.vars false #[.agg #[.int .i64 0, .int .i64 0, .int .i64 0, .int .i64 0, .int .i64 0, .int .i64 0, .int .i64 0], .string ByteArray.empty].toList 8 = some x :=
  Option.isSome_iff_exists.1 (by kernel_rfl)

set_option maxRecDepth 100000 in
theorem lifted (os : Os) (started : os.Started) (H : Type) (enc : TypeId × Value → H) (F : Stop.Interp) :
    ReturnsInHanded {} Tryd.checked os 9 .any ((OpenSpec.ofChange Rows.fnExactRunStateSpec).preRow enc Tryd.prog Tryd.f9 Rows.fnExactRunStateRow.domain false Rows.fnExactRunStateRow.laid) (((OpenSpec.ofChange Rows.fnExactRunStateSpec).at F).post enc Tryd.prog Tryd.f9 false true false false) := by
  obtain ⟨x, hx⟩ := reads os enc
  refine returnsInHanded_of_row (C := Tryd.checked) (s := OpenSpec.ofChange Rows.fnExactRunStateSpec) own started (by kernel_rfl) Tryd.func9
    (witness_row_atRef (enc := enc) (C := Tryd.checked) false (World.doorLaid Tryd.prog 400 os) #[.agg #[.int .i64 0, .int .i64 0, .int .i64 0, .int .i64 0, .int .i64 0, .int .i64 0, .int .i64 0], .string ByteArray.empty] rfl (by kernel_rfl) (by kernel_rfl) (by kernel_rfl)
      (OpenSpec.preRow_of_cond 8 hx rfl (fun k hk => by cases hk) (by kernel_rfl) (laid_met os))) ?_
  intro W base args ds gs before hval hW _ _ _ hL _ _
  exact contract H enc W base args ds gs before hval hW hL

theorem said : Rows.FnExactRunStateSaid :=
  OpenClaim.holds_of_cond 9 Tryd.f9 rfl rfl rfl rfl rfl rfl rfl ⟨rfl, rfl, rfl, rfl, rfl⟩ rfl rfl rfl rfl rfl (by kernel_rfl) Tryd.func9 (by kernel_rfl)
    (of_decide_eq_true (by kernel_rfl)) (by unfold Func.isWrapper; first | (rw [if_pos (by decide +kernel)]; kernel_rfl) | (rw [if_neg (by decide +kernel)]; exact ⟨rfl, rfl⟩))
    (fun os started H enc _ F => by rw [OpenClaim.pre_eq_preRow]; exact lifted os started H enc F)

theorem plain (f : FuncId) (fn : Func) (hf : Tryd.pinned.checked.prog.funcNamed "loop.example/g00748/laws.FnExactRunState" = some f) (hfn : Tryd.pinned.checked.prog.funcs[f]? = some fn) :
    Rows.fnExactRunStateCard.stood.looks = Tryd.pinned.checked.prog.looks [] ∧ ∀ (j : Nat) t, fn.params[j]? = some t → Tryd.pinned.checked.prog.wantsStandIn t = false := by
  obtain rfl : f = 9 := Option.some.inj ((show Tryd.prog.funcNamed "loop.example/g00748/laws.FnExactRunState" = some 9 by kernel_rfl).symm.trans hf) |>.symm
  obtain rfl : fn = Tryd.f9 := (Option.some.inj (Tryd.func9.symm.trans hfn)).symm
  refine ⟨by kernel_rfl, fun j t ht => ?_⟩
  rw [Tryd.params9] at ht
  have hm := Array.mem_of_getElem? ht
  simp at hm
  rcases hm with rfl | rfl
  · exact (show Tryd.prog.wantsStandIn 57 = false by kernel_rfl)
  · exact (show Tryd.prog.wantsStandIn 9 = false by kernel_rfl)

theorem card : Rows.FnExactRunStateCardSaid :=
  Claim7.holds_tied_plain_at .later [] _ _ _ _ said (fun _ h => by cases h) (by kernel_rfl) (fun _ h => by cases h) fnExactRunState_row_tie rfl ⟨rfl, rfl⟩ (by kernel_rfl) rfl plain (by kernel_rfl)
end Go.Proofs.YtanceljhdccepaaDoor.fnExactRunState

namespace Go.Proofs.YtanceljhdccepaaDoor
theorem fnExactRunState_holds : Rows.FnExactRunStateCardSaid := fnExactRunState.card
end Go.Proofs.YtanceljhdccepaaDoor
