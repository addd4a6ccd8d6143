/- The specification's RunState. -/
import Derived.Test.YtjbikenhdgbacaaDoorStH
import Derived.Test.YtjbikenhdgbacaaDoorOwn
namespace Go.Proofs.YtjbikenhdgbacaaDoor
open Go.RowKit Go.Sort

/-- A run handed back: the state, the characters in new memory, the offset, the code. -/
def RunDone (p : Rn) (w : World) (e : Ending) (w' : World) : Prop := ∃ v, e = .returned (.tuple #[stV p.y, v, .int .i64 p.p, .int .i64 p.c]) ∧ Own .i64 3 w' w.heap.size v p.z ∧ Below w.heap.size w w'
theorem addR_some {z : List Int} {r : Int} (h : 0 ≤ r) : addR z r = z ++ [r] := by rw [addR, if_pos h]
theorem addR_none {z : List Int} {r : Int} (h : r = -1) : addR z r = z := by rw [addR, if_neg (by omega)]

theorem heap_putSt {w : World} {g j : Nat} (y : St) (h : j ≠ g) : (putSt w g y).heap[j]? = w.heap[j]? := by
  unfold putSt
  rw [Below.heap_setCell _ _ _ _ (by simpa using h), Below.heap_setCell _ _ _ _ (by simpa using h), Below.heap_setCell _ _ _ _ (by simpa using h), Below.heap_setCell _ _ _ _ (by simpa using h), Below.heap_setCell _ _ _ _ (by simpa using h), Below.heap_setCell _ _ _ _ (by simpa using h), Below.heap_setCell _ _ _ _ (by simpa using h)]
theorem Own.putSt {k : IntKind} {e : TypeId} {w : World} {B g : Nat} {v : Value} {zs : List Int} (h : Own k e w B v zs) (hg : g < B) (y : St) : Own k e (putSt w g y) B v zs := by
  refine ⟨h.1, ?_⟩
  rcases h.2 with h | ⟨j, cap, cur, a, b, c, d⟩
  · exact .inl h
  · exact .inr ⟨j, cap, cur, a, b, by rw [heap_putSt y (by omega)]; exact c, d⟩
theorem StAt.other {w : World} {g j : Nat} {x : St} (h : StAt w j x) (y : St) (hg : j ≠ g) : StAt (Go.Proofs.YtjbikenhdgbacaaDoor.putSt w g y) j x := (heap_putSt y hg).trans h
theorem TokAt.other {w : World} {g j : Nat} {t : Tok} (h : TokAt w j t) (y : St) (hg : j ≠ g) : TokAt (Go.Proofs.YtjbikenhdgbacaaDoor.putSt w g y) j t := (heap_putSt y hg).trans h

theorem size_putSt (w : World) (g : Nat) (y : St) : (putSt w g y).heap.size = w.heap.size := by simp [putSt]

set_option maxHeartbeats 4000000 in
set_option maxRecDepth 100000 in
theorem spec_l04Run (x : St) (s : ByteArray) (w : World) (hx : stOKB x = true) (hs : s.size ≤ 65536) : Calls Tryd.prog 60 #[stV x, .string s] w (RunDone (runT s s.size 0 x []) w) := by
  have HB0 : Hid (StAt ((w.alloc (.cells #[.int .i64 x.g0, .int .i64 x.g1, .int .i64 x.g2, .int .i64 x.g3, .int .i64 x.l, .int .i64 x.s, .int .i64 x.d] 24)).alloc (.cells #[.int .i64 0, .int .i64 0, .int .i64 0, .int .i64 0, .int .i64 0, .int .i64 0, .int .i64 0] 24)) w.heap.size x) := Lib.hid (heap_alloc2_old _ _ _)
  have HS0 : Hid (StAt ((w.alloc (.cells #[.int .i64 x.g0, .int .i64 x.g1, .int .i64 x.g2, .int .i64 x.g3, .int .i64 x.l, .int .i64 x.s, .int .i64 x.d] 24)).alloc (.cells #[.int .i64 0, .int .i64 0, .int .i64 0, .int .i64 0, .int .i64 0, .int .i64 0, .int .i64 0] 24)) (w.heap.size + 1) zeroSt) := Lib.hid (heap_alloc2_new _ _ _)
  have B0 := Lib.hid (below_two w (.cells #[.int .i64 x.g0, .int .i64 x.g1, .int .i64 x.g2, .int .i64 x.g3, .int .i64 x.l, .int .i64 x.s, .int .i64 x.d] 24) (.cells #[.int .i64 0, .int .i64 0, .int .i64 0, .int .i64 0, .int .i64 0, .int .i64 0, .int .i64 0] 24))
  have hsz0 : ((w.alloc (.cells #[.int .i64 x.g0, .int .i64 x.g1, .int .i64 x.g2, .int .i64 x.g3, .int .i64 x.l, .int .i64 x.s, .int .i64 x.d] 24)).alloc (.cells #[.int .i64 0, .int .i64 0, .int .i64 0, .int .i64 0, .int .i64 0, .int .i64 0, .int .i64 0] 24)).heap.size = w.heap.size + 2 := by simp
  have HX := Lib.hid hx
  clear hx
  unfold stV
  go_enter Tryd.func60, Tryd.ntmps60
  go_wp2
  generalize (w.alloc (.cells #[.int .i64 x.g0, .int .i64 x.g1, .int .i64 x.g2, .int .i64 x.g3, .int .i64 x.l, .int .i64 x.s, .int .i64 x.d] 24)).alloc (.cells #[.int .i64 0, .int .i64 0, .int .i64 0, .int .i64 0, .int .i64 0, .int .i64 0, .int .i64 0] 24) = W0 at *
  go_loopw [8, 9] (fun v i wr => ∃ (k f : Nat) (xs : St) (zs : List Int), k ≤ s.size ∧ i = .int .i64 k ∧ Hid (s.size ≤ k + f) ∧ zs.length ≤ k ∧ Hid (runT s s.size 0 x [] = runT s f k xs zs) ∧ Hid (stOKB xs = true) ∧ Hid (Own .i64 3 wr (w.heap.size + 2) v zs) ∧ Hid (StAt wr w.heap.size xs) ∧ Hid (StAt wr (w.heap.size + 1) zeroSt) ∧ Hid (Below w.heap.size w wr)) (fun _ i _ => s.size - (intOf i).toNat)
  case atStart =>
    have HO0 := Own.lit .i64 3 W0 (w.heap.size + 2) [] (by omega) (by simp)
    rw [hsz0] at HO0
    exact ⟨0, s.size, x, [], by omega, rfl, Lib.hid (by omega), by simp, Lib.hid rfl, HX, Lib.hid HO0, Lib.hid (HB0.out.keep (below_one _ _)), Lib.hid (HS0.out.keep (below_one _ _)), Lib.hid (B0.out.alloc B0.out.size _)⟩
  case round =>
    obtain ⟨k, f, xs, zs, hk, rfl, HF, hzs, HR, HX, HO, HB, HS, BW⟩ := hrel
    obtain ⟨a0, c0, hform, _⟩ := HO.out.shape
    subst hform
    by_cases hlt : k < s.size
    · obtain ⟨f, rfl⟩ : ∃ q, f = q + 1 := ⟨f - 1, by have := HF.out; omega⟩
      have v2 : (k : Int) < (s.size : Int) := by omega
      have HU : Hid (runT s (f + 1) k xs zs = if (stepT xs (nextTok s k)).c = 0 then runT s f (k + (nextTok s k).n.toNat) (stepT xs (nextTok s k)).y (addR zs (stepT xs (nextTok s k)).r) else ⟨xs, zs, k, (stepT xs (nextTok s k)).c⟩) := Lib.hid (by rw [runT, if_pos hlt])
      have n1 := (nextTok_in s k hlt).2.1
      have n2 := (nextTok_in s k hlt).2.2
      have HN := Lib.hid (fun w => spec_l03Next s k w hlt (by omega))
      have HG := Lib.hid (fun w => spec_l04Step xs (nextTok s k) w HX.out (nextTok_ok s k hlt hs))
      have HC := Lib.hid (fun h => stepT_code (x := xs) (t := nextTok s k) h)
      have hr := stepT_r (x := xs) (nextTok_ok s k hlt hs)
      have HX2 := Lib.hid (stepT_ok HX.out (nextTok_ok s k hlt hs))
      unfold TokDone tokV at HN
      unfold StpDone stpV tokV stV at HG
      generalize nextTok s k = y at *
      generalize stepT xs y = p at *
      have u1 : IntKind.i64.wrap ((k : Int) + y.n) = (k : Int) + y.n := IntWalk.i64_in _ (by omega)
      go_wp2_with fail
      refine (HN.out _).mono ?_
      rintro e w1 ⟨rfl, b1⟩
      have B1 := Lib.hid (BW.out.trans (b1.mono BW.out.size))
      have O1 := Lib.hid ((HO.out.all b1).all (below_one w1 (.cells #[.int .i64 y.k, .int .i64 y.a, .int .i64 y.b, .int .i64 y.c, .int .i64 y.p, .int .i64 y.n] 38)))
      have HB1 := Lib.hid ((HB.out.keep b1).keep (below_one w1 (.cells #[.int .i64 y.k, .int .i64 y.a, .int .i64 y.b, .int .i64 y.c, .int .i64 y.p, .int .i64 y.n] 38)))
      have HS1 := Lib.hid ((HS.out.keep b1).keep (below_one w1 (.cells #[.int .i64 y.k, .int .i64 y.a, .int .i64 y.b, .int .i64 y.c, .int .i64 y.p, .int .i64 y.n] 38)))
      have HK1 := Lib.hid (TokAt.new w1 y)
      have B1b := Lib.hid (B1.out.alloc B1.out.size (.cells #[.int .i64 y.k, .int .i64 y.a, .int .i64 y.b, .int .i64 y.c, .int .i64 y.p, .int .i64 y.n] 38))
      have hw1 : w.heap.size + 1 < w1.heap.size := (HS.out.keep b1).lt
      have L1 := Lib.hid (fun g hg => World.ownsRow.lt (HO.out.all b1) g hg)
      clear b1 HO HB HS BW B1 HN
      have ⟨y0, y1, y2, y3, y4, y5, y6⟩ := HB1.out.cells
      have ⟨t0, t1, t2, t3, t4, t5⟩ := HK1.out.cells
      go_wp2_with fail
      refine (HG.out _).mono ?_
      clear y0 y1 y2 y3 y4 y5 y6 t0 t1 t2 t3 t4 t5
      generalize w1.alloc (.cells #[.int .i64 y.k, .int .i64 y.a, .int .i64 y.b, .int .i64 y.c, .int .i64 y.p, .int .i64 y.n] 38) = W1 at *
      rintro e w2 ⟨rfl, b2⟩
      have B2 := Lib.hid (B1b.out.trans (b2.mono B1b.out.size))
      have O2 := Lib.hid (O1.out.all b2)
      have HB2 := Lib.hid (HB1.out.keep b2)
      have HS2 := Lib.hid (HS1.out.keep b2)
      have HK2 := Lib.hid (HK1.out.keep b2)
      clear b2 O1 HB1 HS1 HK1 B1b
      by_cases hc : p.c = 0
      · have ec : (p.c != 0) = false := by simpa using hc
        have ⟨q0, q1, q2, q3, q4, q5, q6⟩ := HB2.out.thaw
        have ⟨y0, y1, y2, y3, y4, y5, y6⟩ := HB2.out.cells
        have hl6 : w.heap.size < w2.heap.size := HB2.out.lt
        have hk2 : w1.heap.size < w2.heap.size := HK2.out.lt
        have ⟨p0, p1, p2, p3, p4, p5, p6⟩ := (StAt.new w2 p.y).cells
        have ⟨t0, t1, t2, t3, t4, t5⟩ := HK2.out.cells
        have HN2 : Hid (∃ m : Nat, y.n = (m : Int) ∧ 1 ≤ m ∧ k + m ≤ s.size) := Lib.hid ⟨y.n.toNat, by omega, by omega, by omega⟩
        have BP := Lib.hid (below_putSt B2.out (Nat.le_refl _) p.y)
        have OP := Lib.hid (O2.out.putSt (show w.heap.size < w.heap.size + 2 by omega) p.y)
        have HSP := Lib.hid (HS2.out.other p.y (show w.heap.size + 1 ≠ w.heap.size by omega))
        have HBP := Lib.hid (HB2.out.put p.y)
        rcases hr with hr | hr
        · have HA : Hid (addR zs p.r = zs) := Lib.hid (addR_none hr)
          have vr : p.r < 0 := by omega
          obtain ⟨m, hm, m1, m2⟩ := HN2.out
          have HM := Lib.hid hm
          have e5 : (k : Int) + y.n = ((k + m : Nat) : Int) := by omega
          clear hm
          go_wp2
          go_roundw
          case rel => exact ⟨k + m, f, p.y, zs, m2, by simp, Lib.hid (by have := HF.out; omega), by omega, Lib.hid (by rw [HR.out, HU.out, if_pos hc, HA.out, HM.out]; simp), HX2, Lib.hid (OP.out.alloc _), Lib.hid (HBP.out.alloc _), Lib.hid (HSP.out.alloc _), Lib.hid (BP.out.alloc BP.out.size _)⟩
          case measure => simp [intOf]; omega
        · have HA : Hid (addR zs p.r = zs ++ [p.r]) := Lib.hid (addR_some hr)
          have O3 := Lib.hid ((OP.out.alloc (.cells #[.int .i64 p.y.g0, .int .i64 p.y.g1, .int .i64 p.y.g2, .int .i64 p.y.g3, .int .i64 p.y.l, .int .i64 p.y.s, .int .i64 p.y.d] 24)).alloc (.cells #[.int .i64 p.r] 3))
          have HNW := Lib.hid (World.news_of_block (show (((putSt w2 w.heap.size p.y).alloc (.cells #[.int .i64 p.y.g0, .int .i64 p.y.g1, .int .i64 p.y.g2, .int .i64 p.y.g3, .int .i64 p.y.l, .int .i64 p.y.s, .int .i64 p.y.d] 24)).alloc (.cells #[.int .i64 p.r] 3)).heap[w2.heap.size + 1]? = some (.cells ([p.r].map (Value.int .i64)).toArray 3) from by
            have := heap_alloc2_new (putSt w2 w.heap.size p.y) (.cells #[.int .i64 p.y.g0, .int .i64 p.y.g1, .int .i64 p.y.g2, .int .i64 p.y.g3, .int .i64 p.y.l, .int .i64 p.y.s, .int .i64 p.y.d] 24) (.cells #[.int .i64 p.r] 3)
            rw [size_putSt] at this
            exact this))
          have hB3 : w.heap.size + 2 ≤ (((putSt w2 w.heap.size p.y).alloc (.cells #[.int .i64 p.y.g0, .int .i64 p.y.g1, .int .i64 p.y.g2, .int .i64 p.y.g3, .int .i64 p.y.l, .int .i64 p.y.s, .int .i64 p.y.d] 24)).alloc (.cells #[.int .i64 p.r] 3)).heap.size := by
            simp only [World.size_alloc, size_putSt]; omega
          go_wp2_with (at_builtin; refine app_i64 _ rfl _ _ rfl (w.heap.size + 2) _ zs rfl O3.out ⟨w2.heap.size + 1, 0, none⟩ 1 1 [p.r] rfl rfl (by decide) HNW.out (by omega) hB3 ?_)
          intro g cap2 w4 o4 g4 lt4
          have hx4 : TokAt w4 w1.heap.size y := (g4.block _ (by simp; omega) (fun h => by have := (L1.out _ h.symm).2; omega)).trans (((HK2.out.other p.y (by omega)).keep (below_one _ (.cells #[.int .i64 p.y.g0, .int .i64 p.y.g1, .int .i64 p.y.g2, .int .i64 p.y.g3, .int .i64 p.y.l, .int .i64 p.y.s, .int .i64 p.y.d] 24))).keep (below_one _ (.cells #[.int .i64 p.r] 3)))
          have HB4 := Lib.hid ((g4.block w.heap.size (by simp; omega) (fun h => by have := (L1.out _ h.symm).1; omega)).trans ((HBP.out.alloc (.cells #[.int .i64 p.y.g0, .int .i64 p.y.g1, .int .i64 p.y.g2, .int .i64 p.y.g3, .int .i64 p.y.l, .int .i64 p.y.s, .int .i64 p.y.d] 24)).alloc (.cells #[.int .i64 p.r] 3)))
          have HS4 := Lib.hid ((g4.block (w.heap.size + 1) (by simp; omega) (fun h => by have := (L1.out _ h.symm).1; omega)).trans ((HSP.out.alloc (.cells #[.int .i64 p.y.g0, .int .i64 p.y.g1, .int .i64 p.y.g2, .int .i64 p.y.g3, .int .i64 p.y.l, .int .i64 p.y.s, .int .i64 p.y.d] 24)).alloc (.cells #[.int .i64 p.r] 3)))
          have B3 := BP.out.alloc BP.out.size (.cells #[.int .i64 p.y.g0, .int .i64 p.y.g1, .int .i64 p.y.g2, .int .i64 p.y.g3, .int .i64 p.y.l, .int .i64 p.y.s, .int .i64 p.y.d] 24)
          have B4 := Lib.hid ((B3.alloc B3.size (.cells #[.int .i64 p.r] 3)).grown g4 (by simp only [World.size_alloc, size_putSt]; omega) (fun j hj => by have := (L1.out j hj).1; omega))
          have O4 := Lib.hid o4
          clear o4 g4 B3
          clear y0 y1 y2 y3 y4 y5 y6 q0 q1 q2 q3 q4 q5 q6 p0 p1 p2 p3 p4 p5 p6 t0 t1 t2 t3 t4 t5
          have ⟨_, _, _, _, _, t5⟩ := hx4.cells
          clear hx4
          obtain ⟨m, hm, m1, m2⟩ := HN2.out
          have HM := Lib.hid hm
          have e5 : (k : Int) + y.n = ((k + m : Nat) : Int) := by omega
          clear hm
          go_wp2
          go_roundw
          case rel => exact ⟨k + m, f, p.y, zs ++ [p.r], m2, by simp, Lib.hid (by have := HF.out; omega), by simp; omega, Lib.hid (by rw [HR.out, HU.out, if_pos hc, HA.out, HM.out]; simp), HX2, O4, HB4, HS4, B4⟩
          case measure => simp [intOf]; omega
      · have ec : (p.c != 0) = true := by simpa using hc
        have HE : Hid (runT s s.size 0 x [] = ⟨xs, zs, k, p.c⟩) := Lib.hid (by rw [HR.out, HU.out, if_neg hc])
        have ⟨y0, y1, y2, y3, y4, y5, y6⟩ := (HB2.out.alloc (.cells #[.int .i64 p.y.g0, .int .i64 p.y.g1, .int .i64 p.y.g2, .int .i64 p.y.g3, .int .i64 p.y.l, .int .i64 p.y.s, .int .i64 p.y.d] 24)).cells
        have BB := Lib.hid (below_putSt B2.out (show w.heap.size ≤ w.heap.size + 1 by omega) xs)
        have ⟨r0, r1, r2, r3, r4, r5, r6⟩ := HS2.out.cells
        have ⟨z0, z1, z2, z3, z4, z5, z6⟩ := HS2.out.thaw
        simp only [zeroSt] at r0 r1 r2 r3 r4 r5 r6
        have hl : w.heap.size + 1 < w2.heap.size := HS2.out.lt
        have OE := Lib.hid (((O2.out.putSt (show w.heap.size + 1 < w.heap.size + 2 by omega) xs).alloc (.cells #[.int .i64 p.y.g0, .int .i64 p.y.g1, .int .i64 p.y.g2, .int .i64 p.y.g3, .int .i64 p.y.l, .int .i64 p.y.s, .int .i64 p.y.d] 24)).low (show w.heap.size ≤ w.heap.size + 2 by omega))
        go_wp2
        exact st_ret4 (y := xs) (r := .slice a0 zs.length c0) (m := .int .i64 k) (c := .int .i64 p.c) rfl rfl rfl rfl rfl ((HS2.out.put xs).alloc _) Tryd.underlying24 rfl (by kernel_rfl) rfl ⟨.slice a0 zs.length c0, by rw [HE.out], by rw [HE.out]; exact OE.out, BB.out.alloc BB.out.size _⟩
    · have v2 : ¬ (k : Int) < (s.size : Int) := by omega
      have HE : Hid (runT s s.size 0 x [] = ⟨xs, zs, s.size, 0⟩) := Lib.hid (by
        rw [HR.out]
        cases f with
        | zero => rfl
        | succ f => rw [runT, if_neg hlt])
      have ⟨y0, y1, y2, y3, y4, y5, y6⟩ := HB.out.cells
      have BB := Lib.hid (below_putSt BW.out (show w.heap.size ≤ w.heap.size + 1 by omega) xs)
      have ⟨r0, r1, r2, r3, r4, r5, r6⟩ := HS.out.cells
      have ⟨z0, z1, z2, z3, z4, z5, z6⟩ := HS.out.thaw
      simp only [zeroSt] at r0 r1 r2 r3 r4 r5 r6
      have hl : w.heap.size + 1 < wr.heap.size := HS.out.lt
      have OE := Lib.hid ((HO.out.putSt (show w.heap.size + 1 < w.heap.size + 2 by omega) xs).low (show w.heap.size ≤ w.heap.size + 2 by omega))
      go_wp2
      exact st_ret4 (y := xs) (r := .slice a0 zs.length c0) (m := .int .i64 s.size) (c := .int .i64 0) rfl rfl rfl rfl rfl (HS.out.put xs) Tryd.underlying24 rfl (by kernel_rfl) rfl ⟨.slice a0 zs.length c0, by rw [HE.out], by rw [HE.out]; exact OE.out, BB.out⟩

set_option maxHeartbeats 1000000 in
set_option maxRecDepth 100000 in
theorem spec_RunState (x : St) (s : ByteArray) (w : World) (hs : s.size ≤ 9223372036854775807) : Calls Tryd.prog 15 #[stV x, .string s] w (RunDone (rsR x s) w) := by
  have HB0 : Hid (StAt ((w.alloc (.cells #[.int .i64 x.g0, .int .i64 x.g1, .int .i64 x.g2, .int .i64 x.g3, .int .i64 x.l, .int .i64 x.s, .int .i64 x.d] 24)).alloc (.cells #[.int .i64 0, .int .i64 0, .int .i64 0, .int .i64 0, .int .i64 0, .int .i64 0, .int .i64 0] 24)) w.heap.size x) := Lib.hid (heap_alloc2_old _ _ _)
  have HS0 : Hid (StAt ((w.alloc (.cells #[.int .i64 x.g0, .int .i64 x.g1, .int .i64 x.g2, .int .i64 x.g3, .int .i64 x.l, .int .i64 x.s, .int .i64 x.d] 24)).alloc (.cells #[.int .i64 0, .int .i64 0, .int .i64 0, .int .i64 0, .int .i64 0, .int .i64 0, .int .i64 0] 24)) (w.heap.size + 1) zeroSt) := Lib.hid (heap_alloc2_new _ _ _)
  have B0 := Lib.hid (below_two w (.cells #[.int .i64 x.g0, .int .i64 x.g1, .int .i64 x.g2, .int .i64 x.g3, .int .i64 x.l, .int .i64 x.s, .int .i64 x.d] 24) (.cells #[.int .i64 0, .int .i64 0, .int .i64 0, .int .i64 0, .int .i64 0, .int .i64 0, .int .i64 0] 24))
  have HO := Lib.hid (fun w => spec_l04OK x w)
  unfold stV at HO ⊢
  by_cases h1 : 65536 < s.size
  · have HE : Hid (rsR x s = ⟨zeroSt, [], 0, 2⟩) := Lib.hid (by rw [rsR, if_pos h1])
    have h1' : (65536 : Int) < (s.size : Int) := by omega
    have O0 : Hid (Own .i64 3 (((w.alloc (.cells #[.int .i64 x.g0, .int .i64 x.g1, .int .i64 x.g2, .int .i64 x.g3, .int .i64 x.l, .int .i64 x.s, .int .i64 x.d] 24)).alloc (.cells #[.int .i64 0, .int .i64 0, .int .i64 0, .int .i64 0, .int .i64 0, .int .i64 0, .int .i64 0] 24)).alloc (.cells #[] 3)) w.heap.size (.slice (some ⟨w.heap.size + 1 + 1, 0, none⟩) 0 0) []) := Lib.hid (by
      have h := Own.lit .i64 3 ((w.alloc (.cells #[.int .i64 x.g0, .int .i64 x.g1, .int .i64 x.g2, .int .i64 x.g3, .int .i64 x.l, .int .i64 x.s, .int .i64 x.d] 24)).alloc (.cells #[.int .i64 0, .int .i64 0, .int .i64 0, .int .i64 0, .int .i64 0, .int .i64 0, .int .i64 0] 24)) w.heap.size [] B0.out.size (by simp)
      rw [show ((w.alloc (.cells #[.int .i64 x.g0, .int .i64 x.g1, .int .i64 x.g2, .int .i64 x.g3, .int .i64 x.l, .int .i64 x.s, .int .i64 x.d] 24)).alloc (.cells #[.int .i64 0, .int .i64 0, .int .i64 0, .int .i64 0, .int .i64 0, .int .i64 0, .int .i64 0] 24)).heap.size = w.heap.size + 1 + 1 by simp] at h
      exact h)
    go_enter Tryd.func15, Tryd.ntmps15
    go_wp2
    exact st_ret4 (y := zeroSt) (r := .slice (some ⟨w.heap.size + 1 + 1, 0, none⟩) 0 0) (m := .int .i64 0) (c := .int .i64 2) rfl rfl rfl rfl rfl (HS0.out.alloc _) Tryd.underlying24 rfl (by kernel_rfl) rfl ⟨.slice (some ⟨w.heap.size + 1 + 1, 0, none⟩) 0 0, by rw [HE.out], by rw [HE.out]; exact O0.out, B0.out.alloc B0.out.size _⟩
  have h1' : (s.size : Int) ≤ 65536 := by omega
  cases ho : stOKB x
  · have HE : Hid (rsR x s = ⟨zeroSt, [], 0, 1⟩) := Lib.hid (by rw [rsR, if_neg h1, if_neg (by rw [ho]; decide)])
    rw [ho] at HO
    go_enter Tryd.func15, Tryd.ntmps15
    go_wp2_with fail
    refine (HO.out _).mono ?_
    generalize (w.alloc (.cells #[.int .i64 x.g0, .int .i64 x.g1, .int .i64 x.g2, .int .i64 x.g3, .int .i64 x.l, .int .i64 x.s, .int .i64 x.d] 24)).alloc (.cells #[.int .i64 0, .int .i64 0, .int .i64 0, .int .i64 0, .int .i64 0, .int .i64 0, .int .i64 0] 24) = W0 at *
    rintro e w1 ⟨rfl, b1⟩
    have B1 := Lib.hid (B0.out.trans (b1.mono B0.out.size))
    have HS1 := Lib.hid (HS0.out.keep b1)
    have ⟨r0, r1, r2, r3, r4, r5, r6⟩ := HS1.out.cells
    have ⟨z0, z1, z2, z3, z4, z5, z6⟩ := HS1.out.thaw
    simp only [zeroSt] at r0 r1 r2 r3 r4 r5 r6
    have hl : w.heap.size + 1 < w1.heap.size := HS1.out.lt
    clear b1
    have BB := Lib.hid (below_putSt B1.out (show w.heap.size ≤ w.heap.size + 1 by omega) zeroSt)
    have O0 : Hid (Own .i64 3 ((putSt w1 (w.heap.size + 1) zeroSt).alloc (.cells #[] 3)) w.heap.size (.slice (some ⟨w1.heap.size, 0, none⟩) 0 0) []) := Lib.hid (by
      have h := Own.lit .i64 3 (putSt w1 (w.heap.size + 1) zeroSt) w.heap.size [] BB.out.size (by simp)
      rw [size_putSt] at h
      exact h)
    go_wp2
    exact st_ret4 (y := zeroSt) (r := .slice (some ⟨w1.heap.size, 0, none⟩) 0 0) (m := .int .i64 0) (c := .int .i64 1) rfl rfl rfl rfl rfl ((HS1.out.put zeroSt).alloc _) Tryd.underlying24 rfl (by kernel_rfl) rfl ⟨.slice (some ⟨w1.heap.size, 0, none⟩) 0 0, by rw [HE.out], by rw [HE.out]; exact O0.out, BB.out.alloc BB.out.size _⟩
  rw [ho] at HO
  have HR := Lib.hid (fun w => spec_l04Run x s w ho (by omega))
  have HE : Hid (rsR x s = runT s s.size 0 x []) := Lib.hid (by rw [rsR, if_neg h1, if_pos ho])
  rw [HE.out]
  unfold RunDone stV at HR
  generalize runT s s.size 0 x [] = q at *
  clear ho HE
  go_enter Tryd.func15, Tryd.ntmps15
  go_wp2_with fail
  refine (HO.out _).mono ?_
  generalize (w.alloc (.cells #[.int .i64 x.g0, .int .i64 x.g1, .int .i64 x.g2, .int .i64 x.g3, .int .i64 x.l, .int .i64 x.s, .int .i64 x.d] 24)).alloc (.cells #[.int .i64 0, .int .i64 0, .int .i64 0, .int .i64 0, .int .i64 0, .int .i64 0, .int .i64 0] 24) = W0 at *
  rintro e w1 ⟨rfl, b1⟩
  have B1 := Lib.hid (B0.out.trans (b1.mono B0.out.size))
  have HB1 := Lib.hid (HB0.out.keep b1)
  have HS1 := Lib.hid (HS0.out.keep b1)
  clear b1
  have ⟨y0, y1, y2, y3, y4, y5, y6⟩ := HB1.out.cells
  go_wp2_with fail
  refine (HR.out _).mono ?_
  clear y0 y1 y2 y3 y4 y5 y6
  rintro e w2 ⟨v, rfl, o2, b2⟩
  have B2 := Lib.hid (B1.out.trans (b2.mono B1.out.size))
  have HS2 := Lib.hid (HS1.out.keep b2)
  have ⟨r0, r1, r2, r3, r4, r5, r6⟩ := HS2.out.cells
  have ⟨z0, z1, z2, z3, z4, z5, z6⟩ := HS2.out.thaw
  simp only [zeroSt] at r0 r1 r2 r3 r4 r5 r6
  have hl : w.heap.size + 1 < w2.heap.size := HS2.out.lt
  have OE := Lib.hid ((o2.putSt (show w.heap.size + 1 < w1.heap.size from HS1.out.lt) q.y).low B1.out.size)
  have BB := Lib.hid (below_putSt B2.out (show w.heap.size ≤ w.heap.size + 1 by omega) q.y)
  clear o2 b2
  go_wp2
  exact st_ret4 (y := q.y) (r := v) (m := .int .i64 q.p) (c := .int .i64 q.c) rfl rfl rfl rfl rfl (HS2.out.put q.y) Tryd.underlying24 rfl (by kernel_rfl) rfl ⟨v, rfl, OE.out, BB.out⟩

end Go.Proofs.YtjbikenhdgbacaaDoor
