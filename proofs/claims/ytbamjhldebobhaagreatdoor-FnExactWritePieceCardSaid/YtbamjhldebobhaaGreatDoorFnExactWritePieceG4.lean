/- The tied card of 'FnExactWritePiece': from the walk to the given statement. The listed package-level variables start as the program's text lays them (the given tie). Joined of: PcX, PcY, PcW, PcZ, TkB, Marks, WordsLaid, SetsLaid, MaLaid, PcLaid, FnExactWritePieceWalk, FnExactWritePieceCard. -/
import Derived.Test.YtbamjhldebobhaaGreatDoorFnExactWritePieceG3
import Derived.Test.YtbamjhldebobhaaGreatDoorInts
import Derived.Test.YtbamjhldebobhaaGreatDoorFnExactWritePieceG1
import Derived.Test.YtbamjhldebobhaaGreatDoorVars
import Derived.Test.YtbamjhldebobhaaGreatDoorSetsT
import Derived.Lib.SmallJoins
import Derived.Test.YtbamjhldebobhaaGreatDoorMaB
import Derived.Test.YtbamjhldebobhaaGreatDoorCards
import Derived.Test.YtbamjhldebobhaaGreatDoorTie
import Derived.Lib.Hide
import Derived.Test.YtbamjhldebobhaaGreatDoorDeOpen

namespace Go.Proofs.YtbamjhldebobhaaGreatDoor
open Go.RowKit Go.Sort

/-- What a decoder has read: the decoder, the characters in new memory. -/
def WrDone (p : Pc) (w : World) (e : Ending) (w' : World) : Prop := ∃ v, e = .returned (.tuple #[deV p.d, v]) ∧ Own .i64 3 w' w.heap.size v p.z ∧ Below w.heap.size w w'
theorem results_row_val {P : Program} {fn : Func} {p u : Tmp} {a : Act} {w1 : World} {g : Nat} {ty : TypeId} {d : TypeDesc} {y : De} {l : Value} {Q : Ending → World → Prop} (h : fn.results = #[.cell p ty, .tmp u])
    (hp : a.tmps.getD p undef = .pointer (some ⟨g, 0, none⟩)) (hc : a.tmps.getD u undef = l) (hg : DeAt w1 g y)
    (hu : P.underlying ty = some d) (hd : (match d with | .struct _ | .array _ _ => true | _ => false) = true) (hi : (P.info? ty).map (·.size) = some 13) (hdef : a.defers = []) (hQ : Q (.returned (.tuple #[deV y, l])) w1) :
    bodyPost P fn Q .ret a w1 :=
  bodyPost_ret (results_row_tmp h _ _ g _ _ _ _ hp hg hu hd hi) hdef (by rw [hc]; exact hQ)
/-- The same, of what the tokens leave. -/
def WrPost (n : Int) (q : Wr) (w : World) (e : Ending) (w' : World) : Prop := WrDone ⟨⟨n, q.a, q.c, q.x, q.r, true, decide (q.c ≠ 0)⟩, q.z⟩ w e w'
theorem WrDone.mk {n a c : Int} {q : Wr} {x : St} {r : ByteArray} {z : List Int} {o : Bool} {w w' : World} {v : Value} (h : q = ⟨z, a, c, x, r⟩) (ho : o = decide (c ≠ 0)) (h1 : Own .i64 3 w' w.heap.size v z) (h2 : Below w.heap.size w w') :
    WrPost n q w (.returned (.tuple #[deV ⟨n, a, c, x, r, true, o⟩, v])) w' := by
  subst h ho
  exact ⟨v, rfl, h1, h2⟩
theorem Own.setD {k : IntKind} {t : TypeId} {w : World} {B g i : Nat} {v u : Value} {zs : List Int} (h : Own k t w B v zs) (hv : v.ownBlock ≠ some g) : Own k t (w.setCell ⟨g, i, none⟩ u) B v zs := by
  refine ⟨h.1, ?_⟩
  rcases h.2 with h | ⟨b, cap, cur, x1, x2, x3, x4⟩
  · exact .inl h
  · have hb : b ≠ g := fun he => hv (by rw [x1, he]; rfl)
    exact .inr ⟨b, cap, cur, x1, x2, by rw [Below.heap_setCell _ _ _ _ (by simpa using hb)]; exact x3, x4⟩
theorem Own.putDSN {k : IntKind} {t : TypeId} {w : World} {B g : Nat} {v : Value} {zs : List Int} (h : Own k t w B v zs) (hv : v.ownBlock ≠ some g) (y : St) : Own k t (putDS w g y) B v zs := ((((((h.setD hv).setD hv).setD hv).setD hv).setD hv).setD hv).setD hv
theorem Own.putDeN {k : IntKind} {t : TypeId} {w : World} {B g : Nat} {v : Value} {zs : List Int} (h : Own k t w B v zs) (hv : v.ownBlock ≠ some g) (y : De) : Own k t (putDe w g y) B v zs := ((((((((((((h.setD hv).setD hv).setD hv).setD hv).setD hv).setD hv).setD hv).setD hv).setD hv).setD hv).setD hv).setD hv).setD hv
theorem heap_putDS {w : World} {g i : Nat} (y : St) (h : i ≠ g) : (putDS w g y).heap[i]? = w.heap[i]? := by
  unfold putDS
  rw [Below.heap_setCell _ _ _ _ (by simpa using h), Below.heap_setCell _ _ _ _ (by simpa using h), Below.heap_setCell _ _ _ _ (by simpa using h), Below.heap_setCell _ _ _ _ (by simpa using h), Below.heap_setCell _ _ _ _ (by simpa using h), Below.heap_setCell _ _ _ _ (by simpa using h), Below.heap_setCell _ _ _ _ (by simpa using h)]
theorem size_putDS (w : World) (g : Nat) (y : St) : (putDS w g y).heap.size = w.heap.size := by simp [putDS]

set_option maxHeartbeats 4000000 in
set_option maxRecDepth 100000 in
/-- Behind the header: the decoder has begun. -/
theorem writeBegun (n a : Int) (x : St) (r : ByteArray) (t : ByteArray) (w : World) (hr : r.size ≤ 4) (ht : t.size ≤ 65536) (hx : stOKB x = true) (ha : 0 ≤ a) (ha2 : a ≤ 1000000000) :
    Calls Tryz.prog 44 #[deV ⟨n, a, 0, x, r, true, false⟩, .string t] w (WrPost n (wrT n (r ++ t) (r ++ t).size 0 a x []) w) := by
  have hcat := fun w => cat_run r t (by omega) w
  have HV : Hid (deV ⟨n, a, 0, x, r, true, false⟩ = .agg #[.int .i64 n, .int .i64 a, .int .i64 0, .int .i64 x.g0, .int .i64 x.g1, .int .i64 x.g2, .int .i64 x.g3, .int .i64 x.l, .int .i64 x.s, .int .i64 x.d, .string r, .bool true, .bool false]) := Lib.hid rfl
  have hsz : (r ++ t).size ≤ 65540 := by rw [ByteArray.size_append]; omega
  rw [HV.out]
  generalize r ++ t = s at *
  have D0 : Hid (DeAt (((w.alloc (.cells #[.int .i64 n, .int .i64 a, .int .i64 0, .int .i64 x.g0, .int .i64 x.g1, .int .i64 x.g2, .int .i64 x.g3, .int .i64 x.l, .int .i64 x.s, .int .i64 x.d, .string ⟨#[]⟩, .bool true, .bool false] 41)).alloc (.cells #[.int .i64 0, .int .i64 0, .int .i64 0, .int .i64 0, .int .i64 0, .int .i64 0, .int .i64 0, .int .i64 0, .int .i64 0, .int .i64 0, .string ⟨#[]⟩, .bool false, .bool false] 41)).alloc (.cells #[] 3)) w.heap.size ⟨n, a, 0, x, ⟨#[]⟩, true, false⟩) := Lib.hid ((DeAt.new w ⟨n, a, 0, x, ⟨#[]⟩, true, false⟩).keep (below_two _ _ _))
  have R0 : Hid (DeAt (((w.alloc (.cells #[.int .i64 n, .int .i64 a, .int .i64 0, .int .i64 x.g0, .int .i64 x.g1, .int .i64 x.g2, .int .i64 x.g3, .int .i64 x.l, .int .i64 x.s, .int .i64 x.d, .string ⟨#[]⟩, .bool true, .bool false] 41)).alloc (.cells #[.int .i64 0, .int .i64 0, .int .i64 0, .int .i64 0, .int .i64 0, .int .i64 0, .int .i64 0, .int .i64 0, .int .i64 0, .int .i64 0, .string ⟨#[]⟩, .bool false, .bool false] 41)).alloc (.cells #[] 3)) (w.heap.size + 1) zeroDe) := Lib.hid ((show DeAt ((w.alloc (.cells #[.int .i64 n, .int .i64 a, .int .i64 0, .int .i64 x.g0, .int .i64 x.g1, .int .i64 x.g2, .int .i64 x.g3, .int .i64 x.l, .int .i64 x.s, .int .i64 x.d, .string ⟨#[]⟩, .bool true, .bool false] 41)).alloc (.cells #[.int .i64 0, .int .i64 0, .int .i64 0, .int .i64 0, .int .i64 0, .int .i64 0, .int .i64 0, .int .i64 0, .int .i64 0, .int .i64 0, .string ⟨#[]⟩, .bool false, .bool false] 41)) (w.heap.size + 1) zeroDe from heap_alloc2_new _ _ _).keep (below_one _ _))
  have B0 := Lib.hid ((below_two w (.cells #[.int .i64 n, .int .i64 a, .int .i64 0, .int .i64 x.g0, .int .i64 x.g1, .int .i64 x.g2, .int .i64 x.g3, .int .i64 x.l, .int .i64 x.s, .int .i64 x.d, .string ⟨#[]⟩, .bool true, .bool false] 41) (.cells #[.int .i64 0, .int .i64 0, .int .i64 0, .int .i64 0, .int .i64 0, .int .i64 0, .int .i64 0, .int .i64 0, .int .i64 0, .int .i64 0, .string ⟨#[]⟩, .bool false, .bool false] 41)).alloc (below_two w (.cells #[.int .i64 n, .int .i64 a, .int .i64 0, .int .i64 x.g0, .int .i64 x.g1, .int .i64 x.g2, .int .i64 x.g3, .int .i64 x.l, .int .i64 x.s, .int .i64 x.d, .string ⟨#[]⟩, .bool true, .bool false] 41) (.cells #[.int .i64 0, .int .i64 0, .int .i64 0, .int .i64 0, .int .i64 0, .int .i64 0, .int .i64 0, .int .i64 0, .int .i64 0, .int .i64 0, .string ⟨#[]⟩, .bool false, .bool false] 41)).size (.cells #[] 3))
  have O0 : Hid (Own .i64 3 (((w.alloc (.cells #[.int .i64 n, .int .i64 a, .int .i64 0, .int .i64 x.g0, .int .i64 x.g1, .int .i64 x.g2, .int .i64 x.g3, .int .i64 x.l, .int .i64 x.s, .int .i64 x.d, .string ⟨#[]⟩, .bool true, .bool false] 41)).alloc (.cells #[.int .i64 0, .int .i64 0, .int .i64 0, .int .i64 0, .int .i64 0, .int .i64 0, .int .i64 0, .int .i64 0, .int .i64 0, .int .i64 0, .string ⟨#[]⟩, .bool false, .bool false] 41)).alloc (.cells #[] 3)) w.heap.size (.slice (some ⟨w.heap.size + 2, 0, none⟩) 0 0) []) := Lib.hid (by
    have h := Own.lit .i64 3 ((w.alloc (.cells #[.int .i64 n, .int .i64 a, .int .i64 0, .int .i64 x.g0, .int .i64 x.g1, .int .i64 x.g2, .int .i64 x.g3, .int .i64 x.l, .int .i64 x.s, .int .i64 x.d, .string ⟨#[]⟩, .bool true, .bool false] 41)).alloc (.cells #[.int .i64 0, .int .i64 0, .int .i64 0, .int .i64 0, .int .i64 0, .int .i64 0, .int .i64 0, .int .i64 0, .int .i64 0, .int .i64 0, .string ⟨#[]⟩, .bool false, .bool false] 41)) w.heap.size [] (by simp; omega) (by simp)
    rw [show ((w.alloc (.cells #[.int .i64 n, .int .i64 a, .int .i64 0, .int .i64 x.g0, .int .i64 x.g1, .int .i64 x.g2, .int .i64 x.g3, .int .i64 x.l, .int .i64 x.s, .int .i64 x.d, .string ⟨#[]⟩, .bool true, .bool false] 41)).alloc (.cells #[.int .i64 0, .int .i64 0, .int .i64 0, .int .i64 0, .int .i64 0, .int .i64 0, .int .i64 0, .int .i64 0, .int .i64 0, .int .i64 0, .string ⟨#[]⟩, .bool false, .bool false] 41)).heap.size = w.heap.size + 2 by simp] at h
    exact h)
  have HX0 := Lib.hid hx
  clear hr ht hx HV
  go_enter Tryz.func44, Tryz.ntmps44
  go_wp2_with fail
  clear hcat
  generalize ((w.alloc (.cells #[.int .i64 n, .int .i64 a, .int .i64 0, .int .i64 x.g0, .int .i64 x.g1, .int .i64 x.g2, .int .i64 x.g3, .int .i64 x.l, .int .i64 x.s, .int .i64 x.d, .string ⟨#[]⟩, .bool true, .bool false] 41)).alloc (.cells #[.int .i64 0, .int .i64 0, .int .i64 0, .int .i64 0, .int .i64 0, .int .i64 0, .int .i64 0, .int .i64 0, .int .i64 0, .int .i64 0, .string ⟨#[]⟩, .bool false, .bool false] 41)).alloc (.cells #[] 3) = W at *
  go_loopw [6, 8] (fun v i wr => ∃ (k f : Nat) (a' : Int) (xs : St) (zs : List Int), k ≤ s.size ∧ i = .int .i64 k ∧ Hid (s.size ≤ k + f) ∧ zs.length ≤ k ∧ 0 ≤ a' ∧ a' ≤ a + k ∧ Hid (wrT n s s.size 0 a x [] = wrT n s f k a' xs zs) ∧ Hid (stOKB xs = true) ∧ Hid (Own .i64 3 wr w.heap.size v zs) ∧ Hid (DeAt wr w.heap.size ⟨n, a', 0, xs, ⟨#[]⟩, true, false⟩) ∧ Hid (DeAt wr (w.heap.size + 1) zeroDe) ∧ Hid (Below w.heap.size w wr)) (fun _ i _ => s.size - (intOf i).toNat)
  case atStart => exact ⟨0, s.size, a, x, [], by omega, rfl, Lib.hid (by omega), by simp, ha, by omega, Lib.hid rfl, HX0, O0, D0, R0, B0⟩
  case round =>
    obtain ⟨k, f, a', xs, zs, hk, rfl, HF, hzs, hA0, hA1, HR, HX, HO, HB, HQ, BW⟩ := hrel
    obtain ⟨va, vc, hform, _⟩ := HO.out.shape
    subst hform
    clear O0 D0 R0 B0 HX0
    have hV3 := HO.out.apart HB.out (by decide)
    have hV1 := HO.out.apart HQ.out (by decide)
    have hl3 : w.heap.size < wr.heap.size := HB.out.lt
    have hl1 : w.heap.size + 1 < wr.heap.size := HQ.out.lt
    by_cases hlt : k < s.size
    · obtain ⟨f, rfl⟩ : ∃ q, f = q + 1 := ⟨f - 1, by have := HF.out; omega⟩
      have v0 : (0 : Int) ≤ (k : Int) := by omega
      have v2 : (k : Int) < (s.size : Int) := by omega
      have v3 : (k : Int) ≤ (s.size : Int) := by omega
      have HU : Hid (wrT n s (f + 1) k a' xs zs = if (nextTok s k).k = 8 then ⟨zs, a', 0, xs, s.extract k s.size⟩ else if (stepP n xs (nextTok s k)).c = 0 then wrT n s f (k + (nextTok s k).n.toNat) (a' + (nextTok s k).n) (stepP n xs (nextTok s k)).y (addR zs (stepP n xs (nextTok s k)).r) else ⟨zs, a', (stepP n xs (nextTok s k)).c, xs, ByteArray.empty⟩) := Lib.hid (by rw [wrT, if_pos hlt])
      have n1 := (nextTok_in s k hlt).2.1
      have n2 := (nextTok_in s k hlt).2.2
      have HN := Lib.hid (fun w => spec_l03Next s k w hlt (by omega))
      have HG := Lib.hid (fun w => spec_l05Step n xs (nextTok s k) w HX.out (nextTok_ok s k hlt (by omega)))
      have hr := stepP_r (n := n) (x := xs) (nextTok_ok s k hlt (by omega))
      have HX2 := Lib.hid (stepP_ok (n := n) HX.out (nextTok_ok s k hlt (by omega)))
      unfold TokDone tokV at HN
      unfold StpDone stpV tokV stV at HG
      generalize nextTok s k = y at *
      generalize stepP n xs y = p at *
      have u1 : IntKind.i64.wrap ((k : Int) + y.n) = (k : Int) + y.n := IntWalk.i64_in _ (by omega)
      have u2 : IntKind.i64.wrap (a' + y.n) = a' + y.n := IntWalk.i64_in _ (by omega)
      go_wp2_with fail
      refine (HN.out _).mono ?_
      rintro e w4 ⟨rfl, b1⟩
      have b1' := b1.alloc b1.size (.cells #[.int .i64 y.k, .int .i64 y.a, .int .i64 y.b, .int .i64 y.c, .int .i64 y.p, .int .i64 y.n] 102)
      have B1 := Lib.hid (BW.out.trans (b1'.mono BW.out.size))
      have O1 := Lib.hid (HO.out.all b1')
      have HB1 := Lib.hid (HB.out.keep b1')
      have HQ1 := Lib.hid (HQ.out.keep b1')
      have HK1 := Lib.hid (TokAt.new w4 y)
      have hl4 : w.heap.size + 1 < w4.heap.size := Nat.lt_of_lt_of_le hl1 b1.size
      clear b1 b1' HO HB HQ BW HN
      by_cases h8 : y.k = 8
      · have e8 : (y.k == 8) = true := by simpa using h8
        have HE : Hid (wrT n s s.size 0 a x [] = ⟨zs, a', 0, xs, s.extract k s.size⟩) := Lib.hid (by rw [HR.out, HU.out, if_pos h8])
        generalize hW4 : w4.alloc (.cells #[.int .i64 y.k, .int .i64 y.a, .int .i64 y.b, .int .i64 y.c, .int .i64 y.p, .int .i64 y.n] 102) = W4 at *
        have hlW : w4.heap.size < W4.heap.size := HK1.out.lt
        have ⟨t0, t1, t2, t3, t4, t5⟩ := HK1.out.cells
        have ⟨d0, d1, d2, d3, d4, d5, d6, d7, d8, d9, d10, d11, d12⟩ := deCells HB1.out
        have ⟨z0, z1, z2, z3, z4, z5, z6, z7, z8, z9, z10, z11, z12⟩ := HB1.out.thaw
        have ⟨r0, r1, r2, r3, r4, r5, r6, r7, r8, r9, r10, r11, r12⟩ := deCells HQ1.out
        have ⟨s0, s1, s2, s3, s4, s5, s6, s7, s8, s9, s10, s11, s12⟩ := HQ1.out.thaw
        have hlD := HB1.out.lt
        have hlR := HQ1.out.lt
        generalize hrest : s.extract k s.size = rest at *
        have RX : Hid (DeAt (W4.setCell ⟨w.heap.size, 10, none⟩ (.string rest)) (w.heap.size + 1) zeroDe) := Lib.hid (by unfold DeAt; rw [Below.heap_setCell _ _ _ _ (by simp)]; exact HQ1.out)
        have BX := Lib.hid (B1.out.setCell (p := ⟨w.heap.size, 10, none⟩) (show w.heap.size ≤ w.heap.size from Nat.le_refl _) (.string rest))
        have OX := Lib.hid (O1.out.setD (i := 10) (u := .string rest) hV3)
        clear h8 hl4 HU HG HX2 hr u1 u2 n1 n2 HR HF hzs hlt
        go_wp2
        exact results_row_val (y := ⟨n, a', 0, xs, rest, true, false⟩) rfl rfl rfl (RX.out.put ⟨n, a', 0, xs, rest, true, false⟩) Tryz.underlying41 rfl (by kernel_rfl) rfl (WrDone.mk HE.out rfl (OX.out.putDeN hV1 ⟨n, a', 0, xs, rest, true, false⟩) (below_putDe BX.out (by omega) ⟨n, a', 0, xs, rest, true, false⟩))
      · have e8 : (y.k == 8) = false := by rw [beq_eq_false_iff_ne]; exact h8
        have ⟨y0, y1, y2, y3, y4, y5, y6, y7, y8, y9, y10, y11, y12⟩ := deCells HB1.out
        have ⟨t0, t1, t2, t3, t4, t5⟩ := HK1.out.cells
        go_wp2_with fail
        refine (HG.out _).mono ?_
        clear y0 y1 y2 y3 y4 y5 y6 y7 y8 y9 y10 y11 y12 t0 t1 t2 t3 t4 t5
        generalize hW4 : w4.alloc (.cells #[.int .i64 y.k, .int .i64 y.a, .int .i64 y.b, .int .i64 y.c, .int .i64 y.p, .int .i64 y.n] 102) = W4 at *
        rintro e w5 ⟨rfl, b2⟩
        have hl5 : w4.heap.size < w5.heap.size := Nat.lt_of_lt_of_le HK1.out.lt b2.size
        have B2 := Lib.hid (B1.out.trans (b2.mono B1.out.size))
        have O2 := Lib.hid (O1.out.all b2)
        have HB2 := Lib.hid (HB1.out.keep b2)
        have HQ2 := Lib.hid (HQ1.out.keep b2)
        have HK2 := Lib.hid (HK1.out.keep b2)
        clear b2 O1 HB1 HQ1 HK1 B1
        by_cases hc : p.c = 0
        · have ec : (p.c != 0) = false := by simpa using hc
          have ⟨q0, q1, q2, q3, q4, q5, q6, q7, q8, q9, q10, q11, q12⟩ := HB2.out.thaw
          have ⟨y0, y1, y2, y3, y4, y5, y6, y7, y8, y9, y10, y11, y12⟩ := deCells HB2.out
          have hlD : w.heap.size < w5.heap.size := HB2.out.lt
          have ⟨p0, p1, p2, p3, p4, p5, p6⟩ := (StAt.new w5 p.y).cells
          have ⟨t0, t1, t2, t3, t4, t5⟩ := HK2.out.cells
          have HN2 : Hid (∃ m : Nat, y.n = (m : Int) ∧ 1 ≤ m ∧ k + m ≤ s.size) := Lib.hid ⟨y.n.toNat, by omega, by omega, by omega⟩
          have BP := Lib.hid (below_putDS B2.out (Nat.le_refl _) p.y)
          have OP := Lib.hid (O2.out.putDSN hV3 p.y)
          have HBP := Lib.hid (HB2.out.putS p.y)
          have HQP : Hid (DeAt (putDS w5 w.heap.size p.y) (w.heap.size + 1) zeroDe) := Lib.hid ((heap_putDS p.y (by omega)).trans HQ2.out)
          have HKP : Hid (TokAt (putDS w5 w.heap.size p.y) w4.heap.size y) := Lib.hid ((heap_putDS p.y (by omega)).trans HK2.out)
          have hsP := size_putDS w5 w.heap.size p.y
          rcases hr with hr | hr
          · have HA : Hid (addR zs p.r = zs) := Lib.hid (addR_none hr)
            have vr : p.r < 0 := by omega
            obtain ⟨m, hm, m1, m2⟩ := HN2.out
            have HM := Lib.hid hm
            have HM2 : Hid (y.n.toNat = m) := Lib.hid (by omega)
            have e5 : (k : Int) + y.n = ((k + m : Nat) : Int) := by omega
            have BS := Lib.hid (BP.out.setCell (p := ⟨w.heap.size, 1, none⟩) (show w.heap.size ≤ w.heap.size from Nat.le_refl _) (.int .i64 (a' + y.n)))
            have OS := Lib.hid (OP.out.setD (i := 1) (u := .int .i64 (a' + y.n)) hV3)
            have HBS := Lib.hid (HBP.out.set1 (a' + y.n))
            have HQS : Hid (DeAt ((putDS w5 w.heap.size p.y).setCell ⟨w.heap.size, 1, none⟩ (.int .i64 (a' + y.n))) (w.heap.size + 1) zeroDe) := Lib.hid (by unfold DeAt; rw [Below.heap_setCell _ _ _ _ (by simp)]; exact HQP.out)
            clear hm hsP
            go_wp2
            go_roundw
            case rel => exact ⟨k + m, f, a' + y.n, p.y, zs, m2, by simp, Lib.hid (by have := HF.out; omega), by omega, by have := HM.out; omega, by have := HM.out; omega, Lib.hid (by rw [HR.out, HU.out, if_neg h8, if_pos hc, HA.out, HM2.out]), HX2, Lib.hid (OS.out.alloc _), Lib.hid (HBS.out.keep (below_one _ _)), Lib.hid (HQS.out.keep (below_one _ _)), Lib.hid (BS.out.alloc BS.out.size _)⟩
            case measure => simp [intOf]; omega
          · have HA : Hid (addR zs p.r = zs ++ [p.r]) := Lib.hid (addR_some hr)
            have O3 := Lib.hid ((OP.out.alloc (.cells #[.int .i64 p.y.g0, .int .i64 p.y.g1, .int .i64 p.y.g2, .int .i64 p.y.g3, .int .i64 p.y.l, .int .i64 p.y.s, .int .i64 p.y.d] 39)).alloc (.cells #[.int .i64 p.r] 3))
            have HNW := Lib.hid (World.news_of_block (show (((putDS w5 w.heap.size p.y).alloc (.cells #[.int .i64 p.y.g0, .int .i64 p.y.g1, .int .i64 p.y.g2, .int .i64 p.y.g3, .int .i64 p.y.l, .int .i64 p.y.s, .int .i64 p.y.d] 39)).alloc (.cells #[.int .i64 p.r] 3)).heap[w5.heap.size + 1]? = some (.cells ([p.r].map (Value.int .i64)).toArray 3) from by
              have := heap_alloc2_new (putDS w5 w.heap.size p.y) (.cells #[.int .i64 p.y.g0, .int .i64 p.y.g1, .int .i64 p.y.g2, .int .i64 p.y.g3, .int .i64 p.y.l, .int .i64 p.y.s, .int .i64 p.y.d] 39) (.cells #[.int .i64 p.r] 3)
              rw [size_putDS] at this
              exact this))
            have hB3 : w.heap.size ≤ (((putDS w5 w.heap.size p.y).alloc (.cells #[.int .i64 p.y.g0, .int .i64 p.y.g1, .int .i64 p.y.g2, .int .i64 p.y.g3, .int .i64 p.y.l, .int .i64 p.y.s, .int .i64 p.y.d] 39)).alloc (.cells #[.int .i64 p.r] 3)).heap.size := by
              simp only [World.size_alloc, size_putDS]; omega
            have bpp := below_two (putDS w5 w.heap.size p.y) (.cells #[.int .i64 p.y.g0, .int .i64 p.y.g1, .int .i64 p.y.g2, .int .i64 p.y.g3, .int .i64 p.y.l, .int .i64 p.y.s, .int .i64 p.y.d] 39) (.cells #[.int .i64 p.r] 3)
            have HB3 := Lib.hid (HBP.out.keep bpp)
            have HQ3 := Lib.hid (HQP.out.keep bpp)
            have HK3 := Lib.hid (HKP.out.keep bpp)
            have B3 := Lib.hid (BP.out.trans (bpp.mono BP.out.size))
            have L1 := Lib.hid (fun g hg => World.ownsRow.lt O2.out g hg)
            clear bpp hsP
            go_wp2_with (at_builtin; refine app_i64 _ rfl _ _ rfl w.heap.size _ zs rfl O3.out ⟨w5.heap.size + 1, 0, none⟩ 1 1 [p.r] rfl rfl (by decide) HNW.out (by omega) hB3 ?_)
            intro g cap2 w6 o4 g4 lt4
            have HK4 : TokAt w6 w4.heap.size y := (g4.block _ HK3.out.lt (fun h => by
              have := HK3.out
              rcases HO4 : O3.out.2 with ⟨e1, _⟩ | ⟨gg, _, _, e1, _, e3, _⟩
              · rw [e1] at h; cases h
              · rw [e1] at h
                have : w4.heap.size = gg := Option.some.inj h
                subst this
                exact absurd (HK3.out.symm.trans e3) (by intro hh; cases hh))).trans HK3.out
            have HB4 : Hid (DeAt w6 w.heap.size ⟨n, a', 0, p.y, ⟨#[]⟩, true, false⟩) := Lib.hid ((g4.block w.heap.size HB3.out.lt (fun h => hV3 h.symm)).trans HB3.out)
            have HQ4 : Hid (DeAt w6 (w.heap.size + 1) zeroDe) := Lib.hid ((g4.block (w.heap.size + 1) HQ3.out.lt (fun h => hV1 h.symm)).trans HQ3.out)
            have B4 := Lib.hid (B3.out.grown g4 B3.out.size (fun j hj => (L1.out j hj).1))
            have hV4 := o4.apart HB4.out (by decide)
            have O4 := Lib.hid o4
            clear o4 g4 O3 HNW HB3 HQ3 HK3 B3
            clear y0 y1 y2 y3 y4 y5 y6 y7 y8 y9 y10 y11 y12 q0 q1 q2 q3 q4 q5 q6 q7 q8 q9 q10 q11 q12 p0 p1 p2 p3 p4 p5 p6 t0 t1 t2 t3 t4 t5
            have ⟨_, _, _, _, _, t5⟩ := HK4.cells
            have ⟨_, y1, _, _, _, _, _, _, _, _, _, _, _⟩ := deCells HB4.out
            have ⟨_, q1, _, _, _, _, _, _, _, _, _, _, _⟩ := HB4.out.thaw
            clear HK4
            obtain ⟨m, hm, m1, m2⟩ := HN2.out
            have HM := Lib.hid hm
            have HM2 : Hid (y.n.toNat = m) := Lib.hid (by omega)
            have e5 : (k : Int) + y.n = ((k + m : Nat) : Int) := by omega
            have HQ5 : Hid (DeAt (w6.setCell ⟨w.heap.size, 1, none⟩ (.int .i64 (a' + y.n))) (w.heap.size + 1) zeroDe) := Lib.hid (by unfold DeAt; rw [Below.heap_setCell _ _ _ _ (by simp)]; exact HQ4.out)
            clear hm
            go_wp2
            go_roundw
            case rel => exact ⟨k + m, f, a' + y.n, p.y, zs ++ [p.r], m2, by simp, Lib.hid (by have := HF.out; omega), by simp; omega, by have := HM.out; omega, by have := HM.out; omega, Lib.hid (by rw [HR.out, HU.out, if_neg h8, if_pos hc, HA.out, HM2.out]), HX2, Lib.hid (O4.out.setD hV4), Lib.hid (HB4.out.set1 (a' + y.n)), HQ5, Lib.hid (B4.out.setCell (Nat.le_refl _) _)⟩
            case measure => simp [intOf]; omega
        · have ec : (p.c != 0) = true := by simpa using hc
          have HE : Hid (wrT n s s.size 0 a x [] = ⟨zs, a', p.c, xs, ⟨#[]⟩⟩) := Lib.hid (by rw [HR.out, HU.out, if_neg h8, if_neg hc]; rfl)
          have hco : Hid ((true : Bool) = decide (p.c ≠ 0)) := Lib.hid (decide_eq_true hc).symm
          have HFl := Lib.hid (fun w => spec_l08Fail ⟨n, a', 0, xs, ⟨#[]⟩, true, false⟩ p.c w)
          unfold DeDone deV failD at HFl
          dsimp only at HFl
          have DX := Lib.hid (HB2.out.keep (below_one w5 (.cells #[.int .i64 p.y.g0, .int .i64 p.y.g1, .int .i64 p.y.g2, .int .i64 p.y.g3, .int .i64 p.y.l, .int .i64 p.y.s, .int .i64 p.y.d] 39)))
          have ⟨y0, y1, y2, y3, y4, y5, y6, y7, y8, y9, y10, y11, y12⟩ := deCells DX.out
          go_wp2_with fail
          refine (HFl.out _).mono ?_
          clear y0 y1 y2 y3 y4 y5 y6 y7 y8 y9 y10 y11 y12 DX
          have b3' := below_one w5 (.cells #[.int .i64 p.y.g0, .int .i64 p.y.g1, .int .i64 p.y.g2, .int .i64 p.y.g3, .int .i64 p.y.l, .int .i64 p.y.s, .int .i64 p.y.d] 39)
          have RX := Lib.hid (HQ2.out.keep b3')
          have BX := Lib.hid (B2.out.trans (b3'.mono B2.out.size))
          have OX := Lib.hid (O2.out.all b3')
          clear b3'
          generalize w5.alloc (.cells #[.int .i64 p.y.g0, .int .i64 p.y.g1, .int .i64 p.y.g2, .int .i64 p.y.g3, .int .i64 p.y.l, .int .i64 p.y.s, .int .i64 p.y.d] 39) = W5 at *
          rintro e w6 ⟨rfl, b3⟩
          have RY := Lib.hid (RX.out.keep b3)
          have BY := Lib.hid (BX.out.trans (b3.mono BX.out.size))
          have OY := Lib.hid (OX.out.all b3)
          have ⟨r0, r1, r2, r3, r4, r5, r6, r7, r8, r9, r10, r11, r12⟩ := deCells RY.out
          have ⟨s0, s1, s2, s3, s4, s5, s6, s7, s8, s9, s10, s11, s12⟩ := RY.out.thaw
          have hlR := RY.out.lt
          clear b3 RX BX OX
          go_wp2
          exact results_row_val (y := ⟨n, a', p.c, xs, ⟨#[]⟩, true, true⟩) rfl rfl rfl (RY.out.put ⟨n, a', p.c, xs, ⟨#[]⟩, true, true⟩) Tryz.underlying41 rfl (by kernel_rfl) rfl (WrDone.mk HE.out hco.out (OY.out.putDeN hV1 ⟨n, a', p.c, xs, ⟨#[]⟩, true, true⟩) (below_putDe BY.out (by omega) ⟨n, a', p.c, xs, ⟨#[]⟩, true, true⟩))
    · have v2 : ¬ (k : Int) < (s.size : Int) := by omega
      have HE : Hid (wrT n s s.size 0 a x [] = ⟨zs, a', 0, xs, ⟨#[]⟩⟩) := Lib.hid (by
        rw [HR.out]
        cases f with
        | zero => rfl
        | succ f => rw [wrT, if_neg hlt]; rfl)
      have ⟨d0, d1, d2, d3, d4, d5, d6, d7, d8, d9, d10, d11, d12⟩ := deCells HB.out
      have ⟨r0, r1, r2, r3, r4, r5, r6, r7, r8, r9, r10, r11, r12⟩ := deCells HQ.out
      have ⟨s0, s1, s2, s3, s4, s5, s6, s7, s8, s9, s10, s11, s12⟩ := HQ.out.thaw
      go_wp2
      exact results_row_val (y := ⟨n, a', 0, xs, ⟨#[]⟩, true, false⟩) rfl rfl rfl (HQ.out.put ⟨n, a', 0, xs, ⟨#[]⟩, true, false⟩) Tryz.underlying41 rfl (by kernel_rfl) rfl (WrDone.mk HE.out rfl (HO.out.putDeN hV1 ⟨n, a', 0, xs, ⟨#[]⟩, true, false⟩) (below_putDe BW.out (by omega) ⟨n, a', 0, xs, ⟨#[]⟩, true, false⟩))

end Go.Proofs.YtbamjhldebobhaaGreatDoor

namespace Go.Proofs.YtbamjhldebobhaaGreatDoor
open Go.RowKit Go.Sort

set_option maxHeartbeats 4000000 in
set_option maxRecDepth 100000 in
theorem writeWait (n a : Int) (x : St) (r : ByteArray) (t : ByteArray) (w : World) (hr : r.size ≤ 4) (ht : t.size ≤ 65536) (h1 : (r ++ t).size < (prHead n).size) (h2 : hasPre (prHead n) (r ++ t) = true) :
    Calls Tryz.prog 44 #[.agg #[.int .i64 n, .int .i64 a, .int .i64 0, .int .i64 x.g0, .int .i64 x.g1, .int .i64 x.g2, .int .i64 x.g3, .int .i64 x.l, .int .i64 x.s, .int .i64 x.d, .string r, .bool false, .bool false], .string t] w (WrDone ⟨⟨n, a, 0, x, r ++ t, false, false⟩, []⟩ w) := by
  have hcat := fun w => cat_run r t (by omega) w
  have hsz : (r ++ t).size ≤ 65540 := by rw [ByteArray.size_append]; omega
  have HPf := Lib.hid (fun w => spec_l05Profile n w)
  have HPv : Hid (∀ v, prV n v = .agg #[.string (prName n), .string (prHead n), v, .bool (prRight n), .bool (prShifts n), .bool (prSingle n), .bool (prReset n), .bool (prClear n)]) := Lib.hid (fun _ => rfl)
  have hfd : ∀ v w, (Instr.field 60 (prV n v) 1).run Tryz.prog w = .ok (.string (prHead n)) w := fun _ _ => by kernel_rfl
  have HH := Lib.hid (fun v w => spec_l06Header n v (r ++ t) w)
  unfold prV at hfd HH
  generalize r ++ t = s at *
  have D0 : Hid (DeAt (((w.alloc (.cells #[.int .i64 n, .int .i64 a, .int .i64 0, .int .i64 x.g0, .int .i64 x.g1, .int .i64 x.g2, .int .i64 x.g3, .int .i64 x.l, .int .i64 x.s, .int .i64 x.d, .string ⟨#[]⟩, .bool false, .bool false] 41)).alloc (.cells #[.int .i64 0, .int .i64 0, .int .i64 0, .int .i64 0, .int .i64 0, .int .i64 0, .int .i64 0, .int .i64 0, .int .i64 0, .int .i64 0, .string ⟨#[]⟩, .bool false, .bool false] 41)).alloc (.cells #[] 3)) w.heap.size ⟨n, a, 0, x, ⟨#[]⟩, false, false⟩) := Lib.hid ((DeAt.new w ⟨n, a, 0, x, ⟨#[]⟩, false, false⟩).keep (below_two _ _ _))
  have R0 : Hid (DeAt (((w.alloc (.cells #[.int .i64 n, .int .i64 a, .int .i64 0, .int .i64 x.g0, .int .i64 x.g1, .int .i64 x.g2, .int .i64 x.g3, .int .i64 x.l, .int .i64 x.s, .int .i64 x.d, .string ⟨#[]⟩, .bool false, .bool false] 41)).alloc (.cells #[.int .i64 0, .int .i64 0, .int .i64 0, .int .i64 0, .int .i64 0, .int .i64 0, .int .i64 0, .int .i64 0, .int .i64 0, .int .i64 0, .string ⟨#[]⟩, .bool false, .bool false] 41)).alloc (.cells #[] 3)) (w.heap.size + 1) zeroDe) := Lib.hid ((show DeAt ((w.alloc (.cells #[.int .i64 n, .int .i64 a, .int .i64 0, .int .i64 x.g0, .int .i64 x.g1, .int .i64 x.g2, .int .i64 x.g3, .int .i64 x.l, .int .i64 x.s, .int .i64 x.d, .string ⟨#[]⟩, .bool false, .bool false] 41)).alloc (.cells #[.int .i64 0, .int .i64 0, .int .i64 0, .int .i64 0, .int .i64 0, .int .i64 0, .int .i64 0, .int .i64 0, .int .i64 0, .int .i64 0, .string ⟨#[]⟩, .bool false, .bool false] 41)) (w.heap.size + 1) zeroDe from heap_alloc2_new _ _ _).keep (below_one _ _))
  have B0 := Lib.hid ((below_two w (.cells #[.int .i64 n, .int .i64 a, .int .i64 0, .int .i64 x.g0, .int .i64 x.g1, .int .i64 x.g2, .int .i64 x.g3, .int .i64 x.l, .int .i64 x.s, .int .i64 x.d, .string ⟨#[]⟩, .bool false, .bool false] 41) (.cells #[.int .i64 0, .int .i64 0, .int .i64 0, .int .i64 0, .int .i64 0, .int .i64 0, .int .i64 0, .int .i64 0, .int .i64 0, .int .i64 0, .string ⟨#[]⟩, .bool false, .bool false] 41)).alloc (below_two w (.cells #[.int .i64 n, .int .i64 a, .int .i64 0, .int .i64 x.g0, .int .i64 x.g1, .int .i64 x.g2, .int .i64 x.g3, .int .i64 x.l, .int .i64 x.s, .int .i64 x.d, .string ⟨#[]⟩, .bool false, .bool false] 41) (.cells #[.int .i64 0, .int .i64 0, .int .i64 0, .int .i64 0, .int .i64 0, .int .i64 0, .int .i64 0, .int .i64 0, .int .i64 0, .int .i64 0, .string ⟨#[]⟩, .bool false, .bool false] 41)).size (.cells #[] 3))
  have O0 : Hid (Own .i64 3 (((w.alloc (.cells #[.int .i64 n, .int .i64 a, .int .i64 0, .int .i64 x.g0, .int .i64 x.g1, .int .i64 x.g2, .int .i64 x.g3, .int .i64 x.l, .int .i64 x.s, .int .i64 x.d, .string ⟨#[]⟩, .bool false, .bool false] 41)).alloc (.cells #[.int .i64 0, .int .i64 0, .int .i64 0, .int .i64 0, .int .i64 0, .int .i64 0, .int .i64 0, .int .i64 0, .int .i64 0, .int .i64 0, .string ⟨#[]⟩, .bool false, .bool false] 41)).alloc (.cells #[] 3)) w.heap.size (.slice (some ⟨w.heap.size + 2, 0, none⟩) 0 0) []) := Lib.hid (by
    have h := Own.lit .i64 3 ((w.alloc (.cells #[.int .i64 n, .int .i64 a, .int .i64 0, .int .i64 x.g0, .int .i64 x.g1, .int .i64 x.g2, .int .i64 x.g3, .int .i64 x.l, .int .i64 x.s, .int .i64 x.d, .string ⟨#[]⟩, .bool false, .bool false] 41)).alloc (.cells #[.int .i64 0, .int .i64 0, .int .i64 0, .int .i64 0, .int .i64 0, .int .i64 0, .int .i64 0, .int .i64 0, .int .i64 0, .int .i64 0, .string ⟨#[]⟩, .bool false, .bool false] 41)) w.heap.size [] (by simp; omega) (by simp)
    rw [show ((w.alloc (.cells #[.int .i64 n, .int .i64 a, .int .i64 0, .int .i64 x.g0, .int .i64 x.g1, .int .i64 x.g2, .int .i64 x.g3, .int .i64 x.l, .int .i64 x.s, .int .i64 x.d, .string ⟨#[]⟩, .bool false, .bool false] 41)).alloc (.cells #[.int .i64 0, .int .i64 0, .int .i64 0, .int .i64 0, .int .i64 0, .int .i64 0, .int .i64 0, .int .i64 0, .int .i64 0, .int .i64 0, .string ⟨#[]⟩, .bool false, .bool false] 41)).heap.size = w.heap.size + 2 by simp] at h
    exact h)
  have v1 : (s.size : Int) < ((prHead n).size : Int) := by omega
  have v2 : (s.size : Int) ≤ ((prHead n).size : Int) := by omega
  have e2 : ((prHead n).extract 0 s.size).toList == s.toList := by rw [pre_some h1, decide_eq_true h1, h2]; rfl
  have e3 : (((prHead n).extract 0 s.size).toList == s.toList) = true := e2
  clear h1 h2 e2 hr ht
  go_enter Tryz.func44, Tryz.ntmps44
  go_wp2_with fail
  refine (HPf.out _).mono ?_
  clear hcat
  generalize ((w.alloc (.cells #[.int .i64 n, .int .i64 a, .int .i64 0, .int .i64 x.g0, .int .i64 x.g1, .int .i64 x.g2, .int .i64 x.g3, .int .i64 x.l, .int .i64 x.s, .int .i64 x.d, .string ⟨#[]⟩, .bool false, .bool false] 41)).alloc (.cells #[.int .i64 0, .int .i64 0, .int .i64 0, .int .i64 0, .int .i64 0, .int .i64 0, .int .i64 0, .int .i64 0, .int .i64 0, .int .i64 0, .string ⟨#[]⟩, .bool false, .bool false] 41)).alloc (.cells #[] 3) = W at *
  rintro e w1 ⟨pv, rfl, hpv, b1⟩
  obtain ⟨pg, pc, rfl⟩ := hpv.form
  have hf1 := hfd (.slice (some ⟨pg, 0, none⟩) 4 pc) w1
  rw [HPv.out]
  have D1 := Lib.hid (D0.out.keep b1)
  have R1 := Lib.hid (R0.out.keep b1)
  have B1 := Lib.hid (B0.out.trans (b1.mono B0.out.size))
  have O1 := Lib.hid (O0.out.all b1)
  clear b1 hpv D0 R0 B0 O0
  have hV3 := O1.out.apart D1.out (by decide)
  have hV1 := O1.out.apart R1.out (by decide)
  have ⟨d0, d1, d2, d3, d4, d5, d6, d7, d8, d9, d10, d11, d12⟩ := deCells D1.out
  have ⟨z0, z1, z2, z3, z4, z5, z6, z7, z8, z9, z10, z11, z12⟩ := D1.out.thaw
  have ⟨r0, r1, r2, r3, r4, r5, r6, r7, r8, r9, r10, r11, r12⟩ := deCells R1.out
  have ⟨s0, s1, s2, s3, s4, s5, s6, s7, s8, s9, s10, s11, s12⟩ := R1.out.thaw
  have hlD := D1.out.lt
  have hlR := R1.out.lt
  have RX : Hid (DeAt (w1.setCell ⟨w.heap.size, 10, none⟩ (.string s)) (w.heap.size + 1) zeroDe) := Lib.hid (by unfold DeAt; rw [Below.heap_setCell _ _ _ _ (by simp)]; exact R1.out)
  have BX := Lib.hid (B1.out.setCell (p := ⟨w.heap.size, 10, none⟩) (show w.heap.size ≤ w.heap.size from Nat.le_refl _) (.string s))
  have OX := Lib.hid (O1.out.setD (i := 10) (u := .string s) hV3)
  generalize prHead n = hd at *
  go_wp2
  exact results_row_val (y := ⟨n, a, 0, x, s, false, false⟩) rfl rfl rfl (RX.out.put ⟨n, a, 0, x, s, false, false⟩) Tryz.underlying41 rfl (by kernel_rfl) rfl ⟨_, rfl, OX.out.putDeN hV1 ⟨n, a, 0, x, s, false, false⟩, below_putDe BX.out (by omega) ⟨n, a, 0, x, s, false, false⟩⟩

set_option maxHeartbeats 4000000 in
set_option maxRecDepth 100000 in
theorem writeFail (n a : Int) (x : St) (r : ByteArray) (t : ByteArray) (w : World) (hr : r.size ≤ 4) (ht : t.size ≤ 65536) (h1 : ¬ ((r ++ t).size < (prHead n).size ∧ hasPre (prHead n) (r ++ t) = true)) (h2 : hasPre (r ++ t) (prHead n) = false) :
    Calls Tryz.prog 44 #[.agg #[.int .i64 n, .int .i64 a, .int .i64 0, .int .i64 x.g0, .int .i64 x.g1, .int .i64 x.g2, .int .i64 x.g3, .int .i64 x.l, .int .i64 x.s, .int .i64 x.d, .string r, .bool false, .bool false], .string t] w (WrDone ⟨⟨n, a, 15, x, ⟨#[]⟩, false, true⟩, []⟩ w) := by
  have hcat := fun w => cat_run r t (by omega) w
  have hsz : (r ++ t).size ≤ 65540 := by rw [ByteArray.size_append]; omega
  have HPf := Lib.hid (fun w => spec_l05Profile n w)
  have HPv : Hid (∀ v, prV n v = .agg #[.string (prName n), .string (prHead n), v, .bool (prRight n), .bool (prShifts n), .bool (prSingle n), .bool (prReset n), .bool (prClear n)]) := Lib.hid (fun _ => rfl)
  have hfd : ∀ v w, (Instr.field 60 (prV n v) 1).run Tryz.prog w = .ok (.string (prHead n)) w := fun _ _ => by kernel_rfl
  have HH := Lib.hid (fun v w => spec_l06Header n v (r ++ t) w)
  unfold prV at hfd HH
  generalize r ++ t = s at *
  have D0 : Hid (DeAt (((w.alloc (.cells #[.int .i64 n, .int .i64 a, .int .i64 0, .int .i64 x.g0, .int .i64 x.g1, .int .i64 x.g2, .int .i64 x.g3, .int .i64 x.l, .int .i64 x.s, .int .i64 x.d, .string ⟨#[]⟩, .bool false, .bool false] 41)).alloc (.cells #[.int .i64 0, .int .i64 0, .int .i64 0, .int .i64 0, .int .i64 0, .int .i64 0, .int .i64 0, .int .i64 0, .int .i64 0, .int .i64 0, .string ⟨#[]⟩, .bool false, .bool false] 41)).alloc (.cells #[] 3)) w.heap.size ⟨n, a, 0, x, ⟨#[]⟩, false, false⟩) := Lib.hid ((DeAt.new w ⟨n, a, 0, x, ⟨#[]⟩, false, false⟩).keep (below_two _ _ _))
  have R0 : Hid (DeAt (((w.alloc (.cells #[.int .i64 n, .int .i64 a, .int .i64 0, .int .i64 x.g0, .int .i64 x.g1, .int .i64 x.g2, .int .i64 x.g3, .int .i64 x.l, .int .i64 x.s, .int .i64 x.d, .string ⟨#[]⟩, .bool false, .bool false] 41)).alloc (.cells #[.int .i64 0, .int .i64 0, .int .i64 0, .int .i64 0, .int .i64 0, .int .i64 0, .int .i64 0, .int .i64 0, .int .i64 0, .int .i64 0, .string ⟨#[]⟩, .bool false, .bool false] 41)).alloc (.cells #[] 3)) (w.heap.size + 1) zeroDe) := Lib.hid ((show DeAt ((w.alloc (.cells #[.int .i64 n, .int .i64 a, .int .i64 0, .int .i64 x.g0, .int .i64 x.g1, .int .i64 x.g2, .int .i64 x.g3, .int .i64 x.l, .int .i64 x.s, .int .i64 x.d, .string ⟨#[]⟩, .bool false, .bool false] 41)).alloc (.cells #[.int .i64 0, .int .i64 0, .int .i64 0, .int .i64 0, .int .i64 0, .int .i64 0, .int .i64 0, .int .i64 0, .int .i64 0, .int .i64 0, .string ⟨#[]⟩, .bool false, .bool false] 41)) (w.heap.size + 1) zeroDe from heap_alloc2_new _ _ _).keep (below_one _ _))
  have B0 := Lib.hid ((below_two w (.cells #[.int .i64 n, .int .i64 a, .int .i64 0, .int .i64 x.g0, .int .i64 x.g1, .int .i64 x.g2, .int .i64 x.g3, .int .i64 x.l, .int .i64 x.s, .int .i64 x.d, .string ⟨#[]⟩, .bool false, .bool false] 41) (.cells #[.int .i64 0, .int .i64 0, .int .i64 0, .int .i64 0, .int .i64 0, .int .i64 0, .int .i64 0, .int .i64 0, .int .i64 0, .int .i64 0, .string ⟨#[]⟩, .bool false, .bool false] 41)).alloc (below_two w (.cells #[.int .i64 n, .int .i64 a, .int .i64 0, .int .i64 x.g0, .int .i64 x.g1, .int .i64 x.g2, .int .i64 x.g3, .int .i64 x.l, .int .i64 x.s, .int .i64 x.d, .string ⟨#[]⟩, .bool false, .bool false] 41) (.cells #[.int .i64 0, .int .i64 0, .int .i64 0, .int .i64 0, .int .i64 0, .int .i64 0, .int .i64 0, .int .i64 0, .int .i64 0, .int .i64 0, .string ⟨#[]⟩, .bool false, .bool false] 41)).size (.cells #[] 3))
  have O0 : Hid (Own .i64 3 (((w.alloc (.cells #[.int .i64 n, .int .i64 a, .int .i64 0, .int .i64 x.g0, .int .i64 x.g1, .int .i64 x.g2, .int .i64 x.g3, .int .i64 x.l, .int .i64 x.s, .int .i64 x.d, .string ⟨#[]⟩, .bool false, .bool false] 41)).alloc (.cells #[.int .i64 0, .int .i64 0, .int .i64 0, .int .i64 0, .int .i64 0, .int .i64 0, .int .i64 0, .int .i64 0, .int .i64 0, .int .i64 0, .string ⟨#[]⟩, .bool false, .bool false] 41)).alloc (.cells #[] 3)) w.heap.size (.slice (some ⟨w.heap.size + 2, 0, none⟩) 0 0) []) := Lib.hid (by
    have h := Own.lit .i64 3 ((w.alloc (.cells #[.int .i64 n, .int .i64 a, .int .i64 0, .int .i64 x.g0, .int .i64 x.g1, .int .i64 x.g2, .int .i64 x.g3, .int .i64 x.l, .int .i64 x.s, .int .i64 x.d, .string ⟨#[]⟩, .bool false, .bool false] 41)).alloc (.cells #[.int .i64 0, .int .i64 0, .int .i64 0, .int .i64 0, .int .i64 0, .int .i64 0, .int .i64 0, .int .i64 0, .int .i64 0, .int .i64 0, .string ⟨#[]⟩, .bool false, .bool false] 41)) w.heap.size [] (by simp; omega) (by simp)
    rw [show ((w.alloc (.cells #[.int .i64 n, .int .i64 a, .int .i64 0, .int .i64 x.g0, .int .i64 x.g1, .int .i64 x.g2, .int .i64 x.g3, .int .i64 x.l, .int .i64 x.s, .int .i64 x.d, .string ⟨#[]⟩, .bool false, .bool false] 41)).alloc (.cells #[.int .i64 0, .int .i64 0, .int .i64 0, .int .i64 0, .int .i64 0, .int .i64 0, .int .i64 0, .int .i64 0, .int .i64 0, .int .i64 0, .string ⟨#[]⟩, .bool false, .bool false] 41)).heap.size = w.heap.size + 2 by simp] at h
    exact h)
  have HFl := Lib.hid (fun w => spec_l08Fail ⟨n, a, 0, x, ⟨#[]⟩, false, false⟩ 15 w)
  unfold DeDone deV failD at HFl
  dsimp only at HFl
  have hh : headB n s = false := h2
  rw [hh] at HH
  clear h2 hh
  by_cases hlt : s.size < (prHead n).size
  · have v1 : (s.size : Int) < ((prHead n).size : Int) := by omega
    have v2 : (s.size : Int) ≤ ((prHead n).size : Int) := by omega
    have e3 : (((prHead n).extract 0 s.size).toList == s.toList) = false := by
      rw [pre_some hlt, decide_eq_true hlt, Bool.true_and]
      cases hp : hasPre (prHead n) s
      · rfl
      · exact absurd ⟨hlt, hp⟩ h1
    clear h1 hlt hr ht
    go_enter Tryz.func44, Tryz.ntmps44
    go_wp2_with fail
    refine (HPf.out _).mono ?_
    clear hcat
    generalize ((w.alloc (.cells #[.int .i64 n, .int .i64 a, .int .i64 0, .int .i64 x.g0, .int .i64 x.g1, .int .i64 x.g2, .int .i64 x.g3, .int .i64 x.l, .int .i64 x.s, .int .i64 x.d, .string ⟨#[]⟩, .bool false, .bool false] 41)).alloc (.cells #[.int .i64 0, .int .i64 0, .int .i64 0, .int .i64 0, .int .i64 0, .int .i64 0, .int .i64 0, .int .i64 0, .int .i64 0, .int .i64 0, .string ⟨#[]⟩, .bool false, .bool false] 41)).alloc (.cells #[] 3) = W at *
    rintro e w1 ⟨pv, rfl, hpv, b1⟩
    obtain ⟨pg, pc, rfl⟩ := hpv.form
    have hf1 := hfd (.slice (some ⟨pg, 0, none⟩) 4 pc) w1
    rw [HPv.out]
    have D1 := Lib.hid (D0.out.keep b1)
    have R1 := Lib.hid (R0.out.keep b1)
    have B1 := Lib.hid (B0.out.trans (b1.mono B0.out.size))
    have O1 := Lib.hid (O0.out.all b1)
    clear b1 hpv D0 R0 B0 O0
    have hV3 := O1.out.apart D1.out (by decide)
    have hV1 := O1.out.apart R1.out (by decide)
    generalize prHead n = hd at *
    have ⟨d0, d1, d2, d3, d4, d5, d6, d7, d8, d9, d10, d11, d12⟩ := deCells D1.out
    go_wp2_with fail
    refine (HPf.out _).mono ?_
    rintro e w2 ⟨pw, rfl, hpw, b2⟩
    obtain ⟨qg, qc, rfl⟩ := hpw.form
    rw [HPv.out]
    clear d0 d1 d2 d3 d4 d5 d6 d7 d8 d9 d10 d11 d12
    have D2 := Lib.hid (D1.out.keep b2)
    have R2 := Lib.hid (R1.out.keep b2)
    have B2 := Lib.hid (B1.out.trans (b2.mono B1.out.size))
    have O2 := Lib.hid (O1.out.all b2)
    clear b2 hpw D1 R1 B1 O1
    go_wp2_with fail
    refine (HH.out _ _).mono ?_
    rintro e w3 ⟨rfl, b3⟩
    have D3 := Lib.hid (D2.out.keep b3)
    have R3 := Lib.hid (R2.out.keep b3)
    have B3 := Lib.hid (B2.out.trans (b3.mono B2.out.size))
    have O3 := Lib.hid (O2.out.all b3)
    clear b3 D2 R2 B2 O2
    have ⟨d0, d1, d2, d3, d4, d5, d6, d7, d8, d9, d10, d11, d12⟩ := deCells D3.out
    go_wp2_with fail
    refine (HFl.out _).mono ?_
    rintro e w4 ⟨rfl, b4⟩
    clear d0 d1 d2 d3 d4 d5 d6 d7 d8 d9 d10 d11 d12
    have R4 := Lib.hid (R3.out.keep b4)
    have B4 := Lib.hid (B3.out.trans (b4.mono B3.out.size))
    have O4 := Lib.hid (O3.out.all b4)
    clear b4 D3 R3 B3 O3
    have ⟨r0, r1, r2, r3, r4, r5, r6, r7, r8, r9, r10, r11, r12⟩ := deCells R4.out
    have ⟨s0, s1, s2, s3, s4, s5, s6, s7, s8, s9, s10, s11, s12⟩ := R4.out.thaw
    have hlR := R4.out.lt
    go_wp2
    exact results_row_val (y := ⟨n, a, 15, x, ⟨#[]⟩, false, true⟩) rfl rfl rfl (R4.out.put ⟨n, a, 15, x, ⟨#[]⟩, false, true⟩) Tryz.underlying41 rfl (by kernel_rfl) rfl ⟨_, rfl, O4.out.putDeN hV1 ⟨n, a, 15, x, ⟨#[]⟩, false, true⟩, below_putDe B4.out (by omega) ⟨n, a, 15, x, ⟨#[]⟩, false, true⟩⟩
  · have v1 : ¬ (s.size : Int) < ((prHead n).size : Int) := by omega
    clear h1 hlt hr ht
    go_enter Tryz.func44, Tryz.ntmps44
    go_wp2_with fail
    refine (HPf.out _).mono ?_
    clear hcat
    generalize ((w.alloc (.cells #[.int .i64 n, .int .i64 a, .int .i64 0, .int .i64 x.g0, .int .i64 x.g1, .int .i64 x.g2, .int .i64 x.g3, .int .i64 x.l, .int .i64 x.s, .int .i64 x.d, .string ⟨#[]⟩, .bool false, .bool false] 41)).alloc (.cells #[.int .i64 0, .int .i64 0, .int .i64 0, .int .i64 0, .int .i64 0, .int .i64 0, .int .i64 0, .int .i64 0, .int .i64 0, .int .i64 0, .string ⟨#[]⟩, .bool false, .bool false] 41)).alloc (.cells #[] 3) = W at *
    rintro e w1 ⟨pv, rfl, hpv, b1⟩
    obtain ⟨pg, pc, rfl⟩ := hpv.form
    have hf1 := hfd (.slice (some ⟨pg, 0, none⟩) 4 pc) w1
    rw [HPv.out]
    have D1 := Lib.hid (D0.out.keep b1)
    have R1 := Lib.hid (R0.out.keep b1)
    have B1 := Lib.hid (B0.out.trans (b1.mono B0.out.size))
    have O1 := Lib.hid (O0.out.all b1)
    clear b1 hpv D0 R0 B0 O0
    have hV3 := O1.out.apart D1.out (by decide)
    have hV1 := O1.out.apart R1.out (by decide)
    generalize prHead n = hd at *
    have ⟨d0, d1, d2, d3, d4, d5, d6, d7, d8, d9, d10, d11, d12⟩ := deCells D1.out
    go_wp2_with fail
    refine (HPf.out _).mono ?_
    rintro e w2 ⟨pw, rfl, hpw, b2⟩
    obtain ⟨qg, qc, rfl⟩ := hpw.form
    rw [HPv.out]
    clear d0 d1 d2 d3 d4 d5 d6 d7 d8 d9 d10 d11 d12
    have D2 := Lib.hid (D1.out.keep b2)
    have R2 := Lib.hid (R1.out.keep b2)
    have B2 := Lib.hid (B1.out.trans (b2.mono B1.out.size))
    have O2 := Lib.hid (O1.out.all b2)
    clear b2 hpw D1 R1 B1 O1
    go_wp2_with fail
    refine (HH.out _ _).mono ?_
    rintro e w3 ⟨rfl, b3⟩
    have D3 := Lib.hid (D2.out.keep b3)
    have R3 := Lib.hid (R2.out.keep b3)
    have B3 := Lib.hid (B2.out.trans (b3.mono B2.out.size))
    have O3 := Lib.hid (O2.out.all b3)
    clear b3 D2 R2 B2 O2
    have ⟨d0, d1, d2, d3, d4, d5, d6, d7, d8, d9, d10, d11, d12⟩ := deCells D3.out
    go_wp2_with fail
    refine (HFl.out _).mono ?_
    rintro e w4 ⟨rfl, b4⟩
    clear d0 d1 d2 d3 d4 d5 d6 d7 d8 d9 d10 d11 d12
    have R4 := Lib.hid (R3.out.keep b4)
    have B4 := Lib.hid (B3.out.trans (b4.mono B3.out.size))
    have O4 := Lib.hid (O3.out.all b4)
    clear b4 D3 R3 B3 O3
    have ⟨r0, r1, r2, r3, r4, r5, r6, r7, r8, r9, r10, r11, r12⟩ := deCells R4.out
    have ⟨s0, s1, s2, s3, s4, s5, s6, s7, s8, s9, s10, s11, s12⟩ := R4.out.thaw
    have hlR := R4.out.lt
    go_wp2
    exact results_row_val (y := ⟨n, a, 15, x, ⟨#[]⟩, false, true⟩) rfl rfl rfl (R4.out.put ⟨n, a, 15, x, ⟨#[]⟩, false, true⟩) Tryz.underlying41 rfl (by kernel_rfl) rfl ⟨_, rfl, O4.out.putDeN hV1 ⟨n, a, 15, x, ⟨#[]⟩, false, true⟩, below_putDe B4.out (by omega) ⟨n, a, 15, x, ⟨#[]⟩, false, true⟩⟩

set_option maxHeartbeats 4000000 in
set_option maxRecDepth 100000 in
theorem writeNone (n a : Int) (x : St) (r : ByteArray) (t : ByteArray) (w : World) (hr : r.size ≤ 4) (ht : t.size ≤ 65536) (h1 : ¬ ((r ++ t).size < (prHead n).size ∧ hasPre (prHead n) (r ++ t) = true)) (h2 : hasPre (r ++ t) (prHead n) = true) (h3 : (r ++ t).size = 0) :
    Calls Tryz.prog 44 #[.agg #[.int .i64 n, .int .i64 a, .int .i64 0, .int .i64 x.g0, .int .i64 x.g1, .int .i64 x.g2, .int .i64 x.g3, .int .i64 x.l, .int .i64 x.s, .int .i64 x.d, .string r, .bool false, .bool false], .string t] w (WrDone ⟨⟨n, a, 0, x, ⟨#[]⟩, false, false⟩, []⟩ w) := by
  have hcat := fun w => cat_run r t (by omega) w
  have hsz : (r ++ t).size ≤ 65540 := by rw [ByteArray.size_append]; omega
  have HPf := Lib.hid (fun w => spec_l05Profile n w)
  have HPv : Hid (∀ v, prV n v = .agg #[.string (prName n), .string (prHead n), v, .bool (prRight n), .bool (prShifts n), .bool (prSingle n), .bool (prReset n), .bool (prClear n)]) := Lib.hid (fun _ => rfl)
  have hfd : ∀ v w, (Instr.field 60 (prV n v) 1).run Tryz.prog w = .ok (.string (prHead n)) w := fun _ _ => by kernel_rfl
  have HH := Lib.hid (fun v w => spec_l06Header n v (r ++ t) w)
  unfold prV at hfd HH
  generalize r ++ t = s at *
  have D0 : Hid (DeAt (((w.alloc (.cells #[.int .i64 n, .int .i64 a, .int .i64 0, .int .i64 x.g0, .int .i64 x.g1, .int .i64 x.g2, .int .i64 x.g3, .int .i64 x.l, .int .i64 x.s, .int .i64 x.d, .string ⟨#[]⟩, .bool false, .bool false] 41)).alloc (.cells #[.int .i64 0, .int .i64 0, .int .i64 0, .int .i64 0, .int .i64 0, .int .i64 0, .int .i64 0, .int .i64 0, .int .i64 0, .int .i64 0, .string ⟨#[]⟩, .bool false, .bool false] 41)).alloc (.cells #[] 3)) w.heap.size ⟨n, a, 0, x, ⟨#[]⟩, false, false⟩) := Lib.hid ((DeAt.new w ⟨n, a, 0, x, ⟨#[]⟩, false, false⟩).keep (below_two _ _ _))
  have R0 : Hid (DeAt (((w.alloc (.cells #[.int .i64 n, .int .i64 a, .int .i64 0, .int .i64 x.g0, .int .i64 x.g1, .int .i64 x.g2, .int .i64 x.g3, .int .i64 x.l, .int .i64 x.s, .int .i64 x.d, .string ⟨#[]⟩, .bool false, .bool false] 41)).alloc (.cells #[.int .i64 0, .int .i64 0, .int .i64 0, .int .i64 0, .int .i64 0, .int .i64 0, .int .i64 0, .int .i64 0, .int .i64 0, .int .i64 0, .string ⟨#[]⟩, .bool false, .bool false] 41)).alloc (.cells #[] 3)) (w.heap.size + 1) zeroDe) := Lib.hid ((show DeAt ((w.alloc (.cells #[.int .i64 n, .int .i64 a, .int .i64 0, .int .i64 x.g0, .int .i64 x.g1, .int .i64 x.g2, .int .i64 x.g3, .int .i64 x.l, .int .i64 x.s, .int .i64 x.d, .string ⟨#[]⟩, .bool false, .bool false] 41)).alloc (.cells #[.int .i64 0, .int .i64 0, .int .i64 0, .int .i64 0, .int .i64 0, .int .i64 0, .int .i64 0, .int .i64 0, .int .i64 0, .int .i64 0, .string ⟨#[]⟩, .bool false, .bool false] 41)) (w.heap.size + 1) zeroDe from heap_alloc2_new _ _ _).keep (below_one _ _))
  have B0 := Lib.hid ((below_two w (.cells #[.int .i64 n, .int .i64 a, .int .i64 0, .int .i64 x.g0, .int .i64 x.g1, .int .i64 x.g2, .int .i64 x.g3, .int .i64 x.l, .int .i64 x.s, .int .i64 x.d, .string ⟨#[]⟩, .bool false, .bool false] 41) (.cells #[.int .i64 0, .int .i64 0, .int .i64 0, .int .i64 0, .int .i64 0, .int .i64 0, .int .i64 0, .int .i64 0, .int .i64 0, .int .i64 0, .string ⟨#[]⟩, .bool false, .bool false] 41)).alloc (below_two w (.cells #[.int .i64 n, .int .i64 a, .int .i64 0, .int .i64 x.g0, .int .i64 x.g1, .int .i64 x.g2, .int .i64 x.g3, .int .i64 x.l, .int .i64 x.s, .int .i64 x.d, .string ⟨#[]⟩, .bool false, .bool false] 41) (.cells #[.int .i64 0, .int .i64 0, .int .i64 0, .int .i64 0, .int .i64 0, .int .i64 0, .int .i64 0, .int .i64 0, .int .i64 0, .int .i64 0, .string ⟨#[]⟩, .bool false, .bool false] 41)).size (.cells #[] 3))
  have O0 : Hid (Own .i64 3 (((w.alloc (.cells #[.int .i64 n, .int .i64 a, .int .i64 0, .int .i64 x.g0, .int .i64 x.g1, .int .i64 x.g2, .int .i64 x.g3, .int .i64 x.l, .int .i64 x.s, .int .i64 x.d, .string ⟨#[]⟩, .bool false, .bool false] 41)).alloc (.cells #[.int .i64 0, .int .i64 0, .int .i64 0, .int .i64 0, .int .i64 0, .int .i64 0, .int .i64 0, .int .i64 0, .int .i64 0, .int .i64 0, .string ⟨#[]⟩, .bool false, .bool false] 41)).alloc (.cells #[] 3)) w.heap.size (.slice (some ⟨w.heap.size + 2, 0, none⟩) 0 0) []) := Lib.hid (by
    have h := Own.lit .i64 3 ((w.alloc (.cells #[.int .i64 n, .int .i64 a, .int .i64 0, .int .i64 x.g0, .int .i64 x.g1, .int .i64 x.g2, .int .i64 x.g3, .int .i64 x.l, .int .i64 x.s, .int .i64 x.d, .string ⟨#[]⟩, .bool false, .bool false] 41)).alloc (.cells #[.int .i64 0, .int .i64 0, .int .i64 0, .int .i64 0, .int .i64 0, .int .i64 0, .int .i64 0, .int .i64 0, .int .i64 0, .int .i64 0, .string ⟨#[]⟩, .bool false, .bool false] 41)) w.heap.size [] (by simp; omega) (by simp)
    rw [show ((w.alloc (.cells #[.int .i64 n, .int .i64 a, .int .i64 0, .int .i64 x.g0, .int .i64 x.g1, .int .i64 x.g2, .int .i64 x.g3, .int .i64 x.l, .int .i64 x.s, .int .i64 x.d, .string ⟨#[]⟩, .bool false, .bool false] 41)).alloc (.cells #[.int .i64 0, .int .i64 0, .int .i64 0, .int .i64 0, .int .i64 0, .int .i64 0, .int .i64 0, .int .i64 0, .int .i64 0, .int .i64 0, .string ⟨#[]⟩, .bool false, .bool false] 41)).heap.size = w.heap.size + 2 by simp] at h
    exact h)
  have hh : headB n s = true := h2
  have e0 := empty_size h3
  rw [hh] at HH
  clear h2 hh h3
  by_cases hlt : s.size < (prHead n).size
  · have v1 : (s.size : Int) < ((prHead n).size : Int) := by omega
    have v2 : (s.size : Int) ≤ ((prHead n).size : Int) := by omega
    have e3 : (((prHead n).extract 0 s.size).toList == s.toList) = false := by
      rw [pre_some hlt, decide_eq_true hlt, Bool.true_and]
      cases hp : hasPre (prHead n) s
      · rfl
      · exact absurd ⟨hlt, hp⟩ h1
    clear h1 hlt hr ht
    go_enter Tryz.func44, Tryz.ntmps44
    go_wp2_with fail
    refine (HPf.out _).mono ?_
    clear hcat
    generalize ((w.alloc (.cells #[.int .i64 n, .int .i64 a, .int .i64 0, .int .i64 x.g0, .int .i64 x.g1, .int .i64 x.g2, .int .i64 x.g3, .int .i64 x.l, .int .i64 x.s, .int .i64 x.d, .string ⟨#[]⟩, .bool false, .bool false] 41)).alloc (.cells #[.int .i64 0, .int .i64 0, .int .i64 0, .int .i64 0, .int .i64 0, .int .i64 0, .int .i64 0, .int .i64 0, .int .i64 0, .int .i64 0, .string ⟨#[]⟩, .bool false, .bool false] 41)).alloc (.cells #[] 3) = W at *
    rintro e w1 ⟨pv, rfl, hpv, b1⟩
    obtain ⟨pg, pc, rfl⟩ := hpv.form
    have hf1 := hfd (.slice (some ⟨pg, 0, none⟩) 4 pc) w1
    rw [HPv.out]
    have D1 := Lib.hid (D0.out.keep b1)
    have R1 := Lib.hid (R0.out.keep b1)
    have B1 := Lib.hid (B0.out.trans (b1.mono B0.out.size))
    have O1 := Lib.hid (O0.out.all b1)
    clear b1 hpv D0 R0 B0 O0
    have hV3 := O1.out.apart D1.out (by decide)
    have hV1 := O1.out.apart R1.out (by decide)
    generalize prHead n = hd at *
    have ⟨d0, d1, d2, d3, d4, d5, d6, d7, d8, d9, d10, d11, d12⟩ := deCells D1.out
    go_wp2_with fail
    refine (HPf.out _).mono ?_
    rintro e w2 ⟨pw, rfl, hpw, b2⟩
    obtain ⟨qg, qc, rfl⟩ := hpw.form
    rw [HPv.out]
    clear d0 d1 d2 d3 d4 d5 d6 d7 d8 d9 d10 d11 d12
    have D2 := Lib.hid (D1.out.keep b2)
    have R2 := Lib.hid (R1.out.keep b2)
    have B2 := Lib.hid (B1.out.trans (b2.mono B1.out.size))
    have O2 := Lib.hid (O1.out.all b2)
    clear b2 hpw D1 R1 B1 O1
    go_wp2_with fail
    refine (HH.out _ _).mono ?_
    rintro e w3 ⟨rfl, b3⟩
    have D3 := Lib.hid (D2.out.keep b3)
    have R3 := Lib.hid (R2.out.keep b3)
    have B3 := Lib.hid (B2.out.trans (b3.mono B2.out.size))
    have O3 := Lib.hid (O2.out.all b3)
    clear b3 D2 R2 B2 O2
    have ⟨d0, d1, d2, d3, d4, d5, d6, d7, d8, d9, d10, d11, d12⟩ := deCells D3.out
    have ⟨z0, z1, z2, z3, z4, z5, z6, z7, z8, z9, z10, z11, z12⟩ := D3.out.thaw
    have ⟨r0, r1, r2, r3, r4, r5, r6, r7, r8, r9, r10, r11, r12⟩ := deCells R3.out
    have ⟨s0, s1, s2, s3, s4, s5, s6, s7, s8, s9, s10, s11, s12⟩ := R3.out.thaw
    have hlD := D3.out.lt
    have hlR := R3.out.lt
    go_wp2
    exact results_row_val (y := ⟨n, a, 0, x, ⟨#[]⟩, false, false⟩) rfl rfl rfl (R3.out.put ⟨n, a, 0, x, ⟨#[]⟩, false, false⟩) Tryz.underlying41 rfl (by kernel_rfl) rfl ⟨_, rfl, O3.out.putDeN hV1 ⟨n, a, 0, x, ⟨#[]⟩, false, false⟩, below_putDe B3.out (by omega) ⟨n, a, 0, x, ⟨#[]⟩, false, false⟩⟩
  · have v1 : ¬ (s.size : Int) < ((prHead n).size : Int) := by omega
    clear h1 hlt hr ht
    go_enter Tryz.func44, Tryz.ntmps44
    go_wp2_with fail
    refine (HPf.out _).mono ?_
    clear hcat
    generalize ((w.alloc (.cells #[.int .i64 n, .int .i64 a, .int .i64 0, .int .i64 x.g0, .int .i64 x.g1, .int .i64 x.g2, .int .i64 x.g3, .int .i64 x.l, .int .i64 x.s, .int .i64 x.d, .string ⟨#[]⟩, .bool false, .bool false] 41)).alloc (.cells #[.int .i64 0, .int .i64 0, .int .i64 0, .int .i64 0, .int .i64 0, .int .i64 0, .int .i64 0, .int .i64 0, .int .i64 0, .int .i64 0, .string ⟨#[]⟩, .bool false, .bool false] 41)).alloc (.cells #[] 3) = W at *
    rintro e w1 ⟨pv, rfl, hpv, b1⟩
    obtain ⟨pg, pc, rfl⟩ := hpv.form
    have hf1 := hfd (.slice (some ⟨pg, 0, none⟩) 4 pc) w1
    rw [HPv.out]
    have D1 := Lib.hid (D0.out.keep b1)
    have R1 := Lib.hid (R0.out.keep b1)
    have B1 := Lib.hid (B0.out.trans (b1.mono B0.out.size))
    have O1 := Lib.hid (O0.out.all b1)
    clear b1 hpv D0 R0 B0 O0
    have hV3 := O1.out.apart D1.out (by decide)
    have hV1 := O1.out.apart R1.out (by decide)
    generalize prHead n = hd at *
    have ⟨d0, d1, d2, d3, d4, d5, d6, d7, d8, d9, d10, d11, d12⟩ := deCells D1.out
    go_wp2_with fail
    refine (HPf.out _).mono ?_
    rintro e w2 ⟨pw, rfl, hpw, b2⟩
    obtain ⟨qg, qc, rfl⟩ := hpw.form
    rw [HPv.out]
    clear d0 d1 d2 d3 d4 d5 d6 d7 d8 d9 d10 d11 d12
    have D2 := Lib.hid (D1.out.keep b2)
    have R2 := Lib.hid (R1.out.keep b2)
    have B2 := Lib.hid (B1.out.trans (b2.mono B1.out.size))
    have O2 := Lib.hid (O1.out.all b2)
    clear b2 hpw D1 R1 B1 O1
    go_wp2_with fail
    refine (HH.out _ _).mono ?_
    rintro e w3 ⟨rfl, b3⟩
    have D3 := Lib.hid (D2.out.keep b3)
    have R3 := Lib.hid (R2.out.keep b3)
    have B3 := Lib.hid (B2.out.trans (b3.mono B2.out.size))
    have O3 := Lib.hid (O2.out.all b3)
    clear b3 D2 R2 B2 O2
    have ⟨d0, d1, d2, d3, d4, d5, d6, d7, d8, d9, d10, d11, d12⟩ := deCells D3.out
    have ⟨z0, z1, z2, z3, z4, z5, z6, z7, z8, z9, z10, z11, z12⟩ := D3.out.thaw
    have ⟨r0, r1, r2, r3, r4, r5, r6, r7, r8, r9, r10, r11, r12⟩ := deCells R3.out
    have ⟨s0, s1, s2, s3, s4, s5, s6, s7, s8, s9, s10, s11, s12⟩ := R3.out.thaw
    have hlD := D3.out.lt
    have hlR := R3.out.lt
    go_wp2
    exact results_row_val (y := ⟨n, a, 0, x, ⟨#[]⟩, false, false⟩) rfl rfl rfl (R3.out.put ⟨n, a, 0, x, ⟨#[]⟩, false, false⟩) Tryz.underlying41 rfl (by kernel_rfl) rfl ⟨_, rfl, O3.out.putDeN hV1 ⟨n, a, 0, x, ⟨#[]⟩, false, false⟩, below_putDe B3.out (by omega) ⟨n, a, 0, x, ⟨#[]⟩, false, false⟩⟩

set_option maxHeartbeats 4000000 in
set_option maxRecDepth 100000 in
theorem writeAhead (n a : Int) (x : St) (r : ByteArray) (t : ByteArray) (w : World) (hr : r.size ≤ 4) (ht : t.size ≤ 65536) (h1 : ¬ ((r ++ t).size < (prHead n).size ∧ hasPre (prHead n) (r ++ t) = true)) (h2 : hasPre (r ++ t) (prHead n) = true) (h3 : 0 < (r ++ t).size) (hx : stOKB x = true) (ha : 0 ≤ a) (ha2 : a ≤ 1000000000) :
    Calls Tryz.prog 44 #[.agg #[.int .i64 n, .int .i64 a, .int .i64 0, .int .i64 x.g0, .int .i64 x.g1, .int .i64 x.g2, .int .i64 x.g3, .int .i64 x.l, .int .i64 x.s, .int .i64 x.d, .string r, .bool false, .bool false], .string t] w (WrPost n (wrT n (r ++ t) (r ++ t).size 0 a x []) w) := by
  have hcat := fun w => cat_run r t (by omega) w
  have hsz : (r ++ t).size ≤ 65540 := by rw [ByteArray.size_append]; omega
  have HPf := Lib.hid (fun w => spec_l05Profile n w)
  have HPv : Hid (∀ v, prV n v = .agg #[.string (prName n), .string (prHead n), v, .bool (prRight n), .bool (prShifts n), .bool (prSingle n), .bool (prReset n), .bool (prClear n)]) := Lib.hid (fun _ => rfl)
  have hfd : ∀ v w, (Instr.field 60 (prV n v) 1).run Tryz.prog w = .ok (.string (prHead n)) w := fun _ _ => by kernel_rfl
  have HH := Lib.hid (fun v w => spec_l06Header n v (r ++ t) w)
  unfold prV at hfd HH
  generalize r ++ t = s at *
  have D0 : Hid (DeAt (((w.alloc (.cells #[.int .i64 n, .int .i64 a, .int .i64 0, .int .i64 x.g0, .int .i64 x.g1, .int .i64 x.g2, .int .i64 x.g3, .int .i64 x.l, .int .i64 x.s, .int .i64 x.d, .string ⟨#[]⟩, .bool false, .bool false] 41)).alloc (.cells #[.int .i64 0, .int .i64 0, .int .i64 0, .int .i64 0, .int .i64 0, .int .i64 0, .int .i64 0, .int .i64 0, .int .i64 0, .int .i64 0, .string ⟨#[]⟩, .bool false, .bool false] 41)).alloc (.cells #[] 3)) w.heap.size ⟨n, a, 0, x, ⟨#[]⟩, false, false⟩) := Lib.hid ((DeAt.new w ⟨n, a, 0, x, ⟨#[]⟩, false, false⟩).keep (below_two _ _ _))
  have R0 : Hid (DeAt (((w.alloc (.cells #[.int .i64 n, .int .i64 a, .int .i64 0, .int .i64 x.g0, .int .i64 x.g1, .int .i64 x.g2, .int .i64 x.g3, .int .i64 x.l, .int .i64 x.s, .int .i64 x.d, .string ⟨#[]⟩, .bool false, .bool false] 41)).alloc (.cells #[.int .i64 0, .int .i64 0, .int .i64 0, .int .i64 0, .int .i64 0, .int .i64 0, .int .i64 0, .int .i64 0, .int .i64 0, .int .i64 0, .string ⟨#[]⟩, .bool false, .bool false] 41)).alloc (.cells #[] 3)) (w.heap.size + 1) zeroDe) := Lib.hid ((show DeAt ((w.alloc (.cells #[.int .i64 n, .int .i64 a, .int .i64 0, .int .i64 x.g0, .int .i64 x.g1, .int .i64 x.g2, .int .i64 x.g3, .int .i64 x.l, .int .i64 x.s, .int .i64 x.d, .string ⟨#[]⟩, .bool false, .bool false] 41)).alloc (.cells #[.int .i64 0, .int .i64 0, .int .i64 0, .int .i64 0, .int .i64 0, .int .i64 0, .int .i64 0, .int .i64 0, .int .i64 0, .int .i64 0, .string ⟨#[]⟩, .bool false, .bool false] 41)) (w.heap.size + 1) zeroDe from heap_alloc2_new _ _ _).keep (below_one _ _))
  have B0 := Lib.hid ((below_two w (.cells #[.int .i64 n, .int .i64 a, .int .i64 0, .int .i64 x.g0, .int .i64 x.g1, .int .i64 x.g2, .int .i64 x.g3, .int .i64 x.l, .int .i64 x.s, .int .i64 x.d, .string ⟨#[]⟩, .bool false, .bool false] 41) (.cells #[.int .i64 0, .int .i64 0, .int .i64 0, .int .i64 0, .int .i64 0, .int .i64 0, .int .i64 0, .int .i64 0, .int .i64 0, .int .i64 0, .string ⟨#[]⟩, .bool false, .bool false] 41)).alloc (below_two w (.cells #[.int .i64 n, .int .i64 a, .int .i64 0, .int .i64 x.g0, .int .i64 x.g1, .int .i64 x.g2, .int .i64 x.g3, .int .i64 x.l, .int .i64 x.s, .int .i64 x.d, .string ⟨#[]⟩, .bool false, .bool false] 41) (.cells #[.int .i64 0, .int .i64 0, .int .i64 0, .int .i64 0, .int .i64 0, .int .i64 0, .int .i64 0, .int .i64 0, .int .i64 0, .int .i64 0, .string ⟨#[]⟩, .bool false, .bool false] 41)).size (.cells #[] 3))
  have O0 : Hid (Own .i64 3 (((w.alloc (.cells #[.int .i64 n, .int .i64 a, .int .i64 0, .int .i64 x.g0, .int .i64 x.g1, .int .i64 x.g2, .int .i64 x.g3, .int .i64 x.l, .int .i64 x.s, .int .i64 x.d, .string ⟨#[]⟩, .bool false, .bool false] 41)).alloc (.cells #[.int .i64 0, .int .i64 0, .int .i64 0, .int .i64 0, .int .i64 0, .int .i64 0, .int .i64 0, .int .i64 0, .int .i64 0, .int .i64 0, .string ⟨#[]⟩, .bool false, .bool false] 41)).alloc (.cells #[] 3)) w.heap.size (.slice (some ⟨w.heap.size + 2, 0, none⟩) 0 0) []) := Lib.hid (by
    have h := Own.lit .i64 3 ((w.alloc (.cells #[.int .i64 n, .int .i64 a, .int .i64 0, .int .i64 x.g0, .int .i64 x.g1, .int .i64 x.g2, .int .i64 x.g3, .int .i64 x.l, .int .i64 x.s, .int .i64 x.d, .string ⟨#[]⟩, .bool false, .bool false] 41)).alloc (.cells #[.int .i64 0, .int .i64 0, .int .i64 0, .int .i64 0, .int .i64 0, .int .i64 0, .int .i64 0, .int .i64 0, .int .i64 0, .int .i64 0, .string ⟨#[]⟩, .bool false, .bool false] 41)) w.heap.size [] (by simp; omega) (by simp)
    rw [show ((w.alloc (.cells #[.int .i64 n, .int .i64 a, .int .i64 0, .int .i64 x.g0, .int .i64 x.g1, .int .i64 x.g2, .int .i64 x.g3, .int .i64 x.l, .int .i64 x.s, .int .i64 x.d, .string ⟨#[]⟩, .bool false, .bool false] 41)).alloc (.cells #[.int .i64 0, .int .i64 0, .int .i64 0, .int .i64 0, .int .i64 0, .int .i64 0, .int .i64 0, .int .i64 0, .int .i64 0, .int .i64 0, .string ⟨#[]⟩, .bool false, .bool false] 41)).heap.size = w.heap.size + 2 by simp] at h
    exact h)
  have hh : headB n s = true := h2
  have e0 := some_size h3
  have HX0 := Lib.hid hx
  rw [hh] at HH
  clear h2 hh h3 hx
  by_cases hlt : s.size < (prHead n).size
  · have v1 : (s.size : Int) < ((prHead n).size : Int) := by omega
    have v2 : (s.size : Int) ≤ ((prHead n).size : Int) := by omega
    have e3 : (((prHead n).extract 0 s.size).toList == s.toList) = false := by
      rw [pre_some hlt, decide_eq_true hlt, Bool.true_and]
      cases hp : hasPre (prHead n) s
      · rfl
      · exact absurd ⟨hlt, hp⟩ h1
    clear h1 hlt hr ht
    go_enter Tryz.func44, Tryz.ntmps44
    go_wp2_with fail
    refine (HPf.out _).mono ?_
    clear hcat
    generalize ((w.alloc (.cells #[.int .i64 n, .int .i64 a, .int .i64 0, .int .i64 x.g0, .int .i64 x.g1, .int .i64 x.g2, .int .i64 x.g3, .int .i64 x.l, .int .i64 x.s, .int .i64 x.d, .string ⟨#[]⟩, .bool false, .bool false] 41)).alloc (.cells #[.int .i64 0, .int .i64 0, .int .i64 0, .int .i64 0, .int .i64 0, .int .i64 0, .int .i64 0, .int .i64 0, .int .i64 0, .int .i64 0, .string ⟨#[]⟩, .bool false, .bool false] 41)).alloc (.cells #[] 3) = W at *
    rintro e w1 ⟨pv, rfl, hpv, b1⟩
    obtain ⟨pg, pc, rfl⟩ := hpv.form
    have hf1 := hfd (.slice (some ⟨pg, 0, none⟩) 4 pc) w1
    rw [HPv.out]
    have D1 := Lib.hid (D0.out.keep b1)
    have R1 := Lib.hid (R0.out.keep b1)
    have B1 := Lib.hid (B0.out.trans (b1.mono B0.out.size))
    have O1 := Lib.hid (O0.out.all b1)
    clear b1 hpv D0 R0 B0 O0
    have hV3 := O1.out.apart D1.out (by decide)
    have hV1 := O1.out.apart R1.out (by decide)
    generalize prHead n = hd at *
    have ⟨d0, d1, d2, d3, d4, d5, d6, d7, d8, d9, d10, d11, d12⟩ := deCells D1.out
    go_wp2_with fail
    refine (HPf.out _).mono ?_
    rintro e w2 ⟨pw, rfl, hpw, b2⟩
    obtain ⟨qg, qc, rfl⟩ := hpw.form
    rw [HPv.out]
    clear d0 d1 d2 d3 d4 d5 d6 d7 d8 d9 d10 d11 d12
    have D2 := Lib.hid (D1.out.keep b2)
    have R2 := Lib.hid (R1.out.keep b2)
    have B2 := Lib.hid (B1.out.trans (b2.mono B1.out.size))
    have O2 := Lib.hid (O1.out.all b2)
    clear b2 hpw D1 R1 B1 O1
    go_wp2_with fail
    refine (HH.out _ _).mono ?_
    rintro e w3 ⟨rfl, b3⟩
    have D3 := Lib.hid (D2.out.keep b3)
    have R3 := Lib.hid (R2.out.keep b3)
    have B3 := Lib.hid (B2.out.trans (b3.mono B2.out.size))
    have O3 := Lib.hid (O2.out.all b3)
    clear b3 D2 R2 B2 O2
    have D0 := Lib.hid (D3.out.set11 true)
    have R0 : Hid (DeAt (w3.setCell ⟨w.heap.size, 11, none⟩ (.bool true)) (w.heap.size + 1) zeroDe) := Lib.hid (by unfold DeAt; rw [Below.heap_setCell _ _ _ _ (by simp)]; exact R3.out)
    have B0 := Lib.hid (B3.out.setCell (p := ⟨w.heap.size, 11, none⟩) (show w.heap.size ≤ w.heap.size from Nat.le_refl _) (.bool true))
    have O0 := Lib.hid (O3.out.setD (i := 11) (u := .bool true) hV3)
    have ⟨_, _, _, _, _, _, _, _, _, _, _, d11, _⟩ := deCells D3.out
    have ⟨_, _, _, _, _, _, _, _, _, _, _, z11, _⟩ := D3.out.thaw
    have hlD := D3.out.lt
    clear D3 R3 B3 O3 hV1 hV3
    go_wp2
    clear d11 z11 hlD
    generalize w3.setCell ⟨w.heap.size, 11, none⟩ (.bool true) = W9 at *
    go_loopw [6, 8] (fun v i wr => ∃ (k f : Nat) (a' : Int) (xs : St) (zs : List Int), k ≤ s.size ∧ i = .int .i64 k ∧ Hid (s.size ≤ k + f) ∧ zs.length ≤ k ∧ 0 ≤ a' ∧ a' ≤ a + k ∧ Hid (wrT n s s.size 0 a x [] = wrT n s f k a' xs zs) ∧ Hid (stOKB xs = true) ∧ Hid (Own .i64 3 wr w.heap.size v zs) ∧ Hid (DeAt wr w.heap.size ⟨n, a', 0, xs, ⟨#[]⟩, true, false⟩) ∧ Hid (DeAt wr (w.heap.size + 1) zeroDe) ∧ Hid (Below w.heap.size w wr)) (fun _ i _ => s.size - (intOf i).toNat)
    case atStart => exact ⟨0, s.size, a, x, [], by omega, rfl, Lib.hid (by omega), by simp, ha, by omega, Lib.hid rfl, HX0, O0, D0, R0, B0⟩
    case round =>
      obtain ⟨k, f, a', xs, zs, hk, rfl, HF, hzs, hA0, hA1, HR, HX, HO, HB, HQ, BW⟩ := hrel
      obtain ⟨va, vc, hform, _⟩ := HO.out.shape
      subst hform
      clear O0 D0 R0 B0 HX0
      have hV3 := HO.out.apart HB.out (by decide)
      have hV1 := HO.out.apart HQ.out (by decide)
      have hl3 : w.heap.size < wr.heap.size := HB.out.lt
      have hl1 : w.heap.size + 1 < wr.heap.size := HQ.out.lt
      by_cases hlt : k < s.size
      · obtain ⟨f, rfl⟩ : ∃ q, f = q + 1 := ⟨f - 1, by have := HF.out; omega⟩
        have v0 : (0 : Int) ≤ (k : Int) := by omega
        have v2 : (k : Int) < (s.size : Int) := by omega
        have v3 : (k : Int) ≤ (s.size : Int) := by omega
        have HU : Hid (wrT n s (f + 1) k a' xs zs = if (nextTok s k).k = 8 then ⟨zs, a', 0, xs, s.extract k s.size⟩ else if (stepP n xs (nextTok s k)).c = 0 then wrT n s f (k + (nextTok s k).n.toNat) (a' + (nextTok s k).n) (stepP n xs (nextTok s k)).y (addR zs (stepP n xs (nextTok s k)).r) else ⟨zs, a', (stepP n xs (nextTok s k)).c, xs, ByteArray.empty⟩) := Lib.hid (by rw [wrT, if_pos hlt])
        have n1 := (nextTok_in s k hlt).2.1
        have n2 := (nextTok_in s k hlt).2.2
        have HN := Lib.hid (fun w => spec_l03Next s k w hlt (by omega))
        have HG := Lib.hid (fun w => spec_l05Step n xs (nextTok s k) w HX.out (nextTok_ok s k hlt (by omega)))
        have hr := stepP_r (n := n) (x := xs) (nextTok_ok s k hlt (by omega))
        have HX2 := Lib.hid (stepP_ok (n := n) HX.out (nextTok_ok s k hlt (by omega)))
        unfold TokDone tokV at HN
        unfold StpDone stpV tokV stV at HG
        generalize nextTok s k = y at *
        generalize stepP n xs y = p at *
        have u1 : IntKind.i64.wrap ((k : Int) + y.n) = (k : Int) + y.n := IntWalk.i64_in _ (by omega)
        have u2 : IntKind.i64.wrap (a' + y.n) = a' + y.n := IntWalk.i64_in _ (by omega)
        go_wp2_with fail
        refine (HN.out _).mono ?_
        rintro e w4 ⟨rfl, b1⟩
        have b1' := b1.alloc b1.size (.cells #[.int .i64 y.k, .int .i64 y.a, .int .i64 y.b, .int .i64 y.c, .int .i64 y.p, .int .i64 y.n] 102)
        have B1 := Lib.hid (BW.out.trans (b1'.mono BW.out.size))
        have O1 := Lib.hid (HO.out.all b1')
        have HB1 := Lib.hid (HB.out.keep b1')
        have HQ1 := Lib.hid (HQ.out.keep b1')
        have HK1 := Lib.hid (TokAt.new w4 y)
        have hl4 : w.heap.size + 1 < w4.heap.size := Nat.lt_of_lt_of_le hl1 b1.size
        clear b1 b1' HO HB HQ BW HN
        by_cases h8 : y.k = 8
        · have e8 : (y.k == 8) = true := by simpa using h8
          have HE : Hid (wrT n s s.size 0 a x [] = ⟨zs, a', 0, xs, s.extract k s.size⟩) := Lib.hid (by rw [HR.out, HU.out, if_pos h8])
          generalize hW4 : w4.alloc (.cells #[.int .i64 y.k, .int .i64 y.a, .int .i64 y.b, .int .i64 y.c, .int .i64 y.p, .int .i64 y.n] 102) = W4 at *
          have hlW : w4.heap.size < W4.heap.size := HK1.out.lt
          have ⟨t0, t1, t2, t3, t4, t5⟩ := HK1.out.cells
          have ⟨d0, d1, d2, d3, d4, d5, d6, d7, d8, d9, d10, d11, d12⟩ := deCells HB1.out
          have ⟨z0, z1, z2, z3, z4, z5, z6, z7, z8, z9, z10, z11, z12⟩ := HB1.out.thaw
          have ⟨r0, r1, r2, r3, r4, r5, r6, r7, r8, r9, r10, r11, r12⟩ := deCells HQ1.out
          have ⟨s0, s1, s2, s3, s4, s5, s6, s7, s8, s9, s10, s11, s12⟩ := HQ1.out.thaw
          have hlD := HB1.out.lt
          have hlR := HQ1.out.lt
          generalize hrest : s.extract k s.size = rest at *
          have RX : Hid (DeAt (W4.setCell ⟨w.heap.size, 10, none⟩ (.string rest)) (w.heap.size + 1) zeroDe) := Lib.hid (by unfold DeAt; rw [Below.heap_setCell _ _ _ _ (by simp)]; exact HQ1.out)
          have BX := Lib.hid (B1.out.setCell (p := ⟨w.heap.size, 10, none⟩) (show w.heap.size ≤ w.heap.size from Nat.le_refl _) (.string rest))
          have OX := Lib.hid (O1.out.setD (i := 10) (u := .string rest) hV3)
          clear h8 hl4 HU HG HX2 hr u1 u2 n1 n2 HR HF hzs hlt
          go_wp2
          exact results_row_val (y := ⟨n, a', 0, xs, rest, true, false⟩) rfl rfl rfl (RX.out.put ⟨n, a', 0, xs, rest, true, false⟩) Tryz.underlying41 rfl (by kernel_rfl) rfl (WrDone.mk HE.out rfl (OX.out.putDeN hV1 ⟨n, a', 0, xs, rest, true, false⟩) (below_putDe BX.out (by omega) ⟨n, a', 0, xs, rest, true, false⟩))
        · have e8 : (y.k == 8) = false := by rw [beq_eq_false_iff_ne]; exact h8
          have ⟨y0, y1, y2, y3, y4, y5, y6, y7, y8, y9, y10, y11, y12⟩ := deCells HB1.out
          have ⟨t0, t1, t2, t3, t4, t5⟩ := HK1.out.cells
          go_wp2_with fail
          refine (HG.out _).mono ?_
          clear y0 y1 y2 y3 y4 y5 y6 y7 y8 y9 y10 y11 y12 t0 t1 t2 t3 t4 t5
          generalize hW4 : w4.alloc (.cells #[.int .i64 y.k, .int .i64 y.a, .int .i64 y.b, .int .i64 y.c, .int .i64 y.p, .int .i64 y.n] 102) = W4 at *
          rintro e w5 ⟨rfl, b2⟩
          have hl5 : w4.heap.size < w5.heap.size := Nat.lt_of_lt_of_le HK1.out.lt b2.size
          have B2 := Lib.hid (B1.out.trans (b2.mono B1.out.size))
          have O2 := Lib.hid (O1.out.all b2)
          have HB2 := Lib.hid (HB1.out.keep b2)
          have HQ2 := Lib.hid (HQ1.out.keep b2)
          have HK2 := Lib.hid (HK1.out.keep b2)
          clear b2 O1 HB1 HQ1 HK1 B1
          by_cases hc : p.c = 0
          · have ec : (p.c != 0) = false := by simpa using hc
            have ⟨q0, q1, q2, q3, q4, q5, q6, q7, q8, q9, q10, q11, q12⟩ := HB2.out.thaw
            have ⟨y0, y1, y2, y3, y4, y5, y6, y7, y8, y9, y10, y11, y12⟩ := deCells HB2.out
            have hlD : w.heap.size < w5.heap.size := HB2.out.lt
            have ⟨p0, p1, p2, p3, p4, p5, p6⟩ := (StAt.new w5 p.y).cells
            have ⟨t0, t1, t2, t3, t4, t5⟩ := HK2.out.cells
            have HN2 : Hid (∃ m : Nat, y.n = (m : Int) ∧ 1 ≤ m ∧ k + m ≤ s.size) := Lib.hid ⟨y.n.toNat, by omega, by omega, by omega⟩
            have BP := Lib.hid (below_putDS B2.out (Nat.le_refl _) p.y)
            have OP := Lib.hid (O2.out.putDSN hV3 p.y)
            have HBP := Lib.hid (HB2.out.putS p.y)
            have HQP : Hid (DeAt (putDS w5 w.heap.size p.y) (w.heap.size + 1) zeroDe) := Lib.hid ((heap_putDS p.y (by omega)).trans HQ2.out)
            have HKP : Hid (TokAt (putDS w5 w.heap.size p.y) w4.heap.size y) := Lib.hid ((heap_putDS p.y (by omega)).trans HK2.out)
            have hsP := size_putDS w5 w.heap.size p.y
            rcases hr with hr | hr
            · have HA : Hid (addR zs p.r = zs) := Lib.hid (addR_none hr)
              have vr : p.r < 0 := by omega
              obtain ⟨m, hm, m1, m2⟩ := HN2.out
              have HM := Lib.hid hm
              have HM2 : Hid (y.n.toNat = m) := Lib.hid (by omega)
              have e5 : (k : Int) + y.n = ((k + m : Nat) : Int) := by omega
              have BS := Lib.hid (BP.out.setCell (p := ⟨w.heap.size, 1, none⟩) (show w.heap.size ≤ w.heap.size from Nat.le_refl _) (.int .i64 (a' + y.n)))
              have OS := Lib.hid (OP.out.setD (i := 1) (u := .int .i64 (a' + y.n)) hV3)
              have HBS := Lib.hid (HBP.out.set1 (a' + y.n))
              have HQS : Hid (DeAt ((putDS w5 w.heap.size p.y).setCell ⟨w.heap.size, 1, none⟩ (.int .i64 (a' + y.n))) (w.heap.size + 1) zeroDe) := Lib.hid (by unfold DeAt; rw [Below.heap_setCell _ _ _ _ (by simp)]; exact HQP.out)
              clear hm hsP
              go_wp2
              go_roundw
              case rel => exact ⟨k + m, f, a' + y.n, p.y, zs, m2, by simp, Lib.hid (by have := HF.out; omega), by omega, by have := HM.out; omega, by have := HM.out; omega, Lib.hid (by rw [HR.out, HU.out, if_neg h8, if_pos hc, HA.out, HM2.out]), HX2, Lib.hid (OS.out.alloc _), Lib.hid (HBS.out.keep (below_one _ _)), Lib.hid (HQS.out.keep (below_one _ _)), Lib.hid (BS.out.alloc BS.out.size _)⟩
              case measure => simp [intOf]; omega
            · have HA : Hid (addR zs p.r = zs ++ [p.r]) := Lib.hid (addR_some hr)
              have O3 := Lib.hid ((OP.out.alloc (.cells #[.int .i64 p.y.g0, .int .i64 p.y.g1, .int .i64 p.y.g2, .int .i64 p.y.g3, .int .i64 p.y.l, .int .i64 p.y.s, .int .i64 p.y.d] 39)).alloc (.cells #[.int .i64 p.r] 3))
              have HNW := Lib.hid (World.news_of_block (show (((putDS w5 w.heap.size p.y).alloc (.cells #[.int .i64 p.y.g0, .int .i64 p.y.g1, .int .i64 p.y.g2, .int .i64 p.y.g3, .int .i64 p.y.l, .int .i64 p.y.s, .int .i64 p.y.d] 39)).alloc (.cells #[.int .i64 p.r] 3)).heap[w5.heap.size + 1]? = some (.cells ([p.r].map (Value.int .i64)).toArray 3) from by
                have := heap_alloc2_new (putDS w5 w.heap.size p.y) (.cells #[.int .i64 p.y.g0, .int .i64 p.y.g1, .int .i64 p.y.g2, .int .i64 p.y.g3, .int .i64 p.y.l, .int .i64 p.y.s, .int .i64 p.y.d] 39) (.cells #[.int .i64 p.r] 3)
                rw [size_putDS] at this
                exact this))
              have hB3 : w.heap.size ≤ (((putDS w5 w.heap.size p.y).alloc (.cells #[.int .i64 p.y.g0, .int .i64 p.y.g1, .int .i64 p.y.g2, .int .i64 p.y.g3, .int .i64 p.y.l, .int .i64 p.y.s, .int .i64 p.y.d] 39)).alloc (.cells #[.int .i64 p.r] 3)).heap.size := by
                simp only [World.size_alloc, size_putDS]; omega
              have bpp := below_two (putDS w5 w.heap.size p.y) (.cells #[.int .i64 p.y.g0, .int .i64 p.y.g1, .int .i64 p.y.g2, .int .i64 p.y.g3, .int .i64 p.y.l, .int .i64 p.y.s, .int .i64 p.y.d] 39) (.cells #[.int .i64 p.r] 3)
              have HB3 := Lib.hid (HBP.out.keep bpp)
              have HQ3 := Lib.hid (HQP.out.keep bpp)
              have HK3 := Lib.hid (HKP.out.keep bpp)
              have B3 := Lib.hid (BP.out.trans (bpp.mono BP.out.size))
              have L1 := Lib.hid (fun g hg => World.ownsRow.lt O2.out g hg)
              clear bpp hsP
              go_wp2_with (at_builtin; refine app_i64 _ rfl _ _ rfl w.heap.size _ zs rfl O3.out ⟨w5.heap.size + 1, 0, none⟩ 1 1 [p.r] rfl rfl (by decide) HNW.out (by omega) hB3 ?_)
              intro g cap2 w6 o4 g4 lt4
              have HK4 : TokAt w6 w4.heap.size y := (g4.block _ HK3.out.lt (fun h => by
                have := HK3.out
                rcases HO4 : O3.out.2 with ⟨e1, _⟩ | ⟨gg, _, _, e1, _, e3, _⟩
                · rw [e1] at h; cases h
                · rw [e1] at h
                  have : w4.heap.size = gg := Option.some.inj h
                  subst this
                  exact absurd (HK3.out.symm.trans e3) (by intro hh; cases hh))).trans HK3.out
              have HB4 : Hid (DeAt w6 w.heap.size ⟨n, a', 0, p.y, ⟨#[]⟩, true, false⟩) := Lib.hid ((g4.block w.heap.size HB3.out.lt (fun h => hV3 h.symm)).trans HB3.out)
              have HQ4 : Hid (DeAt w6 (w.heap.size + 1) zeroDe) := Lib.hid ((g4.block (w.heap.size + 1) HQ3.out.lt (fun h => hV1 h.symm)).trans HQ3.out)
              have B4 := Lib.hid (B3.out.grown g4 B3.out.size (fun j hj => (L1.out j hj).1))
              have hV4 := o4.apart HB4.out (by decide)
              have O4 := Lib.hid o4
              clear o4 g4 O3 HNW HB3 HQ3 HK3 B3
              clear y0 y1 y2 y3 y4 y5 y6 y7 y8 y9 y10 y11 y12 q0 q1 q2 q3 q4 q5 q6 q7 q8 q9 q10 q11 q12 p0 p1 p2 p3 p4 p5 p6 t0 t1 t2 t3 t4 t5
              have ⟨_, _, _, _, _, t5⟩ := HK4.cells
              have ⟨_, y1, _, _, _, _, _, _, _, _, _, _, _⟩ := deCells HB4.out
              have ⟨_, q1, _, _, _, _, _, _, _, _, _, _, _⟩ := HB4.out.thaw
              clear HK4
              obtain ⟨m, hm, m1, m2⟩ := HN2.out
              have HM := Lib.hid hm
              have HM2 : Hid (y.n.toNat = m) := Lib.hid (by omega)
              have e5 : (k : Int) + y.n = ((k + m : Nat) : Int) := by omega
              have HQ5 : Hid (DeAt (w6.setCell ⟨w.heap.size, 1, none⟩ (.int .i64 (a' + y.n))) (w.heap.size + 1) zeroDe) := Lib.hid (by unfold DeAt; rw [Below.heap_setCell _ _ _ _ (by simp)]; exact HQ4.out)
              clear hm
              go_wp2
              go_roundw
              case rel => exact ⟨k + m, f, a' + y.n, p.y, zs ++ [p.r], m2, by simp, Lib.hid (by have := HF.out; omega), by simp; omega, by have := HM.out; omega, by have := HM.out; omega, Lib.hid (by rw [HR.out, HU.out, if_neg h8, if_pos hc, HA.out, HM2.out]), HX2, Lib.hid (O4.out.setD hV4), Lib.hid (HB4.out.set1 (a' + y.n)), HQ5, Lib.hid (B4.out.setCell (Nat.le_refl _) _)⟩
              case measure => simp [intOf]; omega
          · have ec : (p.c != 0) = true := by simpa using hc
            have HE : Hid (wrT n s s.size 0 a x [] = ⟨zs, a', p.c, xs, ⟨#[]⟩⟩) := Lib.hid (by rw [HR.out, HU.out, if_neg h8, if_neg hc]; rfl)
            have hco : Hid ((true : Bool) = decide (p.c ≠ 0)) := Lib.hid (decide_eq_true hc).symm
            have HFl := Lib.hid (fun w => spec_l08Fail ⟨n, a', 0, xs, ⟨#[]⟩, true, false⟩ p.c w)
            unfold DeDone deV failD at HFl
            dsimp only at HFl
            have DX := Lib.hid (HB2.out.keep (below_one w5 (.cells #[.int .i64 p.y.g0, .int .i64 p.y.g1, .int .i64 p.y.g2, .int .i64 p.y.g3, .int .i64 p.y.l, .int .i64 p.y.s, .int .i64 p.y.d] 39)))
            have ⟨y0, y1, y2, y3, y4, y5, y6, y7, y8, y9, y10, y11, y12⟩ := deCells DX.out
            go_wp2_with fail
            refine (HFl.out _).mono ?_
            clear y0 y1 y2 y3 y4 y5 y6 y7 y8 y9 y10 y11 y12 DX
            have b3' := below_one w5 (.cells #[.int .i64 p.y.g0, .int .i64 p.y.g1, .int .i64 p.y.g2, .int .i64 p.y.g3, .int .i64 p.y.l, .int .i64 p.y.s, .int .i64 p.y.d] 39)
            have RX := Lib.hid (HQ2.out.keep b3')
            have BX := Lib.hid (B2.out.trans (b3'.mono B2.out.size))
            have OX := Lib.hid (O2.out.all b3')
            clear b3'
            generalize w5.alloc (.cells #[.int .i64 p.y.g0, .int .i64 p.y.g1, .int .i64 p.y.g2, .int .i64 p.y.g3, .int .i64 p.y.l, .int .i64 p.y.s, .int .i64 p.y.d] 39) = W5 at *
            rintro e w6 ⟨rfl, b3⟩
            have RY := Lib.hid (RX.out.keep b3)
            have BY := Lib.hid (BX.out.trans (b3.mono BX.out.size))
            have OY := Lib.hid (OX.out.all b3)
            have ⟨r0, r1, r2, r3, r4, r5, r6, r7, r8, r9, r10, r11, r12⟩ := deCells RY.out
            have ⟨s0, s1, s2, s3, s4, s5, s6, s7, s8, s9, s10, s11, s12⟩ := RY.out.thaw
            have hlR := RY.out.lt
            clear b3 RX BX OX
            go_wp2
            exact results_row_val (y := ⟨n, a', p.c, xs, ⟨#[]⟩, true, true⟩) rfl rfl rfl (RY.out.put ⟨n, a', p.c, xs, ⟨#[]⟩, true, true⟩) Tryz.underlying41 rfl (by kernel_rfl) rfl (WrDone.mk HE.out hco.out (OY.out.putDeN hV1 ⟨n, a', p.c, xs, ⟨#[]⟩, true, true⟩) (below_putDe BY.out (by omega) ⟨n, a', p.c, xs, ⟨#[]⟩, true, true⟩))
      · have v2 : ¬ (k : Int) < (s.size : Int) := by omega
        have HE : Hid (wrT n s s.size 0 a x [] = ⟨zs, a', 0, xs, ⟨#[]⟩⟩) := Lib.hid (by
          rw [HR.out]
          cases f with
          | zero => rfl
          | succ f => rw [wrT, if_neg hlt]; rfl)
        have ⟨d0, d1, d2, d3, d4, d5, d6, d7, d8, d9, d10, d11, d12⟩ := deCells HB.out
        have ⟨r0, r1, r2, r3, r4, r5, r6, r7, r8, r9, r10, r11, r12⟩ := deCells HQ.out
        have ⟨s0, s1, s2, s3, s4, s5, s6, s7, s8, s9, s10, s11, s12⟩ := HQ.out.thaw
        go_wp2
        exact results_row_val (y := ⟨n, a', 0, xs, ⟨#[]⟩, true, false⟩) rfl rfl rfl (HQ.out.put ⟨n, a', 0, xs, ⟨#[]⟩, true, false⟩) Tryz.underlying41 rfl (by kernel_rfl) rfl (WrDone.mk HE.out rfl (HO.out.putDeN hV1 ⟨n, a', 0, xs, ⟨#[]⟩, true, false⟩) (below_putDe BW.out (by omega) ⟨n, a', 0, xs, ⟨#[]⟩, true, false⟩))
  · have v1 : ¬ (s.size : Int) < ((prHead n).size : Int) := by omega
    clear h1 hlt hr ht
    go_enter Tryz.func44, Tryz.ntmps44
    go_wp2_with fail
    refine (HPf.out _).mono ?_
    clear hcat
    generalize ((w.alloc (.cells #[.int .i64 n, .int .i64 a, .int .i64 0, .int .i64 x.g0, .int .i64 x.g1, .int .i64 x.g2, .int .i64 x.g3, .int .i64 x.l, .int .i64 x.s, .int .i64 x.d, .string ⟨#[]⟩, .bool false, .bool false] 41)).alloc (.cells #[.int .i64 0, .int .i64 0, .int .i64 0, .int .i64 0, .int .i64 0, .int .i64 0, .int .i64 0, .int .i64 0, .int .i64 0, .int .i64 0, .string ⟨#[]⟩, .bool false, .bool false] 41)).alloc (.cells #[] 3) = W at *
    rintro e w1 ⟨pv, rfl, hpv, b1⟩
    obtain ⟨pg, pc, rfl⟩ := hpv.form
    have hf1 := hfd (.slice (some ⟨pg, 0, none⟩) 4 pc) w1
    rw [HPv.out]
    have D1 := Lib.hid (D0.out.keep b1)
    have R1 := Lib.hid (R0.out.keep b1)
    have B1 := Lib.hid (B0.out.trans (b1.mono B0.out.size))
    have O1 := Lib.hid (O0.out.all b1)
    clear b1 hpv D0 R0 B0 O0
    have hV3 := O1.out.apart D1.out (by decide)
    have hV1 := O1.out.apart R1.out (by decide)
    generalize prHead n = hd at *
    have ⟨d0, d1, d2, d3, d4, d5, d6, d7, d8, d9, d10, d11, d12⟩ := deCells D1.out
    go_wp2_with fail
    refine (HPf.out _).mono ?_
    rintro e w2 ⟨pw, rfl, hpw, b2⟩
    obtain ⟨qg, qc, rfl⟩ := hpw.form
    rw [HPv.out]
    clear d0 d1 d2 d3 d4 d5 d6 d7 d8 d9 d10 d11 d12
    have D2 := Lib.hid (D1.out.keep b2)
    have R2 := Lib.hid (R1.out.keep b2)
    have B2 := Lib.hid (B1.out.trans (b2.mono B1.out.size))
    have O2 := Lib.hid (O1.out.all b2)
    clear b2 hpw D1 R1 B1 O1
    go_wp2_with fail
    refine (HH.out _ _).mono ?_
    rintro e w3 ⟨rfl, b3⟩
    have D3 := Lib.hid (D2.out.keep b3)
    have R3 := Lib.hid (R2.out.keep b3)
    have B3 := Lib.hid (B2.out.trans (b3.mono B2.out.size))
    have O3 := Lib.hid (O2.out.all b3)
    clear b3 D2 R2 B2 O2
    have D0 := Lib.hid (D3.out.set11 true)
    have R0 : Hid (DeAt (w3.setCell ⟨w.heap.size, 11, none⟩ (.bool true)) (w.heap.size + 1) zeroDe) := Lib.hid (by unfold DeAt; rw [Below.heap_setCell _ _ _ _ (by simp)]; exact R3.out)
    have B0 := Lib.hid (B3.out.setCell (p := ⟨w.heap.size, 11, none⟩) (show w.heap.size ≤ w.heap.size from Nat.le_refl _) (.bool true))
    have O0 := Lib.hid (O3.out.setD (i := 11) (u := .bool true) hV3)
    have ⟨_, _, _, _, _, _, _, _, _, _, _, d11, _⟩ := deCells D3.out
    have ⟨_, _, _, _, _, _, _, _, _, _, _, z11, _⟩ := D3.out.thaw
    have hlD := D3.out.lt
    clear D3 R3 B3 O3 hV1 hV3
    go_wp2
    clear d11 z11 hlD
    generalize w3.setCell ⟨w.heap.size, 11, none⟩ (.bool true) = W9 at *
    go_loopw [6, 8] (fun v i wr => ∃ (k f : Nat) (a' : Int) (xs : St) (zs : List Int), k ≤ s.size ∧ i = .int .i64 k ∧ Hid (s.size ≤ k + f) ∧ zs.length ≤ k ∧ 0 ≤ a' ∧ a' ≤ a + k ∧ Hid (wrT n s s.size 0 a x [] = wrT n s f k a' xs zs) ∧ Hid (stOKB xs = true) ∧ Hid (Own .i64 3 wr w.heap.size v zs) ∧ Hid (DeAt wr w.heap.size ⟨n, a', 0, xs, ⟨#[]⟩, true, false⟩) ∧ Hid (DeAt wr (w.heap.size + 1) zeroDe) ∧ Hid (Below w.heap.size w wr)) (fun _ i _ => s.size - (intOf i).toNat)
    case atStart => exact ⟨0, s.size, a, x, [], by omega, rfl, Lib.hid (by omega), by simp, ha, by omega, Lib.hid rfl, HX0, O0, D0, R0, B0⟩
    case round =>
      obtain ⟨k, f, a', xs, zs, hk, rfl, HF, hzs, hA0, hA1, HR, HX, HO, HB, HQ, BW⟩ := hrel
      obtain ⟨va, vc, hform, _⟩ := HO.out.shape
      subst hform
      clear O0 D0 R0 B0 HX0
      have hV3 := HO.out.apart HB.out (by decide)
      have hV1 := HO.out.apart HQ.out (by decide)
      have hl3 : w.heap.size < wr.heap.size := HB.out.lt
      have hl1 : w.heap.size + 1 < wr.heap.size := HQ.out.lt
      by_cases hlt : k < s.size
      · obtain ⟨f, rfl⟩ : ∃ q, f = q + 1 := ⟨f - 1, by have := HF.out; omega⟩
        have v0 : (0 : Int) ≤ (k : Int) := by omega
        have v2 : (k : Int) < (s.size : Int) := by omega
        have v3 : (k : Int) ≤ (s.size : Int) := by omega
        have HU : Hid (wrT n s (f + 1) k a' xs zs = if (nextTok s k).k = 8 then ⟨zs, a', 0, xs, s.extract k s.size⟩ else if (stepP n xs (nextTok s k)).c = 0 then wrT n s f (k + (nextTok s k).n.toNat) (a' + (nextTok s k).n) (stepP n xs (nextTok s k)).y (addR zs (stepP n xs (nextTok s k)).r) else ⟨zs, a', (stepP n xs (nextTok s k)).c, xs, ByteArray.empty⟩) := Lib.hid (by rw [wrT, if_pos hlt])
        have n1 := (nextTok_in s k hlt).2.1
        have n2 := (nextTok_in s k hlt).2.2
        have HN := Lib.hid (fun w => spec_l03Next s k w hlt (by omega))
        have HG := Lib.hid (fun w => spec_l05Step n xs (nextTok s k) w HX.out (nextTok_ok s k hlt (by omega)))
        have hr := stepP_r (n := n) (x := xs) (nextTok_ok s k hlt (by omega))
        have HX2 := Lib.hid (stepP_ok (n := n) HX.out (nextTok_ok s k hlt (by omega)))
        unfold TokDone tokV at HN
        unfold StpDone stpV tokV stV at HG
        generalize nextTok s k = y at *
        generalize stepP n xs y = p at *
        have u1 : IntKind.i64.wrap ((k : Int) + y.n) = (k : Int) + y.n := IntWalk.i64_in _ (by omega)
        have u2 : IntKind.i64.wrap (a' + y.n) = a' + y.n := IntWalk.i64_in _ (by omega)
        go_wp2_with fail
        refine (HN.out _).mono ?_
        rintro e w4 ⟨rfl, b1⟩
        have b1' := b1.alloc b1.size (.cells #[.int .i64 y.k, .int .i64 y.a, .int .i64 y.b, .int .i64 y.c, .int .i64 y.p, .int .i64 y.n] 102)
        have B1 := Lib.hid (BW.out.trans (b1'.mono BW.out.size))
        have O1 := Lib.hid (HO.out.all b1')
        have HB1 := Lib.hid (HB.out.keep b1')
        have HQ1 := Lib.hid (HQ.out.keep b1')
        have HK1 := Lib.hid (TokAt.new w4 y)
        have hl4 : w.heap.size + 1 < w4.heap.size := Nat.lt_of_lt_of_le hl1 b1.size
        clear b1 b1' HO HB HQ BW HN
        by_cases h8 : y.k = 8
        · have e8 : (y.k == 8) = true := by simpa using h8
          have HE : Hid (wrT n s s.size 0 a x [] = ⟨zs, a', 0, xs, s.extract k s.size⟩) := Lib.hid (by rw [HR.out, HU.out, if_pos h8])
          generalize hW4 : w4.alloc (.cells #[.int .i64 y.k, .int .i64 y.a, .int .i64 y.b, .int .i64 y.c, .int .i64 y.p, .int .i64 y.n] 102) = W4 at *
          have hlW : w4.heap.size < W4.heap.size := HK1.out.lt
          have ⟨t0, t1, t2, t3, t4, t5⟩ := HK1.out.cells
          have ⟨d0, d1, d2, d3, d4, d5, d6, d7, d8, d9, d10, d11, d12⟩ := deCells HB1.out
          have ⟨z0, z1, z2, z3, z4, z5, z6, z7, z8, z9, z10, z11, z12⟩ := HB1.out.thaw
          have ⟨r0, r1, r2, r3, r4, r5, r6, r7, r8, r9, r10, r11, r12⟩ := deCells HQ1.out
          have ⟨s0, s1, s2, s3, s4, s5, s6, s7, s8, s9, s10, s11, s12⟩ := HQ1.out.thaw
          have hlD := HB1.out.lt
          have hlR := HQ1.out.lt
          generalize hrest : s.extract k s.size = rest at *
          have RX : Hid (DeAt (W4.setCell ⟨w.heap.size, 10, none⟩ (.string rest)) (w.heap.size + 1) zeroDe) := Lib.hid (by unfold DeAt; rw [Below.heap_setCell _ _ _ _ (by simp)]; exact HQ1.out)
          have BX := Lib.hid (B1.out.setCell (p := ⟨w.heap.size, 10, none⟩) (show w.heap.size ≤ w.heap.size from Nat.le_refl _) (.string rest))
          have OX := Lib.hid (O1.out.setD (i := 10) (u := .string rest) hV3)
          clear h8 hl4 HU HG HX2 hr u1 u2 n1 n2 HR HF hzs hlt
          go_wp2
          exact results_row_val (y := ⟨n, a', 0, xs, rest, true, false⟩) rfl rfl rfl (RX.out.put ⟨n, a', 0, xs, rest, true, false⟩) Tryz.underlying41 rfl (by kernel_rfl) rfl (WrDone.mk HE.out rfl (OX.out.putDeN hV1 ⟨n, a', 0, xs, rest, true, false⟩) (below_putDe BX.out (by omega) ⟨n, a', 0, xs, rest, true, false⟩))
        · have e8 : (y.k == 8) = false := by rw [beq_eq_false_iff_ne]; exact h8
          have ⟨y0, y1, y2, y3, y4, y5, y6, y7, y8, y9, y10, y11, y12⟩ := deCells HB1.out
          have ⟨t0, t1, t2, t3, t4, t5⟩ := HK1.out.cells
          go_wp2_with fail
          refine (HG.out _).mono ?_
          clear y0 y1 y2 y3 y4 y5 y6 y7 y8 y9 y10 y11 y12 t0 t1 t2 t3 t4 t5
          generalize hW4 : w4.alloc (.cells #[.int .i64 y.k, .int .i64 y.a, .int .i64 y.b, .int .i64 y.c, .int .i64 y.p, .int .i64 y.n] 102) = W4 at *
          rintro e w5 ⟨rfl, b2⟩
          have hl5 : w4.heap.size < w5.heap.size := Nat.lt_of_lt_of_le HK1.out.lt b2.size
          have B2 := Lib.hid (B1.out.trans (b2.mono B1.out.size))
          have O2 := Lib.hid (O1.out.all b2)
          have HB2 := Lib.hid (HB1.out.keep b2)
          have HQ2 := Lib.hid (HQ1.out.keep b2)
          have HK2 := Lib.hid (HK1.out.keep b2)
          clear b2 O1 HB1 HQ1 HK1 B1
          by_cases hc : p.c = 0
          · have ec : (p.c != 0) = false := by simpa using hc
            have ⟨q0, q1, q2, q3, q4, q5, q6, q7, q8, q9, q10, q11, q12⟩ := HB2.out.thaw
            have ⟨y0, y1, y2, y3, y4, y5, y6, y7, y8, y9, y10, y11, y12⟩ := deCells HB2.out
            have hlD : w.heap.size < w5.heap.size := HB2.out.lt
            have ⟨p0, p1, p2, p3, p4, p5, p6⟩ := (StAt.new w5 p.y).cells
            have ⟨t0, t1, t2, t3, t4, t5⟩ := HK2.out.cells
            have HN2 : Hid (∃ m : Nat, y.n = (m : Int) ∧ 1 ≤ m ∧ k + m ≤ s.size) := Lib.hid ⟨y.n.toNat, by omega, by omega, by omega⟩
            have BP := Lib.hid (below_putDS B2.out (Nat.le_refl _) p.y)
            have OP := Lib.hid (O2.out.putDSN hV3 p.y)
            have HBP := Lib.hid (HB2.out.putS p.y)
            have HQP : Hid (DeAt (putDS w5 w.heap.size p.y) (w.heap.size + 1) zeroDe) := Lib.hid ((heap_putDS p.y (by omega)).trans HQ2.out)
            have HKP : Hid (TokAt (putDS w5 w.heap.size p.y) w4.heap.size y) := Lib.hid ((heap_putDS p.y (by omega)).trans HK2.out)
            have hsP := size_putDS w5 w.heap.size p.y
            rcases hr with hr | hr
            · have HA : Hid (addR zs p.r = zs) := Lib.hid (addR_none hr)
              have vr : p.r < 0 := by omega
              obtain ⟨m, hm, m1, m2⟩ := HN2.out
              have HM := Lib.hid hm
              have HM2 : Hid (y.n.toNat = m) := Lib.hid (by omega)
              have e5 : (k : Int) + y.n = ((k + m : Nat) : Int) := by omega
              have BS := Lib.hid (BP.out.setCell (p := ⟨w.heap.size, 1, none⟩) (show w.heap.size ≤ w.heap.size from Nat.le_refl _) (.int .i64 (a' + y.n)))
              have OS := Lib.hid (OP.out.setD (i := 1) (u := .int .i64 (a' + y.n)) hV3)
              have HBS := Lib.hid (HBP.out.set1 (a' + y.n))
              have HQS : Hid (DeAt ((putDS w5 w.heap.size p.y).setCell ⟨w.heap.size, 1, none⟩ (.int .i64 (a' + y.n))) (w.heap.size + 1) zeroDe) := Lib.hid (by unfold DeAt; rw [Below.heap_setCell _ _ _ _ (by simp)]; exact HQP.out)
              clear hm hsP
              go_wp2
              go_roundw
              case rel => exact ⟨k + m, f, a' + y.n, p.y, zs, m2, by simp, Lib.hid (by have := HF.out; omega), by omega, by have := HM.out; omega, by have := HM.out; omega, Lib.hid (by rw [HR.out, HU.out, if_neg h8, if_pos hc, HA.out, HM2.out]), HX2, Lib.hid (OS.out.alloc _), Lib.hid (HBS.out.keep (below_one _ _)), Lib.hid (HQS.out.keep (below_one _ _)), Lib.hid (BS.out.alloc BS.out.size _)⟩
              case measure => simp [intOf]; omega
            · have HA : Hid (addR zs p.r = zs ++ [p.r]) := Lib.hid (addR_some hr)
              have O3 := Lib.hid ((OP.out.alloc (.cells #[.int .i64 p.y.g0, .int .i64 p.y.g1, .int .i64 p.y.g2, .int .i64 p.y.g3, .int .i64 p.y.l, .int .i64 p.y.s, .int .i64 p.y.d] 39)).alloc (.cells #[.int .i64 p.r] 3))
              have HNW := Lib.hid (World.news_of_block (show (((putDS w5 w.heap.size p.y).alloc (.cells #[.int .i64 p.y.g0, .int .i64 p.y.g1, .int .i64 p.y.g2, .int .i64 p.y.g3, .int .i64 p.y.l, .int .i64 p.y.s, .int .i64 p.y.d] 39)).alloc (.cells #[.int .i64 p.r] 3)).heap[w5.heap.size + 1]? = some (.cells ([p.r].map (Value.int .i64)).toArray 3) from by
                have := heap_alloc2_new (putDS w5 w.heap.size p.y) (.cells #[.int .i64 p.y.g0, .int .i64 p.y.g1, .int .i64 p.y.g2, .int .i64 p.y.g3, .int .i64 p.y.l, .int .i64 p.y.s, .int .i64 p.y.d] 39) (.cells #[.int .i64 p.r] 3)
                rw [size_putDS] at this
                exact this))
              have hB3 : w.heap.size ≤ (((putDS w5 w.heap.size p.y).alloc (.cells #[.int .i64 p.y.g0, .int .i64 p.y.g1, .int .i64 p.y.g2, .int .i64 p.y.g3, .int .i64 p.y.l, .int .i64 p.y.s, .int .i64 p.y.d] 39)).alloc (.cells #[.int .i64 p.r] 3)).heap.size := by
                simp only [World.size_alloc, size_putDS]; omega
              have bpp := below_two (putDS w5 w.heap.size p.y) (.cells #[.int .i64 p.y.g0, .int .i64 p.y.g1, .int .i64 p.y.g2, .int .i64 p.y.g3, .int .i64 p.y.l, .int .i64 p.y.s, .int .i64 p.y.d] 39) (.cells #[.int .i64 p.r] 3)
              have HB3 := Lib.hid (HBP.out.keep bpp)
              have HQ3 := Lib.hid (HQP.out.keep bpp)
              have HK3 := Lib.hid (HKP.out.keep bpp)
              have B3 := Lib.hid (BP.out.trans (bpp.mono BP.out.size))
              have L1 := Lib.hid (fun g hg => World.ownsRow.lt O2.out g hg)
              clear bpp hsP
              go_wp2_with (at_builtin; refine app_i64 _ rfl _ _ rfl w.heap.size _ zs rfl O3.out ⟨w5.heap.size + 1, 0, none⟩ 1 1 [p.r] rfl rfl (by decide) HNW.out (by omega) hB3 ?_)
              intro g cap2 w6 o4 g4 lt4
              have HK4 : TokAt w6 w4.heap.size y := (g4.block _ HK3.out.lt (fun h => by
                have := HK3.out
                rcases HO4 : O3.out.2 with ⟨e1, _⟩ | ⟨gg, _, _, e1, _, e3, _⟩
                · rw [e1] at h; cases h
                · rw [e1] at h
                  have : w4.heap.size = gg := Option.some.inj h
                  subst this
                  exact absurd (HK3.out.symm.trans e3) (by intro hh; cases hh))).trans HK3.out
              have HB4 : Hid (DeAt w6 w.heap.size ⟨n, a', 0, p.y, ⟨#[]⟩, true, false⟩) := Lib.hid ((g4.block w.heap.size HB3.out.lt (fun h => hV3 h.symm)).trans HB3.out)
              have HQ4 : Hid (DeAt w6 (w.heap.size + 1) zeroDe) := Lib.hid ((g4.block (w.heap.size + 1) HQ3.out.lt (fun h => hV1 h.symm)).trans HQ3.out)
              have B4 := Lib.hid (B3.out.grown g4 B3.out.size (fun j hj => (L1.out j hj).1))
              have hV4 := o4.apart HB4.out (by decide)
              have O4 := Lib.hid o4
              clear o4 g4 O3 HNW HB3 HQ3 HK3 B3
              clear y0 y1 y2 y3 y4 y5 y6 y7 y8 y9 y10 y11 y12 q0 q1 q2 q3 q4 q5 q6 q7 q8 q9 q10 q11 q12 p0 p1 p2 p3 p4 p5 p6 t0 t1 t2 t3 t4 t5
              have ⟨_, _, _, _, _, t5⟩ := HK4.cells
              have ⟨_, y1, _, _, _, _, _, _, _, _, _, _, _⟩ := deCells HB4.out
              have ⟨_, q1, _, _, _, _, _, _, _, _, _, _, _⟩ := HB4.out.thaw
              clear HK4
              obtain ⟨m, hm, m1, m2⟩ := HN2.out
              have HM := Lib.hid hm
              have HM2 : Hid (y.n.toNat = m) := Lib.hid (by omega)
              have e5 : (k : Int) + y.n = ((k + m : Nat) : Int) := by omega
              have HQ5 : Hid (DeAt (w6.setCell ⟨w.heap.size, 1, none⟩ (.int .i64 (a' + y.n))) (w.heap.size + 1) zeroDe) := Lib.hid (by unfold DeAt; rw [Below.heap_setCell _ _ _ _ (by simp)]; exact HQ4.out)
              clear hm
              go_wp2
              go_roundw
              case rel => exact ⟨k + m, f, a' + y.n, p.y, zs ++ [p.r], m2, by simp, Lib.hid (by have := HF.out; omega), by simp; omega, by have := HM.out; omega, by have := HM.out; omega, Lib.hid (by rw [HR.out, HU.out, if_neg h8, if_pos hc, HA.out, HM2.out]), HX2, Lib.hid (O4.out.setD hV4), Lib.hid (HB4.out.set1 (a' + y.n)), HQ5, Lib.hid (B4.out.setCell (Nat.le_refl _) _)⟩
              case measure => simp [intOf]; omega
          · have ec : (p.c != 0) = true := by simpa using hc
            have HE : Hid (wrT n s s.size 0 a x [] = ⟨zs, a', p.c, xs, ⟨#[]⟩⟩) := Lib.hid (by rw [HR.out, HU.out, if_neg h8, if_neg hc]; rfl)
            have hco : Hid ((true : Bool) = decide (p.c ≠ 0)) := Lib.hid (decide_eq_true hc).symm
            have HFl := Lib.hid (fun w => spec_l08Fail ⟨n, a', 0, xs, ⟨#[]⟩, true, false⟩ p.c w)
            unfold DeDone deV failD at HFl
            dsimp only at HFl
            have DX := Lib.hid (HB2.out.keep (below_one w5 (.cells #[.int .i64 p.y.g0, .int .i64 p.y.g1, .int .i64 p.y.g2, .int .i64 p.y.g3, .int .i64 p.y.l, .int .i64 p.y.s, .int .i64 p.y.d] 39)))
            have ⟨y0, y1, y2, y3, y4, y5, y6, y7, y8, y9, y10, y11, y12⟩ := deCells DX.out
            go_wp2_with fail
            refine (HFl.out _).mono ?_
            clear y0 y1 y2 y3 y4 y5 y6 y7 y8 y9 y10 y11 y12 DX
            have b3' := below_one w5 (.cells #[.int .i64 p.y.g0, .int .i64 p.y.g1, .int .i64 p.y.g2, .int .i64 p.y.g3, .int .i64 p.y.l, .int .i64 p.y.s, .int .i64 p.y.d] 39)
            have RX := Lib.hid (HQ2.out.keep b3')
            have BX := Lib.hid (B2.out.trans (b3'.mono B2.out.size))
            have OX := Lib.hid (O2.out.all b3')
            clear b3'
            generalize w5.alloc (.cells #[.int .i64 p.y.g0, .int .i64 p.y.g1, .int .i64 p.y.g2, .int .i64 p.y.g3, .int .i64 p.y.l, .int .i64 p.y.s, .int .i64 p.y.d] 39) = W5 at *
            rintro e w6 ⟨rfl, b3⟩
            have RY := Lib.hid (RX.out.keep b3)
            have BY := Lib.hid (BX.out.trans (b3.mono BX.out.size))
            have OY := Lib.hid (OX.out.all b3)
            have ⟨r0, r1, r2, r3, r4, r5, r6, r7, r8, r9, r10, r11, r12⟩ := deCells RY.out
            have ⟨s0, s1, s2, s3, s4, s5, s6, s7, s8, s9, s10, s11, s12⟩ := RY.out.thaw
            have hlR := RY.out.lt
            clear b3 RX BX OX
            go_wp2
            exact results_row_val (y := ⟨n, a', p.c, xs, ⟨#[]⟩, true, true⟩) rfl rfl rfl (RY.out.put ⟨n, a', p.c, xs, ⟨#[]⟩, true, true⟩) Tryz.underlying41 rfl (by kernel_rfl) rfl (WrDone.mk HE.out hco.out (OY.out.putDeN hV1 ⟨n, a', p.c, xs, ⟨#[]⟩, true, true⟩) (below_putDe BY.out (by omega) ⟨n, a', p.c, xs, ⟨#[]⟩, true, true⟩))
      · have v2 : ¬ (k : Int) < (s.size : Int) := by omega
        have HE : Hid (wrT n s s.size 0 a x [] = ⟨zs, a', 0, xs, ⟨#[]⟩⟩) := Lib.hid (by
          rw [HR.out]
          cases f with
          | zero => rfl
          | succ f => rw [wrT, if_neg hlt]; rfl)
        have ⟨d0, d1, d2, d3, d4, d5, d6, d7, d8, d9, d10, d11, d12⟩ := deCells HB.out
        have ⟨r0, r1, r2, r3, r4, r5, r6, r7, r8, r9, r10, r11, r12⟩ := deCells HQ.out
        have ⟨s0, s1, s2, s3, s4, s5, s6, s7, s8, s9, s10, s11, s12⟩ := HQ.out.thaw
        go_wp2
        exact results_row_val (y := ⟨n, a', 0, xs, ⟨#[]⟩, true, false⟩) rfl rfl rfl (HQ.out.put ⟨n, a', 0, xs, ⟨#[]⟩, true, false⟩) Tryz.underlying41 rfl (by kernel_rfl) rfl (WrDone.mk HE.out rfl (HO.out.putDeN hV1 ⟨n, a', 0, xs, ⟨#[]⟩, true, false⟩) (below_putDe BW.out (by omega) ⟨n, a', 0, xs, ⟨#[]⟩, true, false⟩))

theorem spec_l08Write (n a : Int) (x : St) (r t : ByteArray) (b : Bool) (w : World) (hr : r.size ≤ 4) (ht : t.size ≤ 65536) (hx : stOKB x = true) (ha : 0 ≤ a) (ha2 : a ≤ 1000000000) :
    Calls Tryz.prog 44 #[deV ⟨n, a, 0, x, r, b, false⟩, .string t] w (WrDone (wrP ⟨n, a, 0, x, r, b, false⟩ (r ++ t)) w) := by
  cases b
  · unfold wrP
    dsimp only
    rw [if_neg (show ¬ (false = true) by decide)]
    by_cases h1 : (r ++ t).size < (prHead n).size ∧ hasPre (prHead n) (r ++ t) = true
    · rw [if_pos h1]
      exact writeWait n a x r t w hr ht h1.1 h1.2
    · rw [if_neg h1]
      cases h2 : hasPre (r ++ t) (prHead n)
      · rw [if_pos rfl]
        exact writeFail n a x r t w hr ht h1 h2
      · rw [if_neg (by decide)]
        by_cases h3 : (r ++ t).size = 0
        · rw [if_pos h3]
          have := writeNone n a x r t w hr ht h1 h2 h3
          rw [size_zero h3]
          exact this
        · rw [if_neg h3]
          exact writeAhead n a x r t w hr ht h1 h2 (by omega) hx ha ha2
  · exact writeBegun n a x r t w hr ht hx ha ha2

end Go.Proofs.YtbamjhldebobhaaGreatDoor

namespace Go.Proofs.YtbamjhldebobhaaGreatDoor
open Go.RowKit Go.Sort

theorem region_held_v {P : Program} {id : Nat} {ops : Array Oper} {Q : Exit → Act → World → Prop} {S : World → Prop} {a : Act} {w : World} (w2 : World) (hw : { w with drawn := w.drawn + 1 } = w2) (hm : P.follows .mixedOrders = true)
    (h : wpAnyH P .any ops Q S ops.size (Array.replicate ops.size false) a w2) : (Code.region id ops true).wp P Q a w := by
  subst hw
  exact wp_region_held hm h

end Go.Proofs.YtbamjhldebobhaaGreatDoor

namespace Go.Proofs.YtbamjhldebobhaaGreatDoor
open Go.RowKit Go.Sort

/-- WritePiece hands back. -/
def WpDone (d : De) (t : ByteArray) (w : World) (e : Ending) (w' : World) : Prop := ∃ v, e = .returned (.tuple #[deV (wpP d t).d, v, .int .i64 (wpP d t).c]) ∧ Own .i64 3 w' w.heap.size v (wpP d t).z ∧ Below w.heap.size w w'
theorem WpDone.mk {d y : De} {t : ByteArray} {z : List Int} {c : Int} {v : Value} {w w' : World} (h : wpP d t = ⟨y, z, c⟩) (h1 : Own .i64 3 w' w.heap.size v z) (h2 : Below w.heap.size w w') : WpDone d t w (.returned (.tuple #[deV y, v, .int .i64 c])) w' := by
  refine ⟨v, by rw [h], by rw [h]; exact h1, h2⟩
theorem size_putDe (w : World) (g : Nat) (y : De) : (putDe w g y).heap.size = w.heap.size := by simp [putDe]
theorem own_new {w : World} {B : Nat} (hB : B ≤ w.heap.size) : Own .i64 3 (w.alloc (.cells #[] 3)) B (.slice (some ⟨w.heap.size, 0, none⟩) 0 0) [] := Own.lit .i64 3 w B [] hB (by decide)

set_option maxHeartbeats 4000000 in
set_option maxRecDepth 100000 in
theorem wpLong (n a c : Int) (x : St) (r : ByteArray) (b o : Bool) (t : ByteArray) (w : World) (h : 65536 < t.size) : Calls Tryz.prog 22 #[deV ⟨n, a, c, x, r, b, o⟩, .string t] w (WpDone ⟨n, a, c, x, r, b, o⟩ t w) := by
  have D0 : Hid (DeAt ((w.alloc (.cells #[.int .i64 n, .int .i64 a, .int .i64 c, .int .i64 x.g0, .int .i64 x.g1, .int .i64 x.g2, .int .i64 x.g3, .int .i64 x.l, .int .i64 x.s, .int .i64 x.d, .string r, .bool b, .bool o] 41)).alloc (.cells #[.int .i64 0, .int .i64 0, .int .i64 0, .int .i64 0, .int .i64 0, .int .i64 0, .int .i64 0, .int .i64 0, .int .i64 0, .int .i64 0, .string ⟨#[]⟩, .bool false, .bool false] 41)) w.heap.size ⟨n, a, c, x, r, b, o⟩) := Lib.hid (heap_alloc2_old _ _ _)
  have R0 : Hid (DeAt ((w.alloc (.cells #[.int .i64 n, .int .i64 a, .int .i64 c, .int .i64 x.g0, .int .i64 x.g1, .int .i64 x.g2, .int .i64 x.g3, .int .i64 x.l, .int .i64 x.s, .int .i64 x.d, .string r, .bool b, .bool o] 41)).alloc (.cells #[.int .i64 0, .int .i64 0, .int .i64 0, .int .i64 0, .int .i64 0, .int .i64 0, .int .i64 0, .int .i64 0, .int .i64 0, .int .i64 0, .string ⟨#[]⟩, .bool false, .bool false] 41)) (w.heap.size + 1) zeroDe) := Lib.hid (heap_alloc2_new _ _ _)
  have B0 := Lib.hid (below_two w (.cells #[.int .i64 n, .int .i64 a, .int .i64 c, .int .i64 x.g0, .int .i64 x.g1, .int .i64 x.g2, .int .i64 x.g3, .int .i64 x.l, .int .i64 x.s, .int .i64 x.d, .string r, .bool b, .bool o] 41) (.cells #[.int .i64 0, .int .i64 0, .int .i64 0, .int .i64 0, .int .i64 0, .int .i64 0, .int .i64 0, .int .i64 0, .int .i64 0, .int .i64 0, .string ⟨#[]⟩, .bool false, .bool false] 41))
  have HV : Hid (deV ⟨n, a, c, x, r, b, o⟩ = .agg #[.int .i64 n, .int .i64 a, .int .i64 c, .int .i64 x.g0, .int .i64 x.g1, .int .i64 x.g2, .int .i64 x.g3, .int .i64 x.l, .int .i64 x.s, .int .i64 x.d, .string r, .bool b, .bool o]) := Lib.hid rfl
  have HE : Hid (wpP ⟨n, a, c, x, r, b, o⟩ t = ⟨zeroDe, [], 2⟩) := Lib.hid (by rw [wpP, if_pos h])
  have v1 : (65536 : Int) < (t.size : Int) := by omega
  rw [HV.out]
  have hs2 : ((w.alloc (.cells #[.int .i64 n, .int .i64 a, .int .i64 c, .int .i64 x.g0, .int .i64 x.g1, .int .i64 x.g2, .int .i64 x.g3, .int .i64 x.l, .int .i64 x.s, .int .i64 x.d, .string r, .bool b, .bool o] 41)).alloc (.cells #[.int .i64 0, .int .i64 0, .int .i64 0, .int .i64 0, .int .i64 0, .int .i64 0, .int .i64 0, .int .i64 0, .int .i64 0, .int .i64 0, .string ⟨#[]⟩, .bool false, .bool false] 41)).heap.size = w.heap.size + 2 := by simp
  have O1 := Lib.hid (own_new (w := (w.alloc (.cells #[.int .i64 n, .int .i64 a, .int .i64 c, .int .i64 x.g0, .int .i64 x.g1, .int .i64 x.g2, .int .i64 x.g3, .int .i64 x.l, .int .i64 x.s, .int .i64 x.d, .string r, .bool b, .bool o] 41)).alloc (.cells #[.int .i64 0, .int .i64 0, .int .i64 0, .int .i64 0, .int .i64 0, .int .i64 0, .int .i64 0, .int .i64 0, .int .i64 0, .int .i64 0, .string ⟨#[]⟩, .bool false, .bool false] 41)) (B := w.heap.size) (by rw [hs2]; omega))
  have R1 := Lib.hid (R0.out.keep (below_one _ (.cells #[] 3)))
  have B1 := Lib.hid (B0.out.alloc B0.out.size (.cells #[] 3))
  rw [hs2] at O1
  clear h hs2
  go_enter Tryz.func22, Tryz.ntmps22
  go_wp2
  exact de_ret3 (y := zeroDe) rfl rfl rfl rfl R1.out Tryz.underlying41 rfl (by kernel_rfl) rfl (WpDone.mk HE.out O1.out B1.out)

set_option maxHeartbeats 4000000 in
set_option maxRecDepth 100000 in
theorem wpBad (n a c : Int) (x : St) (r : ByteArray) (b o : Bool) (t : ByteArray) (w : World) (hr : r.size ≤ 1048576) (h : ¬ 65536 < t.size) (hok : deOK ⟨n, a, c, x, r, b, o⟩ = false) : Calls Tryz.prog 22 #[deV ⟨n, a, c, x, r, b, o⟩, .string t] w (WpDone ⟨n, a, c, x, r, b, o⟩ t w) := by
  have HO := Lib.hid (fun w => spec_l08OK ⟨n, a, c, x, r, b, o⟩ w hr)
  rw [hok] at HO
  have D0 : Hid (DeAt ((w.alloc (.cells #[.int .i64 n, .int .i64 a, .int .i64 c, .int .i64 x.g0, .int .i64 x.g1, .int .i64 x.g2, .int .i64 x.g3, .int .i64 x.l, .int .i64 x.s, .int .i64 x.d, .string r, .bool b, .bool o] 41)).alloc (.cells #[.int .i64 0, .int .i64 0, .int .i64 0, .int .i64 0, .int .i64 0, .int .i64 0, .int .i64 0, .int .i64 0, .int .i64 0, .int .i64 0, .string ⟨#[]⟩, .bool false, .bool false] 41)) w.heap.size ⟨n, a, c, x, r, b, o⟩) := Lib.hid (heap_alloc2_old _ _ _)
  have R0 : Hid (DeAt ((w.alloc (.cells #[.int .i64 n, .int .i64 a, .int .i64 c, .int .i64 x.g0, .int .i64 x.g1, .int .i64 x.g2, .int .i64 x.g3, .int .i64 x.l, .int .i64 x.s, .int .i64 x.d, .string r, .bool b, .bool o] 41)).alloc (.cells #[.int .i64 0, .int .i64 0, .int .i64 0, .int .i64 0, .int .i64 0, .int .i64 0, .int .i64 0, .int .i64 0, .int .i64 0, .int .i64 0, .string ⟨#[]⟩, .bool false, .bool false] 41)) (w.heap.size + 1) zeroDe) := Lib.hid (heap_alloc2_new _ _ _)
  have B0 := Lib.hid (below_two w (.cells #[.int .i64 n, .int .i64 a, .int .i64 c, .int .i64 x.g0, .int .i64 x.g1, .int .i64 x.g2, .int .i64 x.g3, .int .i64 x.l, .int .i64 x.s, .int .i64 x.d, .string r, .bool b, .bool o] 41) (.cells #[.int .i64 0, .int .i64 0, .int .i64 0, .int .i64 0, .int .i64 0, .int .i64 0, .int .i64 0, .int .i64 0, .int .i64 0, .int .i64 0, .string ⟨#[]⟩, .bool false, .bool false] 41))
  have HV : Hid (deV ⟨n, a, c, x, r, b, o⟩ = .agg #[.int .i64 n, .int .i64 a, .int .i64 c, .int .i64 x.g0, .int .i64 x.g1, .int .i64 x.g2, .int .i64 x.g3, .int .i64 x.l, .int .i64 x.s, .int .i64 x.d, .string r, .bool b, .bool o]) := Lib.hid rfl
  have HE : Hid (wpP ⟨n, a, c, x, r, b, o⟩ t = ⟨zeroDe, [], 1⟩) := Lib.hid (by rw [wpP, if_neg h, if_pos hok])
  have v1 : ¬ (65536 : Int) < (t.size : Int) := by omega
  rw [HV.out] at HO ⊢
  clear h hok hr
  go_enter Tryz.func22, Tryz.ntmps22
  go_wp2_with fail
  refine (HO.out _).mono ?_
  generalize (w.alloc (.cells #[.int .i64 n, .int .i64 a, .int .i64 c, .int .i64 x.g0, .int .i64 x.g1, .int .i64 x.g2, .int .i64 x.g3, .int .i64 x.l, .int .i64 x.s, .int .i64 x.d, .string r, .bool b, .bool o] 41)).alloc (.cells #[.int .i64 0, .int .i64 0, .int .i64 0, .int .i64 0, .int .i64 0, .int .i64 0, .int .i64 0, .int .i64 0, .int .i64 0, .int .i64 0, .string ⟨#[]⟩, .bool false, .bool false] 41) = W at *
  rintro e w1 ⟨rfl, b1⟩
  have D1 := Lib.hid (D0.out.keep b1)
  have R1 := Lib.hid (R0.out.keep b1)
  have B1 := Lib.hid (B0.out.trans (b1.mono B0.out.size))
  clear b1 D0 R0 B0
  have ⟨r0, r1, r2, r3, r4, r5, r6, r7, r8, r9, r10, r11, r12⟩ := deCells R1.out
  have ⟨s0, s1, s2, s3, s4, s5, s6, s7, s8, s9, s10, s11, s12⟩ := R1.out.thaw
  have hlR := R1.out.lt
  have RX := Lib.hid ((R1.out.put zeroDe).keep (below_one _ (.cells #[] 3)))
  have BY := below_putDe B1.out (show w.heap.size ≤ w.heap.size + 1 by omega) zeroDe
  have OX := Lib.hid (own_new (w := putDe w1 (w.heap.size + 1) zeroDe) BY.size)
  have BX := Lib.hid (BY.alloc BY.size (.cells #[] 3))
  rw [size_putDe] at OX
  clear BY
  go_wp2
  exact de_ret3 (y := zeroDe) rfl rfl rfl rfl RX.out Tryz.underlying41 rfl (by kernel_rfl) rfl (WpDone.mk HE.out OX.out BX.out)

set_option maxHeartbeats 4000000 in
set_option maxRecDepth 100000 in
theorem wpOver (n a c : Int) (x : St) (r : ByteArray) (b : Bool) (t : ByteArray) (w : World) (hr : r.size ≤ 1048576) (h : ¬ 65536 < t.size) (hok : deOK ⟨n, a, c, x, r, b, true⟩ = true) : Calls Tryz.prog 22 #[deV ⟨n, a, c, x, r, b, true⟩, .string t] w (WpDone ⟨n, a, c, x, r, b, true⟩ t w) := by
  have HO := Lib.hid (fun w => spec_l08OK ⟨n, a, c, x, r, b, true⟩ w hr)
  rw [hok] at HO
  have D0 : Hid (DeAt ((w.alloc (.cells #[.int .i64 n, .int .i64 a, .int .i64 c, .int .i64 x.g0, .int .i64 x.g1, .int .i64 x.g2, .int .i64 x.g3, .int .i64 x.l, .int .i64 x.s, .int .i64 x.d, .string r, .bool b, .bool true] 41)).alloc (.cells #[.int .i64 0, .int .i64 0, .int .i64 0, .int .i64 0, .int .i64 0, .int .i64 0, .int .i64 0, .int .i64 0, .int .i64 0, .int .i64 0, .string ⟨#[]⟩, .bool false, .bool false] 41)) w.heap.size ⟨n, a, c, x, r, b, true⟩) := Lib.hid (heap_alloc2_old _ _ _)
  have R0 : Hid (DeAt ((w.alloc (.cells #[.int .i64 n, .int .i64 a, .int .i64 c, .int .i64 x.g0, .int .i64 x.g1, .int .i64 x.g2, .int .i64 x.g3, .int .i64 x.l, .int .i64 x.s, .int .i64 x.d, .string r, .bool b, .bool true] 41)).alloc (.cells #[.int .i64 0, .int .i64 0, .int .i64 0, .int .i64 0, .int .i64 0, .int .i64 0, .int .i64 0, .int .i64 0, .int .i64 0, .int .i64 0, .string ⟨#[]⟩, .bool false, .bool false] 41)) (w.heap.size + 1) zeroDe) := Lib.hid (heap_alloc2_new _ _ _)
  have B0 := Lib.hid (below_two w (.cells #[.int .i64 n, .int .i64 a, .int .i64 c, .int .i64 x.g0, .int .i64 x.g1, .int .i64 x.g2, .int .i64 x.g3, .int .i64 x.l, .int .i64 x.s, .int .i64 x.d, .string r, .bool b, .bool true] 41) (.cells #[.int .i64 0, .int .i64 0, .int .i64 0, .int .i64 0, .int .i64 0, .int .i64 0, .int .i64 0, .int .i64 0, .int .i64 0, .int .i64 0, .string ⟨#[]⟩, .bool false, .bool false] 41))
  have HV : Hid (deV ⟨n, a, c, x, r, b, true⟩ = .agg #[.int .i64 n, .int .i64 a, .int .i64 c, .int .i64 x.g0, .int .i64 x.g1, .int .i64 x.g2, .int .i64 x.g3, .int .i64 x.l, .int .i64 x.s, .int .i64 x.d, .string r, .bool b, .bool true]) := Lib.hid rfl
  have HE : Hid (wpP ⟨n, a, c, x, r, b, true⟩ t = ⟨⟨n, a, c, x, r, b, true⟩, [], whyC ⟨n, a, c, x, r, b, true⟩⟩) := Lib.hid (by rw [wpP, if_neg h, if_neg (by rw [hok]; decide), if_pos rfl])
  have v1 : ¬ (65536 : Int) < (t.size : Int) := by omega
  have HY := Lib.hid (fun w => spec_l08Why ⟨n, a, c, x, r, b, true⟩ w)
  generalize whyC ⟨n, a, c, x, r, b, true⟩ = cc at *
  rw [HV.out] at HO HY ⊢
  clear h hok hr
  go_enter Tryz.func22, Tryz.ntmps22
  go_wp2_with fail
  refine (HO.out _).mono ?_
  generalize (w.alloc (.cells #[.int .i64 n, .int .i64 a, .int .i64 c, .int .i64 x.g0, .int .i64 x.g1, .int .i64 x.g2, .int .i64 x.g3, .int .i64 x.l, .int .i64 x.s, .int .i64 x.d, .string r, .bool b, .bool true] 41)).alloc (.cells #[.int .i64 0, .int .i64 0, .int .i64 0, .int .i64 0, .int .i64 0, .int .i64 0, .int .i64 0, .int .i64 0, .int .i64 0, .int .i64 0, .string ⟨#[]⟩, .bool false, .bool false] 41) = W at *
  rintro e w1 ⟨rfl, b1⟩
  have D1 := Lib.hid (D0.out.keep b1)
  have R1 := Lib.hid (R0.out.keep b1)
  have B1 := Lib.hid (B0.out.trans (b1.mono B0.out.size))
  clear b1 D0 R0 B0
  have y12 := (deCells D1.out).2.2.2.2.2.2.2.2.2.2.2.2
  have hl1 := D1.out.lt
  go_wp2_with fail
  clear y12
  have hl2 := R1.out.lt
  obtain ⟨w2, hw2⟩ : ∃ w2, w1.drew = w2 := ⟨_, rfl⟩
  have bd : Below w1.heap.size w1 w2 := by rw [← hw2]; exact below_drewN (Below.refl _ _) 1
  have D2 := Lib.hid (D1.out.keep bd)
  have R2 := Lib.hid (R1.out.keep bd)
  have B2 := Lib.hid (B1.out.trans (bd.mono B1.out.size))
  have hl2' : w.heap.size + 1 < w2.heap.size := R2.out.lt
  have hS : (fun W' : World => DeAt W' w.heap.size ⟨n, a, c, x, r, b, true⟩ ∧ Below w.heap.size w W') w2 := ⟨D2.out, B2.out⟩
  refine region_held_w (S := (fun W' : World => DeAt W' w.heap.size ⟨n, a, c, x, r, b, true⟩ ∧ Below w.heap.size w W')) w2 hw2 (by kernel_rfl) ?_
  clear D1 B1 R1 bd hw2 hl2 hl1
  refine wpAnyH_take (i := 0) (v := .agg #[.int .i64 n, .int .i64 a, .int .i64 c, .int .i64 x.g0, .int .i64 x.g1, .int .i64 x.g2, .int .i64 x.g3, .int .i64 x.l, .int .i64 x.s, .int .i64 x.d, .string r, .bool b, .bool true]) rfl (by kernel_rfl) (by kernel_rfl) (by kernel_rfl) (fun _ _ _ h => h) (.inl ⟨by kernel_rfl, fun w' hS' => by have ⟨y0, y1, y2, y3, y4, y5, y6, y7, y8, y9, y10, y11, y12⟩ := deCells hS'.1; go_simp⟩) hS ?_
  refine wpAnyH_take (i := 2) (v := .agg #[.int .i64 n, .int .i64 a, .int .i64 c, .int .i64 x.g0, .int .i64 x.g1, .int .i64 x.g2, .int .i64 x.g3, .int .i64 x.l, .int .i64 x.s, .int .i64 x.d, .string r, .bool b, .bool true]) rfl (by kernel_rfl) (by kernel_rfl) (by kernel_rfl) (fun _ _ _ h => h) (.inl ⟨by kernel_rfl, fun w' hS' => by have ⟨y0, y1, y2, y3, y4, y5, y6, y7, y8, y9, y10, y11, y12⟩ := deCells hS'.1; go_simp⟩) hS ?_
  clear hS
  refine wpAnyH_ready (rs := [1, 3]) (by kernel_rfl) (by simp) (AllReadyH.cons rfl (fun K hK => ?a1) (AllReadyH.cons rfl (fun K hK => ?a3) AllReadyH.nil))
  case a1 =>
    go_simp
    have bo := below_one w2 (.cells #[] 3)
    have O3 := Lib.hid (own_new (w := w2) B2.out.size)
    have D3 := Lib.hid (D2.out.keep bo)
    have R3 := Lib.hid (R2.out.keep bo)
    have B3 := Lib.hid (B2.out.trans (bo.mono B2.out.size))
    refine hK.out _ _ ⟨D3.out, B3.out⟩ (fun _ => ?_)
    clear hK K bo
    refine wpAnyH_ready (rs := [3]) (by kernel_rfl) (by simp) (AllReadyH.cons rfl (fun K hK => ?_) AllReadyH.nil)
    go_simp
    refine (HY.out _).mono ?_
    generalize w2.alloc (.cells #[] 3) = w3 at *
    rintro e w4 ⟨rfl, b4⟩
    have D4 := Lib.hid (D3.out.keep b4)
    have R4 := Lib.hid (R3.out.keep b4)
    have B4 := Lib.hid (B3.out.trans (b4.mono B3.out.size))
    have O4 := Lib.hid (O3.out.all b4)
    refine hK.out _ _ ⟨D4.out, B4.out⟩ (fun _ => ?_)
    clear hK K b4
    have hS : (fun W' : World => DeAt W' w.heap.size ⟨n, a, c, x, r, b, true⟩ ∧ Below w.heap.size w W') w4 := ⟨D4.out, B4.out⟩
    refine wpAnyH_ready (rs := [4]) (by kernel_rfl) (by simp) (AllReadyH.cons rfl (fun K hK => ?_) AllReadyH.nil)
    have ⟨r0, r1, r2, r3, r4, r5, r6, r7, r8, r9, r10, r11, r12⟩ := deCells R4.out
    have ⟨s0, s1, s2, s3, s4, s5, s6, s7, s8, s9, s10, s11, s12⟩ := R4.out.thaw
    have hlR := R4.out.lt
    clear hS
    go_simp
    have R9 := Lib.hid (R4.out.put ⟨n, a, c, x, r, b, true⟩)
    have B9 := Lib.hid (below_putDe B4.out (show w.heap.size ≤ w.heap.size + 1 by omega) ⟨n, a, c, x, r, b, true⟩)
    have D9 : Hid (DeAt (putDe w4 (w.heap.size + 1) ⟨n, a, c, x, r, b, true⟩) w.heap.size ⟨n, a, c, x, r, b, true⟩) := Lib.hid (((only_putDe (w.heap.size + 1) w4 ⟨n, a, c, x, r, b, true⟩).2 _ (by omega) D4.out.lt).trans D4.out)
    have O9 := Lib.hid (O4.out.putDeN (by intro he; have e9 : w2.heap.size = w.heap.size + 1 := Option.some.inj he; omega) ⟨n, a, c, x, r, b, true⟩)
    refine hK.out _ _ ⟨D9.out, B9.out⟩ (fun _ => ?_)
    clear hK K r0 r1 r2 r3 r4 r5 r6 r7 r8 r9 r10 r11 r12 s0 s1 s2 s3 s4 s5 s6 s7 s8 s9 s10 s11 s12
    have hS : (fun W' : World => DeAt W' w.heap.size ⟨n, a, c, x, r, b, true⟩ ∧ Below w.heap.size w W') (putDe w4 (w.heap.size + 1) ⟨n, a, c, x, r, b, true⟩) := ⟨D9.out, B9.out⟩
    refine wpAnyH_take (i := 5) (v := .slice (some ⟨w2.heap.size, 0, none⟩) 0 0) rfl (by kernel_rfl) (by kernel_rfl) (by kernel_rfl) (fun _ _ _ h => h) (.inl ⟨by kernel_rfl, fun w' hS' => by go_simp⟩) hS ?_
    refine wpAnyH_take (i := 6) (v := .int .i64 cc) rfl (by kernel_rfl) (by kernel_rfl) (by kernel_rfl) (fun _ _ _ h => h) (.inl ⟨by kernel_rfl, fun w' hS' => by go_simp⟩) hS ?_
    refine wpAnyH_done (by kernel_rfl) ?_ _
    clear hS
    go_simp
    go_wp2
    exact de_ret3 (y := ⟨n, a, c, x, r, b, true⟩) rfl rfl rfl rfl R9.out Tryz.underlying41 rfl (by kernel_rfl) rfl (WpDone.mk HE.out O9.out B9.out)
  case a3 =>
    go_simp
    refine (HY.out _).mono ?_
    rintro e w3 ⟨rfl, b3⟩
    have D3 := Lib.hid (D2.out.keep b3)
    have R3 := Lib.hid (R2.out.keep b3)
    have B3 := Lib.hid (B2.out.trans (b3.mono B2.out.size))
    have hl3 : w.heap.size + 1 < w3.heap.size := R3.out.lt
    refine hK.out _ _ ⟨D3.out, B3.out⟩ (fun _ => ?_)
    clear hK K b3
    refine wpAnyH_ready (rs := [1, 4]) (by kernel_rfl) (by simp) (AllReadyH.cons rfl (fun K hK => ?b1) (AllReadyH.cons rfl (fun K hK => ?b4) AllReadyH.nil))
    case b1 =>
      go_simp
      have bo := below_one w3 (.cells #[] 3)
      have O4 := Lib.hid (own_new (w := w3) B3.out.size)
      have D4 := Lib.hid (D3.out.keep bo)
      have R4 := Lib.hid (R3.out.keep bo)
      have B4 := Lib.hid (B3.out.trans (bo.mono B3.out.size))
      refine hK.out _ _ ⟨D4.out, B4.out⟩ (fun _ => ?_)
      clear hK K bo
      generalize w3.alloc (.cells #[] 3) = w4 at *
      have hS : (fun W' : World => DeAt W' w.heap.size ⟨n, a, c, x, r, b, true⟩ ∧ Below w.heap.size w W') w4 := ⟨D4.out, B4.out⟩
      refine wpAnyH_ready (rs := [4]) (by kernel_rfl) (by simp) (AllReadyH.cons rfl (fun K hK => ?_) AllReadyH.nil)
      have ⟨r0, r1, r2, r3, r4, r5, r6, r7, r8, r9, r10, r11, r12⟩ := deCells R4.out
      have ⟨s0, s1, s2, s3, s4, s5, s6, s7, s8, s9, s10, s11, s12⟩ := R4.out.thaw
      have hlR := R4.out.lt
      clear hS
      go_simp
      have R9 := Lib.hid (R4.out.put ⟨n, a, c, x, r, b, true⟩)
      have B9 := Lib.hid (below_putDe B4.out (show w.heap.size ≤ w.heap.size + 1 by omega) ⟨n, a, c, x, r, b, true⟩)
      have D9 : Hid (DeAt (putDe w4 (w.heap.size + 1) ⟨n, a, c, x, r, b, true⟩) w.heap.size ⟨n, a, c, x, r, b, true⟩) := Lib.hid (((only_putDe (w.heap.size + 1) w4 ⟨n, a, c, x, r, b, true⟩).2 _ (by omega) D4.out.lt).trans D4.out)
      have O9 := Lib.hid (O4.out.putDeN (by intro he; have e9 : w3.heap.size = w.heap.size + 1 := Option.some.inj he; omega) ⟨n, a, c, x, r, b, true⟩)
      refine hK.out _ _ ⟨D9.out, B9.out⟩ (fun _ => ?_)
      clear hK K r0 r1 r2 r3 r4 r5 r6 r7 r8 r9 r10 r11 r12 s0 s1 s2 s3 s4 s5 s6 s7 s8 s9 s10 s11 s12
      have hS : (fun W' : World => DeAt W' w.heap.size ⟨n, a, c, x, r, b, true⟩ ∧ Below w.heap.size w W') (putDe w4 (w.heap.size + 1) ⟨n, a, c, x, r, b, true⟩) := ⟨D9.out, B9.out⟩
      refine wpAnyH_take (i := 5) (v := .slice (some ⟨w3.heap.size, 0, none⟩) 0 0) rfl (by kernel_rfl) (by kernel_rfl) (by kernel_rfl) (fun _ _ _ h => h) (.inl ⟨by kernel_rfl, fun w' hS' => by go_simp⟩) hS ?_
      refine wpAnyH_take (i := 6) (v := .int .i64 cc) rfl (by kernel_rfl) (by kernel_rfl) (by kernel_rfl) (fun _ _ _ h => h) (.inl ⟨by kernel_rfl, fun w' hS' => by go_simp⟩) hS ?_
      refine wpAnyH_done (by kernel_rfl) ?_ _
      clear hS
      go_simp
      go_wp2
      exact de_ret3 (y := ⟨n, a, c, x, r, b, true⟩) rfl rfl rfl rfl R9.out Tryz.underlying41 rfl (by kernel_rfl) rfl (WpDone.mk HE.out O9.out B9.out)
    case b4 =>
      have ⟨r0, r1, r2, r3, r4, r5, r6, r7, r8, r9, r10, r11, r12⟩ := deCells R3.out
      have ⟨s0, s1, s2, s3, s4, s5, s6, s7, s8, s9, s10, s11, s12⟩ := R3.out.thaw
      have hlR := R3.out.lt
      go_simp
      have R9 := Lib.hid (R3.out.put ⟨n, a, c, x, r, b, true⟩)
      have B9 := Lib.hid (below_putDe B3.out (show w.heap.size ≤ w.heap.size + 1 by omega) ⟨n, a, c, x, r, b, true⟩)
      have D9 : Hid (DeAt (putDe w3 (w.heap.size + 1) ⟨n, a, c, x, r, b, true⟩) w.heap.size ⟨n, a, c, x, r, b, true⟩) := Lib.hid (((only_putDe (w.heap.size + 1) w3 ⟨n, a, c, x, r, b, true⟩).2 _ (by omega) D3.out.lt).trans D3.out)
      refine hK.out _ _ ⟨D9.out, B9.out⟩ (fun _ => ?_)
      clear hK K r0 r1 r2 r3 r4 r5 r6 r7 r8 r9 r10 r11 r12 s0 s1 s2 s3 s4 s5 s6 s7 s8 s9 s10 s11 s12
      refine wpAnyH_ready (rs := [1]) (by kernel_rfl) (by simp) (AllReadyH.cons rfl (fun K hK => ?_) AllReadyH.nil)
      go_simp
      have bo := below_one (putDe w3 (w.heap.size + 1) ⟨n, a, c, x, r, b, true⟩) (.cells #[] 3)
      have O4 := Lib.hid (own_new (w := putDe w3 (w.heap.size + 1) ⟨n, a, c, x, r, b, true⟩) B9.out.size)
      rw [size_putDe] at O4
      have D4 := Lib.hid (D9.out.keep bo)
      have R4 := Lib.hid (R9.out.keep bo)
      have B4 := Lib.hid (B9.out.trans (bo.mono B9.out.size))
      refine hK.out _ _ ⟨D4.out, B4.out⟩ (fun _ => ?_)
      clear hK K bo
      have hS : (fun W' : World => DeAt W' w.heap.size ⟨n, a, c, x, r, b, true⟩ ∧ Below w.heap.size w W') ((putDe w3 (w.heap.size + 1) ⟨n, a, c, x, r, b, true⟩).alloc (.cells #[] 3)) := ⟨D4.out, B4.out⟩
      refine wpAnyH_take (i := 5) (v := .slice (some ⟨w3.heap.size, 0, none⟩) 0 0) rfl (by kernel_rfl) (by kernel_rfl) (by kernel_rfl) (fun _ _ _ h => h) (.inl ⟨by kernel_rfl, fun w' hS' => by go_simp⟩) hS ?_
      refine wpAnyH_take (i := 6) (v := .int .i64 cc) rfl (by kernel_rfl) (by kernel_rfl) (by kernel_rfl) (fun _ _ _ h => h) (.inl ⟨by kernel_rfl, fun w' hS' => by go_simp⟩) hS ?_
      refine wpAnyH_done (by kernel_rfl) ?_ _
      clear hS
      go_simp
      go_wp2
      exact de_ret3 (y := ⟨n, a, c, x, r, b, true⟩) rfl rfl rfl rfl R4.out Tryz.underlying41 rfl (by kernel_rfl) rfl (WpDone.mk HE.out O4.out B4.out)

set_option maxHeartbeats 4000000 in
set_option maxRecDepth 100000 in
theorem wpFull (n a : Int) (x : St) (r : ByteArray) (b : Bool) (t : ByteArray) (w : World) (hr : r.size ≤ 1048576) (h : ¬ 65536 < t.size) (hok : deOK ⟨n, a, 0, x, r, b, false⟩ = true) (hf : 1000000000 < a + r.size + t.size) (ha : 0 ≤ a) (ha2 : a ≤ 1000000000) : Calls Tryz.prog 22 #[deV ⟨n, a, 0, x, r, b, false⟩, .string t] w (WpDone ⟨n, a, 0, x, r, b, false⟩ t w) := by
  have HO := Lib.hid (fun w => spec_l08OK ⟨n, a, 0, x, r, b, false⟩ w hr)
  rw [hok] at HO
  have D0 : Hid (DeAt ((w.alloc (.cells #[.int .i64 n, .int .i64 a, .int .i64 0, .int .i64 x.g0, .int .i64 x.g1, .int .i64 x.g2, .int .i64 x.g3, .int .i64 x.l, .int .i64 x.s, .int .i64 x.d, .string r, .bool b, .bool false] 41)).alloc (.cells #[.int .i64 0, .int .i64 0, .int .i64 0, .int .i64 0, .int .i64 0, .int .i64 0, .int .i64 0, .int .i64 0, .int .i64 0, .int .i64 0, .string ⟨#[]⟩, .bool false, .bool false] 41)) w.heap.size ⟨n, a, 0, x, r, b, false⟩) := Lib.hid (heap_alloc2_old _ _ _)
  have R0 : Hid (DeAt ((w.alloc (.cells #[.int .i64 n, .int .i64 a, .int .i64 0, .int .i64 x.g0, .int .i64 x.g1, .int .i64 x.g2, .int .i64 x.g3, .int .i64 x.l, .int .i64 x.s, .int .i64 x.d, .string r, .bool b, .bool false] 41)).alloc (.cells #[.int .i64 0, .int .i64 0, .int .i64 0, .int .i64 0, .int .i64 0, .int .i64 0, .int .i64 0, .int .i64 0, .int .i64 0, .int .i64 0, .string ⟨#[]⟩, .bool false, .bool false] 41)) (w.heap.size + 1) zeroDe) := Lib.hid (heap_alloc2_new _ _ _)
  have B0 := Lib.hid (below_two w (.cells #[.int .i64 n, .int .i64 a, .int .i64 0, .int .i64 x.g0, .int .i64 x.g1, .int .i64 x.g2, .int .i64 x.g3, .int .i64 x.l, .int .i64 x.s, .int .i64 x.d, .string r, .bool b, .bool false] 41) (.cells #[.int .i64 0, .int .i64 0, .int .i64 0, .int .i64 0, .int .i64 0, .int .i64 0, .int .i64 0, .int .i64 0, .int .i64 0, .int .i64 0, .string ⟨#[]⟩, .bool false, .bool false] 41))
  have HV : Hid (deV ⟨n, a, 0, x, r, b, false⟩ = .agg #[.int .i64 n, .int .i64 a, .int .i64 0, .int .i64 x.g0, .int .i64 x.g1, .int .i64 x.g2, .int .i64 x.g3, .int .i64 x.l, .int .i64 x.s, .int .i64 x.d, .string r, .bool b, .bool false]) := Lib.hid rfl
  have HE : Hid (wpP ⟨n, a, 0, x, r, b, false⟩ t = ⟨⟨n, a, 0, x, r, b, false⟩, [], 7⟩) := Lib.hid (by rw [wpP, if_neg h, if_neg (by rw [hok]; decide), if_neg (show ¬ (false = true) by decide), if_pos hf])
  have v1 : ¬ (65536 : Int) < (t.size : Int) := by omega
  have u1 : IntKind.i64.wrap (a + (r.size : Int)) = a + (r.size : Int) := IntWalk.i64_in _ (by omega)
  have u2 : IntKind.i64.wrap (a + (r.size : Int) + (t.size : Int)) = a + (r.size : Int) + (t.size : Int) := IntWalk.i64_in _ (by omega)
  rw [HV.out] at HO ⊢
  clear h hok hr
  go_enter Tryz.func22, Tryz.ntmps22
  go_wp2_with fail
  refine (HO.out _).mono ?_
  generalize (w.alloc (.cells #[.int .i64 n, .int .i64 a, .int .i64 0, .int .i64 x.g0, .int .i64 x.g1, .int .i64 x.g2, .int .i64 x.g3, .int .i64 x.l, .int .i64 x.s, .int .i64 x.d, .string r, .bool b, .bool false] 41)).alloc (.cells #[.int .i64 0, .int .i64 0, .int .i64 0, .int .i64 0, .int .i64 0, .int .i64 0, .int .i64 0, .int .i64 0, .int .i64 0, .int .i64 0, .string ⟨#[]⟩, .bool false, .bool false] 41) = W at *
  rintro e w1 ⟨rfl, b1⟩
  have D1 := Lib.hid (D0.out.keep b1)
  have R1 := Lib.hid (R0.out.keep b1)
  have B1 := Lib.hid (B0.out.trans (b1.mono B0.out.size))
  clear b1 D0 R0 B0
  have ⟨d0, d1, d2, d3, d4, d5, d6, d7, d8, d9, d10, d11, d12⟩ := deCells D1.out
  have hlD := D1.out.lt
  have ⟨r0, r1, r2, r3, r4, r5, r6, r7, r8, r9, r10, r11, r12⟩ := deCells R1.out
  have ⟨s0, s1, s2, s3, s4, s5, s6, s7, s8, s9, s10, s11, s12⟩ := R1.out.thaw
  have hlR := R1.out.lt
  have RX := Lib.hid ((R1.out.put ⟨n, a, 0, x, r, b, false⟩).keep (below_one _ (.cells #[] 3)))
  have BY := below_putDe B1.out (show w.heap.size ≤ w.heap.size + 1 by omega) ⟨n, a, 0, x, r, b, false⟩
  have OX := Lib.hid (own_new (w := putDe w1 (w.heap.size + 1) ⟨n, a, 0, x, r, b, false⟩) BY.size)
  have BX := Lib.hid (BY.alloc BY.size (.cells #[] 3))
  rw [size_putDe] at OX
  clear BY
  go_wp2
  exact de_ret3 (y := ⟨n, a, 0, x, r, b, false⟩) rfl rfl rfl rfl RX.out Tryz.underlying41 rfl (by kernel_rfl) rfl (WpDone.mk HE.out OX.out BX.out)

set_option maxHeartbeats 4000000 in
set_option maxRecDepth 100000 in
theorem wpGo (n a : Int) (x : St) (r : ByteArray) (b : Bool) (t : ByteArray) (w : World) (h : ¬ 65536 < t.size) (hok : deOK ⟨n, a, 0, x, r, b, false⟩ = true) (hf : ¬ 1000000000 < a + r.size + t.size) : Calls Tryz.prog 22 #[deV ⟨n, a, 0, x, r, b, false⟩, .string t] w (WpDone ⟨n, a, 0, x, r, b, false⟩ t w) := by
  obtain ⟨_, hx, ha, ha2, _, _, _, _, hwt⟩ := deOK_parts hok
  have hr4 := wait_le hwt
  dsimp only at hx ha ha2 hr4
  have hr : r.size ≤ 1048576 := by omega
  have HO := Lib.hid (fun w => spec_l08OK ⟨n, a, 0, x, r, b, false⟩ w hr)
  rw [hok] at HO
  have D0 : Hid (DeAt ((w.alloc (.cells #[.int .i64 n, .int .i64 a, .int .i64 0, .int .i64 x.g0, .int .i64 x.g1, .int .i64 x.g2, .int .i64 x.g3, .int .i64 x.l, .int .i64 x.s, .int .i64 x.d, .string r, .bool b, .bool false] 41)).alloc (.cells #[.int .i64 0, .int .i64 0, .int .i64 0, .int .i64 0, .int .i64 0, .int .i64 0, .int .i64 0, .int .i64 0, .int .i64 0, .int .i64 0, .string ⟨#[]⟩, .bool false, .bool false] 41)) w.heap.size ⟨n, a, 0, x, r, b, false⟩) := Lib.hid (heap_alloc2_old _ _ _)
  have R0 : Hid (DeAt ((w.alloc (.cells #[.int .i64 n, .int .i64 a, .int .i64 0, .int .i64 x.g0, .int .i64 x.g1, .int .i64 x.g2, .int .i64 x.g3, .int .i64 x.l, .int .i64 x.s, .int .i64 x.d, .string r, .bool b, .bool false] 41)).alloc (.cells #[.int .i64 0, .int .i64 0, .int .i64 0, .int .i64 0, .int .i64 0, .int .i64 0, .int .i64 0, .int .i64 0, .int .i64 0, .int .i64 0, .string ⟨#[]⟩, .bool false, .bool false] 41)) (w.heap.size + 1) zeroDe) := Lib.hid (heap_alloc2_new _ _ _)
  have B0 := Lib.hid (below_two w (.cells #[.int .i64 n, .int .i64 a, .int .i64 0, .int .i64 x.g0, .int .i64 x.g1, .int .i64 x.g2, .int .i64 x.g3, .int .i64 x.l, .int .i64 x.s, .int .i64 x.d, .string r, .bool b, .bool false] 41) (.cells #[.int .i64 0, .int .i64 0, .int .i64 0, .int .i64 0, .int .i64 0, .int .i64 0, .int .i64 0, .int .i64 0, .int .i64 0, .int .i64 0, .string ⟨#[]⟩, .bool false, .bool false] 41))
  have HV : Hid (deV ⟨n, a, 0, x, r, b, false⟩ = .agg #[.int .i64 n, .int .i64 a, .int .i64 0, .int .i64 x.g0, .int .i64 x.g1, .int .i64 x.g2, .int .i64 x.g3, .int .i64 x.l, .int .i64 x.s, .int .i64 x.d, .string r, .bool b, .bool false]) := Lib.hid rfl
  have HE0 : Hid (wpP ⟨n, a, 0, x, r, b, false⟩ t = ⟨(wrP ⟨n, a, 0, x, r, b, false⟩ (r ++ t)).d, (wrP ⟨n, a, 0, x, r, b, false⟩ (r ++ t)).z, (wrP ⟨n, a, 0, x, r, b, false⟩ (r ++ t)).d.c⟩) := Lib.hid (by rw [wpP, if_neg h, if_neg (by rw [hok]; decide), if_neg (show ¬ (false = true) by decide), if_neg hf])
  have HWr := Lib.hid (fun w => spec_l08Write n a x r t b w hr4 (by omega) hx ha ha2)
  unfold WrDone at HWr
  have v1 : ¬ (65536 : Int) < (t.size : Int) := by omega
  have v2 : ¬ (1000000000 : Int) < a + (r.size : Int) + (t.size : Int) := by omega
  have u1 : IntKind.i64.wrap (a + (r.size : Int)) = a + (r.size : Int) := IntWalk.i64_in _ (by omega)
  have u2 : IntKind.i64.wrap (a + (r.size : Int) + (t.size : Int)) = a + (r.size : Int) + (t.size : Int) := IntWalk.i64_in _ (by omega)
  generalize wrP ⟨n, a, 0, x, r, b, false⟩ (r ++ t) = p at *
  obtain ⟨⟨yn, ya, yc, yx, yr, yb, yo⟩, z⟩ := p
  have HE : Hid (wpP ⟨n, a, 0, x, r, b, false⟩ t = ⟨⟨yn, ya, yc, yx, yr, yb, yo⟩, z, yc⟩) := Lib.hid HE0.out
  have HVY : Hid (deV ⟨yn, ya, yc, yx, yr, yb, yo⟩ = .agg #[.int .i64 yn, .int .i64 ya, .int .i64 yc, .int .i64 yx.g0, .int .i64 yx.g1, .int .i64 yx.g2, .int .i64 yx.g3, .int .i64 yx.l, .int .i64 yx.s, .int .i64 yx.d, .string yr, .bool yb, .bool yo]) := Lib.hid rfl
  dsimp only at HWr
  rw [HV.out] at HO HWr ⊢
  rw [HVY.out] at HWr
  clear h hok hr hf hx ha ha2 hr4 hwt HE0
  go_enter Tryz.func22, Tryz.ntmps22
  go_wp2_with fail
  refine (HO.out _).mono ?_
  generalize (w.alloc (.cells #[.int .i64 n, .int .i64 a, .int .i64 0, .int .i64 x.g0, .int .i64 x.g1, .int .i64 x.g2, .int .i64 x.g3, .int .i64 x.l, .int .i64 x.s, .int .i64 x.d, .string r, .bool b, .bool false] 41)).alloc (.cells #[.int .i64 0, .int .i64 0, .int .i64 0, .int .i64 0, .int .i64 0, .int .i64 0, .int .i64 0, .int .i64 0, .int .i64 0, .int .i64 0, .string ⟨#[]⟩, .bool false, .bool false] 41) = W at *
  rintro e w1 ⟨rfl, b1⟩
  have D1 := Lib.hid (D0.out.keep b1)
  have R1 := Lib.hid (R0.out.keep b1)
  have B1 := Lib.hid (B0.out.trans (b1.mono B0.out.size))
  clear b1 D0 R0 B0
  have ⟨d0, d1, d2, d3, d4, d5, d6, d7, d8, d9, d10, d11, d12⟩ := deCells D1.out
  have hlD := D1.out.lt
  go_wp2_with fail
  refine (HWr.out _).mono ?_
  clear d0 d1 d2 d3 d4 d5 d6 d7 d8 d9 d10 d11 d12 D1
  rintro e w2 ⟨v, rfl, o2, b2⟩
  obtain ⟨va, vc, rfl, _⟩ := o2.shape
  have R2 := Lib.hid (R1.out.keep b2)
  have hl2 : w.heap.size + 1 < w2.heap.size := R2.out.lt
  have hB1 := B1.out.size
  have bo := b2.alloc b2.size (.cells #[.int .i64 yn, .int .i64 ya, .int .i64 yc, .int .i64 yx.g0, .int .i64 yx.g1, .int .i64 yx.g2, .int .i64 yx.g3, .int .i64 yx.l, .int .i64 yx.s, .int .i64 yx.d, .string yr, .bool yb, .bool yo] 41)
  have Y3 : Hid (DeAt (w2.alloc (.cells #[.int .i64 yn, .int .i64 ya, .int .i64 yc, .int .i64 yx.g0, .int .i64 yx.g1, .int .i64 yx.g2, .int .i64 yx.g3, .int .i64 yx.l, .int .i64 yx.s, .int .i64 yx.d, .string yr, .bool yb, .bool yo] 41)) w2.heap.size ⟨yn, ya, yc, yx, yr, yb, yo⟩) := Lib.hid (heap_alloc_new _ _)
  have R3 := Lib.hid (R1.out.keep bo)
  have B3 := Lib.hid (B1.out.trans (bo.mono B1.out.size))
  have O3 := Lib.hid ((o2.low B1.out.size).alloc (.cells #[.int .i64 yn, .int .i64 ya, .int .i64 yc, .int .i64 yx.g0, .int .i64 yx.g1, .int .i64 yx.g2, .int .i64 yx.g3, .int .i64 yx.l, .int .i64 yx.s, .int .i64 yx.d, .string yr, .bool yb, .bool yo] 41))
  have hV : (Value.slice va z.length vc).ownBlock ≠ some (w.heap.size + 1) := by
    intro he
    have e9 := (World.ownsRow.lt o2 _ he).1
    have := R1.out.lt
    omega
  clear bo b2 o2 R1 R2 B1
  go_wp2_with fail
  generalize w2.alloc (.cells #[.int .i64 yn, .int .i64 ya, .int .i64 yc, .int .i64 yx.g0, .int .i64 yx.g1, .int .i64 yx.g2, .int .i64 yx.g3, .int .i64 yx.l, .int .i64 yx.s, .int .i64 yx.d, .string yr, .bool yb, .bool yo] 41) = W3 at *
  obtain ⟨w4, hw4⟩ : ∃ w4, W3.drew = w4 := ⟨_, rfl⟩
  have bd : Below W3.heap.size W3 w4 := by rw [← hw4]; exact below_drewN (Below.refl _ _) 1
  have Y4 := Lib.hid (Y3.out.keep bd)
  have R4 := Lib.hid (R3.out.keep bd)
  have B4 := Lib.hid (B3.out.trans (bd.mono B3.out.size))
  have O4 := Lib.hid (O3.out.all bd)
  have hS : (fun W' : World => DeAt W' w2.heap.size ⟨yn, ya, yc, yx, yr, yb, yo⟩ ∧ Below w.heap.size w W') w4 := ⟨Y4.out, B4.out⟩
  refine region_held_w (S := (fun W' : World => DeAt W' w2.heap.size ⟨yn, ya, yc, yx, yr, yb, yo⟩ ∧ Below w.heap.size w W')) w4 hw4 (by kernel_rfl) ?_
  clear Y3 R3 B3 O3 bd hw4
  refine wpAnyH_take (i := 0) (v := .agg #[.int .i64 yn, .int .i64 ya, .int .i64 yc, .int .i64 yx.g0, .int .i64 yx.g1, .int .i64 yx.g2, .int .i64 yx.g3, .int .i64 yx.l, .int .i64 yx.s, .int .i64 yx.d, .string yr, .bool yb, .bool yo]) rfl (by kernel_rfl) (by kernel_rfl) (by kernel_rfl) (fun _ _ _ h => h) (.inl ⟨by kernel_rfl, fun w' hS' => by have ⟨y0, y1, y2, y3, y4, y5, y6, y7, y8, y9, y10, y11, y12⟩ := deCells hS'.1; go_simp⟩) hS ?_
  refine wpAnyH_take (i := 1) (v := .slice va z.length vc) rfl (by kernel_rfl) (by kernel_rfl) (by kernel_rfl) (fun _ _ _ h => h) (.inl ⟨by kernel_rfl, fun w' hS' => by go_simp⟩) hS ?_
  refine wpAnyH_take (i := 2) (v := .pointer (some ⟨w2.heap.size, 2, none⟩)) rfl (by kernel_rfl) (by kernel_rfl) (by kernel_rfl) (fun _ _ _ h => h) (.inl ⟨by kernel_rfl, fun w' hS' => by go_simp⟩) hS ?_
  refine wpAnyH_take (i := 3) (v := .int .i64 yc) rfl (by kernel_rfl) (by kernel_rfl) (by kernel_rfl) (fun _ _ _ h => h) (.inl ⟨by kernel_rfl, fun w' hS' => by have ⟨y0, y1, y2, y3, y4, y5, y6, y7, y8, y9, y10, y11, y12⟩ := deCells hS'.1; go_simp⟩) hS ?_
  refine wpAnyH_ready (rs := [4]) (by kernel_rfl) (by simp) (AllReadyH.cons rfl (fun K hK => ?_) AllReadyH.nil)
  have ⟨r0, r1, r2, r3, r4, r5, r6, r7, r8, r9, r10, r11, r12⟩ := deCells R4.out
  have ⟨s0, s1, s2, s3, s4, s5, s6, s7, s8, s9, s10, s11, s12⟩ := R4.out.thaw
  have hlR := R4.out.lt
  clear hS
  go_simp
  have R9 := Lib.hid (R4.out.put ⟨yn, ya, yc, yx, yr, yb, yo⟩)
  have B9 := Lib.hid (below_putDe B4.out (show w.heap.size ≤ w.heap.size + 1 by omega) ⟨yn, ya, yc, yx, yr, yb, yo⟩)
  have Y9 : Hid (DeAt (putDe w4 (w.heap.size + 1) ⟨yn, ya, yc, yx, yr, yb, yo⟩) w2.heap.size ⟨yn, ya, yc, yx, yr, yb, yo⟩) := Lib.hid (((only_putDe (w.heap.size + 1) w4 ⟨yn, ya, yc, yx, yr, yb, yo⟩).2 _ (by omega) Y4.out.lt).trans Y4.out)
  have O9 := Lib.hid (O4.out.putDeN hV ⟨yn, ya, yc, yx, yr, yb, yo⟩)
  refine hK.out _ _ ⟨Y9.out, B9.out⟩ (fun _ => ?_)
  clear hK K r0 r1 r2 r3 r4 r5 r6 r7 r8 r9 r10 r11 r12 s0 s1 s2 s3 s4 s5 s6 s7 s8 s9 s10 s11 s12
  have hS : (fun W' : World => DeAt W' w2.heap.size ⟨yn, ya, yc, yx, yr, yb, yo⟩ ∧ Below w.heap.size w W') (putDe w4 (w.heap.size + 1) ⟨yn, ya, yc, yx, yr, yb, yo⟩) := ⟨Y9.out, B9.out⟩
  refine wpAnyH_take (i := 5) (v := .slice va z.length vc) rfl (by kernel_rfl) (by kernel_rfl) (by kernel_rfl) (fun _ _ _ h => h) (.inl ⟨by kernel_rfl, fun w' hS' => by go_simp⟩) hS ?_
  refine wpAnyH_take (i := 6) (v := .int .i64 yc) rfl (by kernel_rfl) (by kernel_rfl) (by kernel_rfl) (fun _ _ _ h => h) (.inl ⟨by kernel_rfl, fun w' hS' => by go_simp⟩) hS ?_
  refine wpAnyH_done (by kernel_rfl) ?_ _
  clear hS
  go_simp
  go_wp2
  exact de_ret3 (y := ⟨yn, ya, yc, yx, yr, yb, yo⟩) rfl rfl rfl rfl R9.out Tryz.underlying41 rfl (by kernel_rfl) rfl (WpDone.mk HE.out O9.out B9.out)

theorem spec_WritePiece (d : De) (t : ByteArray) (w : World) (hr : d.r.size ≤ 1048576) : Calls Tryz.prog 22 #[deV d, .string t] w (WpDone d t w) := by
  obtain ⟨n, a, c, x, r, b, o⟩ := d
  by_cases h : 65536 < t.size
  · exact wpLong n a c x r b o t w h
  cases hok : deOK ⟨n, a, c, x, r, b, o⟩
  · exact wpBad n a c x r b o t w hr h hok
  cases o
  · have hp := deOK_parts hok
    obtain ⟨_, _, ha, ha2, _, _, _, hco, _⟩ := hp
    have hc : c = 0 := by
      by_cases h0 : c = 0
      · exact h0
      · have := hco h0; cases this
    subst hc
    by_cases hf : 1000000000 < a + r.size + t.size
    · exact wpFull n a x r b t w hr h hok hf ha ha2
    · exact wpGo n a x r b t w h hok hf
  · exact wpOver n a c x r b t w hr h hok

end Go.Proofs.YtbamjhldebobhaaGreatDoor

namespace Go.Proofs.YtbamjhldebobhaaGreatDoor
open Go.RowKit Go.Sort

set_option maxHeartbeats 4000000 in
set_option maxRecDepth 100000 in
theorem ipLong (n a c : Int) (x : St) (r : ByteArray) (b o : Bool) (t : ByteArray) (w : World) (ht : TabM w) (hw : TabWords w) (h : 65536 < t.size) : Calls Tryz.prog 24 #[deV ⟨n, a, c, x, r, b, o⟩, .string t] w (WpDone ⟨n, a, c, x, r, b, o⟩ t w) := by
  have D0 : Hid (DeAt ((w.alloc (.cells #[.int .i64 n, .int .i64 a, .int .i64 c, .int .i64 x.g0, .int .i64 x.g1, .int .i64 x.g2, .int .i64 x.g3, .int .i64 x.l, .int .i64 x.s, .int .i64 x.d, .string r, .bool b, .bool o] 41)).alloc (.cells #[.int .i64 0, .int .i64 0, .int .i64 0, .int .i64 0, .int .i64 0, .int .i64 0, .int .i64 0, .int .i64 0, .int .i64 0, .int .i64 0, .string ⟨#[]⟩, .bool false, .bool false] 41)) w.heap.size ⟨n, a, c, x, r, b, o⟩) := Lib.hid (heap_alloc2_old _ _ _)
  have R0 : Hid (DeAt ((w.alloc (.cells #[.int .i64 n, .int .i64 a, .int .i64 c, .int .i64 x.g0, .int .i64 x.g1, .int .i64 x.g2, .int .i64 x.g3, .int .i64 x.l, .int .i64 x.s, .int .i64 x.d, .string r, .bool b, .bool o] 41)).alloc (.cells #[.int .i64 0, .int .i64 0, .int .i64 0, .int .i64 0, .int .i64 0, .int .i64 0, .int .i64 0, .int .i64 0, .int .i64 0, .int .i64 0, .string ⟨#[]⟩, .bool false, .bool false] 41)) (w.heap.size + 1) zeroDe) := Lib.hid (heap_alloc2_new _ _ _)
  have B0 := Lib.hid (below_two w (.cells #[.int .i64 n, .int .i64 a, .int .i64 c, .int .i64 x.g0, .int .i64 x.g1, .int .i64 x.g2, .int .i64 x.g3, .int .i64 x.l, .int .i64 x.s, .int .i64 x.d, .string r, .bool b, .bool o] 41) (.cells #[.int .i64 0, .int .i64 0, .int .i64 0, .int .i64 0, .int .i64 0, .int .i64 0, .int .i64 0, .int .i64 0, .int .i64 0, .int .i64 0, .string ⟨#[]⟩, .bool false, .bool false] 41))
  have HT0 := Lib.hid (ht.keep B0.out)
  have HW0 := Lib.hid (hw.keep B0.out)
  have HV : Hid (deV ⟨n, a, c, x, r, b, o⟩ = .agg #[.int .i64 n, .int .i64 a, .int .i64 c, .int .i64 x.g0, .int .i64 x.g1, .int .i64 x.g2, .int .i64 x.g3, .int .i64 x.l, .int .i64 x.s, .int .i64 x.d, .string r, .bool b, .bool o]) := Lib.hid rfl
  have HE : Hid (wpP ⟨n, a, c, x, r, b, o⟩ t = ⟨zeroDe, [], 2⟩) := Lib.hid (by rw [wpP, if_pos h])
  have v1 : (65536 : Int) < (t.size : Int) := by omega
  rw [HV.out]
  clear h ht hw
  go_enter Tryz.func24, Tryz.ntmps24
  go_upto_region 2 with fail
  generalize (w.alloc (.cells #[.int .i64 n, .int .i64 a, .int .i64 c, .int .i64 x.g0, .int .i64 x.g1, .int .i64 x.g2, .int .i64 x.g3, .int .i64 x.l, .int .i64 x.s, .int .i64 x.d, .string r, .bool b, .bool o] 41)).alloc (.cells #[.int .i64 0, .int .i64 0, .int .i64 0, .int .i64 0, .int .i64 0, .int .i64 0, .int .i64 0, .int .i64 0, .int .i64 0, .int .i64 0, .string ⟨#[]⟩, .bool false, .bool false] 41) = W at *
  have ⟨r0, r1, r2, r3, r4, r5, r6, r7, r8, r9, r10, r11, r12⟩ := deCells R0.out
  have ⟨s0, s1, s2, s3, s4, s5, s6, s7, s8, s9, s10, s11, s12⟩ := R0.out.thaw
  have hl1 := R0.out.lt
  go_wp2
  exact de_ret3 (y := zeroDe) rfl rfl rfl rfl (R0.out.put zeroDe) Tryz.underlying41 rfl (by kernel_rfl) rfl (WpDone.mk HE.out (Own.nil _ _ _ _) (below_putDe B0.out (by omega) zeroDe))

set_option maxHeartbeats 4000000 in
set_option maxRecDepth 100000 in
theorem ipBad (n a c : Int) (x : St) (r : ByteArray) (b o : Bool) (t : ByteArray) (w : World) (ht : TabM w) (hw : TabWords w) (hx : Wide64 x) (hr : r.size ≤ 1048576) (h : ¬ 65536 < t.size) (hok : deOK ⟨n, a, c, x, r, b, o⟩ = false) : Calls Tryz.prog 24 #[deV ⟨n, a, c, x, r, b, o⟩, .string t] w (WpDone ⟨n, a, c, x, r, b, o⟩ t w) := by
  have HO := Lib.hid (fun w ht hw => impl_DecoderOK ⟨n, a, c, x, r, b, o⟩ w ht hw hx hr)
  rw [hok] at HO
  have D0 : Hid (DeAt ((w.alloc (.cells #[.int .i64 n, .int .i64 a, .int .i64 c, .int .i64 x.g0, .int .i64 x.g1, .int .i64 x.g2, .int .i64 x.g3, .int .i64 x.l, .int .i64 x.s, .int .i64 x.d, .string r, .bool b, .bool o] 41)).alloc (.cells #[.int .i64 0, .int .i64 0, .int .i64 0, .int .i64 0, .int .i64 0, .int .i64 0, .int .i64 0, .int .i64 0, .int .i64 0, .int .i64 0, .string ⟨#[]⟩, .bool false, .bool false] 41)) w.heap.size ⟨n, a, c, x, r, b, o⟩) := Lib.hid (heap_alloc2_old _ _ _)
  have R0 : Hid (DeAt ((w.alloc (.cells #[.int .i64 n, .int .i64 a, .int .i64 c, .int .i64 x.g0, .int .i64 x.g1, .int .i64 x.g2, .int .i64 x.g3, .int .i64 x.l, .int .i64 x.s, .int .i64 x.d, .string r, .bool b, .bool o] 41)).alloc (.cells #[.int .i64 0, .int .i64 0, .int .i64 0, .int .i64 0, .int .i64 0, .int .i64 0, .int .i64 0, .int .i64 0, .int .i64 0, .int .i64 0, .string ⟨#[]⟩, .bool false, .bool false] 41)) (w.heap.size + 1) zeroDe) := Lib.hid (heap_alloc2_new _ _ _)
  have B0 := Lib.hid (below_two w (.cells #[.int .i64 n, .int .i64 a, .int .i64 c, .int .i64 x.g0, .int .i64 x.g1, .int .i64 x.g2, .int .i64 x.g3, .int .i64 x.l, .int .i64 x.s, .int .i64 x.d, .string r, .bool b, .bool o] 41) (.cells #[.int .i64 0, .int .i64 0, .int .i64 0, .int .i64 0, .int .i64 0, .int .i64 0, .int .i64 0, .int .i64 0, .int .i64 0, .int .i64 0, .string ⟨#[]⟩, .bool false, .bool false] 41))
  have HT0 := Lib.hid (ht.keep B0.out)
  have HW0 := Lib.hid (hw.keep B0.out)
  have HV : Hid (deV ⟨n, a, c, x, r, b, o⟩ = .agg #[.int .i64 n, .int .i64 a, .int .i64 c, .int .i64 x.g0, .int .i64 x.g1, .int .i64 x.g2, .int .i64 x.g3, .int .i64 x.l, .int .i64 x.s, .int .i64 x.d, .string r, .bool b, .bool o]) := Lib.hid rfl
  have HE : Hid (wpP ⟨n, a, c, x, r, b, o⟩ t = ⟨zeroDe, [], 1⟩) := Lib.hid (by rw [wpP, if_neg h, if_pos hok])
  have v1 : ¬ (65536 : Int) < (t.size : Int) := by omega
  rw [HV.out] at HO ⊢
  clear h hok hr ht hw hx
  go_enter Tryz.func24, Tryz.ntmps24
  go_wp2_with fail
  refine (HO.out _ HT0.out HW0.out).mono ?_
  generalize (w.alloc (.cells #[.int .i64 n, .int .i64 a, .int .i64 c, .int .i64 x.g0, .int .i64 x.g1, .int .i64 x.g2, .int .i64 x.g3, .int .i64 x.l, .int .i64 x.s, .int .i64 x.d, .string r, .bool b, .bool o] 41)).alloc (.cells #[.int .i64 0, .int .i64 0, .int .i64 0, .int .i64 0, .int .i64 0, .int .i64 0, .int .i64 0, .int .i64 0, .int .i64 0, .int .i64 0, .string ⟨#[]⟩, .bool false, .bool false] 41) = W at *
  rintro e w1 ⟨rfl, b1⟩
  have D1 := Lib.hid (D0.out.keep b1)
  have R1 := Lib.hid (R0.out.keep b1)
  have B1 := Lib.hid (B0.out.trans (b1.mono B0.out.size))
  have HT1 := Lib.hid (HT0.out.keep b1)
  clear b1 D0 R0 B0 HT0 HW0
  have ⟨r0, r1, r2, r3, r4, r5, r6, r7, r8, r9, r10, r11, r12⟩ := deCells R1.out
  have ⟨s0, s1, s2, s3, s4, s5, s6, s7, s8, s9, s10, s11, s12⟩ := R1.out.thaw
  have hl1 := R1.out.lt
  go_wp2
  exact de_ret3 (y := zeroDe) rfl rfl rfl rfl (R1.out.put zeroDe) Tryz.underlying41 rfl (by kernel_rfl) rfl (WpDone.mk HE.out (Own.nil _ _ _ _) (below_putDe B1.out (by omega) zeroDe))

set_option maxHeartbeats 4000000 in
set_option maxRecDepth 100000 in
theorem ipOver (n a c : Int) (x : St) (r : ByteArray) (b : Bool) (t : ByteArray) (w : World) (ht : TabM w) (hw : TabWords w) (hx : Wide64 x) (hr : r.size ≤ 1048576) (h : ¬ 65536 < t.size) (hok : deOK ⟨n, a, c, x, r, b, true⟩ = true) : Calls Tryz.prog 24 #[deV ⟨n, a, c, x, r, b, true⟩, .string t] w (WpDone ⟨n, a, c, x, r, b, true⟩ t w) := by
  have HO := Lib.hid (fun w ht hw => impl_DecoderOK ⟨n, a, c, x, r, b, true⟩ w ht hw hx hr)
  rw [hok] at HO
  have HOv := Lib.hid (fun w => impl_overCode true c w)
  rw [show (if true = true ∧ c = 0 then (17 : Int) else c) = overC ⟨n, a, c, x, r, b, true⟩ from rfl, over_why (d := ⟨n, a, c, x, r, b, true⟩) rfl] at HOv
  have ez : (whyC ⟨n, a, c, x, r, b, true⟩ != 0) = true := by simpa using why_some ⟨n, a, c, x, r, b, true⟩
  have D0 : Hid (DeAt ((w.alloc (.cells #[.int .i64 n, .int .i64 a, .int .i64 c, .int .i64 x.g0, .int .i64 x.g1, .int .i64 x.g2, .int .i64 x.g3, .int .i64 x.l, .int .i64 x.s, .int .i64 x.d, .string r, .bool b, .bool true] 41)).alloc (.cells #[.int .i64 0, .int .i64 0, .int .i64 0, .int .i64 0, .int .i64 0, .int .i64 0, .int .i64 0, .int .i64 0, .int .i64 0, .int .i64 0, .string ⟨#[]⟩, .bool false, .bool false] 41)) w.heap.size ⟨n, a, c, x, r, b, true⟩) := Lib.hid (heap_alloc2_old _ _ _)
  have R0 : Hid (DeAt ((w.alloc (.cells #[.int .i64 n, .int .i64 a, .int .i64 c, .int .i64 x.g0, .int .i64 x.g1, .int .i64 x.g2, .int .i64 x.g3, .int .i64 x.l, .int .i64 x.s, .int .i64 x.d, .string r, .bool b, .bool true] 41)).alloc (.cells #[.int .i64 0, .int .i64 0, .int .i64 0, .int .i64 0, .int .i64 0, .int .i64 0, .int .i64 0, .int .i64 0, .int .i64 0, .int .i64 0, .string ⟨#[]⟩, .bool false, .bool false] 41)) (w.heap.size + 1) zeroDe) := Lib.hid (heap_alloc2_new _ _ _)
  have B0 := Lib.hid (below_two w (.cells #[.int .i64 n, .int .i64 a, .int .i64 c, .int .i64 x.g0, .int .i64 x.g1, .int .i64 x.g2, .int .i64 x.g3, .int .i64 x.l, .int .i64 x.s, .int .i64 x.d, .string r, .bool b, .bool true] 41) (.cells #[.int .i64 0, .int .i64 0, .int .i64 0, .int .i64 0, .int .i64 0, .int .i64 0, .int .i64 0, .int .i64 0, .int .i64 0, .int .i64 0, .string ⟨#[]⟩, .bool false, .bool false] 41))
  have HT0 := Lib.hid (ht.keep B0.out)
  have HW0 := Lib.hid (hw.keep B0.out)
  have HV : Hid (deV ⟨n, a, c, x, r, b, true⟩ = .agg #[.int .i64 n, .int .i64 a, .int .i64 c, .int .i64 x.g0, .int .i64 x.g1, .int .i64 x.g2, .int .i64 x.g3, .int .i64 x.l, .int .i64 x.s, .int .i64 x.d, .string r, .bool b, .bool true]) := Lib.hid rfl
  have HE : Hid (wpP ⟨n, a, c, x, r, b, true⟩ t = ⟨⟨n, a, c, x, r, b, true⟩, [], whyC ⟨n, a, c, x, r, b, true⟩⟩) := Lib.hid (by rw [wpP, if_neg h, if_neg (by rw [hok]; decide), if_pos rfl])
  have v1 : ¬ (65536 : Int) < (t.size : Int) := by omega
  rw [HV.out] at HO ⊢
  generalize whyC ⟨n, a, c, x, r, b, true⟩ = cc at *
  clear h hok hr ht hw hx
  go_enter Tryz.func24, Tryz.ntmps24
  go_wp2_with fail
  refine (HO.out _ HT0.out HW0.out).mono ?_
  generalize (w.alloc (.cells #[.int .i64 n, .int .i64 a, .int .i64 c, .int .i64 x.g0, .int .i64 x.g1, .int .i64 x.g2, .int .i64 x.g3, .int .i64 x.l, .int .i64 x.s, .int .i64 x.d, .string r, .bool b, .bool true] 41)).alloc (.cells #[.int .i64 0, .int .i64 0, .int .i64 0, .int .i64 0, .int .i64 0, .int .i64 0, .int .i64 0, .int .i64 0, .int .i64 0, .int .i64 0, .string ⟨#[]⟩, .bool false, .bool false] 41) = W at *
  rintro e w1 ⟨rfl, b1⟩
  have D1 := Lib.hid (D0.out.keep b1)
  have R1 := Lib.hid (R0.out.keep b1)
  have B1 := Lib.hid (B0.out.trans (b1.mono B0.out.size))
  have HT1 := Lib.hid (HT0.out.keep b1)
  clear b1 D0 R0 B0 HT0 HW0
  have ⟨_, _, d2, _, _, _, _, _, _, _, _, _, d12⟩ := deCells D1.out
  go_wp2_with fail
  refine (HOv.out _).mono ?_
  rintro e w2 ⟨rfl, rfl⟩
  clear d2 d12
  have ⟨r0, r1, r2, r3, r4, r5, r6, r7, r8, r9, r10, r11, r12⟩ := deCells R1.out
  have ⟨s0, s1, s2, s3, s4, s5, s6, s7, s8, s9, s10, s11, s12⟩ := R1.out.thaw
  have hl1 := R1.out.lt
  have ⟨d0, d1, d2, d3, d4, d5, d6, d7, d8, d9, d10, d11, d12⟩ := deCells D1.out
  have hl0 := D1.out.lt
  go_wp2
  exact de_ret3 (y := ⟨n, a, c, x, r, b, true⟩) rfl rfl rfl rfl (R1.out.put ⟨n, a, c, x, r, b, true⟩) Tryz.underlying41 rfl (by kernel_rfl) rfl (WpDone.mk HE.out (Own.nil _ _ _ _) (below_putDe B1.out (by omega) ⟨n, a, c, x, r, b, true⟩))

set_option maxHeartbeats 4000000 in
set_option maxRecDepth 100000 in
theorem ipFull (n a : Int) (x : St) (r : ByteArray) (b : Bool) (t : ByteArray) (w : World) (ht : TabM w) (hw : TabWords w) (hx : Wide64 x) (hr : r.size ≤ 1048576) (h : ¬ 65536 < t.size) (hok : deOK ⟨n, a, 0, x, r, b, false⟩ = true) (hf : 1000000000 < a + r.size + t.size) (ha : 0 ≤ a) (ha2 : a ≤ 1000000000) : Calls Tryz.prog 24 #[deV ⟨n, a, 0, x, r, b, false⟩, .string t] w (WpDone ⟨n, a, 0, x, r, b, false⟩ t w) := by
  have HO := Lib.hid (fun w ht hw => impl_DecoderOK ⟨n, a, 0, x, r, b, false⟩ w ht hw hx hr)
  rw [hok] at HO
  have HOv := Lib.hid (fun w => impl_overCode false 0 w)
  rw [if_neg (fun h => by cases h.1)] at HOv
  have D0 : Hid (DeAt ((w.alloc (.cells #[.int .i64 n, .int .i64 a, .int .i64 0, .int .i64 x.g0, .int .i64 x.g1, .int .i64 x.g2, .int .i64 x.g3, .int .i64 x.l, .int .i64 x.s, .int .i64 x.d, .string r, .bool b, .bool false] 41)).alloc (.cells #[.int .i64 0, .int .i64 0, .int .i64 0, .int .i64 0, .int .i64 0, .int .i64 0, .int .i64 0, .int .i64 0, .int .i64 0, .int .i64 0, .string ⟨#[]⟩, .bool false, .bool false] 41)) w.heap.size ⟨n, a, 0, x, r, b, false⟩) := Lib.hid (heap_alloc2_old _ _ _)
  have R0 : Hid (DeAt ((w.alloc (.cells #[.int .i64 n, .int .i64 a, .int .i64 0, .int .i64 x.g0, .int .i64 x.g1, .int .i64 x.g2, .int .i64 x.g3, .int .i64 x.l, .int .i64 x.s, .int .i64 x.d, .string r, .bool b, .bool false] 41)).alloc (.cells #[.int .i64 0, .int .i64 0, .int .i64 0, .int .i64 0, .int .i64 0, .int .i64 0, .int .i64 0, .int .i64 0, .int .i64 0, .int .i64 0, .string ⟨#[]⟩, .bool false, .bool false] 41)) (w.heap.size + 1) zeroDe) := Lib.hid (heap_alloc2_new _ _ _)
  have B0 := Lib.hid (below_two w (.cells #[.int .i64 n, .int .i64 a, .int .i64 0, .int .i64 x.g0, .int .i64 x.g1, .int .i64 x.g2, .int .i64 x.g3, .int .i64 x.l, .int .i64 x.s, .int .i64 x.d, .string r, .bool b, .bool false] 41) (.cells #[.int .i64 0, .int .i64 0, .int .i64 0, .int .i64 0, .int .i64 0, .int .i64 0, .int .i64 0, .int .i64 0, .int .i64 0, .int .i64 0, .string ⟨#[]⟩, .bool false, .bool false] 41))
  have HT0 := Lib.hid (ht.keep B0.out)
  have HW0 := Lib.hid (hw.keep B0.out)
  have HV : Hid (deV ⟨n, a, 0, x, r, b, false⟩ = .agg #[.int .i64 n, .int .i64 a, .int .i64 0, .int .i64 x.g0, .int .i64 x.g1, .int .i64 x.g2, .int .i64 x.g3, .int .i64 x.l, .int .i64 x.s, .int .i64 x.d, .string r, .bool b, .bool false]) := Lib.hid rfl
  have HE : Hid (wpP ⟨n, a, 0, x, r, b, false⟩ t = ⟨⟨n, a, 0, x, r, b, false⟩, [], 7⟩) := Lib.hid (by rw [wpP, if_neg h, if_neg (by rw [hok]; decide), if_neg (show ¬ (false = true) by decide), if_pos hf])
  have v1 : ¬ (65536 : Int) < (t.size : Int) := by omega
  have v2 : (1000000000 : Int) < a + (r.size : Int) + (t.size : Int) := by omega
  have u1 : IntKind.i64.wrap (a + (r.size : Int)) = a + (r.size : Int) := IntWalk.i64_in _ (by omega)
  have u2 : IntKind.i64.wrap (a + (r.size : Int) + (t.size : Int)) = a + (r.size : Int) + (t.size : Int) := IntWalk.i64_in _ (by omega)
  rw [HV.out] at HO ⊢
  clear h hok hr ht hw hx hf ha ha2
  go_enter Tryz.func24, Tryz.ntmps24
  go_wp2_with fail
  refine (HO.out _ HT0.out HW0.out).mono ?_
  generalize (w.alloc (.cells #[.int .i64 n, .int .i64 a, .int .i64 0, .int .i64 x.g0, .int .i64 x.g1, .int .i64 x.g2, .int .i64 x.g3, .int .i64 x.l, .int .i64 x.s, .int .i64 x.d, .string r, .bool b, .bool false] 41)).alloc (.cells #[.int .i64 0, .int .i64 0, .int .i64 0, .int .i64 0, .int .i64 0, .int .i64 0, .int .i64 0, .int .i64 0, .int .i64 0, .int .i64 0, .string ⟨#[]⟩, .bool false, .bool false] 41) = W at *
  rintro e w1 ⟨rfl, b1⟩
  have D1 := Lib.hid (D0.out.keep b1)
  have R1 := Lib.hid (R0.out.keep b1)
  have B1 := Lib.hid (B0.out.trans (b1.mono B0.out.size))
  have HT1 := Lib.hid (HT0.out.keep b1)
  clear b1 D0 R0 B0 HT0 HW0
  have ⟨_, _, d2, _, _, _, _, _, _, _, _, _, d12⟩ := deCells D1.out
  go_wp2_with fail
  refine (HOv.out _).mono ?_
  rintro e w2 ⟨rfl, rfl⟩
  clear d2 d12
  have ⟨r0, r1, r2, r3, r4, r5, r6, r7, r8, r9, r10, r11, r12⟩ := deCells R1.out
  have ⟨s0, s1, s2, s3, s4, s5, s6, s7, s8, s9, s10, s11, s12⟩ := R1.out.thaw
  have hl1 := R1.out.lt
  have ⟨d0, d1, d2, d3, d4, d5, d6, d7, d8, d9, d10, d11, d12⟩ := deCells D1.out
  have hl0 := D1.out.lt
  go_wp2
  exact de_ret3 (y := ⟨n, a, 0, x, r, b, false⟩) rfl rfl rfl rfl (R1.out.put ⟨n, a, 0, x, r, b, false⟩) Tryz.underlying41 rfl (by kernel_rfl) rfl (WpDone.mk HE.out (Own.nil _ _ _ _) (below_putDe B1.out (by omega) ⟨n, a, 0, x, r, b, false⟩))

set_option maxHeartbeats 4000000 in
set_option maxRecDepth 100000 in
theorem ipGo (n a : Int) (x : St) (r : ByteArray) (b : Bool) (t : ByteArray) (w : World) (ht : TabM w) (hw : TabWords w) (hX : Wide64 x) (h : ¬ 65536 < t.size) (hok : deOK ⟨n, a, 0, x, r, b, false⟩ = true) (hf : ¬ 1000000000 < a + r.size + t.size) : Calls Tryz.prog 24 #[deV ⟨n, a, 0, x, r, b, false⟩, .string t] w (WpDone ⟨n, a, 0, x, r, b, false⟩ t w) := by
  have HTW := Lib.hid ht
  obtain ⟨hn, hx, ha, ha2, _, _, _, _, hwt⟩ := deOK_parts hok
  have hr4 := wait_le hwt
  dsimp only at hn hx ha ha2 hr4
  have hr : r.size ≤ 1048576 := by omega
  have HO := Lib.hid (fun w ht hw => impl_DecoderOK ⟨n, a, 0, x, r, b, false⟩ w ht hw hX hr)
  rw [hok] at HO
  have HOv := Lib.hid (fun w => impl_overCode false 0 w)
  rw [if_neg (fun h => by cases h.1)] at HOv
  have D0 : Hid (DeAt ((w.alloc (.cells #[.int .i64 n, .int .i64 a, .int .i64 0, .int .i64 x.g0, .int .i64 x.g1, .int .i64 x.g2, .int .i64 x.g3, .int .i64 x.l, .int .i64 x.s, .int .i64 x.d, .string r, .bool b, .bool false] 41)).alloc (.cells #[.int .i64 0, .int .i64 0, .int .i64 0, .int .i64 0, .int .i64 0, .int .i64 0, .int .i64 0, .int .i64 0, .int .i64 0, .int .i64 0, .string ⟨#[]⟩, .bool false, .bool false] 41)) w.heap.size ⟨n, a, 0, x, r, b, false⟩) := Lib.hid (heap_alloc2_old _ _ _)
  have R0 : Hid (DeAt ((w.alloc (.cells #[.int .i64 n, .int .i64 a, .int .i64 0, .int .i64 x.g0, .int .i64 x.g1, .int .i64 x.g2, .int .i64 x.g3, .int .i64 x.l, .int .i64 x.s, .int .i64 x.d, .string r, .bool b, .bool false] 41)).alloc (.cells #[.int .i64 0, .int .i64 0, .int .i64 0, .int .i64 0, .int .i64 0, .int .i64 0, .int .i64 0, .int .i64 0, .int .i64 0, .int .i64 0, .string ⟨#[]⟩, .bool false, .bool false] 41)) (w.heap.size + 1) zeroDe) := Lib.hid (heap_alloc2_new _ _ _)
  have B0 := Lib.hid (below_two w (.cells #[.int .i64 n, .int .i64 a, .int .i64 0, .int .i64 x.g0, .int .i64 x.g1, .int .i64 x.g2, .int .i64 x.g3, .int .i64 x.l, .int .i64 x.s, .int .i64 x.d, .string r, .bool b, .bool false] 41) (.cells #[.int .i64 0, .int .i64 0, .int .i64 0, .int .i64 0, .int .i64 0, .int .i64 0, .int .i64 0, .int .i64 0, .int .i64 0, .int .i64 0, .string ⟨#[]⟩, .bool false, .bool false] 41))
  have HT0 := Lib.hid (ht.keep B0.out)
  have HW0 := Lib.hid (hw.keep B0.out)
  have HV : Hid (deV ⟨n, a, 0, x, r, b, false⟩ = .agg #[.int .i64 n, .int .i64 a, .int .i64 0, .int .i64 x.g0, .int .i64 x.g1, .int .i64 x.g2, .int .i64 x.g3, .int .i64 x.l, .int .i64 x.s, .int .i64 x.d, .string r, .bool b, .bool false]) := Lib.hid rfl
  have hsz : (r ++ t).size ≤ 65540 := by rw [ByteArray.size_append]; omega
  have hcat := fun w => cat_run r t (by omega) w
  have HTk := Lib.hid (fun g w h hT => impl_dtake n a x r b g (r ++ t) w h hT hn hx hsz ha ha2)
  unfold TakeDone at HTk
  have HE0 : Hid (wpP ⟨n, a, 0, x, r, b, false⟩ t = ⟨(wrP ⟨n, a, 0, x, r, b, false⟩ (r ++ t)).d, (wrP ⟨n, a, 0, x, r, b, false⟩ (r ++ t)).z, (wrP ⟨n, a, 0, x, r, b, false⟩ (r ++ t)).d.c⟩) := Lib.hid (by rw [wpP, if_neg h, if_neg (by rw [hok]; decide), if_neg (show ¬ (false = true) by decide), if_neg hf])
  have v1 : ¬ (65536 : Int) < (t.size : Int) := by omega
  have v2 : ¬ (1000000000 : Int) < a + (r.size : Int) + (t.size : Int) := by omega
  have u1 : IntKind.i64.wrap (a + (r.size : Int)) = a + (r.size : Int) := IntWalk.i64_in _ (by omega)
  have u2 : IntKind.i64.wrap (a + (r.size : Int) + (t.size : Int)) = a + (r.size : Int) + (t.size : Int) := IntWalk.i64_in _ (by omega)
  generalize wrP ⟨n, a, 0, x, r, b, false⟩ (r ++ t) = p at *
  obtain ⟨⟨yn, ya, yc, yx, yr, yb, yo⟩, z⟩ := p
  have HE : Hid (wpP ⟨n, a, 0, x, r, b, false⟩ t = ⟨⟨yn, ya, yc, yx, yr, yb, yo⟩, z, yc⟩) := Lib.hid HE0.out
  dsimp only at HTk
  rw [HV.out] at HO ⊢
  clear h hok hr hf hx ha ha2 hr4 hwt HE0 hn ht hw hX hsz
  go_enter Tryz.func24, Tryz.ntmps24
  go_wp2_with fail
  refine (HO.out _ HT0.out HW0.out).mono ?_
  generalize (w.alloc (.cells #[.int .i64 n, .int .i64 a, .int .i64 0, .int .i64 x.g0, .int .i64 x.g1, .int .i64 x.g2, .int .i64 x.g3, .int .i64 x.l, .int .i64 x.s, .int .i64 x.d, .string r, .bool b, .bool false] 41)).alloc (.cells #[.int .i64 0, .int .i64 0, .int .i64 0, .int .i64 0, .int .i64 0, .int .i64 0, .int .i64 0, .int .i64 0, .int .i64 0, .int .i64 0, .string ⟨#[]⟩, .bool false, .bool false] 41) = W at *
  rintro e w1 ⟨rfl, b1⟩
  have D1 := Lib.hid (D0.out.keep b1)
  have R1 := Lib.hid (R0.out.keep b1)
  have B1 := Lib.hid (B0.out.trans (b1.mono B0.out.size))
  have HT1 := Lib.hid (HT0.out.keep b1)
  clear b1 D0 R0 B0 HT0 HW0
  have ⟨_, _, d2, _, _, _, _, _, _, _, _, _, d12⟩ := deCells D1.out
  go_wp2_with fail
  refine (HOv.out _).mono ?_
  rintro e w2 ⟨rfl, rfl⟩
  clear d2 d12
  have ⟨d0, d1, d2, d3, d4, d5, d6, d7, d8, d9, d10, d11, d12⟩ := deCells D1.out
  have hl0 := D1.out.lt
  go_wp2_with fail
  refine (HTk.out _ _ D1.out (fun W k => HTW.out.keep (B1.out.trans k.1))).mono ?_
  clear d0 d1 d2 d3 d4 d5 d6 d7 d8 d9 d10 d11 d12 hl0
  rintro e w2 ⟨v, rfl, o2, dd2, k2⟩
  have D2 := Lib.hid dd2
  have R2 : Hid (DeAt w2 (w.heap.size + 1) zeroDe) := Lib.hid ((k2.2 _ (by omega) R1.out.lt).trans R1.out)
  have B2 := Lib.hid (B1.out.trans k2.1)
  have hV : v.ownBlock ≠ some (w.heap.size + 1) := by
    intro he
    have e9 := (World.ownsRow.lt o2 _ he).1
    have := R1.out.lt
    omega
  have O2 := Lib.hid ((o2.low B1.out.size).putDeN hV ⟨yn, ya, yc, yx, yr, yb, yo⟩)
  obtain ⟨va, vc, rfl, _⟩ := o2.shape
  have ⟨r0, r1, r2, r3, r4, r5, r6, r7, r8, r9, r10, r11, r12⟩ := deCells R2.out
  have ⟨s0, s1, s2, s3, s4, s5, s6, s7, s8, s9, s10, s11, s12⟩ := R2.out.thaw
  have hl1 := R2.out.lt
  have ⟨d0, d1, d2, d3, d4, d5, d6, d7, d8, d9, d10, d11, d12⟩ := deCells D2.out
  have hl0 := D2.out.lt
  clear o2 dd2 k2 hV
  go_wp2
  exact de_ret3 (y := ⟨yn, ya, yc, yx, yr, yb, yo⟩) rfl rfl rfl rfl (R2.out.put ⟨yn, ya, yc, yx, yr, yb, yo⟩) Tryz.underlying41 rfl (by kernel_rfl) rfl (WpDone.mk HE.out (O2.out) (below_putDe B2.out (by omega) ⟨yn, ya, yc, yx, yr, yb, yo⟩))

theorem impl_WritePiece (d : De) (t : ByteArray) (w : World) (ht : TabM w) (hw : TabWords w) (hx : Wide64 d.x) (hr : d.r.size ≤ 1048576) : Calls Tryz.prog 24 #[deV d, .string t] w (WpDone d t w) := by
  obtain ⟨n, a, c, x, r, b, o⟩ := d
  by_cases h : 65536 < t.size
  · exact ipLong n a c x r b o t w ht hw h
  cases hok : deOK ⟨n, a, c, x, r, b, o⟩
  · exact ipBad n a c x r b o t w ht hw hx hr h hok
  cases o
  · have hp := deOK_parts hok
    obtain ⟨_, _, ha, ha2, _, _, _, hco, _⟩ := hp
    have hc : c = 0 := by
      by_cases h0 : c = 0
      · exact h0
      · have := hco h0; cases this
    subst hc
    by_cases hf : 1000000000 < a + r.size + t.size
    · exact ipFull n a x r b t w ht hw hx hr h hok hf ha ha2
    · exact ipGo n a x r b t w ht hw hx h hok hf
  · exact ipOver n a c x r b t w ht hw hx hr h hok

end Go.Proofs.YtbamjhldebobhaaGreatDoor

namespace Go.Proofs.YtbamjhldebobhaaGreatDoor
open Go.RowKit

/-- The numbers k, k + 1, .. -/
def marks (k : Int) (n : Nat) : List Int := (List.range n).map fun i : Nat => k + (i : Int)
theorem marks_length (k : Int) (n : Nat) : (marks k n).length = n := by simp [marks]
theorem marks_at (k : Int) (n i : Nat) (h : i < n) : (marks k n).getD i 0 = k + i := by
  simp [marks, List.getD, h]

/-- Behind j steps: j marks, then what was there. -/
def markTo (zs : List Int) (k : Int) (j : Nat) : List Int := marks k j ++ zs.drop j
theorem markTo_zero (zs : List Int) (k : Int) : markTo zs k 0 = zs := by simp [markTo, marks]
theorem markTo_length (zs : List Int) (k : Int) (j : Nat) (h : j ≤ zs.length) : (markTo zs k j).length = zs.length := by simp [markTo, marks_length]; omega
theorem markTo_succ (zs : List Int) (k : Int) (j : Nat) (h : j < zs.length) : (markTo zs k j).set j (k + j) = markTo zs k (j + 1) := by
  unfold markTo
  have hl : (marks k j).length = j := marks_length k j
  have e : marks k (j + 1) = marks k j ++ [k + (j : Int)] := by simp [marks, List.range_succ]
  rw [List.set_append_right _ _ (by omega), hl, Nat.sub_self, List.drop_eq_getElem_cons h, e, List.set_cons_zero, List.append_assoc]
  rfl
theorem markTo_full (zs : List Int) (k : Int) : markTo zs k zs.length = marks k zs.length := by simp [markTo]

set_option maxHeartbeats 400000 in
theorem laws_markIntS (v : Value) (zs : List Int) (k : Int) (B : Nat) (w : World) (h : Own .i64 3 w B v zs) (hl : zs.length ≤ 1048576) (hk : 0 ≤ k) (hk2 : k ≤ 1099511627776) : Calls Tryz.prog 13 #[v, .int .i64 k] w fun e w' => e = .returned (.int .i64 (k + zs.length)) ∧ Own .i64 3 w' B v (marks k zs.length) ∧ Below B w w' := by
  obtain ⟨a, c, rfl, h1, h2, h3, h4⟩ := h.shape
  cases a with
  | none =>
    obtain ⟨rfl, rfl⟩ := h3 rfl
    clear h3 h4
    go_enter Tryz.func13, Tryz.ntmps13
    go_wp2
    go_loop [1, 5] (fun q i => q = .int .i64 k ∧ i = .int .i64 0) (fun _ _ => 0)
    case atStart => exact ⟨rfl, rfl⟩
    case round =>
      obtain ⟨rfl, rfl⟩ := hrel
      go_wp2
      go_ret
      exact ⟨ret_int (by simp), by simpa [marks] using h, Below.refl _ _⟩
  | some x =>
    obtain ⟨g, off, spot⟩ := x
    obtain ⟨rfl, rfl, hB⟩ := h4 _ rfl
    clear h3 h4
    generalize hn : zs.length = n at *
    have HN := Lib.hid hn
    clear hn
    go_enter Tryz.func13, Tryz.ntmps13
    go_wp2
    go_loopw [1, 5] (fun q i wr => ∃ j : Nat, j ≤ n ∧ q = .int .i64 (k + j) ∧ i = .int .i64 j ∧ Own .i64 3 wr B (.slice (some ⟨g, 0, none⟩) n c) (markTo zs k j) ∧ Below B w wr) (fun _ i _ => n - (intOf i).toNat)
    case atStart => exact ⟨0, Nat.zero_le _, by simp, rfl, by rw [markTo_zero]; exact h, Below.refl _ _⟩
    case round =>
      clear h
      obtain ⟨j, hj, rfl, rfl, ho, hb⟩ := hrel
      by_cases hlt : j < n
      · have hf := ho.frozen j
        have hold := ho.cell j (by rw [markTo_length _ _ _ (by have := HN.out; omega), HN.out]; exact hlt)
        have ho2 := ho.store j (k + j)
        rw [markTo_succ zs k j (by have := HN.out; omega)] at ho2
        have hb2 : Below B w (wr.setCell ⟨g, j, none⟩ (.int .i64 (k + j))) := hb.setCell hB _
        have e1 : (0 : Int) ≤ (j : Int) := by omega
        have e2 : (j : Int) < (n : Int) := by omega
        clear ho
        go_wp2
        go_roundw
        case rel => exact ⟨j + 1, by omega, by go_num, by go_num, ho2, hb2⟩
        case measure => simp [intOf]; omega
      · have hjn : j = n := by omega
        subst hjn
        go_wp2
        go_ret
        have := HN.out
        refine ⟨rfl, ?_, hb⟩
        rw [← HN.out, markTo_full, HN.out] at ho
        exact ho

set_option maxHeartbeats 400000 in
theorem laws_heldIntS (v : Value) (k : Int) (n : Nat) (w : World) (h : Ints .i64 w v (marks k n)) (hl : n ≤ 1048576) (hk : 0 ≤ k) (hk2 : k ≤ 1099511627776) : Calls Tryz.prog 14 #[v, .int .i64 k] w fun e w' => e = .returned (.int .i64 (k + n)) ∧ w = w' := by
  rcases h with ⟨h0, a, c, rfl⟩ | ⟨b, off, c, rfl, hcell⟩
  · have hn : n = 0 := by have := marks_length k n; rw [h0] at this; simpa using this.symm
    subst hn
    clear h0
    go_enter Tryz.func14, Tryz.ntmps14
    go_wp2
    go_loop [1, 5] (fun q i => q = .int .i64 k ∧ i = .int .i64 0) (fun _ _ => 0)
    case atStart => exact ⟨rfl, rfl⟩
    case round =>
      obtain ⟨rfl, rfl⟩ := hrel
      go_wp2
      go_ret
      exact ⟨ret_int (by simp), rfl⟩
  · rw [marks_length] at hcell ⊢
    go_enter Tryz.func14, Tryz.ntmps14
    go_wp2
    go_loop [1, 5] (fun q i => ∃ j : Nat, j ≤ n ∧ q = .int .i64 (k + j) ∧ i = .int .i64 j) (fun _ i => n - (intOf i).toNat)
    case atStart => exact ⟨0, Nat.zero_le _, by simp, rfl⟩
    case round =>
      obtain ⟨j, hj, rfl, rfl⟩ := hrel
      by_cases hlt : j < n
      · have c1 := hcell j hlt
        rw [marks_at k n j hlt] at c1
        have e1 : (0 : Int) ≤ (j : Int) := by omega
        have e2 : (j : Int) < (n : Int) := by omega
        clear hcell
        go_wp2
        go_round
        case rel => exact ⟨j + 1, by omega, by go_num, by go_num⟩
        case measure => simp [intOf]; omega
      · have hjn : j = n := by omega
        subst hjn
        go_wp2
        go_ret
        exact ⟨rfl, rfl⟩

end Go.Proofs.YtbamjhldebobhaaGreatDoor

namespace Go.Proofs.YtbamjhldebobhaaGreatDoor
open Go.ChangeShapes Go.WideShapes Go.ChangeAt Go.RowKit

theorem gWords : Tryz.prog.globalNamed "loop.example/g00748/impl.codeWords" = some 0 := by kernel_rfl
theorem tWords : (Tryz.prog.globals[0]?).map (·.type) = some 158 := by kernel_rfl
theorem laid_words {H : Type} : (Rows.laid_loop_example_g00748_impl_codeWords : DataW H) = .agg ((words.map fun b => b.data.toList).map fun s => .lit (.string s)) := rfl

theorem tab_of_laid {W : World} (h : laidMetH Tryz.prog [("loop.example/g00748/impl.codeWords", Rows.laid_loop_example_g00748_impl_codeWords)] W) : TabWords W := by
  rw [MakeChecks.laidMetH_plain _ _ _ (by kernel_rfl)] at h
  obtain ⟨ps, ⟨g0, t0, cs0, f0, p0, q0, hg0, ht0, hv0, hd0, _, _⟩, _, _⟩ := h
  obtain rfl := Option.some.inj (gWords.symm.trans hg0)
  obtain rfl := Option.some.inj (tWords.symm.trans ht0)
  rw [laid_words] at hd0
  have h1 := strTab Tryz.underlying158 Tryz.underlying9 (by kernel_rfl) _ hd0
  have hlen : cs0.size = 19 := by
    obtain ⟨_, _, _, _, hl, _⟩ := DataW.trod_array Tryz.underlying158 hd0
    have c19 : Tryz.prog.cellsOf 158 = 19 := by kernel_rfl
    rw [c19] at hl
    simpa using hl
  have hcs : cs0 = (words.map Value.string).toArray := by
    apply Array.ext_getElem?
    intro k
    by_cases hk : k < 19
    · have h2 := h1 k hk
      rw [Array.getElem?_toList] at h2
      rw [h2]
      have hl : words.length = 19 := rfl
      simp [List.getD, List.getElem?_eq_getElem (show k < words.length by omega)]
    · rw [Array.getElem?_eq_none (by omega), Array.getElem?_eq_none (by show 19 ≤ k; omega)]
  subst hcs
  unfold World.var? at hv0
  rw [hg0] at hv0
  simp only [Option.bind_some] at hv0
  split at hv0
  · next cs elem frozen hh =>
    cases hv0
    exact ⟨elem, frozen, hh⟩
  · cases hv0

theorem tab_readable : ∀ n ∈ ["loop.example/g00748/impl.codeWords"], ∀ g t, Tryz.prog.globalNamed n = some g → (Tryz.prog.globals[g]?).map (·.type) = some t → Tryz.prog.readableRec t = true ∧ t < Tryz.prog.types.size := by
  intro n hn g t hg ht
  obtain rfl : n = _ := List.mem_singleton.1 hn
  obtain rfl := Option.some.inj (gWords.symm.trans hg)
  obtain rfl := Option.some.inj (tWords.symm.trans ht)
  exact ⟨by kernel_rfl, of_decide_eq_true (by kernel_rfl)⟩

end Go.Proofs.YtbamjhldebobhaaGreatDoor

namespace Go.Proofs.YtbamjhldebobhaaGreatDoor
open Go.ChangeShapes Go.WideShapes Go.ChangeAt Go.RowKit

theorem gReg : Tryz.prog.globalNamed "loop.example/g00748/impl.registry" = some 1 := by kernel_rfl
theorem tReg : (Tryz.prog.globals[1]?).map (·.type) = some 174 := by kernel_rfl
def spD {H : Type} (s : Sp) : DataW H := .agg [.lit (.int .i64 s.1), .lit (.int .i64 s.2.1), .lit (.int .i64 s.2.2)]
def setD {H : Type} (k : Nat) : DataW H := .agg [.lit (.string (setName k).data.toList), .lit (.int .i64 (setKind k)), .lit (.int .i64 (setFinal k)), .slice ((setSpans k).map spD) []]
def regD {H : Type} : List (DataW H) := .agg [.lit (.string []), .lit (.int .i64 0), .lit (.int .i64 0), .nil] :: [setD 1, setD 2, setD 3, setD 4, setD 5, setD 6, setD 7, setD 8]
theorem laid_reg {H : Type} : (Rows.laid_loop_example_g00748_impl_registry : DataW H) = .agg regD := by kernel_rfl
theorem regD_at {H : Type} (k : Nat) (h1 : 1 ≤ k) (h8 : k ≤ 8) : (regD (H := H))[k]? = some (setD k) := by
  have : k = 1 ∨ k = 2 ∨ k = 3 ∨ k = 4 ∨ k = 5 ∨ k = 6 ∨ k = 7 ∨ k = 8 := by omega
  rcases this with rfl | rfl | rfl | rfl | rfl | rfl | rfl | rfl <;> rfl

theorem one_of_take {cs : List Value} {i : Nat} {c : Value} (h : (cs.drop i).take 1 = [c]) : cs[i]? = some c := by
  have := congrArg (fun l => l[0]?) h
  simpa [List.getElem?_take, List.getElem?_drop] using this

set_option maxRecDepth 100000 in
/-- A slice of spans, read. -/
theorem spans_of {H : Type} {enc : TypeId × Value → H} {W : World} {held : Bool} {fuel : Nat} {c : Value} {sp : List Sp} {p : List MemPlace} (hne : sp ≠ [])
    (h : DataW.trod enc Tryz.prog W 0 (fun _ => true) held fuel 93 [c] = some (.slice (sp.map spD) [], p)) : SpAt W c sp := by
  rcases Deep.open_slice Tryz.underlying93 h with ⟨_, hx⟩ | ⟨a, len, cap, m, n, D, Pl, hcs, _, hl, _, hm, hx, hel⟩
  · simp at hx
  · simp only [if_true] at hm
    have e1 := congrArg Prod.fst hx
    simp only [DataW.slice.injEq] at e1
    obtain ⟨e2, e3⟩ := e1
    have hlen : len = sp.length := by simpa using (congrArg List.length e2).symm
    subst hlen
    have c3 : Tryz.prog.cellsOf 147 = 3 := by kernel_rfl
    rw [c3] at hel
    have key : ∀ i (hi : i < sp.length), W.cell? (a.add (i * 3)) = some (.int .i64 (sp[i]).1) ∧ W.cell? ((a.add (i * 3)).add 1) = some (.int .i64 (sp[i]).2.1) ∧ W.cell? ((a.add (i * 3)).add 2) = some (.int .i64 (sp[i]).2.2) := by
      intro i hi
      obtain ⟨cs', h1, h2⟩ := hel i (by omega)
      obtain ⟨_, hlen3, hc⟩ := World.cells?_some h1
      have hD : D i = spD (sp[i]) := by
        have := congrArg (fun l => l[i]?) e2
        simp only [List.getElem?_map, List.getElem?_eq_getElem hi, Option.map_some, List.getElem?_range hi, Option.some.injEq] at this
        exact this.symm
      obtain ⟨y0, y1, y2, q, hy, _, t0, t1, t2⟩ := Deep.trod_struct3 Tryz.underlying147 h2
      have c1 : Tryz.prog.cellsOf 3 = 1 := by kernel_rfl
      obtain ⟨n0, f0, rfl, _⟩ := DataW.trod_int Tryz.underlying3 t0
      obtain ⟨n1, f1, rfl, _⟩ := DataW.trod_int Tryz.underlying3 t1
      obtain ⟨n2, f2, rfl, _⟩ := DataW.trod_int Tryz.underlying3 t2
      have hy1 := congrArg Prod.fst hy
      rw [hD] at hy1
      simp only [spD, DataW.agg.injEq, List.cons.injEq, DataW.lit.injEq, Lit.int.injEq, true_and, and_true] at hy1
      obtain ⟨g0, g1, g2⟩ := hy1
      have k0 := one_of_take (c := .int .i64 n0) (i := 0) (by rw [← c1]; exact f0)
      have k1 := one_of_take (c := .int .i64 n1) (i := 1) (by rw [← c1]; exact f1)
      have k2 := one_of_take (c := .int .i64 n2) (i := 2) (by rw [← c1]; exact f2)
      refine ⟨?_, ?_, ?_⟩
      · have := hc 0 (by omega)
        rw [k0, ← g0] at this
        simpa [Addr.add] using this
      · rw [hc 1 (by omega), k1, ← g1]
      · rw [hc 2 (by omega), k2, ← g2]
    simp only [List.cons.injEq, and_true] at hcs
    subst hcs
    have hpos : 0 < sp.length := List.length_pos_iff.2 hne
    obtain ⟨b, off, spot⟩ := a
    have hspot : spot = none := by
      have := World.cell?_spot (key 0 hpos).1
      simpa [Addr.add] using this
    subst hspot
    refine .inr ⟨b, off, cap, rfl, fun i hi => ?_⟩
    have ⟨h1, h2, h3⟩ := key i hi
    rw [add_off, add_off] at h2 h3
    rw [add_off] at h1
    exact ⟨h1, h2, h3⟩

set_option maxRecDepth 100000 in
theorem sets_of_laid {W : World} (h : laidMetH Tryz.prog [("loop.example/g00748/impl.registry", Rows.laid_loop_example_g00748_impl_registry)] W) : TabSets W := by
  rw [MakeChecks.laidMetH_plain _ _ _ (by kernel_rfl)] at h
  obtain ⟨ps, ⟨g0, t0, cs0, f0, p0, q0, hg0, ht0, hv0, hd0, _, _⟩, _, _⟩ := h
  obtain rfl := Option.some.inj (gReg.symm.trans hg0)
  obtain rfl := Option.some.inj (tReg.symm.trans ht0)
  rw [laid_reg] at hd0
  obtain ⟨xs, m, rfl, hx, _, hlen, hel⟩ := DataW.trod_array Tryz.underlying174 hd0
  have hx1 : regD = xs.map (·.1) := by simpa using congrArg Prod.fst hx
  have c4 : Tryz.prog.cellsOf 95 = 4 := by kernel_rfl
  have c1 : Tryz.prog.cellsOf 3 = 1 := by kernel_rfl
  have c1s : Tryz.prog.cellsOf 9 = 1 := by kernel_rfl
  have c1l : Tryz.prog.cellsOf 93 = 1 := by kernel_rfl
  rw [c4] at hel
  intro k h1 h8
  have hk : k < xs.length := by omega
  have e1 := hel k (by omega)
  rw [List.getElem?_eq_getElem hk] at e1
  have e2 : (xs[k]).1 = setD k := by
    have e3 := regD_at (H := Unit) k h1 h8
    rw [hx1, List.getElem?_map, List.getElem?_eq_getElem hk] at e3
    simpa using e3
  obtain ⟨y0, y1, y2, y3, n, hy, _, t0, t1, t2, t3⟩ := Joins.trod_struct4 Tryz.underlying95 e1
  obtain ⟨s0, f0, rfl, _⟩ := DataW.trod_string Tryz.underlying9 t0
  obtain ⟨n1, f1, rfl, _⟩ := DataW.trod_int Tryz.underlying3 t1
  obtain ⟨n2, f2, rfl, _⟩ := DataW.trod_int Tryz.underlying3 t2
  have hy1 := congrArg Prod.fst hy
  rw [e2] at hy1
  simp only [setD, DataW.agg.injEq, List.cons.injEq, DataW.lit.injEq, Lit.int.injEq, Lit.string.injEq, true_and, and_true] at hy1
  obtain ⟨g0, g1, g2, g3⟩ := hy1
  have hs0 : setName (k : Int) = s0 := ByteArray.ext (Array.toList_inj.1 g0)
  have cell : ∀ j, W.cell? ⟨1, j, none⟩ = cs0[j]? := fun j => by simpa using World.var?_cell gReg hv0 j
  have el : ∀ (j : Nat) (c : Value), j < 4 → ((((cs0.toList.drop (k * 4)).take 4).drop j).take 1) = [c] → W.cell? ⟨1, k * 4 + j, none⟩ = some c := by
    intro j c hj h
    have h2 := one_of_take h
    rw [List.getElem?_take_of_lt hj, List.getElem?_drop, Array.getElem?_toList] at h2
    rw [cell, h2]
  have l3 : ∃ c, ((((cs0.toList.drop (k * 4)).take 4).drop 3).take 1) = [c] := by
    rw [c1l] at t3
    rcases Deep.open_slice Tryz.underlying93 t3 with ⟨h, _⟩ | ⟨a, len, cap, _, _, _, _, h, _⟩
    · exact ⟨_, h⟩
    · exact ⟨_, h⟩
  obtain ⟨c, hc⟩ := l3
  refine ⟨?_, ?_, ?_, c, el 3 c (by decide) hc, ?_⟩
  · rw [hs0]
    exact el 0 _ (by decide) (by rw [← c1s]; exact f0)
  · rw [g1]
    exact el 1 _ (by decide) (by rw [← c1]; exact f1)
  · rw [g2]
    exact el 2 _ (by decide) (by rw [← c1]; exact f2)
  · have t4 : DataW.trod (fun _ : TypeId × Value => ()) Tryz.prog W 0 (fun _ => true) false n 93 [c] = some y3 := by
      rw [← hc, ← c1l]; exact t3
    obtain ⟨y3a, y3b⟩ := y3
    simp only at g3
    rw [← g3] at t4
    exact spans_of (by have := (set_few (k : Int)).1; intro h; rw [h] at this; simp at this) t4

theorem sets_readable : ∀ n ∈ ["loop.example/g00748/impl.registry"], ∀ g t, Tryz.prog.globalNamed n = some g → (Tryz.prog.globals[g]?).map (·.type) = some t → Tryz.prog.readableRec t = true ∧ t < Tryz.prog.types.size := by
  intro n hn g t hg ht
  obtain rfl : n = _ := List.mem_singleton.1 hn
  obtain rfl := Option.some.inj (gReg.symm.trans hg)
  obtain rfl := Option.some.inj (tReg.symm.trans ht)
  exact ⟨by kernel_rfl, of_decide_eq_true (by kernel_rfl)⟩

end Go.Proofs.YtbamjhldebobhaaGreatDoor

namespace Go.Proofs.YtbamjhldebobhaaGreatDoor
open Go.ChangeShapes Go.WideShapes Go.ChangeAt Go.RowKit

set_option maxRecDepth 100000 in
theorem tabM_of_laid {W : World} (h : laidMetH Tryz.prog [("loop.example/g00748/impl.registry", Rows.laid_loop_example_g00748_impl_registry)] W) : TabM W := by
  refine ⟨sets_of_laid h, ?_⟩
  rw [MakeChecks.laidMetH_plain _ _ _ (by kernel_rfl)] at h
  obtain ⟨ps, ⟨g0, t0, cs0, f0, p0, q0, hg0, ht0, hv0, hd0, _, _⟩, _, _⟩ := h
  obtain rfl := Option.some.inj (gReg.symm.trans hg0)
  obtain rfl := Option.some.inj (tReg.symm.trans ht0)
  rw [laid_reg] at hd0
  obtain ⟨xs, m, rfl, hx, _, hlen, hel⟩ := DataW.trod_array Tryz.underlying174 hd0
  have hx1 : regD = xs.map (·.1) := by simpa using congrArg Prod.fst hx
  have c4 : Tryz.prog.cellsOf 95 = 4 := by kernel_rfl
  have c1 : Tryz.prog.cellsOf 3 = 1 := by kernel_rfl
  rw [c4] at hel
  have hk : 0 < xs.length := by omega
  have e1 := hel 0 (by omega)
  rw [List.getElem?_eq_getElem hk] at e1
  have e2 : (xs[0]).1 = .agg [.lit (.string []), .lit (.int .i64 0), .lit (.int .i64 0), .nil] := by
    have e3 : (regD (H := Unit))[0]? = some (.agg [.lit (.string []), .lit (.int .i64 0), .lit (.int .i64 0), .nil]) := rfl
    rw [hx1, List.getElem?_map, List.getElem?_eq_getElem hk] at e3
    simpa using e3
  obtain ⟨y0, y1, y2, y3, n, hy, _, t0, t1, t2, t3⟩ := Joins.trod_struct4 Tryz.underlying95 e1
  obtain ⟨n1, f1, rfl, _⟩ := DataW.trod_int Tryz.underlying3 t1
  have hy1 := congrArg Prod.fst hy
  rw [e2] at hy1
  simp only [DataW.agg.injEq, List.cons.injEq, DataW.lit.injEq, Lit.int.injEq, true_and, and_true] at hy1
  obtain ⟨_, g1, _⟩ := hy1
  have cell : ∀ j, W.cell? ⟨1, j, none⟩ = cs0[j]? := fun j => by simpa using World.var?_cell gReg hv0 j
  have h2 := one_of_take (by rw [← c1]; exact f1)
  rw [List.getElem?_take_of_lt (by decide), List.getElem?_drop, Array.getElem?_toList] at h2
  rw [cell]
  rw [← g1] at h2
  simpa using h2

end Go.Proofs.YtbamjhldebobhaaGreatDoor

namespace Go.Proofs.YtbamjhldebobhaaGreatDoor
open Go.ChangeShapes Go.WideShapes Go.ChangeAt Go.RowKit

theorem laid_split {P : Program} {a b : String × DataW Unit} {W : World} (hp : ([a, b].all fun x => x.2.handleName?.isNone) = true) (h : laidMetH P [a, b] W) : laidMetH P [a] W ∧ laidMetH P [b] W := by
  have ha : ([a].all fun x => x.2.handleName?.isNone) = true := by simp at hp ⊢; exact hp.1
  have hb : ([b].all fun x => x.2.handleName?.isNone) = true := by simp at hp ⊢; exact hp.2
  rw [MakeChecks.laidMetH_plain _ _ _ hp] at h
  rw [MakeChecks.laidMetH_plain _ _ _ ha, MakeChecks.laidMetH_plain _ _ _ hb]
  obtain ⟨ps, hl, hnd, hc⟩ := h
  obtain ⟨g0, t0, cs0, f0, p0, q0, h1, h2, h3, h4, ⟨g1, t1, cs1, f1, p1, q1, k1, k2, k3, k4, k5, k6⟩, h6⟩ := hl
  subst h6
  have hn := List.nodup_append.1 hnd
  refine ⟨⟨_, ⟨g0, t0, cs0, f0, p0, [], h1, h2, h3, h4, rfl, rfl⟩, by rw [List.append_nil]; exact hn.1, fun b off hm => hc b off (List.mem_append_left _ (by rw [List.append_nil] at hm; exact hm))⟩, ?_⟩
  exact ⟨q0, ⟨g1, t1, cs1, f1, p1, q1, k1, k2, k3, k4, k5, k6⟩, hn.2.1, fun b off hm => hc b off (List.mem_append_right _ hm)⟩

theorem tabs_of_laid {W : World} (h : laidMetH Tryz.prog [("loop.example/g00748/impl.registry", Rows.laid_loop_example_g00748_impl_registry), ("loop.example/g00748/impl.codeWords", Rows.laid_loop_example_g00748_impl_codeWords)] W) : TabM W ∧ TabWords W :=
  have h2 := laid_split (by kernel_rfl) h
  ⟨tabM_of_laid h2.1, tab_of_laid h2.2⟩
theorem tabs_of_laid' {W : World} (h : laidMetH Tryz.prog [("loop.example/g00748/impl.codeWords", Rows.laid_loop_example_g00748_impl_codeWords), ("loop.example/g00748/impl.registry", Rows.laid_loop_example_g00748_impl_registry)] W) : TabM W ∧ TabWords W :=
  have h2 := laid_split (by kernel_rfl) h
  ⟨tabM_of_laid h2.2, tab_of_laid h2.1⟩

theorem two_readable : ∀ n ∈ ["loop.example/g00748/impl.registry", "loop.example/g00748/impl.codeWords"], ∀ g t, Tryz.prog.globalNamed n = some g → (Tryz.prog.globals[g]?).map (·.type) = some t → Tryz.prog.readableRec t = true ∧ t < Tryz.prog.types.size := by
  intro n hn g t hg ht
  simp only [List.mem_cons, List.not_mem_nil, or_false] at hn
  rcases hn with rfl | rfl
  · obtain rfl := Option.some.inj (gReg.symm.trans hg)
    obtain rfl := Option.some.inj (tReg.symm.trans ht)
    exact ⟨by kernel_rfl, of_decide_eq_true (by kernel_rfl)⟩
  · obtain rfl := Option.some.inj (gWords.symm.trans hg)
    obtain rfl := Option.some.inj (tWords.symm.trans ht)
    exact ⟨by kernel_rfl, of_decide_eq_true (by kernel_rfl)⟩

end Go.Proofs.YtbamjhldebobhaaGreatDoor

namespace Go.Proofs.YtbamjhldebobhaaGreatDoor.fnExactWritePiece
open Go.RowKit

set_option maxHeartbeats 1000000 in
set_option maxRecDepth 100000 in
theorem eqDe (d : De) (w : World) : Calls Tryz.prog 25 #[deV d, deV d] w fun e w' => e = .returned (.bool true) ∧ Below w.heap.size w w' := by
  have HQ := Lib.hid (fun w => laws_eqState_true d.x w)
  have D0 : Hid (DeAt ((w.alloc (.cells #[.int .i64 d.n, .int .i64 d.a, .int .i64 d.c, .int .i64 d.x.g0, .int .i64 d.x.g1, .int .i64 d.x.g2, .int .i64 d.x.g3, .int .i64 d.x.l, .int .i64 d.x.s, .int .i64 d.x.d, .string d.r, .bool d.b, .bool d.o] 41)).alloc (.cells #[.int .i64 d.n, .int .i64 d.a, .int .i64 d.c, .int .i64 d.x.g0, .int .i64 d.x.g1, .int .i64 d.x.g2, .int .i64 d.x.g3, .int .i64 d.x.l, .int .i64 d.x.s, .int .i64 d.x.d, .string d.r, .bool d.b, .bool d.o] 41)) w.heap.size d) := Lib.hid (heap_alloc2_old _ _ _)
  have R0 : Hid (DeAt ((w.alloc (.cells #[.int .i64 d.n, .int .i64 d.a, .int .i64 d.c, .int .i64 d.x.g0, .int .i64 d.x.g1, .int .i64 d.x.g2, .int .i64 d.x.g3, .int .i64 d.x.l, .int .i64 d.x.s, .int .i64 d.x.d, .string d.r, .bool d.b, .bool d.o] 41)).alloc (.cells #[.int .i64 d.n, .int .i64 d.a, .int .i64 d.c, .int .i64 d.x.g0, .int .i64 d.x.g1, .int .i64 d.x.g2, .int .i64 d.x.g3, .int .i64 d.x.l, .int .i64 d.x.s, .int .i64 d.x.d, .string d.r, .bool d.b, .bool d.o] 41)) (w.heap.size + 1) d) := Lib.hid (heap_alloc2_new _ _ _)
  have B0 := Lib.hid (below_two w (.cells #[.int .i64 d.n, .int .i64 d.a, .int .i64 d.c, .int .i64 d.x.g0, .int .i64 d.x.g1, .int .i64 d.x.g2, .int .i64 d.x.g3, .int .i64 d.x.l, .int .i64 d.x.s, .int .i64 d.x.d, .string d.r, .bool d.b, .bool d.o] 41) (.cells #[.int .i64 d.n, .int .i64 d.a, .int .i64 d.c, .int .i64 d.x.g0, .int .i64 d.x.g1, .int .i64 d.x.g2, .int .i64 d.x.g3, .int .i64 d.x.l, .int .i64 d.x.s, .int .i64 d.x.d, .string d.r, .bool d.b, .bool d.o] 41))
  unfold stV at HQ
  unfold deV
  go_enter Tryz.func25, Tryz.ntmps25
  go_wp2_with fail
  refine (HQ.out _).mono ?_
  generalize (w.alloc (.cells #[.int .i64 d.n, .int .i64 d.a, .int .i64 d.c, .int .i64 d.x.g0, .int .i64 d.x.g1, .int .i64 d.x.g2, .int .i64 d.x.g3, .int .i64 d.x.l, .int .i64 d.x.s, .int .i64 d.x.d, .string d.r, .bool d.b, .bool d.o] 41)).alloc (.cells #[.int .i64 d.n, .int .i64 d.a, .int .i64 d.c, .int .i64 d.x.g0, .int .i64 d.x.g1, .int .i64 d.x.g2, .int .i64 d.x.g3, .int .i64 d.x.l, .int .i64 d.x.s, .int .i64 d.x.d, .string d.r, .bool d.b, .bool d.o] 41) = W at *
  rintro e w1 ⟨rfl, b1⟩
  have ⟨_, _, _, _, _, _, _, _, _, _, r10, r11, r12⟩ := (D0.out.keep b1).cells
  have ⟨_, _, _, _, _, _, _, _, _, _, z10, z11, z12⟩ := (R0.out.keep b1).cells
  have B1 := Lib.hid (B0.out.trans (b1.mono B0.out.size))
  clear b1
  go_wp2
  go_ret
  exact ⟨rfl, B1.out⟩

theorem len_le (d : De) (t : ByteArray) : (wpP d t).z.length ≤ 1048576 := by
  unfold wpP
  split
  · simp
  split
  · simp
  split
  · simp
  split
  · simp
  rename_i h1 h2 h3 h4
  have hok : deOK d = true := by simpa using h2
  obtain ⟨_, _, _, _, _, _, _, _, hwt⟩ := deOK_parts hok
  have hr4 := wait_le hwt
  have hs : (d.r ++ t).size ≤ 65540 := by rw [ByteArray.size_append]; omega
  have hw := wrT_le d.n (d.r ++ t) (d.r ++ t).size 0 d.a d.x []
  have h0 : ([] : List Int).length = 0 := rfl
  show (wrP d (d.r ++ t)).z.length ≤ 1048576
  unfold wrP
  split
  · show (wrT d.n (d.r ++ t) (d.r ++ t).size 0 d.a d.x []).z.length ≤ 1048576
    omega
  split
  · simp
  split
  · simp
  split
  · simp
  · show (wrT d.n (d.r ++ t) (d.r ++ t).size 0 d.a d.x []).z.length ≤ 1048576
    omega

set_option maxHeartbeats 4000000 in
set_option maxRecDepth 100000 in
theorem walk (d : De) (s : ByteArray) (w : World) (hx : Wide64 d.x) (hr : d.r.size ≤ maxLen) (hs : s.size ≤ maxLen) (ht : TabM w ∧ TabWords w) : Calls Tryz.prog 7 #[deV d, .string s] w fun e w' => e = .returned (.bool true) ∧ Below w.heap.size w w' := by
  have HT := Lib.hid ht.1
  have HW := Lib.hid ht.2
  have B0 := Lib.hid (below_one w (.cells #[.int .i64 d.n, .int .i64 d.a, .int .i64 d.c, .int .i64 d.x.g0, .int .i64 d.x.g1, .int .i64 d.x.g2, .int .i64 d.x.g3, .int .i64 d.x.l, .int .i64 d.x.s, .int .i64 d.x.d, .string d.r, .bool d.b, .bool d.o] 37))
  have L0 := Lib.hid (LDe.new w d)
  have HZ := Lib.hid (fun w => laws_szDecoder d w hr)
  have HC := Lib.hid (fun w => laws_toDecoder d w)
  unfold DeDone at HC
  have hs' : s.size ≤ 9223372036854775807 := hs
  clear ht
  by_cases hb : 1048576 < s.size
  · have hb' : (1048576 : Int) < (s.size : Int) := by omega
    unfold deV at HC HZ ⊢
    clear HC HZ hx hr
    go_enter Tryz.func7, Tryz.ntmps7
    go_wp2
    go_ret
    exact ⟨rfl, B0.out⟩
  have hb' : ¬ (1048576 : Int) < (s.size : Int) := by omega
  by_cases h : d.r.size ≤ 1048576
  · rw [if_pos h] at HZ
    have h2 : ¬ (1048576 : Int) - (d.r.size : Int) < 0 := by omega
    have hz : (wpP d s).z.length ≤ 1048576 := len_le d s
    have HS := Lib.hid (fun w => spec_WritePiece d s w h)
    have HI := Lib.hid (fun w ht hw => impl_WritePiece d s w ht hw hx h)
    have HQ := Lib.hid (fun w => eqDe (wpP d s).d w)
    clear hx hr h hb
    unfold WpDone at HS HI
    generalize (wpP d s).d = y at *
    generalize (wpP d s).z = z at *
    generalize (wpP d s).c = cc at *
    unfold deV at HZ HC HS HI HQ ⊢
    go_enter Tryz.func7, Tryz.ntmps7
    go_wp2_with fail
    refine (HZ.out _).mono ?_
    generalize w.alloc (.cells #[.int .i64 d.n, .int .i64 d.a, .int .i64 d.c, .int .i64 d.x.g0, .int .i64 d.x.g1, .int .i64 d.x.g2, .int .i64 d.x.g3, .int .i64 d.x.l, .int .i64 d.x.s, .int .i64 d.x.d, .string d.r, .bool d.b, .bool d.o] 37) = w0 at *
    rintro e w1 ⟨rfl, b1⟩
    have B1 := Lib.hid (B0.out.trans (b1.mono B0.out.size))
    have L1 := Lib.hid (L0.out.keep b1)
    have ⟨l0, l1, l2, l3, l4, l5, l6, l7, l8, l9, l10, l11, l12⟩ := L1.out.cells
    clear b1
    go_wp2_with fail
    refine (HC.out _).mono ?_
    clear l0 l1 l2 l3 l4 l5 l6 l7 l8 l9 l10 l11 l12
    rintro e w2 ⟨rfl, b2⟩
    have B2 := Lib.hid (B1.out.trans (b2.mono B1.out.size))
    have L2 := Lib.hid (L1.out.keep b2)
    clear b2
    go_wp2_with fail
    refine (HS.out _).mono ?_
    rintro e w3 ⟨v3, rfl, o3, b3⟩
    have O3 := Lib.hid (o3.alloc (.cells #[.int .i64 y.n, .int .i64 y.a, .int .i64 y.c, .int .i64 y.x.g0, .int .i64 y.x.g1, .int .i64 y.x.g2, .int .i64 y.x.g3, .int .i64 y.x.l, .int .i64 y.x.s, .int .i64 y.x.d, .string y.r, .bool y.b, .bool y.o] 41))
    have V3 := Lib.hid (DeAt.new w3 y)
    have B3 := Lib.hid ((B2.out.trans (b3.mono B2.out.size)).alloc (B2.out.trans (b3.mono B2.out.size)).size (.cells #[.int .i64 y.n, .int .i64 y.a, .int .i64 y.c, .int .i64 y.x.g0, .int .i64 y.x.g1, .int .i64 y.x.g2, .int .i64 y.x.g3, .int .i64 y.x.l, .int .i64 y.x.s, .int .i64 y.x.d, .string y.r, .bool y.b, .bool y.o] 41))
    have L3 := Lib.hid ((L2.out.keep b3).keep (below_one w3 (.cells #[.int .i64 y.n, .int .i64 y.a, .int .i64 y.c, .int .i64 y.x.g0, .int .i64 y.x.g1, .int .i64 y.x.g2, .int .i64 y.x.g3, .int .i64 y.x.l, .int .i64 y.x.s, .int .i64 y.x.d, .string y.r, .bool y.b, .bool y.o] 41)))
    have ⟨l0, l1, l2, l3, l4, l5, l6, l7, l8, l9, l10, l11, l12⟩ := L3.out.cells
    clear b3 o3
    go_wp2_with fail
    refine (HC.out _).mono ?_
    clear l0 l1 l2 l3 l4 l5 l6 l7 l8 l9 l10 l11 l12
    generalize w3.alloc (.cells #[.int .i64 y.n, .int .i64 y.a, .int .i64 y.c, .int .i64 y.x.g0, .int .i64 y.x.g1, .int .i64 y.x.g2, .int .i64 y.x.g3, .int .i64 y.x.l, .int .i64 y.x.s, .int .i64 y.x.d, .string y.r, .bool y.b, .bool y.o] 41) = W3 at *
    rintro e w4 ⟨rfl, b4⟩
    have O4 := Lib.hid (O3.out.all b4)
    have V4 := Lib.hid (V3.out.keep b4)
    have B4 := Lib.hid (B3.out.trans (b4.mono B3.out.size))
    have L4 := Lib.hid (L3.out.keep b4)
    have lt4 := Lib.hid (fun g hg => (World.ownsRow.lt O4.out g hg).2)
    have v4 := Lib.hid V4.out.lt
    have l4 := Lib.hid L4.out.lt
    clear b4 O3 V3 B3 L3 L0 L1 L2 B1 B2
    go_wp2_with fail
    refine (HI.out _ (HT.out.keep B4.out) (HW.out.keep B4.out)).mono ?_
    rintro e w5 ⟨v5, rfl, o5, b5⟩
    have O5 := Lib.hid ((O4.out.all b5).alloc (.cells #[.int .i64 y.n, .int .i64 y.a, .int .i64 y.c, .int .i64 y.x.g0, .int .i64 y.x.g1, .int .i64 y.x.g2, .int .i64 y.x.g3, .int .i64 y.x.l, .int .i64 y.x.s, .int .i64 y.x.d, .string y.r, .bool y.b, .bool y.o] 41))
    have G5 := Lib.hid (o5.alloc (.cells #[.int .i64 y.n, .int .i64 y.a, .int .i64 y.c, .int .i64 y.x.g0, .int .i64 y.x.g1, .int .i64 y.x.g2, .int .i64 y.x.g3, .int .i64 y.x.l, .int .i64 y.x.s, .int .i64 y.x.d, .string y.r, .bool y.b, .bool y.o] 41))
    have L5 := Lib.hid ((L4.out.keep b5).keep (below_one w5 (.cells #[.int .i64 y.n, .int .i64 y.a, .int .i64 y.c, .int .i64 y.x.g0, .int .i64 y.x.g1, .int .i64 y.x.g2, .int .i64 y.x.g3, .int .i64 y.x.l, .int .i64 y.x.s, .int .i64 y.x.d, .string y.r, .bool y.b, .bool y.o] 41)))
    have V5 := Lib.hid ((V4.out.keep b5).keep (below_one w5 (.cells #[.int .i64 y.n, .int .i64 y.a, .int .i64 y.c, .int .i64 y.x.g0, .int .i64 y.x.g1, .int .i64 y.x.g2, .int .i64 y.x.g3, .int .i64 y.x.l, .int .i64 y.x.s, .int .i64 y.x.d, .string y.r, .bool y.b, .bool y.o] 41)))
    have V6 := Lib.hid (DeAt.new w5 y)
    have B5 := Lib.hid (b5.alloc b5.size (.cells #[.int .i64 y.n, .int .i64 y.a, .int .i64 y.c, .int .i64 y.x.g0, .int .i64 y.x.g1, .int .i64 y.x.g2, .int .i64 y.x.g3, .int .i64 y.x.l, .int .i64 y.x.s, .int .i64 y.x.d, .string y.r, .bool y.b, .bool y.o] 41))
    clear b5 o5 O4
    have ⟨y0, y1, y2, y3, y4, y5, y6, y7, y8, y9, y10, y11, y12⟩ := V5.out.cells
    have ⟨z0, z1, z2, z3, z4, z5, z6, z7, z8, z9, z10, z11, z12⟩ := V6.out.cells
    go_wp2_with fail
    refine (HQ.out _).mono ?_
    clear y0 y1 y2 y3 y4 y5 y6 y7 y8 y9 y10 y11 y12 z0 z1 z2 z3 z4 z5 z6 z7 z8 z9 z10 z11 z12
    generalize w5.alloc (.cells #[.int .i64 y.n, .int .i64 y.a, .int .i64 y.c, .int .i64 y.x.g0, .int .i64 y.x.g1, .int .i64 y.x.g2, .int .i64 y.x.g3, .int .i64 y.x.l, .int .i64 y.x.s, .int .i64 y.x.d, .string y.r, .bool y.b, .bool y.o] 41) = W5 at *
    rintro e w6 ⟨rfl, b6⟩
    have O6 := Lib.hid (O5.out.all b6)
    have G6 := Lib.hid (G5.out.all b6)
    have L6 := Lib.hid (L5.out.keep b6)
    have V7 := Lib.hid (V5.out.keep b6)
    have B6 := Lib.hid (B5.out.trans (b6.mono B5.out.size))
    clear b6 O5 G5 L5 V5 V6 B5
    go_wp2_with fail
    refine (laws_eqIntS _ _ _ _ _ G6.out.ints O6.out.ints (by omega) (by omega)).mono ?_
    rintro e w7 ⟨rfl, q, rfl⟩
    rw [show decide (z = z) = true from decide_eq_true rfl]
    have bq : Below w6.heap.size w6 (w6.drewN q) := below_drewN (Below.refl _ _) q
    have O7 := Lib.hid (O6.out.all bq)
    have G7 := Lib.hid (G6.out.all bq)
    have L7 := Lib.hid (L6.out.keep bq)
    have V8 := Lib.hid (V7.out.keep bq)
    have B7 := Lib.hid (B6.out.trans (bq.mono B6.out.size))
    clear bq O6 G6 L6 V7 B6
    generalize w6.drewN q = w7 at *
    go_wp2_with fail
    refine (laws_markIntS _ _ 1 _ _ G7.out hz (by omega) (by omega)).mono ?_
    rintro e w8 ⟨rfl, g8, b8⟩
    have G8 := Lib.hid g8
    have O8 := Lib.hid (O7.out.below b8 lt4.out)
    have L8 : Hid (LDe w8 w.heap.size d) := Lib.hid ((b8.block _ l4.out).trans L7.out)
    have V9 : Hid (DeAt w8 w3.heap.size y) := Lib.hid ((b8.block _ v4.out).trans V8.out)
    have B8 := Lib.hid (B7.out.trans b8)
    clear g8 b8 O7 G7 L7 V8 B7
    go_wp2_with fail
    refine (laws_heldIntS _ 1 _ _ G8.out.ints hz (by omega) (by omega)).mono ?_
    rintro e w9 ⟨rfl, rfl⟩
    have ⟨l0, l1, l2, l3, l4, l5, l6, l7, l8, l9, l10, l11, l12⟩ := L8.out.cells
    go_wp2_with fail
    refine (HC.out _).mono ?_
    clear l0 l1 l2 l3 l4 l5 l6 l7 l8 l9 l10 l11 l12
    rintro e w9 ⟨rfl, b9⟩
    have O9 := Lib.hid (O8.out.all b9)
    have G9 := Lib.hid (G8.out.all b9)
    have V10 := Lib.hid (V9.out.keep b9)
    have B9 := Lib.hid (B4.out.trans ((B8.out.trans (b9.mono B8.out.size)).mono B4.out.size))
    clear b9 O8 G8 V9 B8 L8 B4 V4 L4
    go_wp2_with fail
    refine (HI.out _ (HT.out.keep B9.out) (HW.out.keep B9.out)).mono ?_
    rintro e w10 ⟨v10, rfl, o10, b10⟩
    have O10 := Lib.hid ((O9.out.all b10).alloc (.cells #[.int .i64 y.n, .int .i64 y.a, .int .i64 y.c, .int .i64 y.x.g0, .int .i64 y.x.g1, .int .i64 y.x.g2, .int .i64 y.x.g3, .int .i64 y.x.l, .int .i64 y.x.s, .int .i64 y.x.d, .string y.r, .bool y.b, .bool y.o] 41))
    have G10 := Lib.hid ((G9.out.all b10).alloc (.cells #[.int .i64 y.n, .int .i64 y.a, .int .i64 y.c, .int .i64 y.x.g0, .int .i64 y.x.g1, .int .i64 y.x.g2, .int .i64 y.x.g3, .int .i64 y.x.l, .int .i64 y.x.s, .int .i64 y.x.d, .string y.r, .bool y.b, .bool y.o] 41))
    have H10 := Lib.hid (o10.alloc (.cells #[.int .i64 y.n, .int .i64 y.a, .int .i64 y.c, .int .i64 y.x.g0, .int .i64 y.x.g1, .int .i64 y.x.g2, .int .i64 y.x.g3, .int .i64 y.x.l, .int .i64 y.x.s, .int .i64 y.x.d, .string y.r, .bool y.b, .bool y.o] 41))
    have V11 := Lib.hid ((V10.out.keep b10).keep (below_one w10 (.cells #[.int .i64 y.n, .int .i64 y.a, .int .i64 y.c, .int .i64 y.x.g0, .int .i64 y.x.g1, .int .i64 y.x.g2, .int .i64 y.x.g3, .int .i64 y.x.l, .int .i64 y.x.s, .int .i64 y.x.d, .string y.r, .bool y.b, .bool y.o] 41)))
    have V12 := Lib.hid (DeAt.new w10 y)
    have B10 := Lib.hid ((B9.out.trans (b10.mono B9.out.size)).alloc (B9.out.trans (b10.mono B9.out.size)).size (.cells #[.int .i64 y.n, .int .i64 y.a, .int .i64 y.c, .int .i64 y.x.g0, .int .i64 y.x.g1, .int .i64 y.x.g2, .int .i64 y.x.g3, .int .i64 y.x.l, .int .i64 y.x.s, .int .i64 y.x.d, .string y.r, .bool y.b, .bool y.o] 41))
    clear b10 o10 O9 G9 V10 B9
    have ⟨y0, y1, y2, y3, y4, y5, y6, y7, y8, y9, y10, y11, y12⟩ := V11.out.cells
    have ⟨z0, z1, z2, z3, z4, z5, z6, z7, z8, z9, z10, z11, z12⟩ := V12.out.cells
    go_wp2_with fail
    refine (HQ.out _).mono ?_
    clear y0 y1 y2 y3 y4 y5 y6 y7 y8 y9 y10 y11 y12 z0 z1 z2 z3 z4 z5 z6 z7 z8 z9 z10 z11 z12
    generalize w10.alloc (.cells #[.int .i64 y.n, .int .i64 y.a, .int .i64 y.c, .int .i64 y.x.g0, .int .i64 y.x.g1, .int .i64 y.x.g2, .int .i64 y.x.g3, .int .i64 y.x.l, .int .i64 y.x.s, .int .i64 y.x.d, .string y.r, .bool y.b, .bool y.o] 41) = W10 at *
    rintro e w11 ⟨rfl, b11⟩
    have O11 := Lib.hid (O10.out.all b11)
    have G11 := Lib.hid (G10.out.all b11)
    have H11 := Lib.hid (H10.out.all b11)
    have B11 := Lib.hid (B10.out.trans (b11.mono B10.out.size))
    clear b11 O10 G10 H10 B10 V11 V12
    go_wp2_with fail
    refine (laws_eqIntS _ _ _ _ _ H11.out.ints O11.out.ints (by omega) (by omega)).mono ?_
    rintro e w12 ⟨rfl, q2, rfl⟩
    rw [show decide (z = z) = true from decide_eq_true rfl]
    have bq : Below w11.heap.size w11 (w11.drewN q2) := below_drewN (Below.refl _ _) q2
    have G12 := Lib.hid (G11.out.all bq)
    have B12 := Lib.hid (B11.out.trans (bq.mono B11.out.size))
    clear bq O11 G11 H11 B11
    generalize w11.drewN q2 = w12 at *
    go_wp2_with fail
    refine (laws_heldIntS _ 1 _ _ G12.out.ints hz (by omega) (by omega)).mono ?_
    rintro e w13 ⟨rfl, rfl⟩
    go_wp2
    go_ret
    exact ⟨rfl, B12.out⟩
  · rw [if_neg h] at HZ
    clear hx hr h
    unfold deV at HZ HC ⊢
    go_enter Tryz.func7, Tryz.ntmps7
    go_wp2_with fail
    refine (HZ.out _).mono ?_
    rintro e w1 ⟨rfl, b1⟩
    go_wp2
    go_ret
    exact ⟨rfl, B0.out.trans (b1.mono B0.out.size)⟩

theorem table {W : World} (h : laidMetH Tryz.prog Rows.fnExactWritePieceRow.laid W) : TabM W ∧ TabWords W := tabs_of_laid' h
theorem readable : ∀ n ∈ Rows.fnExactWritePieceSpec.vars, ∀ g t, Tryz.prog.globalNamed n = some g → (Tryz.prog.globals[g]?).map (·.type) = some t → Tryz.prog.readableRec t = true ∧ t < Tryz.prog.types.size := two_readable

end Go.Proofs.YtbamjhldebobhaaGreatDoor.fnExactWritePiece

namespace Go.Proofs.YtbamjhldebobhaaGreatDoor.fnExactWritePiece
open Go.ChangeShapes Go.WideShapes Go.ChangeAt Go.RowKit
open Go.ChangeMaps (open_string shut_string)
set_option linter.unusedVariables false

set_option maxRecDepth 100000 in
theorem contract (H : Type) (enc : TypeId × Value → H) (W : World) (base : Nat) (args : Array Value) (ds gs : List (DataW H)) (before : List MemPlace)
    (hval : ∀ (j : Nat) t v, Tryz.f7.params[j]? = some t → args[j]? = some v → Value.okWide Tryz.prog W .any base t v)
    (hW : DataW.Whole enc Tryz.prog Tryz.f7.params.toList Rows.fnExactWritePieceSpec.vars false W args.toList ds gs before) (hL : laidMetH Tryz.prog Rows.fnExactWritePieceRow.laid W) :
    Calls Tryz.prog 7 args W fun e W' => ∃ v, e = .returned v ∧ Rows.fnExactWritePieceSpec.post enc Tryz.prog Tryz.f7 false true false false W args v W' := by
  have HT := Lib.hid (table hL)
  clear hL
  have hW' := hW
  obtain ⟨p, q, hA0, hV0, rfl, hfz, hnd⟩ := hW
  have hV : DataW.TrodVars enc Tryz.prog W (fun _ => true) ["loop.example/g00748/impl.registry", "loop.example/g00748/impl.codeWords"] gs q := hV0
  clear hV0
  have hA : DataW.TrodAll enc Tryz.prog W 0 (fun _ => true) true Tryz.f7.params.toList args.toList ds p := hA0
  rw [Tryz.params7] at hA hval
  obtain ⟨v0, vs0, d0, ds0, p0, q0, hargs, rfl, rfl, h0, r0⟩ := trodAll_cons hA
  obtain ⟨v1, vs1, d1, ds1, p1, q1, rfl, rfl, rfl, h1, r1⟩ := trodAll_cons r0
  obtain ⟨rfl, rfl, rfl⟩ := trodAll_nil r1
  obtain rfl : args = #[v0, v1] := by cases args; simp_all
  have hgs : ∃ d d', gs = [d, d'] := by obtain ⟨_, _, _, _, d, _, _, _, _, _, d', _, hgs, _⟩ := trodVars_two hV; exact ⟨d, d', hgs⟩
  obtain ⟨g1, g2, rfl⟩ := hgs
  have k0 := h0
  have lt0 : ∀ x ∈ p0, x.block < W.heap.size := by obtain ⟨m, hm⟩ := k0; exact DataW.trod_lt m _ _ _ hm
  obtain ⟨a0, rfl, u0, s0⟩ := open_decoder (hval 0 37 v0 rfl rfl) h0
  obtain ⟨a1, rfl, rfl, rfl, w1⟩ := open_string Tryz.underlying9 (hval 1 9 v1 rfl rfl) h1
  clear hA0
  refine (walk a0 a1 W u0 s0 w1 HT.out).mono fun e W' ⟨he, bel⟩ => ?_
  subst he
  exact ⟨_, rfl, _, _, _, [], _, q, hW', trodAll_mk1 (shut_bool Tryz.underlying4 _), (trodAll_cons_mk (Below.trod laidOut (by kernel_rfl) (of_decide_eq_true (by kernel_rfl)) k0 bel lt0) (trodAll_cons_mk (shut_string Tryz.underlying9 w1) trodAll_mk0)), trodVars_below laidOut bel readable hV, bel.frame _, fun h => by cases h⟩

theorem laid_met (os : Os) : laidMetH Tryz.prog Rows.fnExactWritePieceRow.laid ((World.doorLaid Tryz.prog 400 os).forCall (fun _ _ => 0) ⟨#[], #[.agg #[.int .i64 0, .int .i64 0, .int .i64 0, .int .i64 0, .int .i64 0, .int .i64 0, .int .i64 0, .int .i64 0, .int .i64 0, .int .i64 0, .string ByteArray.empty, .bool false, .bool false], .string ByteArray.empty], []⟩).memory :=
  laidMetH_of_parts3 (fuel := 8) (laidMet_of_run' 8 (by kernel_rfl) (by kernel_rfl)) (by kernel_rfl) (by kernel_rfl)
theorem reads (os : Os) {H : Type} (enc : TypeId × Value → H) : ∃ x, DataW.whole enc Tryz.prog ((World.doorLaid Tryz.prog 400 os).forCall (fun _ _ => 0) ⟨#[], #[.agg #[.int .i64 0, .int .i64 0, .int .i64 0, .int .i64 0, .int .i64 0, .int .i64 0, .int .i64 0, .int .i64 0, .int .i64 0, .int .i64 0, .string ByteArray.empty, .bool false, .bool false], .string ByteArray.empty], []⟩).memory Tryz.f7.params.toList Rows.fnExactWritePieceSpec.vars false #[.agg #[.int .i64 0, .int .i64 0, .int .i64 0, .int .i64 0, .int .i64 0, .int .i64 0, .int .i64 0, .int .i64 0, .int .i64 0, .int .i64 0, .string ByteArray.empty, .bool false, .bool false], .string ByteArray.empty].toList 8 = some x :=
  Option.isSome_iff_exists.1 (by kernel_rfl)

set_option maxRecDepth 100000 in
theorem lifted (os : Os) (started : os.Started) (H : Type) (enc : TypeId × Value → H) (F : Stop.Interp) :
    ReturnsInHanded {} Tryz.checked os 7 .any ((OpenSpec.ofChange Rows.fnExactWritePieceSpec).preRow enc Tryz.prog Tryz.f7 Rows.fnExactWritePieceRow.domain false Rows.fnExactWritePieceRow.laid) (((OpenSpec.ofChange Rows.fnExactWritePieceSpec).at F).post enc Tryz.prog Tryz.f7 false true false false) := by
  obtain ⟨x, hx⟩ := reads os enc
  refine returnsInHanded_of_row (C := Tryz.checked) (s := OpenSpec.ofChange Rows.fnExactWritePieceSpec) own started (by kernel_rfl) Tryz.func7
    (witness_row_atRef (enc := enc) (C := Tryz.checked) false (World.doorLaid Tryz.prog 400 os) #[.agg #[.int .i64 0, .int .i64 0, .int .i64 0, .int .i64 0, .int .i64 0, .int .i64 0, .int .i64 0, .int .i64 0, .int .i64 0, .int .i64 0, .string ByteArray.empty, .bool false, .bool false], .string ByteArray.empty] rfl (by kernel_rfl) (by kernel_rfl) (by kernel_rfl)
      (OpenSpec.preRow_of_cond 8 hx rfl (fun k hk => by cases hk) (by kernel_rfl) (laid_met os))) ?_
  intro W base args ds gs before hval hW _ _ _ hL _ _
  exact contract H enc W base args ds gs before hval hW hL

theorem said : Rows.FnExactWritePieceSaid :=
  OpenClaim.holds_of_cond 7 Tryz.f7 rfl rfl rfl rfl rfl rfl rfl ⟨rfl, rfl, rfl, rfl, rfl⟩ rfl rfl rfl rfl rfl (by kernel_rfl) Tryz.func7 (by kernel_rfl)
    (of_decide_eq_true (by kernel_rfl)) (by unfold Func.isWrapper; first | (rw [if_pos (by decide +kernel)]; kernel_rfl) | (rw [if_neg (by decide +kernel)]; exact ⟨rfl, rfl⟩))
    (fun os started H enc _ F => by rw [OpenClaim.pre_eq_preRow]; exact lifted os started H enc F)

theorem plain (f : FuncId) (fn : Func) (hf : Tryz.pinned.checked.prog.funcNamed "loop.example/g00748/laws.FnExactWritePiece" = some f) (hfn : Tryz.pinned.checked.prog.funcs[f]? = some fn) :
    Rows.fnExactWritePieceCard.stood.looks = Tryz.pinned.checked.prog.looks [] ∧ ∀ (j : Nat) t, fn.params[j]? = some t → Tryz.pinned.checked.prog.wantsStandIn t = false := by
  obtain rfl : f = 7 := Option.some.inj ((show Tryz.prog.funcNamed "loop.example/g00748/laws.FnExactWritePiece" = some 7 by kernel_rfl).symm.trans hf) |>.symm
  obtain rfl : fn = Tryz.f7 := (Option.some.inj (Tryz.func7.symm.trans hfn)).symm
  refine ⟨by kernel_rfl, fun j t ht => ?_⟩
  rw [Tryz.params7] at ht
  have hm := Array.mem_of_getElem? ht
  simp at hm
  rcases hm with rfl | rfl
  · exact (show Tryz.prog.wantsStandIn 37 = false by kernel_rfl)
  · exact (show Tryz.prog.wantsStandIn 9 = false by kernel_rfl)

theorem card : Rows.FnExactWritePieceCardSaid :=
  Claim7.holds_tied_plain_at .later [] _ _ _ _ said (fun _ h => by cases h) (by kernel_rfl) (fun _ h => by cases h) fnExactWritePiece_row_tie rfl ⟨rfl, rfl⟩ (by kernel_rfl) rfl plain (by kernel_rfl)
end Go.Proofs.YtbamjhldebobhaaGreatDoor.fnExactWritePiece

namespace Go.Proofs.YtbamjhldebobhaaGreatDoor
theorem fnExactWritePiece_holds : Rows.FnExactWritePieceCardSaid := fnExactWritePiece.card
end Go.Proofs.YtbamjhldebobhaaGreatDoor
