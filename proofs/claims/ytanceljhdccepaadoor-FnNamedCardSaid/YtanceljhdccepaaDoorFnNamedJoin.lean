/- The tied card of 'FnNamed': from the walk to the given statement. The listed package-level variables start as the program's text lays them (the given tie). Joined of: MaI, StI, LayI, DesI, NextI, NextJ, MaJ, SetsLaid, MaLaid, FnNamedM, FnNamedWalk, FnNamedCard. -/
import Derived.Test.YtanceljhdccepaaDoorMaH
import Derived.Test.YtanceljhdccepaaDoorStH
import Derived.Test.YtanceljhdccepaaDoorOwn
import Derived.Shelf.Strings.BuilderRune
import Derived.Shelf.Strings.Search1
import Derived.Shelf.Small.Strs
import Derived.Test.YtanceljhdccepaaDoorProg
import Derived.Test.YtanceljhdccepaaDoorTokB
import Derived.Test.YtanceljhdccepaaDoorTokC
import Derived.Test.YtanceljhdccepaaDoorByteI
import Derived.WalkMore
import Derived.Test.YtanceljhdccepaaDoorSetsT
import Derived.Test.YtanceljhdccepaaDoorVars
import Derived.Lib.SmallJoins
import Derived.Test.YtanceljhdccepaaDoorMaB
import Derived.Test.YtanceljhdccepaaDoorStN
import Derived.Test.YtanceljhdccepaaDoorEscA
import Derived.Test.YtanceljhdccepaaDoorRowsU
import Derived.Test.YtanceljhdccepaaDoorLawsAt
import Derived.Test.YtanceljhdccepaaDoorLawsSame
import Derived.Test.YtanceljhdccepaaDoorSetVar
import Derived.Deep.RegionWith
import Derived.Laws.StructEq
import Derived.Deep.DeepCutAuto
import Derived.Test.YtanceljhdccepaaDoorCards
import Derived.Test.YtanceljhdccepaaDoorTie
import Derived.Lib.Hide

namespace Go.Proofs.YtanceljhdccepaaDoor
open Go.RowKit Go.Sort

set_option maxHeartbeats 1000000 in
set_option maxRecDepth 100000 in
theorem impl_StepState (x : St) (t : Tok) (w : World) (ht : TabM w) (hw : Wide64 x) : Calls Tryd.prog 18 #[stV x, tokV t] w (SsDone x t w) := by
  have ⟨hB0, hT0, hS0, b0⟩ := step_blocks w x t
  have HB0 := Lib.hid hB0
  have HK0 := Lib.hid hT0
  have HS0 := Lib.hid hS0
  have B0 := Lib.hid b0
  clear hB0 hT0 hS0 b0
  have HF := Lib.hid (fun w => impl_machineOf x w)
  have HO := Lib.hid (fun b w h ht => impl_ok x b w h ht hw.1 hw.2)
  have HTK := Lib.hid (fun w => impl_tokenOK t w)
  have HST := Lib.hid (fun y b w h => impl_state y b w h)
  have HT := Lib.hid ht
  clear ht hw
  unfold StDone stV at HF HST
  unfold tokV at HTK ⊢
  unfold stV
  cases ho : stOKB x
  · have HE : Hid (toldV (ssP x t) = .tuple #[stV zeroSt, .int .i64 0, .bool false, .int .i64 1]) := Lib.hid (told_bad (by rw [ssP, if_neg (fun h => by rw [ho] at h; exact absurd h.1 (by decide))]))
    rw [ho] at HO
    go_enter Tryd.func18, Tryd.ntmps18
    go_wp2_with fail
    refine (HF.out _).mono ?_
    generalize ((w.alloc (.cells #[.int .i64 x.g0, .int .i64 x.g1, .int .i64 x.g2, .int .i64 x.g3, .int .i64 x.l, .int .i64 x.s, .int .i64 x.d] 24)).alloc (.cells #[.int .i64 t.k, .int .i64 t.a, .int .i64 t.b, .int .i64 t.c, .int .i64 t.p, .int .i64 t.n] 38)).alloc (.cells #[.int .i64 0, .int .i64 0, .int .i64 0, .int .i64 0, .int .i64 0, .int .i64 0, .int .i64 0] 24) = W0 at *
    rintro e w1 ⟨rfl, b1⟩
    have B1 : Hid (Below w.heap.size w w1) := Lib.hid (B0.out.trans (b1.mono B0.out.size))
    have HB1 := Lib.hid ((HB0.out.keep b1).keep (below_one w1 (.cells #[.int .i64 x.g0, .int .i64 x.g1, .int .i64 x.g2, .int .i64 x.g3, .int .i64 x.l, .int .i64 x.s, .int .i64 x.d] 74)))
    have HK1 := Lib.hid ((HK0.out.keep b1).keep (below_one w1 (.cells #[.int .i64 x.g0, .int .i64 x.g1, .int .i64 x.g2, .int .i64 x.g3, .int .i64 x.l, .int .i64 x.s, .int .i64 x.d] 74)))
    have HS1 := Lib.hid ((HS0.out.keep b1).keep (below_one w1 (.cells #[.int .i64 x.g0, .int .i64 x.g1, .int .i64 x.g2, .int .i64 x.g3, .int .i64 x.l, .int .i64 x.s, .int .i64 x.d] 74)))
    have hw1 : w.heap.size + 2 < w1.heap.size := (HS0.out.keep b1).lt
    have B2 : Hid (Below w.heap.size w (w1.alloc (.cells #[.int .i64 x.g0, .int .i64 x.g1, .int .i64 x.g2, .int .i64 x.g3, .int .i64 x.l, .int .i64 x.s, .int .i64 x.d] 74))) := Lib.hid (B1.out.alloc B1.out.size _)
    have HM := Lib.hid (MAt.new w1 x)
    have HT2 := Lib.hid (HT.out.keep B2.out)
    clear b1 HB0 HK0 HS0 B0
    go_wp2_with fail
    refine (HO.out w1.heap.size _ HM.out HT2.out).mono ?_
    generalize w1.alloc (.cells #[.int .i64 x.g0, .int .i64 x.g1, .int .i64 x.g2, .int .i64 x.g3, .int .i64 x.l, .int .i64 x.s, .int .i64 x.d] 74) = W1 at *
    rintro e W2 ⟨rfl, b2⟩
    have B3 : Hid (Below w.heap.size w W2) := Lib.hid (B2.out.trans (b2.mono B2.out.size))
    have HK3 := Lib.hid (HK1.out.keep b2)
    have HS3 := Lib.hid (HS1.out.keep b2)
    have HM3 := Lib.hid (HM.out.keep b2)
    have HT3 := Lib.hid (HT2.out.keep b2)
    have hb3 : w1.heap.size < W2.heap.size := HM3.out.lt
    clear b2 B2 HM HT2 HB1 HS1 HK1
    have ⟨r0, r1, r2, r3, r4, r5, r6⟩ := HS3.out.cells
    have ⟨z0, z1, z2, z3, z4, z5, z6⟩ := HS3.out.thaw
    simp only [zeroSt] at r0 r1 r2 r3 r4 r5 r6
    have hl : w.heap.size + 2 < W2.heap.size := HS3.out.lt
    go_wp2
    exact st_ret4 (y := zeroSt) (r := .int .i64 0) (m := .bool false) (c := .int .i64 1) rfl rfl rfl rfl rfl (HS3.out.put zeroSt) Tryd.underlying24 rfl (by kernel_rfl) rfl ⟨by rw [HE.out], below_putSt B3.out (by omega) zeroSt⟩
  rw [ho] at HO
  cases hk : tokOKB t
  · have HE : Hid (toldV (ssP x t) = .tuple #[stV zeroSt, .int .i64 0, .bool false, .int .i64 1]) := Lib.hid (told_bad (by rw [ssP, if_neg (fun h => by rw [hk] at h; exact absurd h.2 (by decide))]))
    rw [hk] at HTK
    go_enter Tryd.func18, Tryd.ntmps18
    go_wp2_with fail
    refine (HF.out _).mono ?_
    generalize ((w.alloc (.cells #[.int .i64 x.g0, .int .i64 x.g1, .int .i64 x.g2, .int .i64 x.g3, .int .i64 x.l, .int .i64 x.s, .int .i64 x.d] 24)).alloc (.cells #[.int .i64 t.k, .int .i64 t.a, .int .i64 t.b, .int .i64 t.c, .int .i64 t.p, .int .i64 t.n] 38)).alloc (.cells #[.int .i64 0, .int .i64 0, .int .i64 0, .int .i64 0, .int .i64 0, .int .i64 0, .int .i64 0] 24) = W0 at *
    rintro e w1 ⟨rfl, b1⟩
    have B1 : Hid (Below w.heap.size w w1) := Lib.hid (B0.out.trans (b1.mono B0.out.size))
    have HB1 := Lib.hid ((HB0.out.keep b1).keep (below_one w1 (.cells #[.int .i64 x.g0, .int .i64 x.g1, .int .i64 x.g2, .int .i64 x.g3, .int .i64 x.l, .int .i64 x.s, .int .i64 x.d] 74)))
    have HK1 := Lib.hid ((HK0.out.keep b1).keep (below_one w1 (.cells #[.int .i64 x.g0, .int .i64 x.g1, .int .i64 x.g2, .int .i64 x.g3, .int .i64 x.l, .int .i64 x.s, .int .i64 x.d] 74)))
    have HS1 := Lib.hid ((HS0.out.keep b1).keep (below_one w1 (.cells #[.int .i64 x.g0, .int .i64 x.g1, .int .i64 x.g2, .int .i64 x.g3, .int .i64 x.l, .int .i64 x.s, .int .i64 x.d] 74)))
    have hw1 : w.heap.size + 2 < w1.heap.size := (HS0.out.keep b1).lt
    have B2 : Hid (Below w.heap.size w (w1.alloc (.cells #[.int .i64 x.g0, .int .i64 x.g1, .int .i64 x.g2, .int .i64 x.g3, .int .i64 x.l, .int .i64 x.s, .int .i64 x.d] 74))) := Lib.hid (B1.out.alloc B1.out.size _)
    have HM := Lib.hid (MAt.new w1 x)
    have HT2 := Lib.hid (HT.out.keep B2.out)
    clear b1 HB0 HK0 HS0 B0
    go_wp2_with fail
    refine (HO.out w1.heap.size _ HM.out HT2.out).mono ?_
    generalize w1.alloc (.cells #[.int .i64 x.g0, .int .i64 x.g1, .int .i64 x.g2, .int .i64 x.g3, .int .i64 x.l, .int .i64 x.s, .int .i64 x.d] 74) = W1 at *
    rintro e W2 ⟨rfl, b2⟩
    have B3 : Hid (Below w.heap.size w W2) := Lib.hid (B2.out.trans (b2.mono B2.out.size))
    have HK3 := Lib.hid (HK1.out.keep b2)
    have HS3 := Lib.hid (HS1.out.keep b2)
    have HM3 := Lib.hid (HM.out.keep b2)
    have HT3 := Lib.hid (HT2.out.keep b2)
    have hb3 : w1.heap.size < W2.heap.size := HM3.out.lt
    clear b2 B2 HM HT2 HB1 HS1 HK1
    have ⟨t0, t1, t2, t3, t4, t5⟩ := HK3.out.cells
    go_wp2_with fail
    refine (HTK.out _).mono ?_
    clear t0 t1 t2 t3 t4 t5
    rintro e W4 ⟨rfl, b4⟩
    have B4 : Hid (Below w.heap.size w W4) := Lib.hid (B3.out.trans (b4.mono B3.out.size))
    have HK4 := Lib.hid (HK3.out.keep b4)
    have HS4 := Lib.hid (HS3.out.keep b4)
    have HM4 := Lib.hid (HM3.out.keep b4)
    have HT4 := Lib.hid (HT3.out.keep b4)
    clear b4 B3 HS3 HM3 HT3 HK3 hb3
    have ⟨r0, r1, r2, r3, r4, r5, r6⟩ := HS4.out.cells
    have ⟨z0, z1, z2, z3, z4, z5, z6⟩ := HS4.out.thaw
    simp only [zeroSt] at r0 r1 r2 r3 r4 r5 r6
    have hl : w.heap.size + 2 < W4.heap.size := HS4.out.lt
    go_wp2
    exact st_ret4 (y := zeroSt) (r := .int .i64 0) (m := .bool false) (c := .int .i64 1) rfl rfl rfl rfl rfl (HS4.out.put zeroSt) Tryd.underlying24 rfl (by kernel_rfl) rfl ⟨by rw [HE.out], below_putSt B4.out (by omega) zeroSt⟩
  have HG := Lib.hid (fun b w h ht => impl_step x t b w h ht ho ((tokOKB_iff t).1 hk))
  rw [hk] at HTK
  unfold MvDone mvV tokV at HG
  have HE : Hid (toldV (ssP x t) = .tuple #[stV (stepT x t).y, .int .i64 (toldR (stepT x t)), .bool (toldB (stepT x t)), .int .i64 (stepT x t).c]) := Lib.hid (by rw [ssP, if_pos ⟨ho, hk⟩]; rfl)
  clear ho hk
  generalize stepT x t = q at *
  generalize toldR q = tr at *
  generalize toldB q = tb at *
  go_enter Tryd.func18, Tryd.ntmps18
  go_wp2_with fail
  refine (HF.out _).mono ?_
  generalize ((w.alloc (.cells #[.int .i64 x.g0, .int .i64 x.g1, .int .i64 x.g2, .int .i64 x.g3, .int .i64 x.l, .int .i64 x.s, .int .i64 x.d] 24)).alloc (.cells #[.int .i64 t.k, .int .i64 t.a, .int .i64 t.b, .int .i64 t.c, .int .i64 t.p, .int .i64 t.n] 38)).alloc (.cells #[.int .i64 0, .int .i64 0, .int .i64 0, .int .i64 0, .int .i64 0, .int .i64 0, .int .i64 0] 24) = W0 at *
  rintro e w1 ⟨rfl, b1⟩
  have B1 : Hid (Below w.heap.size w w1) := Lib.hid (B0.out.trans (b1.mono B0.out.size))
  have HB1 := Lib.hid ((HB0.out.keep b1).keep (below_one w1 (.cells #[.int .i64 x.g0, .int .i64 x.g1, .int .i64 x.g2, .int .i64 x.g3, .int .i64 x.l, .int .i64 x.s, .int .i64 x.d] 74)))
  have HK1 := Lib.hid ((HK0.out.keep b1).keep (below_one w1 (.cells #[.int .i64 x.g0, .int .i64 x.g1, .int .i64 x.g2, .int .i64 x.g3, .int .i64 x.l, .int .i64 x.s, .int .i64 x.d] 74)))
  have HS1 := Lib.hid ((HS0.out.keep b1).keep (below_one w1 (.cells #[.int .i64 x.g0, .int .i64 x.g1, .int .i64 x.g2, .int .i64 x.g3, .int .i64 x.l, .int .i64 x.s, .int .i64 x.d] 74)))
  have hw1 : w.heap.size + 2 < w1.heap.size := (HS0.out.keep b1).lt
  have B2 : Hid (Below w.heap.size w (w1.alloc (.cells #[.int .i64 x.g0, .int .i64 x.g1, .int .i64 x.g2, .int .i64 x.g3, .int .i64 x.l, .int .i64 x.s, .int .i64 x.d] 74))) := Lib.hid (B1.out.alloc B1.out.size _)
  have HM := Lib.hid (MAt.new w1 x)
  have HT2 := Lib.hid (HT.out.keep B2.out)
  clear b1 HB0 HK0 HS0 B0
  go_wp2_with fail
  refine (HO.out w1.heap.size _ HM.out HT2.out).mono ?_
  generalize w1.alloc (.cells #[.int .i64 x.g0, .int .i64 x.g1, .int .i64 x.g2, .int .i64 x.g3, .int .i64 x.l, .int .i64 x.s, .int .i64 x.d] 74) = W1 at *
  rintro e W2 ⟨rfl, b2⟩
  have B3 : Hid (Below w.heap.size w W2) := Lib.hid (B2.out.trans (b2.mono B2.out.size))
  have HK3 := Lib.hid (HK1.out.keep b2)
  have HS3 := Lib.hid (HS1.out.keep b2)
  have HM3 := Lib.hid (HM.out.keep b2)
  have HT3 := Lib.hid (HT2.out.keep b2)
  have hb3 : w1.heap.size < W2.heap.size := HM3.out.lt
  clear b2 B2 HM HT2 HB1 HS1 HK1
  have ⟨t0, t1, t2, t3, t4, t5⟩ := HK3.out.cells
  go_wp2_with fail
  refine (HTK.out _).mono ?_
  clear t0 t1 t2 t3 t4 t5
  rintro e W4 ⟨rfl, b4⟩
  have B4 : Hid (Below w.heap.size w W4) := Lib.hid (B3.out.trans (b4.mono B3.out.size))
  have HK4 := Lib.hid (HK3.out.keep b4)
  have HS4 := Lib.hid (HS3.out.keep b4)
  have HM4 := Lib.hid (HM3.out.keep b4)
  have HT4 := Lib.hid (HT3.out.keep b4)
  clear b4 B3 HS3 HM3 HT3 HK3 hb3
  have ⟨t0, t1, t2, t3, t4, t5⟩ := HK4.out.cells
  go_wp2_with fail
  refine (HG.out w1.heap.size W4 HM4.out HT4.out).mono ?_
  clear t0 t1 t2 t3 t4 t5
  rintro e W5 ⟨rfl, HM5, O5⟩
  have HS5 : Hid (StAt W5 (w.heap.size + 2) zeroSt) := Lib.hid ((O5.2 _ (by omega) HS4.out.lt).trans HS4.out)
  have B5 : Hid (Below w.heap.size w W5) := Lib.hid (B4.out.trans (O5.1.mono (by omega)))
  go_wp2_with fail
  refine (HST.out q.y w1.heap.size W5 HM5).mono ?_
  rintro e W6 ⟨rfl, b6⟩
  have B6 : Hid (Below w.heap.size w W6) := Lib.hid (B5.out.trans (b6.mono B5.out.size))
  have HS6 := Lib.hid (HS5.out.keep b6)
  have ⟨r0, r1, r2, r3, r4, r5, r6⟩ := HS6.out.cells
  have ⟨z0, z1, z2, z3, z4, z5, z6⟩ := HS6.out.thaw
  simp only [zeroSt] at r0 r1 r2 r3 r4 r5 r6
  have hl : w.heap.size + 2 < W6.heap.size := HS6.out.lt
  clear b6 O5 HM5
  go_wp2
  exact st_ret4 (y := q.y) (r := .int .i64 tr) (m := .bool tb) (c := .int .i64 q.c) rfl rfl rfl rfl rfl (HS6.out.put q.y) Tryd.underlying24 rfl (by kernel_rfl) rfl ⟨by rw [HE.out], below_putSt B6.out (by omega) q.y⟩

end Go.Proofs.YtanceljhdccepaaDoor

namespace Go.Proofs.YtanceljhdccepaaDoor
open Go.RowKit Go.Sort

/-- A run handed back: the state, the characters in new memory, the offset, the code. -/
def RunDone (p : Rn) (w : World) (e : Ending) (w' : World) : Prop := ∃ v, e = .returned (.tuple #[stV p.y, v, .int .i64 p.p, .int .i64 p.c]) ∧ Own .i64 3 w' w.heap.size v p.z ∧ Below w.heap.size w w'
theorem addR_some {z : List Int} {r : Int} (h : 0 ≤ r) : addR z r = z ++ [r] := by rw [addR, if_pos h]
theorem addR_none {z : List Int} {r : Int} (h : r = -1) : addR z r = z := by rw [addR, if_neg (by omega)]

theorem heap_putSt {w : World} {g j : Nat} (y : St) (h : j ≠ g) : (putSt w g y).heap[j]? = w.heap[j]? := by
  unfold putSt
  rw [Below.heap_setCell _ _ _ _ (by simpa using h), Below.heap_setCell _ _ _ _ (by simpa using h), Below.heap_setCell _ _ _ _ (by simpa using h), Below.heap_setCell _ _ _ _ (by simpa using h), Below.heap_setCell _ _ _ _ (by simpa using h), Below.heap_setCell _ _ _ _ (by simpa using h), Below.heap_setCell _ _ _ _ (by simpa using h)]
theorem Own.putSt {k : IntKind} {e : TypeId} {w : World} {B g : Nat} {v : Value} {zs : List Int} (h : Own k e w B v zs) (hg : g < B) (y : St) : Own k e (putSt w g y) B v zs := by
  refine ⟨h.1, ?_⟩
  rcases h.2 with h | ⟨j, cap, cur, a, b, c, d⟩
  · exact .inl h
  · exact .inr ⟨j, cap, cur, a, b, by rw [heap_putSt y (by omega)]; exact c, d⟩
theorem StAt.other {w : World} {g j : Nat} {x : St} (h : StAt w j x) (y : St) (hg : j ≠ g) : StAt (Go.Proofs.YtanceljhdccepaaDoor.putSt w g y) j x := (heap_putSt y hg).trans h
theorem TokAt.other {w : World} {g j : Nat} {t : Tok} (h : TokAt w j t) (y : St) (hg : j ≠ g) : TokAt (Go.Proofs.YtanceljhdccepaaDoor.putSt w g y) j t := (heap_putSt y hg).trans h

theorem size_putSt (w : World) (g : Nat) (y : St) : (putSt w g y).heap.size = w.heap.size := by simp [putSt]

set_option maxHeartbeats 4000000 in
set_option maxRecDepth 100000 in
theorem spec_l04Run (x : St) (s : ByteArray) (w : World) (hx : stOKB x = true) (hs : s.size ≤ 65536) : Calls Tryd.prog 49 #[stV x, .string s] w (RunDone (runT s s.size 0 x []) w) := by
  have HB0 : Hid (StAt ((w.alloc (.cells #[.int .i64 x.g0, .int .i64 x.g1, .int .i64 x.g2, .int .i64 x.g3, .int .i64 x.l, .int .i64 x.s, .int .i64 x.d] 24)).alloc (.cells #[.int .i64 0, .int .i64 0, .int .i64 0, .int .i64 0, .int .i64 0, .int .i64 0, .int .i64 0] 24)) w.heap.size x) := Lib.hid (heap_alloc2_old _ _ _)
  have HS0 : Hid (StAt ((w.alloc (.cells #[.int .i64 x.g0, .int .i64 x.g1, .int .i64 x.g2, .int .i64 x.g3, .int .i64 x.l, .int .i64 x.s, .int .i64 x.d] 24)).alloc (.cells #[.int .i64 0, .int .i64 0, .int .i64 0, .int .i64 0, .int .i64 0, .int .i64 0, .int .i64 0] 24)) (w.heap.size + 1) zeroSt) := Lib.hid (heap_alloc2_new _ _ _)
  have B0 := Lib.hid (below_two w (.cells #[.int .i64 x.g0, .int .i64 x.g1, .int .i64 x.g2, .int .i64 x.g3, .int .i64 x.l, .int .i64 x.s, .int .i64 x.d] 24) (.cells #[.int .i64 0, .int .i64 0, .int .i64 0, .int .i64 0, .int .i64 0, .int .i64 0, .int .i64 0] 24))
  have hsz0 : ((w.alloc (.cells #[.int .i64 x.g0, .int .i64 x.g1, .int .i64 x.g2, .int .i64 x.g3, .int .i64 x.l, .int .i64 x.s, .int .i64 x.d] 24)).alloc (.cells #[.int .i64 0, .int .i64 0, .int .i64 0, .int .i64 0, .int .i64 0, .int .i64 0, .int .i64 0] 24)).heap.size = w.heap.size + 2 := by simp
  have HX := Lib.hid hx
  clear hx
  unfold stV
  go_enter Tryd.func49, Tryd.ntmps49
  go_wp2
  generalize (w.alloc (.cells #[.int .i64 x.g0, .int .i64 x.g1, .int .i64 x.g2, .int .i64 x.g3, .int .i64 x.l, .int .i64 x.s, .int .i64 x.d] 24)).alloc (.cells #[.int .i64 0, .int .i64 0, .int .i64 0, .int .i64 0, .int .i64 0, .int .i64 0, .int .i64 0] 24) = W0 at *
  go_loopw [8, 9] (fun v i wr => ∃ (k f : Nat) (xs : St) (zs : List Int), k ≤ s.size ∧ i = .int .i64 k ∧ Hid (s.size ≤ k + f) ∧ zs.length ≤ k ∧ Hid (runT s s.size 0 x [] = runT s f k xs zs) ∧ Hid (stOKB xs = true) ∧ Hid (Own .i64 3 wr (w.heap.size + 2) v zs) ∧ Hid (StAt wr w.heap.size xs) ∧ Hid (StAt wr (w.heap.size + 1) zeroSt) ∧ Hid (Below w.heap.size w wr)) (fun _ i _ => s.size - (intOf i).toNat)
  case atStart =>
    have HO0 := Own.lit .i64 3 W0 (w.heap.size + 2) [] (by omega) (by simp)
    rw [hsz0] at HO0
    exact ⟨0, s.size, x, [], by omega, rfl, Lib.hid (by omega), by simp, Lib.hid rfl, HX, Lib.hid HO0, Lib.hid (HB0.out.keep (below_one _ _)), Lib.hid (HS0.out.keep (below_one _ _)), Lib.hid (B0.out.alloc B0.out.size _)⟩
  case round =>
    obtain ⟨k, f, xs, zs, hk, rfl, HF, hzs, HR, HX, HO, HB, HS, BW⟩ := hrel
    obtain ⟨a0, c0, hform, _⟩ := HO.out.shape
    subst hform
    by_cases hlt : k < s.size
    · obtain ⟨f, rfl⟩ : ∃ q, f = q + 1 := ⟨f - 1, by have := HF.out; omega⟩
      have v2 : (k : Int) < (s.size : Int) := by omega
      have HU : Hid (runT s (f + 1) k xs zs = if (stepT xs (nextTok s k)).c = 0 then runT s f (k + (nextTok s k).n.toNat) (stepT xs (nextTok s k)).y (addR zs (stepT xs (nextTok s k)).r) else ⟨xs, zs, k, (stepT xs (nextTok s k)).c⟩) := Lib.hid (by rw [runT, if_pos hlt])
      have n1 := (nextTok_in s k hlt).2.1
      have n2 := (nextTok_in s k hlt).2.2
      have HN := Lib.hid (fun w => spec_l03Next s k w hlt (by omega))
      have HG := Lib.hid (fun w => spec_l04Step xs (nextTok s k) w HX.out (nextTok_ok s k hlt hs))
      have HC := Lib.hid (fun h => stepT_code (x := xs) (t := nextTok s k) h)
      have hr := stepT_r (x := xs) (nextTok_ok s k hlt hs)
      have HX2 := Lib.hid (stepT_ok HX.out (nextTok_ok s k hlt hs))
      unfold TokDone tokV at HN
      unfold StpDone stpV tokV stV at HG
      generalize nextTok s k = y at *
      generalize stepT xs y = p at *
      have u1 : IntKind.i64.wrap ((k : Int) + y.n) = (k : Int) + y.n := IntWalk.i64_in _ (by omega)
      go_wp2_with fail
      refine (HN.out _).mono ?_
      rintro e w1 ⟨rfl, b1⟩
      have B1 := Lib.hid (BW.out.trans (b1.mono BW.out.size))
      have O1 := Lib.hid ((HO.out.all b1).all (below_one w1 (.cells #[.int .i64 y.k, .int .i64 y.a, .int .i64 y.b, .int .i64 y.c, .int .i64 y.p, .int .i64 y.n] 38)))
      have HB1 := Lib.hid ((HB.out.keep b1).keep (below_one w1 (.cells #[.int .i64 y.k, .int .i64 y.a, .int .i64 y.b, .int .i64 y.c, .int .i64 y.p, .int .i64 y.n] 38)))
      have HS1 := Lib.hid ((HS.out.keep b1).keep (below_one w1 (.cells #[.int .i64 y.k, .int .i64 y.a, .int .i64 y.b, .int .i64 y.c, .int .i64 y.p, .int .i64 y.n] 38)))
      have HK1 := Lib.hid (TokAt.new w1 y)
      have B1b := Lib.hid (B1.out.alloc B1.out.size (.cells #[.int .i64 y.k, .int .i64 y.a, .int .i64 y.b, .int .i64 y.c, .int .i64 y.p, .int .i64 y.n] 38))
      have hw1 : w.heap.size + 1 < w1.heap.size := (HS.out.keep b1).lt
      have L1 := Lib.hid (fun g hg => World.ownsRow.lt (HO.out.all b1) g hg)
      clear b1 HO HB HS BW B1 HN
      have ⟨y0, y1, y2, y3, y4, y5, y6⟩ := HB1.out.cells
      have ⟨t0, t1, t2, t3, t4, t5⟩ := HK1.out.cells
      go_wp2_with fail
      refine (HG.out _).mono ?_
      clear y0 y1 y2 y3 y4 y5 y6 t0 t1 t2 t3 t4 t5
      generalize w1.alloc (.cells #[.int .i64 y.k, .int .i64 y.a, .int .i64 y.b, .int .i64 y.c, .int .i64 y.p, .int .i64 y.n] 38) = W1 at *
      rintro e w2 ⟨rfl, b2⟩
      have B2 := Lib.hid (B1b.out.trans (b2.mono B1b.out.size))
      have O2 := Lib.hid (O1.out.all b2)
      have HB2 := Lib.hid (HB1.out.keep b2)
      have HS2 := Lib.hid (HS1.out.keep b2)
      have HK2 := Lib.hid (HK1.out.keep b2)
      clear b2 O1 HB1 HS1 HK1 B1b
      by_cases hc : p.c = 0
      · have ec : (p.c != 0) = false := by simpa using hc
        have ⟨q0, q1, q2, q3, q4, q5, q6⟩ := HB2.out.thaw
        have ⟨y0, y1, y2, y3, y4, y5, y6⟩ := HB2.out.cells
        have hl6 : w.heap.size < w2.heap.size := HB2.out.lt
        have hk2 : w1.heap.size < w2.heap.size := HK2.out.lt
        have ⟨p0, p1, p2, p3, p4, p5, p6⟩ := (StAt.new w2 p.y).cells
        have ⟨t0, t1, t2, t3, t4, t5⟩ := HK2.out.cells
        have HN2 : Hid (∃ m : Nat, y.n = (m : Int) ∧ 1 ≤ m ∧ k + m ≤ s.size) := Lib.hid ⟨y.n.toNat, by omega, by omega, by omega⟩
        have BP := Lib.hid (below_putSt B2.out (Nat.le_refl _) p.y)
        have OP := Lib.hid (O2.out.putSt (show w.heap.size < w.heap.size + 2 by omega) p.y)
        have HSP := Lib.hid (HS2.out.other p.y (show w.heap.size + 1 ≠ w.heap.size by omega))
        have HBP := Lib.hid (HB2.out.put p.y)
        rcases hr with hr | hr
        · have HA : Hid (addR zs p.r = zs) := Lib.hid (addR_none hr)
          have vr : p.r < 0 := by omega
          obtain ⟨m, hm, m1, m2⟩ := HN2.out
          have HM := Lib.hid hm
          have e5 : (k : Int) + y.n = ((k + m : Nat) : Int) := by omega
          clear hm
          go_wp2
          go_roundw
          case rel => exact ⟨k + m, f, p.y, zs, m2, by simp, Lib.hid (by have := HF.out; omega), by omega, Lib.hid (by rw [HR.out, HU.out, if_pos hc, HA.out, HM.out]; simp), HX2, Lib.hid (OP.out.alloc _), Lib.hid (HBP.out.alloc _), Lib.hid (HSP.out.alloc _), Lib.hid (BP.out.alloc BP.out.size _)⟩
          case measure => simp [intOf]; omega
        · have HA : Hid (addR zs p.r = zs ++ [p.r]) := Lib.hid (addR_some hr)
          have O3 := Lib.hid ((OP.out.alloc (.cells #[.int .i64 p.y.g0, .int .i64 p.y.g1, .int .i64 p.y.g2, .int .i64 p.y.g3, .int .i64 p.y.l, .int .i64 p.y.s, .int .i64 p.y.d] 24)).alloc (.cells #[.int .i64 p.r] 3))
          have HNW := Lib.hid (World.news_of_block (show (((putSt w2 w.heap.size p.y).alloc (.cells #[.int .i64 p.y.g0, .int .i64 p.y.g1, .int .i64 p.y.g2, .int .i64 p.y.g3, .int .i64 p.y.l, .int .i64 p.y.s, .int .i64 p.y.d] 24)).alloc (.cells #[.int .i64 p.r] 3)).heap[w2.heap.size + 1]? = some (.cells ([p.r].map (Value.int .i64)).toArray 3) from by
            have := heap_alloc2_new (putSt w2 w.heap.size p.y) (.cells #[.int .i64 p.y.g0, .int .i64 p.y.g1, .int .i64 p.y.g2, .int .i64 p.y.g3, .int .i64 p.y.l, .int .i64 p.y.s, .int .i64 p.y.d] 24) (.cells #[.int .i64 p.r] 3)
            rw [size_putSt] at this
            exact this))
          have hB3 : w.heap.size + 2 ≤ (((putSt w2 w.heap.size p.y).alloc (.cells #[.int .i64 p.y.g0, .int .i64 p.y.g1, .int .i64 p.y.g2, .int .i64 p.y.g3, .int .i64 p.y.l, .int .i64 p.y.s, .int .i64 p.y.d] 24)).alloc (.cells #[.int .i64 p.r] 3)).heap.size := by
            simp only [World.size_alloc, size_putSt]; omega
          go_wp2_with (at_builtin; refine app_i64 _ rfl _ _ rfl (w.heap.size + 2) _ zs rfl O3.out ⟨w2.heap.size + 1, 0, none⟩ 1 1 [p.r] rfl rfl (by decide) HNW.out (by omega) hB3 ?_)
          intro g cap2 w4 o4 g4 lt4
          have hx4 : TokAt w4 w1.heap.size y := (g4.block _ (by simp; omega) (fun h => by have := (L1.out _ h.symm).2; omega)).trans (((HK2.out.other p.y (by omega)).keep (below_one _ (.cells #[.int .i64 p.y.g0, .int .i64 p.y.g1, .int .i64 p.y.g2, .int .i64 p.y.g3, .int .i64 p.y.l, .int .i64 p.y.s, .int .i64 p.y.d] 24))).keep (below_one _ (.cells #[.int .i64 p.r] 3)))
          have HB4 := Lib.hid ((g4.block w.heap.size (by simp; omega) (fun h => by have := (L1.out _ h.symm).1; omega)).trans ((HBP.out.alloc (.cells #[.int .i64 p.y.g0, .int .i64 p.y.g1, .int .i64 p.y.g2, .int .i64 p.y.g3, .int .i64 p.y.l, .int .i64 p.y.s, .int .i64 p.y.d] 24)).alloc (.cells #[.int .i64 p.r] 3)))
          have HS4 := Lib.hid ((g4.block (w.heap.size + 1) (by simp; omega) (fun h => by have := (L1.out _ h.symm).1; omega)).trans ((HSP.out.alloc (.cells #[.int .i64 p.y.g0, .int .i64 p.y.g1, .int .i64 p.y.g2, .int .i64 p.y.g3, .int .i64 p.y.l, .int .i64 p.y.s, .int .i64 p.y.d] 24)).alloc (.cells #[.int .i64 p.r] 3)))
          have B3 := BP.out.alloc BP.out.size (.cells #[.int .i64 p.y.g0, .int .i64 p.y.g1, .int .i64 p.y.g2, .int .i64 p.y.g3, .int .i64 p.y.l, .int .i64 p.y.s, .int .i64 p.y.d] 24)
          have B4 := Lib.hid ((B3.alloc B3.size (.cells #[.int .i64 p.r] 3)).grown g4 (by simp only [World.size_alloc, size_putSt]; omega) (fun j hj => by have := (L1.out j hj).1; omega))
          have O4 := Lib.hid o4
          clear o4 g4 B3
          clear y0 y1 y2 y3 y4 y5 y6 q0 q1 q2 q3 q4 q5 q6 p0 p1 p2 p3 p4 p5 p6 t0 t1 t2 t3 t4 t5
          have ⟨_, _, _, _, _, t5⟩ := hx4.cells
          clear hx4
          obtain ⟨m, hm, m1, m2⟩ := HN2.out
          have HM := Lib.hid hm
          have e5 : (k : Int) + y.n = ((k + m : Nat) : Int) := by omega
          clear hm
          go_wp2
          go_roundw
          case rel => exact ⟨k + m, f, p.y, zs ++ [p.r], m2, by simp, Lib.hid (by have := HF.out; omega), by simp; omega, Lib.hid (by rw [HR.out, HU.out, if_pos hc, HA.out, HM.out]; simp), HX2, O4, HB4, HS4, B4⟩
          case measure => simp [intOf]; omega
      · have ec : (p.c != 0) = true := by simpa using hc
        have HE : Hid (runT s s.size 0 x [] = ⟨xs, zs, k, p.c⟩) := Lib.hid (by rw [HR.out, HU.out, if_neg hc])
        have ⟨y0, y1, y2, y3, y4, y5, y6⟩ := (HB2.out.alloc (.cells #[.int .i64 p.y.g0, .int .i64 p.y.g1, .int .i64 p.y.g2, .int .i64 p.y.g3, .int .i64 p.y.l, .int .i64 p.y.s, .int .i64 p.y.d] 24)).cells
        have BB := Lib.hid (below_putSt B2.out (show w.heap.size ≤ w.heap.size + 1 by omega) xs)
        have ⟨r0, r1, r2, r3, r4, r5, r6⟩ := HS2.out.cells
        have ⟨z0, z1, z2, z3, z4, z5, z6⟩ := HS2.out.thaw
        simp only [zeroSt] at r0 r1 r2 r3 r4 r5 r6
        have hl : w.heap.size + 1 < w2.heap.size := HS2.out.lt
        have OE := Lib.hid (((O2.out.putSt (show w.heap.size + 1 < w.heap.size + 2 by omega) xs).alloc (.cells #[.int .i64 p.y.g0, .int .i64 p.y.g1, .int .i64 p.y.g2, .int .i64 p.y.g3, .int .i64 p.y.l, .int .i64 p.y.s, .int .i64 p.y.d] 24)).low (show w.heap.size ≤ w.heap.size + 2 by omega))
        go_wp2
        exact st_ret4 (y := xs) (r := .slice a0 zs.length c0) (m := .int .i64 k) (c := .int .i64 p.c) rfl rfl rfl rfl rfl ((HS2.out.put xs).alloc _) Tryd.underlying24 rfl (by kernel_rfl) rfl ⟨.slice a0 zs.length c0, by rw [HE.out], by rw [HE.out]; exact OE.out, BB.out.alloc BB.out.size _⟩
    · have v2 : ¬ (k : Int) < (s.size : Int) := by omega
      have HE : Hid (runT s s.size 0 x [] = ⟨xs, zs, s.size, 0⟩) := Lib.hid (by
        rw [HR.out]
        cases f with
        | zero => rfl
        | succ f => rw [runT, if_neg hlt])
      have ⟨y0, y1, y2, y3, y4, y5, y6⟩ := HB.out.cells
      have BB := Lib.hid (below_putSt BW.out (show w.heap.size ≤ w.heap.size + 1 by omega) xs)
      have ⟨r0, r1, r2, r3, r4, r5, r6⟩ := HS.out.cells
      have ⟨z0, z1, z2, z3, z4, z5, z6⟩ := HS.out.thaw
      simp only [zeroSt] at r0 r1 r2 r3 r4 r5 r6
      have hl : w.heap.size + 1 < wr.heap.size := HS.out.lt
      have OE := Lib.hid ((HO.out.putSt (show w.heap.size + 1 < w.heap.size + 2 by omega) xs).low (show w.heap.size ≤ w.heap.size + 2 by omega))
      go_wp2
      exact st_ret4 (y := xs) (r := .slice a0 zs.length c0) (m := .int .i64 s.size) (c := .int .i64 0) rfl rfl rfl rfl rfl (HS.out.put xs) Tryd.underlying24 rfl (by kernel_rfl) rfl ⟨.slice a0 zs.length c0, by rw [HE.out], by rw [HE.out]; exact OE.out, BB.out⟩

set_option maxHeartbeats 1000000 in
set_option maxRecDepth 100000 in
theorem spec_RunState (x : St) (s : ByteArray) (w : World) (hs : s.size ≤ 9223372036854775807) : Calls Tryd.prog 14 #[stV x, .string s] w (RunDone (rsR x s) w) := by
  have HB0 : Hid (StAt ((w.alloc (.cells #[.int .i64 x.g0, .int .i64 x.g1, .int .i64 x.g2, .int .i64 x.g3, .int .i64 x.l, .int .i64 x.s, .int .i64 x.d] 24)).alloc (.cells #[.int .i64 0, .int .i64 0, .int .i64 0, .int .i64 0, .int .i64 0, .int .i64 0, .int .i64 0] 24)) w.heap.size x) := Lib.hid (heap_alloc2_old _ _ _)
  have HS0 : Hid (StAt ((w.alloc (.cells #[.int .i64 x.g0, .int .i64 x.g1, .int .i64 x.g2, .int .i64 x.g3, .int .i64 x.l, .int .i64 x.s, .int .i64 x.d] 24)).alloc (.cells #[.int .i64 0, .int .i64 0, .int .i64 0, .int .i64 0, .int .i64 0, .int .i64 0, .int .i64 0] 24)) (w.heap.size + 1) zeroSt) := Lib.hid (heap_alloc2_new _ _ _)
  have B0 := Lib.hid (below_two w (.cells #[.int .i64 x.g0, .int .i64 x.g1, .int .i64 x.g2, .int .i64 x.g3, .int .i64 x.l, .int .i64 x.s, .int .i64 x.d] 24) (.cells #[.int .i64 0, .int .i64 0, .int .i64 0, .int .i64 0, .int .i64 0, .int .i64 0, .int .i64 0] 24))
  have HO := Lib.hid (fun w => spec_l04OK x w)
  unfold stV at HO ⊢
  by_cases h1 : 65536 < s.size
  · have HE : Hid (rsR x s = ⟨zeroSt, [], 0, 2⟩) := Lib.hid (by rw [rsR, if_pos h1])
    have h1' : (65536 : Int) < (s.size : Int) := by omega
    have O0 : Hid (Own .i64 3 (((w.alloc (.cells #[.int .i64 x.g0, .int .i64 x.g1, .int .i64 x.g2, .int .i64 x.g3, .int .i64 x.l, .int .i64 x.s, .int .i64 x.d] 24)).alloc (.cells #[.int .i64 0, .int .i64 0, .int .i64 0, .int .i64 0, .int .i64 0, .int .i64 0, .int .i64 0] 24)).alloc (.cells #[] 3)) w.heap.size (.slice (some ⟨w.heap.size + 1 + 1, 0, none⟩) 0 0) []) := Lib.hid (by
      have h := Own.lit .i64 3 ((w.alloc (.cells #[.int .i64 x.g0, .int .i64 x.g1, .int .i64 x.g2, .int .i64 x.g3, .int .i64 x.l, .int .i64 x.s, .int .i64 x.d] 24)).alloc (.cells #[.int .i64 0, .int .i64 0, .int .i64 0, .int .i64 0, .int .i64 0, .int .i64 0, .int .i64 0] 24)) w.heap.size [] B0.out.size (by simp)
      rw [show ((w.alloc (.cells #[.int .i64 x.g0, .int .i64 x.g1, .int .i64 x.g2, .int .i64 x.g3, .int .i64 x.l, .int .i64 x.s, .int .i64 x.d] 24)).alloc (.cells #[.int .i64 0, .int .i64 0, .int .i64 0, .int .i64 0, .int .i64 0, .int .i64 0, .int .i64 0] 24)).heap.size = w.heap.size + 1 + 1 by simp] at h
      exact h)
    go_enter Tryd.func14, Tryd.ntmps14
    go_wp2
    exact st_ret4 (y := zeroSt) (r := .slice (some ⟨w.heap.size + 1 + 1, 0, none⟩) 0 0) (m := .int .i64 0) (c := .int .i64 2) rfl rfl rfl rfl rfl (HS0.out.alloc _) Tryd.underlying24 rfl (by kernel_rfl) rfl ⟨.slice (some ⟨w.heap.size + 1 + 1, 0, none⟩) 0 0, by rw [HE.out], by rw [HE.out]; exact O0.out, B0.out.alloc B0.out.size _⟩
  have h1' : (s.size : Int) ≤ 65536 := by omega
  cases ho : stOKB x
  · have HE : Hid (rsR x s = ⟨zeroSt, [], 0, 1⟩) := Lib.hid (by rw [rsR, if_neg h1, if_neg (by rw [ho]; decide)])
    rw [ho] at HO
    go_enter Tryd.func14, Tryd.ntmps14
    go_wp2_with fail
    refine (HO.out _).mono ?_
    generalize (w.alloc (.cells #[.int .i64 x.g0, .int .i64 x.g1, .int .i64 x.g2, .int .i64 x.g3, .int .i64 x.l, .int .i64 x.s, .int .i64 x.d] 24)).alloc (.cells #[.int .i64 0, .int .i64 0, .int .i64 0, .int .i64 0, .int .i64 0, .int .i64 0, .int .i64 0] 24) = W0 at *
    rintro e w1 ⟨rfl, b1⟩
    have B1 := Lib.hid (B0.out.trans (b1.mono B0.out.size))
    have HS1 := Lib.hid (HS0.out.keep b1)
    have ⟨r0, r1, r2, r3, r4, r5, r6⟩ := HS1.out.cells
    have ⟨z0, z1, z2, z3, z4, z5, z6⟩ := HS1.out.thaw
    simp only [zeroSt] at r0 r1 r2 r3 r4 r5 r6
    have hl : w.heap.size + 1 < w1.heap.size := HS1.out.lt
    clear b1
    have BB := Lib.hid (below_putSt B1.out (show w.heap.size ≤ w.heap.size + 1 by omega) zeroSt)
    have O0 : Hid (Own .i64 3 ((putSt w1 (w.heap.size + 1) zeroSt).alloc (.cells #[] 3)) w.heap.size (.slice (some ⟨w1.heap.size, 0, none⟩) 0 0) []) := Lib.hid (by
      have h := Own.lit .i64 3 (putSt w1 (w.heap.size + 1) zeroSt) w.heap.size [] BB.out.size (by simp)
      rw [size_putSt] at h
      exact h)
    go_wp2
    exact st_ret4 (y := zeroSt) (r := .slice (some ⟨w1.heap.size, 0, none⟩) 0 0) (m := .int .i64 0) (c := .int .i64 1) rfl rfl rfl rfl rfl ((HS1.out.put zeroSt).alloc _) Tryd.underlying24 rfl (by kernel_rfl) rfl ⟨.slice (some ⟨w1.heap.size, 0, none⟩) 0 0, by rw [HE.out], by rw [HE.out]; exact O0.out, BB.out.alloc BB.out.size _⟩
  rw [ho] at HO
  have HR := Lib.hid (fun w => spec_l04Run x s w ho (by omega))
  have HE : Hid (rsR x s = runT s s.size 0 x []) := Lib.hid (by rw [rsR, if_neg h1, if_pos ho])
  rw [HE.out]
  unfold RunDone stV at HR
  generalize runT s s.size 0 x [] = q at *
  clear ho HE
  go_enter Tryd.func14, Tryd.ntmps14
  go_wp2_with fail
  refine (HO.out _).mono ?_
  generalize (w.alloc (.cells #[.int .i64 x.g0, .int .i64 x.g1, .int .i64 x.g2, .int .i64 x.g3, .int .i64 x.l, .int .i64 x.s, .int .i64 x.d] 24)).alloc (.cells #[.int .i64 0, .int .i64 0, .int .i64 0, .int .i64 0, .int .i64 0, .int .i64 0, .int .i64 0] 24) = W0 at *
  rintro e w1 ⟨rfl, b1⟩
  have B1 := Lib.hid (B0.out.trans (b1.mono B0.out.size))
  have HB1 := Lib.hid (HB0.out.keep b1)
  have HS1 := Lib.hid (HS0.out.keep b1)
  clear b1
  have ⟨y0, y1, y2, y3, y4, y5, y6⟩ := HB1.out.cells
  go_wp2_with fail
  refine (HR.out _).mono ?_
  clear y0 y1 y2 y3 y4 y5 y6
  rintro e w2 ⟨v, rfl, o2, b2⟩
  have B2 := Lib.hid (B1.out.trans (b2.mono B1.out.size))
  have HS2 := Lib.hid (HS1.out.keep b2)
  have ⟨r0, r1, r2, r3, r4, r5, r6⟩ := HS2.out.cells
  have ⟨z0, z1, z2, z3, z4, z5, z6⟩ := HS2.out.thaw
  simp only [zeroSt] at r0 r1 r2 r3 r4 r5 r6
  have hl : w.heap.size + 1 < w2.heap.size := HS2.out.lt
  have OE := Lib.hid ((o2.putSt (show w.heap.size + 1 < w1.heap.size from HS1.out.lt) q.y).low B1.out.size)
  have BB := Lib.hid (below_putSt B2.out (show w.heap.size ≤ w.heap.size + 1 by omega) q.y)
  clear o2 b2
  go_wp2
  exact st_ret4 (y := q.y) (r := v) (m := .int .i64 q.p) (c := .int .i64 q.c) rfl rfl rfl rfl rfl (HS2.out.put q.y) Tryd.underlying24 rfl (by kernel_rfl) rfl ⟨v, rfl, OE.out, BB.out⟩

end Go.Proofs.YtanceljhdccepaaDoor

namespace Go.Proofs
open Go.Shelf
def Tryd.layI_ren : Go.Shelf.Ren := ⟨fun | 137 => 104 | 217 => 106 | 266 => 107 | n => n, fun | 3 => 3 | 5 => 5 | 9 => 9 | n => n, fun | n => n⟩
theorem Tryd.layI137 : Lays.n137 Tryd.prog Tryd.layI_ren := {
  mixed := by kernel_rfl
  f137 := Tryd.func104.trans (congrArg some (by kernel_rfl))
  f217 := Tryd.func106.trans (congrArg some (by kernel_rfl))
  f266 := Tryd.func107.trans (congrArg some (by kernel_rfl))
  t3 := Tryd.underlying3
  a3 := Tryd.isAgg3
  z3 := Tryd.sizeOf3
  v3 := Tryd.zeroValue3
  t5 := Tryd.underlying5
  a5 := Tryd.isAgg5
  z5 := Tryd.sizeOf5
  v5 := Tryd.zeroValue5
  t9 := Tryd.underlying9
  a9 := Tryd.isAgg9
  z9 := Tryd.sizeOf9
  v9 := Tryd.zeroValue9 }
end Go.Proofs

namespace Go.Proofs.YtanceljhdccepaaDoor
open Go.RowKit

def idx94 (b : Int) : Int := if 40 ≤ b ∧ b ≤ 43 then b - 40 else -1
def idx96 (b : Int) : Int := if 45 ≤ b ∧ b ≤ 47 then b - 45 else -1
theorem idx94_all : ∀ n : Fin 256, Lib.indexByte (⟨#[40, 41, 42, 43]⟩ : ByteArray).data.toList ((n.val : Int).toNat.toUInt8) = idx94 (n.val : Int) := by decide +kernel
theorem idx96_all : ∀ n : Fin 256, Lib.indexByte (⟨#[45, 46, 47]⟩ : ByteArray).data.toList ((n.val : Int).toNat.toUInt8) = idx96 (n.val : Int) := by decide +kernel
theorem str_idx94 (c : Int) (w : World) (h0 : 0 ≤ c) (h1 : c < 256) : Calls Tryd.prog 104 #[.string ⟨#[40, 41, 42, 43]⟩, .int .u8 c] w fun e w' => e = .returned (.int .i64 (idx94 c)) ∧ w = w' := by
  refine (Any.strings_IndexByte Tryd.layI137 ⟨#[40, 41, 42, 43]⟩ c w).mono ?_
  rintro e w' ⟨rfl, rfl⟩
  have := idx94_all ⟨c.toNat, by omega⟩
  simp only at this
  have hc : ((c.toNat : Nat) : Int) = c := by omega
  rw [hc] at this
  exact ⟨by rw [this], rfl⟩
theorem str_idx96 (c : Int) (w : World) (h0 : 0 ≤ c) (h1 : c < 256) : Calls Tryd.prog 104 #[.string ⟨#[45, 46, 47]⟩, .int .u8 c] w fun e w' => e = .returned (.int .i64 (idx96 c)) ∧ w = w' := by
  refine (Any.strings_IndexByte Tryd.layI137 ⟨#[45, 46, 47]⟩ c w).mono ?_
  rintro e w' ⟨rfl, rfl⟩
  have := idx96_all ⟨c.toNat, by omega⟩
  simp only at this
  have hc : ((c.toNat : Nat) : Int) = c := by omega
  rw [hc] at this
  exact ⟨by rw [this], rfl⟩

theorem placeOf_none (s : ByteArray) : ∀ (l : List ByteArray) (k : Int), (∀ t ∈ l, ¬ t = s) → placeOf s l k = -1
  | [], _, _ => rfl
  | t :: r, k, h => by
    rw [placeOf, if_neg (h t (by simp))]
    exact placeOf_none s r (k + 1) (fun u hu => h u (by simp [hu]))
theorem one_all : ∀ n : Fin 256, midNo ⟨#[n.val.toUInt8]⟩ = if 0 ≤ idx94 (n.val : Int) then idx94 (n.val : Int) else if 0 ≤ idx96 (n.val : Int) then idx96 (n.val : Int) + 4 else if (n.val : Int) = 36 then 7 else -1 := by decide +kernel
theorem two_all : ∀ n : Fin 256, midNo ⟨#[36, n.val.toUInt8]⟩ = if 0 ≤ idx94 (n.val : Int) then idx94 (n.val : Int) + 8 else -1 := by decide +kernel

theorem mid_long (s : ByteArray) (h : 2 < s.size) : midNo s = -1 := by
  refine placeOf_none s mids 0 (fun t ht e => ?_)
  have h2 : ∀ t ∈ mids, t.size ≤ 2 := by decide
  have := h2 t ht
  rw [e] at this
  omega
theorem mid_one (s : ByteArray) (h : s.size = 1) : s = ⟨#[s[0].toNat.toUInt8]⟩ := by
  apply ByteArray.ext
  apply Array.ext
  · exact h
  · intro i h1 h2
    have : i = 0 := by simp at h2; omega
    subst this
    simp
    rfl
theorem mid_two (s : ByteArray) (h : s.size = 2) : s = ⟨#[s[0].toNat.toUInt8, s[1].toNat.toUInt8]⟩ := by
  apply ByteArray.ext
  apply Array.ext
  · exact h
  · intro i h1 h2
    have : i = 0 ∨ i = 1 := by simp at h2; omega
    rcases this with rfl | rfl
    · simp
      rfl
    · simp
      rfl
theorem midNo_one (s : ByteArray) (h : s.size = 1) : midNo s = if (0 : Int) ≤ idx94 (s[0].toNat : Int) then idx94 (s[0].toNat : Int) else if (0 : Int) ≤ idx96 (s[0].toNat : Int) then idx96 (s[0].toNat : Int) + 4 else if (s[0].toNat : Int) = 36 then 7 else -1 := by
  have := one_all ⟨s[0].toNat, s[0].toNat_lt⟩
  simp only at this
  rw [← mid_one s h] at this
  exact this
theorem midNo_two (s : ByteArray) (h : s.size = 2) (h36 : (s[0].toNat : Int) = 36) : midNo s = if (0 : Int) ≤ idx94 (s[1].toNat : Int) then idx94 (s[1].toNat : Int) + 8 else -1 := by
  have := two_all ⟨s[1].toNat, s[1].toNat_lt⟩
  simp only at this
  have h0 : s[0].toNat.toUInt8 = 36 := by
    have : s[0].toNat = 36 := by omega
    rw [this]; rfl
  rw [← h0, ← mid_two s h] at this
  exact this
theorem midNo_two' (s : ByteArray) (h : s.size = 2) (h36 : ¬ (s[0].toNat : Int) = 36) : midNo s = -1 := by
  refine placeOf_none s mids 0 (fun t ht e => ?_)
  have h2 : ∀ t ∈ mids, t.size = 2 → byteAt t 0 = 36 := by decide
  have := h2 t ht (by rw [e]; exact h)
  rw [e, byteAt_eq s 0 (by omega)] at this
  exact h36 this
theorem is36 (s : ByteArray) (h : s.size = 1) : s = ⟨#[36]⟩ ↔ (s[0].toNat : Int) = 36 := by
  constructor
  · intro e; subst e; rfl
  · intro e
    rw [mid_one s h]
    have : s[0].toNat = 36 := by omega
    rw [this]; rfl

def desK (s : ByteArray) (f : Int) : Int := if s = ⟨#[36]⟩ then (if f ≤ 66 then 3 else 0) else midK s
def desG (s : ByteArray) : Int := if s = ⟨#[36]⟩ ∨ midNo s < 0 then 0 else midG s
def desV (s : ByteArray) (f : Int) : Value := .tuple #[.int .i64 (desG s), .int .i64 (desK s f)]
theorem desV_of {s : ByteArray} {f g k : Int} (hg : desG s = g) (hk : desK s f = k) : desV s f = .tuple #[.int .i64 g, .int .i64 k] := by rw [desV, hg, hk]

/-- A whole escape sequence with intermediates, told by them. -/
theorem plainTok_des (s : ByteArray) (f p n : Int) (hm : ¬ s = ⟨#[]⟩) : plainTok s f p n = if desK s f = 0 ∨ f < 64 then ⟨9, 0, 0, 0, p, n⟩ else ⟨7, desG s, desK s f, f, p, n⟩ := by
  have hr := midNo_range s
  unfold plainTok desK desG
  rw [if_neg hm]
  by_cases h36 : s = ⟨#[36]⟩
  · subst h36
    have e1 : midG ⟨#[36]⟩ = 0 := by decide
    have e2 : midK ⟨#[36]⟩ = 3 := by decide
    simp only [e1, e2, true_and, if_true, true_or]
    by_cases hf : f ≤ 66
    · simp only [hf, if_true]
      by_cases h64 : f < 64
      · simp [h64]
      · have h66 : ¬ 66 < f := by omega
        simp [h64, h66]
    · have h66 : 66 < f := by omega
      simp [hf, h66]
  · simp only [h36, if_false, false_and, false_or, or_false]
    rcases hr with h | ⟨h1, h2⟩
    · have e1 : midG s < 0 := by simp [midG, h]
      have e2 : midK s = 0 := by simp [midK, h]
      simp [e1, e2]
    · have e1 : ¬ midG s < 0 := by unfold midG; repeat' split
                                   all_goals omega
      have e2 : ¬ midK s = 0 := by unfold midK; repeat' split
                                   all_goals omega
      have e3 : ¬ midNo s < 0 := by omega
      simp [e1, e2, e3]

theorem idx94_le (b : Int) : -1 ≤ idx94 b ∧ idx94 b ≤ 3 := by unfold idx94; split <;> omega
theorem idx96_le (b : Int) : -1 ≤ idx96 b ∧ idx96 b ≤ 2 := by unfold idx96; split <;> omega
theorem des_of {s : ByteArray} {f n : Int} (h36 : ¬ s = ⟨#[36]⟩) (hn : midNo s = n) : desG s = (if n < 0 then 0 else if n < 4 then n else if n < 7 then n - 3 else if n = 7 then 0 else n - 8) ∧ desK s f = (if n < 0 then 0 else if n < 4 then 1 else if n < 7 then 2 else 3) := by
  subst hn
  refine ⟨?_, ?_⟩
  · unfold desG midG
    by_cases h : midNo s < 0
    · simp [h36, h]
    · simp [h36, h]
  · unfold desK midK
    simp [h36]

theorem des_94 {s : ByteArray} {f x : Int} (h36 : ¬ s = ⟨#[36]⟩) (hn : midNo s = x) (h0 : 0 ≤ x) (h1 : x ≤ 3) : desV s f = .tuple #[.int .i64 x, .int .i64 1] := by
  have ⟨a, b⟩ := des_of (f := f) h36 hn
  rw [if_neg (by omega), if_pos (by omega)] at a b
  exact desV_of a b
theorem des_96 {s : ByteArray} {f y : Int} (h36 : ¬ s = ⟨#[36]⟩) (hn : midNo s = y + 4) (h0 : 0 ≤ y) (h1 : y ≤ 2) : desV s f = .tuple #[.int .i64 (y + 1), .int .i64 2] := by
  have ⟨a, b⟩ := des_of (f := f) h36 hn
  rw [if_neg (by omega), if_neg (by omega), if_pos (by omega)] at a b
  exact desV_of (by omega) b
theorem des_pair {s : ByteArray} {f x : Int} (h36 : ¬ s = ⟨#[36]⟩) (hn : midNo s = x + 8) (h0 : 0 ≤ x) : desV s f = .tuple #[.int .i64 x, .int .i64 3] := by
  have ⟨a, b⟩ := des_of (f := f) h36 hn
  rw [if_neg (by omega), if_neg (by omega), if_neg (by omega)] at a b
  rw [if_neg (by omega)] at a
  exact desV_of (by omega) b
theorem des_none {s : ByteArray} {f : Int} (h36 : ¬ s = ⟨#[36]⟩) (hn : midNo s = -1) : desV s f = .tuple #[.int .i64 0, .int .i64 0] := by
  have ⟨a, b⟩ := des_of (f := f) h36 hn
  exact desV_of a b

set_option maxHeartbeats 2000000 in
theorem des_one (s : ByteArray) (f : Int) (w : World) (h1 : s.size = 1) : Calls Tryd.prog 101 #[.string s, .int .i64 f] w fun e w' => e = .returned (desV s f) ∧ w = w' := by
  have hi := is36 s h1
  have hn := midNo_one s h1
  have hb := byteAt_le s 0
  rw [byteAt_eq s 0 (by omega)] at hb
  have hz : (s.size : Int) = 1 := by omega
  by_cases h36 : s = ⟨#[36]⟩
  · have hb36 := hi.1 h36
    have t1 : (s.toList == [36]) = true := by rw [h36, list36]; rfl
    by_cases hf : f ≤ 66
    · have HE := Lib.hid (desV_of (s := s) (f := f) (g := 0) (k := 3) (by simp [desG, h36]) (by simp [desK, h36, hf]))
      clear hi hn hb hb36 h36
      go_enter Tryd.func101, Tryd.ntmps101
      go_wp2
      go_ret2
      exact ⟨ret_val HE.out.symm, rfl⟩
    · have HE := Lib.hid (desV_of (s := s) (f := f) (g := 0) (k := 0) (by simp [desG, h36]) (by simp [desK, h36, hf]))
      have i1 : idx94 36 = -1 := by decide
      have i2 : idx96 36 = -1 := by decide
      clear hi hn h36
      go_enter Tryd.func101, Tryd.ntmps101
      go_wp2_with fail
      refine (str_idx94 36 w (by omega) (by omega)).mono ?_
      rintro e w1 ⟨rfl, rfl⟩
      rw [i1]
      go_wp2_with fail
      refine (str_idx96 36 w (by omega) (by omega)).mono ?_
      rintro e w1 ⟨rfl, rfl⟩
      rw [i2]
      go_wp2
      go_ret2
      exact ⟨ret_val HE.out.symm, rfl⟩
  · have t1 : (s.toList == [36]) = false := by have := str_eqf h36; rwa [list36] at this
    have hb36 : ¬ (s[0].toNat : Int) = 36 := fun h => h36 (hi.2 h)
    clear hi
    generalize hbb : (s[0].toNat : Int) = b at *
    have hx := idx94_le b
    have hy := idx96_le b
    have HX := Lib.hid (fun w => str_idx94 b w (by omega) (by omega))
    have HY := Lib.hid (fun w => str_idx96 b w (by omega) (by omega))
    generalize idx94 b = x at *
    generalize idx96 b = y at *
    by_cases x0 : 0 ≤ x
    · have HE := Lib.hid (des_94 (f := f) h36 (by rw [hn, if_pos x0]) x0 hx.2)
      clear hn h36 hb36
      go_enter Tryd.func101, Tryd.ntmps101
      go_wp2_with fail
      refine (HX.out w).mono ?_
      rintro e w1 ⟨rfl, rfl⟩
      go_wp2
      go_ret2
      exact ⟨ret_val HE.out.symm, rfl⟩
    · rw [if_neg x0] at hn
      by_cases y0 : 0 ≤ y
      · rw [if_pos y0] at hn
        have HE := Lib.hid (des_96 (f := f) h36 hn y0 hy.2)
        clear hn h36 hb36
        go_enter Tryd.func101, Tryd.ntmps101
        go_wp2_with fail
        refine (HX.out w).mono ?_
        rintro e w1 ⟨rfl, rfl⟩
        go_wp2_with fail
        refine (HY.out w).mono ?_
        rintro e w1 ⟨rfl, rfl⟩
        go_wp2
        go_ret2
        exact ⟨ret_val HE.out.symm, rfl⟩
      · rw [if_neg y0, if_neg hb36] at hn
        have HE := Lib.hid (des_none (f := f) h36 hn)
        clear hn h36 hb36
        go_enter Tryd.func101, Tryd.ntmps101
        go_wp2_with fail
        refine (HX.out w).mono ?_
        rintro e w1 ⟨rfl, rfl⟩
        go_wp2_with fail
        refine (HY.out w).mono ?_
        rintro e w1 ⟨rfl, rfl⟩
        go_wp2
        go_ret2
        exact ⟨ret_val HE.out.symm, rfl⟩

set_option maxHeartbeats 2000000 in
theorem des_two (s : ByteArray) (f : Int) (w : World) (h1 : s.size = 2) : Calls Tryd.prog 101 #[.string s, .int .i64 f] w fun e w' => e = .returned (desV s f) ∧ w = w' := by
  have hz : (s.size : Int) = 2 := by omega
  have h36 : ¬ s = ⟨#[36]⟩ := fun h => by subst h; simp [ByteArray.size] at h1
  have t1 : (s.toList == [36]) = false := by have := str_eqf h36; rwa [list36] at this
  have hb := byteAt_le s 1
  rw [byteAt_eq s 1 (by omega)] at hb
  have hb0 := byteAt_le s 0
  rw [byteAt_eq s 0 (by omega)] at hb0
  by_cases b36 : (s[0].toNat : Int) = 36
  · have hn := midNo_two s h1 b36
    generalize hbb : (s[1].toNat : Int) = b at *
    have hx := idx94_le b
    have HX := Lib.hid (fun w => str_idx94 b w (by omega) (by omega))
    have HY := Lib.hid (fun w => str_idx96 b w (by omega) (by omega))
    generalize idx94 b = x at *
    generalize idx96 b = y at *
    by_cases x0 : 0 ≤ x
    · rw [if_pos x0] at hn
      have HE := Lib.hid (des_pair (f := f) h36 hn x0)
      clear hn h36 hb0
      go_enter Tryd.func101, Tryd.ntmps101
      go_wp2_with fail
      refine (HX.out w).mono ?_
      rintro e w1 ⟨rfl, rfl⟩
      go_wp2
      go_ret2
      exact ⟨ret_val HE.out.symm, rfl⟩
    · rw [if_neg x0] at hn
      have HE := Lib.hid (des_none (f := f) h36 hn)
      clear hn h36 hb0
      go_enter Tryd.func101, Tryd.ntmps101
      go_wp2_with fail
      refine (HX.out w).mono ?_
      rintro e w1 ⟨rfl, rfl⟩
      go_wp2_with fail
      refine (HY.out w).mono ?_
      rintro e w1 ⟨rfl, rfl⟩
      by_cases y0 : 0 ≤ y
      all_goals
        go_wp2
        go_ret2
        exact ⟨ret_val HE.out.symm, rfl⟩
  · have hn := midNo_two' s h1 b36
    have HE := Lib.hid (des_none (f := f) h36 hn)
    have c36 : ((s[0].toNat : Int) == 36) = false := by simpa using b36
    clear hn h36 b36 hb
    go_enter Tryd.func101, Tryd.ntmps101
    go_wp2
    go_ret2
    exact ⟨ret_val HE.out.symm, rfl⟩

set_option maxHeartbeats 2000000 in
theorem impl_designated (s : ByteArray) (f : Int) (w : World) (hm : ¬ s = ⟨#[]⟩) (hs : s.size ≤ 1048576) : Calls Tryd.prog 101 #[.string s, .int .i64 f] w fun e w' => e = .returned (desV s f) ∧ w = w' := by
  by_cases h1 : s.size = 1
  · exact des_one s f w h1
  by_cases h2 : s.size = 2
  · exact des_two s f w h2
  have h0 : ¬ s.size = 0 := fun h => hm (ByteArray.ext (Array.eq_empty_of_size_eq_zero h))
  have h3 : 2 < s.size := by omega
  have h36 : ¬ s = ⟨#[36]⟩ := fun h => by subst h; simp [ByteArray.size] at h1
  have t1 : (s.toList == [36]) = false := by have := str_eqf h36; rwa [list36] at this
  have hn := mid_long s h3
  have HE := Lib.hid (des_none (f := f) h36 hn)
  have c1 : ((s.size : Int) == 2) = false := by simp; omega
  have c2 : ((s.size : Int) != 1) = true := by simp; omega
  clear hn h36 hm h0 h1 h2
  go_enter Tryd.func101, Tryd.ntmps101
  go_wp2
  go_ret2
  exact ⟨ret_val HE.out.symm, rfl⟩

end Go.Proofs.YtanceljhdccepaaDoor

namespace Go.Proofs.YtanceljhdccepaaDoor
open Go.RowKit

set_option maxHeartbeats 2000000 in
theorem impl_shiftToken (f : Int) (w : World) : Calls Tryd.prog 100 #[.int .i64 f] w (TokDone (plainTok ⟨#[]⟩ f 0 0) w) := by
  by_cases c1 : f = 110
  · subst c1
    go_enter Tryd.func100, Tryd.ntmps100
    go_wp2
    exact tok_ret (y := ⟨5, 2, 0, 0, 0, 0⟩) rfl rfl rfl (heap_alloc_new _ _) Tryd.underlying38 rfl (by kernel_rfl) rfl (below_one _ _)
  by_cases c2 : f = 111
  · subst c2
    clear c1
    go_enter Tryd.func100, Tryd.ntmps100
    go_wp2
    exact tok_ret (y := ⟨5, 3, 0, 0, 0, 0⟩) rfl rfl rfl (heap_alloc_new _ _) Tryd.underlying38 rfl (by kernel_rfl) rfl (below_one _ _)
  by_cases c3 : f = 78
  · subst c3
    clear c1 c2
    go_enter Tryd.func100, Tryd.ntmps100
    go_wp2
    exact tok_ret (y := ⟨6, 2, 0, 0, 0, 0⟩) rfl rfl rfl (heap_alloc_new _ _) Tryd.underlying38 rfl (by kernel_rfl) rfl (below_one _ _)
  by_cases c4 : f = 79
  · subst c4
    clear c1 c2 c3
    go_enter Tryd.func100, Tryd.ntmps100
    go_wp2
    exact tok_ret (y := ⟨6, 3, 0, 0, 0, 0⟩) rfl rfl rfl (heap_alloc_new _ _) Tryd.underlying38 rfl (by kernel_rfl) rfl (below_one _ _)
  have HE : Hid (plainTok ⟨#[]⟩ f 0 0 = ⟨9, 0, 0, 0, 0, 0⟩) := Lib.hid (by
    have a1 : ¬ (f = 78 ∨ f = 79) := by omega
    have a2 : ¬ (f = 110 ∨ f = 111) := by omega
    simp [plainTok, a1, a2])
  have e1 : (f == 110) = false := by rw [beq_eq_false_iff_ne]; exact c1
  have e2 : (f == 111) = false := by rw [beq_eq_false_iff_ne]; exact c2
  have e3 : (f == 78) = false := by rw [beq_eq_false_iff_ne]; exact c3
  have e4 : (f == 79) = false := by rw [beq_eq_false_iff_ne]; exact c4
  clear c1 c2 c3 c4
  go_enter Tryd.func100, Tryd.ntmps100
  go_wp2
  exact tok_ret HE.out rfl rfl (heap_alloc_new _ _) Tryd.underlying38 rfl (by kernel_rfl) rfl (below_one _ _)

set_option maxHeartbeats 2000000 in
set_option maxRecDepth 100000 in
theorem impl_escapeToken (s : ByteArray) (f : Int) (w : World) (hs : s.size ≤ 1048576) : Calls Tryd.prog 93 #[.string s, .int .i64 f] w (TokDone (plainTok s f 0 0) w) := by
  by_cases hm : s = ⟨#[]⟩
  · subst hm
    have hR0 := slot0 w
    have b0 := below_one w (.cells #[.int .i64 0, .int .i64 0, .int .i64 0, .int .i64 0, .int .i64 0, .int .i64 0] 38)
    go_enter Tryd.func93, Tryd.ntmps93
    go_wp2_with fail
    refine (impl_shiftToken f _).mono ?_
    rintro e w3 ⟨rfl, b3⟩
    have hR3 := Lib.hid (hR0.keep b3)
    have b03 : Below w.heap.size w w3 := b0.trans (b3.mono b0.size)
    have ⟨r0, r1, r2, r3, r4, r5⟩ := hR3.out.cells
    have ⟨z0, z1, z2, z3, z4, z5⟩ := hR3.out.thaw
    simp only [zeroTok] at r0 r1 r2 r3 r4 r5
    have hl3 : w.heap.size < w3.heap.size := hR3.out.lt
    generalize plainTok ⟨#[]⟩ f 0 0 = y at *
    clear hR0 b0 b3
    unfold tokV
    go_wp2
    exact tok_ret (y := y) rfl rfl rfl (hR3.out.put y) Tryd.underlying38 rfl (by kernel_rfl) rfl (below_put b03 (Nat.le_refl _) y)
  · have HP := Lib.hid (plainTok_des s f 0 0 hm)
    have hm3 : s.toList.isEmpty = false := by
      rw [ByteArray.toList_eq]
      cases h : s.data.toList with
      | nil => exact absurd (ByteArray.ext (Array.toList_inj.1 h)) hm
      | cons _ _ => rfl
    have HD := Lib.hid (fun w => impl_designated s f w hm hs)
    unfold desV at HD
    clear hm
    generalize desG s = g at *
    generalize desK s f = k at *
    by_cases k0 : k = 0
    · have HE : Hid (plainTok s f 0 0 = ⟨9, 0, 0, 0, 0, 0⟩) := Lib.hid (by rw [HP.out, if_pos (.inl k0)])
      subst k0
      go_enter Tryd.func93, Tryd.ntmps93
      go_wp2_with fail
      refine (HD.out _).mono ?_
      rintro e w3 ⟨rfl, rfl⟩
      go_wp2
      exact tok_ret HE.out rfl rfl (heap_alloc_new _ _) Tryd.underlying38 rfl (by kernel_rfl) rfl (below_one _ _)
    · have e0 : (k == 0) = false := by rw [beq_eq_false_iff_ne]; exact k0
      by_cases f64 : f < 64
      · have HE : Hid (plainTok s f 0 0 = ⟨9, 0, 0, 0, 0, 0⟩) := Lib.hid (by rw [HP.out, if_pos (.inr f64)])
        clear k0
        go_enter Tryd.func93, Tryd.ntmps93
        go_wp2_with fail
        refine (HD.out _).mono ?_
        rintro e w3 ⟨rfl, rfl⟩
        go_wp2
        exact tok_ret HE.out rfl rfl (heap_alloc_new _ _) Tryd.underlying38 rfl (by kernel_rfl) rfl (below_one _ _)
      · have HE : Hid (plainTok s f 0 0 = ⟨7, g, k, f, 0, 0⟩) := Lib.hid (by rw [HP.out, if_neg (by omega)])
        have f64' : 64 ≤ f := by omega
        clear k0 f64
        go_enter Tryd.func93, Tryd.ntmps93
        go_wp2_with fail
        refine (HD.out _).mono ?_
        rintro e w3 ⟨rfl, rfl⟩
        go_wp2
        exact tok_ret HE.out rfl rfl (heap_alloc_new _ _) Tryd.underlying38 rfl (by kernel_rfl) rfl (below_one _ _)

end Go.Proofs.YtanceljhdccepaaDoor

namespace Go.Proofs.YtanceljhdccepaaDoor
open Go.RowKit

theorem plainTok_at (m : ByteArray) (f p n : Int) : plainTok m f p n = ⟨(plainTok m f 0 0).k, (plainTok m f 0 0).a, (plainTok m f 0 0).b, (plainTok m f 0 0).c, p, n⟩ := by
  unfold plainTok
  repeat' split
  all_goals rfl
theorem nextTok_byte (s : ByteArray) (k : Nat) (h : ¬ byteAt s k = 27) : nextTok s k = ⟨(byteTok (byteAt s k)).k, (byteTok (byteAt s k)).a, (byteTok (byteAt s k)).b, (byteTok (byteAt s k)).c, k, 1⟩ := by
  rw [nextTok, if_neg h]
  generalize byteAt s k = b
  unfold byteTok inB
  by_cases c1 : b = 15
  · subst c1; rfl
  by_cases c2 : b = 14
  · subst c2; rfl
  by_cases c3 : b = 142
  · subst c3; rfl
  by_cases c4 : b = 143
  · subst c4; rfl
  rw [if_neg (show ¬ (b = 14 ∨ b = 15) by omega), if_neg (show ¬ (b = 142 ∨ b = 143) by omega)]
  simp only [c1, c2, c3, c4, if_false]
  by_cases c5 : b = 32
  · simp [c5]
  by_cases c6 : 33 ≤ b ∧ b ≤ 126
  · simp [c5, c6.1, c6.2]
  by_cases c7 : 160 ≤ b
  · have c8 : ¬ b ≤ 126 := by omega
    simp [c5, c7, c8]
  · have c8 : ¬ (33 ≤ b ∧ b ≤ 126) := c6
    have c9 : (decide (33 ≤ b) && decide (b ≤ 126)) = false := by
      cases h : (decide (33 ≤ b) && decide (b ≤ 126))
      · rfl
      · simp at h; exact absurd h c8
    simp [c5, c7, c8]

set_option maxHeartbeats 4000000 in
set_option maxRecDepth 100000 in
theorem impl_escapeAt (s : ByteArray) (k : Nat) (w : World) (hk : k < s.size) (hs : s.size ≤ 1048576) :
    Calls Tryd.prog 74 #[.string s, .int .i64 k] w (TokDone (escTok s k (s.size - k) (k + 1)) w) := by
  have hR := Lib.hid (slot0 w)
  have b0 := below_one w (.cells #[.int .i64 0, .int .i64 0, .int .i64 0, .int .i64 0, .int .i64 0, .int .i64 0] 38)
  have k0 : (0 : Int) ≤ (k : Int) := by omega
  have u1 : IntKind.i64.wrap ((k : Int) + 1) = (k : Int) + 1 := IntWalk.i64_in _ (by omega)
  go_enter Tryd.func74, Tryd.ntmps74
  go_wp2
  go_step3
  go_wp2
  go_step3
  go_wp2
  generalize w.alloc (.cells #[.int .i64 0, .int .i64 0, .int .i64 0, .int .i64 0, .int .i64 0, .int .i64 0] 38) = w1 at *
  go_loop [5, 6] (fun q i => ∃ j f : Nat, q = .int .i64 8 ∧ k < j ∧ j ≤ s.size ∧ j ≤ k + 4 ∧ i = .int .i64 j ∧ Hid (j + f = s.size + 1) ∧ Hid (escTok s k (s.size - k) (k + 1) = escTok s k f j)) (fun _ i => s.size - (intOf i).toNat)
  case atStart => exact ⟨k + 1, s.size - k, rfl, by omega, by omega, by omega, by simp, Lib.hid (by omega), Lib.hid rfl⟩
  case round =>
    obtain ⟨j, f, rfl, hj, hjs, hj4, rfl, HF, HR⟩ := hrel
    have hl1 : w.heap.size < w1.heap.size := hR.out.lt
    have u6 : IntKind.i64.wrap ((j : Int) - k) = (j : Int) - k := IntWalk.i64_in _ (by omega)
    have u4 : IntKind.i64.wrap ((j : Int) + 1) = (j : Int) + 1 := IntWalk.i64_in _ (by omega)
    have u5 : IntKind.i64.wrap ((j : Int) + 1 - k) = (j : Int) + 1 - k := IntWalk.i64_in _ (by omega)
    by_cases hlt : j < s.size
    · obtain ⟨f, rfl⟩ : ∃ q, f = q + 1 := ⟨f - 1, by have := HF.out; omega⟩
      have hb := byteAt_le s j
      have he := byteAt_eq s j hlt
      have HU : Hid (escTok s k (f + 1) j = if inB (byteAt s j) 32 47 = true then (if j = k + 4 then ⟨9, 0, 0, 0, k, 5⟩ else escTok s k f (j + 1))
        else if inB (byteAt s j) 48 126 = true then plainTok (s.extract (k + 1) j) (byteAt s j) k ((j : Int) + 1 - k) else ⟨9, 0, 0, 0, k, (j : Int) - k⟩) := Lib.hid (by rw [escTok, if_pos hlt])
      rw [he] at hb HU
      clear he
      have v1 : (0 : Int) ≤ (j : Int) := by omega
      have v2 : (j : Int) < (s.size : Int) := by omega
      generalize hbb : (s[j].toNat : Int) = b at *
      by_cases c1 : 48 ≤ b
      · by_cases c2 : b ≤ 126
        · have HE : Hid (escTok s k (s.size - k) (k + 1) = plainTok (s.extract (k + 1) j) b k ((j : Int) + 1 - k)) := Lib.hid (by
            rw [HR.out, HU.out, if_neg (by simp [inB]; omega), if_pos (by simp [inB]; omega)])
          go_wp2_with fail
          refine (impl_escapeToken _ b w1 ?_).mono ?_
          · simp; omega
          rintro e w3 ⟨rfl, b3⟩
          have HP := Lib.hid (plainTok_at (s.extract (k + 1) j) b k ((j : Int) + 1 - k))
          generalize plainTok (s.extract (k + 1) j) b 0 0 = y at *
          have hR3 := Lib.hid (hR.out.keep b3)
          have b03 : Below w.heap.size w w3 := b0.trans (b3.mono b0.size)
          have ⟨r0, r1, r2, r3, r4, r5⟩ := hR3.out.cells
          have ⟨z0, z1, z2, z3, z4, z5⟩ := hR3.out.thaw
          simp only [zeroTok] at r0 r1 r2 r3 r4 r5
          have hl3 : w.heap.size < w3.heap.size := hR3.out.lt
          clear b3
          unfold tokV
          go_wp2
          have hT := (hR3.out.put ⟨y.k, y.a, y.b, y.c, k, (j : Int) + 1 - k⟩)
          exact tok_ret (y := ⟨y.k, y.a, y.b, y.c, k, (j : Int) + 1 - k⟩) (HE.out.trans HP.out) rfl rfl (hT.keep (below_one _ _)) Tryd.underlying38 rfl (by kernel_rfl) rfl ((below_put b03 (Nat.le_refl _) ⟨y.k, y.a, y.b, y.c, k, (j : Int) + 1 - k⟩).alloc (below_put b03 (Nat.le_refl _) ⟨y.k, y.a, y.b, y.c, k, (j : Int) + 1 - k⟩).size _)
        · have HE : Hid (escTok s k (s.size - k) (k + 1) = ⟨9, 0, 0, 0, k, (j : Int) - k⟩) := Lib.hid (by
            rw [HR.out, HU.out, if_neg (by simp [inB]; omega), if_neg (by simp [inB]; omega)])
          have c3 : 126 < b := by omega
          have c4 : 47 < b := by omega
          have ⟨r0, r1, r2, r3, r4, r5⟩ := hR.out.cells
          have ⟨z0, z1, z2, z3, z4, z5⟩ := hR.out.thaw
          simp only [zeroTok] at r0 r1 r2 r3 r4 r5
          clear c2
          go_wp2
          exact tok_ret (y := ⟨9, 0, 0, 0, k, (j : Int) - k⟩) HE.out rfl rfl (hR.out.put ⟨9, 0, 0, 0, k, (j : Int) - k⟩) Tryd.underlying38 rfl (by kernel_rfl) rfl (below_put b0 (Nat.le_refl _) ⟨9, 0, 0, 0, k, (j : Int) - k⟩)
      · have c3 : b < 48 := by omega
        have c4 : b ≤ 47 := by omega
        by_cases c2 : 32 ≤ b
        · by_cases h4 : j = k + 4
          · have HE : Hid (escTok s k (s.size - k) (k + 1) = ⟨9, 0, 0, 0, k, (j : Int) + 1 - k⟩) := Lib.hid (by
              rw [HR.out, HU.out, if_pos (by simp [inB]; omega), if_pos h4, show (j : Int) + 1 - k = 5 by omega])
            have h4' : (3 : Int) < (j : Int) - k := by omega
            have ⟨r0, r1, r2, r3, r4, r5⟩ := hR.out.cells
            have ⟨z0, z1, z2, z3, z4, z5⟩ := hR.out.thaw
            simp only [zeroTok] at r0 r1 r2 r3 r4 r5
            clear h4 c1
            go_wp2
            exact tok_ret (y := ⟨9, 0, 0, 0, k, (j : Int) + 1 - k⟩) HE.out rfl rfl (hR.out.put ⟨9, 0, 0, 0, k, (j : Int) + 1 - k⟩) Tryd.underlying38 rfl (by kernel_rfl) rfl (below_put b0 (Nat.le_refl _) ⟨9, 0, 0, 0, k, (j : Int) + 1 - k⟩)
          · have HE : Hid (escTok s k (s.size - k) (k + 1) = escTok s k f (j + 1)) := Lib.hid (by
              rw [HR.out, HU.out, if_pos (by simp [inB]; omega), if_neg h4])
            have h4' : (j : Int) - k ≤ 3 := by omega
            clear c1
            go_wp2
            go_round
            case rel => exact ⟨j + 1, f, rfl, by omega, by omega, by omega, by go_num, Lib.hid (by have := HF.out; omega), HE⟩
            case measure => simp [intOf]; omega
        · have HE : Hid (escTok s k (s.size - k) (k + 1) = ⟨9, 0, 0, 0, k, (j : Int) - k⟩) := Lib.hid (by
            rw [HR.out, HU.out, if_neg (by simp [inB]; omega), if_neg (by simp [inB]; omega)])
          have c5 : b < 32 := by omega
          have ⟨r0, r1, r2, r3, r4, r5⟩ := hR.out.cells
          have ⟨z0, z1, z2, z3, z4, z5⟩ := hR.out.thaw
          simp only [zeroTok] at r0 r1 r2 r3 r4 r5
          clear c1 c2
          go_wp2
          exact tok_ret (y := ⟨9, 0, 0, 0, k, (j : Int) - k⟩) HE.out rfl rfl (hR.out.put ⟨9, 0, 0, 0, k, (j : Int) - k⟩) Tryd.underlying38 rfl (by kernel_rfl) rfl (below_put b0 (Nat.le_refl _) ⟨9, 0, 0, 0, k, (j : Int) - k⟩)
    · have hje : j = s.size := by omega
      have HE : Hid (escTok s k (s.size - k) (k + 1) = ⟨8, 0, 0, 0, k, (j : Int) - k⟩) := Lib.hid (by
        rw [HR.out, hje]
        cases f with
        | zero => rfl
        | succ f => rw [escTok, if_neg (by omega)])
      have v2 : ¬ (j : Int) < (s.size : Int) := by omega
      have ⟨r0, r1, r2, r3, r4, r5⟩ := hR.out.cells
      have ⟨z0, z1, z2, z3, z4, z5⟩ := hR.out.thaw
      simp only [zeroTok] at r0 r1 r2 r3 r4 r5
      clear hje
      go_wp2
      exact tok_ret (y := ⟨8, 0, 0, 0, k, (j : Int) - k⟩) HE.out rfl rfl (hR.out.put ⟨8, 0, 0, 0, k, (j : Int) - k⟩) Tryd.underlying38 rfl (by kernel_rfl) rfl (below_put b0 (Nat.le_refl _) ⟨8, 0, 0, 0, k, (j : Int) - k⟩)

set_option maxHeartbeats 2000000 in
set_option maxRecDepth 100000 in
theorem impl_tokenAt (s : ByteArray) (k : Nat) (w : World) (hk : k < s.size) (hs : s.size ≤ 1048576) : Calls Tryd.prog 45 #[.string s, .int .i64 k] w (TokDone (nextTok s k) w) := by
  have hR0 := slot0 w
  have b0 := below_one w (.cells #[.int .i64 0, .int .i64 0, .int .i64 0, .int .i64 0, .int .i64 0, .int .i64 0] 38)
  have hb := byteAt_le s k
  have he := byteAt_eq s k hk
  have k0 : (0 : Int) ≤ (k : Int) := by omega
  have k1 : (k : Int) < (s.size : Int) := by omega
  by_cases c1 : byteAt s k = 27
  · have HE : Hid (nextTok s k = escTok s k (s.size - k) (k + 1)) := Lib.hid (by rw [nextTok, if_pos c1])
    have hb2 : (s[k].toNat : Int) = 27 := by omega
    clear he c1 hb
    go_enter Tryd.func45, Tryd.ntmps45
    go_wp2_with fail
    refine (impl_escapeAt s k _ hk hs).mono ?_
    rintro e w3 ⟨rfl, b3⟩
    have hR3 := Lib.hid (hR0.keep b3)
    have b03 : Below w.heap.size w w3 := b0.trans (b3.mono b0.size)
    have ⟨r0, r1, r2, r3, r4, r5⟩ := hR3.out.cells
    have ⟨z0, z1, z2, z3, z4, z5⟩ := hR3.out.thaw
    simp only [zeroTok] at r0 r1 r2 r3 r4 r5
    have hl3 : w.heap.size < w3.heap.size := hR3.out.lt
    generalize escTok s k (s.size - k) (k + 1) = y at *
    clear hR0 b0 b3
    unfold tokV
    go_wp2
    exact tok_ret (y := y) HE.out rfl rfl (hR3.out.put y) Tryd.underlying38 rfl (by kernel_rfl) rfl (below_put b03 (Nat.le_refl _) y)
  · have HE := Lib.hid (nextTok_byte s k c1)
    have e1 : ((s[k].toNat : Int) == 27) = false := by rw [beq_eq_false_iff_ne]; omega
    rw [he] at HE hb
    clear he c1
    go_enter Tryd.func45, Tryd.ntmps45
    go_wp2_with fail
    refine (impl_byteToken (s[k].toNat : Int) _ (by omega) (by omega)).mono ?_
    rintro e w3 ⟨rfl, b3⟩
    have hR3 := Lib.hid (hR0.keep b3)
    have b03 : Below w.heap.size w w3 := b0.trans (b3.mono b0.size)
    have ⟨r0, r1, r2, r3, r4, r5⟩ := hR3.out.cells
    have ⟨z0, z1, z2, z3, z4, z5⟩ := hR3.out.thaw
    simp only [zeroTok] at r0 r1 r2 r3 r4 r5
    have hl3 : w.heap.size < w3.heap.size := hR3.out.lt
    generalize byteTok (s[k].toNat : Int) = y at *
    clear hR0 b0 b3
    unfold tokV
    go_wp2
    have hT := (hR3.out.put ⟨y.k, y.a, y.b, y.c, k, 1⟩)
    exact tok_ret (y := ⟨y.k, y.a, y.b, y.c, k, 1⟩) HE.out rfl rfl (hT.keep (below_one _ _)) Tryd.underlying38 rfl (by kernel_rfl) rfl ((below_put b03 (Nat.le_refl _) ⟨y.k, y.a, y.b, y.c, k, 1⟩).alloc (below_put b03 (Nat.le_refl _) ⟨y.k, y.a, y.b, y.c, k, 1⟩).size _)

end Go.Proofs.YtanceljhdccepaaDoor

namespace Go.Proofs.YtanceljhdccepaaDoor
open Go.RowKit Go.Sort

theorem Own.only {k : IntKind} {e : TypeId} {w w' : World} {B g : Nat} {v : Value} {zs : List Int} (h : Own k e w B v zs) (ho : Only g w w') (hg : g < B) : Own k e w' B v zs := by
  have hlt := fun j hj => World.ownsRow.lt h j hj
  refine ⟨h.1, ?_⟩
  rcases h.2 with h | ⟨j, cap, cur, a, b, c, d⟩
  · exact .inl h
  · exact .inr ⟨j, cap, cur, a, b, by rw [ho.2 j (by omega) (hlt j (by rw [a]; rfl)).2]; exact c, d⟩
theorem StAt.only {w w' : World} {g j : Nat} {x : St} (h : StAt w j x) (ho : Only g w w') (hg : j ≠ g) : StAt w' j x := (ho.2 j hg h.lt).trans h
theorem TokAt.only {w w' : World} {g j : Nat} {t : Tok} (h : TokAt w j t) (ho : Only g w w') (hg : j ≠ g) (hl : j < w.heap.size) : TokAt w' j t := (ho.2 j hg hl).trans h

set_option maxHeartbeats 4000000 in
set_option maxRecDepth 100000 in
theorem impl_RunState (x : St) (s : ByteArray) (w : World) (ht : TabM w) (hw : Wide64 x) (hs : s.size ≤ 9223372036854775807) : Calls Tryd.prog 13 #[stV x, .string s] w (RunDone (rsR x s) w) := by
  have HS0 : Hid (StAt ((w.alloc (.cells #[.int .i64 x.g0, .int .i64 x.g1, .int .i64 x.g2, .int .i64 x.g3, .int .i64 x.l, .int .i64 x.s, .int .i64 x.d] 24)).alloc (.cells #[.int .i64 0, .int .i64 0, .int .i64 0, .int .i64 0, .int .i64 0, .int .i64 0, .int .i64 0] 24)) (w.heap.size + 1) zeroSt) := Lib.hid (heap_alloc2_new _ _ _)
  have B0 := Lib.hid (below_two w (.cells #[.int .i64 x.g0, .int .i64 x.g1, .int .i64 x.g2, .int .i64 x.g3, .int .i64 x.l, .int .i64 x.s, .int .i64 x.d] 24) (.cells #[.int .i64 0, .int .i64 0, .int .i64 0, .int .i64 0, .int .i64 0, .int .i64 0, .int .i64 0] 24))
  have HF := Lib.hid (fun w => impl_machineOf x w)
  have HO := Lib.hid (fun b w h ht => impl_ok x b w h ht hw.1 hw.2)
  have HST := Lib.hid (fun y b w h => impl_state y b w h)
  have HT := Lib.hid ht
  clear ht hw
  unfold StDone stV at HF HST
  unfold stV
  by_cases h1 : 65536 < s.size
  · have HE : Hid (rsR x s = ⟨zeroSt, [], 0, 2⟩) := Lib.hid (by rw [rsR, if_pos h1])
    have h1' : (65536 : Int) < (s.size : Int) := by omega
    go_enter Tryd.func13, Tryd.ntmps13
    go_wp2
    exact st_ret4 (y := zeroSt) (r := .slice none 0 0) (m := .int .i64 0) (c := .int .i64 2) rfl rfl rfl rfl rfl HS0.out Tryd.underlying24 rfl (by kernel_rfl) rfl ⟨.slice none 0 0, by rw [HE.out], by rw [HE.out]; exact Own.nil _ _ _ _, B0.out⟩
  have h1' : (s.size : Int) ≤ 65536 := by omega
  cases ho : stOKB x
  · have HE : Hid (rsR x s = ⟨zeroSt, [], 0, 1⟩) := Lib.hid (by rw [rsR, if_neg h1, if_neg (by rw [ho]; decide)])
    rw [ho] at HO
    go_enter Tryd.func13, Tryd.ntmps13
    go_wp2_with fail
    refine (HF.out _).mono ?_
    generalize (w.alloc (.cells #[.int .i64 x.g0, .int .i64 x.g1, .int .i64 x.g2, .int .i64 x.g3, .int .i64 x.l, .int .i64 x.s, .int .i64 x.d] 24)).alloc (.cells #[.int .i64 0, .int .i64 0, .int .i64 0, .int .i64 0, .int .i64 0, .int .i64 0, .int .i64 0] 24) = W0 at *
    rintro e w1 ⟨rfl, b1⟩
    have B1 := Lib.hid (B0.out.trans (b1.mono B0.out.size))
    have HS1 := Lib.hid ((HS0.out.keep b1).keep (below_one w1 (.cells #[.int .i64 x.g0, .int .i64 x.g1, .int .i64 x.g2, .int .i64 x.g3, .int .i64 x.l, .int .i64 x.s, .int .i64 x.d] 74)))
    have hw1 : w.heap.size + 1 < w1.heap.size := (HS0.out.keep b1).lt
    have B2 := Lib.hid (B1.out.alloc B1.out.size (.cells #[.int .i64 x.g0, .int .i64 x.g1, .int .i64 x.g2, .int .i64 x.g3, .int .i64 x.l, .int .i64 x.s, .int .i64 x.d] 74))
    have HM := Lib.hid (MAt.new w1 x)
    have HT2 := Lib.hid (HT.out.keep B2.out)
    clear b1 HS0 B0 B1
    go_wp2_with fail
    refine (HO.out w1.heap.size _ HM.out HT2.out).mono ?_
    generalize w1.alloc (.cells #[.int .i64 x.g0, .int .i64 x.g1, .int .i64 x.g2, .int .i64 x.g3, .int .i64 x.l, .int .i64 x.s, .int .i64 x.d] 74) = W1 at *
    rintro e W2 ⟨rfl, b2⟩
    have B3 := Lib.hid (B2.out.trans (b2.mono B2.out.size))
    have HS3 := Lib.hid (HS1.out.keep b2)
    have HM3 := Lib.hid (HM.out.keep b2)
    have hb3 : w1.heap.size < W2.heap.size := HM3.out.lt
    clear b2 B2 HM HT2 HS1
    have ⟨r0, r1, r2, r3, r4, r5, r6⟩ := HS3.out.cells
    have ⟨z0, z1, z2, z3, z4, z5, z6⟩ := HS3.out.thaw
    simp only [zeroSt] at r0 r1 r2 r3 r4 r5 r6
    have hl : w.heap.size + 1 < W2.heap.size := HS3.out.lt
    have BB := Lib.hid (below_putSt B3.out (show w.heap.size ≤ w.heap.size + 1 by omega) zeroSt)
    go_wp2
    exact st_ret4 (y := zeroSt) (r := .slice none 0 0) (m := .int .i64 0) (c := .int .i64 1) rfl rfl rfl rfl rfl (HS3.out.put zeroSt) Tryd.underlying24 rfl (by kernel_rfl) rfl ⟨.slice none 0 0, by rw [HE.out], by rw [HE.out]; exact Own.nil _ _ _ _, BB.out⟩
  rw [ho] at HO
  have HX := Lib.hid ho
  have HRS : Hid (rsR x s = runT s s.size 0 x []) := Lib.hid (by rw [rsR, if_neg h1, if_pos ho])
  clear ho h1
  go_enter Tryd.func13, Tryd.ntmps13
  go_wp2_with fail
  refine (HF.out _).mono ?_
  generalize (w.alloc (.cells #[.int .i64 x.g0, .int .i64 x.g1, .int .i64 x.g2, .int .i64 x.g3, .int .i64 x.l, .int .i64 x.s, .int .i64 x.d] 24)).alloc (.cells #[.int .i64 0, .int .i64 0, .int .i64 0, .int .i64 0, .int .i64 0, .int .i64 0, .int .i64 0] 24) = W0 at *
  rintro e w1 ⟨rfl, b1⟩
  have B1 := Lib.hid (B0.out.trans (b1.mono B0.out.size))
  have HS1 := Lib.hid ((HS0.out.keep b1).keep (below_one w1 (.cells #[.int .i64 x.g0, .int .i64 x.g1, .int .i64 x.g2, .int .i64 x.g3, .int .i64 x.l, .int .i64 x.s, .int .i64 x.d] 74)))
  have hw1 : w.heap.size + 1 < w1.heap.size := (HS0.out.keep b1).lt
  have B2 := Lib.hid (B1.out.alloc B1.out.size (.cells #[.int .i64 x.g0, .int .i64 x.g1, .int .i64 x.g2, .int .i64 x.g3, .int .i64 x.l, .int .i64 x.s, .int .i64 x.d] 74))
  have HM := Lib.hid (MAt.new w1 x)
  have HT2 := Lib.hid (HT.out.keep B2.out)
  clear b1 HS0 B0 B1
  go_wp2_with fail
  refine (HO.out w1.heap.size _ HM.out HT2.out).mono ?_
  generalize w1.alloc (.cells #[.int .i64 x.g0, .int .i64 x.g1, .int .i64 x.g2, .int .i64 x.g3, .int .i64 x.l, .int .i64 x.s, .int .i64 x.d] 74) = W1 at *
  rintro e W2 ⟨rfl, b2⟩
  have B3 := Lib.hid (B2.out.trans (b2.mono B2.out.size))
  have HS3 := Lib.hid (HS1.out.keep b2)
  have HM3 := Lib.hid (HM.out.keep b2)
  have hb3 : w1.heap.size < W2.heap.size := HM3.out.lt
  clear b2 B2 HM HT2 HS1
  go_wp2
  go_loopw [9, 10] (fun v i wr => ∃ (k f : Nat) (xs : St) (zs : List Int), k ≤ s.size ∧ i = .int .i64 k ∧ Hid (s.size ≤ k + f) ∧ zs.length ≤ k ∧ Hid (rsR x s = runT s f k xs zs) ∧ Hid (stOKB xs = true) ∧ Hid (Own .i64 3 wr W2.heap.size v zs) ∧ Hid (MAt wr w1.heap.size xs) ∧ Hid (StAt wr (w.heap.size + 1) zeroSt) ∧ Hid (Below w.heap.size w wr) ∧ W2.heap.size ≤ wr.heap.size) (fun _ i _ => s.size - (intOf i).toNat)
  case atStart => exact ⟨0, s.size, x, [], by omega, rfl, Lib.hid (by omega), by simp, HRS, HX, Lib.hid (Own.nil _ _ _ _), HM3, HS3, B3, Nat.le_refl _⟩
  case round =>
    obtain ⟨k, f, xs, zs, hk, rfl, HF2, hzs, HR, HX, HOw, HMr, HSr, BW, hwr⟩ := hrel
    obtain ⟨a0, c0, hform, _⟩ := HOw.out.shape
    subst hform
    by_cases hlt : k < s.size
    · obtain ⟨f, rfl⟩ : ∃ q, f = q + 1 := ⟨f - 1, by have := HF2.out; omega⟩
      have v2 : (k : Int) < (s.size : Int) := by omega
      have HU : Hid (runT s (f + 1) k xs zs = if (stepT xs (nextTok s k)).c = 0 then runT s f (k + (nextTok s k).n.toNat) (stepT xs (nextTok s k)).y (addR zs (stepT xs (nextTok s k)).r) else ⟨xs, zs, k, (stepT xs (nextTok s k)).c⟩) := Lib.hid (by rw [runT, if_pos hlt])
      have n1 := (nextTok_in s k hlt).2.1
      have n2 := (nextTok_in s k hlt).2.2
      have HN := Lib.hid (fun w => impl_tokenAt s k w hlt (by omega))
      have hok := nextTok_ok s k hlt (by omega)
      have HG := Lib.hid (fun g w h ht => impl_step xs (nextTok s k) g w h ht HX.out hok)
      have HC := Lib.hid (fun h => stepT_code (x := xs) (t := nextTok s k) h)
      have hr := stepT_r (x := xs) hok
      have HX2 := Lib.hid (stepT_ok HX.out hok)
      clear hok
      unfold TokDone tokV at HN
      unfold MvDone mvV tokV at HG
      generalize nextTok s k = y at *
      generalize stepT xs y = p at *
      have HTR : Hid (0 ≤ p.r → toldR p = p.r ∧ toldB p = true) := Lib.hid (fun h => ⟨by rw [toldR, if_pos h], by rw [toldB, decide_eq_true h]⟩)
      have HTN : Hid (p.r = -1 → toldB p = false) := Lib.hid (fun h => by rw [toldB, h]; rfl)
      generalize toldR p = tr at *
      generalize toldB p = tb at *
      have u1 : IntKind.i64.wrap ((k : Int) + y.n) = (k : Int) + y.n := IntWalk.i64_in _ (by omega)
      have HN2 : Hid (∃ m : Nat, y.n = (m : Int) ∧ 1 ≤ m ∧ k + m ≤ s.size) := Lib.hid ⟨y.n.toNat, by omega, by omega, by omega⟩
      go_wp2_with fail
      refine (HN.out _).mono ?_
      rintro e w4 ⟨rfl, b4⟩
      have B4 := Lib.hid (BW.out.trans (b4.mono BW.out.size))
      have L4 := Lib.hid (fun g hg => World.ownsRow.lt (HOw.out.all b4) g hg)
      have O4 := Lib.hid ((HOw.out.all b4).all (below_one w4 (.cells #[.int .i64 y.k, .int .i64 y.a, .int .i64 y.b, .int .i64 y.c, .int .i64 y.p, .int .i64 y.n] 38)))
      have HM4 := Lib.hid ((HMr.out.keep b4).keep (below_one w4 (.cells #[.int .i64 y.k, .int .i64 y.a, .int .i64 y.b, .int .i64 y.c, .int .i64 y.p, .int .i64 y.n] 38)))
      have HS4 := Lib.hid ((HSr.out.keep b4).keep (below_one w4 (.cells #[.int .i64 y.k, .int .i64 y.a, .int .i64 y.b, .int .i64 y.c, .int .i64 y.p, .int .i64 y.n] 38)))
      have HK4 := Lib.hid (TokAt.new w4 y)
      have B4b := Lib.hid (B4.out.alloc B4.out.size (.cells #[.int .i64 y.k, .int .i64 y.a, .int .i64 y.b, .int .i64 y.c, .int .i64 y.p, .int .i64 y.n] 38))
      have hw4 : W2.heap.size ≤ w4.heap.size := by have := b4.size; omega
      have HT4 := Lib.hid (HT.out.keep B4b.out)
      have hsz4 : w4.heap.size < (w4.alloc (.cells #[.int .i64 y.k, .int .i64 y.a, .int .i64 y.b, .int .i64 y.c, .int .i64 y.p, .int .i64 y.n] 38)).heap.size := by simp
      clear b4 HOw HMr HSr BW B4 HN
      have ⟨t0, t1, t2, t3, t4, t5⟩ := HK4.out.cells
      go_wp2_with fail
      refine (HG.out w1.heap.size _ HM4.out HT4.out).mono ?_
      clear t0 t1 t2 t3 t4 t5
      generalize w4.alloc (.cells #[.int .i64 y.k, .int .i64 y.a, .int .i64 y.b, .int .i64 y.c, .int .i64 y.p, .int .i64 y.n] 38) = W4 at *
      rintro e w5 ⟨rfl, m5, o5⟩
      have HM5 := Lib.hid m5
      have B5 := Lib.hid (B4b.out.trans (o5.1.mono (by omega)))
      have O5 := Lib.hid (O4.out.only o5 hb3)
      have HS5 := Lib.hid (HS4.out.only o5 (by omega))
      have HK5 := Lib.hid (HK4.out.only o5 (by omega) hsz4)
      have hsz5 : w4.heap.size < w5.heap.size := (Array.getElem?_eq_some_iff.1 HK5.out).1
      clear m5 o5 O4 HM4 HS4 HK4 B4b HT4 hsz4
      by_cases hc : p.c = 0
      · have ec : (p.c != 0) = false := by simpa using hc
        obtain ⟨m, hm, m1, m2⟩ := HN2.out
        have HMM := Lib.hid hm
        have e5 : (k : Int) + y.n = ((k + m : Nat) : Int) := by omega
        clear hm
        rcases hr with hr | hr
        · have HA : Hid (addR zs p.r = zs) := Lib.hid (addR_none hr)
          have htb := HTN.out hr
          subst htb
          have ⟨_, _, _, _, _, t5⟩ := HK5.out.cells
          go_wp2
          go_roundw
          case rel => exact ⟨k + m, f, p.y, zs, m2, by simp, Lib.hid (by have := HF2.out; omega), by omega, Lib.hid (by rw [HR.out, HU.out, if_pos hc, HA.out, HMM.out]; simp), HX2, O5, HM5, HS5, B5, by omega⟩
          case measure => simp [intOf]; omega
        · have ⟨e1, e2⟩ := HTR.out hr
          subst e2
          have HA : Hid (addR zs p.r = zs ++ [tr]) := Lib.hid (by rw [addR_some hr, e1])
          clear e1
          have O6 := Lib.hid (O5.out.alloc (.cells #[.int .i64 tr] 3))
          have HNW := Lib.hid (World.news_of_block (show (w5.alloc (.cells #[.int .i64 tr] 3)).heap[w5.heap.size]? = some (.cells ([tr].map (Value.int .i64)).toArray 3) from heap_alloc_new _ _))
          have hB6 : W2.heap.size ≤ (w5.alloc (.cells #[.int .i64 tr] 3)).heap.size := by simp; omega
          go_wp2_with (at_builtin; refine app_i64 _ rfl _ _ rfl W2.heap.size _ zs rfl O6.out ⟨w5.heap.size, 0, none⟩ 1 1 [tr] rfl rfl (by decide) HNW.out (by omega) hB6 ?_)
          intro g cap2 w7 o7 g7 lt7
          have hx7 : TokAt w7 w4.heap.size y := (g7.block _ (by simp; omega) (fun h => by have := (L4.out _ h.symm).2; omega)).trans (HK5.out.keep (below_one _ (.cells #[.int .i64 tr] 3)))
          have HM7 := Lib.hid ((g7.block w1.heap.size (by simp; omega) (fun h => by have := (L4.out _ h.symm).1; omega)).trans (HM5.out.keep (below_one _ (.cells #[.int .i64 tr] 3))))
          have HS7 := Lib.hid ((g7.block (w.heap.size + 1) (by simp; omega) (fun h => by have := (L4.out _ h.symm).1; omega)).trans (HS5.out.alloc (.cells #[.int .i64 tr] 3)))
          have B7 := Lib.hid ((B5.out.alloc B5.out.size (.cells #[.int .i64 tr] 3)).grown g7 (by simp; omega) (fun j hj => by have := (L4.out j hj).1; omega))
          have hs7 : W2.heap.size ≤ w7.heap.size := by have := (Array.getElem?_eq_some_iff.1 hx7).1; omega
          have O7 := Lib.hid o7
          clear o7 g7
          have ⟨_, _, _, _, _, t5⟩ := hx7.cells
          clear hx7
          go_wp2
          go_roundw
          case rel => exact ⟨k + m, f, p.y, zs ++ [tr], m2, by simp, Lib.hid (by have := HF2.out; omega), by simp; omega, Lib.hid (by rw [HR.out, HU.out, if_pos hc, HA.out, HMM.out]; simp), HX2, O7, HM7, HS7, B7, hs7⟩
          case measure => simp [intOf]; omega
      · have ec : (p.c != 0) = true := by simpa using hc
        have HE : Hid (rsR x s = ⟨xs, zs, k, p.c⟩) := Lib.hid (by rw [HR.out, HU.out, if_neg hc])
        have hy : p.y = xs := (HC.out hc).1
        rw [hy] at HM5
        clear hy
        go_wp2_with fail
        refine (HST.out xs w1.heap.size _ HM5.out).mono ?_
        rintro e w9 ⟨rfl, b9⟩
        have B9 := Lib.hid (B5.out.trans (b9.mono B5.out.size))
        have HS9 := Lib.hid (HS5.out.keep b9)
        have O9 := Lib.hid (O5.out.all b9)
        have ⟨r0, r1, r2, r3, r4, r5, r6⟩ := HS9.out.cells
        have ⟨z0, z1, z2, z3, z4, z5, z6⟩ := HS9.out.thaw
        simp only [zeroSt] at r0 r1 r2 r3 r4 r5 r6
        have hl : w.heap.size + 1 < w9.heap.size := HS9.out.lt
        have BB := Lib.hid (below_putSt B9.out (show w.heap.size ≤ w.heap.size + 1 by omega) xs)
        have OE := Lib.hid ((O9.out.putSt (show w.heap.size + 1 < W2.heap.size by omega) xs).low B3.out.size)
        clear b9
        go_wp2
        exact st_ret4 (y := xs) (r := .slice a0 zs.length c0) (m := .int .i64 k) (c := .int .i64 p.c) rfl rfl rfl rfl rfl (HS9.out.put xs) Tryd.underlying24 rfl (by kernel_rfl) rfl ⟨.slice a0 zs.length c0, by rw [HE.out], by rw [HE.out]; exact OE.out, BB.out⟩
    · have v2 : ¬ (k : Int) < (s.size : Int) := by omega
      have HE : Hid (rsR x s = ⟨xs, zs, s.size, 0⟩) := Lib.hid (by
        rw [HR.out]
        cases f with
        | zero => rfl
        | succ f => rw [runT, if_neg hlt])
      go_wp2_with fail
      refine (HST.out xs w1.heap.size _ HMr.out).mono ?_
      rintro e w9 ⟨rfl, b9⟩
      have B9 := Lib.hid (BW.out.trans (b9.mono BW.out.size))
      have HS9 := Lib.hid (HSr.out.keep b9)
      have O9 := Lib.hid (HOw.out.all b9)
      have ⟨r0, r1, r2, r3, r4, r5, r6⟩ := HS9.out.cells
      have ⟨z0, z1, z2, z3, z4, z5, z6⟩ := HS9.out.thaw
      simp only [zeroSt] at r0 r1 r2 r3 r4 r5 r6
      have hl : w.heap.size + 1 < w9.heap.size := HS9.out.lt
      have BB := Lib.hid (below_putSt B9.out (show w.heap.size ≤ w.heap.size + 1 by omega) xs)
      have OE := Lib.hid ((O9.out.putSt (show w.heap.size + 1 < W2.heap.size by omega) xs).low B3.out.size)
      clear b9
      go_wp2
      exact st_ret4 (y := xs) (r := .slice a0 zs.length c0) (m := .int .i64 s.size) (c := .int .i64 0) rfl rfl rfl rfl rfl (HS9.out.put xs) Tryd.underlying24 rfl (by kernel_rfl) rfl ⟨.slice a0 zs.length c0, by rw [HE.out], by rw [HE.out]; exact OE.out, BB.out⟩

end Go.Proofs.YtanceljhdccepaaDoor

namespace Go.Proofs.YtanceljhdccepaaDoor
open Go.ChangeShapes Go.WideShapes Go.ChangeAt Go.RowKit

theorem gReg : Tryd.prog.globalNamed "loop.example/g00748/impl.registry" = some 0 := by kernel_rfl
theorem tReg : (Tryd.prog.globals[0]?).map (·.type) = some 89 := by kernel_rfl
def spD {H : Type} (s : Sp) : DataW H := .agg [.lit (.int .i64 s.1), .lit (.int .i64 s.2.1), .lit (.int .i64 s.2.2)]
def setD {H : Type} (k : Nat) : DataW H := .agg [.lit (.string (setName k).data.toList), .lit (.int .i64 (setKind k)), .lit (.int .i64 (setFinal k)), .slice ((setSpans k).map spD) []]
def regD {H : Type} : List (DataW H) := .agg [.lit (.string []), .lit (.int .i64 0), .lit (.int .i64 0), .nil] :: [setD 1, setD 2, setD 3, setD 4, setD 5, setD 6, setD 7, setD 8]
theorem laid_reg {H : Type} : (Rows.laid_loop_example_g00748_impl_registry : DataW H) = .agg regD := by kernel_rfl
theorem regD_at {H : Type} (k : Nat) (h1 : 1 ≤ k) (h8 : k ≤ 8) : (regD (H := H))[k]? = some (setD k) := by
  have : k = 1 ∨ k = 2 ∨ k = 3 ∨ k = 4 ∨ k = 5 ∨ k = 6 ∨ k = 7 ∨ k = 8 := by omega
  rcases this with rfl | rfl | rfl | rfl | rfl | rfl | rfl | rfl <;> rfl

theorem one_of_take {cs : List Value} {i : Nat} {c : Value} (h : (cs.drop i).take 1 = [c]) : cs[i]? = some c := by
  have := congrArg (fun l => l[0]?) h
  simpa [List.getElem?_take, List.getElem?_drop] using this

set_option maxRecDepth 100000 in
/-- A slice of spans, read. -/
theorem spans_of {H : Type} {enc : TypeId × Value → H} {W : World} {held : Bool} {fuel : Nat} {c : Value} {sp : List Sp} {p : List MemPlace} (hne : sp ≠ [])
    (h : DataW.trod enc Tryd.prog W 0 (fun _ => true) held fuel 46 [c] = some (.slice (sp.map spD) [], p)) : SpAt W c sp := by
  rcases Deep.open_slice Tryd.underlying46 h with ⟨_, hx⟩ | ⟨a, len, cap, m, n, D, Pl, hcs, _, hl, _, hm, hx, hel⟩
  · simp at hx
  · simp only [if_true] at hm
    have e1 := congrArg Prod.fst hx
    simp only [DataW.slice.injEq] at e1
    obtain ⟨e2, e3⟩ := e1
    have hlen : len = sp.length := by simpa using (congrArg List.length e2).symm
    subst hlen
    have c3 : Tryd.prog.cellsOf 52 = 3 := by kernel_rfl
    rw [c3] at hel
    have key : ∀ i (hi : i < sp.length), W.cell? (a.add (i * 3)) = some (.int .i64 (sp[i]).1) ∧ W.cell? ((a.add (i * 3)).add 1) = some (.int .i64 (sp[i]).2.1) ∧ W.cell? ((a.add (i * 3)).add 2) = some (.int .i64 (sp[i]).2.2) := by
      intro i hi
      obtain ⟨cs', h1, h2⟩ := hel i (by omega)
      obtain ⟨_, hlen3, hc⟩ := World.cells?_some h1
      have hD : D i = spD (sp[i]) := by
        have := congrArg (fun l => l[i]?) e2
        simp only [List.getElem?_map, List.getElem?_eq_getElem hi, Option.map_some, List.getElem?_range hi, Option.some.injEq] at this
        exact this.symm
      obtain ⟨y0, y1, y2, q, hy, _, t0, t1, t2⟩ := Deep.trod_struct3 Tryd.underlying52 h2
      have c1 : Tryd.prog.cellsOf 3 = 1 := by kernel_rfl
      obtain ⟨n0, f0, rfl, _⟩ := DataW.trod_int Tryd.underlying3 t0
      obtain ⟨n1, f1, rfl, _⟩ := DataW.trod_int Tryd.underlying3 t1
      obtain ⟨n2, f2, rfl, _⟩ := DataW.trod_int Tryd.underlying3 t2
      have hy1 := congrArg Prod.fst hy
      rw [hD] at hy1
      simp only [spD, DataW.agg.injEq, List.cons.injEq, DataW.lit.injEq, Lit.int.injEq, true_and, and_true] at hy1
      obtain ⟨g0, g1, g2⟩ := hy1
      have k0 := one_of_take (c := .int .i64 n0) (i := 0) (by rw [← c1]; exact f0)
      have k1 := one_of_take (c := .int .i64 n1) (i := 1) (by rw [← c1]; exact f1)
      have k2 := one_of_take (c := .int .i64 n2) (i := 2) (by rw [← c1]; exact f2)
      refine ⟨?_, ?_, ?_⟩
      · have := hc 0 (by omega)
        rw [k0, ← g0] at this
        simpa [Addr.add] using this
      · rw [hc 1 (by omega), k1, ← g1]
      · rw [hc 2 (by omega), k2, ← g2]
    simp only [List.cons.injEq, and_true] at hcs
    subst hcs
    have hpos : 0 < sp.length := List.length_pos_iff.2 hne
    obtain ⟨b, off, spot⟩ := a
    have hspot : spot = none := by
      have := World.cell?_spot (key 0 hpos).1
      simpa [Addr.add] using this
    subst hspot
    refine .inr ⟨b, off, cap, rfl, fun i hi => ?_⟩
    have ⟨h1, h2, h3⟩ := key i hi
    rw [add_off, add_off] at h2 h3
    rw [add_off] at h1
    exact ⟨h1, h2, h3⟩

set_option maxRecDepth 100000 in
theorem sets_of_laid {W : World} (h : laidMetH Tryd.prog [("loop.example/g00748/impl.registry", Rows.laid_loop_example_g00748_impl_registry)] W) : TabSets W := by
  rw [MakeChecks.laidMetH_plain _ _ _ (by kernel_rfl)] at h
  obtain ⟨ps, ⟨g0, t0, cs0, f0, p0, q0, hg0, ht0, hv0, hd0, _, _⟩, _, _⟩ := h
  obtain rfl := Option.some.inj (gReg.symm.trans hg0)
  obtain rfl := Option.some.inj (tReg.symm.trans ht0)
  rw [laid_reg] at hd0
  obtain ⟨xs, m, rfl, hx, _, hlen, hel⟩ := DataW.trod_array Tryd.underlying89 hd0
  have hx1 : regD = xs.map (·.1) := by simpa using congrArg Prod.fst hx
  have c4 : Tryd.prog.cellsOf 48 = 4 := by kernel_rfl
  have c1 : Tryd.prog.cellsOf 3 = 1 := by kernel_rfl
  have c1s : Tryd.prog.cellsOf 9 = 1 := by kernel_rfl
  have c1l : Tryd.prog.cellsOf 46 = 1 := by kernel_rfl
  rw [c4] at hel
  intro k h1 h8
  have hk : k < xs.length := by omega
  have e1 := hel k (by omega)
  rw [List.getElem?_eq_getElem hk] at e1
  have e2 : (xs[k]).1 = setD k := by
    have e3 := regD_at (H := Unit) k h1 h8
    rw [hx1, List.getElem?_map, List.getElem?_eq_getElem hk] at e3
    simpa using e3
  obtain ⟨y0, y1, y2, y3, n, hy, _, t0, t1, t2, t3⟩ := Joins.trod_struct4 Tryd.underlying48 e1
  obtain ⟨s0, f0, rfl, _⟩ := DataW.trod_string Tryd.underlying9 t0
  obtain ⟨n1, f1, rfl, _⟩ := DataW.trod_int Tryd.underlying3 t1
  obtain ⟨n2, f2, rfl, _⟩ := DataW.trod_int Tryd.underlying3 t2
  have hy1 := congrArg Prod.fst hy
  rw [e2] at hy1
  simp only [setD, DataW.agg.injEq, List.cons.injEq, DataW.lit.injEq, Lit.int.injEq, Lit.string.injEq, true_and, and_true] at hy1
  obtain ⟨g0, g1, g2, g3⟩ := hy1
  have hs0 : setName (k : Int) = s0 := ByteArray.ext (Array.toList_inj.1 g0)
  have cell : ∀ j, W.cell? ⟨0, j, none⟩ = cs0[j]? := fun j => by simpa using World.var?_cell gReg hv0 j
  have el : ∀ (j : Nat) (c : Value), j < 4 → ((((cs0.toList.drop (k * 4)).take 4).drop j).take 1) = [c] → W.cell? ⟨0, k * 4 + j, none⟩ = some c := by
    intro j c hj h
    have h2 := one_of_take h
    rw [List.getElem?_take_of_lt hj, List.getElem?_drop, Array.getElem?_toList] at h2
    rw [cell, h2]
  have l3 : ∃ c, ((((cs0.toList.drop (k * 4)).take 4).drop 3).take 1) = [c] := by
    rw [c1l] at t3
    rcases Deep.open_slice Tryd.underlying46 t3 with ⟨h, _⟩ | ⟨a, len, cap, _, _, _, _, h, _⟩
    · exact ⟨_, h⟩
    · exact ⟨_, h⟩
  obtain ⟨c, hc⟩ := l3
  refine ⟨?_, ?_, ?_, c, el 3 c (by decide) hc, ?_⟩
  · rw [hs0]
    exact el 0 _ (by decide) (by rw [← c1s]; exact f0)
  · rw [g1]
    exact el 1 _ (by decide) (by rw [← c1]; exact f1)
  · rw [g2]
    exact el 2 _ (by decide) (by rw [← c1]; exact f2)
  · have t4 : DataW.trod (fun _ : TypeId × Value => ()) Tryd.prog W 0 (fun _ => true) false n 46 [c] = some y3 := by
      rw [← hc, ← c1l]; exact t3
    obtain ⟨y3a, y3b⟩ := y3
    simp only at g3
    rw [← g3] at t4
    exact spans_of (by have := (set_few (k : Int)).1; intro h; rw [h] at this; simp at this) t4

theorem sets_readable : ∀ n ∈ ["loop.example/g00748/impl.registry"], ∀ g t, Tryd.prog.globalNamed n = some g → (Tryd.prog.globals[g]?).map (·.type) = some t → Tryd.prog.readableRec t = true ∧ t < Tryd.prog.types.size := by
  intro n hn g t hg ht
  obtain rfl : n = _ := List.mem_singleton.1 hn
  obtain rfl := Option.some.inj (gReg.symm.trans hg)
  obtain rfl := Option.some.inj (tReg.symm.trans ht)
  exact ⟨by kernel_rfl, of_decide_eq_true (by kernel_rfl)⟩

end Go.Proofs.YtanceljhdccepaaDoor

namespace Go.Proofs.YtanceljhdccepaaDoor
open Go.ChangeShapes Go.WideShapes Go.ChangeAt Go.RowKit

set_option maxRecDepth 100000 in
theorem tabM_of_laid {W : World} (h : laidMetH Tryd.prog [("loop.example/g00748/impl.registry", Rows.laid_loop_example_g00748_impl_registry)] W) : TabM W := by
  refine ⟨sets_of_laid h, ?_⟩
  rw [MakeChecks.laidMetH_plain _ _ _ (by kernel_rfl)] at h
  obtain ⟨ps, ⟨g0, t0, cs0, f0, p0, q0, hg0, ht0, hv0, hd0, _, _⟩, _, _⟩ := h
  obtain rfl := Option.some.inj (gReg.symm.trans hg0)
  obtain rfl := Option.some.inj (tReg.symm.trans ht0)
  rw [laid_reg] at hd0
  obtain ⟨xs, m, rfl, hx, _, hlen, hel⟩ := DataW.trod_array Tryd.underlying89 hd0
  have hx1 : regD = xs.map (·.1) := by simpa using congrArg Prod.fst hx
  have c4 : Tryd.prog.cellsOf 48 = 4 := by kernel_rfl
  have c1 : Tryd.prog.cellsOf 3 = 1 := by kernel_rfl
  rw [c4] at hel
  have hk : 0 < xs.length := by omega
  have e1 := hel 0 (by omega)
  rw [List.getElem?_eq_getElem hk] at e1
  have e2 : (xs[0]).1 = .agg [.lit (.string []), .lit (.int .i64 0), .lit (.int .i64 0), .nil] := by
    have e3 : (regD (H := Unit))[0]? = some (.agg [.lit (.string []), .lit (.int .i64 0), .lit (.int .i64 0), .nil]) := rfl
    rw [hx1, List.getElem?_map, List.getElem?_eq_getElem hk] at e3
    simpa using e3
  obtain ⟨y0, y1, y2, y3, n, hy, _, t0, t1, t2, t3⟩ := Joins.trod_struct4 Tryd.underlying48 e1
  obtain ⟨n1, f1, rfl, _⟩ := DataW.trod_int Tryd.underlying3 t1
  have hy1 := congrArg Prod.fst hy
  rw [e2] at hy1
  simp only [DataW.agg.injEq, List.cons.injEq, DataW.lit.injEq, Lit.int.injEq, true_and, and_true] at hy1
  obtain ⟨_, g1, _⟩ := hy1
  have cell : ∀ j, W.cell? ⟨0, j, none⟩ = cs0[j]? := fun j => by simpa using World.var?_cell gReg hv0 j
  have h2 := one_of_take (by rw [← c1]; exact f1)
  rw [List.getElem?_take_of_lt (by decide), List.getElem?_drop, Array.getElem?_toList] at h2
  rw [cell]
  rw [← g1] at h2
  simpa using h2

end Go.Proofs.YtanceljhdccepaaDoor

namespace Go.Proofs.YtanceljhdccepaaDoor

def shiftB (g : Nat) : ByteArray := if g = 0 then ⟨#[15]⟩ else if g = 1 then ⟨#[14]⟩ else if g = 2 then ⟨#[27, 110]⟩ else ⟨#[27, 111]⟩
def codeB (c : Nat) : ByteArray := if 255 < c then ⟨#[(c / 256).toUInt8, (c % 256).toUInt8]⟩ else ⟨#[c.toUInt8]⟩
def namedT (n g c : Nat) : ByteArray := escB g (setKind n) (setFinal n) ++ shiftB g ++ codeB c
def namedOK (n g c : Nat) : Bool :=
  let r := rsR startSt (namedT n g c)
  decide (r.c = 0) && (decide (r.z = [runeS (setSpans n) c]) && (decide (stGet r.y g = n) && (stOKB r.y && (decide (0 ≤ runeS (setSpans n) c) && (codeOKB n c && decide (c < 65536))))))
def okSpan (n g : Nat) (sp : Sp) : Bool := (List.range sp.2.2.toNat).all fun i => decide (sp.1.toNat + i = 127) || namedOK n g (sp.1.toNat + i)
def okSet (n g : Nat) : Bool := decide (eoC g n ≠ 0) || (setSpans n).all (okSpan n g)

theorem nm10 : okSet 1 0 = true := by decide +kernel
theorem nm11 : okSet 1 1 = true := by decide +kernel
theorem nm12 : okSet 1 2 = true := by decide +kernel
theorem nm13 : okSet 1 3 = true := by decide +kernel
theorem nm20 : okSet 2 0 = true := by decide +kernel
theorem nm21 : okSet 2 1 = true := by decide +kernel
theorem nm22 : okSet 2 2 = true := by decide +kernel
theorem nm23 : okSet 2 3 = true := by decide +kernel
theorem nm30 : okSet 3 0 = true := by decide +kernel
theorem nm31 : okSet 3 1 = true := by decide +kernel
theorem nm32 : okSet 3 2 = true := by decide +kernel
theorem nm33 : okSet 3 3 = true := by decide +kernel
theorem nm40 : okSet 4 0 = true := by decide +kernel
theorem nm41 : okSet 4 1 = true := by decide +kernel
theorem nm42 : okSet 4 2 = true := by decide +kernel
theorem nm43 : okSet 4 3 = true := by decide +kernel
theorem nm50 : okSet 5 0 = true := by decide +kernel
theorem nm51 : okSet 5 1 = true := by decide +kernel
theorem nm52 : okSet 5 2 = true := by decide +kernel
theorem nm53 : okSet 5 3 = true := by decide +kernel
theorem nm60 : okSet 6 0 = true := by decide +kernel
theorem nm61 : okSet 6 1 = true := by decide +kernel
theorem nm62 : okSet 6 2 = true := by decide +kernel
theorem nm63 : okSet 6 3 = true := by decide +kernel
theorem nm70 : okSet 7 0 = true := by decide +kernel
theorem nm71 : okSet 7 1 = true := by decide +kernel
theorem nm72 : okSet 7 2 = true := by decide +kernel
theorem nm73 : okSet 7 3 = true := by decide +kernel
theorem nm80 : okSet 8 0 = true := by decide +kernel
theorem nm81 : okSet 8 1 = true := by decide +kernel
theorem nm82 : okSet 8 2 = true := by decide +kernel
theorem nm83 : okSet 8 3 = true := by decide +kernel
theorem nm_all (n g : Nat) (h1 : 1 ≤ n) (h8 : n ≤ 8) (hg : g < 4) : okSet n g = true := by
  have a : n = 1 ∨ n = 2 ∨ n = 3 ∨ n = 4 ∨ n = 5 ∨ n = 6 ∨ n = 7 ∨ n = 8 := by omega
  have b : g = 0 ∨ g = 1 ∨ g = 2 ∨ g = 3 := by omega
  rcases a with rfl | rfl | rfl | rfl | rfl | rfl | rfl | rfl
  · rcases b with rfl | rfl | rfl | rfl
    · exact nm10
    · exact nm11
    · exact nm12
    · exact nm13
  · rcases b with rfl | rfl | rfl | rfl
    · exact nm20
    · exact nm21
    · exact nm22
    · exact nm23
  · rcases b with rfl | rfl | rfl | rfl
    · exact nm30
    · exact nm31
    · exact nm32
    · exact nm33
  · rcases b with rfl | rfl | rfl | rfl
    · exact nm40
    · exact nm41
    · exact nm42
    · exact nm43
  · rcases b with rfl | rfl | rfl | rfl
    · exact nm50
    · exact nm51
    · exact nm52
    · exact nm53
  · rcases b with rfl | rfl | rfl | rfl
    · exact nm60
    · exact nm61
    · exact nm62
    · exact nm63
  · rcases b with rfl | rfl | rfl | rfl
    · exact nm70
    · exact nm71
    · exact nm72
    · exact nm73
  · rcases b with rfl | rfl | rfl | rfl
    · exact nm80
    · exact nm81
    · exact nm82
    · exact nm83
theorem nm_at (n g : Nat) (h1 : 1 ≤ n) (h8 : n ≤ 8) (hg : g < 4) (he : eoC g n = 0) (sp : Sp) (hs : sp ∈ setSpans n) (j : Nat) (hj : (j : Int) < sp.2.2) (hc : sp.1.toNat + j ≠ 127) : namedOK n g (sp.1.toNat + j) = true := by
  have h3 := nm_all n g h1 h8 hg
  unfold okSet at h3
  rw [Bool.or_eq_true, decide_eq_true_eq] at h3
  rcases h3 with h3 | h3
  · exact absurd he h3
  rw [List.all_eq_true] at h3
  have h4 := h3 sp hs
  unfold okSpan at h4
  rw [List.all_eq_true] at h4
  have h5 := h4 j (by simp; omega)
  rw [Bool.or_eq_true, decide_eq_true_eq] at h5
  rcases h5 with h5 | h5
  · exact absurd h5 hc
  · exact h5
theorem nm_parts {n g c : Nat} (h : namedOK n g c = true) : (rsR startSt (namedT n g c)).c = 0 ∧ (rsR startSt (namedT n g c)).z = [runeS (setSpans n) c] ∧ stGet (rsR startSt (namedT n g c)).y g = n ∧ stOKB (rsR startSt (namedT n g c)).y = true ∧ 0 ≤ runeS (setSpans n) c ∧ codeOKB n c = true ∧ c < 65536 := by
  unfold namedOK at h
  simp only [Bool.and_eq_true, decide_eq_true_eq] at h
  exact h

end Go.Proofs.YtanceljhdccepaaDoor

namespace Go.Proofs.YtanceljhdccepaaDoor.fnNamed
open Go.RowKit

/-- A span of a set, in a block of its own. -/
def SpanR (sp : List Sp) (W : World) (v9 : Value) (wx : World) : Prop := ∃ (k : Nat) (hk : k < sp.length) (g : Nat), v9 = .pointer (some ⟨g, 0, none⟩) ∧ wx.heap[g]? = some (.cells #[.int .i64 (sp[k]).1, .int .i64 (sp[k]).2.1, .int .i64 (sp[k]).2.2] 52) ∧ Below W.heap.size W wx
theorem SpAt.at {w : World} {g off c : Nat} {sp : List Sp} (h : SpAt w (.slice (some ⟨g, off, none⟩) sp.length c) sp) (i : Nat) (hi : i < sp.length) :
    w.cell? ⟨g, off + i * 3, none⟩ = some (.int .i64 (sp[i]).1) ∧ w.cell? ⟨g, off + i * 3 + 1, none⟩ = some (.int .i64 (sp[i]).2.1) ∧ w.cell? ⟨g, off + i * 3 + 2, none⟩ = some (.int .i64 (sp[i]).2.2) := by
  rcases h with ⟨h0, _⟩ | ⟨g', off', c', hv, hc⟩
  · subst h0; simp at hi
  · simp only [Value.slice.injEq, Option.some.injEq, Addr.mk.injEq, and_true] at hv
    obtain ⟨⟨rfl, rfl⟩, _, _⟩ := hv
    exact hc i hi

theorem span_pos (n : Int) : ∀ s ∈ setSpans n, 1 ≤ s.2.2 := by
  unfold setSpans
  repeat' split
  all_goals (intro s hs; simp only [List.mem_cons, List.not_mem_nil, or_false] at hs; rcases hs with rfl | rfl | rfl | rfl <;> simp)

theorem codeB_pair {c : Nat} (h : 255 < (c : Int)) : bs [(c : Int) / 256, (c : Int) % 256] = codeB c := by
  unfold codeB bs
  rw [if_pos (by omega)]
  have h1 : ((c : Int) / 256).toNat = c / 256 := by omega
  have h2 : ((c : Int) % 256).toNat = c % 256 := by omega
  simp only [List.map_cons, List.map_nil, h1, h2]
theorem codeB_one {c : Nat} (h : ¬ 255 < (c : Int)) : bs [(c : Int)] = codeB c := by
  unfold codeB bs
  rw [if_neg (by omega)]
  have h2 : (c : Int).toNat = c := by omega
  simp only [List.map_cons, List.map_nil, h2]
theorem codeB_small (c : Nat) : (codeB c).size ≤ 2 := by
  unfold codeB
  split
  · exact Nat.le_refl 2
  · exact (by decide : 1 ≤ 2)
theorem escB_small : ([1, 2, 3, 4, 5, 6, 7, 8] : List Nat).all (fun n => ([0, 1, 2, 3] : List Nat).all fun g => decide ((escB g (setKind n) (setFinal n)).size ≤ 8)) = true := by decide +kernel
theorem escB_small_at {n g : Nat} (h1 : 1 ≤ n) (h8 : n ≤ 8) (hg : g < 4) : (escB g (setKind n) (setFinal n)).size ≤ 8 := by
  have h := escB_small
  rw [List.all_eq_true] at h
  have h2 := h n (by simp; omega)
  rw [List.all_eq_true] at h2
  have h3 := h2 g (by simp; omega)
  exact of_decide_eq_true h3

set_option maxHeartbeats 1000000 in
theorem impl_StartState (w : World) : Calls Tryd.prog 27 #[] w (StDone startSt w) := by
  go_enter Tryd.func27, Tryd.ntmps27
  go_wp2
  exact st_ret (y := startSt) rfl rfl rfl (heap_alloc_new _ _) Tryd.underlying24 rfl (by kernel_rfl) rfl (below_one _ _)

theorem stateFields : Tryd.prog.underlying 24 = some (.struct (Tryd.prog.fieldsOf 24)) := by kernel_rfl
theorem stateHeld : Tryd.prog.stoodInHeld 24 = false := by kernel_rfl
theorem stPart0 (a b c d e f g : Value) (w : World) : (part 3 #[a, b, c, d, e, f, g] 0).run Tryd.prog w = .ok a w := by kernel_rfl
theorem stPart1 (a b c d e f g : Value) (w : World) : (part 3 #[a, b, c, d, e, f, g] 1).run Tryd.prog w = .ok b w := by kernel_rfl
theorem stPart2 (a b c d e f g : Value) (w : World) : (part 3 #[a, b, c, d, e, f, g] 2).run Tryd.prog w = .ok c w := by kernel_rfl
theorem stPart3 (a b c d e f g : Value) (w : World) : (part 3 #[a, b, c, d, e, f, g] 3).run Tryd.prog w = .ok d w := by kernel_rfl
theorem stPart4 (a b c d e f g : Value) (w : World) : (part 3 #[a, b, c, d, e, f, g] 4).run Tryd.prog w = .ok e w := by kernel_rfl
theorem stPart5 (a b c d e f g : Value) (w : World) : (part 3 #[a, b, c, d, e, f, g] 5).run Tryd.prog w = .ok f w := by kernel_rfl
theorem stPart6 (a b c d e f g : Value) (w : World) : (part 3 #[a, b, c, d, e, f, g] 6).run Tryd.prog w = .ok g w := by kernel_rfl
theorem stInt (a b : Int) (w : World) : (Op.equalIn 9999 3 (.int .i64 a) (.int .i64 b)).run Tryd.prog w = .ok (a == b) w := run_equalIn_int w 9998 _ _ _ a b Tryd.underlying3
theorem state_eq (y : St) (w : World) : (binOp .eql 24 (.agg #[.int .i64 y.g0, .int .i64 y.g1, .int .i64 y.g2, .int .i64 y.g3, .int .i64 y.l, .int .i64 y.s, .int .i64 y.d]) (.agg #[.int .i64 y.g0, .int .i64 y.g1, .int .i64 y.g2, .int .i64 y.g3, .int .i64 y.l, .int .i64 y.s, .int .i64 y.d])).run Tryd.prog w = .ok (.bool true) w := by
  rw [run_eql_struct, run_equalIn_struct w 9999 _ _ _ stateFields stateHeld]
  simp [Program.fieldsOf, Tryd.underlying24, Op.eqFields, stPart0, stPart1, stPart2, stPart3, stPart4, stPart5, stPart6, stInt, Result.andThen]
theorem state_guard (x y : Operand) (xs ys : Array Value) (w : World) : (eqGuard .eql 24 x y (.agg xs) (.agg ys)).run Tryd.prog w = .ok () w := run_eqGuard_agg w .eql _ x y xs ys (by kernel_rfl)

/-- A span in a block. -/
def SpB (w : World) (g : Nat) (a b c : Int) : Prop := w.heap[g]? = some (.cells #[.int .i64 a, .int .i64 b, .int .i64 c] 52)
theorem SpB.facts {w : World} {g : Nat} {a b c : Int} (h : SpB w g a b c) : w.cell? ⟨g, 0, none⟩ = some (.int .i64 a) ∧ w.cell? ⟨g, 1, none⟩ = some (.int .i64 b) ∧ w.cell? ⟨g, 2, none⟩ = some (.int .i64 c) ∧ w.frozen? ⟨g, 0, none⟩ = false ∧ w.frozen? ⟨g, 1, none⟩ = false ∧ w.frozen? ⟨g, 2, none⟩ = false ∧ g < w.heap.size := by
  refine ⟨?_, ?_, ?_, frozen_of_row w _ 0 _ _ h, frozen_of_row w _ 1 _ _ h, frozen_of_row w _ 2 _ _ h, (Array.getElem?_eq_some_iff.1 h).1⟩ <;> (rw [cell_of_row _ _ _ _ _ _ h]; rfl)
theorem SpB.put {w : World} {g : Nat} {a b c : Int} (h : SpB w g a b c) (x y z : Int) : SpB (((w.setCell ⟨g, 0, none⟩ (.int .i64 x)).setCell ⟨g, 1, none⟩ (.int .i64 y)).setCell ⟨g, 2, none⟩ (.int .i64 z)) g x y z :=
  heap_setCell_same _ _ 2 _ _ (.int .i64 z) (heap_setCell_same _ _ 1 _ _ (.int .i64 y) (heap_setCell_same _ _ 0 _ _ (.int .i64 x) h))
theorem at_below {f : FuncId} {args : Array Value} {W : World} {n : Int} (h : Calls Tryd.prog f args W (AtDone W n)) : Calls Tryd.prog f args W fun e w' => ∃ r : Int, e = .returned (.int .i64 r) ∧ 0 ≤ r ∧ (r = 0 ∨ r < n) ∧ Below W.heap.size W w' :=
  h.mono fun _ _ ⟨r, q, he, r0, r1, hw⟩ => ⟨r, he, r0, r1, by rw [hw]; exact below_drewN (Below.refl _ _) q⟩

set_option maxHeartbeats 16000000 in
set_option maxRecDepth 100000 in
theorem walk (a : Option Addr) (len cap : Nat) (zs : List Int) (a' : Option Addr) (len' cap' : Nat) (zs' : List Int) (w : World)
    (hr : IsRow .u8 w a len cap zs) (hr' : IsRow .u8 w a' len' cap' zs') (ht : TabM w) :
    Calls Tryd.prog 4 #[.slice a len cap, .slice a' len' cap'] w fun e w' => e = .returned (.bool true) ∧ Below w.heap.size w w' := by
  have HT := Lib.hid ht
  have hi := hr.ints
  have ⟨hl, hm⟩ := hr.length
  have hi' := hr'.ints
  have ⟨hl', hm'⟩ := hr'.length
  have hb := hr.bytes
  have hb' := hr'.bytes
  clear ht hr hr'
  unfold maxLen at hm hm'
  generalize zs.take len = ys at *
  generalize zs'.take len' = ys' at *
  have HI := Lib.hid hi
  have HI' := Lib.hid hi'
  have HB := Lib.hid hb
  have HB' := Lib.hid hb'
  have HL := Lib.hid hl
  have HL' := Lib.hid hl'
  clear hi hi' hb hb' hl hl'
  by_cases h1 : 1048576 < len
  · go_enter Tryd.func4, Tryd.ntmps4
    go_wp2
    go_ret
    exact ⟨rfl, Below.refl _ _⟩
  by_cases h2 : 1048576 < len'
  · go_enter Tryd.func4, Tryd.ntmps4
    go_wp2
    go_ret
    exact ⟨rfl, Below.refl _ _⟩
  go_enter Tryd.func4, Tryd.ntmps4
  go_wp2_with fail
  refine (laws_at _ ys' 0 8 w HI'.out HB'.out (by have := HL'.out; omega) (by omega) (by omega)).mono ?_
  rintro e w0 ⟨r, q, rfl, r0, r1, rfl⟩
  have B0 : Below w.heap.size w (w.drewN q) := below_drewN (Below.refl _ _) q
  generalize w.drewN q = w0 at *
  have u0 : IntKind.i64.wrap (1 + r) = 1 + r := IntWalk.i64_in _ (by omega)
  obtain ⟨n, hn⟩ : ∃ n : Nat, (n : Int) = 1 + r := ⟨(1 + r).toNat, by omega⟩
  have n1 : 1 ≤ n := by omega
  have n8 : n ≤ 8 := by omega
  rw [← hn] at u0
  go_wp2_with fail
  rw [← hn]
  clear hn r0 r1 u0
  refine (laws_at _ ys' 1 4 w0 (HI'.out.keep B0) HB'.out (by have := HL'.out; omega) (by omega) (by omega)).mono ?_
  rintro e w1 ⟨gi, q1, rfl, r0, r1, rfl⟩
  obtain ⟨g, rfl⟩ : ∃ g : Nat, gi = (g : Int) := ⟨gi.toNat, by omega⟩
  have g4 : g < 4 := by omega
  have B1 : Below w.heap.size w (w0.drewN q1) := below_drewN B0 q1
  clear B0 r0 r1
  generalize w0.drewN q1 = w1 at *
  have hset : setB (n : Int) = true := by simp [setB, inB]; omega
  go_wp2_with fail
  refine (spec_SetOf n w1).mono ?_
  rintro e w2 ⟨⟨hbad, _⟩ | ⟨_, yg, rfl, hyg, hyb⟩, b2⟩
  · rw [hset] at hbad; cases hbad
  have hY : SpAt w2 (.slice (some ⟨yg, 0, none⟩) (setSpans n).length (setSpans n).length) (setSpans n) := .inr ⟨yg, 0, _, rfl, fun i hi => by simpa using SetDone.cells hyb i hi⟩
  unfold setV
  have B2 := B1.trans (b2.mono B1.size)
  have V2 := VarIs.new w2 (setName n) (setKind n) (setFinal n) (.slice (some ⟨yg, 0, none⟩) (setSpans n).length (setSpans n).length)
  have x2 := below_one w2 (.cells #[.string (setName n), .int .i64 (setKind n), .int .i64 (setFinal n), .slice (some ⟨yg, 0, none⟩) (setSpans n).length (setSpans n).length] 48)
  have B3 := B2.alloc B2.size (.cells #[.string (setName n), .int .i64 (setKind n), .int .i64 (setFinal n), .slice (some ⟨yg, 0, none⟩) (setSpans n).length (setSpans n).length] 48)
  have HY := Lib.hid (hY.keep x2)
  have ⟨_, _, _, v4⟩ := V2.cells
  have HV := Lib.hid V2
  have hsp := set_few (n : Int)
  have hsm := Lib.hid (set_small (n : Int))
  have hps := Lib.hid (span_pos (n : Int))
  have HNM := Lib.hid (fun he sp hs j hj hc => nm_parts (nm_at n g n1 n8 g4 he sp hs j hj hc))
  clear hyg hyb hY b2 x2 B1 B2 hset V2
  go_upto_region 6 with fail
  generalize hspn : setSpans (n : Int) = sp at *
  have HSP := Lib.hid hspn
  clear hspn
  generalize w2.alloc (.cells #[.string (setName n), .int .i64 (setKind n), .int .i64 (setFinal n), .slice (some ⟨yg, 0, none⟩) sp.length sp.length] 48) = W2 at *
  go_cut [9] (fun v9 wx => SpanR sp W2 v9 wx)
  case first =>
    have V4 := (below_one W2 (.cells #[.int .i64 0, .int .i64 0, .int .i64 0] 52)).cell (World.block_lt_of_cell? W2 _ v4)
    rw [v4] at V4
    have HAt := Lib.hid (fun W (hW : Below w.heap.size w W) => at_below (laws_at _ ys' 2 (sp.length : Int) W (HI'.out.keep hW) HB'.out (by have := HL'.out; omega) (by omega) (by omega)))
    have BA := B3.alloc B3.size (.cells #[.int .i64 0, .int .i64 0, .int .i64 0] 52)
    go_region_with ((go_at_call 22; refine (HAt.out _ (by first | exact B3 | exact BA | exact below_drewN B3 1 | exact below_drewN BA 1)).mono ?_; rintro e w' ⟨r, rfl, r0, r1, b'⟩; obtain ⟨k, rfl⟩ : ∃ k : Nat, r = (k : Int) := ⟨r.toNat, (by omega)⟩; have hk : k < sp.length := (by omega); (first | (have bW : Below W2.heap.size W2 w' := Below.trans (below_drewN (below_one W2 (.cells #[.int .i64 0, .int .i64 0, .int .i64 0] 52)) 1) (Below.mono b' (by simp)); have hS : SpB w' W2.heap.size 0 0 0 := (Below.block b' _ (by simp)).trans (heap_alloc_new W2 (.cells #[.int .i64 0, .int .i64 0, .int .i64 0] 52)); have ⟨c0, c1, c2, f0, f1, f2, hl⟩ := hS.facts) | (have bW : Below W2.heap.size W2 w' := Below.trans (below_drewN (Below.refl _ W2) 1) (Below.mono b' (by simp)))); clear v4 V4; have ⟨_, _, _, v4⟩ := (HV.out.keep bW).cells; have ⟨_, _, _, V4⟩ := ((HV.out.keep bW).keep (below_one w' (.cells #[.int .i64 0, .int .i64 0, .int .i64 0] 52))).cells; have ⟨y0, y1, y2⟩ := SpAt.at (HY.out.keep bW) k hk; have ⟨Y0, Y1, Y2⟩ := SpAt.at ((HY.out.keep bW).keep (below_one w' (.cells #[.int .i64 0, .int .i64 0, .int .i64 0] 52))) k hk; simp only [Nat.zero_add] at y0 y1 y2 Y0 Y1 Y2))
    all_goals (go_wp2_with fail; go_meet; first | exact ⟨k, hk, _, rfl, hS.put _ _ _, ((bW.setCell (Nat.le_refl _) _).setCell (Nat.le_refl _) _).setCell (Nat.le_refl _) _⟩ | exact ⟨k, hk, _, rfl, heap_alloc_new _ _, bW.alloc bW.size _⟩)
  case rest =>
  obtain ⟨k, hk, gs, rfl, hg9, bx⟩ := hcut
  have B4 := B3.trans (bx.mono B3.size)
  have hmem := List.getElem_mem hk
  have ⟨⟨a1, a2⟩, _, a5, a6⟩ := hsm.out _ hmem
  have hpos := hps.out _ hmem
  have HN := Lib.hid (fun he j hj hc => HNM.out he _ hmem j hj hc)
  have hSp : SpB wc gs (sp[k]).1 (sp[k]).2.1 (sp[k]).2.2 := hg9
  clear hg9 bx hmem HNM hsm hps v4 HV HY B3
  generalize sp[k] = s at *
  obtain ⟨sc, sr, sn⟩ := s
  dsimp only at a1 a2 a5 a6 hSp HN hpos
  have ⟨c0, c1, c2, _, _, _, hl⟩ := hSp.facts
  go_upto_region 7 with fail
  go_cut [10] (fun v10 wx => ∃ j : Nat, (j : Int) < sn ∧ v10 = .int .i64 (sc + j) ∧ Below wc.heap.size wc wx)
  case first =>
    have HAt := Lib.hid (fun W (hW : Below w.heap.size w W) => at_below (laws_at _ ys 0 sn W (HI.out.keep hW) HB.out (by have := HL.out; omega) (by omega) (by omega)))
    go_region_with ((go_at_call 22; refine (HAt.out _ (by first | exact B4 | exact below_drewN B4 1)).mono ?_; rintro e w' ⟨r, rfl, r0, r1, b'⟩; obtain ⟨j, rfl⟩ : ∃ j : Nat, r = (j : Int) := ⟨r.toNat, (by omega)⟩; have hj : (j : Int) < sn := (by omega); have uw : IntKind.i64.wrap (sc + (j : Int)) = sc + j := IntWalk.i64_in _ (by omega); have bW : Below wc.heap.size wc w' := Below.trans (below_drewN (Below.refl _ wc) 1) b'; have d0 := (bW.cell (World.block_lt_of_cell? wc _ c0)).trans c0))
    all_goals (go_wp2_with fail; go_meet; exact ⟨j, hj, rfl, bW⟩)
  case rest =>
  obtain ⟨j, hj, rfl, b5⟩ := hcut
  obtain ⟨c, hc⟩ : ∃ c : Nat, (c : Int) = sc + j := ⟨(sc + j).toNat, by omega⟩
  have hcs : c = sc.toNat + j := by omega
  have B5 := B4.trans (b5.mono B4.size)
  rw [← hc]
  have HNc : Hid (eoC g n = 0 → c ≠ 127 → (rsR startSt (namedT n g c)).c = 0 ∧ (rsR startSt (namedT n g c)).z = [runeS (setSpans n) c] ∧ stGet (rsR startSt (namedT n g c)).y g = n ∧ stOKB (rsR startSt (namedT n g c)).y = true ∧ 0 ≤ runeS (setSpans n) c ∧ codeOKB n c = true ∧ c < 65536) := Lib.hid (fun he h => by
    have := HN.out he j hj (by omega)
    rw [HSP.out]
    rw [← hcs] at this
    exact this)
  clear HN hc hcs hj b5 B4 c0 c1 c2 hl hSp a1 a2 a5 a6 hpos HSP
  have HEI := Lib.hid (fun w ht => impl_EscapeOf (g : Int) n w ht)
  have HES := Lib.hid (fun w => spec_EscapeOf (g : Int) n w)
  unfold eoV at HEI HES
  have HTT : Hid (eoC g n = 0 → eoT g n = escB g (setKind n) (setFinal n)) := Lib.hid (fun h => by rw [eoT, if_pos h]; rfl)
  generalize eoT g n = T at *
  generalize eoC g n = ce at *
  have et : (T.toList == T.toList) = true := by simp
  go_wp2_with fail
  refine (HEI.out _ (HT.out.keep B5).1).mono ?_
  rintro e w6 ⟨rfl, b6⟩
  have B6 := B5.trans (b6.mono B5.size)
  clear b6
  go_wp2_with fail
  refine (HES.out _).mono ?_
  rintro e w7 ⟨rfl, b7⟩
  have B7 := B6.trans (b7.mono B6.size)
  clear b7 B6 HEI HES
  by_cases he : ce = 0
  · subst he
    by_cases h127 : c = 127
    · subst h127
      go_wp2
      go_ret
      exact ⟨rfl, B7⟩
    have e127 : ((c : Int) == 127) = false := by rw [beq_eq_false_iff_ne]; omega
    have ⟨p1, p2, p3, p4, p5, p6, p7⟩ := HNc.out rfl h127
    have hT := HTT.out rfl
    clear HNc HTT h127
    have HP := Lib.hid (And.intro p1 (And.intro p2 (And.intro p3 (And.intro p4 (And.intro p5 p6)))))
    have HTE := Lib.hid hT
    clear p1 p2 p3 p4 p5 p6 hT
    have cl1 := conv_lit1 w7 ((c : Int) % 256)
    have hTs : T.size ≤ 8 := by rw [HTE.out]; exact escB_small_at n1 n8 g4
    have HST := Lib.hid (fun w => impl_StartState w)
    have HSS := Lib.hid (fun w => spec_StartState w)
    unfold StDone stV startSt at HST HSS
    have hg : g = 0 ∨ g = 1 ∨ g = 2 ∨ g = 3 := by omega
    by_cases h255 : 255 < (c : Int)
    · rcases hg with rfl | rfl | rfl | rfl
      · have cl2 := conv_lit2 (w7.alloc (.cells #[.int .u8 ((c : Int) % 256)] 5)) ((c : Int) / 256) ((c : Int) % 256)
        rw [show (w7.alloc (.cells #[.int .u8 ((c : Int) % 256)] 5)).heap.size = w7.heap.size + 1 by simp] at cl2
        have HY : Hid (T ++ (⟨#[15]⟩ : ByteArray) ++ bs [(c : Int) / 256, (c : Int) % 256] = namedT n 0 c) := Lib.hid (by rw [HTE.out, codeB_pair h255]; rfl)
        have hYs : (bs [(c : Int) / 256, (c : Int) % 256]).size ≤ 2 := by rw [codeB_pair h255]; exact codeB_small c
        have hSs : (⟨#[15]⟩ : ByteArray).size = 1 := rfl
        have hTS : (T ++ (⟨#[15]⟩ : ByteArray)).size ≤ 10 := by rw [ByteArray.size_append]; omega
        have k1 := fun w => cat_esc T ⟨#[15]⟩ (by omega) w
        have k2 := fun w => cat_esc (T ++ ⟨#[15]⟩) (bs [(c : Int) / 256, (c : Int) % 256]) (by omega) w
        have hNs : (namedT n 0 c).size ≤ 9223372036854775807 := by rw [← HY.out, ByteArray.size_append]; omega
        have BX := Lib.hid (((B7.alloc B7.size (.cells #[.int .u8 ((c : Int) % 256)] 5)).alloc (B7.alloc B7.size (.cells #[.int .u8 ((c : Int) % 256)] 5)).size (.cells #[.int .u8 ((c : Int) / 256), .int .u8 ((c : Int) % 256)] 5)).alloc ((B7.alloc B7.size (.cells #[.int .u8 ((c : Int) % 256)] 5)).alloc (B7.alloc B7.size (.cells #[.int .u8 ((c : Int) % 256)] 5)).size (.cells #[.int .u8 ((c : Int) / 256), .int .u8 ((c : Int) % 256)] 5)).size (.cells #[.string ⟨#[15]⟩, .string ⟨#[14]⟩, .string ⟨#[27, 110]⟩, .string ⟨#[27, 111]⟩] 9))
        clear hYs hSs hTS
        go_wp2_with fail
        refine (HST.out _).mono ?_
        generalize ((w7.alloc (.cells #[.int .u8 ((c : Int) % 256)] 5)).alloc (.cells #[.int .u8 ((c : Int) / 256), .int .u8 ((c : Int) % 256)] 5)).alloc (.cells #[.string ⟨#[15]⟩, .string ⟨#[14]⟩, .string ⟨#[27, 110]⟩, .string ⟨#[27, 111]⟩] 9) = W8 at *
        rintro e w9 ⟨rfl, b9⟩
        have B9 := Lib.hid (BX.out.trans (b9.mono BX.out.size))
        clear b9 BX cl1 cl2 B7
        have ⟨p1, p2, p3, p4, p5, p6⟩ := HP.out
        have HRI := Lib.hid (fun w ht => impl_RunState startSt (namedT n 0 c) w ht ⟨by decide, by decide⟩ hNs)
        have HRS := Lib.hid (fun w => spec_RunState startSt (namedT n 0 c) w hNs)
        clear HP
        generalize rsR startSt (namedT n 0 c) = q at *
        have HRF := Lib.hid (fun w ht => impl_RuneFor (n : Int) c w ht (by omega) (by omega))
        rw [rfV_ok (n : Int) c (by rw [rfC, if_pos (show setB (n : Int) = true by simp [setB, inB]; omega), if_pos p6, if_neg (by omega)])] at HRF
        have hld := lead_range (stOK_parts p4).2.2
        have HRG := Lib.hid (fun w ht => impl_RegisterOf q.y ((0 : Nat) : Int) w ht ⟨by omega, by omega⟩)
        rw [rgoV_ok (x := q.y) (n := ((0 : Nat) : Int)) (by rw [rgoC, if_pos p4]; rfl), p3] at HRG
        unfold RunDone stV startSt at HRI HRS
        unfold stV at HRG
        rw [p1, p2] at HRI HRS
        generalize runeS (setSpans (n : Int)) (c : Int) = rv at *
        clear p1 p2 p3 p4 p5 p6 hld hNs
        go_wp2_with fail
        rw [HY.out]
        refine (HRI.out _ (HT.out.keep B9.out)).mono ?_
        rintro e w10 ⟨v1, rfl, o1, b10⟩
        have B10 := Lib.hid (B9.out.trans (b10.mono B9.out.size))
        have V10 := Lib.hid (StAt.new w10 q.y)
        have O10 := Lib.hid (o1.alloc (.cells #[.int .i64 q.y.g0, .int .i64 q.y.g1, .int .i64 q.y.g2, .int .i64 q.y.g3, .int .i64 q.y.l, .int .i64 q.y.s, .int .i64 q.y.d] 24))
        have B10b := Lib.hid (B10.out.alloc B10.out.size (.cells #[.int .i64 q.y.g0, .int .i64 q.y.g1, .int .i64 q.y.g2, .int .i64 q.y.g3, .int .i64 q.y.l, .int .i64 q.y.s, .int .i64 q.y.d] 24))
        clear o1 b10 B9 B10
        go_wp2_with fail
        refine (HSS.out _).mono ?_
        generalize w10.alloc (.cells #[.int .i64 q.y.g0, .int .i64 q.y.g1, .int .i64 q.y.g2, .int .i64 q.y.g3, .int .i64 q.y.l, .int .i64 q.y.s, .int .i64 q.y.d] 24) = W10 at *
        rintro e w11 ⟨rfl, b11⟩
        have B11 := Lib.hid (B10b.out.trans (b11.mono B10b.out.size))
        have V11 := Lib.hid (V10.out.keep b11)
        have O11 := Lib.hid (O10.out.all b11)
        clear b11 V10 O10 B10b
        go_wp2_with fail
        rw [HY.out]
        refine (HRS.out _).mono ?_
        rintro e w12 ⟨v2, rfl, o2, b12⟩
        have B12 := Lib.hid (B11.out.trans (b12.mono B11.out.size))
        have V12 := Lib.hid ((V11.out.keep b12).keep (below_one w12 (.cells #[.int .i64 q.y.g0, .int .i64 q.y.g1, .int .i64 q.y.g2, .int .i64 q.y.g3, .int .i64 q.y.l, .int .i64 q.y.s, .int .i64 q.y.d] 24)))
        have U12 := Lib.hid (StAt.new w12 q.y)
        have O12 := Lib.hid ((O11.out.all b12).alloc (.cells #[.int .i64 q.y.g0, .int .i64 q.y.g1, .int .i64 q.y.g2, .int .i64 q.y.g3, .int .i64 q.y.l, .int .i64 q.y.s, .int .i64 q.y.d] 24))
        have P12 := Lib.hid (o2.alloc (.cells #[.int .i64 q.y.g0, .int .i64 q.y.g1, .int .i64 q.y.g2, .int .i64 q.y.g3, .int .i64 q.y.l, .int .i64 q.y.s, .int .i64 q.y.d] 24))
        have B12b := Lib.hid (B12.out.alloc B12.out.size (.cells #[.int .i64 q.y.g0, .int .i64 q.y.g1, .int .i64 q.y.g2, .int .i64 q.y.g3, .int .i64 q.y.l, .int .i64 q.y.s, .int .i64 q.y.d] 24))
        clear b12 o2 V11 O11 B11 B12
        go_wp2_with fail
        refine (HRF.out _ (HT.out.keep B12b.out).1).mono ?_
        generalize w12.alloc (.cells #[.int .i64 q.y.g0, .int .i64 q.y.g1, .int .i64 q.y.g2, .int .i64 q.y.g3, .int .i64 q.y.l, .int .i64 q.y.s, .int .i64 q.y.d] 24) = W12 at *
        rintro e w13 ⟨rfl, b13⟩
        have B13 := Lib.hid (B12b.out.trans (b13.mono B12b.out.size))
        have V13 := Lib.hid (V12.out.keep b13)
        have U13 := Lib.hid (U12.out.keep b13)
        have O13 := Lib.hid (O12.out.all b13)
        have P13 := Lib.hid (P12.out.all b13)
        clear b13 V12 U12 O12 P12 B12b
        have ⟨y0, y1, y2, y3, y4, y5, y6⟩ := V13.out.cells
        go_wp2_with fail
        refine (HRG.out _ (HT.out.keep B13.out)).mono ?_
        clear y0 y1 y2 y3 y4 y5 y6
        rintro e w14 ⟨rfl, b14⟩
        have B14 := Lib.hid (B13.out.trans (b14.mono B13.out.size))
        have V14 := Lib.hid (V13.out.keep b14)
        have U14 := Lib.hid (U13.out.keep b14)
        have O14 := Lib.hid (O13.out.all b14)
        have P14 := Lib.hid (P13.out.all b14)
        clear b14 V13 U13 O13 P13 B13
        have hv1 : ∃ g1 cap1, v1 = .slice (some ⟨g1, 0, none⟩) 1 cap1 := by
          rcases O14.out.2 with ⟨_, h0⟩ | ⟨g1, cap1, cur, hv, _⟩
          · simp at h0
          · exact ⟨g1, cap1, hv⟩
        obtain ⟨g1, cap1, rfl⟩ := hv1
        have SE := fun w => state_eq q.y w
        have SG := state_guard
        have ⟨y0, y1, y2, y3, y4, y5, y6⟩ := V14.out.cells
        have ⟨z0, z1, z2, z3, z4, z5, z6⟩ := U14.out.cells
        go_wp2_with fail
        refine (laws_sameInts _ _ _ _ _ O14.out.ints P14.out.ints (by simp) (by simp)).mono ?_
        clear y0 y1 y2 y3 y4 y5 y6 z0 z1 z2 z3 z4 z5 z6
        rintro e w15 ⟨rfl, q2, rfl⟩
        rw [show decide ([rv] = [rv]) = true from decide_eq_true rfl]
        have O15 := O14.out.all (below_drewN (Below.refl w14.heap.size w14) q2)
        have B15 := below_drewN B14.out q2
        have x0 := O15.cell 0 (by simp)
        clear O14 P14 V14 U14 B14
        generalize w14.drewN q2 = W15 at *
        go_wp2
        go_ret
        exact ⟨rfl, B15⟩
      · have cl2 := conv_lit2 (w7.alloc (.cells #[.int .u8 ((c : Int) % 256)] 5)) ((c : Int) / 256) ((c : Int) % 256)
        rw [show (w7.alloc (.cells #[.int .u8 ((c : Int) % 256)] 5)).heap.size = w7.heap.size + 1 by simp] at cl2
        have HY : Hid (T ++ (⟨#[14]⟩ : ByteArray) ++ bs [(c : Int) / 256, (c : Int) % 256] = namedT n 1 c) := Lib.hid (by rw [HTE.out, codeB_pair h255]; rfl)
        have hYs : (bs [(c : Int) / 256, (c : Int) % 256]).size ≤ 2 := by rw [codeB_pair h255]; exact codeB_small c
        have hSs : (⟨#[14]⟩ : ByteArray).size = 1 := rfl
        have hTS : (T ++ (⟨#[14]⟩ : ByteArray)).size ≤ 10 := by rw [ByteArray.size_append]; omega
        have k1 := fun w => cat_esc T ⟨#[14]⟩ (by omega) w
        have k2 := fun w => cat_esc (T ++ ⟨#[14]⟩) (bs [(c : Int) / 256, (c : Int) % 256]) (by omega) w
        have hNs : (namedT n 1 c).size ≤ 9223372036854775807 := by rw [← HY.out, ByteArray.size_append]; omega
        have BX := Lib.hid (((B7.alloc B7.size (.cells #[.int .u8 ((c : Int) % 256)] 5)).alloc (B7.alloc B7.size (.cells #[.int .u8 ((c : Int) % 256)] 5)).size (.cells #[.int .u8 ((c : Int) / 256), .int .u8 ((c : Int) % 256)] 5)).alloc ((B7.alloc B7.size (.cells #[.int .u8 ((c : Int) % 256)] 5)).alloc (B7.alloc B7.size (.cells #[.int .u8 ((c : Int) % 256)] 5)).size (.cells #[.int .u8 ((c : Int) / 256), .int .u8 ((c : Int) % 256)] 5)).size (.cells #[.string ⟨#[15]⟩, .string ⟨#[14]⟩, .string ⟨#[27, 110]⟩, .string ⟨#[27, 111]⟩] 9))
        clear hYs hSs hTS
        go_wp2_with fail
        refine (HST.out _).mono ?_
        generalize ((w7.alloc (.cells #[.int .u8 ((c : Int) % 256)] 5)).alloc (.cells #[.int .u8 ((c : Int) / 256), .int .u8 ((c : Int) % 256)] 5)).alloc (.cells #[.string ⟨#[15]⟩, .string ⟨#[14]⟩, .string ⟨#[27, 110]⟩, .string ⟨#[27, 111]⟩] 9) = W8 at *
        rintro e w9 ⟨rfl, b9⟩
        have B9 := Lib.hid (BX.out.trans (b9.mono BX.out.size))
        clear b9 BX cl1 cl2 B7
        have ⟨p1, p2, p3, p4, p5, p6⟩ := HP.out
        have HRI := Lib.hid (fun w ht => impl_RunState startSt (namedT n 1 c) w ht ⟨by decide, by decide⟩ hNs)
        have HRS := Lib.hid (fun w => spec_RunState startSt (namedT n 1 c) w hNs)
        clear HP
        generalize rsR startSt (namedT n 1 c) = q at *
        have HRF := Lib.hid (fun w ht => impl_RuneFor (n : Int) c w ht (by omega) (by omega))
        rw [rfV_ok (n : Int) c (by rw [rfC, if_pos (show setB (n : Int) = true by simp [setB, inB]; omega), if_pos p6, if_neg (by omega)])] at HRF
        have hld := lead_range (stOK_parts p4).2.2
        have HRG := Lib.hid (fun w ht => impl_RegisterOf q.y ((1 : Nat) : Int) w ht ⟨by omega, by omega⟩)
        rw [rgoV_ok (x := q.y) (n := ((1 : Nat) : Int)) (by rw [rgoC, if_pos p4]; rfl), p3] at HRG
        unfold RunDone stV startSt at HRI HRS
        unfold stV at HRG
        rw [p1, p2] at HRI HRS
        generalize runeS (setSpans (n : Int)) (c : Int) = rv at *
        clear p1 p2 p3 p4 p5 p6 hld hNs
        go_wp2_with fail
        rw [HY.out]
        refine (HRI.out _ (HT.out.keep B9.out)).mono ?_
        rintro e w10 ⟨v1, rfl, o1, b10⟩
        have B10 := Lib.hid (B9.out.trans (b10.mono B9.out.size))
        have V10 := Lib.hid (StAt.new w10 q.y)
        have O10 := Lib.hid (o1.alloc (.cells #[.int .i64 q.y.g0, .int .i64 q.y.g1, .int .i64 q.y.g2, .int .i64 q.y.g3, .int .i64 q.y.l, .int .i64 q.y.s, .int .i64 q.y.d] 24))
        have B10b := Lib.hid (B10.out.alloc B10.out.size (.cells #[.int .i64 q.y.g0, .int .i64 q.y.g1, .int .i64 q.y.g2, .int .i64 q.y.g3, .int .i64 q.y.l, .int .i64 q.y.s, .int .i64 q.y.d] 24))
        clear o1 b10 B9 B10
        go_wp2_with fail
        refine (HSS.out _).mono ?_
        generalize w10.alloc (.cells #[.int .i64 q.y.g0, .int .i64 q.y.g1, .int .i64 q.y.g2, .int .i64 q.y.g3, .int .i64 q.y.l, .int .i64 q.y.s, .int .i64 q.y.d] 24) = W10 at *
        rintro e w11 ⟨rfl, b11⟩
        have B11 := Lib.hid (B10b.out.trans (b11.mono B10b.out.size))
        have V11 := Lib.hid (V10.out.keep b11)
        have O11 := Lib.hid (O10.out.all b11)
        clear b11 V10 O10 B10b
        go_wp2_with fail
        rw [HY.out]
        refine (HRS.out _).mono ?_
        rintro e w12 ⟨v2, rfl, o2, b12⟩
        have B12 := Lib.hid (B11.out.trans (b12.mono B11.out.size))
        have V12 := Lib.hid ((V11.out.keep b12).keep (below_one w12 (.cells #[.int .i64 q.y.g0, .int .i64 q.y.g1, .int .i64 q.y.g2, .int .i64 q.y.g3, .int .i64 q.y.l, .int .i64 q.y.s, .int .i64 q.y.d] 24)))
        have U12 := Lib.hid (StAt.new w12 q.y)
        have O12 := Lib.hid ((O11.out.all b12).alloc (.cells #[.int .i64 q.y.g0, .int .i64 q.y.g1, .int .i64 q.y.g2, .int .i64 q.y.g3, .int .i64 q.y.l, .int .i64 q.y.s, .int .i64 q.y.d] 24))
        have P12 := Lib.hid (o2.alloc (.cells #[.int .i64 q.y.g0, .int .i64 q.y.g1, .int .i64 q.y.g2, .int .i64 q.y.g3, .int .i64 q.y.l, .int .i64 q.y.s, .int .i64 q.y.d] 24))
        have B12b := Lib.hid (B12.out.alloc B12.out.size (.cells #[.int .i64 q.y.g0, .int .i64 q.y.g1, .int .i64 q.y.g2, .int .i64 q.y.g3, .int .i64 q.y.l, .int .i64 q.y.s, .int .i64 q.y.d] 24))
        clear b12 o2 V11 O11 B11 B12
        go_wp2_with fail
        refine (HRF.out _ (HT.out.keep B12b.out).1).mono ?_
        generalize w12.alloc (.cells #[.int .i64 q.y.g0, .int .i64 q.y.g1, .int .i64 q.y.g2, .int .i64 q.y.g3, .int .i64 q.y.l, .int .i64 q.y.s, .int .i64 q.y.d] 24) = W12 at *
        rintro e w13 ⟨rfl, b13⟩
        have B13 := Lib.hid (B12b.out.trans (b13.mono B12b.out.size))
        have V13 := Lib.hid (V12.out.keep b13)
        have U13 := Lib.hid (U12.out.keep b13)
        have O13 := Lib.hid (O12.out.all b13)
        have P13 := Lib.hid (P12.out.all b13)
        clear b13 V12 U12 O12 P12 B12b
        have ⟨y0, y1, y2, y3, y4, y5, y6⟩ := V13.out.cells
        go_wp2_with fail
        refine (HRG.out _ (HT.out.keep B13.out)).mono ?_
        clear y0 y1 y2 y3 y4 y5 y6
        rintro e w14 ⟨rfl, b14⟩
        have B14 := Lib.hid (B13.out.trans (b14.mono B13.out.size))
        have V14 := Lib.hid (V13.out.keep b14)
        have U14 := Lib.hid (U13.out.keep b14)
        have O14 := Lib.hid (O13.out.all b14)
        have P14 := Lib.hid (P13.out.all b14)
        clear b14 V13 U13 O13 P13 B13
        have hv1 : ∃ g1 cap1, v1 = .slice (some ⟨g1, 0, none⟩) 1 cap1 := by
          rcases O14.out.2 with ⟨_, h0⟩ | ⟨g1, cap1, cur, hv, _⟩
          · simp at h0
          · exact ⟨g1, cap1, hv⟩
        obtain ⟨g1, cap1, rfl⟩ := hv1
        have SE := fun w => state_eq q.y w
        have SG := state_guard
        have ⟨y0, y1, y2, y3, y4, y5, y6⟩ := V14.out.cells
        have ⟨z0, z1, z2, z3, z4, z5, z6⟩ := U14.out.cells
        go_wp2_with fail
        refine (laws_sameInts _ _ _ _ _ O14.out.ints P14.out.ints (by simp) (by simp)).mono ?_
        clear y0 y1 y2 y3 y4 y5 y6 z0 z1 z2 z3 z4 z5 z6
        rintro e w15 ⟨rfl, q2, rfl⟩
        rw [show decide ([rv] = [rv]) = true from decide_eq_true rfl]
        have O15 := O14.out.all (below_drewN (Below.refl w14.heap.size w14) q2)
        have B15 := below_drewN B14.out q2
        have x0 := O15.cell 0 (by simp)
        clear O14 P14 V14 U14 B14
        generalize w14.drewN q2 = W15 at *
        go_wp2
        go_ret
        exact ⟨rfl, B15⟩
      · have cl2 := conv_lit2 (w7.alloc (.cells #[.int .u8 ((c : Int) % 256)] 5)) ((c : Int) / 256) ((c : Int) % 256)
        rw [show (w7.alloc (.cells #[.int .u8 ((c : Int) % 256)] 5)).heap.size = w7.heap.size + 1 by simp] at cl2
        have HY : Hid (T ++ (⟨#[27, 110]⟩ : ByteArray) ++ bs [(c : Int) / 256, (c : Int) % 256] = namedT n 2 c) := Lib.hid (by rw [HTE.out, codeB_pair h255]; rfl)
        have hYs : (bs [(c : Int) / 256, (c : Int) % 256]).size ≤ 2 := by rw [codeB_pair h255]; exact codeB_small c
        have hSs : (⟨#[27, 110]⟩ : ByteArray).size = 2 := rfl
        have hTS : (T ++ (⟨#[27, 110]⟩ : ByteArray)).size ≤ 10 := by rw [ByteArray.size_append]; omega
        have k1 := fun w => cat_esc T ⟨#[27, 110]⟩ (by omega) w
        have k2 := fun w => cat_esc (T ++ ⟨#[27, 110]⟩) (bs [(c : Int) / 256, (c : Int) % 256]) (by omega) w
        have hNs : (namedT n 2 c).size ≤ 9223372036854775807 := by rw [← HY.out, ByteArray.size_append]; omega
        have BX := Lib.hid (((B7.alloc B7.size (.cells #[.int .u8 ((c : Int) % 256)] 5)).alloc (B7.alloc B7.size (.cells #[.int .u8 ((c : Int) % 256)] 5)).size (.cells #[.int .u8 ((c : Int) / 256), .int .u8 ((c : Int) % 256)] 5)).alloc ((B7.alloc B7.size (.cells #[.int .u8 ((c : Int) % 256)] 5)).alloc (B7.alloc B7.size (.cells #[.int .u8 ((c : Int) % 256)] 5)).size (.cells #[.int .u8 ((c : Int) / 256), .int .u8 ((c : Int) % 256)] 5)).size (.cells #[.string ⟨#[15]⟩, .string ⟨#[14]⟩, .string ⟨#[27, 110]⟩, .string ⟨#[27, 111]⟩] 9))
        clear hYs hSs hTS
        go_wp2_with fail
        refine (HST.out _).mono ?_
        generalize ((w7.alloc (.cells #[.int .u8 ((c : Int) % 256)] 5)).alloc (.cells #[.int .u8 ((c : Int) / 256), .int .u8 ((c : Int) % 256)] 5)).alloc (.cells #[.string ⟨#[15]⟩, .string ⟨#[14]⟩, .string ⟨#[27, 110]⟩, .string ⟨#[27, 111]⟩] 9) = W8 at *
        rintro e w9 ⟨rfl, b9⟩
        have B9 := Lib.hid (BX.out.trans (b9.mono BX.out.size))
        clear b9 BX cl1 cl2 B7
        have ⟨p1, p2, p3, p4, p5, p6⟩ := HP.out
        have HRI := Lib.hid (fun w ht => impl_RunState startSt (namedT n 2 c) w ht ⟨by decide, by decide⟩ hNs)
        have HRS := Lib.hid (fun w => spec_RunState startSt (namedT n 2 c) w hNs)
        clear HP
        generalize rsR startSt (namedT n 2 c) = q at *
        have HRF := Lib.hid (fun w ht => impl_RuneFor (n : Int) c w ht (by omega) (by omega))
        rw [rfV_ok (n : Int) c (by rw [rfC, if_pos (show setB (n : Int) = true by simp [setB, inB]; omega), if_pos p6, if_neg (by omega)])] at HRF
        have hld := lead_range (stOK_parts p4).2.2
        have HRG := Lib.hid (fun w ht => impl_RegisterOf q.y ((2 : Nat) : Int) w ht ⟨by omega, by omega⟩)
        rw [rgoV_ok (x := q.y) (n := ((2 : Nat) : Int)) (by rw [rgoC, if_pos p4]; rfl), p3] at HRG
        unfold RunDone stV startSt at HRI HRS
        unfold stV at HRG
        rw [p1, p2] at HRI HRS
        generalize runeS (setSpans (n : Int)) (c : Int) = rv at *
        clear p1 p2 p3 p4 p5 p6 hld hNs
        go_wp2_with fail
        rw [HY.out]
        refine (HRI.out _ (HT.out.keep B9.out)).mono ?_
        rintro e w10 ⟨v1, rfl, o1, b10⟩
        have B10 := Lib.hid (B9.out.trans (b10.mono B9.out.size))
        have V10 := Lib.hid (StAt.new w10 q.y)
        have O10 := Lib.hid (o1.alloc (.cells #[.int .i64 q.y.g0, .int .i64 q.y.g1, .int .i64 q.y.g2, .int .i64 q.y.g3, .int .i64 q.y.l, .int .i64 q.y.s, .int .i64 q.y.d] 24))
        have B10b := Lib.hid (B10.out.alloc B10.out.size (.cells #[.int .i64 q.y.g0, .int .i64 q.y.g1, .int .i64 q.y.g2, .int .i64 q.y.g3, .int .i64 q.y.l, .int .i64 q.y.s, .int .i64 q.y.d] 24))
        clear o1 b10 B9 B10
        go_wp2_with fail
        refine (HSS.out _).mono ?_
        generalize w10.alloc (.cells #[.int .i64 q.y.g0, .int .i64 q.y.g1, .int .i64 q.y.g2, .int .i64 q.y.g3, .int .i64 q.y.l, .int .i64 q.y.s, .int .i64 q.y.d] 24) = W10 at *
        rintro e w11 ⟨rfl, b11⟩
        have B11 := Lib.hid (B10b.out.trans (b11.mono B10b.out.size))
        have V11 := Lib.hid (V10.out.keep b11)
        have O11 := Lib.hid (O10.out.all b11)
        clear b11 V10 O10 B10b
        go_wp2_with fail
        rw [HY.out]
        refine (HRS.out _).mono ?_
        rintro e w12 ⟨v2, rfl, o2, b12⟩
        have B12 := Lib.hid (B11.out.trans (b12.mono B11.out.size))
        have V12 := Lib.hid ((V11.out.keep b12).keep (below_one w12 (.cells #[.int .i64 q.y.g0, .int .i64 q.y.g1, .int .i64 q.y.g2, .int .i64 q.y.g3, .int .i64 q.y.l, .int .i64 q.y.s, .int .i64 q.y.d] 24)))
        have U12 := Lib.hid (StAt.new w12 q.y)
        have O12 := Lib.hid ((O11.out.all b12).alloc (.cells #[.int .i64 q.y.g0, .int .i64 q.y.g1, .int .i64 q.y.g2, .int .i64 q.y.g3, .int .i64 q.y.l, .int .i64 q.y.s, .int .i64 q.y.d] 24))
        have P12 := Lib.hid (o2.alloc (.cells #[.int .i64 q.y.g0, .int .i64 q.y.g1, .int .i64 q.y.g2, .int .i64 q.y.g3, .int .i64 q.y.l, .int .i64 q.y.s, .int .i64 q.y.d] 24))
        have B12b := Lib.hid (B12.out.alloc B12.out.size (.cells #[.int .i64 q.y.g0, .int .i64 q.y.g1, .int .i64 q.y.g2, .int .i64 q.y.g3, .int .i64 q.y.l, .int .i64 q.y.s, .int .i64 q.y.d] 24))
        clear b12 o2 V11 O11 B11 B12
        go_wp2_with fail
        refine (HRF.out _ (HT.out.keep B12b.out).1).mono ?_
        generalize w12.alloc (.cells #[.int .i64 q.y.g0, .int .i64 q.y.g1, .int .i64 q.y.g2, .int .i64 q.y.g3, .int .i64 q.y.l, .int .i64 q.y.s, .int .i64 q.y.d] 24) = W12 at *
        rintro e w13 ⟨rfl, b13⟩
        have B13 := Lib.hid (B12b.out.trans (b13.mono B12b.out.size))
        have V13 := Lib.hid (V12.out.keep b13)
        have U13 := Lib.hid (U12.out.keep b13)
        have O13 := Lib.hid (O12.out.all b13)
        have P13 := Lib.hid (P12.out.all b13)
        clear b13 V12 U12 O12 P12 B12b
        have ⟨y0, y1, y2, y3, y4, y5, y6⟩ := V13.out.cells
        go_wp2_with fail
        refine (HRG.out _ (HT.out.keep B13.out)).mono ?_
        clear y0 y1 y2 y3 y4 y5 y6
        rintro e w14 ⟨rfl, b14⟩
        have B14 := Lib.hid (B13.out.trans (b14.mono B13.out.size))
        have V14 := Lib.hid (V13.out.keep b14)
        have U14 := Lib.hid (U13.out.keep b14)
        have O14 := Lib.hid (O13.out.all b14)
        have P14 := Lib.hid (P13.out.all b14)
        clear b14 V13 U13 O13 P13 B13
        have hv1 : ∃ g1 cap1, v1 = .slice (some ⟨g1, 0, none⟩) 1 cap1 := by
          rcases O14.out.2 with ⟨_, h0⟩ | ⟨g1, cap1, cur, hv, _⟩
          · simp at h0
          · exact ⟨g1, cap1, hv⟩
        obtain ⟨g1, cap1, rfl⟩ := hv1
        have SE := fun w => state_eq q.y w
        have SG := state_guard
        have ⟨y0, y1, y2, y3, y4, y5, y6⟩ := V14.out.cells
        have ⟨z0, z1, z2, z3, z4, z5, z6⟩ := U14.out.cells
        go_wp2_with fail
        refine (laws_sameInts _ _ _ _ _ O14.out.ints P14.out.ints (by simp) (by simp)).mono ?_
        clear y0 y1 y2 y3 y4 y5 y6 z0 z1 z2 z3 z4 z5 z6
        rintro e w15 ⟨rfl, q2, rfl⟩
        rw [show decide ([rv] = [rv]) = true from decide_eq_true rfl]
        have O15 := O14.out.all (below_drewN (Below.refl w14.heap.size w14) q2)
        have B15 := below_drewN B14.out q2
        have x0 := O15.cell 0 (by simp)
        clear O14 P14 V14 U14 B14
        generalize w14.drewN q2 = W15 at *
        go_wp2
        go_ret
        exact ⟨rfl, B15⟩
      · have cl2 := conv_lit2 (w7.alloc (.cells #[.int .u8 ((c : Int) % 256)] 5)) ((c : Int) / 256) ((c : Int) % 256)
        rw [show (w7.alloc (.cells #[.int .u8 ((c : Int) % 256)] 5)).heap.size = w7.heap.size + 1 by simp] at cl2
        have HY : Hid (T ++ (⟨#[27, 111]⟩ : ByteArray) ++ bs [(c : Int) / 256, (c : Int) % 256] = namedT n 3 c) := Lib.hid (by rw [HTE.out, codeB_pair h255]; rfl)
        have hYs : (bs [(c : Int) / 256, (c : Int) % 256]).size ≤ 2 := by rw [codeB_pair h255]; exact codeB_small c
        have hSs : (⟨#[27, 111]⟩ : ByteArray).size = 2 := rfl
        have hTS : (T ++ (⟨#[27, 111]⟩ : ByteArray)).size ≤ 10 := by rw [ByteArray.size_append]; omega
        have k1 := fun w => cat_esc T ⟨#[27, 111]⟩ (by omega) w
        have k2 := fun w => cat_esc (T ++ ⟨#[27, 111]⟩) (bs [(c : Int) / 256, (c : Int) % 256]) (by omega) w
        have hNs : (namedT n 3 c).size ≤ 9223372036854775807 := by rw [← HY.out, ByteArray.size_append]; omega
        have BX := Lib.hid (((B7.alloc B7.size (.cells #[.int .u8 ((c : Int) % 256)] 5)).alloc (B7.alloc B7.size (.cells #[.int .u8 ((c : Int) % 256)] 5)).size (.cells #[.int .u8 ((c : Int) / 256), .int .u8 ((c : Int) % 256)] 5)).alloc ((B7.alloc B7.size (.cells #[.int .u8 ((c : Int) % 256)] 5)).alloc (B7.alloc B7.size (.cells #[.int .u8 ((c : Int) % 256)] 5)).size (.cells #[.int .u8 ((c : Int) / 256), .int .u8 ((c : Int) % 256)] 5)).size (.cells #[.string ⟨#[15]⟩, .string ⟨#[14]⟩, .string ⟨#[27, 110]⟩, .string ⟨#[27, 111]⟩] 9))
        clear hYs hSs hTS
        go_wp2_with fail
        refine (HST.out _).mono ?_
        generalize ((w7.alloc (.cells #[.int .u8 ((c : Int) % 256)] 5)).alloc (.cells #[.int .u8 ((c : Int) / 256), .int .u8 ((c : Int) % 256)] 5)).alloc (.cells #[.string ⟨#[15]⟩, .string ⟨#[14]⟩, .string ⟨#[27, 110]⟩, .string ⟨#[27, 111]⟩] 9) = W8 at *
        rintro e w9 ⟨rfl, b9⟩
        have B9 := Lib.hid (BX.out.trans (b9.mono BX.out.size))
        clear b9 BX cl1 cl2 B7
        have ⟨p1, p2, p3, p4, p5, p6⟩ := HP.out
        have HRI := Lib.hid (fun w ht => impl_RunState startSt (namedT n 3 c) w ht ⟨by decide, by decide⟩ hNs)
        have HRS := Lib.hid (fun w => spec_RunState startSt (namedT n 3 c) w hNs)
        clear HP
        generalize rsR startSt (namedT n 3 c) = q at *
        have HRF := Lib.hid (fun w ht => impl_RuneFor (n : Int) c w ht (by omega) (by omega))
        rw [rfV_ok (n : Int) c (by rw [rfC, if_pos (show setB (n : Int) = true by simp [setB, inB]; omega), if_pos p6, if_neg (by omega)])] at HRF
        have hld := lead_range (stOK_parts p4).2.2
        have HRG := Lib.hid (fun w ht => impl_RegisterOf q.y ((3 : Nat) : Int) w ht ⟨by omega, by omega⟩)
        rw [rgoV_ok (x := q.y) (n := ((3 : Nat) : Int)) (by rw [rgoC, if_pos p4]; rfl), p3] at HRG
        unfold RunDone stV startSt at HRI HRS
        unfold stV at HRG
        rw [p1, p2] at HRI HRS
        generalize runeS (setSpans (n : Int)) (c : Int) = rv at *
        clear p1 p2 p3 p4 p5 p6 hld hNs
        go_wp2_with fail
        rw [HY.out]
        refine (HRI.out _ (HT.out.keep B9.out)).mono ?_
        rintro e w10 ⟨v1, rfl, o1, b10⟩
        have B10 := Lib.hid (B9.out.trans (b10.mono B9.out.size))
        have V10 := Lib.hid (StAt.new w10 q.y)
        have O10 := Lib.hid (o1.alloc (.cells #[.int .i64 q.y.g0, .int .i64 q.y.g1, .int .i64 q.y.g2, .int .i64 q.y.g3, .int .i64 q.y.l, .int .i64 q.y.s, .int .i64 q.y.d] 24))
        have B10b := Lib.hid (B10.out.alloc B10.out.size (.cells #[.int .i64 q.y.g0, .int .i64 q.y.g1, .int .i64 q.y.g2, .int .i64 q.y.g3, .int .i64 q.y.l, .int .i64 q.y.s, .int .i64 q.y.d] 24))
        clear o1 b10 B9 B10
        go_wp2_with fail
        refine (HSS.out _).mono ?_
        generalize w10.alloc (.cells #[.int .i64 q.y.g0, .int .i64 q.y.g1, .int .i64 q.y.g2, .int .i64 q.y.g3, .int .i64 q.y.l, .int .i64 q.y.s, .int .i64 q.y.d] 24) = W10 at *
        rintro e w11 ⟨rfl, b11⟩
        have B11 := Lib.hid (B10b.out.trans (b11.mono B10b.out.size))
        have V11 := Lib.hid (V10.out.keep b11)
        have O11 := Lib.hid (O10.out.all b11)
        clear b11 V10 O10 B10b
        go_wp2_with fail
        rw [HY.out]
        refine (HRS.out _).mono ?_
        rintro e w12 ⟨v2, rfl, o2, b12⟩
        have B12 := Lib.hid (B11.out.trans (b12.mono B11.out.size))
        have V12 := Lib.hid ((V11.out.keep b12).keep (below_one w12 (.cells #[.int .i64 q.y.g0, .int .i64 q.y.g1, .int .i64 q.y.g2, .int .i64 q.y.g3, .int .i64 q.y.l, .int .i64 q.y.s, .int .i64 q.y.d] 24)))
        have U12 := Lib.hid (StAt.new w12 q.y)
        have O12 := Lib.hid ((O11.out.all b12).alloc (.cells #[.int .i64 q.y.g0, .int .i64 q.y.g1, .int .i64 q.y.g2, .int .i64 q.y.g3, .int .i64 q.y.l, .int .i64 q.y.s, .int .i64 q.y.d] 24))
        have P12 := Lib.hid (o2.alloc (.cells #[.int .i64 q.y.g0, .int .i64 q.y.g1, .int .i64 q.y.g2, .int .i64 q.y.g3, .int .i64 q.y.l, .int .i64 q.y.s, .int .i64 q.y.d] 24))
        have B12b := Lib.hid (B12.out.alloc B12.out.size (.cells #[.int .i64 q.y.g0, .int .i64 q.y.g1, .int .i64 q.y.g2, .int .i64 q.y.g3, .int .i64 q.y.l, .int .i64 q.y.s, .int .i64 q.y.d] 24))
        clear b12 o2 V11 O11 B11 B12
        go_wp2_with fail
        refine (HRF.out _ (HT.out.keep B12b.out).1).mono ?_
        generalize w12.alloc (.cells #[.int .i64 q.y.g0, .int .i64 q.y.g1, .int .i64 q.y.g2, .int .i64 q.y.g3, .int .i64 q.y.l, .int .i64 q.y.s, .int .i64 q.y.d] 24) = W12 at *
        rintro e w13 ⟨rfl, b13⟩
        have B13 := Lib.hid (B12b.out.trans (b13.mono B12b.out.size))
        have V13 := Lib.hid (V12.out.keep b13)
        have U13 := Lib.hid (U12.out.keep b13)
        have O13 := Lib.hid (O12.out.all b13)
        have P13 := Lib.hid (P12.out.all b13)
        clear b13 V12 U12 O12 P12 B12b
        have ⟨y0, y1, y2, y3, y4, y5, y6⟩ := V13.out.cells
        go_wp2_with fail
        refine (HRG.out _ (HT.out.keep B13.out)).mono ?_
        clear y0 y1 y2 y3 y4 y5 y6
        rintro e w14 ⟨rfl, b14⟩
        have B14 := Lib.hid (B13.out.trans (b14.mono B13.out.size))
        have V14 := Lib.hid (V13.out.keep b14)
        have U14 := Lib.hid (U13.out.keep b14)
        have O14 := Lib.hid (O13.out.all b14)
        have P14 := Lib.hid (P13.out.all b14)
        clear b14 V13 U13 O13 P13 B13
        have hv1 : ∃ g1 cap1, v1 = .slice (some ⟨g1, 0, none⟩) 1 cap1 := by
          rcases O14.out.2 with ⟨_, h0⟩ | ⟨g1, cap1, cur, hv, _⟩
          · simp at h0
          · exact ⟨g1, cap1, hv⟩
        obtain ⟨g1, cap1, rfl⟩ := hv1
        have SE := fun w => state_eq q.y w
        have SG := state_guard
        have ⟨y0, y1, y2, y3, y4, y5, y6⟩ := V14.out.cells
        have ⟨z0, z1, z2, z3, z4, z5, z6⟩ := U14.out.cells
        go_wp2_with fail
        refine (laws_sameInts _ _ _ _ _ O14.out.ints P14.out.ints (by simp) (by simp)).mono ?_
        clear y0 y1 y2 y3 y4 y5 y6 z0 z1 z2 z3 z4 z5 z6
        rintro e w15 ⟨rfl, q2, rfl⟩
        rw [show decide ([rv] = [rv]) = true from decide_eq_true rfl]
        have O15 := O14.out.all (below_drewN (Below.refl w14.heap.size w14) q2)
        have B15 := below_drewN B14.out q2
        have x0 := O15.cell 0 (by simp)
        clear O14 P14 V14 U14 B14
        generalize w14.drewN q2 = W15 at *
        go_wp2
        go_ret
        exact ⟨rfl, B15⟩
    · rcases hg with rfl | rfl | rfl | rfl
      · have cl1s := conv_lit1 w7 (c : Int)
        have HY : Hid (T ++ (⟨#[15]⟩ : ByteArray) ++ bs [(c : Int)] = namedT n 0 c) := Lib.hid (by rw [HTE.out, codeB_one h255]; rfl)
        have hYs : (bs [(c : Int)]).size ≤ 2 := by rw [codeB_one h255]; exact codeB_small c
        have hSs : (⟨#[15]⟩ : ByteArray).size = 1 := rfl
        have hTS : (T ++ (⟨#[15]⟩ : ByteArray)).size ≤ 10 := by rw [ByteArray.size_append]; omega
        have k1 := fun w => cat_esc T ⟨#[15]⟩ (by omega) w
        have k2 := fun w => cat_esc (T ++ ⟨#[15]⟩) (bs [(c : Int)]) (by omega) w
        have hNs : (namedT n 0 c).size ≤ 9223372036854775807 := by rw [← HY.out, ByteArray.size_append]; omega
        have BX := Lib.hid ((B7.alloc B7.size (.cells #[.int .u8 (c : Int)] 5)).alloc (B7.alloc B7.size (.cells #[.int .u8 (c : Int)] 5)).size (.cells #[.string ⟨#[15]⟩, .string ⟨#[14]⟩, .string ⟨#[27, 110]⟩, .string ⟨#[27, 111]⟩] 9))
        clear hYs hSs hTS
        go_wp2_with fail
        refine (HST.out _).mono ?_
        generalize (w7.alloc (.cells #[.int .u8 (c : Int)] 5)).alloc (.cells #[.string ⟨#[15]⟩, .string ⟨#[14]⟩, .string ⟨#[27, 110]⟩, .string ⟨#[27, 111]⟩] 9) = W8 at *
        rintro e w9 ⟨rfl, b9⟩
        have B9 := Lib.hid (BX.out.trans (b9.mono BX.out.size))
        clear b9 BX cl1s B7
        have ⟨p1, p2, p3, p4, p5, p6⟩ := HP.out
        have HRI := Lib.hid (fun w ht => impl_RunState startSt (namedT n 0 c) w ht ⟨by decide, by decide⟩ hNs)
        have HRS := Lib.hid (fun w => spec_RunState startSt (namedT n 0 c) w hNs)
        clear HP
        generalize rsR startSt (namedT n 0 c) = q at *
        have HRF := Lib.hid (fun w ht => impl_RuneFor (n : Int) c w ht (by omega) (by omega))
        rw [rfV_ok (n : Int) c (by rw [rfC, if_pos (show setB (n : Int) = true by simp [setB, inB]; omega), if_pos p6, if_neg (by omega)])] at HRF
        have hld := lead_range (stOK_parts p4).2.2
        have HRG := Lib.hid (fun w ht => impl_RegisterOf q.y ((0 : Nat) : Int) w ht ⟨by omega, by omega⟩)
        rw [rgoV_ok (x := q.y) (n := ((0 : Nat) : Int)) (by rw [rgoC, if_pos p4]; rfl), p3] at HRG
        unfold RunDone stV startSt at HRI HRS
        unfold stV at HRG
        rw [p1, p2] at HRI HRS
        generalize runeS (setSpans (n : Int)) (c : Int) = rv at *
        clear p1 p2 p3 p4 p5 p6 hld hNs
        go_wp2_with fail
        rw [HY.out]
        refine (HRI.out _ (HT.out.keep B9.out)).mono ?_
        rintro e w10 ⟨v1, rfl, o1, b10⟩
        have B10 := Lib.hid (B9.out.trans (b10.mono B9.out.size))
        have V10 := Lib.hid (StAt.new w10 q.y)
        have O10 := Lib.hid (o1.alloc (.cells #[.int .i64 q.y.g0, .int .i64 q.y.g1, .int .i64 q.y.g2, .int .i64 q.y.g3, .int .i64 q.y.l, .int .i64 q.y.s, .int .i64 q.y.d] 24))
        have B10b := Lib.hid (B10.out.alloc B10.out.size (.cells #[.int .i64 q.y.g0, .int .i64 q.y.g1, .int .i64 q.y.g2, .int .i64 q.y.g3, .int .i64 q.y.l, .int .i64 q.y.s, .int .i64 q.y.d] 24))
        clear o1 b10 B9 B10
        go_wp2_with fail
        refine (HSS.out _).mono ?_
        generalize w10.alloc (.cells #[.int .i64 q.y.g0, .int .i64 q.y.g1, .int .i64 q.y.g2, .int .i64 q.y.g3, .int .i64 q.y.l, .int .i64 q.y.s, .int .i64 q.y.d] 24) = W10 at *
        rintro e w11 ⟨rfl, b11⟩
        have B11 := Lib.hid (B10b.out.trans (b11.mono B10b.out.size))
        have V11 := Lib.hid (V10.out.keep b11)
        have O11 := Lib.hid (O10.out.all b11)
        clear b11 V10 O10 B10b
        go_wp2_with fail
        rw [HY.out]
        refine (HRS.out _).mono ?_
        rintro e w12 ⟨v2, rfl, o2, b12⟩
        have B12 := Lib.hid (B11.out.trans (b12.mono B11.out.size))
        have V12 := Lib.hid ((V11.out.keep b12).keep (below_one w12 (.cells #[.int .i64 q.y.g0, .int .i64 q.y.g1, .int .i64 q.y.g2, .int .i64 q.y.g3, .int .i64 q.y.l, .int .i64 q.y.s, .int .i64 q.y.d] 24)))
        have U12 := Lib.hid (StAt.new w12 q.y)
        have O12 := Lib.hid ((O11.out.all b12).alloc (.cells #[.int .i64 q.y.g0, .int .i64 q.y.g1, .int .i64 q.y.g2, .int .i64 q.y.g3, .int .i64 q.y.l, .int .i64 q.y.s, .int .i64 q.y.d] 24))
        have P12 := Lib.hid (o2.alloc (.cells #[.int .i64 q.y.g0, .int .i64 q.y.g1, .int .i64 q.y.g2, .int .i64 q.y.g3, .int .i64 q.y.l, .int .i64 q.y.s, .int .i64 q.y.d] 24))
        have B12b := Lib.hid (B12.out.alloc B12.out.size (.cells #[.int .i64 q.y.g0, .int .i64 q.y.g1, .int .i64 q.y.g2, .int .i64 q.y.g3, .int .i64 q.y.l, .int .i64 q.y.s, .int .i64 q.y.d] 24))
        clear b12 o2 V11 O11 B11 B12
        go_wp2_with fail
        refine (HRF.out _ (HT.out.keep B12b.out).1).mono ?_
        generalize w12.alloc (.cells #[.int .i64 q.y.g0, .int .i64 q.y.g1, .int .i64 q.y.g2, .int .i64 q.y.g3, .int .i64 q.y.l, .int .i64 q.y.s, .int .i64 q.y.d] 24) = W12 at *
        rintro e w13 ⟨rfl, b13⟩
        have B13 := Lib.hid (B12b.out.trans (b13.mono B12b.out.size))
        have V13 := Lib.hid (V12.out.keep b13)
        have U13 := Lib.hid (U12.out.keep b13)
        have O13 := Lib.hid (O12.out.all b13)
        have P13 := Lib.hid (P12.out.all b13)
        clear b13 V12 U12 O12 P12 B12b
        have ⟨y0, y1, y2, y3, y4, y5, y6⟩ := V13.out.cells
        go_wp2_with fail
        refine (HRG.out _ (HT.out.keep B13.out)).mono ?_
        clear y0 y1 y2 y3 y4 y5 y6
        rintro e w14 ⟨rfl, b14⟩
        have B14 := Lib.hid (B13.out.trans (b14.mono B13.out.size))
        have V14 := Lib.hid (V13.out.keep b14)
        have U14 := Lib.hid (U13.out.keep b14)
        have O14 := Lib.hid (O13.out.all b14)
        have P14 := Lib.hid (P13.out.all b14)
        clear b14 V13 U13 O13 P13 B13
        have hv1 : ∃ g1 cap1, v1 = .slice (some ⟨g1, 0, none⟩) 1 cap1 := by
          rcases O14.out.2 with ⟨_, h0⟩ | ⟨g1, cap1, cur, hv, _⟩
          · simp at h0
          · exact ⟨g1, cap1, hv⟩
        obtain ⟨g1, cap1, rfl⟩ := hv1
        have SE := fun w => state_eq q.y w
        have SG := state_guard
        have ⟨y0, y1, y2, y3, y4, y5, y6⟩ := V14.out.cells
        have ⟨z0, z1, z2, z3, z4, z5, z6⟩ := U14.out.cells
        go_wp2_with fail
        refine (laws_sameInts _ _ _ _ _ O14.out.ints P14.out.ints (by simp) (by simp)).mono ?_
        clear y0 y1 y2 y3 y4 y5 y6 z0 z1 z2 z3 z4 z5 z6
        rintro e w15 ⟨rfl, q2, rfl⟩
        rw [show decide ([rv] = [rv]) = true from decide_eq_true rfl]
        have O15 := O14.out.all (below_drewN (Below.refl w14.heap.size w14) q2)
        have B15 := below_drewN B14.out q2
        have x0 := O15.cell 0 (by simp)
        clear O14 P14 V14 U14 B14
        generalize w14.drewN q2 = W15 at *
        go_wp2
        go_ret
        exact ⟨rfl, B15⟩
      · have cl1s := conv_lit1 w7 (c : Int)
        have HY : Hid (T ++ (⟨#[14]⟩ : ByteArray) ++ bs [(c : Int)] = namedT n 1 c) := Lib.hid (by rw [HTE.out, codeB_one h255]; rfl)
        have hYs : (bs [(c : Int)]).size ≤ 2 := by rw [codeB_one h255]; exact codeB_small c
        have hSs : (⟨#[14]⟩ : ByteArray).size = 1 := rfl
        have hTS : (T ++ (⟨#[14]⟩ : ByteArray)).size ≤ 10 := by rw [ByteArray.size_append]; omega
        have k1 := fun w => cat_esc T ⟨#[14]⟩ (by omega) w
        have k2 := fun w => cat_esc (T ++ ⟨#[14]⟩) (bs [(c : Int)]) (by omega) w
        have hNs : (namedT n 1 c).size ≤ 9223372036854775807 := by rw [← HY.out, ByteArray.size_append]; omega
        have BX := Lib.hid ((B7.alloc B7.size (.cells #[.int .u8 (c : Int)] 5)).alloc (B7.alloc B7.size (.cells #[.int .u8 (c : Int)] 5)).size (.cells #[.string ⟨#[15]⟩, .string ⟨#[14]⟩, .string ⟨#[27, 110]⟩, .string ⟨#[27, 111]⟩] 9))
        clear hYs hSs hTS
        go_wp2_with fail
        refine (HST.out _).mono ?_
        generalize (w7.alloc (.cells #[.int .u8 (c : Int)] 5)).alloc (.cells #[.string ⟨#[15]⟩, .string ⟨#[14]⟩, .string ⟨#[27, 110]⟩, .string ⟨#[27, 111]⟩] 9) = W8 at *
        rintro e w9 ⟨rfl, b9⟩
        have B9 := Lib.hid (BX.out.trans (b9.mono BX.out.size))
        clear b9 BX cl1s B7
        have ⟨p1, p2, p3, p4, p5, p6⟩ := HP.out
        have HRI := Lib.hid (fun w ht => impl_RunState startSt (namedT n 1 c) w ht ⟨by decide, by decide⟩ hNs)
        have HRS := Lib.hid (fun w => spec_RunState startSt (namedT n 1 c) w hNs)
        clear HP
        generalize rsR startSt (namedT n 1 c) = q at *
        have HRF := Lib.hid (fun w ht => impl_RuneFor (n : Int) c w ht (by omega) (by omega))
        rw [rfV_ok (n : Int) c (by rw [rfC, if_pos (show setB (n : Int) = true by simp [setB, inB]; omega), if_pos p6, if_neg (by omega)])] at HRF
        have hld := lead_range (stOK_parts p4).2.2
        have HRG := Lib.hid (fun w ht => impl_RegisterOf q.y ((1 : Nat) : Int) w ht ⟨by omega, by omega⟩)
        rw [rgoV_ok (x := q.y) (n := ((1 : Nat) : Int)) (by rw [rgoC, if_pos p4]; rfl), p3] at HRG
        unfold RunDone stV startSt at HRI HRS
        unfold stV at HRG
        rw [p1, p2] at HRI HRS
        generalize runeS (setSpans (n : Int)) (c : Int) = rv at *
        clear p1 p2 p3 p4 p5 p6 hld hNs
        go_wp2_with fail
        rw [HY.out]
        refine (HRI.out _ (HT.out.keep B9.out)).mono ?_
        rintro e w10 ⟨v1, rfl, o1, b10⟩
        have B10 := Lib.hid (B9.out.trans (b10.mono B9.out.size))
        have V10 := Lib.hid (StAt.new w10 q.y)
        have O10 := Lib.hid (o1.alloc (.cells #[.int .i64 q.y.g0, .int .i64 q.y.g1, .int .i64 q.y.g2, .int .i64 q.y.g3, .int .i64 q.y.l, .int .i64 q.y.s, .int .i64 q.y.d] 24))
        have B10b := Lib.hid (B10.out.alloc B10.out.size (.cells #[.int .i64 q.y.g0, .int .i64 q.y.g1, .int .i64 q.y.g2, .int .i64 q.y.g3, .int .i64 q.y.l, .int .i64 q.y.s, .int .i64 q.y.d] 24))
        clear o1 b10 B9 B10
        go_wp2_with fail
        refine (HSS.out _).mono ?_
        generalize w10.alloc (.cells #[.int .i64 q.y.g0, .int .i64 q.y.g1, .int .i64 q.y.g2, .int .i64 q.y.g3, .int .i64 q.y.l, .int .i64 q.y.s, .int .i64 q.y.d] 24) = W10 at *
        rintro e w11 ⟨rfl, b11⟩
        have B11 := Lib.hid (B10b.out.trans (b11.mono B10b.out.size))
        have V11 := Lib.hid (V10.out.keep b11)
        have O11 := Lib.hid (O10.out.all b11)
        clear b11 V10 O10 B10b
        go_wp2_with fail
        rw [HY.out]
        refine (HRS.out _).mono ?_
        rintro e w12 ⟨v2, rfl, o2, b12⟩
        have B12 := Lib.hid (B11.out.trans (b12.mono B11.out.size))
        have V12 := Lib.hid ((V11.out.keep b12).keep (below_one w12 (.cells #[.int .i64 q.y.g0, .int .i64 q.y.g1, .int .i64 q.y.g2, .int .i64 q.y.g3, .int .i64 q.y.l, .int .i64 q.y.s, .int .i64 q.y.d] 24)))
        have U12 := Lib.hid (StAt.new w12 q.y)
        have O12 := Lib.hid ((O11.out.all b12).alloc (.cells #[.int .i64 q.y.g0, .int .i64 q.y.g1, .int .i64 q.y.g2, .int .i64 q.y.g3, .int .i64 q.y.l, .int .i64 q.y.s, .int .i64 q.y.d] 24))
        have P12 := Lib.hid (o2.alloc (.cells #[.int .i64 q.y.g0, .int .i64 q.y.g1, .int .i64 q.y.g2, .int .i64 q.y.g3, .int .i64 q.y.l, .int .i64 q.y.s, .int .i64 q.y.d] 24))
        have B12b := Lib.hid (B12.out.alloc B12.out.size (.cells #[.int .i64 q.y.g0, .int .i64 q.y.g1, .int .i64 q.y.g2, .int .i64 q.y.g3, .int .i64 q.y.l, .int .i64 q.y.s, .int .i64 q.y.d] 24))
        clear b12 o2 V11 O11 B11 B12
        go_wp2_with fail
        refine (HRF.out _ (HT.out.keep B12b.out).1).mono ?_
        generalize w12.alloc (.cells #[.int .i64 q.y.g0, .int .i64 q.y.g1, .int .i64 q.y.g2, .int .i64 q.y.g3, .int .i64 q.y.l, .int .i64 q.y.s, .int .i64 q.y.d] 24) = W12 at *
        rintro e w13 ⟨rfl, b13⟩
        have B13 := Lib.hid (B12b.out.trans (b13.mono B12b.out.size))
        have V13 := Lib.hid (V12.out.keep b13)
        have U13 := Lib.hid (U12.out.keep b13)
        have O13 := Lib.hid (O12.out.all b13)
        have P13 := Lib.hid (P12.out.all b13)
        clear b13 V12 U12 O12 P12 B12b
        have ⟨y0, y1, y2, y3, y4, y5, y6⟩ := V13.out.cells
        go_wp2_with fail
        refine (HRG.out _ (HT.out.keep B13.out)).mono ?_
        clear y0 y1 y2 y3 y4 y5 y6
        rintro e w14 ⟨rfl, b14⟩
        have B14 := Lib.hid (B13.out.trans (b14.mono B13.out.size))
        have V14 := Lib.hid (V13.out.keep b14)
        have U14 := Lib.hid (U13.out.keep b14)
        have O14 := Lib.hid (O13.out.all b14)
        have P14 := Lib.hid (P13.out.all b14)
        clear b14 V13 U13 O13 P13 B13
        have hv1 : ∃ g1 cap1, v1 = .slice (some ⟨g1, 0, none⟩) 1 cap1 := by
          rcases O14.out.2 with ⟨_, h0⟩ | ⟨g1, cap1, cur, hv, _⟩
          · simp at h0
          · exact ⟨g1, cap1, hv⟩
        obtain ⟨g1, cap1, rfl⟩ := hv1
        have SE := fun w => state_eq q.y w
        have SG := state_guard
        have ⟨y0, y1, y2, y3, y4, y5, y6⟩ := V14.out.cells
        have ⟨z0, z1, z2, z3, z4, z5, z6⟩ := U14.out.cells
        go_wp2_with fail
        refine (laws_sameInts _ _ _ _ _ O14.out.ints P14.out.ints (by simp) (by simp)).mono ?_
        clear y0 y1 y2 y3 y4 y5 y6 z0 z1 z2 z3 z4 z5 z6
        rintro e w15 ⟨rfl, q2, rfl⟩
        rw [show decide ([rv] = [rv]) = true from decide_eq_true rfl]
        have O15 := O14.out.all (below_drewN (Below.refl w14.heap.size w14) q2)
        have B15 := below_drewN B14.out q2
        have x0 := O15.cell 0 (by simp)
        clear O14 P14 V14 U14 B14
        generalize w14.drewN q2 = W15 at *
        go_wp2
        go_ret
        exact ⟨rfl, B15⟩
      · have cl1s := conv_lit1 w7 (c : Int)
        have HY : Hid (T ++ (⟨#[27, 110]⟩ : ByteArray) ++ bs [(c : Int)] = namedT n 2 c) := Lib.hid (by rw [HTE.out, codeB_one h255]; rfl)
        have hYs : (bs [(c : Int)]).size ≤ 2 := by rw [codeB_one h255]; exact codeB_small c
        have hSs : (⟨#[27, 110]⟩ : ByteArray).size = 2 := rfl
        have hTS : (T ++ (⟨#[27, 110]⟩ : ByteArray)).size ≤ 10 := by rw [ByteArray.size_append]; omega
        have k1 := fun w => cat_esc T ⟨#[27, 110]⟩ (by omega) w
        have k2 := fun w => cat_esc (T ++ ⟨#[27, 110]⟩) (bs [(c : Int)]) (by omega) w
        have hNs : (namedT n 2 c).size ≤ 9223372036854775807 := by rw [← HY.out, ByteArray.size_append]; omega
        have BX := Lib.hid ((B7.alloc B7.size (.cells #[.int .u8 (c : Int)] 5)).alloc (B7.alloc B7.size (.cells #[.int .u8 (c : Int)] 5)).size (.cells #[.string ⟨#[15]⟩, .string ⟨#[14]⟩, .string ⟨#[27, 110]⟩, .string ⟨#[27, 111]⟩] 9))
        clear hYs hSs hTS
        go_wp2_with fail
        refine (HST.out _).mono ?_
        generalize (w7.alloc (.cells #[.int .u8 (c : Int)] 5)).alloc (.cells #[.string ⟨#[15]⟩, .string ⟨#[14]⟩, .string ⟨#[27, 110]⟩, .string ⟨#[27, 111]⟩] 9) = W8 at *
        rintro e w9 ⟨rfl, b9⟩
        have B9 := Lib.hid (BX.out.trans (b9.mono BX.out.size))
        clear b9 BX cl1s B7
        have ⟨p1, p2, p3, p4, p5, p6⟩ := HP.out
        have HRI := Lib.hid (fun w ht => impl_RunState startSt (namedT n 2 c) w ht ⟨by decide, by decide⟩ hNs)
        have HRS := Lib.hid (fun w => spec_RunState startSt (namedT n 2 c) w hNs)
        clear HP
        generalize rsR startSt (namedT n 2 c) = q at *
        have HRF := Lib.hid (fun w ht => impl_RuneFor (n : Int) c w ht (by omega) (by omega))
        rw [rfV_ok (n : Int) c (by rw [rfC, if_pos (show setB (n : Int) = true by simp [setB, inB]; omega), if_pos p6, if_neg (by omega)])] at HRF
        have hld := lead_range (stOK_parts p4).2.2
        have HRG := Lib.hid (fun w ht => impl_RegisterOf q.y ((2 : Nat) : Int) w ht ⟨by omega, by omega⟩)
        rw [rgoV_ok (x := q.y) (n := ((2 : Nat) : Int)) (by rw [rgoC, if_pos p4]; rfl), p3] at HRG
        unfold RunDone stV startSt at HRI HRS
        unfold stV at HRG
        rw [p1, p2] at HRI HRS
        generalize runeS (setSpans (n : Int)) (c : Int) = rv at *
        clear p1 p2 p3 p4 p5 p6 hld hNs
        go_wp2_with fail
        rw [HY.out]
        refine (HRI.out _ (HT.out.keep B9.out)).mono ?_
        rintro e w10 ⟨v1, rfl, o1, b10⟩
        have B10 := Lib.hid (B9.out.trans (b10.mono B9.out.size))
        have V10 := Lib.hid (StAt.new w10 q.y)
        have O10 := Lib.hid (o1.alloc (.cells #[.int .i64 q.y.g0, .int .i64 q.y.g1, .int .i64 q.y.g2, .int .i64 q.y.g3, .int .i64 q.y.l, .int .i64 q.y.s, .int .i64 q.y.d] 24))
        have B10b := Lib.hid (B10.out.alloc B10.out.size (.cells #[.int .i64 q.y.g0, .int .i64 q.y.g1, .int .i64 q.y.g2, .int .i64 q.y.g3, .int .i64 q.y.l, .int .i64 q.y.s, .int .i64 q.y.d] 24))
        clear o1 b10 B9 B10
        go_wp2_with fail
        refine (HSS.out _).mono ?_
        generalize w10.alloc (.cells #[.int .i64 q.y.g0, .int .i64 q.y.g1, .int .i64 q.y.g2, .int .i64 q.y.g3, .int .i64 q.y.l, .int .i64 q.y.s, .int .i64 q.y.d] 24) = W10 at *
        rintro e w11 ⟨rfl, b11⟩
        have B11 := Lib.hid (B10b.out.trans (b11.mono B10b.out.size))
        have V11 := Lib.hid (V10.out.keep b11)
        have O11 := Lib.hid (O10.out.all b11)
        clear b11 V10 O10 B10b
        go_wp2_with fail
        rw [HY.out]
        refine (HRS.out _).mono ?_
        rintro e w12 ⟨v2, rfl, o2, b12⟩
        have B12 := Lib.hid (B11.out.trans (b12.mono B11.out.size))
        have V12 := Lib.hid ((V11.out.keep b12).keep (below_one w12 (.cells #[.int .i64 q.y.g0, .int .i64 q.y.g1, .int .i64 q.y.g2, .int .i64 q.y.g3, .int .i64 q.y.l, .int .i64 q.y.s, .int .i64 q.y.d] 24)))
        have U12 := Lib.hid (StAt.new w12 q.y)
        have O12 := Lib.hid ((O11.out.all b12).alloc (.cells #[.int .i64 q.y.g0, .int .i64 q.y.g1, .int .i64 q.y.g2, .int .i64 q.y.g3, .int .i64 q.y.l, .int .i64 q.y.s, .int .i64 q.y.d] 24))
        have P12 := Lib.hid (o2.alloc (.cells #[.int .i64 q.y.g0, .int .i64 q.y.g1, .int .i64 q.y.g2, .int .i64 q.y.g3, .int .i64 q.y.l, .int .i64 q.y.s, .int .i64 q.y.d] 24))
        have B12b := Lib.hid (B12.out.alloc B12.out.size (.cells #[.int .i64 q.y.g0, .int .i64 q.y.g1, .int .i64 q.y.g2, .int .i64 q.y.g3, .int .i64 q.y.l, .int .i64 q.y.s, .int .i64 q.y.d] 24))
        clear b12 o2 V11 O11 B11 B12
        go_wp2_with fail
        refine (HRF.out _ (HT.out.keep B12b.out).1).mono ?_
        generalize w12.alloc (.cells #[.int .i64 q.y.g0, .int .i64 q.y.g1, .int .i64 q.y.g2, .int .i64 q.y.g3, .int .i64 q.y.l, .int .i64 q.y.s, .int .i64 q.y.d] 24) = W12 at *
        rintro e w13 ⟨rfl, b13⟩
        have B13 := Lib.hid (B12b.out.trans (b13.mono B12b.out.size))
        have V13 := Lib.hid (V12.out.keep b13)
        have U13 := Lib.hid (U12.out.keep b13)
        have O13 := Lib.hid (O12.out.all b13)
        have P13 := Lib.hid (P12.out.all b13)
        clear b13 V12 U12 O12 P12 B12b
        have ⟨y0, y1, y2, y3, y4, y5, y6⟩ := V13.out.cells
        go_wp2_with fail
        refine (HRG.out _ (HT.out.keep B13.out)).mono ?_
        clear y0 y1 y2 y3 y4 y5 y6
        rintro e w14 ⟨rfl, b14⟩
        have B14 := Lib.hid (B13.out.trans (b14.mono B13.out.size))
        have V14 := Lib.hid (V13.out.keep b14)
        have U14 := Lib.hid (U13.out.keep b14)
        have O14 := Lib.hid (O13.out.all b14)
        have P14 := Lib.hid (P13.out.all b14)
        clear b14 V13 U13 O13 P13 B13
        have hv1 : ∃ g1 cap1, v1 = .slice (some ⟨g1, 0, none⟩) 1 cap1 := by
          rcases O14.out.2 with ⟨_, h0⟩ | ⟨g1, cap1, cur, hv, _⟩
          · simp at h0
          · exact ⟨g1, cap1, hv⟩
        obtain ⟨g1, cap1, rfl⟩ := hv1
        have SE := fun w => state_eq q.y w
        have SG := state_guard
        have ⟨y0, y1, y2, y3, y4, y5, y6⟩ := V14.out.cells
        have ⟨z0, z1, z2, z3, z4, z5, z6⟩ := U14.out.cells
        go_wp2_with fail
        refine (laws_sameInts _ _ _ _ _ O14.out.ints P14.out.ints (by simp) (by simp)).mono ?_
        clear y0 y1 y2 y3 y4 y5 y6 z0 z1 z2 z3 z4 z5 z6
        rintro e w15 ⟨rfl, q2, rfl⟩
        rw [show decide ([rv] = [rv]) = true from decide_eq_true rfl]
        have O15 := O14.out.all (below_drewN (Below.refl w14.heap.size w14) q2)
        have B15 := below_drewN B14.out q2
        have x0 := O15.cell 0 (by simp)
        clear O14 P14 V14 U14 B14
        generalize w14.drewN q2 = W15 at *
        go_wp2
        go_ret
        exact ⟨rfl, B15⟩
      · have cl1s := conv_lit1 w7 (c : Int)
        have HY : Hid (T ++ (⟨#[27, 111]⟩ : ByteArray) ++ bs [(c : Int)] = namedT n 3 c) := Lib.hid (by rw [HTE.out, codeB_one h255]; rfl)
        have hYs : (bs [(c : Int)]).size ≤ 2 := by rw [codeB_one h255]; exact codeB_small c
        have hSs : (⟨#[27, 111]⟩ : ByteArray).size = 2 := rfl
        have hTS : (T ++ (⟨#[27, 111]⟩ : ByteArray)).size ≤ 10 := by rw [ByteArray.size_append]; omega
        have k1 := fun w => cat_esc T ⟨#[27, 111]⟩ (by omega) w
        have k2 := fun w => cat_esc (T ++ ⟨#[27, 111]⟩) (bs [(c : Int)]) (by omega) w
        have hNs : (namedT n 3 c).size ≤ 9223372036854775807 := by rw [← HY.out, ByteArray.size_append]; omega
        have BX := Lib.hid ((B7.alloc B7.size (.cells #[.int .u8 (c : Int)] 5)).alloc (B7.alloc B7.size (.cells #[.int .u8 (c : Int)] 5)).size (.cells #[.string ⟨#[15]⟩, .string ⟨#[14]⟩, .string ⟨#[27, 110]⟩, .string ⟨#[27, 111]⟩] 9))
        clear hYs hSs hTS
        go_wp2_with fail
        refine (HST.out _).mono ?_
        generalize (w7.alloc (.cells #[.int .u8 (c : Int)] 5)).alloc (.cells #[.string ⟨#[15]⟩, .string ⟨#[14]⟩, .string ⟨#[27, 110]⟩, .string ⟨#[27, 111]⟩] 9) = W8 at *
        rintro e w9 ⟨rfl, b9⟩
        have B9 := Lib.hid (BX.out.trans (b9.mono BX.out.size))
        clear b9 BX cl1s B7
        have ⟨p1, p2, p3, p4, p5, p6⟩ := HP.out
        have HRI := Lib.hid (fun w ht => impl_RunState startSt (namedT n 3 c) w ht ⟨by decide, by decide⟩ hNs)
        have HRS := Lib.hid (fun w => spec_RunState startSt (namedT n 3 c) w hNs)
        clear HP
        generalize rsR startSt (namedT n 3 c) = q at *
        have HRF := Lib.hid (fun w ht => impl_RuneFor (n : Int) c w ht (by omega) (by omega))
        rw [rfV_ok (n : Int) c (by rw [rfC, if_pos (show setB (n : Int) = true by simp [setB, inB]; omega), if_pos p6, if_neg (by omega)])] at HRF
        have hld := lead_range (stOK_parts p4).2.2
        have HRG := Lib.hid (fun w ht => impl_RegisterOf q.y ((3 : Nat) : Int) w ht ⟨by omega, by omega⟩)
        rw [rgoV_ok (x := q.y) (n := ((3 : Nat) : Int)) (by rw [rgoC, if_pos p4]; rfl), p3] at HRG
        unfold RunDone stV startSt at HRI HRS
        unfold stV at HRG
        rw [p1, p2] at HRI HRS
        generalize runeS (setSpans (n : Int)) (c : Int) = rv at *
        clear p1 p2 p3 p4 p5 p6 hld hNs
        go_wp2_with fail
        rw [HY.out]
        refine (HRI.out _ (HT.out.keep B9.out)).mono ?_
        rintro e w10 ⟨v1, rfl, o1, b10⟩
        have B10 := Lib.hid (B9.out.trans (b10.mono B9.out.size))
        have V10 := Lib.hid (StAt.new w10 q.y)
        have O10 := Lib.hid (o1.alloc (.cells #[.int .i64 q.y.g0, .int .i64 q.y.g1, .int .i64 q.y.g2, .int .i64 q.y.g3, .int .i64 q.y.l, .int .i64 q.y.s, .int .i64 q.y.d] 24))
        have B10b := Lib.hid (B10.out.alloc B10.out.size (.cells #[.int .i64 q.y.g0, .int .i64 q.y.g1, .int .i64 q.y.g2, .int .i64 q.y.g3, .int .i64 q.y.l, .int .i64 q.y.s, .int .i64 q.y.d] 24))
        clear o1 b10 B9 B10
        go_wp2_with fail
        refine (HSS.out _).mono ?_
        generalize w10.alloc (.cells #[.int .i64 q.y.g0, .int .i64 q.y.g1, .int .i64 q.y.g2, .int .i64 q.y.g3, .int .i64 q.y.l, .int .i64 q.y.s, .int .i64 q.y.d] 24) = W10 at *
        rintro e w11 ⟨rfl, b11⟩
        have B11 := Lib.hid (B10b.out.trans (b11.mono B10b.out.size))
        have V11 := Lib.hid (V10.out.keep b11)
        have O11 := Lib.hid (O10.out.all b11)
        clear b11 V10 O10 B10b
        go_wp2_with fail
        rw [HY.out]
        refine (HRS.out _).mono ?_
        rintro e w12 ⟨v2, rfl, o2, b12⟩
        have B12 := Lib.hid (B11.out.trans (b12.mono B11.out.size))
        have V12 := Lib.hid ((V11.out.keep b12).keep (below_one w12 (.cells #[.int .i64 q.y.g0, .int .i64 q.y.g1, .int .i64 q.y.g2, .int .i64 q.y.g3, .int .i64 q.y.l, .int .i64 q.y.s, .int .i64 q.y.d] 24)))
        have U12 := Lib.hid (StAt.new w12 q.y)
        have O12 := Lib.hid ((O11.out.all b12).alloc (.cells #[.int .i64 q.y.g0, .int .i64 q.y.g1, .int .i64 q.y.g2, .int .i64 q.y.g3, .int .i64 q.y.l, .int .i64 q.y.s, .int .i64 q.y.d] 24))
        have P12 := Lib.hid (o2.alloc (.cells #[.int .i64 q.y.g0, .int .i64 q.y.g1, .int .i64 q.y.g2, .int .i64 q.y.g3, .int .i64 q.y.l, .int .i64 q.y.s, .int .i64 q.y.d] 24))
        have B12b := Lib.hid (B12.out.alloc B12.out.size (.cells #[.int .i64 q.y.g0, .int .i64 q.y.g1, .int .i64 q.y.g2, .int .i64 q.y.g3, .int .i64 q.y.l, .int .i64 q.y.s, .int .i64 q.y.d] 24))
        clear b12 o2 V11 O11 B11 B12
        go_wp2_with fail
        refine (HRF.out _ (HT.out.keep B12b.out).1).mono ?_
        generalize w12.alloc (.cells #[.int .i64 q.y.g0, .int .i64 q.y.g1, .int .i64 q.y.g2, .int .i64 q.y.g3, .int .i64 q.y.l, .int .i64 q.y.s, .int .i64 q.y.d] 24) = W12 at *
        rintro e w13 ⟨rfl, b13⟩
        have B13 := Lib.hid (B12b.out.trans (b13.mono B12b.out.size))
        have V13 := Lib.hid (V12.out.keep b13)
        have U13 := Lib.hid (U12.out.keep b13)
        have O13 := Lib.hid (O12.out.all b13)
        have P13 := Lib.hid (P12.out.all b13)
        clear b13 V12 U12 O12 P12 B12b
        have ⟨y0, y1, y2, y3, y4, y5, y6⟩ := V13.out.cells
        go_wp2_with fail
        refine (HRG.out _ (HT.out.keep B13.out)).mono ?_
        clear y0 y1 y2 y3 y4 y5 y6
        rintro e w14 ⟨rfl, b14⟩
        have B14 := Lib.hid (B13.out.trans (b14.mono B13.out.size))
        have V14 := Lib.hid (V13.out.keep b14)
        have U14 := Lib.hid (U13.out.keep b14)
        have O14 := Lib.hid (O13.out.all b14)
        have P14 := Lib.hid (P13.out.all b14)
        clear b14 V13 U13 O13 P13 B13
        have hv1 : ∃ g1 cap1, v1 = .slice (some ⟨g1, 0, none⟩) 1 cap1 := by
          rcases O14.out.2 with ⟨_, h0⟩ | ⟨g1, cap1, cur, hv, _⟩
          · simp at h0
          · exact ⟨g1, cap1, hv⟩
        obtain ⟨g1, cap1, rfl⟩ := hv1
        have SE := fun w => state_eq q.y w
        have SG := state_guard
        have ⟨y0, y1, y2, y3, y4, y5, y6⟩ := V14.out.cells
        have ⟨z0, z1, z2, z3, z4, z5, z6⟩ := U14.out.cells
        go_wp2_with fail
        refine (laws_sameInts _ _ _ _ _ O14.out.ints P14.out.ints (by simp) (by simp)).mono ?_
        clear y0 y1 y2 y3 y4 y5 y6 z0 z1 z2 z3 z4 z5 z6
        rintro e w15 ⟨rfl, q2, rfl⟩
        rw [show decide ([rv] = [rv]) = true from decide_eq_true rfl]
        have O15 := O14.out.all (below_drewN (Below.refl w14.heap.size w14) q2)
        have B15 := below_drewN B14.out q2
        have x0 := O15.cell 0 (by simp)
        clear O14 P14 V14 U14 B14
        generalize w14.drewN q2 = W15 at *
        go_wp2
        go_ret
        exact ⟨rfl, B15⟩
  · have ee : (ce != 0) = true := by simpa using he
    go_wp2
    go_ret
    exact ⟨rfl, B7⟩

theorem table {W : World} (h : laidMetH Tryd.prog Rows.fnNamedRow.laid W) : TabM W := tabM_of_laid h
theorem readable : ∀ n ∈ Rows.fnNamedSpec.vars, ∀ g t, Tryd.prog.globalNamed n = some g → (Tryd.prog.globals[g]?).map (·.type) = some t → Tryd.prog.readableRec t = true ∧ t < Tryd.prog.types.size := sets_readable

end Go.Proofs.YtanceljhdccepaaDoor.fnNamed

namespace Go.Proofs.YtanceljhdccepaaDoor.fnNamed
open Go.ChangeShapes Go.WideShapes Go.ChangeAt Go.RowKit
open Go.ChangeMaps (open_string shut_string)
set_option linter.unusedVariables false

set_option maxRecDepth 100000 in
theorem contract (H : Type) (enc : TypeId × Value → H) (W : World) (base : Nat) (args : Array Value) (ds gs : List (DataW H)) (before : List MemPlace)
    (hval : ∀ (j : Nat) t v, Tryd.f4.params[j]? = some t → args[j]? = some v → Value.okWide Tryd.prog W .any base t v)
    (hW : DataW.Whole enc Tryd.prog Tryd.f4.params.toList Rows.fnNamedSpec.vars false W args.toList ds gs before) (hL : laidMetH Tryd.prog Rows.fnNamedRow.laid W) :
    Calls Tryd.prog 4 args W fun e W' => ∃ v, e = .returned v ∧ Rows.fnNamedSpec.post enc Tryd.prog Tryd.f4 false true false false W args v W' := by
  have HT := Lib.hid (table hL)
  clear hL
  have hW' := hW
  obtain ⟨p, q, hA0, hV0, rfl, hfz, hnd⟩ := hW
  have hV : DataW.TrodVars enc Tryd.prog W (fun _ => true) ["loop.example/g00748/impl.registry"] gs q := hV0
  clear hV0
  have hA : DataW.TrodAll enc Tryd.prog W 0 (fun _ => true) true Tryd.f4.params.toList args.toList ds p := hA0
  rw [Tryd.params4] at hA hval
  obtain ⟨v0, vs0, d0, ds0, p0, q0, hargs, rfl, rfl, h0, r0⟩ := trodAll_cons hA
  obtain ⟨v1, vs1, d1, ds1, p1, q1, rfl, rfl, rfl, h1, r1⟩ := trodAll_cons r0
  obtain ⟨rfl, rfl, rfl⟩ := trodAll_nil r1
  obtain rfl : args = #[v0, v1] := by cases args; simp_all
  have hgs : ∃ d, gs = [d] := by obtain ⟨_, _, _, _, d, _, hgs, _⟩ := trodVars_one hV; exact ⟨d, hgs⟩
  obtain ⟨g1, rfl⟩ := hgs
  obtain ⟨a0, len0, cap0, rfl⟩ := okWide_slice Tryd.underlying22 (hval 0 22 v0 rfl rfl)
  have k0 := h0
  have lt0 : ∀ x ∈ p0, x.block < W.heap.size := by obtain ⟨m, hm⟩ := k0; exact DataW.trod_lt m _ _ _ hm
  obtain ⟨z0, w0⟩ : ∃ zs, IsRow .u8 W a0 len0 cap0 zs := by
    obtain ⟨fuel, hf⟩ := h0
    rcases open_ints Tryd.underlying22 Tryd.underlying5 (by kernel_rfl) hf with ⟨hcs, _⟩ | ⟨x, l, c, zs, hcs, _, hl, hm, hz, _, hcell, hwz⟩
    · simp [Value.cells] at hcs
      obtain ⟨rfl, rfl, rfl⟩ := hcs
      exact ⟨[], .inl ⟨rfl, rfl, rfl, rfl⟩⟩
    · simp [Value.cells] at hcs
      obtain ⟨rfl, rfl, rfl⟩ := hcs
      exact ⟨zs, .inr ⟨_, rfl, hl, hm, by simpa using hz, hcell, hwz⟩⟩
  obtain ⟨a1, len1, cap1, rfl⟩ := okWide_slice Tryd.underlying22 (hval 1 22 v1 rfl rfl)
  have k1 := h1
  have lt1 : ∀ x ∈ p1, x.block < W.heap.size := by obtain ⟨m, hm⟩ := k1; exact DataW.trod_lt m _ _ _ hm
  obtain ⟨z1, w1⟩ : ∃ zs, IsRow .u8 W a1 len1 cap1 zs := by
    obtain ⟨fuel, hf⟩ := h1
    rcases open_ints Tryd.underlying22 Tryd.underlying5 (by kernel_rfl) hf with ⟨hcs, _⟩ | ⟨x, l, c, zs, hcs, _, hl, hm, hz, _, hcell, hwz⟩
    · simp [Value.cells] at hcs
      obtain ⟨rfl, rfl, rfl⟩ := hcs
      exact ⟨[], .inl ⟨rfl, rfl, rfl, rfl⟩⟩
    · simp [Value.cells] at hcs
      obtain ⟨rfl, rfl, rfl⟩ := hcs
      exact ⟨zs, .inr ⟨_, rfl, hl, hm, by simpa using hz, hcell, hwz⟩⟩
  clear hA0
  refine (walk a0 len0 cap0 z0 a1 len1 cap1 z1 W w0 w1 HT.out).mono fun e W' ⟨he, bel⟩ => ?_
  subst he
  exact ⟨_, rfl, _, _, _, [], _, q, hW', trodAll_mk1 (shut_bool Tryd.underlying4 _), (trodAll_cons_mk (Below.trod laidOut (by kernel_rfl) (of_decide_eq_true (by kernel_rfl)) k0 bel lt0) (trodAll_cons_mk (Below.trod laidOut (by kernel_rfl) (of_decide_eq_true (by kernel_rfl)) k1 bel lt1) trodAll_mk0)), trodVars_below laidOut bel readable hV, bel.frame _, fun h => by cases h⟩

theorem laid_met (os : Os) : laidMetH Tryd.prog Rows.fnNamedRow.laid ((World.doorLaid Tryd.prog 400 os).forCall (fun _ _ => 0) ⟨#[], #[.slice none 0 0, .slice none 0 0], []⟩).memory :=
  laidMetH_of_parts3 (fuel := 8) (laidMet_of_run' 8 (by kernel_rfl) (by kernel_rfl)) (by kernel_rfl) (by kernel_rfl)
theorem reads (os : Os) {H : Type} (enc : TypeId × Value → H) : ∃ x, DataW.whole enc Tryd.prog ((World.doorLaid Tryd.prog 400 os).forCall (fun _ _ => 0) ⟨#[], #[.slice none 0 0, .slice none 0 0], []⟩).memory Tryd.f4.params.toList Rows.fnNamedSpec.vars false #[.slice none 0 0, .slice none 0 0].toList 8 = some x :=
  Option.isSome_iff_exists.1 (by kernel_rfl)

set_option maxRecDepth 100000 in
theorem lifted (os : Os) (started : os.Started) (H : Type) (enc : TypeId × Value → H) (F : Stop.Interp) :
    ReturnsInHanded {} Tryd.checked os 4 .any ((OpenSpec.ofChange Rows.fnNamedSpec).preRow enc Tryd.prog Tryd.f4 Rows.fnNamedRow.domain false Rows.fnNamedRow.laid) (((OpenSpec.ofChange Rows.fnNamedSpec).at F).post enc Tryd.prog Tryd.f4 false true false false) := by
  obtain ⟨x, hx⟩ := reads os enc
  refine returnsInHanded_of_row (C := Tryd.checked) (s := OpenSpec.ofChange Rows.fnNamedSpec) own started (by kernel_rfl) Tryd.func4
    (witness_row_atRef (enc := enc) (C := Tryd.checked) false (World.doorLaid Tryd.prog 400 os) #[.slice none 0 0, .slice none 0 0] rfl (by kernel_rfl) (by kernel_rfl) (by kernel_rfl)
      (OpenSpec.preRow_of_cond 8 hx rfl (fun k hk => by cases hk) (by kernel_rfl) (laid_met os))) ?_
  intro W base args ds gs before hval hW _ _ _ hL _ _
  exact contract H enc W base args ds gs before hval hW hL

theorem said : Rows.FnNamedSaid :=
  OpenClaim.holds_of_cond 4 Tryd.f4 rfl rfl rfl rfl rfl rfl rfl ⟨rfl, rfl, rfl, rfl, rfl⟩ rfl rfl rfl rfl rfl (by kernel_rfl) Tryd.func4 (by kernel_rfl)
    (of_decide_eq_true (by kernel_rfl)) (by unfold Func.isWrapper; first | (rw [if_pos (by decide +kernel)]; kernel_rfl) | (rw [if_neg (by decide +kernel)]; exact ⟨rfl, rfl⟩))
    (fun os started H enc _ F => by rw [OpenClaim.pre_eq_preRow]; exact lifted os started H enc F)

theorem plain (f : FuncId) (fn : Func) (hf : Tryd.pinned.checked.prog.funcNamed "loop.example/g00748/laws.FnNamed" = some f) (hfn : Tryd.pinned.checked.prog.funcs[f]? = some fn) :
    Rows.fnNamedCard.stood.looks = Tryd.pinned.checked.prog.looks [] ∧ ∀ (j : Nat) t, fn.params[j]? = some t → Tryd.pinned.checked.prog.wantsStandIn t = false := by
  obtain rfl : f = 4 := Option.some.inj ((show Tryd.prog.funcNamed "loop.example/g00748/laws.FnNamed" = some 4 by kernel_rfl).symm.trans hf) |>.symm
  obtain rfl : fn = Tryd.f4 := (Option.some.inj (Tryd.func4.symm.trans hfn)).symm
  refine ⟨by kernel_rfl, fun j t ht => ?_⟩
  rw [Tryd.params4] at ht
  have hm := Array.mem_of_getElem? ht
  simp at hm
  subst hm
  exact (show Tryd.prog.wantsStandIn 22 = false by kernel_rfl)

theorem card : Rows.FnNamedCardSaid :=
  Claim7.holds_tied_plain_at .later [] _ _ _ _ said (fun _ h => by cases h) (by kernel_rfl) (fun _ h => by cases h) fnNamed_row_tie rfl ⟨rfl, rfl⟩ (by kernel_rfl) rfl plain (by kernel_rfl)
end Go.Proofs.YtanceljhdccepaaDoor.fnNamed

namespace Go.Proofs.YtanceljhdccepaaDoor
theorem fnNamed_holds : Rows.FnNamedCardSaid := fnNamed.card
end Go.Proofs.YtanceljhdccepaaDoor
