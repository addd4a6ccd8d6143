/- The tied card of 'FnExactStepProfile': from the walk to the given statement. The listed package-level variables start as the program's text lays them (the given tie). Joined of: PrF, SetsJ, MaF, PrJ, PlA, PlB, PlC, PrK, ByteI, TokH, PrL, MaG, MaH, PrG, PrH, PrN, FnExactStepProfileWalk, FnExactStepProfileCard. -/
import Derived.Test.YtjbikenhdgbacaaDoorPrE
import Derived.Test.YtjbikenhdgbacaaDoorSetsT
import Derived.Test.YtjbikenhdgbacaaDoorMaD
import Derived.Test.YtjbikenhdgbacaaDoorPrI
import Derived.Test.YtjbikenhdgbacaaDoorStL
import Derived.Maps.OwnSet
import Derived.Laws.StructEq
import Derived.Great.Frames
import Derived.Test.YtjbikenhdgbacaaDoorPrC
import Derived.Test.YtjbikenhdgbacaaDoorTokB
import Derived.Test.YtjbikenhdgbacaaDoorTokD
import Derived.Test.YtjbikenhdgbacaaDoorEscI
import Derived.Laws.EntriesVeiled
import Derived.Test.YtjbikenhdgbacaaDoorStH
import Derived.Test.YtjbikenhdgbacaaDoorMaC
import Derived.Test.YtjbikenhdgbacaaDoorMaLaid
import Derived.Test.YtjbikenhdgbacaaDoorTokG
import Derived.Deep.RegionWith
import Derived.Deep.DeepCutAuto
import Derived.Test.YtjbikenhdgbacaaDoorCards
import Derived.Test.YtjbikenhdgbacaaDoorTie
import Derived.Test.YtjbikenhdgbacaaDoorVars
import Derived.Lib.Hide
import Derived.Test.YtjbikenhdgbacaaDoorIntStruct

namespace Go.Proofs.YtjbikenhdgbacaaDoor
open Go.RowKit Go.Sort

theorem spec_l05Step (n : Int) (x : St) (t : Tok) (w : World) (hx : stOKB x = true) (ht : tokOKP t) : Calls Tryd.prog 92 #[.int .i64 n, stV x, tokV t] w (StpDone (stepP n x t) w) := by
  by_cases h : t.k = 7
  · exact spec_l05Step7 n x t w hx ht h
  · exact spec_l05StepO n x t w hx ht h
theorem stepP_code {n : Int} {x : St} {t : Tok} (h : (stepP n x t).c ≠ 0) : (stepP n x t).y = x ∧ (stepP n x t).r = -1 := by
  unfold stepP at h ⊢
  repeat' split
  all_goals first | exact ⟨rfl, rfl⟩ | (exfalso; simp_all)
theorem stepP_r {n : Int} {x : St} {t : Tok} (ht : tokOKP t) : (stepP n x t).r = -1 ∨ 0 ≤ (stepP n x t).r := by
  have h := stepT_r (x := x) ht
  unfold stepP
  repeat' split
  all_goals first | exact .inl rfl | exact h
/-- StepProfile: the step, or what is told of bad arguments. -/
def spP (n : Int) (x : St) (t : Tok) : Stp := if proB n = true then (if stOKB x = true ∧ tokOKB t = true then stepP n x t else ⟨zeroSt, -1, 1⟩) else ⟨zeroSt, -1, 5⟩
def SpDone (n : Int) (x : St) (t : Tok) (w : World) (e : Ending) (w' : World) : Prop := e = .returned (toldV (spP n x t)) ∧ Below w.heap.size w w'

set_option maxHeartbeats 1000000 in
set_option maxRecDepth 100000 in
theorem spec_StepProfile (n : Int) (x : St) (t : Tok) (w : World) : Calls Tryd.prog 49 #[.int .i64 n, stV x, tokV t] w (SpDone n x t w) := by
  have ⟨hB0, hT0, hS0, b0⟩ := step_blocks w x t
  have HB0 := Lib.hid hB0
  have HT0 := Lib.hid hT0
  have HS0 := Lib.hid hS0
  have B0 := Lib.hid b0
  clear hB0 hT0 hS0 b0
  have HO := Lib.hid (fun w => spec_l04OK x w)
  have HK := Lib.hid (fun w => spec_l03OK t w)
  unfold tokV at HK ⊢
  unfold stV at HO ⊢
  have HN := Lib.hid (fun w => spec_l05No n w)
  cases hn : proB n
  · have HE : Hid (toldV (spP n x t) = .tuple #[stV zeroSt, .int .i64 0, .bool false, .int .i64 5]) := Lib.hid (told_bad (by rw [spP, if_neg (by rw [hn]; decide)]))
    rw [hn] at HN
    clear hn
    go_enter Tryd.func49, Tryd.ntmps49
    go_wp2_with fail
    refine (HN.out _).mono ?_
    rintro e wn ⟨rfl, rfl⟩
    go_wp2
    exact st_ret4 (y := zeroSt) (r := .int .i64 0) (m := .bool false) (c := .int .i64 5) rfl rfl rfl rfl rfl HS0.out Tryd.underlying24 rfl (by kernel_rfl) rfl ⟨by rw [HE.out], B0.out⟩
  have HN1 := Lib.hid hn
  rw [hn] at HN
  clear hn
  cases ho : stOKB x
  · have HE : Hid (toldV (spP n x t) = .tuple #[stV zeroSt, .int .i64 0, .bool false, .int .i64 1]) := Lib.hid (told_bad (by rw [spP, if_pos HN1.out, if_neg (fun h => by rw [ho] at h; exact absurd h.1 (by decide))]))
    rw [ho] at HO
    go_enter Tryd.func49, Tryd.ntmps49
    go_wp2_with fail
    refine (HN.out _).mono ?_
    rintro e wn ⟨rfl, rfl⟩
    go_wp2_with fail
    refine (HO.out _).mono ?_
    generalize ((w.alloc (.cells #[.int .i64 x.g0, .int .i64 x.g1, .int .i64 x.g2, .int .i64 x.g3, .int .i64 x.l, .int .i64 x.s, .int .i64 x.d] 24)).alloc (.cells #[.int .i64 t.k, .int .i64 t.a, .int .i64 t.b, .int .i64 t.c, .int .i64 t.p, .int .i64 t.n] 38)).alloc (.cells #[.int .i64 0, .int .i64 0, .int .i64 0, .int .i64 0, .int .i64 0, .int .i64 0, .int .i64 0] 24) = W0 at *
    rintro e W1 ⟨rfl, b1⟩
    have B1 : Hid (Below w.heap.size w W1) := Lib.hid (B0.out.trans (b1.mono B0.out.size))
    have HB1 := Lib.hid (HB0.out.keep b1)
    have HT1 := Lib.hid (HT0.out.keep b1)
    have HS1 := Lib.hid (HS0.out.keep b1)
    clear b1 HB0 HT0 HS0 B0
    have ⟨y0, y1, y2, y3, y4, y5, y6⟩ := HB1.out.cells
    have ⟨t0, t1, t2, t3, t4, t5⟩ := HT1.out.cells
    have ⟨r0, r1, r2, r3, r4, r5, r6⟩ := HS1.out.cells
    have ⟨z0, z1, z2, z3, z4, z5, z6⟩ := HS1.out.thaw
    simp only [zeroSt] at r0 r1 r2 r3 r4 r5 r6
    have hl : w.heap.size + 2 < W1.heap.size := HS1.out.lt
    go_wp2
    exact st_ret4 (y := zeroSt) (r := .int .i64 0) (m := .bool false) (c := .int .i64 1) rfl rfl rfl rfl rfl (HS1.out.put zeroSt) Tryd.underlying24 rfl (by kernel_rfl) rfl ⟨by rw [HE.out], below_putSt B1.out (by omega) zeroSt⟩
  rw [ho] at HO
  cases hk : tokOKB t
  · have HE : Hid (toldV (spP n x t) = .tuple #[stV zeroSt, .int .i64 0, .bool false, .int .i64 1]) := Lib.hid (told_bad (by rw [spP, if_pos HN1.out, if_neg (fun h => by rw [hk] at h; exact absurd h.2 (by decide))]))
    rw [hk] at HK
    go_enter Tryd.func49, Tryd.ntmps49
    go_wp2_with fail
    refine (HN.out _).mono ?_
    rintro e wn ⟨rfl, rfl⟩
    go_wp2_with fail
    refine (HO.out _).mono ?_
    generalize ((w.alloc (.cells #[.int .i64 x.g0, .int .i64 x.g1, .int .i64 x.g2, .int .i64 x.g3, .int .i64 x.l, .int .i64 x.s, .int .i64 x.d] 24)).alloc (.cells #[.int .i64 t.k, .int .i64 t.a, .int .i64 t.b, .int .i64 t.c, .int .i64 t.p, .int .i64 t.n] 38)).alloc (.cells #[.int .i64 0, .int .i64 0, .int .i64 0, .int .i64 0, .int .i64 0, .int .i64 0, .int .i64 0] 24) = W0 at *
    rintro e W1 ⟨rfl, b1⟩
    have B1 : Hid (Below w.heap.size w W1) := Lib.hid (B0.out.trans (b1.mono B0.out.size))
    have HB1 := Lib.hid (HB0.out.keep b1)
    have HT1 := Lib.hid (HT0.out.keep b1)
    have HS1 := Lib.hid (HS0.out.keep b1)
    clear b1 HB0 HT0 HS0 B0
    have ⟨y0, y1, y2, y3, y4, y5, y6⟩ := HB1.out.cells
    have ⟨t0, t1, t2, t3, t4, t5⟩ := HT1.out.cells
    go_wp2_with fail
    refine (HK.out _).mono ?_
    clear y0 y1 y2 y3 y4 y5 y6 t0 t1 t2 t3 t4 t5
    rintro e W2 ⟨rfl, b2⟩
    have B2 : Hid (Below w.heap.size w W2) := Lib.hid (B1.out.trans (b2.mono B1.out.size))
    have HB2 := Lib.hid (HB1.out.keep b2)
    have HT2 := Lib.hid (HT1.out.keep b2)
    have HS2 := Lib.hid (HS1.out.keep b2)
    clear b2 HB1 HT1 HS1 B1
    have ⟨r0, r1, r2, r3, r4, r5, r6⟩ := HS2.out.cells
    have ⟨z0, z1, z2, z3, z4, z5, z6⟩ := HS2.out.thaw
    simp only [zeroSt] at r0 r1 r2 r3 r4 r5 r6
    have hl : w.heap.size + 2 < W2.heap.size := HS2.out.lt
    go_wp2
    exact st_ret4 (y := zeroSt) (r := .int .i64 0) (m := .bool false) (c := .int .i64 1) rfl rfl rfl rfl rfl (HS2.out.put zeroSt) Tryd.underlying24 rfl (by kernel_rfl) rfl ⟨by rw [HE.out], below_putSt B2.out (by omega) zeroSt⟩
  have HG := Lib.hid (fun w => spec_l05Step n x t w ho ((tokOKB_iff t).1 hk))
  have HP : Hid (spP n x t = stepP n x t) := Lib.hid (by rw [spP, if_pos HN1.out, if_pos ⟨ho, hk⟩])
  have HC := Lib.hid (fun h => stepP_code (n := n) (x := x) (t := t) h)
  have hr := stepP_r (n := n) (x := x) ((tokOKB_iff t).1 hk)
  rw [hk] at HK
  clear ho hk
  unfold StpDone stpV at HG
  unfold tokV stV at HG
  generalize stepP n x t = p at *
  by_cases hc : p.c = 0
  · have HE0 : Hid (toldV (spP n x t) = toldV p) := Lib.hid (by rw [HP.out])
    have HD := Lib.hid hc
    rw [hc] at HG
    clear hc HP HC
    rcases hr with hr | hr
    · have HE : Hid (toldV (spP n x t) = .tuple #[stV p.y, .int .i64 0, .bool false, .int .i64 0]) := Lib.hid (by rw [HE0.out, told_none hr, HD.out])
      rw [hr] at HG
      clear hr
      go_enter Tryd.func49, Tryd.ntmps49
      go_wp2_with fail
      refine (HN.out _).mono ?_
      rintro e wn ⟨rfl, rfl⟩
      go_wp2_with fail
      refine (HO.out _).mono ?_
      generalize ((w.alloc (.cells #[.int .i64 x.g0, .int .i64 x.g1, .int .i64 x.g2, .int .i64 x.g3, .int .i64 x.l, .int .i64 x.s, .int .i64 x.d] 24)).alloc (.cells #[.int .i64 t.k, .int .i64 t.a, .int .i64 t.b, .int .i64 t.c, .int .i64 t.p, .int .i64 t.n] 38)).alloc (.cells #[.int .i64 0, .int .i64 0, .int .i64 0, .int .i64 0, .int .i64 0, .int .i64 0, .int .i64 0] 24) = W0 at *
      rintro e W1 ⟨rfl, b1⟩
      have B1 : Hid (Below w.heap.size w W1) := Lib.hid (B0.out.trans (b1.mono B0.out.size))
      have HB1 := Lib.hid (HB0.out.keep b1)
      have HT1 := Lib.hid (HT0.out.keep b1)
      have HS1 := Lib.hid (HS0.out.keep b1)
      clear b1 HB0 HT0 HS0 B0
      have ⟨y0, y1, y2, y3, y4, y5, y6⟩ := HB1.out.cells
      have ⟨t0, t1, t2, t3, t4, t5⟩ := HT1.out.cells
      go_wp2_with fail
      refine (HK.out _).mono ?_
      clear y0 y1 y2 y3 y4 y5 y6 t0 t1 t2 t3 t4 t5
      rintro e W2 ⟨rfl, b2⟩
      have B2 : Hid (Below w.heap.size w W2) := Lib.hid (B1.out.trans (b2.mono B1.out.size))
      have HB2 := Lib.hid (HB1.out.keep b2)
      have HT2 := Lib.hid (HT1.out.keep b2)
      have HS2 := Lib.hid (HS1.out.keep b2)
      clear b2 HB1 HT1 HS1 B1
      have ⟨y0, y1, y2, y3, y4, y5, y6⟩ := HB2.out.cells
      have ⟨t0, t1, t2, t3, t4, t5⟩ := HT2.out.cells
      go_wp2_with fail
      refine (HG.out _).mono ?_
      clear y0 y1 y2 y3 y4 y5 y6 t0 t1 t2 t3 t4 t5
      rintro e W3 ⟨rfl, b3⟩
      have B3 : Hid (Below w.heap.size w W3) := Lib.hid (B2.out.trans (b3.mono B2.out.size))
      have HB3 := Lib.hid (HB2.out.keep b3)
      have HT3 := Lib.hid (HT2.out.keep b3)
      have HS3 := Lib.hid (HS2.out.keep b3)
      clear b3 HB2 HT2 HS2 B2
      have ⟨r0, r1, r2, r3, r4, r5, r6⟩ := HS3.out.cells
      have ⟨z0, z1, z2, z3, z4, z5, z6⟩ := HS3.out.thaw
      simp only [zeroSt] at r0 r1 r2 r3 r4 r5 r6
      have hl : w.heap.size + 2 < W3.heap.size := HS3.out.lt
      have BB := Lib.hid (below_putSt B3.out (show w.heap.size ≤ w.heap.size + 1 + 1 by omega) p.y)
      go_wp2
      exact st_ret4 (y := p.y) (r := .int .i64 0) (m := .bool false) (c := .int .i64 0) rfl rfl rfl rfl rfl ((HS3.out.put p.y).alloc _) Tryd.underlying24 rfl (by kernel_rfl) rfl ⟨by rw [HE.out], BB.out.alloc BB.out.size _⟩
    · have HE : Hid (toldV (spP n x t) = .tuple #[stV p.y, .int .i64 p.r, .bool true, .int .i64 0]) := Lib.hid (by rw [HE0.out, told_some hr, HD.out])
      go_enter Tryd.func49, Tryd.ntmps49
      go_wp2_with fail
      refine (HN.out _).mono ?_
      rintro e wn ⟨rfl, rfl⟩
      go_wp2_with fail
      refine (HO.out _).mono ?_
      generalize ((w.alloc (.cells #[.int .i64 x.g0, .int .i64 x.g1, .int .i64 x.g2, .int .i64 x.g3, .int .i64 x.l, .int .i64 x.s, .int .i64 x.d] 24)).alloc (.cells #[.int .i64 t.k, .int .i64 t.a, .int .i64 t.b, .int .i64 t.c, .int .i64 t.p, .int .i64 t.n] 38)).alloc (.cells #[.int .i64 0, .int .i64 0, .int .i64 0, .int .i64 0, .int .i64 0, .int .i64 0, .int .i64 0] 24) = W0 at *
      rintro e W1 ⟨rfl, b1⟩
      have B1 : Hid (Below w.heap.size w W1) := Lib.hid (B0.out.trans (b1.mono B0.out.size))
      have HB1 := Lib.hid (HB0.out.keep b1)
      have HT1 := Lib.hid (HT0.out.keep b1)
      have HS1 := Lib.hid (HS0.out.keep b1)
      clear b1 HB0 HT0 HS0 B0
      have ⟨y0, y1, y2, y3, y4, y5, y6⟩ := HB1.out.cells
      have ⟨t0, t1, t2, t3, t4, t5⟩ := HT1.out.cells
      go_wp2_with fail
      refine (HK.out _).mono ?_
      clear y0 y1 y2 y3 y4 y5 y6 t0 t1 t2 t3 t4 t5
      rintro e W2 ⟨rfl, b2⟩
      have B2 : Hid (Below w.heap.size w W2) := Lib.hid (B1.out.trans (b2.mono B1.out.size))
      have HB2 := Lib.hid (HB1.out.keep b2)
      have HT2 := Lib.hid (HT1.out.keep b2)
      have HS2 := Lib.hid (HS1.out.keep b2)
      clear b2 HB1 HT1 HS1 B1
      have ⟨y0, y1, y2, y3, y4, y5, y6⟩ := HB2.out.cells
      have ⟨t0, t1, t2, t3, t4, t5⟩ := HT2.out.cells
      go_wp2_with fail
      refine (HG.out _).mono ?_
      clear y0 y1 y2 y3 y4 y5 y6 t0 t1 t2 t3 t4 t5
      rintro e W3 ⟨rfl, b3⟩
      have B3 : Hid (Below w.heap.size w W3) := Lib.hid (B2.out.trans (b3.mono B2.out.size))
      have HB3 := Lib.hid (HB2.out.keep b3)
      have HT3 := Lib.hid (HT2.out.keep b3)
      have HS3 := Lib.hid (HS2.out.keep b3)
      clear b3 HB2 HT2 HS2 B2
      have ⟨r0, r1, r2, r3, r4, r5, r6⟩ := HS3.out.cells
      have ⟨z0, z1, z2, z3, z4, z5, z6⟩ := HS3.out.thaw
      simp only [zeroSt] at r0 r1 r2 r3 r4 r5 r6
      have hl : w.heap.size + 2 < W3.heap.size := HS3.out.lt
      have BB := Lib.hid (below_putSt B3.out (show w.heap.size ≤ w.heap.size + 1 + 1 by omega) p.y)
      go_wp2
      exact st_ret4 (y := p.y) (r := .int .i64 p.r) (m := .bool true) (c := .int .i64 0) rfl rfl rfl rfl rfl ((HS3.out.put p.y).alloc _) Tryd.underlying24 rfl (by kernel_rfl) rfl ⟨by rw [HE.out], BB.out.alloc BB.out.size _⟩
  · have HE : Hid (toldV (spP n x t) = .tuple #[stV x, .int .i64 0, .bool false, .int .i64 p.c]) := Lib.hid (by
      rw [HP.out]
      have ⟨h1, h2⟩ := HC.out hc
      rw [told_none h2, h1])
    have ec : (p.c != 0) = true := by simpa using hc
    clear hc HP HC hr
    go_enter Tryd.func49, Tryd.ntmps49
    go_wp2_with fail
    refine (HN.out _).mono ?_
    rintro e wn ⟨rfl, rfl⟩
    go_wp2_with fail
    refine (HO.out _).mono ?_
    generalize ((w.alloc (.cells #[.int .i64 x.g0, .int .i64 x.g1, .int .i64 x.g2, .int .i64 x.g3, .int .i64 x.l, .int .i64 x.s, .int .i64 x.d] 24)).alloc (.cells #[.int .i64 t.k, .int .i64 t.a, .int .i64 t.b, .int .i64 t.c, .int .i64 t.p, .int .i64 t.n] 38)).alloc (.cells #[.int .i64 0, .int .i64 0, .int .i64 0, .int .i64 0, .int .i64 0, .int .i64 0, .int .i64 0] 24) = W0 at *
    rintro e W1 ⟨rfl, b1⟩
    have B1 : Hid (Below w.heap.size w W1) := Lib.hid (B0.out.trans (b1.mono B0.out.size))
    have HB1 := Lib.hid (HB0.out.keep b1)
    have HT1 := Lib.hid (HT0.out.keep b1)
    have HS1 := Lib.hid (HS0.out.keep b1)
    clear b1 HB0 HT0 HS0 B0
    have ⟨y0, y1, y2, y3, y4, y5, y6⟩ := HB1.out.cells
    have ⟨t0, t1, t2, t3, t4, t5⟩ := HT1.out.cells
    go_wp2_with fail
    refine (HK.out _).mono ?_
    clear y0 y1 y2 y3 y4 y5 y6 t0 t1 t2 t3 t4 t5
    rintro e W2 ⟨rfl, b2⟩
    have B2 : Hid (Below w.heap.size w W2) := Lib.hid (B1.out.trans (b2.mono B1.out.size))
    have HB2 := Lib.hid (HB1.out.keep b2)
    have HT2 := Lib.hid (HT1.out.keep b2)
    have HS2 := Lib.hid (HS1.out.keep b2)
    clear b2 HB1 HT1 HS1 B1
    have ⟨y0, y1, y2, y3, y4, y5, y6⟩ := HB2.out.cells
    have ⟨t0, t1, t2, t3, t4, t5⟩ := HT2.out.cells
    go_wp2_with fail
    refine (HG.out _).mono ?_
    clear y0 y1 y2 y3 y4 y5 y6 t0 t1 t2 t3 t4 t5
    rintro e W3 ⟨rfl, b3⟩
    have B3 : Hid (Below w.heap.size w W3) := Lib.hid (B2.out.trans (b3.mono B2.out.size))
    have HB3 := Lib.hid (HB2.out.keep b3)
    have HT3 := Lib.hid (HT2.out.keep b3)
    have HS3 := Lib.hid (HS2.out.keep b3)
    clear b3 HB2 HT2 HS2 B2
    have ⟨y0, y1, y2, y3, y4, y5, y6⟩ := (HB3.out.alloc (.cells #[.int .i64 p.y.g0, .int .i64 p.y.g1, .int .i64 p.y.g2, .int .i64 p.y.g3, .int .i64 p.y.l, .int .i64 p.y.s, .int .i64 p.y.d] 24)).cells
    have BB := Lib.hid (below_putSt B3.out (show w.heap.size ≤ w.heap.size + 1 + 1 by omega) x)
    have ⟨r0, r1, r2, r3, r4, r5, r6⟩ := HS3.out.cells
    have ⟨z0, z1, z2, z3, z4, z5, z6⟩ := HS3.out.thaw
    simp only [zeroSt] at r0 r1 r2 r3 r4 r5 r6
    have hl : w.heap.size + 2 < W3.heap.size := HS3.out.lt
    go_wp2
    exact st_ret4 (y := x) (r := .int .i64 0) (m := .bool false) (c := .int .i64 p.c) rfl rfl rfl rfl rfl ((HS3.out.put x).alloc _) Tryd.underlying24 rfl (by kernel_rfl) rfl ⟨by rw [HE.out], BB.out.alloc BB.out.size _⟩

end Go.Proofs.YtjbikenhdgbacaaDoor

namespace Go.Proofs.YtjbikenhdgbacaaDoor
open Go.RowKit

/-- The place of n among count numbers from first on. -/
def placeV (first count n : Int) : Value := if inB n first (first + count - 1) = true then .tuple #[.int .i64 (n - first), .bool true] else .tuple #[.int .i64 0, .bool false]
theorem impl_placeIn (first count n : Int) (w : World) (h1 : 0 ≤ first) (h2 : first ≤ 2000000) (_h3 : 0 ≤ count) (_h4 : count ≤ 2000000) (hu : n ≤ 9223372036854775807) :
    Calls Tryd.prog 152 #[.int .i64 first, .int .i64 count, .int .i64 n] w fun e w' => e = .returned (placeV first count n) ∧ w = w' := by
  by_cases a1 : n < first
  · have HE : Hid (placeV first count n = .tuple #[.int .i64 0, .bool false]) := Lib.hid (by rw [placeV, inB_false_of (by omega)]; simp)
    go_enter Tryd.func152, Tryd.ntmps152
    go_wp2
    go_ret2
    exact ⟨ret_val HE.out.symm, rfl⟩
  · have u1 : IntKind.i64.wrap (n - first) = n - first := IntWalk.i64_in _ (by omega)
    by_cases a2 : count ≤ n - first
    · have HE : Hid (placeV first count n = .tuple #[.int .i64 0, .bool false]) := Lib.hid (by rw [placeV, inB_false_of (by omega)]; simp)
      go_enter Tryd.func152, Tryd.ntmps152
      go_wp2
      go_ret2
      exact ⟨ret_val HE.out.symm, rfl⟩
    · have HE : Hid (placeV first count n = .tuple #[.int .i64 (n - first), .bool true]) := Lib.hid (by
        have : inB n first (first + count - 1) = true := by simp [inB]; omega
        rw [placeV, this]; simp)
      go_enter Tryd.func152, Tryd.ntmps152
      go_wp2
      go_ret2
      exact ⟨ret_val HE.out.symm, rfl⟩

theorem SpAt.open {w : World} {v : Value} {n : Int} (h : SpAt w v (setSpans n)) : ∃ g off c, v = .slice (some ⟨g, off, none⟩) (setSpans n).length c ∧ ∀ i (h : i < (setSpans n).length),
    w.cell? ⟨g, off + i * 3, none⟩ = some (.int .i64 ((setSpans n)[i]).1) ∧ w.cell? ⟨g, off + i * 3 + 1, none⟩ = some (.int .i64 ((setSpans n)[i]).2.1) ∧ w.cell? ⟨g, off + i * 3 + 2, none⟩ = some (.int .i64 ((setSpans n)[i]).2.2) := by
  rcases h with ⟨h0, _⟩ | h
  · have := (set_few n).1
    rw [h0] at this
    simp at this
  · exact h

/-- Each span begins above nought. -/
theorem set_pos (n : Int) : ∀ s ∈ setSpans n, 0 < s.1 := by
  unfold setSpans
  repeat' split
  all_goals (intro s hs; simp only [List.mem_cons, List.not_mem_nil, or_false] at hs; rcases hs with rfl | rfl | rfl | rfl <;> simp)

set_option maxHeartbeats 1000000 in
set_option maxRecDepth 100000 in
theorem impl_RuneFor (n code : Int) (w : World) (ht : TabSets w) (hl : -9223372036854775808 ≤ code) (hu : code ≤ 9223372036854775807) : Calls Tryd.prog 133 #[.int .i64 n, .int .i64 code] w fun e w' => e = .returned (rfV n code) ∧ Below w.heap.size w w' := by
  cases hn : setB n
  · have HE := Lib.hid (rfV_bad n code 5 (by simp [rfC, hn]) (by decide))
    clear ht
    go_enter Tryd.func133, Tryd.ntmps133
    go_wp2_with fail
    refine (impl_isSet n w).mono ?_
    rintro e w1 ⟨rfl, rfl⟩
    rw [hn]
    go_wp2
    go_ret2
    exact ⟨ret_val HE.out.symm, Below.refl _ _⟩
  · have HO : Hid (codeOKB n code = isCodeB (setKind n) code) := Lib.hid (by simp [codeOKB, isCodeB, hn])
    obtain ⟨k, rfl, k1, k8⟩ := setB_nat hn
    obtain ⟨_, c1, _, v, c3, hs⟩ := ht k k1 k8
    have hk := setKind_cases (k : Int)
    clear ht
    have u1 : (0 : Int) ≤ (k : Int) := by omega
    have u2 : (k : Int) < 9 := by omega
    generalize hkd : setKind (k : Int) = kd at *
    cases hc : isCodeB kd code
    · have HE := Lib.hid (rfV_bad (k : Int) code 4 (by simp [rfC, hn, HO.out, hc]) (by decide))
      clear hkd hs c3
      go_enter Tryd.func133, Tryd.ntmps133
      go_wp2_with fail
      refine (impl_isSet (k : Int) w).mono ?_
      rintro e w1 ⟨rfl, rfl⟩
      rw [hn]
      go_wp2_with fail
      refine (impl_isCode kd code w hk hl hu).mono ?_
      rintro e w1 ⟨rfl, rfl⟩
      rw [hc]
      go_wp2
      go_ret2
      exact ⟨ret_val HE.out.symm, Below.refl _ _⟩
    · have HB : Hid (runeS (setSpans (k : Int)) code < 0 → rfV (k : Int) code = .tuple #[.int .i64 0, .int .i64 12]) := Lib.hid (fun h => rfV_bad (k : Int) code 12 (by simp [rfC, hn, HO.out, hc, h]) (by decide))
      have HG : Hid (¬ runeS (setSpans (k : Int)) code < 0 → rfV (k : Int) code = .tuple #[.int .i64 (runeS (setSpans (k : Int)) code), .int .i64 0]) := Lib.hid (fun h => rfV_ok (k : Int) code (by simp [rfC, hn, HO.out, hc, h]))
      obtain ⟨g, off, c, rfl, hcs⟩ := hs.open
      have HC := Lib.hid hcs
      have HS := Lib.hid (set_small (k : Int))
      have f2 := (set_few (k : Int)).2
      clear hkd hs hcs
      generalize setSpans (k : Int) = sp at *
      go_enter Tryd.func133, Tryd.ntmps133
      go_wp2_with fail
      refine (impl_isSet (k : Int) w).mono ?_
      rintro e w1 ⟨rfl, rfl⟩
      rw [hn]
      go_wp2_with fail
      refine (impl_isCode kd code w hk hl hu).mono ?_
      rintro e w1 ⟨rfl, rfl⟩
      rw [hc]
      go_wp2
      go_loopw [25] (fun i wr => ∃ j : Nat, j ≤ sp.length ∧ i = .int .i64 j ∧ Hid (runeS sp code = runeS (sp.drop j) code) ∧ Below w.heap.size w wr) (fun i _ => sp.length - (intOf i).toNat)
      case atStart => exact ⟨0, Nat.zero_le _, rfl, Lib.hid rfl, Below.refl _ _⟩
      case round =>
        obtain ⟨j, hj, rfl, HR, b⟩ := hrel
        by_cases hlt : j < sp.length
        · have ⟨x0, x1, x2⟩ := HC.out j hlt
          have hsm := HS.out _ (List.getElem_mem hlt)
          have HD := Lib.hid (runeS_drop sp code j hlt)
          have y0 := (b.cell (World.block_lt_of_cell? w _ x0)).trans x0
          have y1 := (b.cell (World.block_lt_of_cell? w _ x1)).trans x1
          have y2 := (b.cell (World.block_lt_of_cell? w _ x2)).trans x2
          generalize sp[j] = s at *
          obtain ⟨sc, sr, sn⟩ := s
          obtain ⟨⟨a1, a2⟩, ⟨a3, a4⟩, a5, a6⟩ := hsm
          simp only at a1 a2 a3 a4 a5 a6 y0 y1 y2
          clear x0 x1 x2
          have v1 : (0 : Int) ≤ (j : Int) := by omega
          have v2 : (j : Int) < (sp.length : Int) := by omega
          go_wp2_with fail
          refine (impl_placeIn sc sn code _ a1 a2 a5 a6 hu).mono ?_
          rintro e w2 ⟨rfl, rfl⟩
          unfold placeV
          have B := b.alloc b.size (.cells #[.int .i64 sc, .int .i64 sr, .int .i64 sn] 130)
          cases hin : inB code sc (sc + sn - 1)
          · have HX : Hid (runeS sp code = runeS (sp.drop (j + 1)) code) := Lib.hid (by rw [HR.out, HD.out, hin]; simp)
            go_wp2
            go_roundw
            case rel => exact ⟨j + 1, by omega, by go_num, HX, B⟩
            case measure => simp [intOf]; omega
          · have ⟨i1, i2⟩ := inB_true hin
            have v5 : IntKind.i64.wrap (sr + (code - sc)) = sr + (code - sc) := IntWalk.i64_in _ (by omega)
            have HX : Hid (runeS sp code = sr + (code - sc)) := Lib.hid (by rw [HR.out, HD.out, hin]; simp; omega)
            go_wp2
            go_ret2
            refine ⟨ret_val ?_, B⟩
            rw [HG.out (by rw [HX.out]; omega), HX.out]
            rfl
        · go_wp2
          go_ret2
          refine ⟨ret_val ?_, b⟩
          have hjn : sp.length ≤ j := by omega
          rw [HB.out (by rw [HR.out, List.drop_eq_nil_of_le hjn, runeS]; decide)]
          rfl

end Go.Proofs.YtjbikenhdgbacaaDoor

namespace Go.Proofs.YtjbikenhdgbacaaDoor
open Go.RowKit Go.Sort

/-- What the machine's methods tell of a step. -/
def toldR (p : Stp) : Int := if 0 ≤ p.r then p.r else 0
def toldB (p : Stp) : Bool := decide (0 ≤ p.r)
def mvV (p : Stp) : Value := .tuple #[.int .i64 (toldR p), .bool (toldB p), .int .i64 p.c]
def MvDone (p : Stp) (b : Nat) (w : World) (e : Ending) (w' : World) : Prop := e = .returned (mvV p) ∧ MAt w' b p.y ∧ Only b w w'
theorem mv_none {p : Stp} {y : St} {c : Int} (h : p = ⟨y, -1, c⟩) : mvV p = .tuple #[.int .i64 0, .bool false, .int .i64 c] := by rw [h]; rfl
theorem mv_some {p : Stp} {y : St} {r c : Int} (h : p = ⟨y, r, c⟩) (hr : 0 ≤ r) : mvV p = .tuple #[.int .i64 r, .bool true, .int .i64 c] := by
  rw [h]; unfold mvV toldR toldB; dsimp only; rw [if_pos hr, decide_eq_true hr]
theorem only_below {b : Nat} {w w' : World} (hb : b < w.heap.size) (h : Below w.heap.size w w') : Only b w w' := ⟨h.mono (by omega), fun g _ hg => h.block g hg⟩
theorem mvDone_none {x : St} {p : Stp} {b : Nat} {w w' : World} {c : Int} (h : p = ⟨x, -1, c⟩) (hm : MAt w b x) (hb : Below w.heap.size w w') : MvDone p b w (.returned (.tuple #[.int .i64 0, .bool false, .int .i64 c])) w' :=
  ⟨by rw [mv_none h], by rw [h]; exact hm.keep hb, only_below hm.lt hb⟩

theorem mvDone_gone {x : St} {p : Stp} {b : Nat} {w w' : World} {rr : Int} (h : p = ⟨⟨x.g0, x.g1, x.g2, x.g3, x.l, 0, 0⟩, rr, 0⟩) (hr : 0 ≤ rr) (hm : MAt w b x) (hb : Below w.heap.size w w') : MvDone p b w (.returned (.tuple #[.int .i64 rr, .bool true, .int .i64 0])) ((w'.setCell ⟨b, 5, none⟩ (.int .i64 0)).setCell ⟨b, 6, none⟩ (.int .i64 0)) :=
  ⟨by rw [mv_some h hr], by rw [h]; exact heap_setCell_same _ _ 6 _ _ (.int .i64 0) (heap_setCell_same _ _ 5 _ _ (.int .i64 0) (hm.keep hb)), ((only_below hm.lt hb).trans (Only.set b 5 _ _)).trans (Only.set b 6 _ _)⟩
theorem mvDone_lead {x : St} {p : Stp} {b : Nat} {w w' : World} {v : Int} (h : p = ⟨⟨x.g0, x.g1, x.g2, x.g3, x.l, x.s, v⟩, -1, 0⟩) (hm : MAt w b x) (hb : Below w.heap.size w w') : MvDone p b w (.returned (.tuple #[.int .i64 0, .bool false, .int .i64 0])) (w'.setCell ⟨b, 6, none⟩ (.int .i64 v)) :=
  ⟨by rw [mv_none h], by rw [h]; exact heap_setCell_same _ _ 6 _ _ (.int .i64 v) (hm.keep hb), (only_below hm.lt hb).trans (Only.set b 6 _ _)⟩

/-- The lead's half. -/
theorem half_lead {x : St} (h : leadOK x = true) (h0 : x.d ≠ 0) : halfN x.d = sideNo (decide (128 < x.d)) := by
  unfold leadOK at h
  rw [Bool.or_eq_true, decide_eq_true_eq, Bool.and_eq_true, Bool.and_eq_true] at h
  rcases h with h | ⟨h1, h2, _⟩
  · exact absurd h h0
  have ⟨a, b⟩ := inB_true h1
  have ⟨c, d⟩ := inB_true h2
  rw [Int.tmod_eq_emod_of_nonneg (by omega)] at a b
  unfold halfN sideNo
  by_cases h3 : 128 < x.d
  · rw [if_pos (by omega), if_pos (by simpa using h3)]
  · rw [if_neg (by omega), if_neg (by simpa using h3)]

/-- RuneFor's code, where the set is one and the code no negative number. -/
theorem rf_told {q A : Int} (hq : setB q = true) (hA : 0 ≤ A) (x : St) : (rfC q A = 0 → gLast x q A = ⟨⟨x.g0, x.g1, x.g2, x.g3, x.l, 0, 0⟩, rfR q A, 0⟩ ∧ 0 ≤ rfR q A) ∧ (rfC q A ≠ 0 → gLast x q A = ⟨x, -1, 12⟩) := by
  have hk : codeOKB q A = kindB (setKind q) A := by unfold codeOKB; rw [hq, decide_eq_true hA]; rfl
  constructor
  · intro h
    have hr : rfR q A = runeS (setSpans q) A := by rw [rfR, if_pos h]
    unfold rfC at h
    rw [if_pos hq, hk] at h
    split at h
    · split at h
      · cases h
      · next h1 h2 =>
        rw [hr]
        exact ⟨by rw [gLast, if_pos ⟨h1, by omega⟩], by omega⟩
    · cases h
  · intro h
    unfold rfC at h
    rw [if_pos hq, hk] at h
    unfold gLast
    split
    · next h1 => rw [if_pos h1.1, if_neg (by omega)] at h; exact absurd rfl h
    · rfl

set_option maxHeartbeats 1000000 in
set_option maxRecDepth 100000 in
theorem impl_take (x : St) (b : Nat) (r : Bool) (a : Int) (w : World) (h : MAt w b x) (ht : TabM w) (hx : stOKB x = true) (a0 : 0 ≤ a) (a1 : a ≤ 255) : Calls Tryd.prog 104 #[.pointer (some ⟨b, 0, none⟩), .int .i64 (sideNo r), .int .i64 a] w (MvDone (graphic x a r) b w) := by
  obtain ⟨h1, h2, h3⟩ := stOK_parts hx
  have ⟨d0, d1⟩ := lead_range h3
  have HL := Lib.hid (half_lead h3)
  have hs : (sideNo r == 128) = r := by cases r <;> rfl
  have HF := Lib.hid (fun w h => impl_setFor x b (sideNo r) w h h2)
  rw [hs] at HF
  obtain ⟨k, hk, k8⟩ := setAt_nat h1 r
  rw [hk] at HF
  have HG : Hid (graphic x a r = if (k : Int) = 0 then ⟨x, -1, 17⟩
    else if setKind k = 3 then
      if 0 < x.d ∧ decide (128 < x.d) ≠ r then ⟨x, -1, 13⟩ else if inB a 33 126 = false then ⟨x, -1, 12⟩ else if x.d = 0 then ⟨⟨x.g0, x.g1, x.g2, x.g3, x.l, x.s, a + sideNo r⟩, -1, 0⟩
      else gLast x k (a + (x.d - sideNo r) * 256)
    else gLast x k a) := Lib.hid (by
      have hk' : stGet x (sideOf x r) = (k : Int) := hk
      rw [graphic, hk'])
  have HM := Lib.hid h
  have HT := Lib.hid ht
  have hb : b < w.heap.size := h.lt
  clear h ht hx h1 h2 h3 hk hs
  by_cases k0 : k = 0
  · subst k0
    have HE : Hid (graphic x a r = ⟨x, -1, 17⟩) := Lib.hid (by rw [HG.out, if_pos (show ((0 : Nat) : Int) = 0 from rfl)])
    go_enter Tryd.func104, Tryd.ntmps104
    go_wp2_with fail
    refine (HF.out w HM.out).mono ?_
    rintro e w1 ⟨rfl, b1⟩
    go_wp2
    go_ret3
    exact mvDone_none HE.out HM.out b1
  have kz : ¬ (k : Int) = 0 := by omega
  have ek : ((k : Int) == 0) = false := by rw [beq_eq_false_iff_ne]; exact kz
  have hsb : setB (k : Int) = true := by simp [setB, inB]; omega
  have u1 : (0 : Int) ≤ (k : Int) := by omega
  have u2 : (k : Int) < 9 := by omega
  by_cases k3 : setKind (k : Int) = 3
  · have HK : Hid (kind0 (k : Int) = 3) := Lib.hid (by rw [kind0, if_neg kz, k3])
    have HC := Lib.hid (fun w => impl_isCode94 a w)
    have hv : sideNo r = 0 ∨ sideNo r = 128 := by cases r <;> simp [sideNo]
    by_cases z : x.d = 0
    · have HW : Hid (¬ (0 < x.d ∧ decide (128 < x.d) ≠ r)) := Lib.hid (fun h => by omega)
      have ez : (x.d != 0) = false := by simp [z]
      have ez2 : (x.d == 0) = true := by simpa using z
      cases hin : inB a 33 126
      · have HE : Hid (graphic x a r = ⟨x, -1, 12⟩) := Lib.hid (by rw [HG.out, if_neg kz, if_pos k3, if_neg HW.out, if_pos hin])
        rw [hin] at HC
        clear HG HL z k3 kz hsb
        go_enter Tryd.func104, Tryd.ntmps104
        go_wp2_with fail
        refine (HF.out w HM.out).mono ?_
        rintro e w1 ⟨rfl, b1⟩
        have c1 := (HT.out.keep b1).kind k k8
        rw [HK.out] at c1
        have HM1 := Lib.hid (HM.out.keep b1)
        have ⟨y0, y1, y2, y3, y4, y5, y6⟩ := HM1.out.cells
        go_wp2_with fail
        refine (HC.out w1).mono ?_
        rintro e w2 ⟨rfl, rfl⟩
        go_wp2
        go_ret3
        exact mvDone_none HE.out HM.out b1
      · have HE : Hid (graphic x a r = ⟨⟨x.g0, x.g1, x.g2, x.g3, x.l, x.s, sideNo r + a⟩, -1, 0⟩) := Lib.hid (by rw [HG.out, if_neg kz, if_pos k3, if_neg HW.out, if_neg (by rw [hin]; decide), if_pos z, Int.add_comm])
        have uw : IntKind.i64.wrap (sideNo r + a) = sideNo r + a := IntWalk.i64_in _ (by omega)
        rw [hin] at HC
        clear HG HL z k3 kz hsb hv
        go_enter Tryd.func104, Tryd.ntmps104
        go_wp2_with fail
        refine (HF.out w HM.out).mono ?_
        rintro e w1 ⟨rfl, b1⟩
        have c1 := (HT.out.keep b1).kind k k8
        rw [HK.out] at c1
        have HM1 := Lib.hid (HM.out.keep b1)
        have ⟨y0, y1, y2, y3, y4, y5, y6⟩ := HM1.out.cells
        go_wp2_with fail
        refine (HC.out w1).mono ?_
        rintro e w2 ⟨rfl, rfl⟩
        have ⟨q0, q1, q2, q3, q4, q5, q6⟩ := HM1.out.thaw
        have hl2 : b < w1.heap.size := HM1.out.lt
        go_wp2
        go_ret3
        exact mvDone_lead HE.out HM.out b1
    · have hpos : 0 < x.d := by omega
      have ez : (x.d != 0) = true := by simpa using z
      have ez2 : (x.d == 0) = false := by rw [beq_eq_false_iff_ne]; exact z
      have HH := Lib.hid (fun w => impl_halfOf x.d w)
      rw [HL.out z] at HH
      cases hd : (sideNo (decide (128 < x.d)) != sideNo r)
      · have hd2 : decide (128 < x.d) = r := by
          cases h : decide (128 < x.d) <;> cases r <;> rw [h] at hd <;> first | rfl | (revert hd; decide)
        have HW : Hid (¬ (0 < x.d ∧ decide (128 < x.d) ≠ r)) := Lib.hid (fun h => h.2 hd2)
        have hdr : 128 ≤ x.d ∨ sideNo r = 0 := by
          cases r
          · exact .inr rfl
          · have := of_decide_eq_true hd2; exact .inl (by omega)
        generalize sideNo (decide (128 < x.d)) = hf at *
        cases hin : inB a 33 126
        · have HE : Hid (graphic x a r = ⟨x, -1, 12⟩) := Lib.hid (by rw [HG.out, if_neg kz, if_pos k3, if_neg HW.out, if_pos hin])
          rw [hin] at HC
          clear HG HL z k3 kz hsb hd2
          go_enter Tryd.func104, Tryd.ntmps104
          go_wp2_with fail
          refine (HF.out w HM.out).mono ?_
          rintro e w1 ⟨rfl, b1⟩
          have c1 := (HT.out.keep b1).kind k k8
          rw [HK.out] at c1
          have HM1 := Lib.hid (HM.out.keep b1)
          have ⟨y0, y1, y2, y3, y4, y5, y6⟩ := HM1.out.cells
          go_wp2_with fail
          refine (HH.out w1).mono ?_
          rintro e w2 ⟨rfl, rfl⟩
          go_wp2_with fail
          refine (HC.out w1).mono ?_
          rintro e w2 ⟨rfl, rfl⟩
          go_wp2
          go_ret3
          exact mvDone_none HE.out HM.out b1
        · have HE : Hid (graphic x a r = gLast x k ((x.d - sideNo r) * 256 + a)) := Lib.hid (by rw [HG.out, if_neg kz, if_pos k3, if_neg HW.out, if_neg (by rw [hin]; decide), if_neg z, Int.add_comm])
          have hA : 0 ≤ (x.d - sideNo r) * 256 + a := by omega
          have HR := Lib.hid (rf_told hsb hA x)
          have HU := Lib.hid (fun w ht => impl_RuneFor (k : Int) ((x.d - sideNo r) * 256 + a) w ht (by omega) (by omega))
          have uw1 : IntKind.i64.wrap (x.d - sideNo r) = x.d - sideNo r := IntWalk.i64_in _ (by omega)
          have uw2 : IntKind.i64.wrap ((x.d - sideNo r) * 256) = (x.d - sideNo r) * 256 := IntWalk.i64_in _ (by omega)
          have uw3 : IntKind.i64.wrap ((x.d - sideNo r) * 256 + a) = (x.d - sideNo r) * 256 + a := IntWalk.i64_in _ (by omega)
          rw [hin] at HC
          unfold rfV at HU
          clear HG HL z k3 kz hsb hd2
          generalize rfR (k : Int) ((x.d - sideNo r) * 256 + a) = rr at *
          generalize rfC (k : Int) ((x.d - sideNo r) * 256 + a) = rc at *
          go_enter Tryd.func104, Tryd.ntmps104
          go_wp2_with fail
          refine (HF.out w HM.out).mono ?_
          rintro e w1 ⟨rfl, b1⟩
          have c1 := (HT.out.keep b1).kind k k8
          rw [HK.out] at c1
          have HM1 := Lib.hid (HM.out.keep b1)
          have ⟨y0, y1, y2, y3, y4, y5, y6⟩ := HM1.out.cells
          go_wp2_with fail
          refine (HH.out w1).mono ?_
          rintro e w2 ⟨rfl, rfl⟩
          go_wp2_with fail
          refine (HC.out w1).mono ?_
          rintro e w2 ⟨rfl, rfl⟩
          go_wp2_with fail
          refine (HU.out w1 (HT.out.keep b1).1).mono ?_
          rintro e w2 ⟨rfl, b2⟩
          have B2 : Below w.heap.size w w2 := b1.trans (b2.mono b1.size)
          clear y0 y1 y2 y3 y4 y5 y6 c1
          by_cases hc : rc = 0
          · have ⟨hE, hr⟩ := HR.out.1 hc
            have HE2 : Hid (graphic x a r = ⟨⟨x.g0, x.g1, x.g2, x.g3, x.l, 0, 0⟩, rr, 0⟩) := Lib.hid (HE.out.trans hE)
            have HM2 := Lib.hid (HM.out.keep B2)
            have ⟨y0, y1, y2, y3, y4, y5, y6⟩ := HM2.out.cells
            have ⟨q0, q1, q2, q3, q4, q5, q6⟩ := HM2.out.thaw
            have hl2 : b < w2.heap.size := HM2.out.lt
            clear hE
            go_wp2
            go_ret3
            exact mvDone_gone HE2.out hr HM.out B2
          · have HE2 : Hid (graphic x a r = ⟨x, -1, 12⟩) := Lib.hid (HE.out.trans (HR.out.2 hc))
            have ec : (rc != 0) = true := by simpa using hc
            go_wp2
            go_ret3
            exact mvDone_none HE2.out HM.out B2
      · have hd2 : decide (128 < x.d) ≠ r := fun h => by rw [h] at hd; simp at hd
        have HE : Hid (graphic x a r = ⟨x, -1, 13⟩) := Lib.hid (by rw [HG.out, if_neg kz, if_pos k3, if_pos ⟨hpos, hd2⟩])
        generalize sideNo (decide (128 < x.d)) = hf at *
        clear HG HL z k3 kz hsb hd2
        go_enter Tryd.func104, Tryd.ntmps104
        go_wp2_with fail
        refine (HF.out w HM.out).mono ?_
        rintro e w1 ⟨rfl, b1⟩
        have c1 := (HT.out.keep b1).kind k k8
        rw [HK.out] at c1
        have HM1 := Lib.hid (HM.out.keep b1)
        have ⟨y0, y1, y2, y3, y4, y5, y6⟩ := HM1.out.cells
        go_wp2_with fail
        refine (HH.out w1).mono ?_
        rintro e w2 ⟨rfl, rfl⟩
        go_wp2
        go_ret3
        exact mvDone_none HE.out HM.out b1
  · have HE : Hid (graphic x a r = gLast x k a) := Lib.hid (by rw [HG.out, if_neg kz, if_neg k3])
    have HR := Lib.hid (rf_told hsb a0 x)
    have HU := Lib.hid (fun w ht => impl_RuneFor (k : Int) a w ht (by omega) (by omega))
    have e3 : (setKind (k : Int) == 3) = false := by rw [beq_eq_false_iff_ne]; exact k3
    have HK : Hid (kind0 (k : Int) = setKind k) := Lib.hid (by rw [kind0, if_neg kz])
    clear k3 kz hsb HG
    unfold rfV at HU
    generalize rfR (k : Int) a = rr at *
    generalize rfC (k : Int) a = rc at *
    go_enter Tryd.func104, Tryd.ntmps104
    go_wp2_with fail
    refine (HF.out w HM.out).mono ?_
    rintro e w1 ⟨rfl, b1⟩
    have c1 := (HT.out.keep b1).kind k k8
    rw [HK.out] at c1
    generalize setKind (k : Int) = kd at *
    go_wp2_with fail
    refine (HU.out w1 (HT.out.keep b1).1).mono ?_
    rintro e w2 ⟨rfl, b2⟩
    have B2 : Below w.heap.size w w2 := b1.trans (b2.mono b1.size)
    by_cases hc : rc = 0
    · have ⟨hE, hr⟩ := HR.out.1 hc
      have HE2 : Hid (graphic x a r = ⟨⟨x.g0, x.g1, x.g2, x.g3, x.l, 0, 0⟩, rr, 0⟩) := Lib.hid (HE.out.trans hE)
      have HM2 := Lib.hid (HM.out.keep B2)
      have ⟨y0, y1, y2, y3, y4, y5, y6⟩ := HM2.out.cells
      have ⟨q0, q1, q2, q3, q4, q5, q6⟩ := HM2.out.thaw
      have hl2 : b < w2.heap.size := HM2.out.lt
      clear hE c1
      go_wp2
      go_ret3
      exact mvDone_gone HE2.out hr HM.out B2
    · have HE2 : Hid (graphic x a r = ⟨x, -1, 12⟩) := Lib.hid (HE.out.trans (HR.out.2 hc))
      have ec : (rc != 0) = true := by simpa using hc
      go_wp2
      go_ret3
      exact mvDone_none HE2.out HM.out B2

end Go.Proofs.YtjbikenhdgbacaaDoor

namespace Go.Proofs.YtjbikenhdgbacaaDoor
open Go.RowKit

theorem GuAt.new (w : World) (n : Int) (m : Value) : GuAt (w.alloc (.cells #[.int .i64 n, .string (prName n), .string (prHead n), .slice none 0 0, .bool (prRight n), .bool (prShifts n), .bool (prSingle n), .bool (prReset n), .bool (prClear n), m] 108)) w.heap.size n m := heap_alloc_new _ _

set_option maxHeartbeats 1000000 in
theorem impl_AtRest (n : Int) (x : St) (w : World) (ht : TabM w) (hw : Wide64 x) : Calls Tryd.prog 45 #[.int .i64 n, stV x] w (ArDone n x w) := by
  have HN := Lib.hid (fun w => impl_isProfile n w)
  have HF := Lib.hid (fun w => impl_machineOf x w)
  have HO := Lib.hid (fun b w h ht => impl_ok x b w h ht hw.1 hw.2)
  have HT := Lib.hid ht
  have B0 := Lib.hid (below_one w (.cells #[.int .i64 x.g0, .int .i64 x.g1, .int .i64 x.g2, .int .i64 x.g3, .int .i64 x.l, .int .i64 x.s, .int .i64 x.d] 24))
  clear ht hw
  unfold StDone stV at HF
  unfold stV
  cases hn : proB n
  · have HC : Hid (arC n x = 5) := Lib.hid (by simp [arC, hn])
    rw [hn] at HN
    go_enter Tryd.func45, Tryd.ntmps45
    go_wp2_with fail
    refine (HN.out _).mono ?_
    rintro e w1 ⟨rfl, rfl⟩
    go_wp2
    go_ret2
    exact arDone_bad HC.out (by decide) B0.out
  have HN1 := Lib.hid hn
  have HG := Lib.hid (fun w ht => impl_guideOf n w ht hn)
  unfold guV at HG
  rw [hn] at HN
  clear hn
  cases ho : stOKB x
  · have HC : Hid (arC n x = 1) := Lib.hid (by simp [arC, HN1.out, ho])
    rw [ho] at HO
    go_enter Tryd.func45, Tryd.ntmps45
    go_wp2_with fail
    refine (HN.out _).mono ?_
    rintro e w1 ⟨rfl, rfl⟩
    go_wp2_with fail
    refine (HF.out _).mono ?_
    generalize w.alloc (.cells #[.int .i64 x.g0, .int .i64 x.g1, .int .i64 x.g2, .int .i64 x.g3, .int .i64 x.l, .int .i64 x.s, .int .i64 x.d] 24) = W0 at *
    rintro e w1 ⟨rfl, b1⟩
    have B1 : Hid (Below w.heap.size w w1) := Lib.hid (B0.out.trans (b1.mono B0.out.size))
    have B2 : Hid (Below w.heap.size w (w1.alloc (.cells #[.int .i64 x.g0, .int .i64 x.g1, .int .i64 x.g2, .int .i64 x.g3, .int .i64 x.l, .int .i64 x.s, .int .i64 x.d] 80))) := Lib.hid (B1.out.alloc B1.out.size _)
    have HM := Lib.hid (MAt.new w1 x)
    have HT2 := Lib.hid (HT.out.keep B2.out)
    clear b1
    go_wp2_with fail
    refine (HO.out w1.heap.size _ HM.out HT2.out).mono ?_
    generalize w1.alloc (.cells #[.int .i64 x.g0, .int .i64 x.g1, .int .i64 x.g2, .int .i64 x.g3, .int .i64 x.l, .int .i64 x.s, .int .i64 x.d] 80) = W1 at *
    rintro e W2 ⟨rfl, b2⟩
    have B3 : Hid (Below w.heap.size w W2) := Lib.hid (B2.out.trans (b2.mono B2.out.size))
    clear b2
    go_wp2
    go_ret2
    exact arDone_bad HC.out (by decide) B3.out
  · have HO1 := Lib.hid ho
    have HR := Lib.hid (fun g b w hg hm => impl_atRest n x (.map none) g b w hg hm ho)
    rw [ho] at HO
    clear ho
    obtain ⟨q, hq⟩ : ∃ q, restB n x = q := ⟨_, rfl⟩
    rw [hq] at HR
    have HQ := Lib.hid hq
    clear hq
    go_enter Tryd.func45, Tryd.ntmps45
    go_wp2_with fail
    refine (HN.out _).mono ?_
    rintro e w1 ⟨rfl, rfl⟩
    go_wp2_with fail
    refine (HF.out _).mono ?_
    generalize w.alloc (.cells #[.int .i64 x.g0, .int .i64 x.g1, .int .i64 x.g2, .int .i64 x.g3, .int .i64 x.l, .int .i64 x.s, .int .i64 x.d] 24) = W0 at *
    rintro e w1 ⟨rfl, b1⟩
    have B1 : Hid (Below w.heap.size w w1) := Lib.hid (B0.out.trans (b1.mono B0.out.size))
    have B2 : Hid (Below w.heap.size w (w1.alloc (.cells #[.int .i64 x.g0, .int .i64 x.g1, .int .i64 x.g2, .int .i64 x.g3, .int .i64 x.l, .int .i64 x.s, .int .i64 x.d] 80))) := Lib.hid (B1.out.alloc B1.out.size _)
    have HM := Lib.hid (MAt.new w1 x)
    have HT2 := Lib.hid (HT.out.keep B2.out)
    clear b1
    go_wp2_with fail
    refine (HO.out w1.heap.size _ HM.out HT2.out).mono ?_
    generalize w1.alloc (.cells #[.int .i64 x.g0, .int .i64 x.g1, .int .i64 x.g2, .int .i64 x.g3, .int .i64 x.l, .int .i64 x.s, .int .i64 x.d] 80) = W1 at *
    rintro e W2 ⟨rfl, b2⟩
    have B3 : Hid (Below w.heap.size w W2) := Lib.hid (B2.out.trans (b2.mono B2.out.size))
    have HM3 := Lib.hid (HM.out.keep b2)
    have HT3 := Lib.hid (HT2.out.keep b2)
    clear b2 B2 HM HT2
    go_wp2_with fail
    refine (HG.out _ HT3.out.1).mono ?_
    rintro e W3 ⟨rfl, b3⟩
    have B4 : Hid (Below w.heap.size w W3) := Lib.hid (B3.out.trans (b3.mono B3.out.size))
    have B5 : Hid (Below w.heap.size w (W3.alloc (.cells #[.int .i64 n, .string (prName n), .string (prHead n), .slice none 0 0, .bool (prRight n), .bool (prShifts n), .bool (prSingle n), .bool (prReset n), .bool (prClear n), .map none] 108))) := Lib.hid (B4.out.alloc B4.out.size _)
    have HM4 := Lib.hid ((HM3.out.keep b3).keep (below_one W3 (.cells #[.int .i64 n, .string (prName n), .string (prHead n), .slice none 0 0, .bool (prRight n), .bool (prShifts n), .bool (prSingle n), .bool (prReset n), .bool (prClear n), .map none] 108)))
    have HG4 := Lib.hid (GuAt.new W3 n (.map none))
    clear b3 B3 HM3 HT3
    go_wp2_with fail
    refine (HR.out _ _ _ HG4.out HM4.out).mono ?_
    rintro e W4 ⟨rfl, rfl⟩
    go_wp2
    go_ret2
    exact arDone_ok HN1.out HO1.out HQ.out B5.out

/-- What endLine leaves: the code, the machine. -/
def elC (n : Int) (x : St) : Int := if restB n x = true then 0 else 14
def elX (n : Int) (x : St) : St := if restB n x = true then lineX n x else x
def ElDone (n : Int) (x : St) (b : Nat) (w : World) (e : Ending) (w' : World) : Prop := e = .returned (.int .i64 (elC n x)) ∧ MAt w' b (elX n x) ∧ Only b w w'
theorem elDone {n : Int} {x y : St} {b : Nat} {w w' : World} {c : Int} (hc : elC n x = c) (hy : elX n x = y) (hm : MAt w' b y) (ho : Only b w w') : ElDone n x b w (.returned (.int .i64 c)) w' := ⟨by rw [hc], by rw [hy]; exact hm, ho⟩
theorem putM_row {w : World} {g : Nat} {x : St} (h : MAt w g x) (y : St) : MAt (putSt w g y) g y := by
  have k0 : (w.setCell ⟨g, 0, none⟩ (.int .i64 y.g0)).heap[g]? = some (.cells #[.int .i64 y.g0, .int .i64 x.g1, .int .i64 x.g2, .int .i64 x.g3, .int .i64 x.l, .int .i64 x.s, .int .i64 x.d] 80) := heap_setCell_same _ g 0 _ _ (.int .i64 y.g0) h
  have k1 : ((w.setCell ⟨g, 0, none⟩ (.int .i64 y.g0)).setCell ⟨g, 1, none⟩ (.int .i64 y.g1)).heap[g]? = some (.cells #[.int .i64 y.g0, .int .i64 y.g1, .int .i64 x.g2, .int .i64 x.g3, .int .i64 x.l, .int .i64 x.s, .int .i64 x.d] 80) := heap_setCell_same _ g 1 _ _ (.int .i64 y.g1) k0
  have k2 : (((w.setCell ⟨g, 0, none⟩ (.int .i64 y.g0)).setCell ⟨g, 1, none⟩ (.int .i64 y.g1)).setCell ⟨g, 2, none⟩ (.int .i64 y.g2)).heap[g]? = some (.cells #[.int .i64 y.g0, .int .i64 y.g1, .int .i64 y.g2, .int .i64 x.g3, .int .i64 x.l, .int .i64 x.s, .int .i64 x.d] 80) := heap_setCell_same _ g 2 _ _ (.int .i64 y.g2) k1
  have k3 : ((((w.setCell ⟨g, 0, none⟩ (.int .i64 y.g0)).setCell ⟨g, 1, none⟩ (.int .i64 y.g1)).setCell ⟨g, 2, none⟩ (.int .i64 y.g2)).setCell ⟨g, 3, none⟩ (.int .i64 y.g3)).heap[g]? = some (.cells #[.int .i64 y.g0, .int .i64 y.g1, .int .i64 y.g2, .int .i64 y.g3, .int .i64 x.l, .int .i64 x.s, .int .i64 x.d] 80) := heap_setCell_same _ g 3 _ _ (.int .i64 y.g3) k2
  have k4 : (((((w.setCell ⟨g, 0, none⟩ (.int .i64 y.g0)).setCell ⟨g, 1, none⟩ (.int .i64 y.g1)).setCell ⟨g, 2, none⟩ (.int .i64 y.g2)).setCell ⟨g, 3, none⟩ (.int .i64 y.g3)).setCell ⟨g, 4, none⟩ (.int .i64 y.l)).heap[g]? = some (.cells #[.int .i64 y.g0, .int .i64 y.g1, .int .i64 y.g2, .int .i64 y.g3, .int .i64 y.l, .int .i64 x.s, .int .i64 x.d] 80) := heap_setCell_same _ g 4 _ _ (.int .i64 y.l) k3
  have k5 : ((((((w.setCell ⟨g, 0, none⟩ (.int .i64 y.g0)).setCell ⟨g, 1, none⟩ (.int .i64 y.g1)).setCell ⟨g, 2, none⟩ (.int .i64 y.g2)).setCell ⟨g, 3, none⟩ (.int .i64 y.g3)).setCell ⟨g, 4, none⟩ (.int .i64 y.l)).setCell ⟨g, 5, none⟩ (.int .i64 y.s)).heap[g]? = some (.cells #[.int .i64 y.g0, .int .i64 y.g1, .int .i64 y.g2, .int .i64 y.g3, .int .i64 y.l, .int .i64 y.s, .int .i64 x.d] 80) := heap_setCell_same _ g 5 _ _ (.int .i64 y.s) k4
  have k6 : (((((((w.setCell ⟨g, 0, none⟩ (.int .i64 y.g0)).setCell ⟨g, 1, none⟩ (.int .i64 y.g1)).setCell ⟨g, 2, none⟩ (.int .i64 y.g2)).setCell ⟨g, 3, none⟩ (.int .i64 y.g3)).setCell ⟨g, 4, none⟩ (.int .i64 y.l)).setCell ⟨g, 5, none⟩ (.int .i64 y.s)).setCell ⟨g, 6, none⟩ (.int .i64 y.d)).heap[g]? = some (.cells #[.int .i64 y.g0, .int .i64 y.g1, .int .i64 y.g2, .int .i64 y.g3, .int .i64 y.l, .int .i64 y.s, .int .i64 y.d] 80) := heap_setCell_same _ g 6 _ _ (.int .i64 y.d) k5
  exact k6
theorem only_putSt (b : Nat) (w : World) (y : St) : Only b w (putSt w b y) := ((((((Only.set b 0 w _).trans (Only.set b 1 _ _)).trans (Only.set b 2 _ _)).trans (Only.set b 3 _ _)).trans (Only.set b 4 _ _)).trans (Only.set b 5 _ _)).trans (Only.set b 6 _ _)

set_option maxHeartbeats 1000000 in
theorem impl_endLine (n : Int) (x : St) (m : Value) (g b : Nat) (w : World) (hg : GuAt w g n m) (hm : MAt w b x) (hx : stOKB x = true) : Calls Tryd.prog 91 #[.pointer (some ⟨g, 0, none⟩), .pointer (some ⟨b, 0, none⟩)] w (ElDone n x b w) := by
  have HR := Lib.hid (fun w hg hm => impl_atRest n x m g b w hg hm hx)
  have HG := Lib.hid hg
  have HM := Lib.hid hm
  have HS := Lib.hid (fun w => impl_startOf n w)
  have HF := Lib.hid (fun y w => impl_machineOf y w)
  unfold StDone stV at HS HF
  have ⟨c0, c1, c2, c3, c4, c5, c6, c7, c8, c9⟩ := row10_cells hg
  clear c1 c2 c3 c4 c5 c6 c7 c9 hg hm hx
  cases hr : restB n x
  · have HC : Hid (elC n x = 14) := Lib.hid (by simp [elC, hr])
    have HX : Hid (elX n x = x) := Lib.hid (by simp [elX, hr])
    rw [hr] at HR
    clear hr
    go_enter Tryd.func91, Tryd.ntmps91
    go_wp2_with fail
    refine (HR.out _ HG.out HM.out).mono ?_
    rintro e w1 ⟨rfl, rfl⟩
    go_wp2
    go_ret
    exact elDone HC.out HX.out HM.out (Only.refl _ _)
  · have HC : Hid (elC n x = 0) := Lib.hid (by simp [elC, hr])
    cases hc : prClear n
    · have HX : Hid (elX n x = x) := Lib.hid (by simp [elX, hr, lineX, hc])
      rw [hr] at HR
      rw [hc] at c8
      clear hr hc
      go_enter Tryd.func91, Tryd.ntmps91
      go_wp2_with fail
      refine (HR.out _ HG.out HM.out).mono ?_
      rintro e w1 ⟨rfl, rfl⟩
      go_wp2
      go_ret
      exact elDone HC.out HX.out HM.out (Only.refl _ _)
    · have HX : Hid (elX n x = startP n) := Lib.hid (by simp [elX, hr, lineX, hc])
      rw [hr] at HR
      rw [hc] at c8
      clear hr hc
      generalize startP n = y at *
      go_enter Tryd.func91, Tryd.ntmps91
      go_wp2_with fail
      refine (HR.out _ HG.out HM.out).mono ?_
      rintro e w1 ⟨rfl, rfl⟩
      go_wp2_with fail
      refine (HS.out _).mono ?_
      rintro e w1 ⟨rfl, b1⟩
      go_wp2_with fail
      refine (HF.out y _).mono ?_
      rintro e w2 ⟨rfl, b2⟩
      have O2 : Hid (Only b w w2) := Lib.hid (only_below HM.out.lt (b1.trans (b2.mono b1.size)))
      have HM2 := Lib.hid (HM.out.keep (b1.trans (b2.mono b1.size)))
      clear b1 b2 c0 c8
      have ⟨r0, r1, r2, r3, r4, r5, r6⟩ := HM2.out.cells
      have ⟨z0, z1, z2, z3, z4, z5, z6⟩ := HM2.out.thaw
      have hl : b < w2.heap.size := HM2.out.lt
      go_wp2
      go_ret
      exact elDone HC.out HX.out (putM_row HM2.out y) (O2.out.trans (only_putSt b w2 y))

theorem elC_le {n : Int} {x : St} (h1 : proB n = true) (h2 : stOKB x = true) : leC n x = elC n x ∧ leX n x = elX n x := by
  unfold leX leC elC elX
  rw [h1, h2]
  cases restB n x <;> simp

set_option maxHeartbeats 2000000 in
theorem impl_LineEnd (n : Int) (x : St) (w : World) (ht : TabM w) (hw : Wide64 x) : Calls Tryd.prog 47 #[.int .i64 n, stV x] w (LeDone n x w) := by
  have HN := Lib.hid (fun w => impl_isProfile n w)
  have HF := Lib.hid (fun w => impl_machineOf x w)
  have HO := Lib.hid (fun b w h ht => impl_ok x b w h ht hw.1 hw.2)
  have HST := Lib.hid (fun y b w h => impl_state y b w h)
  have HT := Lib.hid ht
  have B0 := Lib.hid (below_two w (.cells #[.int .i64 x.g0, .int .i64 x.g1, .int .i64 x.g2, .int .i64 x.g3, .int .i64 x.l, .int .i64 x.s, .int .i64 x.d] 24) (.cells #[.int .i64 0, .int .i64 0, .int .i64 0, .int .i64 0, .int .i64 0, .int .i64 0, .int .i64 0] 24))
  have Z0 : Hid (StAt ((w.alloc (.cells #[.int .i64 x.g0, .int .i64 x.g1, .int .i64 x.g2, .int .i64 x.g3, .int .i64 x.l, .int .i64 x.s, .int .i64 x.d] 24)).alloc (.cells #[.int .i64 0, .int .i64 0, .int .i64 0, .int .i64 0, .int .i64 0, .int .i64 0, .int .i64 0] 24)) (w.heap.size + 1) zeroSt) := Lib.hid (heap_alloc2_new _ _ _)
  clear ht hw
  unfold StDone stV at HF HST
  unfold stV
  cases hn : proB n
  · have HC : Hid (leC n x = 5) := Lib.hid (by simp [leC, hn])
    have HE := Lib.hid (leX_bad HC.out (by decide) (by decide))
    rw [hn] at HN
    go_enter Tryd.func47, Tryd.ntmps47
    go_wp2_with fail
    refine (HN.out _).mono ?_
    rintro e w1 ⟨rfl, rfl⟩
    go_wp2
    exact st_ret2 (y := zeroSt) rfl rfl rfl Z0.out Tryd.underlying24 rfl (by kernel_rfl) rfl ⟨by rw [HC.out, HE.out], B0.out⟩
  have HN1 := Lib.hid hn
  have HG := Lib.hid (fun w ht => impl_guideOf n w ht hn)
  unfold guV at HG
  rw [hn] at HN
  clear hn
  cases ho : stOKB x
  · have HC : Hid (leC n x = 1) := Lib.hid (by simp [leC, HN1.out, ho])
    have HE := Lib.hid (leX_bad HC.out (by decide) (by decide))
    rw [ho] at HO
    go_enter Tryd.func47, Tryd.ntmps47
    go_wp2_with fail
    refine (HN.out _).mono ?_
    rintro e w1 ⟨rfl, rfl⟩
    go_wp2_with fail
    refine (HF.out _).mono ?_
    generalize (w.alloc (.cells #[.int .i64 x.g0, .int .i64 x.g1, .int .i64 x.g2, .int .i64 x.g3, .int .i64 x.l, .int .i64 x.s, .int .i64 x.d] 24)).alloc (.cells #[.int .i64 0, .int .i64 0, .int .i64 0, .int .i64 0, .int .i64 0, .int .i64 0, .int .i64 0] 24) = W0 at *
    rintro e w1 ⟨rfl, b1⟩
    have B1 : Hid (Below w.heap.size w w1) := Lib.hid (B0.out.trans (b1.mono B0.out.size))
    have B2 : Hid (Below w.heap.size w (w1.alloc (.cells #[.int .i64 x.g0, .int .i64 x.g1, .int .i64 x.g2, .int .i64 x.g3, .int .i64 x.l, .int .i64 x.s, .int .i64 x.d] 80))) := Lib.hid (B1.out.alloc B1.out.size _)
    have Z2 := Lib.hid ((Z0.out.keep b1).keep (below_one w1 (.cells #[.int .i64 x.g0, .int .i64 x.g1, .int .i64 x.g2, .int .i64 x.g3, .int .i64 x.l, .int .i64 x.s, .int .i64 x.d] 80)))
    have HM := Lib.hid (MAt.new w1 x)
    have HT2 := Lib.hid (HT.out.keep B2.out)
    clear b1
    go_wp2_with fail
    refine (HO.out w1.heap.size _ HM.out HT2.out).mono ?_
    generalize w1.alloc (.cells #[.int .i64 x.g0, .int .i64 x.g1, .int .i64 x.g2, .int .i64 x.g3, .int .i64 x.l, .int .i64 x.s, .int .i64 x.d] 80) = W1 at *
    rintro e W2 ⟨rfl, b2⟩
    have B3 : Hid (Below w.heap.size w W2) := Lib.hid (B2.out.trans (b2.mono B2.out.size))
    have Z3 := Lib.hid (Z2.out.keep b2)
    clear b2
    have ⟨r0, r1, r2, r3, r4, r5, r6⟩ := Z3.out.cells
    have ⟨z0, z1, z2, z3, z4, z5, z6⟩ := Z3.out.thaw
    simp only [zeroSt] at r0 r1 r2 r3 r4 r5 r6
    have hl : w.heap.size + 1 < W2.heap.size := Z3.out.lt
    go_wp2
    exact st_ret2 (y := zeroSt) rfl rfl rfl (Z3.out.put zeroSt) Tryd.underlying24 rfl (by kernel_rfl) rfl ⟨by rw [HC.out, HE.out], below_putSt B3.out (Nat.le_succ _) zeroSt⟩
  · have ⟨hc, hx⟩ := elC_le HN1.out ho
    have HC := Lib.hid hc
    have HE := Lib.hid hx
    have HL := Lib.hid (fun g b w hg hm => impl_endLine n x (.map none) g b w hg hm ho)
    unfold ElDone at HL
    rw [ho] at HO
    clear ho hc hx
    generalize elC n x = c at *
    generalize elX n x = y at *
    go_enter Tryd.func47, Tryd.ntmps47
    go_wp2_with fail
    refine (HN.out _).mono ?_
    rintro e w1 ⟨rfl, rfl⟩
    go_wp2_with fail
    refine (HF.out _).mono ?_
    generalize (w.alloc (.cells #[.int .i64 x.g0, .int .i64 x.g1, .int .i64 x.g2, .int .i64 x.g3, .int .i64 x.l, .int .i64 x.s, .int .i64 x.d] 24)).alloc (.cells #[.int .i64 0, .int .i64 0, .int .i64 0, .int .i64 0, .int .i64 0, .int .i64 0, .int .i64 0] 24) = W0 at *
    rintro e w1 ⟨rfl, b1⟩
    have B1 : Hid (Below w.heap.size w w1) := Lib.hid (B0.out.trans (b1.mono B0.out.size))
    have B2 : Hid (Below w.heap.size w (w1.alloc (.cells #[.int .i64 x.g0, .int .i64 x.g1, .int .i64 x.g2, .int .i64 x.g3, .int .i64 x.l, .int .i64 x.s, .int .i64 x.d] 80))) := Lib.hid (B1.out.alloc B1.out.size _)
    have Z2 := Lib.hid ((Z0.out.keep b1).keep (below_one w1 (.cells #[.int .i64 x.g0, .int .i64 x.g1, .int .i64 x.g2, .int .i64 x.g3, .int .i64 x.l, .int .i64 x.s, .int .i64 x.d] 80)))
    have hz1 : w.heap.size + 1 < w1.heap.size := (Z0.out.keep b1).lt
    have HM := Lib.hid (MAt.new w1 x)
    have HT2 := Lib.hid (HT.out.keep B2.out)
    clear b1 Z0
    go_wp2_with fail
    refine (HO.out w1.heap.size _ HM.out HT2.out).mono ?_
    generalize w1.alloc (.cells #[.int .i64 x.g0, .int .i64 x.g1, .int .i64 x.g2, .int .i64 x.g3, .int .i64 x.l, .int .i64 x.s, .int .i64 x.d] 80) = W1 at *
    rintro e W2 ⟨rfl, b2⟩
    have B3 : Hid (Below w.heap.size w W2) := Lib.hid (B2.out.trans (b2.mono B2.out.size))
    have Z3 := Lib.hid (Z2.out.keep b2)
    have HM3 := Lib.hid (HM.out.keep b2)
    have HT3 := Lib.hid (HT2.out.keep b2)
    clear b2 B2 HM HT2 Z2
    go_wp2_with fail
    refine (HG.out _ HT3.out.1).mono ?_
    rintro e W3 ⟨rfl, b3⟩
    have B4 : Hid (Below w.heap.size w W3) := Lib.hid (B3.out.trans (b3.mono B3.out.size))
    have B5 : Hid (Below w.heap.size w (W3.alloc (.cells #[.int .i64 n, .string (prName n), .string (prHead n), .slice none 0 0, .bool (prRight n), .bool (prShifts n), .bool (prSingle n), .bool (prReset n), .bool (prClear n), .map none] 108))) := Lib.hid (B4.out.alloc B4.out.size _)
    have HM4 := Lib.hid ((HM3.out.keep b3).keep (below_one W3 (.cells #[.int .i64 n, .string (prName n), .string (prHead n), .slice none 0 0, .bool (prRight n), .bool (prShifts n), .bool (prSingle n), .bool (prReset n), .bool (prClear n), .map none] 108)))
    have Z4 := Lib.hid ((Z3.out.keep b3).keep (below_one W3 (.cells #[.int .i64 n, .string (prName n), .string (prHead n), .slice none 0 0, .bool (prRight n), .bool (prShifts n), .bool (prSingle n), .bool (prReset n), .bool (prClear n), .map none] 108)))
    have HG4 := Lib.hid (GuAt.new W3 n (.map none))
    clear b3 B3 HM3 HT3 Z3
    go_wp2_with fail
    refine (HL.out _ _ _ HG4.out HM4.out).mono ?_
    generalize W3.alloc (.cells #[.int .i64 n, .string (prName n), .string (prHead n), .slice none 0 0, .bool (prRight n), .bool (prShifts n), .bool (prSingle n), .bool (prReset n), .bool (prClear n), .map none] 108) = W4 at *
    rintro e W5 ⟨rfl, HM5, o5⟩
    have B6 : Hid (Below w.heap.size w W5) := Lib.hid (B5.out.trans (o5.1.mono (by omega)))
    have Z5 : Hid (StAt W5 (w.heap.size + 1) zeroSt) := Lib.hid ((o5.2 _ (by omega) Z4.out.lt).trans Z4.out)
    have HM5 := Lib.hid HM5
    clear o5 Z4
    go_wp2_with fail
    refine (HST.out y _ _ HM5.out).mono ?_
    rintro e W6 ⟨rfl, b6⟩
    have B7 : Hid (Below w.heap.size w W6) := Lib.hid (B6.out.trans (b6.mono B6.out.size))
    have Z6 := Lib.hid (Z5.out.keep b6)
    clear b6
    have ⟨r0, r1, r2, r3, r4, r5, r6⟩ := Z6.out.cells
    have ⟨z0, z1, z2, z3, z4, z5, z6⟩ := Z6.out.thaw
    simp only [zeroSt] at r0 r1 r2 r3 r4 r5 r6
    have hl : w.heap.size + 1 < W6.heap.size := Z6.out.lt
    go_wp2
    exact st_ret2 (y := y) rfl rfl rfl (Z6.out.put y) Tryd.underlying24 rfl (by kernel_rfl) rfl ⟨by rw [HC.out, HE.out], below_putSt B7.out (Nat.le_succ _) y⟩

end Go.Proofs.YtjbikenhdgbacaaDoor

namespace Go.Proofs.YtjbikenhdgbacaaDoor
open Go.RowKit Go.MapKept Go.ChangeMaps

/-- A place as a key. -/
def plK (p r : Int) : Value := .agg #[.int .i64 p, .int .i64 r]

theorem equal_place (p r p' r' : Int) (w : World) : (Op.equal 134 (plK p r) (plK p' r')).run Tryd.prog w = .ok ((p == p') && (r == r')) w := by
  have he := Tryd.underlying3
  have q : ∀ (d : Nat) (x y : Int), (Op.equalIn (d + 1) 3 (.int .i64 x) (.int .i64 y)).run Tryd.prog w = .ok (x == y) w := fun d x y => run_equalIn_int w d 3 .i64 .i64 x y he
  unfold Op.equal plK
  rw [show Op.maxDepth = 9998 + 1 + 1 from rfl]
  go_simp
  by_cases h1 : p = p'
  · by_cases h2 : r = r'
    · simp [h1, h2]
    · simp [h1, h2]
  · simp [h1]

theorem check_place (e : Bool) (p r : Int) (w : World) : (Instr.checkKey e 10000 134 (plK p r)).run Tryd.prog w = .ok () w := by
  kernel_rfl

/-- The entries of a map of places, from number k on. -/
def plE : Nat → List ((Int × Int) × Value) → List MapEntry
  | _, [] => []
  | k, e :: t => ⟨plK e.1.1 e.1.2, e.2, k⟩ :: plE (k + 1) t
/-- Where a place's entry stands, and its value. -/
def plIdx (p r : Int) : Nat → List ((Int × Int) × Value) → Option (Nat × Value)
  | _, [] => none
  | i, e :: t => if ((p == e.1.1) && (r == e.1.2)) = true then some (i, e.2) else plIdx p r (i + 1) t
theorem plE_snoc (p r : Int) (v : Value) : ∀ (es : List ((Int × Int) × Value)) (k : Nat), plE k (es ++ [((p, r), v)]) = plE k es ++ [⟨plK p r, v, k + es.length⟩]
  | [], k => by simp [plE]
  | e :: t, k => by simp [plE, plE_snoc p r v t (k + 1)]; omega

theorem find_asking (p r : Int) (w : World) : ∀ (es : List ((Int × Int) × Value)) (k i : Nat), (Instr.findAsking 134 (plK p r) (plE k es) i).run Tryd.prog w = .ok (plIdx p r i es) w
  | [], k, i => rfl
  | e :: t, k, i => by
    have h := equal_place p r e.1.1 e.1.2 w
    unfold plE Instr.findAsking plIdx
    simp only [Sem.run_bind, h, Result.andThen_ok]
    split
    · rfl
    · exact find_asking p r w t (k + 1) (i + 1)

theorem find_key (p r : Int) (w : World) (es : List ((Int × Int) × Value)) : (Instr.findKey 134 (plK p r) (plE 0 es)).run Tryd.prog w = .ok (plIdx p r 0 es) w := by
  have hu := run_underlying Tryd.underlying134 w
  unfold Instr.findKey
  simp only [Sem.run_bind, hu, Result.andThen_ok]
  cases es with
  | nil => rfl
  | cons e t => exact find_asking p r w (e :: t) 0 0

/-- The map's block. -/
def plO (es : List ((Int × Int) × Value)) : Obj := .map (plE 0 es).toArray es.length

theorem insert_place {w : World} {b : Nat} {es : List ((Int × Int) × Value)} (p r : Int) (v : Value) (hb : w.heap[b]? = some (plO es)) (hn : plIdx p r 0 es = none) :
    (Instr.mapUpdate 106 (.map (some b)) (plK p r) v).run Tryd.prog w = .ok () (setBlock w b (plO (es ++ [((p, r), v)]))) := by
  have hu := run_underlying Tryd.underlying106 w
  have hg := MapKept.run_getObj_map (P := Tryd.prog) hb
  have hc := check_place false p r w
  have hf := find_key p r w es
  rw [hn] at hf
  have hs := MapKept.run_setObj_map (P := Tryd.prog) (plO (es ++ [((p, r), v)])) hb
  have e1 : plO (es ++ [((p, r), v)]) = .map ((plE 0 es).toArray.push ⟨plK p r, v, es.length⟩) (es.length + 1) := by
    unfold plO
    rw [plE_snoc]
    simp
  rw [e1] at hs ⊢
  unfold Instr.mapUpdate
  simp only [Sem.run_bind, hu, Result.andThen_ok, hg, hc, hf]
  exact hs

theorem lookup_place {w : World} {b : Nat} {es : List ((Int × Int) × Value)} (p r : Int) (hb : w.heap[b]? = some (plO es)) :
    (Instr.lookup 106 (.map (some b)) (plK p r) false).run Tryd.prog w = .ok (match plIdx p r 0 es with | some q => q.2 | none => .slice none 0 0) w := by
  have hu := run_underlying Tryd.underlying106 w
  have hg := MapKept.run_getObj_map (P := Tryd.prog) hb
  have hc := fun e => check_place e p r w
  have hf := find_key p r w es
  have hz : (zeroValue 27).run Tryd.prog w = .ok (.slice none 0 0) w := by kernel_rfl
  unfold Instr.lookup
  simp only [Sem.run_bind, hu, Result.andThen_ok, hg, Sem.run_pure, hc, hf]
  cases plIdx p r 0 es with
  | none => simp only [Sem.run_bind, hz, Result.andThen_ok, Sem.run_pure]; rfl
  | some q => rfl

/-- 'map[place][]int{k: v}' at a new key. -/
theorem wpList_insert_place (w : World) {ops : Array Oper} {rest : List Oper} {o : Oper} {a : Act} {Q : Exit → Act → World → Prop} (hg : o.guard = none) (m x v : Operand) (hop : o.op = Op.insert 106 m x v)
    (b : Nat) (es : List ((Int × Int) × Value)) (hm : a.eval m = .map (some b)) (hb : w.heap[b]? = some (plO es)) (p r : Int) (val : Value) (hx : a.eval x = plK p r) (hv : a.eval v = val) (hn : plIdx p r 0 es = none)
    (hK : ∀ w', w'.heap[b]? = some (plO (es ++ [((p, r), val)])) → w.grownBy w' (some b) → wpList Tryd.prog ops Q rest (a.put o.dst undef) w') : wpList Tryd.prog ops Q (o :: rest) a w := by
  refine wpList_plain hg fun K' hK' => ?_
  have hrun := insert_place p r val hb hn
  unfold Oper.wp
  simp [execOp, hop, hm, hx, hv, hrun, Result.andThen]
  refine hK' _ _ (hK _ (heap_setBlock_same hb _) ?_)
  exact ⟨rfl, rfl, rfl, by simp [setBlock], fun i _ hi => heap_setBlock_other hb _ (fun e => hi (by rw [e]))⟩

end Go.Proofs.YtjbikenhdgbacaaDoor

namespace Go.Proofs.YtjbikenhdgbacaaDoor
open Go.RowKit Go.MapKept Go.ChangeMaps

/-- How many operations have not come up. -/
def unl (l : Array Bool) : Nat := (l.toList.filter (fun b => !b)).length
theorem unl_list_set : ∀ (l : List Bool) (i : Nat), l[i]? = some false → ((l.set i true).filter (fun b => !b)).length + 1 = (l.filter (fun b => !b)).length
  | [], i, h => by simp at h
  | b :: t, 0, h => by
    simp at h
    subst h
    simp
  | b :: t, i + 1, h => by
    have := unl_list_set t i (by simpa using h)
    cases b <;> simp <;> omega
theorem getD_true {l : Array Bool} {i : Nat} (h : l.getD i true = false) : l[i]? = some false := by
  rw [Array.getD_eq_getD_getElem?] at h
  cases hl : l[i]? with
  | none => rw [hl] at h; simp at h
  | some b => rw [hl] at h; simp at h; rw [h]
theorem unl_set {l : Array Bool} {i : Nat} (h : l.getD i true = false) : unl (l.setIfInBounds i true) + 1 = unl l := by
  have := unl_list_set l.toList i (by simpa using getD_true h)
  unfold unl
  rw [Array.toList_setIfInBounds]
  exact this
theorem unl_zero {l : Array Bool} (h : unl l = 0) (i : Nat) : l.getD i true = true := by
  cases hb : l.getD i true with
  | true => rfl
  | false => have := unl_set hb; omega

theorem wpAny_inv {P : Program} {ops : Array Oper} {Q : Exit → Act → World → Prop} (I : Array Bool → Act → World → Prop)
    (hstep : ∀ l a w, I l a w → ∀ i ∈ Region.ready .any ops l, wpOp P ops Q i (fun a' w' => I (l.setIfInBounds i true) a' w') a w)
    (hend : ∀ l a w, I l a w → Region.ready .any ops l = [] → Q .normal a w) : ∀ (fuel : Nat) (l : Array Bool) (a : Act) (w : World), unl l ≤ fuel → I l a w → wpAny P .any ops Q fuel l a w
  | 0, l, a, w, hf, hI => by
    have hr : Region.ready .any ops l = [] := by
      cases hr : Region.ready .any ops l with
      | nil => rfl
      | cons j t =>
        have hj : j ∈ Region.ready .any ops l := by rw [hr]; simp
        have h1 := (mem_ready.1 hj).1
        have h2 := unl_zero (by omega : unl l = 0) j
        rw [h1] at h2
        cases h2
    exact ⟨hr, hend l a w hI hr⟩
  | fuel + 1, l, a, w, hf, hI => by
    refine ⟨hend l a w hI, fun i hi => wpOp_mono (fun a' w' h => ?_) (hstep l a w hI i hi)⟩
    refine wpAny_inv I hstep hend fuel _ a' w' ?_ h
    have := unl_set (mem_ready.1 hi).1
    omega

/-- Every operation waits only for earlier ones. -/
def earlierB (ops : Array Oper) : Bool := (List.range ops.size).all fun i => match ops[i]? with | some o => o.after.all (fun e => decide (e.on < i)) | none => true
theorem all_listed {ops : Array Oper} {l : Array Bool} (hb : earlierB ops = true) (hs : l.size = ops.size) (hr : Region.ready .any ops l = []) : ∀ (n i : Nat), i < n → i < ops.size → l.getD i false = true
  | 0, i, h, _ => absurd h (Nat.not_lt_zero i)
  | n + 1, i, h, hi => by
    cases hl : l.getD i false with
    | true => rfl
    | false =>
      have h0 : l[i]? = some false := by
        rw [Array.getD_eq_getD_getElem?] at hl
        rw [Array.getElem?_eq_getElem (by omega : i < l.size)] at hl ⊢
        simpa using hl
      have h1 : l.getD i true = false := by rw [Array.getD_eq_getD_getElem?, h0]; rfl
      have hm : i ∈ Region.ready .any ops l := by
        refine mem_ready.2 ⟨h1, ops[i], Array.getElem?_eq_getElem hi, fun e he _ => ?_⟩
        have hall := List.all_eq_true.1 hb i (List.mem_range.2 hi)
        rw [Array.getElem?_eq_getElem hi] at hall
        have hlt := of_decide_eq_true (Array.all_eq_true_iff_forall_mem.1 hall e he)
        exact all_listed hb hs hr n e.on (by omega) (by omega)
      rw [hr] at hm
      cases hm

/-- The places, and the sets of each. -/
def plKeys : List (Int × Int) := [(1, 0), (2, 0), (2, 2), (3, 0), (3, 1), (4, 0), (4, 1), (4, 2), (5, 0), (5, 1)]
def plLists : List (List Int) := [[1, 2, 6], [1, 2, 6, 7, 8], [4, 5], [1], [7], [1], [7, 8], [3, 6], [1, 2, 6, 7, 8], [3, 4, 5, 6, 7, 8]]
def plKey (k : Nat) : Int × Int := plKeys.getD k (0, 0)
def plList (k : Nat) : List Int := plLists.getD k []
def plSl (b k : Nat) : Value := .slice (some ⟨b, 0, none⟩) (plList k).length (plList k).length
def plC (k : Nat) : Obj := .cells ((plList k).map (Value.int .i64)).toArray 3

/-- The map of places in block mb: the entry of place k is the row in block blk k; everything from block C on. -/
def PlMap (w : World) (C mb : Nat) (blk : Nat → Nat) (has : Nat → Bool) : Prop := C ≤ mb ∧ ∃ es, w.heap[mb]? = some (plO es) ∧ (∀ k, k < 10 → (has k = true → (∃ i, plIdx (plKey k).1 (plKey k).2 0 es = some (i, plSl (blk k) k))) ∧ (has k = false → plIdx (plKey k).1 (plKey k).2 0 es = none)) ∧
  ∀ p r, (∀ k, k < 10 → plKey k ≠ (p, r)) → plIdx p r 0 es = none

theorem plIdx_snoc (p r p' r' : Int) (v : Value) : ∀ (es : List ((Int × Int) × Value)) (i : Nat), plIdx p r i (es ++ [((p', r'), v)]) = match plIdx p r i es with | some q => some q | none => if ((p == p') && (r == r')) = true then some (i + es.length, v) else none
  | [], i => by simp [plIdx]
  | e :: t, i => by
    simp only [List.cons_append, plIdx]
    split
    · rfl
    · rw [plIdx_snoc p r p' r' v t (i + 1)]
      cases plIdx p r (i + 1) t with
      | some q => rfl
      | none => simp only [List.length_cons]; split <;> simp; omega

theorem plKey_inj : ∀ j, j < 10 → ∀ k, k < 10 → plKey j = plKey k → j = k := by decide +kernel

end Go.Proofs.YtjbikenhdgbacaaDoor

namespace Go.Proofs.YtjbikenhdgbacaaDoor
open Go.RowKit Go.MapKept Go.ChangeMaps

theorem set_same {l : Array Bool} {i : Nat} (h : i < l.size) : (l.setIfInBounds i true).getD i false = true := by simp [Array.getD_eq_getD_getElem?, h]
theorem set_other {l : Array Bool} {i j : Nat} (h : i ≠ j) (b : Bool) : (l.setIfInBounds i true).getD j b = l.getD j b := by simp [Array.getD_eq_getD_getElem?, Array.getElem?_setIfInBounds_ne h]
theorem unlisted {l : Array Bool} {i : Nat} (h : l.getD i true = false) : l.getD i false = false ∧ i < l.size := by
  have h1 := getD_true h
  exact ⟨by rw [Array.getD_eq_getD_getElem?, h1]; rfl, (Array.getElem?_eq_some_iff.1 h1).1⟩

structure PlInv (w0 : World) (l : Array Bool) (a : Act) (w : World) : Prop where
  size : l.size = 33
  tm : a.tmps.size = 23
  df : a.defers = []
  bel : Below w0.heap.size w0 w
  ks : ∀ k, k < 10 → l.getD (3 * k + 1) false = true → a.eval (.tmp (2 * k + 2)) = plK (plKey k).1 (plKey k).2
  all : ∃ blk : Nat → Nat, (∀ k, k < 10 → l.getD (3 * k + 2) false = true → a.eval (.tmp (2 * k + 3)) = plSl (blk k) k ∧ w0.heap.size ≤ blk k ∧ w.heap[blk k]? = some (plC k)) ∧
    (∀ j k, j < 10 → k < 10 → l.getD (3 * j + 2) false = true → l.getD (3 * k + 2) false = true → blk j = blk k → j = k) ∧
    (l.getD 0 false = true → ∃ mb, a.eval (.tmp 1) = .map (some mb) ∧ PlMap w w0.heap.size mb blk (fun k => l.getD (3 * k + 3) false))
  ins : ∀ k, k < 10 → l.getD (3 * k + 3) false = true → l.getD 0 false = true ∧ l.getD (3 * k + 2) false = true
  fin : l.getD 31 false = true → l.getD 0 false = true ∧ a.eval (.tmp 22) = a.eval (.tmp 1)
  fin2 : l.getD 32 false = true → l.getD 31 false = true ∧ a.eval (.tmp 0) = a.eval (.tmp 22)

theorem tm_put {a : Act} {d : Option Tmp} {v : Value} : (a.put d v).tmps.size = a.tmps.size ∧ (a.put d v).defers = a.defers := by
  cases d with
  | none => exact ⟨rfl, rfl⟩
  | some d => exact ⟨by simp [Act.put], rfl⟩

theorem PlInv.build {w0 w : World} {l : Array Bool} {a : Act} (h : PlInv w0 l a w) (k : Nat) (hk : k < 10) (hu : l.getD (3 * k + 1) true = false) : PlInv w0 (l.setIfInBounds (3 * k + 1) true) (a.put (some (2 * k + 2)) (plK (plKey k).1 (plKey k).2)) w := by
  have ⟨hu0, hul⟩ := unlisted hu
  have hne : ∀ j : Nat, 2 * k + 2 ≠ j → (a.put (some (2 * k + 2)) (plK (plKey k).1 (plKey k).2)).eval (.tmp j) = a.eval (.tmp j) := fun j hj => Act.eval_put_ne a _ j _ hj
  obtain ⟨blk, a1, a2, a3⟩ := h.all
  refine ⟨by simpa using h.size, tm_put.1.trans h.tm, tm_put.2.trans h.df, h.bel, ?_, ⟨blk, ?_, ?_, ?_⟩, ?_, ?_, ?_⟩
  · intro j hj hl
    by_cases hjk : j = k
    · subst hjk
      exact Act.eval_put_same a _ _ (by rw [h.tm]; omega)
    · rw [set_other (by omega)] at hl
      rw [hne _ (by omega)]
      exact h.ks j hj hl
  · intro j hj hl
    rw [set_other (by omega)] at hl
    rw [hne _ (by omega)]
    exact a1 j hj hl
  · intro i j hi hj h1 h2
    rw [set_other (by omega)] at h1 h2
    exact a2 i j hi hj h1 h2
  · intro h0
    rw [set_other (by omega)] at h0
    obtain ⟨mb, m1, m2⟩ := a3 h0
    refine ⟨mb, by rw [hne _ (by omega)]; exact m1, ?_⟩
    have : (fun j => (l.setIfInBounds (3 * k + 1) true).getD (3 * j + 3) false) = fun j => l.getD (3 * j + 3) false := funext fun j => set_other (by omega) _
    rw [this]
    exact m2
  · intro j hj hl
    rw [set_other (by omega)] at hl ⊢
    rw [set_other (by omega)]
    exact h.ins j hj hl
  · intro hl
    rw [set_other (by omega)] at hl ⊢
    rw [hne _ (by omega), hne _ (by omega)]
    exact h.fin hl
  · intro hl
    rw [set_other (by omega)] at hl ⊢
    rw [hne _ (by omega), hne _ (by omega)]
    exact h.fin2 hl

theorem PlInv.slice {w0 w : World} {l : Array Bool} {a : Act} (h : PlInv w0 l a w) (k : Nat) (hk : k < 10) (hu : l.getD (3 * k + 2) true = false) : PlInv w0 (l.setIfInBounds (3 * k + 2) true) (a.put (some (2 * k + 3)) (plSl w.heap.size k)) (w.alloc (plC k)) := by
  have ⟨hu0, hul⟩ := unlisted hu
  have hne : ∀ j : Nat, 2 * k + 3 ≠ j → (a.put (some (2 * k + 3)) (plSl w.heap.size k)).eval (.tmp j) = a.eval (.tmp j) := fun j hj => Act.eval_put_ne a _ j _ hj
  obtain ⟨blk, a1, a2, a3⟩ := h.all
  have hlt : ∀ j, j < 10 → l.getD (3 * j + 2) false = true → blk j < w.heap.size := fun j hj hl => (Array.getElem?_eq_some_iff.1 (a1 j hj hl).2.2).1
  refine ⟨by simpa using h.size, tm_put.1.trans h.tm, tm_put.2.trans h.df, h.bel.alloc h.bel.size _, ?_, ⟨fun j => if j = k then w.heap.size else blk j, ?_, ?_, ?_⟩, ?_, ?_, ?_⟩
  · intro j hj hl
    rw [set_other (by omega)] at hl
    rw [hne _ (by omega)]
    exact h.ks j hj hl
  · intro j hj hl
    by_cases hjk : j = k
    · subst hjk
      dsimp only
      rw [if_pos rfl]
      exact ⟨Act.eval_put_same a _ _ (by rw [h.tm]; omega), h.bel.size, at_new _ _ rfl⟩
    · rw [set_other (by omega)] at hl
      dsimp only
      rw [if_neg hjk, hne _ (by omega)]
      have := a1 j hj hl
      exact ⟨this.1, this.2.1, at_old _ this.2.2⟩
  · intro i j hi hj h1 h2
    dsimp only
    by_cases hik : i = k
    · by_cases hjk : j = k
      · intro _; omega
      · rw [set_other (by omega)] at h2
        rw [if_pos hik, if_neg hjk]
        have := hlt j hj h2
        intro he
        omega
    · rw [set_other (by omega)] at h1
      by_cases hjk : j = k
      · rw [if_neg hik, if_pos hjk]
        have := hlt i hi h1
        intro he
        omega
      · rw [set_other (by omega)] at h2
        rw [if_neg hik, if_neg hjk]
        exact a2 i j hi hj h1 h2
  · intro h0
    rw [set_other (by omega)] at h0
    obtain ⟨mb, m1, hmb, es, e1, e2, e3⟩ := a3 h0
    refine ⟨mb, by rw [hne _ (by omega)]; exact m1, hmb, es, at_old _ e1, ?_, e3⟩
    intro j hj
    dsimp only
    rw [set_other (by omega)]
    refine ⟨fun hl => ?_, (e2 j hj).2⟩
    have hjk : j ≠ k := by
      intro he
      subst he
      have := (h.ins j hj hl).2
      rw [hu0] at this
      cases this
    rw [if_neg hjk]
    exact (e2 j hj).1 hl
  · intro j hj hl
    rw [set_other (by omega)] at hl ⊢
    have := h.ins j hj hl
    refine ⟨this.1, ?_⟩
    by_cases hjk : j = k
    · subst hjk; exact set_same hul
    · rw [set_other (by omega)]; exact this.2
  · intro hl
    rw [set_other (by omega)] at hl ⊢
    rw [hne _ (by omega), hne _ (by omega)]
    exact h.fin hl
  · intro hl
    rw [set_other (by omega)] at hl ⊢
    rw [hne _ (by omega), hne _ (by omega)]
    exact h.fin2 hl

theorem PlInv.make {w0 w : World} {l : Array Bool} {a : Act} (h : PlInv w0 l a w) (hu : l.getD 0 true = false) : PlInv w0 (l.setIfInBounds 0 true) (a.put (some 1) (.map (some w.heap.size))) (w.alloc (.map #[] 0)) := by
  have ⟨hu0, hul⟩ := unlisted hu
  have hne : ∀ j : Nat, 1 ≠ j → (a.put (some 1) (.map (some w.heap.size))).eval (.tmp j) = a.eval (.tmp j) := fun j hj => Act.eval_put_ne a _ j _ hj
  obtain ⟨blk, a1, a2, a3⟩ := h.all
  refine ⟨by simpa using h.size, tm_put.1.trans h.tm, tm_put.2.trans h.df, h.bel.alloc h.bel.size _, ?_, ⟨blk, ?_, ?_, ?_⟩, ?_, ?_, ?_⟩
  · intro j hj hl
    rw [set_other (by omega)] at hl
    rw [hne _ (by omega)]
    exact h.ks j hj hl
  · intro j hj hl
    rw [set_other (by omega)] at hl
    rw [hne _ (by omega)]
    have := a1 j hj hl
    exact ⟨this.1, this.2.1, at_old _ this.2.2⟩
  · intro i j hi hj h1 h2
    rw [set_other (by omega)] at h1 h2
    exact a2 i j hi hj h1 h2
  · intro _
    refine ⟨w.heap.size, Act.eval_put_same a _ _ (by rw [h.tm]; omega), h.bel.size, [], at_new _ _ rfl, ?_, fun _ _ _ => rfl⟩
    intro j hj
    dsimp only
    rw [set_other (by omega)]
    refine ⟨fun hl => ?_, fun _ => rfl⟩
    have := (h.ins j hj hl).1
    rw [hu0] at this
    cases this
  · intro j hj hl
    rw [set_other (by omega)] at hl
    rw [set_other (by omega : 0 ≠ 3 * j + 2)]
    exact ⟨set_same hul, (h.ins j hj hl).2⟩
  · intro hl
    rw [set_other (by omega)] at hl
    have := (h.fin hl).1
    rw [hu0] at this
    cases this
  · intro hl
    rw [set_other (by omega)] at hl
    have := (h.fin (h.fin2 hl).1).1
    rw [hu0] at this
    cases this

theorem PlInv.insert {w0 w : World} {l : Array Bool} {a : Act} (h : PlInv w0 l a w) (k : Nat) (hk : k < 10) (hu : l.getD (3 * k + 3) true = false) (d0 : l.getD 0 false = true) (d1 : l.getD (3 * k + 1) false = true) (d2 : l.getD (3 * k + 2) false = true) :
    ∃ w', (Instr.mapUpdate 106 (a.eval (.tmp 1)) (a.eval (.tmp (2 * k + 2))) (a.eval (.tmp (2 * k + 3)))).run Tryd.prog w = .ok () w' ∧ PlInv w0 (l.setIfInBounds (3 * k + 3) true) a w' := by
  have ⟨hu0, hul⟩ := unlisted hu
  obtain ⟨blk, a1, a2, a3⟩ := h.all
  obtain ⟨mb, m1, hmb, es, e1, e2, e3⟩ := a3 d0
  have e1' : w.heap[mb]? = some (.map (plE 0 es).toArray es.length) := e1
  have hno := (e2 k hk).2 hu0
  refine ⟨setBlock w mb (plO (es ++ [(((plKey k).1, (plKey k).2), plSl (blk k) k)])), ?_, ?_⟩
  · rw [m1, h.ks k hk d1, (a1 k hk d2).1]
    exact insert_place (plKey k).1 (plKey k).2 (plSl (blk k) k) e1 hno
  · have hother : ∀ i, i ≠ mb → (setBlock w mb (plO (es ++ [(((plKey k).1, (plKey k).2), plSl (blk k) k)]))).heap[i]? = w.heap[i]? := fun i hi => heap_setBlock_other e1' _ hi
    refine ⟨by simpa using h.size, h.tm, h.df, ?_, ?_, ⟨blk, ?_, ?_, ?_⟩, ?_, ?_, ?_⟩
    · exact h.bel.grown (row := some mb) ⟨rfl, rfl, rfl, by simp [setBlock], fun i _ hi => heap_setBlock_other e1' _ (fun e => hi (by rw [e]))⟩ h.bel.size (fun i hi => by cases hi; exact hmb)
    · intro j hj hl
      rw [set_other (by omega)] at hl
      exact h.ks j hj hl
    · intro j hj hl
      rw [set_other (by omega)] at hl
      have := a1 j hj hl
      refine ⟨this.1, this.2.1, (hother _ ?_).trans this.2.2⟩
      intro he
      have h3 := this.2.2
      rw [he, e1] at h3
      unfold plO plC at h3
      simp at h3
    · intro i j hi hj h1 h2
      rw [set_other (by omega)] at h1 h2
      exact a2 i j hi hj h1 h2
    · intro _
      refine ⟨mb, m1, hmb, _, heap_setBlock_same e1' _, ?_, ?_⟩
      · intro j hj
        rw [plIdx_snoc]
        by_cases hjk : j = k
        · subst hjk
          refine ⟨fun _ => ?_, fun hl => ?_⟩
          · rw [hno]
            exact ⟨0 + es.length, by simp⟩
          · dsimp only at hl
            rw [set_same hul] at hl
            cases hl
        · dsimp only
          rw [set_other (by omega)]
          refine ⟨fun hl => ?_, fun hl => ?_⟩
          · obtain ⟨i, hi⟩ := (e2 j hj).1 hl
            rw [hi]
            exact ⟨i, rfl⟩
          · rw [(e2 j hj).2 hl]
            have hkk : plKey j ≠ plKey k := fun he => hjk (plKey_inj j hj k hk he)
            have : ((((plKey j).1 == (plKey k).1) && ((plKey j).2 == (plKey k).2)) = true) → False := by
              intro hb
              simp only [Bool.and_eq_true, beq_iff_eq] at hb
              exact hkk (Prod.ext hb.1 hb.2)
            simp only
            rw [if_neg this]
      · intro p r hpr
        rw [plIdx_snoc, e3 p r hpr]
        have : (((p == (plKey k).1) && (r == (plKey k).2)) = true) → False := by
          intro hb
          simp only [Bool.and_eq_true, beq_iff_eq] at hb
          exact hpr k hk (Prod.ext hb.1.symm hb.2.symm)
        simp only
        rw [if_neg this]
    · intro j hj hl
      rw [set_other (by omega : 3 * k + 3 ≠ 0), set_other (by omega : 3 * k + 3 ≠ 3 * j + 2)]
      by_cases hjk : j = k
      · subst hjk; exact ⟨d0, d2⟩
      · rw [set_other (by omega)] at hl
        exact h.ins j hj hl
    · intro hl
      rw [set_other (by omega)] at hl ⊢
      exact h.fin hl
    · intro hl
      rw [set_other (by omega)] at hl ⊢
      exact h.fin2 hl

theorem PlInv.move {w0 w : World} {l : Array Bool} {a : Act} (h : PlInv w0 l a w) (hu : l.getD 31 true = false) (d0 : l.getD 0 false = true) : PlInv w0 (l.setIfInBounds 31 true) (a.put (some 22) (a.eval (.tmp 1))) w := by
  have ⟨hu0, hul⟩ := unlisted hu
  have hne : ∀ j : Nat, 22 ≠ j → (a.put (some 22) (a.eval (.tmp 1))).eval (.tmp j) = a.eval (.tmp j) := fun j hj => Act.eval_put_ne a _ j _ hj
  obtain ⟨blk, a1, a2, a3⟩ := h.all
  refine ⟨by simpa using h.size, tm_put.1.trans h.tm, tm_put.2.trans h.df, h.bel, ?_, ⟨blk, ?_, ?_, ?_⟩, ?_, ?_, ?_⟩
  · intro j hj hl
    rw [set_other (by omega)] at hl
    rw [hne _ (by omega)]
    exact h.ks j hj hl
  · intro j hj hl
    rw [set_other (by omega)] at hl
    rw [hne _ (by omega)]
    exact a1 j hj hl
  · intro i j hi hj h1 h2
    rw [set_other (by omega)] at h1 h2
    exact a2 i j hi hj h1 h2
  · intro h0
    obtain ⟨mb, m1, m2⟩ := a3 d0
    refine ⟨mb, by rw [hne _ (by omega)]; exact m1, ?_⟩
    obtain ⟨hmb, es, e1, e2, e3⟩ := m2
    refine ⟨hmb, es, e1, fun j hj => ?_, e3⟩
    dsimp only
    rw [set_other (by omega)]
    exact e2 j hj
  · intro j hj hl
    rw [set_other (by omega)] at hl
    rw [set_other (by omega : 31 ≠ 0), set_other (by omega : 31 ≠ 3 * j + 2)]
    exact h.ins j hj hl
  · intro _
    rw [set_other (by omega : 31 ≠ 0), hne _ (by omega : 22 ≠ 1)]
    exact ⟨d0, Act.eval_put_same a _ _ (by rw [h.tm]; omega)⟩
  · intro hl
    rw [set_other (by omega)] at hl
    have := (h.fin2 hl).1
    rw [hu0] at this
    cases this

theorem PlInv.assign {w0 w : World} {l : Array Bool} {a : Act} (h : PlInv w0 l a w) (hu : l.getD 32 true = false) (d31 : l.getD 31 false = true) : PlInv w0 (l.setIfInBounds 32 true) (a.put (some 0) (a.eval (.tmp 22))) w := by
  have ⟨hu0, hul⟩ := unlisted hu
  have hne : ∀ j : Nat, 0 ≠ j → (a.put (some 0) (a.eval (.tmp 22))).eval (.tmp j) = a.eval (.tmp j) := fun j hj => Act.eval_put_ne a _ j _ hj
  obtain ⟨blk, a1, a2, a3⟩ := h.all
  refine ⟨by simpa using h.size, tm_put.1.trans h.tm, tm_put.2.trans h.df, h.bel, ?_, ⟨blk, ?_, ?_, ?_⟩, ?_, ?_, ?_⟩
  · intro j hj hl
    rw [set_other (by omega)] at hl
    rw [hne _ (by omega)]
    exact h.ks j hj hl
  · intro j hj hl
    rw [set_other (by omega)] at hl
    rw [hne _ (by omega)]
    exact a1 j hj hl
  · intro i j hi hj h1 h2
    rw [set_other (by omega)] at h1 h2
    exact a2 i j hi hj h1 h2
  · intro h0
    rw [set_other (by omega)] at h0
    obtain ⟨mb, m1, m2⟩ := a3 h0
    refine ⟨mb, by rw [hne _ (by omega)]; exact m1, ?_⟩
    obtain ⟨hmb, es, e1, e2, e3⟩ := m2
    refine ⟨hmb, es, e1, fun j hj => ?_, e3⟩
    dsimp only
    rw [set_other (by omega)]
    exact e2 j hj
  · intro j hj hl
    rw [set_other (by omega)] at hl
    rw [set_other (by omega : 32 ≠ 0), set_other (by omega : 32 ≠ 3 * j + 2)]
    exact h.ins j hj hl
  · intro hl
    rw [set_other (by omega)] at hl ⊢
    rw [hne _ (by omega), hne _ (by omega)]
    exact h.fin hl
  · intro _
    rw [set_other (by omega : 32 ≠ 31), hne _ (by omega : 0 ≠ 22)]
    exact ⟨d31, Act.eval_put_same a _ _ (by rw [h.tm]; omega)⟩

/-- One operation that comes up, by its run. -/
theorem op_value {P : Program} {ops : Array Oper} {Q : Exit → Act → World → Prop} {i : Nat} {o : Oper} {a : Act} {w w' : World} {v : Value} {K : Act → World → Prop} (ho : ops[i]? = some o) (hg : o.guard = none) (hr : (execOp a.eval o).run P w = .ok (.value v) w') (hK : K (a.put o.dst v) w') : wpOp P ops Q i K a w := by
  unfold wpOp
  rw [ho]
  have : Region.wanted o (yielded ops a.tmps) = true := by simp [Region.wanted, hg]
  simp only [this, if_true]
  exact .inl (by unfold Oper.wp; rw [hr]; exact hK)
theorem op_skip {P : Program} {ops : Array Oper} {Q : Exit → Act → World → Prop} {i : Nat} {o : Oper} {a : Act} {w w' : World} {K : Act → World → Prop} (ho : ops[i]? = some o) (hg : o.guard = none) (hr : (execOp a.eval o).run P w = .ok .skip w') (hK : K (a.put o.dst undef) w') : wpOp P ops Q i K a w := by
  unfold wpOp
  rw [ho]
  have : Region.wanted o (yielded ops a.tmps) = true := by simp [Region.wanted, hg]
  simp only [this, if_true]
  exact .inl (by unfold Oper.wp; rw [hr]; exact hK)

/-- The map of all places. -/
def PlacesAt (w : World) (C mb : Nat) : Prop := ∃ blk : Nat → Nat, (∀ k, k < 10 → C ≤ blk k ∧ w.heap[blk k]? = some (plC k)) ∧ (∀ j k, j < 10 → k < 10 → blk j = blk k → j = k) ∧ PlMap w C mb blk (fun _ => true)

theorem PlInv.last {w0 w : World} {l : Array Bool} {a : Act} (h : PlInv w0 l a w) (hl : ∀ i, i < 33 → l.getD i false = true) : ∃ mb, a.eval (.tmp 0) = .map (some mb) ∧ PlacesAt w w0.heap.size mb := by
  obtain ⟨blk, a1, a2, a3⟩ := h.all
  obtain ⟨mb, m1, hmb, es, e1, e2, e3⟩ := a3 (hl 0 (by omega))
  refine ⟨mb, ?_, blk, fun k hk => (a1 k hk (hl _ (by omega))).2, fun j k hj hk => a2 j k hj hk (hl _ (by omega)) (hl _ (by omega)), hmb, es, e1, fun k hk => ⟨fun _ => (e2 k hk).1 (hl _ (by omega)), fun hf => by cases hf⟩, e3⟩
  rw [(h.fin2 (hl 32 (by omega))).2, (h.fin (hl 31 (by omega))).2, m1]

set_option maxHeartbeats 4000000 in
set_option maxRecDepth 100000 in
theorem impl_setsOfPlaces (w : World) : Calls Tryd.prog 117 #[] w fun e w' => ∃ mb, e = .returned (.map (some mb)) ∧ PlacesAt w' w.heap.size mb ∧ Below w.heap.size w w' := by
  have hmm := @run_makeMap Tryd.prog
  go_enter Tryd.func117, Tryd.ntmps117
  go_wp2_with fail
  rename_i K hK
  refine wp_region_any (by kernel_rfl) ?_
  refine wpAny_inv (PlInv w) ?_ ?_ _ _ _ _ (by decide +kernel) ?_
  · intro l a w1 hI i hi
    obtain ⟨hu, o, ho, hd⟩ := mem_ready.1 hi
    have hi33 : i < 33 := by have := (Array.getElem?_eq_some_iff.1 ho).1; simpa using this
    rcases (show i = 0 ∨ i = 1 ∨ i = 2 ∨ i = 3 ∨ i = 4 ∨ i = 5 ∨ i = 6 ∨ i = 7 ∨ i = 8 ∨ i = 9 ∨ i = 10 ∨ i = 11 ∨ i = 12 ∨ i = 13 ∨ i = 14 ∨ i = 15 ∨ i = 16 ∨ i = 17 ∨ i = 18 ∨ i = 19 ∨ i = 20 ∨ i = 21 ∨ i = 22 ∨ i = 23 ∨ i = 24 ∨ i = 25 ∨ i = 26 ∨ i = 27 ∨ i = 28 ∨ i = 29 ∨ i = 30 ∨ i = 31 ∨ i = 32 by omega) with rfl | rfl | rfl | rfl | rfl | rfl | rfl | rfl | rfl | rfl | rfl | rfl | rfl | rfl | rfl | rfl | rfl | rfl | rfl | rfl | rfl | rfl | rfl | rfl | rfl | rfl | rfl | rfl | rfl | rfl | rfl | rfl | rfl
    · exact op_value rfl rfl (by simp [execOp, hmm]) (hI.make hu)
    · exact op_value rfl rfl (by go_simp; rfl) (hI.build 0 (by decide) hu)
    · exact op_value rfl rfl (by go_simp; exact ⟨rfl, rfl⟩) (hI.slice 0 (by decide) hu)
    · obtain rfl := Option.some.inj ho
      obtain ⟨w2, hr, hI2⟩ := hI.insert 0 (by decide) hu (hd ⟨0, .data⟩ (by simp) rfl) (hd ⟨1, .data⟩ (by simp) rfl) (hd ⟨2, .data⟩ (by simp) rfl)
      exact op_skip rfl rfl (by simp [execOp, hr, Result.andThen]) hI2
    · exact op_value rfl rfl (by go_simp; rfl) (hI.build 1 (by decide) hu)
    · exact op_value rfl rfl (by go_simp; exact ⟨rfl, rfl⟩) (hI.slice 1 (by decide) hu)
    · obtain rfl := Option.some.inj ho
      obtain ⟨w2, hr, hI2⟩ := hI.insert 1 (by decide) hu (hd ⟨0, .data⟩ (by simp) rfl) (hd ⟨4, .data⟩ (by simp) rfl) (hd ⟨5, .data⟩ (by simp) rfl)
      exact op_skip rfl rfl (by simp [execOp, hr, Result.andThen]) hI2
    · exact op_value rfl rfl (by go_simp; rfl) (hI.build 2 (by decide) hu)
    · exact op_value rfl rfl (by go_simp; exact ⟨rfl, rfl⟩) (hI.slice 2 (by decide) hu)
    · obtain rfl := Option.some.inj ho
      obtain ⟨w2, hr, hI2⟩ := hI.insert 2 (by decide) hu (hd ⟨0, .data⟩ (by simp) rfl) (hd ⟨7, .data⟩ (by simp) rfl) (hd ⟨8, .data⟩ (by simp) rfl)
      exact op_skip rfl rfl (by simp [execOp, hr, Result.andThen]) hI2
    · exact op_value rfl rfl (by go_simp; rfl) (hI.build 3 (by decide) hu)
    · exact op_value rfl rfl (by go_simp; exact ⟨rfl, rfl⟩) (hI.slice 3 (by decide) hu)
    · obtain rfl := Option.some.inj ho
      obtain ⟨w2, hr, hI2⟩ := hI.insert 3 (by decide) hu (hd ⟨0, .data⟩ (by simp) rfl) (hd ⟨10, .data⟩ (by simp) rfl) (hd ⟨11, .data⟩ (by simp) rfl)
      exact op_skip rfl rfl (by simp [execOp, hr, Result.andThen]) hI2
    · exact op_value rfl rfl (by go_simp; rfl) (hI.build 4 (by decide) hu)
    · exact op_value rfl rfl (by go_simp; exact ⟨rfl, rfl⟩) (hI.slice 4 (by decide) hu)
    · obtain rfl := Option.some.inj ho
      obtain ⟨w2, hr, hI2⟩ := hI.insert 4 (by decide) hu (hd ⟨0, .data⟩ (by simp) rfl) (hd ⟨13, .data⟩ (by simp) rfl) (hd ⟨14, .data⟩ (by simp) rfl)
      exact op_skip rfl rfl (by simp [execOp, hr, Result.andThen]) hI2
    · exact op_value rfl rfl (by go_simp; rfl) (hI.build 5 (by decide) hu)
    · exact op_value rfl rfl (by go_simp; exact ⟨rfl, rfl⟩) (hI.slice 5 (by decide) hu)
    · obtain rfl := Option.some.inj ho
      obtain ⟨w2, hr, hI2⟩ := hI.insert 5 (by decide) hu (hd ⟨0, .data⟩ (by simp) rfl) (hd ⟨16, .data⟩ (by simp) rfl) (hd ⟨17, .data⟩ (by simp) rfl)
      exact op_skip rfl rfl (by simp [execOp, hr, Result.andThen]) hI2
    · exact op_value rfl rfl (by go_simp; rfl) (hI.build 6 (by decide) hu)
    · exact op_value rfl rfl (by go_simp; exact ⟨rfl, rfl⟩) (hI.slice 6 (by decide) hu)
    · obtain rfl := Option.some.inj ho
      obtain ⟨w2, hr, hI2⟩ := hI.insert 6 (by decide) hu (hd ⟨0, .data⟩ (by simp) rfl) (hd ⟨19, .data⟩ (by simp) rfl) (hd ⟨20, .data⟩ (by simp) rfl)
      exact op_skip rfl rfl (by simp [execOp, hr, Result.andThen]) hI2
    · exact op_value rfl rfl (by go_simp; rfl) (hI.build 7 (by decide) hu)
    · exact op_value rfl rfl (by go_simp; exact ⟨rfl, rfl⟩) (hI.slice 7 (by decide) hu)
    · obtain rfl := Option.some.inj ho
      obtain ⟨w2, hr, hI2⟩ := hI.insert 7 (by decide) hu (hd ⟨0, .data⟩ (by simp) rfl) (hd ⟨22, .data⟩ (by simp) rfl) (hd ⟨23, .data⟩ (by simp) rfl)
      exact op_skip rfl rfl (by simp [execOp, hr, Result.andThen]) hI2
    · exact op_value rfl rfl (by go_simp; rfl) (hI.build 8 (by decide) hu)
    · exact op_value rfl rfl (by go_simp; exact ⟨rfl, rfl⟩) (hI.slice 8 (by decide) hu)
    · obtain rfl := Option.some.inj ho
      obtain ⟨w2, hr, hI2⟩ := hI.insert 8 (by decide) hu (hd ⟨0, .data⟩ (by simp) rfl) (hd ⟨25, .data⟩ (by simp) rfl) (hd ⟨26, .data⟩ (by simp) rfl)
      exact op_skip rfl rfl (by simp [execOp, hr, Result.andThen]) hI2
    · exact op_value rfl rfl (by go_simp; rfl) (hI.build 9 (by decide) hu)
    · exact op_value rfl rfl (by go_simp; exact ⟨rfl, rfl⟩) (hI.slice 9 (by decide) hu)
    · obtain rfl := Option.some.inj ho
      obtain ⟨w2, hr, hI2⟩ := hI.insert 9 (by decide) hu (hd ⟨0, .data⟩ (by simp) rfl) (hd ⟨28, .data⟩ (by simp) rfl) (hd ⟨29, .data⟩ (by simp) rfl)
      exact op_skip rfl rfl (by simp [execOp, hr, Result.andThen]) hI2
    · obtain rfl := Option.some.inj ho
      exact op_value rfl rfl (by simp [execOp]) (hI.move hu (hd ⟨0, .data⟩ (by simp) rfl))
    · obtain rfl := Option.some.inj ho
      exact op_value rfl rfl (by simp [execOp]) (hI.assign hu (hd ⟨31, .data⟩ (by simp) rfl))
  · intro l a w1 hI hr
    have hl := fun i hi => all_listed (by decide +kernel) (by rw [hI.size]; rfl) hr 33 i hi (by simpa using hi)
    obtain ⟨mb, h0, hp⟩ := hI.last hl
    refine hK _ _ ?_
    go_wp2
    exact bodyPost_ret (results_tmp rfl _ _ _) hI.df ⟨mb, congrArg Ending.returned h0, hp, hI.bel⟩
  · have hf : ∀ i, (Array.replicate 33 false).getD i false = false := fun i => by
      rw [Array.getD_eq_getD_getElem?, Array.getElem?_replicate]
      split <;> rfl
    have no : ∀ {i : Nat}, (Array.replicate 33 false).getD i false = true → False := fun h => by rw [hf] at h; cases h
    exact ⟨rfl, rfl, rfl, (Below.refl w.heap.size w).drew, fun k _ h => (no h).elim, ⟨fun _ => 0, fun k _ h => (no h).elim, fun j k _ _ h => (no h).elim, fun h => (no h).elim⟩, fun k _ h => (no h).elim, fun h => (no h).elim, fun h => (no h).elim⟩

end Go.Proofs.YtjbikenhdgbacaaDoor

namespace Go.Proofs.YtjbikenhdgbacaaDoor
open Go.RowKit

set_option maxHeartbeats 400000 in
theorem slices_Index (v : Value) (zs : List Int) (n : Int) (w : World) (h : Ints .i64 w v zs) (hl : zs.length ≤ 1048576) : Calls Tryd.prog 169 #[v, .int .i64 n] w fun e w' => ∃ r, e = .returned (.int .i64 r) ∧ decide (0 ≤ r) = hasB zs n ∧ w = w' := by
  rcases h with ⟨rfl, a, c, rfl⟩ | ⟨b, off, c, rfl, hcell⟩
  · go_enter Tryd.func169, Tryd.ntmps169
    go_wp2
    go_loop [8] (fun i => i = .int .i64 0) (fun _ => 0)
    case atStart => rfl
    case round =>
      subst hrel
      go_wp2
      go_ret
      exact ⟨_, rfl, rfl, rfl⟩
  · generalize hm : zs.length = m at *
    have HM := Lib.hid hm
    clear hm
    go_enter Tryd.func169, Tryd.ntmps169
    go_wp2
    go_loop [8] (fun i => ∃ j : Nat, j ≤ m ∧ i = .int .i64 j ∧ Hid (hasB (zs.take j) n = false)) (fun i => m - (intOf i).toNat)
    case atStart => exact ⟨0, Nat.zero_le _, rfl, Lib.hid rfl⟩
    case round =>
      obtain ⟨j, hj, rfl, HJ⟩ := hrel
      by_cases hlt : j < m
      · have c1 := hcell j hlt
        have e1 : (0 : Int) ≤ (j : Int) := by omega
        have e2 : (j : Int) < (m : Int) := by omega
        have HT := Lib.hid (hasB_take zs j n (by have := HM.out; omega))
        generalize zs.getD j 0 = z at *
        clear hcell
        by_cases hz : z = n
        · have ez : (n == z) = true := by simp [hz]
          have HE : Hid (hasB zs n = true) := Lib.hid (by
            have h1 : hasB (zs.take (j + 1)) n = true := by rw [HT.out, hz]; simp
            rw [hasB_iff] at h1 ⊢
            exact List.mem_of_mem_take h1)
          have HD : Hid (decide ((0 : Int) ≤ (j : Int)) = hasB zs n) := Lib.hid (by rw [HE.out]; exact decide_eq_true e1)
          clear hz
          go_wp2
          go_ret
          exact ⟨_, rfl, HD.out, rfl⟩
        · have ez : (n == z) = false := by
            have : ¬ n = z := fun h => hz h.symm
            simp [this]
          have HN : Hid (hasB (zs.take (j + 1)) n = false) := Lib.hid (by
            rw [HT.out, HJ.out]
            simp [hz])
          clear hz
          go_wp2
          go_round
          case rel => exact ⟨j + 1, by omega, by go_num, HN⟩
          case measure => simp [intOf]; omega
      · have HE : Hid (hasB zs n = false) := Lib.hid (by
          have h := HJ.out
          rw [List.take_of_length_le (by have := HM.out; omega)] at h
          exact h)
        go_wp2
        go_ret
        exact ⟨_, rfl, by rw [HE.out]; rfl, rfl⟩

theorem slices_Contains (v : Value) (zs : List Int) (n : Int) (w : World) (h : Ints .i64 w v zs) (hl : zs.length ≤ 1048576) : Calls Tryd.prog 160 #[v, .int .i64 n] w fun e w' => e = .returned (.bool (hasB zs n)) ∧ w = w' := by
  have HI := Lib.hid (fun w h => slices_Index v zs n w h hl)
  have HV := Lib.hid h
  clear h
  generalize hasB zs n = q at *
  go_enter Tryd.func160, Tryd.ntmps160
  go_wp2_with fail
  refine (HI.out _ HV.out).mono ?_
  rintro e w1 ⟨r, rfl, hr, rfl⟩
  have HR := Lib.hid hr
  clear hr
  go_wp2
  go_ret
  exact ⟨ret_bool HR.out, rfl⟩

theorem PlacesAt.move {w w' : World} {C mb : Nat} (h : PlacesAt w C mb) (hk : ∀ i, C ≤ i → i < w.heap.size → w'.heap[i]? = w.heap[i]?) : PlacesAt w' C mb := by
  obtain ⟨blk, h1, h2, hC, es, h3, h4⟩ := h
  exact ⟨blk, fun k hk10 => ⟨(h1 k hk10).1, (hk _ (h1 k hk10).1 (Array.getElem?_eq_some_iff.1 (h1 k hk10).2).1).trans (h1 k hk10).2⟩, h2, hC, es, (hk _ hC (Array.getElem?_eq_some_iff.1 h3).1).trans h3, h4⟩
theorem PlacesAt.keep {w w' : World} {C mb : Nat} (h : PlacesAt w C mb) (b : Below w.heap.size w w') : PlacesAt w' C mb := h.move fun i _ hi => b.block i hi
theorem PlacesAt.only {w w' : World} {C mb b : Nat} (h : PlacesAt w C mb) (o : Only b w w') (hb : b < C) : PlacesAt w' C mb := h.move fun i hi hl => o.2 i (by omega) hl
theorem PlacesAt.low {w : World} {C C' mb : Nat} (h : PlacesAt w C mb) (hC : C' ≤ C) : PlacesAt w C' mb := by
  obtain ⟨blk, h1, h2, h3, h4⟩ := h
  exact ⟨blk, fun k hk => ⟨Nat.le_trans hC (h1 k hk).1, (h1 k hk).2⟩, h2, Nat.le_trans hC h3, h4⟩

/-- The number of a profile's register among the places; 10 of none. -/
def plNo (n a : Int) : Nat := if n = 1 ∧ a = 0 then 0 else if n = 2 ∧ a = 0 then 1 else if n = 2 ∧ a = 2 then 2 else if n = 3 ∧ a = 0 then 3 else if n = 3 ∧ a = 1 then 4 else if n = 4 ∧ a = 0 then 5 else if n = 4 ∧ a = 1 then 6 else if n = 4 ∧ a = 2 then 7 else if n = 5 ∧ a = 0 then 8 else if n = 5 ∧ a = 1 then 9 else 10
theorem plNo_spec {n a : Int} (hn : proB n = true) (a0 : 0 ≤ a) (a3 : a ≤ 3) : (plNo n a < 10 ∧ plKey (plNo n a) = (n, a) ∧ plList (plNo n a) = prSets n a) ∨ ((∀ k, k < 10 → plKey k ≠ (n, a)) ∧ prSets n a = []) := by
  rcases pro_cases hn with rfl | rfl | rfl | rfl | rfl <;> rcases (show a = 0 ∨ a = 1 ∨ a = 2 ∨ a = 3 by omega) with rfl | rfl | rfl | rfl <;> decide +kernel
theorem plList_few : ∀ k, (plList k).length ≤ 6 := by
  intro k
  by_cases h : k < 10
  · exact (show ∀ k, k < 10 → (plList k).length ≤ 6 by decide +kernel) k h
  · have : plList k = [] := by
      unfold plList
      rw [List.getD_eq_getElem?_getD, List.getElem?_eq_none (by simp [plLists]; omega)]
      rfl
    rw [this]
    decide
theorem own_row {w : World} {C b k : Nat} (hC : C ≤ b) (h : w.heap[b]? = some (plC k)) : Own .i64 3 w C (plSl b k) (plList k) := by
  refine ⟨by simp, .inr ⟨b, (plList k).length, _, rfl, hC, h, Nat.le_refl _, ?_, by simp, List.take_of_length_le (by simp)⟩⟩
  have := plList_few k
  unfold maxLen
  omega

/-- The value of a register's sets: a row of the map's own, or nil. -/
theorem PlacesAt.look {w : World} {C mb : Nat} (h : PlacesAt w C mb) {n a : Int} (hn : proB n = true) (a0 : 0 ≤ a) (a3 : a ≤ 3) : ∃ s l c, (∀ q, (Instr.lookup 106 (.map (some mb)) (.agg #[.int .i64 n, .int .i64 a]) false).run Tryd.prog (w.drewN q) = .ok (.slice s l c) (w.drewN q)) ∧ Own .i64 3 w C (.slice s l c) (prSets n a) := by
  obtain ⟨blk, h1, h2, hC, es, h3, h4, h5⟩ := h
  have hl := fun q => lookup_place (w := w.drewN q) n a h3
  rcases plNo_spec hn a0 a3 with ⟨k1, k2, k3⟩ | ⟨k1, k2⟩
  · obtain ⟨i, hi⟩ := (h4 _ k1).1 rfl
    rw [k2] at hi
    rw [hi] at hl
    refine ⟨_, _, _, hl, ?_⟩
    rw [← k3]
    exact own_row (h1 _ k1).1 (h1 _ k1).2
  · rw [h5 n a k1] at hl
    refine ⟨_, _, _, hl, ?_⟩
    rw [k2]
    exact Own.nil _ _ _ _

/-- A guide with its map, made or not yet. -/
def GuOK (w : World) (g : Nat) (n : Int) (C : Nat) : Prop := ∃ m, GuAt w g n m ∧ (m = .map none ∨ ∃ mb, m = .map (some mb) ∧ PlacesAt w C mb)
theorem GuOK.keep {w w' : World} {g C : Nat} {n : Int} (h : GuOK w g n C) (b : Below w.heap.size w w') : GuOK w' g n C := by
  obtain ⟨m, h1, h2⟩ := h
  refine ⟨m, h1.keep b, h2.imp id ?_⟩
  rintro ⟨mb, h3, h4⟩
  exact ⟨mb, h3, h4.keep b⟩
theorem GuOK.only {w w' : World} {g C b : Nat} {n : Int} (h : GuOK w g n C) (o : Only b w w') (hb : b < C) (hg : g ≠ b) : GuOK w' g n C := by
  obtain ⟨m, h1, h2⟩ := h
  refine ⟨m, (o.2 g hg h1.lt).trans h1, h2.imp id ?_⟩
  rintro ⟨mb, h3, h4⟩
  exact ⟨mb, h3, h4.only o hb⟩
theorem GuAt.put {w : World} {g : Nat} {n : Int} {m : Value} (h : GuAt w g n m) (m' : Value) : GuAt (w.setCell ⟨g, 9, none⟩ m') g n m' := heap_setCell_same _ _ 9 _ _ m' h

def SfDone (n a : Int) (g C : Nat) (w : World) (e : Ending) (w' : World) : Prop := ∃ s l c mb, e = .returned (.slice s l c) ∧ GuAt w' g n (.map (some mb)) ∧ PlacesAt w' C mb ∧ Own .i64 3 w' C (.slice s l c) (prSets n a) ∧ Only g w w'

set_option maxHeartbeats 1000000 in
theorem impl_setsFor (n : Int) (a : Int) (g C : Nat) (w : World) (h : GuOK w g n C) (hg : g < C) (hC : C ≤ w.heap.size) (hn : proB n = true) (a0 : 0 ≤ a) (a3 : a ≤ 3) : Calls Tryd.prog 161 #[.pointer (some ⟨g, 0, none⟩), .int .i64 a] w (SfDone n a g C w) := by
  obtain ⟨m, hm, h2⟩ := h
  have q1 : ∀ (x y : Operand) (m : Option Nat) (w : World), (eqGuard .eql 106 x y (.map m) (.map none)).run Tryd.prog w = .ok () w := fun _ _ _ _ => by kernel_rfl
  have q2 : ∀ (w : World), (binOp .eql 106 (.map none) (.map none)).run Tryd.prog w = .ok (.bool true) w := fun _ => by kernel_rfl
  have q3 : ∀ (mb : Nat) (w : World), (binOp .eql 106 (.map (some mb)) (.map none)).run Tryd.prog w = .ok (.bool false) w := fun _ _ => by kernel_rfl
  rcases h2 with rfl | ⟨mb, rfl, hp⟩
  · have HS := Lib.hid (fun w => impl_setsOfPlaces w)
    have HM := Lib.hid hm
    have ⟨c0, c1, c2, c3, c4, c5, c6, c7, c8, c9⟩ := row10_cells hm
    clear c1 c2 c3 c4 c5 c6 c7 c8 hm
    go_enter Tryd.func161, Tryd.ntmps161
    go_wp2_with fail
    refine (HS.out _).mono ?_
    rintro e w1 ⟨mb, rfl, hp, b1⟩
    have HM1 := Lib.hid (HM.out.keep b1)
    have ⟨d0, d1, d2, d3, d4, d5, d6, d7, d8, d9⟩ := row10_cells HM1.out
    have ⟨_, _, _, _, _, _, _, _, _, f9⟩ := row10_thaw HM1.out
    have HM2 := Lib.hid (HM1.out.put (.map (some mb)))
    have hgl : g < w1.heap.size := HM1.out.lt
    have O2 : Hid (Only g w (w1.setCell ⟨g, 9, none⟩ (.map (some mb)))) := Lib.hid ((only_below HM.out.lt b1).trans (Only.set g 9 w1 _))
    have HP2 : Hid (PlacesAt (w1.setCell ⟨g, 9, none⟩ (.map (some mb))) C mb) := Lib.hid ((hp.low hC).only (Only.set g 9 w1 _) hg)
    obtain ⟨s, l, c, hl, ho⟩ := HP2.out.look hn a0 a3
    have HL := Lib.hid (fun q => show SfDone n a g C w (.returned (.slice s l c)) ((w1.setCell ⟨g, 9, none⟩ (.map (some mb))).drewN q) from ⟨s, l, c, mb, rfl, HM2.out, HP2.out.move (fun _ _ _ => rfl), ho, O2.out.drewN q⟩)
    clear d1 d2 d3 d4 d5 d6 d7 d8 b1 hp ho c0 c9
    have ⟨x0, x1, x2, x3, x4, x5, x6, x7, x8, x9⟩ := row10_cells HM2.out
    clear x1 x2 x3 x4 x5 x6 x7 x8
    go_wp2
    generalize w1.setCell ⟨g, 9, none⟩ (.map (some mb)) = W2 at *
    go_quiet (fail)
    go_wp2
    go_ret
    exact HL.out _
  · obtain ⟨s, l, c, hl, ho⟩ := hp.look hn a0 a3
    have HL := Lib.hid (fun q => show SfDone n a g C w (.returned (.slice s l c)) (w.drewN q) from ⟨s, l, c, mb, rfl, hm, hp.move (fun _ _ _ => rfl), ho, (Only.refl _ _).drewN q⟩)
    have ⟨c0, c1, c2, c3, c4, c5, c6, c7, c8, c9⟩ := row10_cells hm
    clear c1 c2 c3 c4 c5 c6 c7 c8 hp ho hm
    go_enter Tryd.func161, Tryd.ntmps161
    go_wp2_with fail
    go_quiet (fail)
    go_wp2
    go_ret
    exact HL.out _

/-- A set is no set 0. -/
theorem prSets_pos (n a : Int) : hasB (prSets n a) 0 = false := by
  unfold prSets prSet0 prSet1 prSet2
  repeat' split
  all_goals rfl
theorem allow7_bad {n a b c p m : Int} (h : fsC b c ≠ 0) (hb : 1 ≤ b) (hb3 : b ≤ 3) : allowB n ⟨7, a, b, c, p, m⟩ = false := by
  have hf : findNo b c = 0 := by
    unfold fsC at h
    rw [if_pos (by simp [inB]; omega)] at h
    by_cases h0 : findNo b c = 0
    · exact h0
    · rw [if_neg h0] at h
      exact absurd rfl h
  have := prSets_pos n a
  unfold hasB at this
  simp only [allowB, hf]
  exact this
theorem allow7_ok {n a b c p m : Int} : allowB n ⟨7, a, b, c, p, m⟩ = hasB (prSets n a) (findNo b c) := by simp only [allowB, hasB]; rfl

/-- What the guide's methods that may make its map leave. -/
def GaDone (q : Bool) (g : Nat) (n : Int) (C : Nat) (w : World) (e : Ending) (w' : World) : Prop := e = .returned (.bool q) ∧ GuOK w' g n C ∧ Only g w w'

set_option maxHeartbeats 1000000 in
theorem impl_allowsName (n : Int) (g C : Nat) (a b c p m : Int) (w : World) (h : GuOK w g n C) (hg : g < C) (hC : C ≤ w.heap.size) (ht : TabSets w) (hn : proB n = true) (a0 : 0 ≤ a) (a3 : a ≤ 3) (b0 : 1 ≤ b) (b3 : b ≤ 3) :
    Calls Tryd.prog 147 #[.pointer (some ⟨g, 0, none⟩), tokV ⟨7, a, b, c, p, m⟩] w (GaDone (allowB n ⟨7, a, b, c, p, m⟩) g n C w) := by
  have HF := Lib.hid (fun w ht => impl_FindSet b c w ht)
  have HT := Lib.hid ht
  have B0 := Lib.hid (below_one w (.cells #[.int .i64 7, .int .i64 a, .int .i64 b, .int .i64 c, .int .i64 p, .int .i64 m] 38))
  have HT0 := Lib.hid (HT.out.keep B0.out)
  have HG0 := Lib.hid (h.keep B0.out)
  have hgl : g < w.heap.size := by omega
  clear ht
  unfold tokV
  by_cases hf : fsC b c = 0
  · have HE := Lib.hid (allow7_ok (n := n) (a := a) (b := b) (c := c) (p := p) (m := m))
    have HS := Lib.hid (fun w h hC => impl_setsFor n a g C w h hg hC hn a0 a3)
    have HCn := Lib.hid (fun v x w h => slices_Contains v (prSets n a) x w h (prSets_few n a))
    rw [fsV_ok b c hf] at HF
    clear hf hn
    generalize allowB n ⟨7, a, b, c, p, m⟩ = q at *
    go_enter Tryd.func147, Tryd.ntmps147
    go_wp2_with fail
    refine (HF.out _ HT0.out).mono ?_
    rintro e w1 ⟨rfl, rfl⟩
    have hC0 : C ≤ (w.alloc (.cells #[.int .i64 7, .int .i64 a, .int .i64 b, .int .i64 c, .int .i64 p, .int .i64 m] 38)).heap.size := by simp; omega
    go_wp2_with fail
    refine (HS.out _ HG0.out hC0).mono ?_
    rintro e w2 ⟨s, l, cc, mb, rfl, hG, hP, hO, o2⟩
    have HD : Hid (GuOK w2 g n C ∧ Only g w w2) := Lib.hid ⟨⟨_, hG, .inr ⟨mb, rfl, hP⟩⟩, (only_below hgl B0.out).trans o2⟩
    have HO := Lib.hid hO.ints
    clear hG hP hO o2
    go_wp2_with fail
    refine (HCn.out _ _ _ HO.out).mono ?_
    rintro e w3 ⟨rfl, rfl⟩
    go_wp2
    go_ret
    exact ⟨ret_bool HE.out.symm, HD.out⟩
  · have HE := Lib.hid (allow7_bad (n := n) (a := a) (p := p) (m := m) hf b0 b3)
    have ef : (fsC b c == 0) = false := by simp [hf]
    rw [fsV_bad b c _ rfl hf] at HF
    generalize fsC b c = f at *
    generalize allowB n ⟨7, a, b, c, p, m⟩ = q at *
    go_enter Tryd.func147, Tryd.ntmps147
    go_wp2_with fail
    refine (HF.out _ HT0.out).mono ?_
    rintro e w1 ⟨rfl, rfl⟩
    go_wp2
    go_ret
    exact ⟨ret_bool HE.out.symm, HG0.out, only_below hgl B0.out⟩

end Go.Proofs.YtjbikenhdgbacaaDoor

namespace Go.Proofs.YtjbikenhdgbacaaDoor
open Go.RowKit

/-- The token, without its place, of a byte other than ESC. -/
def byteTok (b : Int) : Tok :=
  if b = 15 then ⟨5, 0, 0, 0, 0, 0⟩ else if b = 14 then ⟨5, 1, 0, 0, 0, 0⟩ else if b = 142 then ⟨6, 2, 0, 0, 0, 0⟩ else if b = 143 then ⟨6, 3, 0, 0, 0, 0⟩
  else if b = 32 then ⟨2, 0, 0, 0, 0, 0⟩ else if 33 ≤ b ∧ b ≤ 126 then ⟨3, b, 0, 0, 0, 0⟩ else if 160 ≤ b then ⟨4, b - 128, 0, 0, 0, 0⟩ else ⟨1, b, 0, 0, 0, 0⟩

set_option maxHeartbeats 2000000 in
theorem impl_byteToken (b : Int) (w : World) (h0 : 0 ≤ b) (h1 : b ≤ 65536) : Calls Tryd.prog 103 #[.int .i64 b] w (TokDone (byteTok b) w) := by
  by_cases c1 : b = 15
  · subst c1
    go_enter Tryd.func103, Tryd.ntmps103
    go_wp2
    exact tok_ret (y := ⟨5, 0, 0, 0, 0, 0⟩) rfl rfl rfl (heap_alloc_new _ _) Tryd.underlying38 rfl (by kernel_rfl) rfl (below_one _ _)
  by_cases c2 : b = 14
  · subst c2
    clear c1
    go_enter Tryd.func103, Tryd.ntmps103
    go_wp2
    exact tok_ret (y := ⟨5, 1, 0, 0, 0, 0⟩) rfl rfl rfl (heap_alloc_new _ _) Tryd.underlying38 rfl (by kernel_rfl) rfl (below_one _ _)
  by_cases c3 : b = 142
  · subst c3
    clear c1 c2
    go_enter Tryd.func103, Tryd.ntmps103
    go_wp2
    exact tok_ret (y := ⟨6, 2, 0, 0, 0, 0⟩) rfl rfl rfl (heap_alloc_new _ _) Tryd.underlying38 rfl (by kernel_rfl) rfl (below_one _ _)
  by_cases c4 : b = 143
  · subst c4
    clear c1 c2 c3
    go_enter Tryd.func103, Tryd.ntmps103
    go_wp2
    exact tok_ret (y := ⟨6, 3, 0, 0, 0, 0⟩) rfl rfl rfl (heap_alloc_new _ _) Tryd.underlying38 rfl (by kernel_rfl) rfl (below_one _ _)
  by_cases c5 : b = 32
  · subst c5
    clear c1 c2 c3 c4
    go_enter Tryd.func103, Tryd.ntmps103
    go_wp2
    exact tok_ret (y := ⟨2, 0, 0, 0, 0, 0⟩) rfl rfl rfl (heap_alloc_new _ _) Tryd.underlying38 rfl (by kernel_rfl) rfl (below_one _ _)
  have e1 : (b == 15) = false := by rw [beq_eq_false_iff_ne]; exact c1
  have e2 : (b == 14) = false := by rw [beq_eq_false_iff_ne]; exact c2
  have e3 : (b == 142) = false := by rw [beq_eq_false_iff_ne]; exact c3
  have e4 : (b == 143) = false := by rw [beq_eq_false_iff_ne]; exact c4
  have e5 : (b == 32) = false := by rw [beq_eq_false_iff_ne]; exact c5
  by_cases c6 : 33 ≤ b
  · by_cases c7 : b ≤ 126
    · have HE : Hid (byteTok b = ⟨3, b, 0, 0, 0, 0⟩) := Lib.hid (by rw [byteTok, if_neg c1, if_neg c2, if_neg c3, if_neg c4, if_neg c5, if_pos ⟨c6, c7⟩])
      clear c1 c2 c3 c4 c5
      go_enter Tryd.func103, Tryd.ntmps103
      go_wp2
      exact tok_ret HE.out rfl rfl (heap_alloc_new _ _) Tryd.underlying38 rfl (by kernel_rfl) rfl (below_one _ _)
    · have c8 : 126 < b := by omega
      by_cases c9 : 160 ≤ b
      · have HE : Hid (byteTok b = ⟨4, b - 128, 0, 0, 0, 0⟩) := Lib.hid (by rw [byteTok, if_neg c1, if_neg c2, if_neg c3, if_neg c4, if_neg c5, if_neg (by omega), if_pos c9])
        have u1 : IntKind.i64.wrap (b - 128) = b - 128 := IntWalk.i64_in _ (by omega)
        clear c1 c2 c3 c4 c5 c7
        go_enter Tryd.func103, Tryd.ntmps103
        go_wp2
        exact tok_ret HE.out rfl rfl (heap_alloc_new _ _) Tryd.underlying38 rfl (by kernel_rfl) rfl (below_one _ _)
      · have HE : Hid (byteTok b = ⟨1, b, 0, 0, 0, 0⟩) := Lib.hid (by rw [byteTok, if_neg c1, if_neg c2, if_neg c3, if_neg c4, if_neg c5, if_neg (by omega), if_neg c9])
        have c10 : b < 160 := by omega
        clear c1 c2 c3 c4 c5 c7 c9
        go_enter Tryd.func103, Tryd.ntmps103
        go_wp2
        exact tok_ret HE.out rfl rfl (heap_alloc_new _ _) Tryd.underlying38 rfl (by kernel_rfl) rfl (below_one _ _)
  · have HE : Hid (byteTok b = ⟨1, b, 0, 0, 0, 0⟩) := Lib.hid (by rw [byteTok, if_neg c1, if_neg c2, if_neg c3, if_neg c4, if_neg c5, if_neg (by omega), if_neg (by omega)])
    have c10 : b < 33 := by omega
    clear c1 c2 c3 c4 c5 c6
    go_enter Tryd.func103, Tryd.ntmps103
    go_wp2
    exact tok_ret HE.out rfl rfl (heap_alloc_new _ _) Tryd.underlying38 rfl (by kernel_rfl) rfl (below_one _ _)

end Go.Proofs.YtjbikenhdgbacaaDoor

namespace Go.Proofs.YtjbikenhdgbacaaDoor
open Go.RowKit

theorem tokField0 (y : Tok) (w : World) : (Instr.field 38 (.agg #[.int .i64 y.k, .int .i64 y.a, .int .i64 y.b, .int .i64 y.c, .int .i64 y.p, .int .i64 y.n]) 0).run Tryd.prog w = .ok (.int .i64 y.k) w := by kernel_rfl

def ctlB (a : Int) : Bool := decide (0 ≤ a) && decide (a < 160) && decide (a ≠ 27) && decide ((byteTok a).k = 1)
theorem ctlB_iff (a : Int) : ctlB a = true ↔ ((0 ≤ a ∧ a ≤ 13) ∨ (16 ≤ a ∧ a ≤ 31 ∧ a ≠ 27) ∨ a = 127 ∨ (128 ≤ a ∧ a ≤ 159 ∧ a ≠ 142 ∧ a ≠ 143)) := by
  simp only [ctlB, Bool.and_eq_true, decide_eq_true_eq]
  unfold byteTok
  repeat' split
  all_goals dsimp only
  all_goals omega

set_option maxHeartbeats 1000000 in
theorem impl_isControl (a : Int) (w : World) : Calls Tryd.prog 154 #[.int .i64 a] w fun e w' => e = .returned (.bool (ctlB a)) ∧ Below w.heap.size w w' := by
  by_cases h0 : a < 0
  · have HE : Hid (ctlB a = false) := Lib.hid (by simp [ctlB]; omega)
    go_enter Tryd.func154, Tryd.ntmps154
    go_wp2
    go_ret
    exact ⟨ret_bool HE.out.symm, Below.refl _ _⟩
  have h0' : 0 ≤ a := by omega
  by_cases h1 : 160 ≤ a
  · have HE : Hid (ctlB a = false) := Lib.hid (by simp [ctlB]; omega)
    clear h0
    go_enter Tryd.func154, Tryd.ntmps154
    go_wp2
    go_ret
    exact ⟨ret_bool HE.out.symm, Below.refl _ _⟩
  have h1' : a < 160 := by omega
  by_cases h2 : a = 27
  · subst h2
    clear h0 h1 h0' h1'
    go_enter Tryd.func154, Tryd.ntmps154
    go_wp2
    go_ret
    exact ⟨ret_bool (by decide), Below.refl _ _⟩
  have HE : Hid (ctlB a = ((byteTok a).k == 1)) := Lib.hid (by
    have q0 : decide (0 ≤ a) = true := by simpa using h0'
    have q1 : decide (a < 160) = true := by simpa using h1'
    have q2 : decide (a ≠ 27) = true := by simpa using h2
    rw [ctlB, q0, q1, q2]
    rfl)
  have e2 : (a != 27) = true := by simpa using h2
  have HF := Lib.hid (tokField0 (byteTok a))
  clear h0 h1 h2
  generalize hy : byteTok a = y at *
  have HY := Lib.hid hy
  clear hy
  have fy := HF.out
  go_enter Tryd.func154, Tryd.ntmps154
  go_wp2_with fail
  refine (impl_byteToken a w h0' (by omega)).mono ?_
  rintro e w1 ⟨rfl, b1⟩
  rw [HY.out]
  unfold tokV
  go_wp2
  go_ret
  exact ⟨ret_bool HE.out.symm, b1⟩

def valB (k a : Int) : Bool :=
  if k = 1 then ctlB a else if k = 3 then inB a 33 126 else if k = 4 then inB a 32 127 else if k = 5 then inB a 0 3 else if k = 6 then decide (a = 2 ∨ a = 3)
  else if k = 2 ∨ k = 8 ∨ k = 9 then decide (a = 0) else false

set_option maxHeartbeats 2000000 in
theorem impl_tokenValueOK (k a : Int) (w : World) : Calls Tryd.prog 137 #[.int .i64 k, .int .i64 a] w fun e w' => e = .returned (.bool (valB k a)) ∧ Below w.heap.size w w' := by
  by_cases k1 : k = 1
  · subst k1
    go_enter Tryd.func137, Tryd.ntmps137
    go_wp2_with fail
    refine (impl_isControl a w).mono ?_
    rintro e w1 ⟨rfl, b1⟩
    go_wp2
    go_ret
    exact ⟨rfl, b1⟩
  by_cases k3 : k = 3
  · subst k3
    clear k1
    go_enter Tryd.func137, Tryd.ntmps137
    go_wp2_with fail
    refine (impl_isCode94 a w).mono ?_
    rintro e w1 ⟨rfl, rfl⟩
    go_wp2
    go_ret
    exact ⟨rfl, Below.refl _ _⟩
  by_cases k4 : k = 4
  · subst k4
    clear k1 k3
    have HE : Hid (valB 4 a = (decide (32 ≤ a) && decide (a ≤ 127))) := Lib.hid rfl
    rw [HE.out]
    by_cases h1 : 32 ≤ a
    · by_cases h2 : a ≤ 127
      all_goals
        go_enter Tryd.func137, Tryd.ntmps137
        go_wp2
        go_ret
        exact ⟨ret_bool (by simp [h1, h2]), Below.refl _ _⟩
    · have HF := Lib.hid (show decide (32 ≤ a) = false by simpa using h1)
      go_enter Tryd.func137, Tryd.ntmps137
      go_wp2
      go_ret
      exact ⟨ret_bool (by rw [HF.out]; rfl), Below.refl _ _⟩
  by_cases k5 : k = 5
  · subst k5
    clear k1 k3 k4
    have HE : Hid (valB 5 a = (decide (0 ≤ a) && decide (a ≤ 3))) := Lib.hid rfl
    rw [HE.out]
    by_cases h1 : 0 ≤ a
    · by_cases h2 : a ≤ 3
      all_goals
        go_enter Tryd.func137, Tryd.ntmps137
        go_wp2
        go_ret
        exact ⟨ret_bool (by simp [h1, h2]), Below.refl _ _⟩
    · have HF := Lib.hid (show decide (0 ≤ a) = false by simpa using h1)
      go_enter Tryd.func137, Tryd.ntmps137
      go_wp2
      go_ret
      exact ⟨ret_bool (by rw [HF.out]; rfl), Below.refl _ _⟩
  by_cases k6 : k = 6
  · subst k6
    clear k1 k3 k4 k5
    have HE : Hid (valB 6 a = decide (a = 2 ∨ a = 3)) := Lib.hid rfl
    rw [HE.out]
    by_cases h1 : a = 2
    · subst h1
      go_enter Tryd.func137, Tryd.ntmps137
      go_wp2
      go_ret
      exact ⟨ret_bool (by decide), Below.refl _ _⟩
    · have e1 : (a == 2) = false := by simpa using h1
      have HX : Hid ((a == 3) = decide (a = 2 ∨ a = 3)) := Lib.hid (by simp [h1]; rfl)
      clear h1
      go_enter Tryd.func137, Tryd.ntmps137
      go_wp2
      go_ret
      exact ⟨ret_bool HX.out, Below.refl _ _⟩
  by_cases k2 : k = 2 ∨ k = 8 ∨ k = 9
  · have HE : Hid ((a == 0) = valB k a) := Lib.hid (by
      rw [valB, if_neg k1, if_neg k3, if_neg k4, if_neg k5, if_neg k6, if_pos k2]
      rfl)
    clear k1 k3 k4 k5 k6
    rcases k2 with rfl | rfl | rfl
    all_goals
      go_enter Tryd.func137, Tryd.ntmps137
      go_wp2
      go_ret
      exact ⟨ret_bool HE.out, Below.refl _ _⟩
  · have HE : Hid (false = valB k a) := Lib.hid (by rw [valB, if_neg k1, if_neg k3, if_neg k4, if_neg k5, if_neg k6, if_neg k2])
    have e1 : (k == 1) = false := by rw [beq_eq_false_iff_ne]; exact k1
    have e3 : (k == 3) = false := by rw [beq_eq_false_iff_ne]; exact k3
    have e4 : (k == 4) = false := by rw [beq_eq_false_iff_ne]; exact k4
    have e5 : (k == 5) = false := by rw [beq_eq_false_iff_ne]; exact k5
    have e6 : (k == 6) = false := by rw [beq_eq_false_iff_ne]; exact k6
    have e2 : (k == 2) = false := by rw [beq_eq_false_iff_ne]; omega
    have e8 : (k == 8) = false := by rw [beq_eq_false_iff_ne]; omega
    have e9 : (k == 9) = false := by rw [beq_eq_false_iff_ne]; omega
    clear k1 k2 k3 k4 k5 k6
    go_enter Tryd.func137, Tryd.ntmps137
    go_wp2
    go_ret
    exact ⟨ret_bool HE.out, Below.refl _ _⟩

def fldB (x : Tok) : Bool := if x.k = 7 then inB x.b 1 3 && (regB x.b x.a && (decide (64 ≤ x.c) && decide (x.c ≤ 126))) else valB x.k x.a && (decide (x.b = 0) && decide (x.c = 0))

set_option maxHeartbeats 2000000 in
set_option maxRecDepth 100000 in
theorem impl_tokenFieldsOK (x : Tok) (w : World) : Calls Tryd.prog 110 #[tokV x] w fun e w' => e = .returned (.bool (fldB x)) ∧ Below w.heap.size w w' := by
  obtain ⟨k, a, b, c, p, n⟩ := x
  have b0 := below_one w (.cells #[.int .i64 k, .int .i64 a, .int .i64 b, .int .i64 c, .int .i64 p, .int .i64 n] 38)
  have hX := TokAt.new w ⟨k, a, b, c, p, n⟩
  unfold tokV
  by_cases k7 : k = 7
  · have HE : Hid (fldB ⟨k, a, b, c, p, n⟩ = (inB b 1 3 && (regB b a && (decide (64 ≤ c) && decide (c ≤ 126))))) := Lib.hid (by rw [fldB, if_pos k7])
    rw [HE.out]
    subst k7
    clear hX HE
    have HK := Lib.hid (impl_isKind b)
    have HR := Lib.hid (impl_isRegisterFor b a)
    generalize inB b 1 3 = kb at *
    generalize regB b a = rb at *
    cases kb
    · go_enter Tryd.func110, Tryd.ntmps110
      go_wp2_with fail
      refine (HK.out _).mono ?_
      rintro e w1 ⟨rfl, rfl⟩
      go_wp2
      go_ret
      exact ⟨rfl, b0⟩
    cases rb
    · go_enter Tryd.func110, Tryd.ntmps110
      go_wp2_with fail
      refine (HK.out _).mono ?_
      rintro e w1 ⟨rfl, rfl⟩
      go_wp2_with fail
      refine (HR.out _).mono ?_
      rintro e w1 ⟨rfl, rfl⟩
      go_wp2
      go_ret
      exact ⟨rfl, b0⟩
    by_cases c1 : 64 ≤ c
    · have HD : Hid (decide (c ≤ 126) = (true && (true && (decide (64 ≤ c) && decide (c ≤ 126))))) := Lib.hid (by simp [c1])
      rw [← HD.out]
      go_enter Tryd.func110, Tryd.ntmps110
      go_wp2_with fail
      refine (HK.out _).mono ?_
      rintro e w1 ⟨rfl, rfl⟩
      go_wp2_with fail
      refine (HR.out _).mono ?_
      rintro e w1 ⟨rfl, rfl⟩
      go_wp2
      go_ret
      exact ⟨rfl, b0⟩
    · have HD : Hid (false = (true && (true && (decide (64 ≤ c) && decide (c ≤ 126))))) := Lib.hid (by simp [c1])
      rw [← HD.out]
      go_enter Tryd.func110, Tryd.ntmps110
      go_wp2_with fail
      refine (HK.out _).mono ?_
      rintro e w1 ⟨rfl, rfl⟩
      go_wp2_with fail
      refine (HR.out _).mono ?_
      rintro e w1 ⟨rfl, rfl⟩
      go_wp2
      go_ret
      exact ⟨rfl, b0⟩
  · have HE : Hid (fldB ⟨k, a, b, c, p, n⟩ = (valB k a && (decide (b = 0) && decide (c = 0)))) := Lib.hid (by rw [fldB, if_neg k7])
    have e7 : (k == 7) = false := by rw [beq_eq_false_iff_ne]; exact k7
    rw [HE.out]
    clear k7
    go_enter Tryd.func110, Tryd.ntmps110
    go_wp2_with fail
    refine (impl_tokenValueOK k a _).mono ?_
    rintro e w1 ⟨rfl, b1⟩
    have B1 : Below w.heap.size w w1 := b0.trans (b1.mono b0.size)
    have ⟨y0, y1, y2, y3, y4, y5⟩ := (hX.keep b1).cells
    clear hX b0 b1
    cases hv : valB k a
    · have HV := Lib.hid hv
      go_wp2
      go_ret
      exact ⟨ret_bool (by rw [HV.out]; rfl), B1⟩
    · by_cases hb : b = 0
      · subst hb
        go_wp2
        go_ret
        exact ⟨ret_bool rfl, B1⟩
      · have eb : (b == 0) = false := by rw [beq_eq_false_iff_ne]; exact hb
        go_wp2
        go_ret
        exact ⟨ret_bool (by simp [hb]), B1⟩

def lenB (x : Tok) : Bool :=
  if x.k = 5 ∧ 2 ≤ x.a then decide (x.n = 2) else if x.k = 6 then decide (x.n = 1 ∨ x.n = 2) else if x.k = 7 then decide (x.n = 3 ∨ x.n = 4) else if x.k = 8 ∨ x.k = 9 then decide (1 ≤ x.n) && decide (x.n ≤ 65536) else decide (x.n = 1)

set_option maxHeartbeats 2000000 in
set_option maxRecDepth 100000 in
theorem impl_tokenLengthOK (x : Tok) (w : World) : Calls Tryd.prog 111 #[tokV x] w fun e w' => e = .returned (.bool (lenB x)) ∧ Below w.heap.size w w' := by
  obtain ⟨k, a, b, c, p, n⟩ := x
  have b0 := Lib.hid (below_one w (.cells #[.int .i64 k, .int .i64 a, .int .i64 b, .int .i64 c, .int .i64 p, .int .i64 n] 38))
  unfold tokV
  by_cases k5 : k = 5
  · by_cases a2 : 2 ≤ a
    · have HE : Hid ((n == 2) = lenB ⟨k, a, b, c, p, n⟩) := Lib.hid (by rw [lenB, if_pos ⟨k5, a2⟩]; rfl)
      subst k5
      go_enter Tryd.func111, Tryd.ntmps111
      go_wp2
      go_ret
      exact ⟨ret_bool HE.out, b0.out⟩
    · have HE : Hid ((n == 1) = lenB ⟨k, a, b, c, p, n⟩) := Lib.hid (by rw [lenB, if_neg (fun h => a2 h.2), if_neg (by dsimp only; omega), if_neg (by dsimp only; omega), if_neg (by dsimp only; omega)]; rfl)
      subst k5
      go_enter Tryd.func111, Tryd.ntmps111
      go_wp2
      go_ret
      exact ⟨ret_bool HE.out, b0.out⟩
  have e5 : (k == 5) = false := by rw [beq_eq_false_iff_ne]; exact k5
  by_cases k6 : k = 6
  · have HE : Hid (lenB ⟨k, a, b, c, p, n⟩ = decide (n = 1 ∨ n = 2)) := Lib.hid (by rw [lenB, if_neg (fun h => k5 h.1), if_pos k6])
    rw [HE.out]
    subst k6
    clear k5 e5
    by_cases n1 : n = 1
    · subst n1
      go_enter Tryd.func111, Tryd.ntmps111
      go_wp2
      go_ret
      exact ⟨ret_bool (by decide), b0.out⟩
    · have e1 : (n == 1) = false := by rw [beq_eq_false_iff_ne]; exact n1
      go_enter Tryd.func111, Tryd.ntmps111
      go_wp2
      go_ret
      exact ⟨ret_bool (by simp [n1]; rfl), b0.out⟩
  have e6 : (k == 6) = false := by rw [beq_eq_false_iff_ne]; exact k6
  by_cases k7 : k = 7
  · have HE : Hid (lenB ⟨k, a, b, c, p, n⟩ = decide (n = 3 ∨ n = 4)) := Lib.hid (by rw [lenB, if_neg (fun h => k5 h.1), if_neg k6, if_pos k7])
    rw [HE.out]
    subst k7
    clear k5 e5 k6 e6
    by_cases n1 : n = 3
    · subst n1
      go_enter Tryd.func111, Tryd.ntmps111
      go_wp2
      go_ret
      exact ⟨ret_bool (by decide), b0.out⟩
    · have e1 : (n == 3) = false := by rw [beq_eq_false_iff_ne]; exact n1
      go_enter Tryd.func111, Tryd.ntmps111
      go_wp2
      go_ret
      exact ⟨ret_bool (by simp [n1]; rfl), b0.out⟩
  have e7 : (k == 7) = false := by rw [beq_eq_false_iff_ne]; exact k7
  by_cases k8 : k = 8 ∨ k = 9
  · have HE : Hid (lenB ⟨k, a, b, c, p, n⟩ = (decide (1 ≤ n) && decide (n ≤ 65536))) := Lib.hid (by rw [lenB, if_neg (fun h => k5 h.1), if_neg k6, if_neg k7, if_pos k8])
    rw [HE.out]
    clear k5 e5 k6 e6 k7 e7 HE
    by_cases n1 : 1 ≤ n
    · by_cases n2 : n ≤ 65536
      all_goals
        rcases k8 with rfl | rfl
        all_goals
          go_enter Tryd.func111, Tryd.ntmps111
          go_wp2
          go_ret
          exact ⟨ret_bool (by simp [n1, n2]), b0.out⟩
    · have HF := Lib.hid (show decide (1 ≤ n) = false by simpa using n1)
      rcases k8 with rfl | rfl
      all_goals
        go_enter Tryd.func111, Tryd.ntmps111
        go_wp2
        go_ret
        exact ⟨ret_bool (by rw [HF.out]; rfl), b0.out⟩
  · have e8 : (k == 8) = false := by rw [beq_eq_false_iff_ne]; omega
    have e9 : (k == 9) = false := by rw [beq_eq_false_iff_ne]; omega
    have HE : Hid ((n == 1) = lenB ⟨k, a, b, c, p, n⟩) := Lib.hid (by rw [lenB, if_neg (fun h => k5 h.1), if_neg k6, if_neg k7, if_neg k8]; rfl)
    clear k5 k6 k7 k8
    go_enter Tryd.func111, Tryd.ntmps111
    go_wp2
    go_ret
    exact ⟨ret_bool HE.out, b0.out⟩

def tokOKI (x : Tok) : Bool := decide (0 ≤ x.p) && (decide (x.p ≤ 65536) && (fldB x && lenB x))
theorem regB_iff (kd g : Int) : regB kd g = true ↔ (0 ≤ g ∧ g ≤ 3) ∧ ¬ (kd = 2 ∧ g = 0) := by
  unfold regB inB
  rw [Bool.and_eq_true, Bool.and_eq_true, decide_eq_true_eq, decide_eq_true_eq, Bool.not_eq_true', Bool.and_eq_false_iff, decide_eq_false_iff_not, decide_eq_false_iff_not]
  omega
theorem okI1 (a b c p n : Int) : tokOKI ⟨1, a, b, c, p, n⟩ = true ↔ tokOKP ⟨1, a, b, c, p, n⟩ := by
  show (decide (0 ≤ p) && (decide (p ≤ 65536) && ((ctlB a && (decide (b = 0) && decide (c = 0))) && decide (n = 1)))) = true ↔ _
  unfold tokOKP
  simp only [Bool.and_eq_true, decide_eq_true_eq, ctlB_iff, Int.reduceEq, false_and, true_and, or_false]
  omega
theorem okI2 (a b c p n : Int) : tokOKI ⟨2, a, b, c, p, n⟩ = true ↔ tokOKP ⟨2, a, b, c, p, n⟩ := by
  show (decide (0 ≤ p) && (decide (p ≤ 65536) && ((decide (a = 0) && (decide (b = 0) && decide (c = 0))) && decide (n = 1)))) = true ↔ _
  unfold tokOKP
  simp only [Bool.and_eq_true, decide_eq_true_eq, Int.reduceEq, false_and, true_and, false_or, or_false]
  omega
theorem okI3 (a b c p n : Int) : tokOKI ⟨3, a, b, c, p, n⟩ = true ↔ tokOKP ⟨3, a, b, c, p, n⟩ := by
  show (decide (0 ≤ p) && (decide (p ≤ 65536) && ((inB a 33 126 && (decide (b = 0) && decide (c = 0))) && decide (n = 1)))) = true ↔ _
  unfold tokOKP
  simp only [Bool.and_eq_true, decide_eq_true_eq, inB, Int.reduceEq, false_and, true_and, false_or, or_false]
  omega
theorem okI4 (a b c p n : Int) : tokOKI ⟨4, a, b, c, p, n⟩ = true ↔ tokOKP ⟨4, a, b, c, p, n⟩ := by
  show (decide (0 ≤ p) && (decide (p ≤ 65536) && ((inB a 32 127 && (decide (b = 0) && decide (c = 0))) && decide (n = 1)))) = true ↔ _
  unfold tokOKP
  simp only [Bool.and_eq_true, decide_eq_true_eq, inB, Int.reduceEq, false_and, true_and, false_or, or_false]
  omega
theorem okI6 (a b c p n : Int) : tokOKI ⟨6, a, b, c, p, n⟩ = true ↔ tokOKP ⟨6, a, b, c, p, n⟩ := by
  show (decide (0 ≤ p) && (decide (p ≤ 65536) && ((decide (a = 2 ∨ a = 3) && (decide (b = 0) && decide (c = 0))) && decide (n = 1 ∨ n = 2)))) = true ↔ _
  unfold tokOKP
  simp only [Bool.and_eq_true, decide_eq_true_eq, Int.reduceEq, false_and, true_and, false_or, or_false]
  omega
theorem okI7 (a b c p n : Int) : tokOKI ⟨7, a, b, c, p, n⟩ = true ↔ tokOKP ⟨7, a, b, c, p, n⟩ := by
  show (decide (0 ≤ p) && (decide (p ≤ 65536) && ((inB b 1 3 && (regB b a && (decide (64 ≤ c) && decide (c ≤ 126)))) && decide (n = 3 ∨ n = 4)))) = true ↔ _
  unfold tokOKP
  simp only [Bool.and_eq_true, decide_eq_true_eq, inB, regB_iff, Int.reduceEq, false_and, true_and, false_or, or_false]
  omega
theorem okI8 (a b c p n : Int) : tokOKI ⟨8, a, b, c, p, n⟩ = true ↔ tokOKP ⟨8, a, b, c, p, n⟩ := by
  show (decide (0 ≤ p) && (decide (p ≤ 65536) && ((decide (a = 0) && (decide (b = 0) && decide (c = 0))) && (decide (1 ≤ n) && decide (n ≤ 65536))))) = true ↔ _
  unfold tokOKP
  simp only [Bool.and_eq_true, decide_eq_true_eq, Int.reduceEq, false_and, true_and, false_or, or_false]
  omega
theorem okI9 (a b c p n : Int) : tokOKI ⟨9, a, b, c, p, n⟩ = true ↔ tokOKP ⟨9, a, b, c, p, n⟩ := by
  show (decide (0 ≤ p) && (decide (p ≤ 65536) && ((decide (a = 0) && (decide (b = 0) && decide (c = 0))) && (decide (1 ≤ n) && decide (n ≤ 65536))))) = true ↔ _
  unfold tokOKP
  simp only [Bool.and_eq_true, decide_eq_true_eq, Int.reduceEq, false_and, true_and, false_or]
  omega
theorem okI5 (a b c p n : Int) : tokOKI ⟨5, a, b, c, p, n⟩ = true ↔ tokOKP ⟨5, a, b, c, p, n⟩ := by
  by_cases a2 : 2 ≤ a
  · have hl : lenB ⟨5, a, b, c, p, n⟩ = decide (n = 2) := by rw [lenB, if_pos ⟨rfl, a2⟩]
    show (decide (0 ≤ p) && (decide (p ≤ 65536) && ((inB a 0 3 && (decide (b = 0) && decide (c = 0))) && lenB ⟨5, a, b, c, p, n⟩))) = true ↔ _
    rw [hl]
    unfold tokOKP
    simp only [Bool.and_eq_true, decide_eq_true_eq, inB, Int.reduceEq, false_and, true_and, false_or, or_false]
    omega
  · have hl : lenB ⟨5, a, b, c, p, n⟩ = decide (n = 1) := by rw [lenB, if_neg (fun h => a2 h.2)]; rfl
    show (decide (0 ≤ p) && (decide (p ≤ 65536) && ((inB a 0 3 && (decide (b = 0) && decide (c = 0))) && lenB ⟨5, a, b, c, p, n⟩))) = true ↔ _
    rw [hl]
    unfold tokOKP
    simp only [Bool.and_eq_true, decide_eq_true_eq, inB, Int.reduceEq, false_and, true_and, false_or, or_false]
    omega
theorem tokOKI_eq (x : Tok) : tokOKI x = tokOKB x := by
  refine tokOKB_of ?_
  obtain ⟨k, a, b, c, p, n⟩ := x
  by_cases hk : k < 1 ∨ 9 < k
  · have h1 : valB k a = false := by
      rw [valB, if_neg (by omega), if_neg (by omega), if_neg (by omega), if_neg (by omega), if_neg (by omega), if_neg (by omega)]
    have h2 : fldB ⟨k, a, b, c, p, n⟩ = false := by
      rw [fldB, if_neg (by dsimp only; omega)]
      dsimp only
      rw [h1]
      rfl
    unfold tokOKI
    rw [h2]
    unfold tokOKP
    constructor
    · intro h; simp at h
    · intro h; exfalso; dsimp only at h; omega
  · have : k = 1 ∨ k = 2 ∨ k = 3 ∨ k = 4 ∨ k = 5 ∨ k = 6 ∨ k = 7 ∨ k = 8 ∨ k = 9 := by omega
    rcases this with rfl | rfl | rfl | rfl | rfl | rfl | rfl | rfl | rfl
    · exact okI1 a b c p n
    · exact okI2 a b c p n
    · exact okI3 a b c p n
    · exact okI4 a b c p n
    · exact okI5 a b c p n
    · exact okI6 a b c p n
    · exact okI7 a b c p n
    · exact okI8 a b c p n
    · exact okI9 a b c p n

set_option maxHeartbeats 2000000 in
set_option maxRecDepth 100000 in
theorem impl_tokenOK (x : Tok) (w : World) : Calls Tryd.prog 62 #[tokV x] w fun e w' => e = .returned (.bool (tokOKB x)) ∧ Below w.heap.size w w' := by
  have HO := Lib.hid (tokOKI_eq x)
  rw [← HO.out]
  have HF := Lib.hid (impl_tokenFieldsOK x)
  have HL := Lib.hid (impl_tokenLengthOK x)
  have HX := Lib.hid (show tokOKI x = (decide (0 ≤ x.p) && (decide (x.p ≤ 65536) && (fldB x && lenB x))) from rfl)
  rw [HX.out]
  generalize fldB x = fb at *
  generalize lenB x = lb at *
  clear HO HX
  obtain ⟨k, a, b, c, p, n⟩ := x
  have b0 := below_one w (.cells #[.int .i64 k, .int .i64 a, .int .i64 b, .int .i64 c, .int .i64 p, .int .i64 n] 38)
  have hX := TokAt.new w ⟨k, a, b, c, p, n⟩
  unfold tokV at HF HL ⊢
  dsimp only at *
  by_cases p0 : 0 ≤ p
  · by_cases p1 : p ≤ 65536
    · have HD : Hid ((decide (0 ≤ p) && (decide (p ≤ 65536) && (fb && lb))) = (fb && lb)) := Lib.hid (by simp [p0, p1])
      rw [HD.out]
      go_enter Tryd.func62, Tryd.ntmps62
      go_wp2_with fail
      refine (HF.out _).mono ?_
      rintro e w1 ⟨rfl, b1⟩
      have B1 : Below w.heap.size w w1 := b0.trans (b1.mono b0.size)
      have ⟨y0, y1, y2, y3, y4, y5⟩ := (hX.keep b1).cells
      dsimp only at y0 y1 y2 y3 y4 y5
      clear hX b0 b1
      cases fb
      · go_wp2
        go_ret
        exact ⟨rfl, B1⟩
      · go_wp2_with fail
        refine (HL.out _).mono ?_
        rintro e w2 ⟨rfl, b2⟩
        have B2 : Below w.heap.size w w2 := B1.trans (b2.mono B1.size)
        go_wp2
        go_ret
        exact ⟨ret_bool (by simp), B2⟩
    · have HD : Hid ((decide (0 ≤ p) && (decide (p ≤ 65536) && (fb && lb))) = false) := Lib.hid (by simp [p1])
      rw [HD.out]
      clear hX
      go_enter Tryd.func62, Tryd.ntmps62
      go_wp2
      go_ret
      exact ⟨rfl, b0⟩
  · have HD : Hid ((decide (0 ≤ p) && (decide (p ≤ 65536) && (fb && lb))) = false) := Lib.hid (by simp [p0])
    rw [HD.out]
    clear hX
    go_enter Tryd.func62, Tryd.ntmps62
    go_wp2
    go_ret
    exact ⟨rfl, b0⟩

end Go.Proofs.YtjbikenhdgbacaaDoor

namespace Go.Proofs.YtjbikenhdgbacaaDoor
open Go.RowKit

set_option maxHeartbeats 1000000 in
theorem impl_rules (w : World) : Calls Tryd.prog 122 #[] w fun e w' => e = .returned (.agg #[.func (.func 142) #[] #[], .func (.func 143) #[] #[], .func (.func 141) #[] #[], .func (.func 141) #[] #[], .func (.func 144) #[] #[], .func (.func 145) #[] #[], .func (.func 146) #[] #[], .func (.func 147) #[] #[], .func (.func 142) #[] #[], .func (.func 142) #[] #[]]) ∧ Below w.heap.size w w' := by
  go_enter Tryd.func122, Tryd.ntmps122
  go_wp2
  exact bodyPost_ret (results_cell_row rfl _ _ w.heap.size _ _ _ _ rfl (heap_alloc_new _ _) Tryd.underlying140 rfl (by kernel_rfl)) rfl ⟨rfl, below_one _ _⟩

set_option maxHeartbeats 1000000 in
theorem rule1 (n : Int) (g : Nat) (m : Value) (t : Tok) (w : World) (_hg : GuAt w g n m) : Calls Tryd.prog 141 #[.pointer (some ⟨g, 0, none⟩), tokV t] w fun e w' => e = .returned (.bool (true)) ∧ Below w.heap.size w w' := by
  have B0 := Lib.hid (below_one w (.cells #[.int .i64 t.k, .int .i64 t.a, .int .i64 t.b, .int .i64 t.c, .int .i64 t.p, .int .i64 t.n] 38))
  unfold tokV
  go_enter Tryd.func141, Tryd.ntmps141
  go_wp2
  go_ret
  exact ⟨rfl, B0.out⟩

set_option maxHeartbeats 1000000 in
theorem rule2 (n : Int) (g : Nat) (m : Value) (t : Tok) (w : World) (_hg : GuAt w g n m) : Calls Tryd.prog 142 #[.pointer (some ⟨g, 0, none⟩), tokV t] w fun e w' => e = .returned (.bool (false)) ∧ Below w.heap.size w w' := by
  have B0 := Lib.hid (below_one w (.cells #[.int .i64 t.k, .int .i64 t.a, .int .i64 t.b, .int .i64 t.c, .int .i64 t.p, .int .i64 t.n] 38))
  unfold tokV
  go_enter Tryd.func142, Tryd.ntmps142
  go_wp2
  go_ret
  exact ⟨rfl, B0.out⟩

set_option maxHeartbeats 1000000 in
theorem rule3 (n : Int) (g : Nat) (m : Value) (t : Tok) (w : World) (_hg : GuAt w g n m) : Calls Tryd.prog 143 #[.pointer (some ⟨g, 0, none⟩), tokV t] w fun e w' => e = .returned (.bool (decide (t.a < 128))) ∧ Below w.heap.size w w' := by
  have B0 := Lib.hid (below_one w (.cells #[.int .i64 t.k, .int .i64 t.a, .int .i64 t.b, .int .i64 t.c, .int .i64 t.p, .int .i64 t.n] 38))
  unfold tokV
  go_enter Tryd.func143, Tryd.ntmps143
  go_wp2
  go_ret
  exact ⟨rfl, B0.out⟩

set_option maxHeartbeats 1000000 in
theorem rule4 (n : Int) (g : Nat) (m : Value) (t : Tok) (w : World) (hg : GuAt w g n m) : Calls Tryd.prog 144 #[.pointer (some ⟨g, 0, none⟩), tokV t] w fun e w' => e = .returned (.bool (prRight n)) ∧ Below w.heap.size w w' := by
  have B0 := Lib.hid (below_one w (.cells #[.int .i64 t.k, .int .i64 t.a, .int .i64 t.b, .int .i64 t.c, .int .i64 t.p, .int .i64 t.n] 38))
  have ⟨c0, c1, c2, c3, c4, c5, c6, c7, c8, c9⟩ := row10_cells (hg.keep (below_one w (.cells #[.int .i64 t.k, .int .i64 t.a, .int .i64 t.b, .int .i64 t.c, .int .i64 t.p, .int .i64 t.n] 38)))
  clear c0 c1 c2 c3 c5 c6 c7 c8 c9 hg
  unfold tokV
  go_enter Tryd.func144, Tryd.ntmps144
  go_wp2
  go_ret
  exact ⟨rfl, B0.out⟩

set_option maxHeartbeats 1000000 in
theorem rule5 (n : Int) (g : Nat) (m : Value) (t : Tok) (w : World) (hg : GuAt w g n m) : Calls Tryd.prog 145 #[.pointer (some ⟨g, 0, none⟩), tokV t] w fun e w' => e = .returned (.bool (prShifts n && decide (t.a < 2))) ∧ Below w.heap.size w w' := by
  have B0 := Lib.hid (below_one w (.cells #[.int .i64 t.k, .int .i64 t.a, .int .i64 t.b, .int .i64 t.c, .int .i64 t.p, .int .i64 t.n] 38))
  have ⟨c0, c1, c2, c3, c4, c5, c6, c7, c8, c9⟩ := row10_cells (hg.keep (below_one w (.cells #[.int .i64 t.k, .int .i64 t.a, .int .i64 t.b, .int .i64 t.c, .int .i64 t.p, .int .i64 t.n] 38)))
  clear c0 c1 c2 c3 c4 c6 c7 c8 c9 hg
  unfold tokV
  cases h : prShifts n
  · rw [h] at c5
    go_enter Tryd.func145, Tryd.ntmps145
    go_wp2
    go_ret
    exact ⟨rfl, B0.out⟩
  · rw [h] at c5
    have HE : Hid (decide (t.a ≤ 1) = (true && decide (t.a < 2))) := Lib.hid (by rw [Bool.true_and]; exact decide_eq_decide.2 (by omega))
    go_enter Tryd.func145, Tryd.ntmps145
    go_wp2
    go_ret
    exact ⟨ret_bool HE.out, B0.out⟩

set_option maxHeartbeats 1000000 in
theorem rule6 (n : Int) (g : Nat) (m : Value) (t : Tok) (w : World) (hg : GuAt w g n m) : Calls Tryd.prog 146 #[.pointer (some ⟨g, 0, none⟩), tokV t] w fun e w' => e = .returned (.bool (prSingle n && (decide (t.a = 2) && decide (t.n = 2)))) ∧ Below w.heap.size w w' := by
  have B0 := Lib.hid (below_one w (.cells #[.int .i64 t.k, .int .i64 t.a, .int .i64 t.b, .int .i64 t.c, .int .i64 t.p, .int .i64 t.n] 38))
  have ⟨c0, c1, c2, c3, c4, c5, c6, c7, c8, c9⟩ := row10_cells (hg.keep (below_one w (.cells #[.int .i64 t.k, .int .i64 t.a, .int .i64 t.b, .int .i64 t.c, .int .i64 t.p, .int .i64 t.n] 38)))
  clear c0 c1 c2 c3 c4 c5 c7 c8 c9 hg
  unfold tokV
  cases h : prSingle n
  · rw [h] at c6
    go_enter Tryd.func146, Tryd.ntmps146
    go_wp2
    go_ret
    exact ⟨rfl, B0.out⟩
  · rw [h] at c6
    by_cases h2 : t.a = 2
    · have e2 : (t.a == 2) = true := by simp [h2]
      have HE : Hid ((t.n == 2) = (true && (decide (t.a = 2) && decide (t.n = 2)))) := Lib.hid (by rw [decide_eq_true h2]; rfl)
      clear h2
      go_enter Tryd.func146, Tryd.ntmps146
      go_wp2
      go_ret
      exact ⟨ret_bool HE.out, B0.out⟩
    · have e2 : (t.a == 2) = false := by simp [h2]
      have HE : Hid (false = (true && (decide (t.a = 2) && decide (t.n = 2)))) := Lib.hid (by rw [decide_eq_false h2]; rfl)
      go_enter Tryd.func146, Tryd.ntmps146
      go_wp2
      go_ret
      exact ⟨ret_bool HE.out, B0.out⟩


/-- The worlds on the way through 'allows': the guide's map may have been made. -/
def AlW (W0 : World) (g : Nat) (n : Int) (C : Nat) : Type := { w' : World // GuOK w' g n C ∧ Only g W0 w' }
theorem alw_cell {W0 : World} {g tb i : Nat} {n : Int} {C : Nat} {v : Value} (h : W0.cell? ⟨tb, i, none⟩ = some v) (hne : tb ≠ g) (p : AlW W0 g n C) : p.1.cell? ⟨tb, i, none⟩ = some v := by
  have hl := World.block_lt_of_cell? W0 _ h
  have hb := p.2.2.2 tb hne hl
  rw [← h]
  unfold World.cell?
  rw [hb]
theorem alw_below {W0 : World} {g : Nat} {n : Int} {C : Nat} {f : FuncId} {args : Array Value} {v : Value} (hgW : g < W0.heap.size) (p : AlW W0 g n C) (h : Calls Tryd.prog f args p.1 fun e w' => e = .returned v ∧ Below p.1.heap.size p.1 w') : Calls Tryd.prog f args p.1 fun e w'' => e = .returned v ∧ ∃ q : AlW W0 g n C, w'' = q.1 :=
  h.mono fun _ w' ⟨he, hb⟩ => ⟨he, ⟨w', p.2.1.keep hb, p.2.2.trans (only_below (Nat.lt_of_lt_of_le hgW p.2.2.1.size) hb)⟩, rfl⟩
theorem alw_done {W0 : World} {g : Nat} {n : Int} {C : Nat} {f : FuncId} {args : Array Value} {q : Bool} (p : AlW W0 g n C) (h : Calls Tryd.prog f args p.1 (GaDone q g n C p.1)) : Calls Tryd.prog f args p.1 fun e w'' => e = .returned (.bool q) ∧ ∃ q : AlW W0 g n C, w'' = q.1 :=
  h.mono fun _ w' ⟨he, hG, ho⟩ => ⟨he, ⟨w', hG, p.2.2.trans ho⟩, rfl⟩

set_option maxHeartbeats 2000000 in
set_option maxRecDepth 100000 in
/-- The method at a kind whose predicate answers q. -/
theorem impl_allows_1 (k : Int) (hk : ∀ w : World, (Instr.index 140 (.agg #[.func (.func 142) #[] #[], .func (.func 143) #[] #[], .func (.func 141) #[] #[], .func (.func 141) #[] #[], .func (.func 144) #[] #[], .func (.func 145) #[] #[], .func (.func 146) #[] #[], .func (.func 147) #[] #[], .func (.func 142) #[] #[], .func (.func 142) #[] #[]]) (.int .i64 k)).run Tryd.prog w = .ok (.func (.func 141) #[] #[]) w)
    (n : Int) (g C : Nat) (a b c p m : Int) (q : Bool) (w : World) (h : GuOK w g n C) (hg : g < C) (hC : C ≤ w.heap.size)
    (hf : ∀ W, GuOK W g n C → Only g w W → C ≤ W.heap.size → Calls Tryd.prog 141 #[.pointer (some ⟨g, 0, none⟩), tokV ⟨k, a, b, c, p, m⟩] W (GaDone q g n C W)) :
    Calls Tryd.prog 87 #[.pointer (some ⟨g, 0, none⟩), tokV ⟨k, a, b, c, p, m⟩] w (GaDone q g n C w) := by
  have B0 := Lib.hid (below_one w (.cells #[.int .i64 k, .int .i64 a, .int .i64 b, .int .i64 c, .int .i64 p, .int .i64 m] 38))
  have hK : TokAt (w.alloc (.cells #[.int .i64 k, .int .i64 a, .int .i64 b, .int .i64 c, .int .i64 p, .int .i64 m] 38)) w.heap.size ⟨k, a, b, c, p, m⟩ := heap_alloc_new _ _
  have ⟨t0, t1, t2, t3, t4, t5⟩ := hK.cells
  dsimp only at t0 t1 t2 t3 t4 t5
  have HG0 := Lib.hid (h.keep B0.out)
  have hgl : g < w.heap.size := by omega
  have hne : w.heap.size ≠ g := by omega
  have hs0 : (w.alloc (.cells #[.int .i64 k, .int .i64 a, .int .i64 b, .int .i64 c, .int .i64 p, .int .i64 m] 38)).heap.size = w.heap.size + 1 := by simp
  unfold tokV at hf ⊢
  go_enter Tryd.func87, Tryd.ntmps87
  go_wp2_with fail
  generalize w.alloc (.cells #[.int .i64 k, .int .i64 a, .int .i64 b, .int .i64 c, .int .i64 p, .int .i64 m] 38) = W0 at *
  have hgW : g < W0.heap.size := by omega
  have m0 := fun p : AlW W0 g n C => alw_cell t0 hne p
  have m1 := fun p : AlW W0 g n C => alw_cell t1 hne p
  have m2 := fun p : AlW W0 g n C => alw_cell t2 hne p
  have m3 := fun p : AlW W0 g n C => alw_cell t3 hne p
  have m4 := fun p : AlW W0 g n C => alw_cell t4 hne p
  have m5 := fun p : AlW W0 g n C => alw_cell t5 hne p
  have cR := fun p : AlW W0 g n C => alw_below hgW p (impl_rules p.1)
  have cF := fun p : AlW W0 g n C => alw_done p (hf p.1 p.2.1 ((only_below hgl B0.out).trans p.2.2) (Nat.le_trans hC (Nat.le_trans B0.out.size p.2.2.1.size)))
  clear t0 t1 t2 t3 t4 t5 hf hK h
  haveI : Nonempty (AlW W0 g n C) := ⟨⟨W0, HG0.out, Only.refl g W0⟩⟩
  refine wp_region_quiet (C := fun w' => ∃ p : AlW W0 g n C, w' = p.1) (by kernel_rfl) (by kernel_rfl) ⟨⟨_, HG0.out.keep ((Below.refl W0.heap.size W0).drew), (Only.refl g W0).1.drew, (Only.refl g W0).2⟩, rfl⟩ ?_
  repeat (quiet_step (first | exact cR _ | exact cF _))
  refine wpQuiet_nil ?_
  intro w' hw'
  obtain ⟨⟨w9, hG9, hO9⟩, hw''⟩ := hw'
  have hw9 : w' = w9 := hw''
  subst hw9
  have HD : Hid (GuOK w' g n C ∧ Only g w w') := Lib.hid ⟨hG9, (only_below hgl B0.out).trans hO9⟩
  clear m0 m1 m2 m3 m4 m5 cR cF hw'' hG9 hO9
  go_wp2
  go_ret
  exact ⟨rfl, HD.out⟩

set_option maxHeartbeats 2000000 in
set_option maxRecDepth 100000 in
/-- The method at a kind whose predicate answers q. -/
theorem impl_allows_2 (k : Int) (hk : ∀ w : World, (Instr.index 140 (.agg #[.func (.func 142) #[] #[], .func (.func 143) #[] #[], .func (.func 141) #[] #[], .func (.func 141) #[] #[], .func (.func 144) #[] #[], .func (.func 145) #[] #[], .func (.func 146) #[] #[], .func (.func 147) #[] #[], .func (.func 142) #[] #[], .func (.func 142) #[] #[]]) (.int .i64 k)).run Tryd.prog w = .ok (.func (.func 142) #[] #[]) w)
    (n : Int) (g C : Nat) (a b c p m : Int) (q : Bool) (w : World) (h : GuOK w g n C) (hg : g < C) (hC : C ≤ w.heap.size)
    (hf : ∀ W, GuOK W g n C → Only g w W → C ≤ W.heap.size → Calls Tryd.prog 142 #[.pointer (some ⟨g, 0, none⟩), tokV ⟨k, a, b, c, p, m⟩] W (GaDone q g n C W)) :
    Calls Tryd.prog 87 #[.pointer (some ⟨g, 0, none⟩), tokV ⟨k, a, b, c, p, m⟩] w (GaDone q g n C w) := by
  have B0 := Lib.hid (below_one w (.cells #[.int .i64 k, .int .i64 a, .int .i64 b, .int .i64 c, .int .i64 p, .int .i64 m] 38))
  have hK : TokAt (w.alloc (.cells #[.int .i64 k, .int .i64 a, .int .i64 b, .int .i64 c, .int .i64 p, .int .i64 m] 38)) w.heap.size ⟨k, a, b, c, p, m⟩ := heap_alloc_new _ _
  have ⟨t0, t1, t2, t3, t4, t5⟩ := hK.cells
  dsimp only at t0 t1 t2 t3 t4 t5
  have HG0 := Lib.hid (h.keep B0.out)
  have hgl : g < w.heap.size := by omega
  have hne : w.heap.size ≠ g := by omega
  have hs0 : (w.alloc (.cells #[.int .i64 k, .int .i64 a, .int .i64 b, .int .i64 c, .int .i64 p, .int .i64 m] 38)).heap.size = w.heap.size + 1 := by simp
  unfold tokV at hf ⊢
  go_enter Tryd.func87, Tryd.ntmps87
  go_wp2_with fail
  generalize w.alloc (.cells #[.int .i64 k, .int .i64 a, .int .i64 b, .int .i64 c, .int .i64 p, .int .i64 m] 38) = W0 at *
  have hgW : g < W0.heap.size := by omega
  have m0 := fun p : AlW W0 g n C => alw_cell t0 hne p
  have m1 := fun p : AlW W0 g n C => alw_cell t1 hne p
  have m2 := fun p : AlW W0 g n C => alw_cell t2 hne p
  have m3 := fun p : AlW W0 g n C => alw_cell t3 hne p
  have m4 := fun p : AlW W0 g n C => alw_cell t4 hne p
  have m5 := fun p : AlW W0 g n C => alw_cell t5 hne p
  have cR := fun p : AlW W0 g n C => alw_below hgW p (impl_rules p.1)
  have cF := fun p : AlW W0 g n C => alw_done p (hf p.1 p.2.1 ((only_below hgl B0.out).trans p.2.2) (Nat.le_trans hC (Nat.le_trans B0.out.size p.2.2.1.size)))
  clear t0 t1 t2 t3 t4 t5 hf hK h
  haveI : Nonempty (AlW W0 g n C) := ⟨⟨W0, HG0.out, Only.refl g W0⟩⟩
  refine wp_region_quiet (C := fun w' => ∃ p : AlW W0 g n C, w' = p.1) (by kernel_rfl) (by kernel_rfl) ⟨⟨_, HG0.out.keep ((Below.refl W0.heap.size W0).drew), (Only.refl g W0).1.drew, (Only.refl g W0).2⟩, rfl⟩ ?_
  repeat (quiet_step (first | exact cR _ | exact cF _))
  refine wpQuiet_nil ?_
  intro w' hw'
  obtain ⟨⟨w9, hG9, hO9⟩, hw''⟩ := hw'
  have hw9 : w' = w9 := hw''
  subst hw9
  have HD : Hid (GuOK w' g n C ∧ Only g w w') := Lib.hid ⟨hG9, (only_below hgl B0.out).trans hO9⟩
  clear m0 m1 m2 m3 m4 m5 cR cF hw'' hG9 hO9
  go_wp2
  go_ret
  exact ⟨rfl, HD.out⟩

set_option maxHeartbeats 2000000 in
set_option maxRecDepth 100000 in
/-- The method at a kind whose predicate answers q. -/
theorem impl_allows_3 (k : Int) (hk : ∀ w : World, (Instr.index 140 (.agg #[.func (.func 142) #[] #[], .func (.func 143) #[] #[], .func (.func 141) #[] #[], .func (.func 141) #[] #[], .func (.func 144) #[] #[], .func (.func 145) #[] #[], .func (.func 146) #[] #[], .func (.func 147) #[] #[], .func (.func 142) #[] #[], .func (.func 142) #[] #[]]) (.int .i64 k)).run Tryd.prog w = .ok (.func (.func 143) #[] #[]) w)
    (n : Int) (g C : Nat) (a b c p m : Int) (q : Bool) (w : World) (h : GuOK w g n C) (hg : g < C) (hC : C ≤ w.heap.size)
    (hf : ∀ W, GuOK W g n C → Only g w W → C ≤ W.heap.size → Calls Tryd.prog 143 #[.pointer (some ⟨g, 0, none⟩), tokV ⟨k, a, b, c, p, m⟩] W (GaDone q g n C W)) :
    Calls Tryd.prog 87 #[.pointer (some ⟨g, 0, none⟩), tokV ⟨k, a, b, c, p, m⟩] w (GaDone q g n C w) := by
  have B0 := Lib.hid (below_one w (.cells #[.int .i64 k, .int .i64 a, .int .i64 b, .int .i64 c, .int .i64 p, .int .i64 m] 38))
  have hK : TokAt (w.alloc (.cells #[.int .i64 k, .int .i64 a, .int .i64 b, .int .i64 c, .int .i64 p, .int .i64 m] 38)) w.heap.size ⟨k, a, b, c, p, m⟩ := heap_alloc_new _ _
  have ⟨t0, t1, t2, t3, t4, t5⟩ := hK.cells
  dsimp only at t0 t1 t2 t3 t4 t5
  have HG0 := Lib.hid (h.keep B0.out)
  have hgl : g < w.heap.size := by omega
  have hne : w.heap.size ≠ g := by omega
  have hs0 : (w.alloc (.cells #[.int .i64 k, .int .i64 a, .int .i64 b, .int .i64 c, .int .i64 p, .int .i64 m] 38)).heap.size = w.heap.size + 1 := by simp
  unfold tokV at hf ⊢
  go_enter Tryd.func87, Tryd.ntmps87
  go_wp2_with fail
  generalize w.alloc (.cells #[.int .i64 k, .int .i64 a, .int .i64 b, .int .i64 c, .int .i64 p, .int .i64 m] 38) = W0 at *
  have hgW : g < W0.heap.size := by omega
  have m0 := fun p : AlW W0 g n C => alw_cell t0 hne p
  have m1 := fun p : AlW W0 g n C => alw_cell t1 hne p
  have m2 := fun p : AlW W0 g n C => alw_cell t2 hne p
  have m3 := fun p : AlW W0 g n C => alw_cell t3 hne p
  have m4 := fun p : AlW W0 g n C => alw_cell t4 hne p
  have m5 := fun p : AlW W0 g n C => alw_cell t5 hne p
  have cR := fun p : AlW W0 g n C => alw_below hgW p (impl_rules p.1)
  have cF := fun p : AlW W0 g n C => alw_done p (hf p.1 p.2.1 ((only_below hgl B0.out).trans p.2.2) (Nat.le_trans hC (Nat.le_trans B0.out.size p.2.2.1.size)))
  clear t0 t1 t2 t3 t4 t5 hf hK h
  haveI : Nonempty (AlW W0 g n C) := ⟨⟨W0, HG0.out, Only.refl g W0⟩⟩
  refine wp_region_quiet (C := fun w' => ∃ p : AlW W0 g n C, w' = p.1) (by kernel_rfl) (by kernel_rfl) ⟨⟨_, HG0.out.keep ((Below.refl W0.heap.size W0).drew), (Only.refl g W0).1.drew, (Only.refl g W0).2⟩, rfl⟩ ?_
  repeat (quiet_step (first | exact cR _ | exact cF _))
  refine wpQuiet_nil ?_
  intro w' hw'
  obtain ⟨⟨w9, hG9, hO9⟩, hw''⟩ := hw'
  have hw9 : w' = w9 := hw''
  subst hw9
  have HD : Hid (GuOK w' g n C ∧ Only g w w') := Lib.hid ⟨hG9, (only_below hgl B0.out).trans hO9⟩
  clear m0 m1 m2 m3 m4 m5 cR cF hw'' hG9 hO9
  go_wp2
  go_ret
  exact ⟨rfl, HD.out⟩

set_option maxHeartbeats 2000000 in
set_option maxRecDepth 100000 in
/-- The method at a kind whose predicate answers q. -/
theorem impl_allows_4 (k : Int) (hk : ∀ w : World, (Instr.index 140 (.agg #[.func (.func 142) #[] #[], .func (.func 143) #[] #[], .func (.func 141) #[] #[], .func (.func 141) #[] #[], .func (.func 144) #[] #[], .func (.func 145) #[] #[], .func (.func 146) #[] #[], .func (.func 147) #[] #[], .func (.func 142) #[] #[], .func (.func 142) #[] #[]]) (.int .i64 k)).run Tryd.prog w = .ok (.func (.func 144) #[] #[]) w)
    (n : Int) (g C : Nat) (a b c p m : Int) (q : Bool) (w : World) (h : GuOK w g n C) (hg : g < C) (hC : C ≤ w.heap.size)
    (hf : ∀ W, GuOK W g n C → Only g w W → C ≤ W.heap.size → Calls Tryd.prog 144 #[.pointer (some ⟨g, 0, none⟩), tokV ⟨k, a, b, c, p, m⟩] W (GaDone q g n C W)) :
    Calls Tryd.prog 87 #[.pointer (some ⟨g, 0, none⟩), tokV ⟨k, a, b, c, p, m⟩] w (GaDone q g n C w) := by
  have B0 := Lib.hid (below_one w (.cells #[.int .i64 k, .int .i64 a, .int .i64 b, .int .i64 c, .int .i64 p, .int .i64 m] 38))
  have hK : TokAt (w.alloc (.cells #[.int .i64 k, .int .i64 a, .int .i64 b, .int .i64 c, .int .i64 p, .int .i64 m] 38)) w.heap.size ⟨k, a, b, c, p, m⟩ := heap_alloc_new _ _
  have ⟨t0, t1, t2, t3, t4, t5⟩ := hK.cells
  dsimp only at t0 t1 t2 t3 t4 t5
  have HG0 := Lib.hid (h.keep B0.out)
  have hgl : g < w.heap.size := by omega
  have hne : w.heap.size ≠ g := by omega
  have hs0 : (w.alloc (.cells #[.int .i64 k, .int .i64 a, .int .i64 b, .int .i64 c, .int .i64 p, .int .i64 m] 38)).heap.size = w.heap.size + 1 := by simp
  unfold tokV at hf ⊢
  go_enter Tryd.func87, Tryd.ntmps87
  go_wp2_with fail
  generalize w.alloc (.cells #[.int .i64 k, .int .i64 a, .int .i64 b, .int .i64 c, .int .i64 p, .int .i64 m] 38) = W0 at *
  have hgW : g < W0.heap.size := by omega
  have m0 := fun p : AlW W0 g n C => alw_cell t0 hne p
  have m1 := fun p : AlW W0 g n C => alw_cell t1 hne p
  have m2 := fun p : AlW W0 g n C => alw_cell t2 hne p
  have m3 := fun p : AlW W0 g n C => alw_cell t3 hne p
  have m4 := fun p : AlW W0 g n C => alw_cell t4 hne p
  have m5 := fun p : AlW W0 g n C => alw_cell t5 hne p
  have cR := fun p : AlW W0 g n C => alw_below hgW p (impl_rules p.1)
  have cF := fun p : AlW W0 g n C => alw_done p (hf p.1 p.2.1 ((only_below hgl B0.out).trans p.2.2) (Nat.le_trans hC (Nat.le_trans B0.out.size p.2.2.1.size)))
  clear t0 t1 t2 t3 t4 t5 hf hK h
  haveI : Nonempty (AlW W0 g n C) := ⟨⟨W0, HG0.out, Only.refl g W0⟩⟩
  refine wp_region_quiet (C := fun w' => ∃ p : AlW W0 g n C, w' = p.1) (by kernel_rfl) (by kernel_rfl) ⟨⟨_, HG0.out.keep ((Below.refl W0.heap.size W0).drew), (Only.refl g W0).1.drew, (Only.refl g W0).2⟩, rfl⟩ ?_
  repeat (quiet_step (first | exact cR _ | exact cF _))
  refine wpQuiet_nil ?_
  intro w' hw'
  obtain ⟨⟨w9, hG9, hO9⟩, hw''⟩ := hw'
  have hw9 : w' = w9 := hw''
  subst hw9
  have HD : Hid (GuOK w' g n C ∧ Only g w w') := Lib.hid ⟨hG9, (only_below hgl B0.out).trans hO9⟩
  clear m0 m1 m2 m3 m4 m5 cR cF hw'' hG9 hO9
  go_wp2
  go_ret
  exact ⟨rfl, HD.out⟩

set_option maxHeartbeats 2000000 in
set_option maxRecDepth 100000 in
/-- The method at a kind whose predicate answers q. -/
theorem impl_allows_5 (k : Int) (hk : ∀ w : World, (Instr.index 140 (.agg #[.func (.func 142) #[] #[], .func (.func 143) #[] #[], .func (.func 141) #[] #[], .func (.func 141) #[] #[], .func (.func 144) #[] #[], .func (.func 145) #[] #[], .func (.func 146) #[] #[], .func (.func 147) #[] #[], .func (.func 142) #[] #[], .func (.func 142) #[] #[]]) (.int .i64 k)).run Tryd.prog w = .ok (.func (.func 145) #[] #[]) w)
    (n : Int) (g C : Nat) (a b c p m : Int) (q : Bool) (w : World) (h : GuOK w g n C) (hg : g < C) (hC : C ≤ w.heap.size)
    (hf : ∀ W, GuOK W g n C → Only g w W → C ≤ W.heap.size → Calls Tryd.prog 145 #[.pointer (some ⟨g, 0, none⟩), tokV ⟨k, a, b, c, p, m⟩] W (GaDone q g n C W)) :
    Calls Tryd.prog 87 #[.pointer (some ⟨g, 0, none⟩), tokV ⟨k, a, b, c, p, m⟩] w (GaDone q g n C w) := by
  have B0 := Lib.hid (below_one w (.cells #[.int .i64 k, .int .i64 a, .int .i64 b, .int .i64 c, .int .i64 p, .int .i64 m] 38))
  have hK : TokAt (w.alloc (.cells #[.int .i64 k, .int .i64 a, .int .i64 b, .int .i64 c, .int .i64 p, .int .i64 m] 38)) w.heap.size ⟨k, a, b, c, p, m⟩ := heap_alloc_new _ _
  have ⟨t0, t1, t2, t3, t4, t5⟩ := hK.cells
  dsimp only at t0 t1 t2 t3 t4 t5
  have HG0 := Lib.hid (h.keep B0.out)
  have hgl : g < w.heap.size := by omega
  have hne : w.heap.size ≠ g := by omega
  have hs0 : (w.alloc (.cells #[.int .i64 k, .int .i64 a, .int .i64 b, .int .i64 c, .int .i64 p, .int .i64 m] 38)).heap.size = w.heap.size + 1 := by simp
  unfold tokV at hf ⊢
  go_enter Tryd.func87, Tryd.ntmps87
  go_wp2_with fail
  generalize w.alloc (.cells #[.int .i64 k, .int .i64 a, .int .i64 b, .int .i64 c, .int .i64 p, .int .i64 m] 38) = W0 at *
  have hgW : g < W0.heap.size := by omega
  have m0 := fun p : AlW W0 g n C => alw_cell t0 hne p
  have m1 := fun p : AlW W0 g n C => alw_cell t1 hne p
  have m2 := fun p : AlW W0 g n C => alw_cell t2 hne p
  have m3 := fun p : AlW W0 g n C => alw_cell t3 hne p
  have m4 := fun p : AlW W0 g n C => alw_cell t4 hne p
  have m5 := fun p : AlW W0 g n C => alw_cell t5 hne p
  have cR := fun p : AlW W0 g n C => alw_below hgW p (impl_rules p.1)
  have cF := fun p : AlW W0 g n C => alw_done p (hf p.1 p.2.1 ((only_below hgl B0.out).trans p.2.2) (Nat.le_trans hC (Nat.le_trans B0.out.size p.2.2.1.size)))
  clear t0 t1 t2 t3 t4 t5 hf hK h
  haveI : Nonempty (AlW W0 g n C) := ⟨⟨W0, HG0.out, Only.refl g W0⟩⟩
  refine wp_region_quiet (C := fun w' => ∃ p : AlW W0 g n C, w' = p.1) (by kernel_rfl) (by kernel_rfl) ⟨⟨_, HG0.out.keep ((Below.refl W0.heap.size W0).drew), (Only.refl g W0).1.drew, (Only.refl g W0).2⟩, rfl⟩ ?_
  repeat (quiet_step (first | exact cR _ | exact cF _))
  refine wpQuiet_nil ?_
  intro w' hw'
  obtain ⟨⟨w9, hG9, hO9⟩, hw''⟩ := hw'
  have hw9 : w' = w9 := hw''
  subst hw9
  have HD : Hid (GuOK w' g n C ∧ Only g w w') := Lib.hid ⟨hG9, (only_below hgl B0.out).trans hO9⟩
  clear m0 m1 m2 m3 m4 m5 cR cF hw'' hG9 hO9
  go_wp2
  go_ret
  exact ⟨rfl, HD.out⟩

set_option maxHeartbeats 2000000 in
set_option maxRecDepth 100000 in
/-- The method at a kind whose predicate answers q. -/
theorem impl_allows_6 (k : Int) (hk : ∀ w : World, (Instr.index 140 (.agg #[.func (.func 142) #[] #[], .func (.func 143) #[] #[], .func (.func 141) #[] #[], .func (.func 141) #[] #[], .func (.func 144) #[] #[], .func (.func 145) #[] #[], .func (.func 146) #[] #[], .func (.func 147) #[] #[], .func (.func 142) #[] #[], .func (.func 142) #[] #[]]) (.int .i64 k)).run Tryd.prog w = .ok (.func (.func 146) #[] #[]) w)
    (n : Int) (g C : Nat) (a b c p m : Int) (q : Bool) (w : World) (h : GuOK w g n C) (hg : g < C) (hC : C ≤ w.heap.size)
    (hf : ∀ W, GuOK W g n C → Only g w W → C ≤ W.heap.size → Calls Tryd.prog 146 #[.pointer (some ⟨g, 0, none⟩), tokV ⟨k, a, b, c, p, m⟩] W (GaDone q g n C W)) :
    Calls Tryd.prog 87 #[.pointer (some ⟨g, 0, none⟩), tokV ⟨k, a, b, c, p, m⟩] w (GaDone q g n C w) := by
  have B0 := Lib.hid (below_one w (.cells #[.int .i64 k, .int .i64 a, .int .i64 b, .int .i64 c, .int .i64 p, .int .i64 m] 38))
  have hK : TokAt (w.alloc (.cells #[.int .i64 k, .int .i64 a, .int .i64 b, .int .i64 c, .int .i64 p, .int .i64 m] 38)) w.heap.size ⟨k, a, b, c, p, m⟩ := heap_alloc_new _ _
  have ⟨t0, t1, t2, t3, t4, t5⟩ := hK.cells
  dsimp only at t0 t1 t2 t3 t4 t5
  have HG0 := Lib.hid (h.keep B0.out)
  have hgl : g < w.heap.size := by omega
  have hne : w.heap.size ≠ g := by omega
  have hs0 : (w.alloc (.cells #[.int .i64 k, .int .i64 a, .int .i64 b, .int .i64 c, .int .i64 p, .int .i64 m] 38)).heap.size = w.heap.size + 1 := by simp
  unfold tokV at hf ⊢
  go_enter Tryd.func87, Tryd.ntmps87
  go_wp2_with fail
  generalize w.alloc (.cells #[.int .i64 k, .int .i64 a, .int .i64 b, .int .i64 c, .int .i64 p, .int .i64 m] 38) = W0 at *
  have hgW : g < W0.heap.size := by omega
  have m0 := fun p : AlW W0 g n C => alw_cell t0 hne p
  have m1 := fun p : AlW W0 g n C => alw_cell t1 hne p
  have m2 := fun p : AlW W0 g n C => alw_cell t2 hne p
  have m3 := fun p : AlW W0 g n C => alw_cell t3 hne p
  have m4 := fun p : AlW W0 g n C => alw_cell t4 hne p
  have m5 := fun p : AlW W0 g n C => alw_cell t5 hne p
  have cR := fun p : AlW W0 g n C => alw_below hgW p (impl_rules p.1)
  have cF := fun p : AlW W0 g n C => alw_done p (hf p.1 p.2.1 ((only_below hgl B0.out).trans p.2.2) (Nat.le_trans hC (Nat.le_trans B0.out.size p.2.2.1.size)))
  clear t0 t1 t2 t3 t4 t5 hf hK h
  haveI : Nonempty (AlW W0 g n C) := ⟨⟨W0, HG0.out, Only.refl g W0⟩⟩
  refine wp_region_quiet (C := fun w' => ∃ p : AlW W0 g n C, w' = p.1) (by kernel_rfl) (by kernel_rfl) ⟨⟨_, HG0.out.keep ((Below.refl W0.heap.size W0).drew), (Only.refl g W0).1.drew, (Only.refl g W0).2⟩, rfl⟩ ?_
  repeat (quiet_step (first | exact cR _ | exact cF _))
  refine wpQuiet_nil ?_
  intro w' hw'
  obtain ⟨⟨w9, hG9, hO9⟩, hw''⟩ := hw'
  have hw9 : w' = w9 := hw''
  subst hw9
  have HD : Hid (GuOK w' g n C ∧ Only g w w') := Lib.hid ⟨hG9, (only_below hgl B0.out).trans hO9⟩
  clear m0 m1 m2 m3 m4 m5 cR cF hw'' hG9 hO9
  go_wp2
  go_ret
  exact ⟨rfl, HD.out⟩

set_option maxHeartbeats 2000000 in
set_option maxRecDepth 100000 in
/-- The method at a kind whose predicate answers q. -/
theorem impl_allows_N (k : Int) (hk : ∀ w : World, (Instr.index 140 (.agg #[.func (.func 142) #[] #[], .func (.func 143) #[] #[], .func (.func 141) #[] #[], .func (.func 141) #[] #[], .func (.func 144) #[] #[], .func (.func 145) #[] #[], .func (.func 146) #[] #[], .func (.func 147) #[] #[], .func (.func 142) #[] #[], .func (.func 142) #[] #[]]) (.int .i64 k)).run Tryd.prog w = .ok (.func (.func 147) #[] #[]) w)
    (n : Int) (g C : Nat) (a b c p m : Int) (q : Bool) (w : World) (h : GuOK w g n C) (hg : g < C) (hC : C ≤ w.heap.size)
    (hf : ∀ W, GuOK W g n C → Only g w W → C ≤ W.heap.size → Calls Tryd.prog 147 #[.pointer (some ⟨g, 0, none⟩), tokV ⟨k, a, b, c, p, m⟩] W (GaDone q g n C W)) :
    Calls Tryd.prog 87 #[.pointer (some ⟨g, 0, none⟩), tokV ⟨k, a, b, c, p, m⟩] w (GaDone q g n C w) := by
  have B0 := Lib.hid (below_one w (.cells #[.int .i64 k, .int .i64 a, .int .i64 b, .int .i64 c, .int .i64 p, .int .i64 m] 38))
  have hK : TokAt (w.alloc (.cells #[.int .i64 k, .int .i64 a, .int .i64 b, .int .i64 c, .int .i64 p, .int .i64 m] 38)) w.heap.size ⟨k, a, b, c, p, m⟩ := heap_alloc_new _ _
  have ⟨t0, t1, t2, t3, t4, t5⟩ := hK.cells
  dsimp only at t0 t1 t2 t3 t4 t5
  have HG0 := Lib.hid (h.keep B0.out)
  have hgl : g < w.heap.size := by omega
  have hne : w.heap.size ≠ g := by omega
  have hs0 : (w.alloc (.cells #[.int .i64 k, .int .i64 a, .int .i64 b, .int .i64 c, .int .i64 p, .int .i64 m] 38)).heap.size = w.heap.size + 1 := by simp
  unfold tokV at hf ⊢
  go_enter Tryd.func87, Tryd.ntmps87
  go_wp2_with fail
  generalize w.alloc (.cells #[.int .i64 k, .int .i64 a, .int .i64 b, .int .i64 c, .int .i64 p, .int .i64 m] 38) = W0 at *
  have hgW : g < W0.heap.size := by omega
  have m0 := fun p : AlW W0 g n C => alw_cell t0 hne p
  have m1 := fun p : AlW W0 g n C => alw_cell t1 hne p
  have m2 := fun p : AlW W0 g n C => alw_cell t2 hne p
  have m3 := fun p : AlW W0 g n C => alw_cell t3 hne p
  have m4 := fun p : AlW W0 g n C => alw_cell t4 hne p
  have m5 := fun p : AlW W0 g n C => alw_cell t5 hne p
  have cR := fun p : AlW W0 g n C => alw_below hgW p (impl_rules p.1)
  have cF := fun p : AlW W0 g n C => alw_done p (hf p.1 p.2.1 ((only_below hgl B0.out).trans p.2.2) (Nat.le_trans hC (Nat.le_trans B0.out.size p.2.2.1.size)))
  clear t0 t1 t2 t3 t4 t5 hf hK h
  haveI : Nonempty (AlW W0 g n C) := ⟨⟨W0, HG0.out, Only.refl g W0⟩⟩
  refine wp_region_quiet (C := fun w' => ∃ p : AlW W0 g n C, w' = p.1) (by kernel_rfl) (by kernel_rfl) ⟨⟨_, HG0.out.keep ((Below.refl W0.heap.size W0).drew), (Only.refl g W0).1.drew, (Only.refl g W0).2⟩, rfl⟩ ?_
  repeat (quiet_step (first | exact cR _ | exact cF _))
  refine wpQuiet_nil ?_
  intro w' hw'
  obtain ⟨⟨w9, hG9, hO9⟩, hw''⟩ := hw'
  have hw9 : w' = w9 := hw''
  subst hw9
  have HD : Hid (GuOK w' g n C ∧ Only g w w') := Lib.hid ⟨hG9, (only_below hgl B0.out).trans hO9⟩
  clear m0 m1 m2 m3 m4 m5 cR cF hw'' hG9 hO9
  go_wp2
  go_ret
  exact ⟨rfl, HD.out⟩

theorem ga_below {n : Int} {g C : Nat} {q : Bool} {f : FuncId} {args : Array Value} {W : World} (hG : GuOK W g n C) (hgl : g < W.heap.size) (h : Calls Tryd.prog f args W fun e w' => e = .returned (.bool q) ∧ Below W.heap.size W w') : Calls Tryd.prog f args W (GaDone q g n C W) :=
  h.mono fun _ _ ⟨he, hb⟩ => ⟨he, hG.keep hb, only_below hgl hb⟩

theorem impl_allows (n : Int) (t : Tok) (g C : Nat) (w : World) (h : GuOK w g n C) (hg : g < C) (hC : C ≤ w.heap.size) (ht : ∀ W, Only g w W → TabSets W) (hn : proB n = true) (hk : tokOKP t) :
    Calls Tryd.prog 87 #[.pointer (some ⟨g, 0, none⟩), tokV t] w (GaDone (allowB n t) g n C w) := by
  obtain ⟨k, a, b, c, p, m⟩ := t
  obtain ⟨_, hk⟩ := hk
  dsimp only at hk
  have rul : ∀ {W : World} {f : FuncId} {args : Array Value} {q : Bool}, GuOK W g n C → C ≤ W.heap.size → (∀ m, GuAt W g n m → Calls Tryd.prog f args W fun e w' => e = .returned (.bool q) ∧ Below W.heap.size W w') → Calls Tryd.prog f args W (GaDone q g n C W) := by
    intro W f args q hG hCW hc
    obtain ⟨m', hm', h2⟩ := hG
    exact ga_below ⟨m', hm', h2⟩ (by omega) (hc m' hm')
  rcases hk with ⟨rfl, _⟩ | ⟨rfl, _⟩ | ⟨rfl, _⟩ | ⟨rfl, _⟩ | ⟨rfl, _⟩ | ⟨rfl, _⟩ | ⟨rfl, a0, a3, b0, b3, _⟩ | ⟨rfl | rfl, _⟩
  · exact impl_allows_3 1 (fun _ => by kernel_rfl) n g C a b c p m _ w h hg hC fun W hG _ hCW => rul hG hCW fun m' hm' => rule3 n g m' ⟨1, a, b, c, p, m⟩ W hm'
  · exact impl_allows_1 2 (fun _ => by kernel_rfl) n g C a b c p m _ w h hg hC fun W hG _ hCW => rul hG hCW fun m' hm' => rule1 n g m' ⟨2, a, b, c, p, m⟩ W hm'
  · exact impl_allows_1 3 (fun _ => by kernel_rfl) n g C a b c p m _ w h hg hC fun W hG _ hCW => rul hG hCW fun m' hm' => rule1 n g m' ⟨3, a, b, c, p, m⟩ W hm'
  · exact impl_allows_4 4 (fun _ => by kernel_rfl) n g C a b c p m _ w h hg hC fun W hG _ hCW => rul hG hCW fun m' hm' => rule4 n g m' ⟨4, a, b, c, p, m⟩ W hm'
  · exact impl_allows_5 5 (fun _ => by kernel_rfl) n g C a b c p m _ w h hg hC fun W hG _ hCW => rul hG hCW fun m' hm' => rule5 n g m' ⟨5, a, b, c, p, m⟩ W hm'
  · exact impl_allows_6 6 (fun _ => by kernel_rfl) n g C a b c p m _ w h hg hC fun W hG _ hCW => rul hG hCW fun m' hm' => rule6 n g m' ⟨6, a, b, c, p, m⟩ W hm'
  · exact impl_allows_N 7 (fun _ => by kernel_rfl) n g C a b c p m _ w h hg hC fun W hG ho hCW => impl_allowsName n g C a b c p m W hG hg hCW (ht W ho) hn a0 a3 b0 b3
  · exact impl_allows_2 8 (fun _ => by kernel_rfl) n g C a b c p m _ w h hg hC fun W hG _ hCW => rul hG hCW fun m' hm' => rule2 n g m' ⟨8, a, b, c, p, m⟩ W hm'
  · exact impl_allows_2 9 (fun _ => by kernel_rfl) n g C a b c p m _ w h hg hC fun W hG _ hCW => rul hG hCW fun m' hm' => rule2 n g m' ⟨9, a, b, c, p, m⟩ W hm'

/-- AllowsToken: what it answers. -/
def atC (n : Int) (t : Tok) : Int := if proB n = true then (if tokOKB t = true then 0 else 1) else 5
def atB (n : Int) (t : Tok) : Bool := proB n && (tokOKB t && allowB n t)
def AtDone (n : Int) (t : Tok) (w : World) (e : Ending) (w' : World) : Prop := e = .returned (.tuple #[.bool (atB n t), .int .i64 (atC n t)]) ∧ Below w.heap.size w w'
theorem atDone_bad {n : Int} {t : Tok} {w w' : World} {c : Int} (h : atC n t = c) (h0 : c ≠ 0) (hb : Below w.heap.size w w') : AtDone n t w (.returned (.tuple #[.bool false, .int .i64 c])) w' := by
  refine ⟨?_, hb⟩
  have : atB n t = false := by
    unfold atC at h
    unfold atB
    cases h1 : proB n <;> cases h2 : tokOKB t <;> simp_all
  rw [this, h]
theorem atDone_ok {n : Int} {t : Tok} {w w' : World} {b : Bool} (h1 : proB n = true) (h2 : tokOKB t = true) (h3 : allowB n t = b) (hb : Below w.heap.size w w') : AtDone n t w (.returned (.tuple #[.bool b, .int .i64 0])) w' := by
  refine ⟨?_, hb⟩
  rw [atB, atC, h1, h2, h3]
  simp

set_option maxHeartbeats 1000000 in
theorem impl_AllowsToken (n : Int) (t : Tok) (w : World) (ht : TabSets w) : Calls Tryd.prog 42 #[.int .i64 n, tokV t] w (AtDone n t w) := by
  have HN := Lib.hid (fun w => impl_isProfile n w)
  have HO := Lib.hid (fun w => impl_tokenOK t w)
  have HT := Lib.hid ht
  have B0 := Lib.hid (below_one w (.cells #[.int .i64 t.k, .int .i64 t.a, .int .i64 t.b, .int .i64 t.c, .int .i64 t.p, .int .i64 t.n] 38))
  have K0 : Hid (TokAt (w.alloc (.cells #[.int .i64 t.k, .int .i64 t.a, .int .i64 t.b, .int .i64 t.c, .int .i64 t.p, .int .i64 t.n] 38)) w.heap.size t) := Lib.hid (heap_alloc_new _ _)
  clear ht
  unfold tokV at HO ⊢
  cases hn : proB n
  · have HC : Hid (atC n t = 5) := Lib.hid (by simp [atC, hn])
    rw [hn] at HN
    go_enter Tryd.func42, Tryd.ntmps42
    go_wp2_with fail
    refine (HN.out _).mono ?_
    rintro e w1 ⟨rfl, rfl⟩
    go_wp2
    go_ret2
    exact atDone_bad HC.out (by decide) B0.out
  have HN1 := Lib.hid hn
  have HG := Lib.hid (fun w ht => impl_guideOf n w ht hn)
  unfold guV at HG
  rw [hn] at HN
  clear hn
  cases ho : tokOKB t
  · have HC : Hid (atC n t = 1) := Lib.hid (by simp [atC, HN1.out, ho])
    rw [ho] at HO
    go_enter Tryd.func42, Tryd.ntmps42
    go_wp2_with fail
    refine (HN.out _).mono ?_
    rintro e w1 ⟨rfl, rfl⟩
    go_wp2_with fail
    refine (HO.out _).mono ?_
    generalize w.alloc (.cells #[.int .i64 t.k, .int .i64 t.a, .int .i64 t.b, .int .i64 t.c, .int .i64 t.p, .int .i64 t.n] 38) = W0 at *
    rintro e w1 ⟨rfl, b1⟩
    have B1 : Hid (Below w.heap.size w w1) := Lib.hid (B0.out.trans (b1.mono B0.out.size))
    clear b1
    go_wp2
    go_ret2
    exact atDone_bad HC.out (by decide) B1.out
  · have HO1 := Lib.hid ho
    have HA := Lib.hid (fun g C w h hg hC ht => impl_allows n t g C w h hg hC ht HN1.out ((tokOKB_iff t).1 ho))
    unfold GaDone at HA
    unfold tokV at HA
    rw [ho] at HO
    clear ho
    obtain ⟨q, hq⟩ : ∃ q, allowB n t = q := ⟨_, rfl⟩
    rw [hq] at HA
    have HQ := Lib.hid hq
    clear hq
    go_enter Tryd.func42, Tryd.ntmps42
    go_wp2_with fail
    refine (HN.out _).mono ?_
    rintro e w1 ⟨rfl, rfl⟩
    go_wp2_with fail
    refine (HO.out _).mono ?_
    generalize w.alloc (.cells #[.int .i64 t.k, .int .i64 t.a, .int .i64 t.b, .int .i64 t.c, .int .i64 t.p, .int .i64 t.n] 38) = W0 at *
    rintro e w1 ⟨rfl, b1⟩
    have B1 : Hid (Below w.heap.size w w1) := Lib.hid (B0.out.trans (b1.mono B0.out.size))
    have K1 := Lib.hid (K0.out.keep b1)
    clear b1 K0
    go_wp2_with fail
    refine (HG.out _ (HT.out.keep B1.out)).mono ?_
    rintro e w2 ⟨rfl, b2⟩
    have B2 : Hid (Below w.heap.size w w2) := Lib.hid (B1.out.trans (b2.mono B1.out.size))
    have B3 : Hid (Below w.heap.size w (w2.alloc (.cells #[.int .i64 n, .string (prName n), .string (prHead n), .slice none 0 0, .bool (prRight n), .bool (prShifts n), .bool (prSingle n), .bool (prReset n), .bool (prClear n), .map none] 108))) := Lib.hid (B2.out.alloc B2.out.size _)
    have K3 := Lib.hid ((K1.out.keep b2).keep (below_one w2 (.cells #[.int .i64 n, .string (prName n), .string (prHead n), .slice none 0 0, .bool (prRight n), .bool (prShifts n), .bool (prSingle n), .bool (prReset n), .bool (prClear n), .map none] 108)))
    have G3 : Hid (GuOK (w2.alloc (.cells #[.int .i64 n, .string (prName n), .string (prHead n), .slice none 0 0, .bool (prRight n), .bool (prShifts n), .bool (prSingle n), .bool (prReset n), .bool (prClear n), .map none] 108)) w2.heap.size n (w2.heap.size + 1)) := Lib.hid ⟨_, GuAt.new w2 n (.map none), .inl rfl⟩
    have hs3 : w2.heap.size + 1 ≤ (w2.alloc (.cells #[.int .i64 n, .string (prName n), .string (prHead n), .slice none 0 0, .bool (prRight n), .bool (prShifts n), .bool (prSingle n), .bool (prReset n), .bool (prClear n), .map none] 108)).heap.size := by simp
    have hs2 : w.heap.size ≤ w2.heap.size := B2.out.size
    have T3 : Hid (∀ W, Only w2.heap.size (w2.alloc (.cells #[.int .i64 n, .string (prName n), .string (prHead n), .slice none 0 0, .bool (prRight n), .bool (prShifts n), .bool (prSingle n), .bool (prReset n), .bool (prClear n), .map none] 108)) W → TabSets W) := Lib.hid (fun W o => HT.out.keep (B3.out.trans (o.1.mono hs2)))
    clear b2 K1
    have ⟨t0, t1, t2, t3, t4, t5⟩ := K3.out.cells
    go_wp2_with fail
    refine (HA.out _ _ _ G3.out (Nat.lt_succ_self _) hs3 T3.out).mono ?_
    clear t0 t1 t2 t3 t4 t5
    rintro e w4 ⟨rfl, _, o4⟩
    have B4 : Hid (Below w.heap.size w w4) := Lib.hid (B3.out.trans (o4.1.mono hs2))
    clear o4
    go_wp2
    go_ret2
    exact atDone_ok HN1.out HO1.out HQ.out B4.out

end Go.Proofs.YtjbikenhdgbacaaDoor

namespace Go.Proofs.YtjbikenhdgbacaaDoor
open Go.RowKit Go.Sort

/-- A space in a state: a code of a set of 96, or a character of its own. -/
def spaceP (x : St) : Stp := if x.d = 0 ∧ setKind (setAt x false) = 2 ∧ setAt x false ≠ 0 then graphic x 32 false else if pendB x = true then ⟨x, -1, 13⟩ else ⟨x, 32, 0⟩
theorem space_eq {x : St} (hx : stOKB x = true) (t : Tok) (ht : t.k = 2) : stepT x t = spaceP x := by
  obtain ⟨h1, h2, h3⟩ := stOK_parts hx
  have hs := (head_parts h2).2
  have hl := lead_range h3
  have hr := setAt_range h1 false
  unfold stepT
  rw [if_neg (by omega), if_neg (by omega)]
  unfold spaceP
  have hw : ∀ n, 0 ≤ stGet x n → (wideB x n = true ↔ setKind (stGet x n) = 2 ∧ stGet x n ≠ 0) := by
    intro n hn
    unfold wideB
    rw [Bool.and_eq_true, decide_eq_true_eq, decide_eq_true_eq]
    constructor
    · intro ⟨a, b⟩; exact ⟨b, by omega⟩
    · intro ⟨a, b⟩; exact ⟨by omega, a⟩
  by_cases hp : pendB x = true
  · rw [if_pos hp]
    by_cases hd : x.d = 0
    · have hs2 : 0 < x.s := by
        unfold pendB at hp
        rw [Bool.or_eq_true, decide_eq_true_eq, decide_eq_true_eq] at hp
        omega
      have he : setAt x false = stGet x x.s := by unfold setAt sideOf; rw [if_pos hs2]
      rw [he] at hr ⊢
      have := hw x.s hr.1
      by_cases hc : wideB x x.s = true
      · rw [if_pos ⟨ht, hd, hc⟩, if_pos ⟨hd, this.1 hc⟩]
      · rw [if_neg (fun h => hc h.2.2), if_neg (fun h => hc (this.2 h.2)), if_pos hp]
    · rw [if_neg (fun h => hd h.2.1), if_neg (fun h => hd h.1), if_pos hp]
  · rw [if_neg hp]
    have ⟨s0, d0⟩ := calm_parts hx (by simpa using hp)
    have he : setAt x false = stGet x x.l := by unfold setAt sideOf; rw [if_neg (by omega), if_neg (by decide)]
    rw [he] at hr ⊢
    have := hw x.l hr.1
    unfold calm
    rw [if_neg (by omega), if_pos ht]
    by_cases hc : wideB x x.l = true
    · rw [if_pos hc, if_pos ⟨d0, this.1 hc⟩]
    · rw [if_neg hc, if_neg (fun h => hc (this.2 h.2)), if_neg hp]

theorem mvDone_same {x : St} {p : Stp} {b : Nat} {w w' : World} {r : Int} (h : p = ⟨x, r, 0⟩) (hr : 0 ≤ r) (hm : MAt w b x) (hb : Below w.heap.size w w') : MvDone p b w (.returned (.tuple #[.int .i64 r, .bool true, .int .i64 0])) w' :=
  ⟨by rw [mv_some h hr], by rw [h]; exact hm.keep hb, only_below hm.lt hb⟩
theorem MvDone.from {p : Stp} {b : Nat} {w w1 w2 : World} {e : Ending} (h : MvDone p b w1 e w2) (hb : b < w.heap.size) (hw : Below w.heap.size w w1) : MvDone p b w e w2 :=
  ⟨h.1, h.2.1, (only_below hb hw).trans h.2.2⟩

set_option maxHeartbeats 1000000 in
set_option maxRecDepth 100000 in
theorem impl_space (x : St) (b : Nat) (w : World) (h : MAt w b x) (ht : TabM w) (hx : stOKB x = true) : Calls Tryd.prog 105 #[.pointer (some ⟨b, 0, none⟩)] w (MvDone (spaceP x) b w) := by
  obtain ⟨h1, h2, h3⟩ := stOK_parts hx
  have HF := Lib.hid (fun w h => impl_setFor x b 0 w h h2)
  rw [show ((0 : Int) == 128) = false from rfl] at HF
  obtain ⟨k, hk, k8⟩ := setAt_nat h1 false
  rw [hk] at HF
  have HG := Lib.hid (fun w h ht => impl_take x b false 32 w h ht hx (by decide) (by decide))
  rw [show sideNo false = 0 from rfl] at HG
  have HP := Lib.hid (fun w h => impl_pending x b w h)
  rw [pend_eq hx] at HP
  have HM := Lib.hid h
  have HT := Lib.hid ht
  have hb : b < w.heap.size := h.lt
  have HS : Hid (spaceP x = if x.d = 0 ∧ setKind (k : Int) = 2 ∧ (k : Int) ≠ 0 then graphic x 32 false else if pendB x = true then ⟨x, -1, 13⟩ else ⟨x, 32, 0⟩) := Lib.hid (by rw [spaceP, hk])
  have ⟨y0, y1, y2, y3, y4, y5, y6⟩ := h.cells
  have u1 : (0 : Int) ≤ (k : Int) := by omega
  have u2 : (k : Int) < 9 := by omega
  clear h ht hx h1 h2 h3 hk
  unfold MvDone mvV at HG
  by_cases z : x.d = 0
  · have ez : (x.d == 0) = true := by simpa using z
    have hk2 : (kind0 (k : Int) == 2) = true ↔ (setKind (k : Int) = 2 ∧ (k : Int) ≠ 0) := by
      unfold kind0
      by_cases k0 : (k : Int) = 0
      · rw [if_pos k0]; simp [k0]
      · rw [if_neg k0]
        exact ⟨fun h => ⟨by simpa using h, k0⟩, fun h => by simpa using h.1⟩
    cases h2 : (kind0 (k : Int) == 2)
    · have hn : ¬ (x.d = 0 ∧ setKind (k : Int) = 2 ∧ (k : Int) ≠ 0) := fun h => by rw [hk2.2 h.2] at h2; cases h2
      clear hk2
      cases hp : pendB x
      · have HE : Hid (spaceP x = ⟨x, 32, 0⟩) := Lib.hid (by rw [HS.out, if_neg hn, if_neg (by rw [hp]; decide)])
        rw [hp] at HP
        clear hn z HS
        go_enter Tryd.func105, Tryd.ntmps105
        go_wp2_with fail
        refine (HF.out w HM.out).mono ?_
        rintro e w1 ⟨rfl, b1⟩
        have c1 := (HT.out.keep b1).kind k k8
        generalize kind0 (k : Int) = kd at *
        clear y0 y1 y2 y3 y4 y5 y6
        go_wp2_with fail
        refine (HP.out w1 (HM.out.keep b1)).mono ?_
        rintro e w2 ⟨rfl, rfl⟩
        go_wp2
        go_ret3
        exact mvDone_same HE.out (by decide) HM.out b1
      · have HE : Hid (spaceP x = ⟨x, -1, 13⟩) := Lib.hid (by rw [HS.out, if_neg hn, if_pos hp])
        rw [hp] at HP
        clear hn z HS
        go_enter Tryd.func105, Tryd.ntmps105
        go_wp2_with fail
        refine (HF.out w HM.out).mono ?_
        rintro e w1 ⟨rfl, b1⟩
        have c1 := (HT.out.keep b1).kind k k8
        generalize kind0 (k : Int) = kd at *
        clear y0 y1 y2 y3 y4 y5 y6
        go_wp2_with fail
        refine (HP.out w1 (HM.out.keep b1)).mono ?_
        rintro e w2 ⟨rfl, rfl⟩
        go_wp2
        go_ret3
        exact mvDone_none HE.out HM.out b1
    · have HE : Hid (spaceP x = graphic x 32 false) := Lib.hid (by rw [HS.out, if_pos ⟨z, hk2.1 h2⟩])
      clear hk2 z HS
      generalize graphic x 32 false = g at *
      have HV : Hid (mvV g = .tuple #[.int .i64 (toldR g), .bool (toldB g), .int .i64 g.c]) := Lib.hid rfl
      generalize toldR g = tr at *
      generalize toldB g = tb at *
      go_enter Tryd.func105, Tryd.ntmps105
      go_wp2_with fail
      refine (HF.out w HM.out).mono ?_
      rintro e w1 ⟨rfl, b1⟩
      have c1 := (HT.out.keep b1).kind k k8
      generalize kind0 (k : Int) = kd at *
      clear y0 y1 y2 y3 y4 y5 y6
      go_wp2_with fail
      refine (HG.out w1 (HM.out.keep b1) (HT.out.keep b1)).mono ?_
      rintro e w2 ⟨rfl, m2, o2⟩
      go_wp2
      go_ret3
      refine MvDone.from ⟨?_, ?_, o2⟩ hb b1
      · rw [HE.out, HV.out]; rfl
      · rw [HE.out]; exact m2
  · have ez : (x.d == 0) = false := by rw [beq_eq_false_iff_ne]; exact z
    have hn : ¬ (x.d = 0 ∧ setKind (k : Int) = 2 ∧ (k : Int) ≠ 0) := fun h => z h.1
    cases hp : pendB x
    · have HE : Hid (spaceP x = ⟨x, 32, 0⟩) := Lib.hid (by rw [HS.out, if_neg hn, if_neg (by rw [hp]; decide)])
      rw [hp] at HP
      clear hn z HS
      go_enter Tryd.func105, Tryd.ntmps105
      go_wp2_with fail
      refine (HP.out w HM.out).mono ?_
      rintro e w2 ⟨rfl, rfl⟩
      go_wp2
      go_ret3
      exact mvDone_same HE.out (by decide) HM.out (Below.refl _ _)
    · have HE : Hid (spaceP x = ⟨x, -1, 13⟩) := Lib.hid (by rw [HS.out, if_neg hn, if_pos hp])
      rw [hp] at HP
      clear hn z HS
      go_enter Tryd.func105, Tryd.ntmps105
      go_wp2_with fail
      refine (HP.out w HM.out).mono ?_
      rintro e w2 ⟨rfl, rfl⟩
      go_wp2
      go_ret3
      exact mvDone_none HE.out HM.out (Below.refl _ _)

theorem impl_control (a : Int) (w : World) : Calls Tryd.prog 106 #[.int .i64 a] w fun e w' => e = .returned (if 127 < a then .tuple #[.int .i64 0, .bool false, .int .i64 10] else .tuple #[.int .i64 a, .bool true, .int .i64 0]) ∧ w = w' := by
  by_cases h : 127 < a
  · rw [if_pos h]
    go_enter Tryd.func106, Tryd.ntmps106
    go_wp2
    go_ret3
    exact ⟨rfl, rfl⟩
  · rw [if_neg h]
    go_enter Tryd.func106, Tryd.ntmps106
    go_wp2
    go_ret3
    exact ⟨rfl, rfl⟩

/-- A token changes the machine, and a code is told. -/
def ChDone (p : Stp) (g : Nat) (w : World) (e : Ending) (w' : World) : Prop := e = .returned (.int .i64 p.c) ∧ MAt w' g p.y ∧ Only g w w'
theorem chDone_none {x : St} {p : Stp} {g : Nat} {w w' : World} {c : Int} (h : p = ⟨x, -1, c⟩) (hm : MAt w g x) (hb : Below w.heap.size w w') : ChDone p g w (.returned (.int .i64 c)) w' :=
  ⟨by rw [h], by rw [h]; exact hm.keep hb, only_below hm.lt hb⟩
theorem ChDone.drew {p : Stp} {g : Nat} {w w' : World} {e : Ending} (h : ChDone p g w e w') : ChDone p g w e w'.drew := ⟨h.1, h.2.1, h.2.2.drewN 1⟩
theorem chDone_set {x y : St} {p : Stp} {g j : Nat} {v : Int} {w : World} {o : Obj} (h : p = ⟨y, -1, 0⟩) (hm : MAt w g x) (hy : MAt (w.setCell ⟨g, j, none⟩ (.int .i64 v)) g y) : ChDone p g w (.returned (.int .i64 0)) ((w.setCell ⟨g, j, none⟩ (.int .i64 v)).alloc o) :=
  ⟨by rw [h], by rw [h]; exact hy.keep (below_one _ _), (Only.set g j w _).alloc hm.lt o⟩

set_option maxHeartbeats 1000000 in
set_option maxRecDepth 100000 in
theorem impl_change5 (x : St) (g : Nat) (a b c p n : Int) (w : World) (h : MAt w g x) : Calls Tryd.prog 107 #[.pointer (some ⟨g, 0, none⟩), tokV ⟨5, a, b, c, p, n⟩] w (ChDone (calm x ⟨5, a, b, c, p, n⟩) g w) := by
  have HE : Hid (calm x ⟨5, a, b, c, p, n⟩ = ⟨⟨x.g0, x.g1, x.g2, x.g3, a, x.s, x.d⟩, -1, 0⟩) := Lib.hid rfl
  have B0 := Lib.hid (below_one w (.cells #[.int .i64 5, .int .i64 a, .int .i64 b, .int .i64 c, .int .i64 p, .int .i64 n] 38))
  have HM := Lib.hid h
  have HM0 := Lib.hid (h.keep B0.out)
  have hg : g < w.heap.size := h.lt
  clear h
  unfold tokV
  have ⟨y0, y1, y2, y3, y4, y5, y6⟩ := HM0.out.cells
  have ⟨q0, q1, q2, q3, q4, q5, q6⟩ := HM0.out.thaw
  have ⟨m0, m1, m2, m3, m4, m5, m6⟩ := HM.out.cells
  have ⟨n0, n1, n2, n3, n4, n5, n6⟩ := HM.out.thaw
  go_enter Tryd.func107, Tryd.ntmps107
  go_wp2
  go_ret
  exact chDone_set HE.out HM.out (heap_setCell_same _ _ 4 _ _ (.int .i64 a) HM.out)

set_option maxHeartbeats 1000000 in
set_option maxRecDepth 100000 in
theorem impl_change6 (x : St) (g : Nat) (a b c p n : Int) (w : World) (h : MAt w g x) : Calls Tryd.prog 107 #[.pointer (some ⟨g, 0, none⟩), tokV ⟨6, a, b, c, p, n⟩] w (ChDone (calm x ⟨6, a, b, c, p, n⟩) g w) := by
  have HE : Hid (calm x ⟨6, a, b, c, p, n⟩ = ⟨⟨x.g0, x.g1, x.g2, x.g3, x.l, a, x.d⟩, -1, 0⟩) := Lib.hid rfl
  have B0 := Lib.hid (below_one w (.cells #[.int .i64 6, .int .i64 a, .int .i64 b, .int .i64 c, .int .i64 p, .int .i64 n] 38))
  have HM := Lib.hid h
  have HM0 := Lib.hid (h.keep B0.out)
  have hg : g < w.heap.size := h.lt
  clear h
  unfold tokV
  have ⟨y0, y1, y2, y3, y4, y5, y6⟩ := HM0.out.cells
  have ⟨q0, q1, q2, q3, q4, q5, q6⟩ := HM0.out.thaw
  have ⟨m0, m1, m2, m3, m4, m5, m6⟩ := HM.out.cells
  have ⟨n0, n1, n2, n3, n4, n5, n6⟩ := HM.out.thaw
  go_enter Tryd.func107, Tryd.ntmps107
  go_wp2
  go_ret
  exact chDone_set HE.out HM.out (heap_setCell_same _ _ 5 _ _ (.int .i64 a) HM.out)

set_option maxHeartbeats 1000000 in
set_option maxRecDepth 100000 in
theorem impl_change8 (x : St) (g : Nat) (a b c p n : Int) (w : World) (h : MAt w g x) : Calls Tryd.prog 107 #[.pointer (some ⟨g, 0, none⟩), tokV ⟨8, a, b, c, p, n⟩] w (ChDone (calm x ⟨8, a, b, c, p, n⟩) g w) := by
  have HE : Hid (calm x ⟨8, a, b, c, p, n⟩ = ⟨x, -1, 13⟩) := Lib.hid rfl
  have B0 := Lib.hid (below_one w (.cells #[.int .i64 8, .int .i64 a, .int .i64 b, .int .i64 c, .int .i64 p, .int .i64 n] 38))
  have HM := Lib.hid h
  have HM0 := Lib.hid (h.keep B0.out)
  have hg : g < w.heap.size := h.lt
  clear h
  unfold tokV
  go_enter Tryd.func107, Tryd.ntmps107
  go_wp2
  go_ret
  exact chDone_none HE.out HM.out B0.out

set_option maxHeartbeats 1000000 in
set_option maxRecDepth 100000 in
theorem impl_change9 (x : St) (g : Nat) (a b c p n : Int) (w : World) (h : MAt w g x) : Calls Tryd.prog 107 #[.pointer (some ⟨g, 0, none⟩), tokV ⟨9, a, b, c, p, n⟩] w (ChDone (calm x ⟨9, a, b, c, p, n⟩) g w) := by
  have HE : Hid (calm x ⟨9, a, b, c, p, n⟩ = ⟨x, -1, 10⟩) := Lib.hid rfl
  have B0 := Lib.hid (below_one w (.cells #[.int .i64 9, .int .i64 a, .int .i64 b, .int .i64 c, .int .i64 p, .int .i64 n] 38))
  have HM := Lib.hid h
  have HM0 := Lib.hid (h.keep B0.out)
  have hg : g < w.heap.size := h.lt
  clear h
  unfold tokV
  go_enter Tryd.func107, Tryd.ntmps107
  go_wp2
  go_ret
  exact chDone_none HE.out HM.out B0.out

set_option maxHeartbeats 1000000 in
set_option maxRecDepth 100000 in
theorem impl_change7 (x : St) (g : Nat) (a b c p n : Int) (w : World) (h : MAt w g x) (ht : TabM w) (a0 : 0 ≤ a) (a3 : a ≤ 3) (b1 : 1 ≤ b) (b3 : b ≤ 3) : Calls Tryd.prog 107 #[.pointer (some ⟨g, 0, none⟩), tokV ⟨7, a, b, c, p, n⟩] w (ChDone (calm x ⟨7, a, b, c, p, n⟩) g w) := by
  have HF := Lib.hid (fun w ht => impl_FindSet b c w ht)
  have hb : inB b 1 3 = true := inB_of b1 b3
  have B0 := Lib.hid (below_one w (.cells #[.int .i64 7, .int .i64 a, .int .i64 b, .int .i64 c, .int .i64 p, .int .i64 n] 38))
  have HM := Lib.hid h
  have HM0 := Lib.hid (h.keep B0.out)
  have hg : g < w.heap.size := h.lt
  clear h
  unfold tokV
  have HT := Lib.hid (ht.keep B0.out)
  clear ht
  by_cases hf : findNo b c = 0
  · have HE : Hid (calm x ⟨7, a, b, c, p, n⟩ = ⟨x, -1, 10⟩) := Lib.hid (by rw [calm, if_neg (by simp), if_neg (by simp), if_neg (by simp), if_neg (by simp), if_pos rfl, if_pos hf])
    have hc : fsC b c = 5 := by unfold fsC; rw [if_pos hb, if_pos hf]
    rw [fsV_bad _ _ _ hc (by decide)] at HF
    clear hf hb hc a0 a3 b1 b3
    go_enter Tryd.func107, Tryd.ntmps107
    go_wp2_with fail
    refine (HF.out _ HT.out.1).mono ?_
    rintro e w2 ⟨rfl, rfl⟩
    go_wp2
    go_ret
    exact chDone_none HE.out HM.out B0.out
  have HE : Hid (calm x ⟨7, a, b, c, p, n⟩ = ⟨stPut x a (findNo b c), -1, 0⟩) := Lib.hid (by rw [calm, if_neg (by simp), if_neg (by simp), if_neg (by simp), if_neg (by simp), if_pos rfl, if_neg hf])
  have hc : fsC b c = 0 := by unfold fsC; rw [if_pos hb, if_neg hf]
  rw [fsV_ok _ _ hc] at HF
  have : a = 0 ∨ a = 1 ∨ a = 2 ∨ a = 3 := by omega
  clear hf hb hc a0 a3 b1 b3
  have ⟨y0, y1, y2, y3, y4, y5, y6⟩ := HM0.out.cells
  have ⟨q0, q1, q2, q3, q4, q5, q6⟩ := HM0.out.thaw
  have ⟨m0, m1, m2, m3, m4, m5, m6⟩ := HM.out.cells
  have ⟨n0, n1, n2, n3, n4, n5, n6⟩ := HM.out.thaw
  rcases this with rfl | rfl | rfl | rfl
  · have HP2 : Hid (stPut x 0 (findNo b c) = ⟨findNo b c, x.g1, x.g2, x.g3, x.l, x.s, x.d⟩) := Lib.hid rfl
    generalize findNo b c = f at *
    go_enter Tryd.func107, Tryd.ntmps107
    go_wp2_with fail
    refine (HF.out _ HT.out.1).mono ?_
    rintro e w2 ⟨rfl, rfl⟩
    go_wp2
    go_region
    all_goals go_wp2
    all_goals go_ret
    all_goals exact (chDone_set (y := ⟨f, x.g1, x.g2, x.g3, x.l, x.s, x.d⟩) (HE.out.trans (by rw [HP2.out])) HM.out (heap_setCell_same _ _ 0 _ _ (.int .i64 f) HM.out)).drew
  · have HP2 : Hid (stPut x 1 (findNo b c) = ⟨x.g0, findNo b c, x.g2, x.g3, x.l, x.s, x.d⟩) := Lib.hid rfl
    generalize findNo b c = f at *
    go_enter Tryd.func107, Tryd.ntmps107
    go_wp2_with fail
    refine (HF.out _ HT.out.1).mono ?_
    rintro e w2 ⟨rfl, rfl⟩
    go_wp2
    go_region
    all_goals go_wp2
    all_goals go_ret
    all_goals exact (chDone_set (y := ⟨x.g0, f, x.g2, x.g3, x.l, x.s, x.d⟩) (HE.out.trans (by rw [HP2.out])) HM.out (heap_setCell_same _ _ 1 _ _ (.int .i64 f) HM.out)).drew
  · have HP2 : Hid (stPut x 2 (findNo b c) = ⟨x.g0, x.g1, findNo b c, x.g3, x.l, x.s, x.d⟩) := Lib.hid rfl
    generalize findNo b c = f at *
    go_enter Tryd.func107, Tryd.ntmps107
    go_wp2_with fail
    refine (HF.out _ HT.out.1).mono ?_
    rintro e w2 ⟨rfl, rfl⟩
    go_wp2
    go_region
    all_goals go_wp2
    all_goals go_ret
    all_goals exact (chDone_set (y := ⟨x.g0, x.g1, f, x.g3, x.l, x.s, x.d⟩) (HE.out.trans (by rw [HP2.out])) HM.out (heap_setCell_same _ _ 2 _ _ (.int .i64 f) HM.out)).drew
  · have HP2 : Hid (stPut x 3 (findNo b c) = ⟨x.g0, x.g1, x.g2, findNo b c, x.l, x.s, x.d⟩) := Lib.hid rfl
    generalize findNo b c = f at *
    go_enter Tryd.func107, Tryd.ntmps107
    go_wp2_with fail
    refine (HF.out _ HT.out.1).mono ?_
    rintro e w2 ⟨rfl, rfl⟩
    go_wp2
    go_region
    all_goals go_wp2
    all_goals go_ret
    all_goals exact (chDone_set (y := ⟨x.g0, x.g1, x.g2, f, x.l, x.s, x.d⟩) (HE.out.trans (by rw [HP2.out])) HM.out (heap_setCell_same _ _ 3 _ _ (.int .i64 f) HM.out)).drew


theorem impl_change (x : St) (t : Tok) (g : Nat) (w : World) (h : MAt w g x) (ht : TabM w) (hk : tokOKP t) (h5 : 5 ≤ t.k) : Calls Tryd.prog 107 #[.pointer (some ⟨g, 0, none⟩), tokV t] w (ChDone (calm x t) g w) := by
  obtain ⟨k, a, b, c, p, n⟩ := t
  have hk9 : k = 5 ∨ k = 6 ∨ k = 7 ∨ k = 8 ∨ k = 9 := by unfold tokOKP at hk; dsimp only at hk h5; omega
  rcases hk9 with rfl | rfl | rfl | rfl | rfl
  · exact impl_change5 x g a b c p n w h
  · exact impl_change6 x g a b c p n w h
  · have h4 : 0 ≤ a ∧ a ≤ 3 ∧ 1 ≤ b ∧ b ≤ 3 := by unfold tokOKP at hk; dsimp only at hk; omega
    exact impl_change7 x g a b c p n w h ht h4.1 h4.2.1 h4.2.2.1 h4.2.2.2
  · exact impl_change8 x g a b c p n w h
  · exact impl_change9 x g a b c p n w h


end Go.Proofs.YtjbikenhdgbacaaDoor

namespace Go.Proofs.YtjbikenhdgbacaaDoor
open Go.RowKit Go.Sort

set_option maxHeartbeats 1000000 in
set_option maxRecDepth 100000 in
theorem impl_step3 (x : St) (g : Nat) (a b c p n : Int) (w : World) (h : MAt w g x) (ht : TabM w) (hx : stOKB x = true) (a0 : 0 ≤ a) (a1 : a ≤ 255) : Calls Tryd.prog 57 #[.pointer (some ⟨g, 0, none⟩), tokV ⟨3, a, b, c, p, n⟩] w (MvDone (stepT x ⟨3, a, b, c, p, n⟩) g w) := by
  have B0 := Lib.hid (below_one w (.cells #[.int .i64 3, .int .i64 a, .int .i64 b, .int .i64 c, .int .i64 p, .int .i64 n] 38))
  have HM := Lib.hid h
  have HM0 := Lib.hid (h.keep B0.out)
  have HT0 := Lib.hid (ht.keep B0.out)
  have hg : g < w.heap.size := h.lt
  have HG := Lib.hid (fun w h ht => impl_take x g false a w h ht hx a0 a1)
  rw [show sideNo false = 0 from rfl] at HG
  have HE : Hid (stepT x ⟨3, a, b, c, p, n⟩ = graphic x a false) := Lib.hid rfl
  unfold MvDone mvV at HG
  generalize graphic x a false = q at *
  have HV : Hid (mvV q = .tuple #[.int .i64 (toldR q), .bool (toldB q), .int .i64 q.c]) := Lib.hid rfl
  generalize toldR q = tr at *
  generalize toldB q = tb at *
  clear h ht hx
  unfold tokV
  go_enter Tryd.func57, Tryd.ntmps57
  go_wp2_with fail
  refine (HG.out _ HM0.out HT0.out).mono ?_
  rintro e w2 ⟨rfl, m2, o2⟩
  go_wp2
  go_ret3
  refine MvDone.from ⟨?_, ?_, o2⟩ hg B0.out
  · rw [HE.out, HV.out]; rfl
  · rw [HE.out]; exact m2

set_option maxHeartbeats 1000000 in
set_option maxRecDepth 100000 in
theorem impl_step4 (x : St) (g : Nat) (a b c p n : Int) (w : World) (h : MAt w g x) (ht : TabM w) (hx : stOKB x = true) (a0 : 0 ≤ a) (a1 : a ≤ 255) : Calls Tryd.prog 57 #[.pointer (some ⟨g, 0, none⟩), tokV ⟨4, a, b, c, p, n⟩] w (MvDone (stepT x ⟨4, a, b, c, p, n⟩) g w) := by
  have B0 := Lib.hid (below_one w (.cells #[.int .i64 4, .int .i64 a, .int .i64 b, .int .i64 c, .int .i64 p, .int .i64 n] 38))
  have HM := Lib.hid h
  have HM0 := Lib.hid (h.keep B0.out)
  have HT0 := Lib.hid (ht.keep B0.out)
  have hg : g < w.heap.size := h.lt
  have HG := Lib.hid (fun w h ht => impl_take x g true a w h ht hx a0 a1)
  rw [show sideNo true = 128 from rfl] at HG
  have HE : Hid (stepT x ⟨4, a, b, c, p, n⟩ = graphic x a true) := Lib.hid rfl
  unfold MvDone mvV at HG
  generalize graphic x a true = q at *
  have HV : Hid (mvV q = .tuple #[.int .i64 (toldR q), .bool (toldB q), .int .i64 q.c]) := Lib.hid rfl
  generalize toldR q = tr at *
  generalize toldB q = tb at *
  clear h ht hx
  unfold tokV
  go_enter Tryd.func57, Tryd.ntmps57
  go_wp2_with fail
  refine (HG.out _ HM0.out HT0.out).mono ?_
  rintro e w2 ⟨rfl, m2, o2⟩
  go_wp2
  go_ret3
  refine MvDone.from ⟨?_, ?_, o2⟩ hg B0.out
  · rw [HE.out, HV.out]; rfl
  · rw [HE.out]; exact m2

set_option maxHeartbeats 1000000 in
set_option maxRecDepth 100000 in
theorem impl_step2 (x : St) (g : Nat) (a b c p n : Int) (w : World) (h : MAt w g x) (ht : TabM w) (hx : stOKB x = true) : Calls Tryd.prog 57 #[.pointer (some ⟨g, 0, none⟩), tokV ⟨2, a, b, c, p, n⟩] w (MvDone (stepT x ⟨2, a, b, c, p, n⟩) g w) := by
  have B0 := Lib.hid (below_one w (.cells #[.int .i64 2, .int .i64 a, .int .i64 b, .int .i64 c, .int .i64 p, .int .i64 n] 38))
  have HM := Lib.hid h
  have HM0 := Lib.hid (h.keep B0.out)
  have HT0 := Lib.hid (ht.keep B0.out)
  have hg : g < w.heap.size := h.lt
  have HG := Lib.hid (fun w h ht => impl_space x g w h ht hx)
  have HE : Hid (stepT x ⟨2, a, b, c, p, n⟩ = spaceP x) := Lib.hid (space_eq hx _ rfl)
  unfold MvDone mvV at HG
  generalize spaceP x = q at *
  have HV : Hid (mvV q = .tuple #[.int .i64 (toldR q), .bool (toldB q), .int .i64 q.c]) := Lib.hid rfl
  generalize toldR q = tr at *
  generalize toldB q = tb at *
  clear h ht hx
  unfold tokV
  go_enter Tryd.func57, Tryd.ntmps57
  go_wp2_with fail
  refine (HG.out _ HM0.out HT0.out).mono ?_
  rintro e w2 ⟨rfl, m2, o2⟩
  go_wp2
  go_ret3
  refine MvDone.from ⟨?_, ?_, o2⟩ hg B0.out
  · rw [HE.out, HV.out]; rfl
  · rw [HE.out]; exact m2

set_option maxHeartbeats 1000000 in
set_option maxRecDepth 100000 in
theorem impl_stepP (x : St) (g : Nat) (k a b c p n : Int) (w : World) (h : MAt w g x) (ht : TabM w) (hx : stOKB x = true) (hp : pendB x = true) (h2 : k ≠ 2) (h3 : k ≠ 3) (h4 : k ≠ 4) : Calls Tryd.prog 57 #[.pointer (some ⟨g, 0, none⟩), tokV ⟨k, a, b, c, p, n⟩] w (MvDone (stepT x ⟨k, a, b, c, p, n⟩) g w) := by
  have B0 := Lib.hid (below_one w (.cells #[.int .i64 k, .int .i64 a, .int .i64 b, .int .i64 c, .int .i64 p, .int .i64 n] 38))
  have HM := Lib.hid h
  have HM0 := Lib.hid (h.keep B0.out)
  have HT0 := Lib.hid (ht.keep B0.out)
  have hg : g < w.heap.size := h.lt
  have HP := Lib.hid (fun w h => impl_pending x g w h)
  rw [pend_eq hx, hp] at HP
  have HE : Hid (stepT x ⟨k, a, b, c, p, n⟩ = ⟨x, -1, 13⟩) := Lib.hid (by rw [stepT, if_neg h3, if_neg h4, if_pos hp, if_neg (fun h => h2 h.1)])
  have e2 : (k == 2) = false := by rw [beq_eq_false_iff_ne]; exact h2
  have e3 : (k == 3) = false := by rw [beq_eq_false_iff_ne]; exact h3
  have e4 : (k == 4) = false := by rw [beq_eq_false_iff_ne]; exact h4
  clear hp h2 h3 h4
  clear h ht hx
  unfold tokV
  go_enter Tryd.func57, Tryd.ntmps57
  go_wp2_with fail
  refine (HP.out _ HM0.out).mono ?_
  rintro e w2 ⟨rfl, rfl⟩
  go_wp2
  go_ret3
  exact mvDone_none HE.out HM.out B0.out

set_option maxHeartbeats 1000000 in
set_option maxRecDepth 100000 in
theorem impl_step1 (x : St) (g : Nat) (a b c p n : Int) (w : World) (h : MAt w g x) (ht : TabM w) (hx : stOKB x = true) (hp : pendB x = false) (ha : 0 ≤ a) : Calls Tryd.prog 57 #[.pointer (some ⟨g, 0, none⟩), tokV ⟨1, a, b, c, p, n⟩] w (MvDone (stepT x ⟨1, a, b, c, p, n⟩) g w) := by
  have B0 := Lib.hid (below_one w (.cells #[.int .i64 1, .int .i64 a, .int .i64 b, .int .i64 c, .int .i64 p, .int .i64 n] 38))
  have HM := Lib.hid h
  have HM0 := Lib.hid (h.keep B0.out)
  have HT0 := Lib.hid (ht.keep B0.out)
  have hg : g < w.heap.size := h.lt
  have HP := Lib.hid (fun w h => impl_pending x g w h)
  rw [pend_eq hx, hp] at HP
  have HC := Lib.hid (fun w => impl_control a w)
  clear h ht hx
  unfold tokV
  by_cases h1 : 127 < a
  · have HE : Hid (stepT x ⟨1, a, b, c, p, n⟩ = ⟨x, -1, 10⟩) := Lib.hid (by rw [stepT, if_neg (by simp), if_neg (by simp), if_neg (by rw [hp]; decide), calm, if_pos rfl, if_pos h1])
    rw [if_pos h1] at HC
    clear hp h1
    go_enter Tryd.func57, Tryd.ntmps57
    go_wp2_with fail
    refine (HP.out _ HM0.out).mono ?_
    rintro e w2 ⟨rfl, rfl⟩
    go_wp2_with fail
    refine (HC.out _).mono ?_
    rintro e w2 ⟨rfl, rfl⟩
    go_wp2
    go_ret3
    exact mvDone_none HE.out HM.out B0.out
  · have HE : Hid (stepT x ⟨1, a, b, c, p, n⟩ = ⟨x, a, 0⟩) := Lib.hid (by rw [stepT, if_neg (by simp), if_neg (by simp), if_neg (by rw [hp]; decide), calm, if_pos rfl, if_neg h1])
    rw [if_neg h1] at HC
    clear hp h1
    go_enter Tryd.func57, Tryd.ntmps57
    go_wp2_with fail
    refine (HP.out _ HM0.out).mono ?_
    rintro e w2 ⟨rfl, rfl⟩
    go_wp2_with fail
    refine (HC.out _).mono ?_
    rintro e w2 ⟨rfl, rfl⟩
    go_wp2
    go_ret3
    exact mvDone_same HE.out ha HM.out B0.out

/-- What changes the machine tells no character. -/
theorem calm_none {x : St} {t : Tok} (h : 5 ≤ t.k) : (calm x t).r = -1 := by
  unfold calm
  rw [if_neg (by omega), if_neg (by omega)]
  repeat' split
  all_goals rfl
theorem MvDone.ofCh {q : Stp} {g : Nat} {w w' : World} {c : Int} (hr : q.r = -1) (hc : c = q.c) (hm : MAt w' g q.y) (ho : Only g w w') : MvDone q g w (.returned (.tuple #[.int .i64 0, .bool false, .int .i64 c])) w' :=
  ⟨by rw [hc]; unfold mvV toldR toldB; rw [hr]; rfl, hm, ho⟩

set_option maxHeartbeats 1000000 in
set_option maxRecDepth 100000 in
theorem impl_step5 (x : St) (g : Nat) (k a b c p n : Int) (w : World) (h : MAt w g x) (ht : TabM w) (hx : stOKB x = true) (hp : pendB x = false) (hk : tokOKP ⟨k, a, b, c, p, n⟩) (h5 : 5 ≤ k) : Calls Tryd.prog 57 #[.pointer (some ⟨g, 0, none⟩), tokV ⟨k, a, b, c, p, n⟩] w (MvDone (stepT x ⟨k, a, b, c, p, n⟩) g w) := by
  have B0 := Lib.hid (below_one w (.cells #[.int .i64 k, .int .i64 a, .int .i64 b, .int .i64 c, .int .i64 p, .int .i64 n] 38))
  have HM := Lib.hid h
  have HM0 := Lib.hid (h.keep B0.out)
  have HT0 := Lib.hid (ht.keep B0.out)
  have hg : g < w.heap.size := h.lt
  have HP := Lib.hid (fun w h => impl_pending x g w h)
  rw [pend_eq hx, hp] at HP
  have HC := Lib.hid (fun w h ht => impl_change x ⟨k, a, b, c, p, n⟩ g w h ht hk h5)
  have HE : Hid (stepT x ⟨k, a, b, c, p, n⟩ = calm x ⟨k, a, b, c, p, n⟩) := Lib.hid (by rw [stepT, if_neg (show ¬ k = 3 by omega), if_neg (show ¬ k = 4 by omega), if_neg (by rw [hp]; decide)])
  have HN := Lib.hid (calm_none (x := x) (t := ⟨k, a, b, c, p, n⟩) h5)
  unfold ChDone tokV at HC
  generalize calm x ⟨k, a, b, c, p, n⟩ = q at *
  have e1 : (k == 1) = false := by rw [beq_eq_false_iff_ne]; omega
  have e2 : (k == 2) = false := by rw [beq_eq_false_iff_ne]; omega
  have e3 : (k == 3) = false := by rw [beq_eq_false_iff_ne]; omega
  have e4 : (k == 4) = false := by rw [beq_eq_false_iff_ne]; omega
  clear hp hk h5
  clear h ht hx
  unfold tokV
  go_enter Tryd.func57, Tryd.ntmps57
  go_wp2_with fail
  refine (HP.out _ HM0.out).mono ?_
  rintro e w2 ⟨rfl, rfl⟩
  go_wp2_with fail
  refine (HC.out _ HM0.out HT0.out).mono ?_
  rintro e w2 ⟨rfl, m2, o2⟩
  go_wp2
  go_ret3
  rw [HE.out]
  exact MvDone.ofCh HN.out rfl m2 ((only_below hg B0.out).trans o2)

theorem impl_step (x : St) (t : Tok) (g : Nat) (w : World) (h : MAt w g x) (ht : TabM w) (hx : stOKB x = true) (hk : tokOKP t) : Calls Tryd.prog 57 #[.pointer (some ⟨g, 0, none⟩), tokV t] w (MvDone (stepT x t) g w) := by
  obtain ⟨k, a, b, c, p, n⟩ := t
  have hk9 : 1 ≤ k ∧ k ≤ 9 := by unfold tokOKP at hk; dsimp only at hk; omega
  by_cases h3 : k = 3
  · subst h3
    have ha : 0 ≤ a ∧ a ≤ 255 := by unfold tokOKP at hk; dsimp only at hk; omega
    exact impl_step3 x g a b c p n w h ht hx ha.1 ha.2
  by_cases h4 : k = 4
  · subst h4
    have ha : 0 ≤ a ∧ a ≤ 255 := by unfold tokOKP at hk; dsimp only at hk; omega
    exact impl_step4 x g a b c p n w h ht hx ha.1 ha.2
  by_cases h2 : k = 2
  · subst h2
    exact impl_step2 x g a b c p n w h ht hx
  cases hp : pendB x
  · by_cases h1 : k = 1
    · subst h1
      have ha : 0 ≤ a := by unfold tokOKP at hk; dsimp only at hk; omega
      exact impl_step1 x g a b c p n w h ht hx hp ha
    · exact impl_step5 x g k a b c p n w h ht hx hp hk (by omega)
  · exact impl_stepP x g k a b c p n w h ht hx hp h2 h3 h4

end Go.Proofs.YtjbikenhdgbacaaDoor

namespace Go.Proofs.YtjbikenhdgbacaaDoor
open Go.RowKit Go.Sort

set_option maxHeartbeats 400000 in
theorem impl_namesSet (t : Tok) (w : World) (ht : TabSets w) (hb : 1 ≤ t.b) (hb3 : t.b ≤ 3) : Calls Tryd.prog 148 #[tokV t] w fun e w' => e = .returned (.bool (decide (findNo t.b t.c ≠ 0))) ∧ Below w.heap.size w w' := by
  have B0 := Lib.hid (below_one w (.cells #[.int .i64 t.k, .int .i64 t.a, .int .i64 t.b, .int .i64 t.c, .int .i64 t.p, .int .i64 t.n] 38))
  have HF := Lib.hid (impl_FindSet t.b t.c (w.alloc (.cells #[.int .i64 t.k, .int .i64 t.a, .int .i64 t.b, .int .i64 t.c, .int .i64 t.p, .int .i64 t.n] 38)) (ht.keep B0.out))
  have hi : inB t.b 1 3 = true := by simp [inB]; omega
  clear ht
  unfold tokV
  by_cases hf : findNo t.b t.c = 0
  · have HE : Hid (decide (findNo t.b t.c ≠ 0) = false) := Lib.hid (by simp [hf])
    rw [fsV_bad t.b t.c 5 (by simp [fsC, hi, hf]) (by decide)] at HF
    generalize decide (findNo t.b t.c ≠ 0) = q at *
    clear hf hi
    go_enter Tryd.func148, Tryd.ntmps148
    go_wp2_with fail
    refine HF.out.mono ?_
    rintro e w1 ⟨rfl, rfl⟩
    go_wp2
    go_ret
    exact ⟨ret_bool HE.out.symm, B0.out⟩
  · have HE : Hid (decide (findNo t.b t.c ≠ 0) = true) := Lib.hid (by simp [hf])
    rw [fsV_ok t.b t.c (by simp [fsC, hi, hf])] at HF
    generalize decide (findNo t.b t.c ≠ 0) = q at *
    generalize findNo t.b t.c = fn at *
    clear hf hi
    go_enter Tryd.func148, Tryd.ntmps148
    go_wp2_with fail
    refine HF.out.mono ?_
    rintro e w1 ⟨rfl, rfl⟩
    go_wp2
    go_ret
    exact ⟨ret_bool HE.out.symm, B0.out⟩

set_option maxHeartbeats 400000 in
theorem impl_endsLine (t : Tok) (w : World) : Calls Tryd.prog 126 #[tokV t] w fun e w' => e = .returned (.bool (decide (t.k = 1) && decide (t.a = 10))) ∧ Below w.heap.size w w' := by
  have B0 := Lib.hid (below_one w (.cells #[.int .i64 t.k, .int .i64 t.a, .int .i64 t.b, .int .i64 t.c, .int .i64 t.p, .int .i64 t.n] 38))
  unfold tokV
  by_cases h1 : t.k = 1
  · have HE : Hid ((t.a == 10) = (decide (t.k = 1) && decide (t.a = 10))) := Lib.hid (by rw [decide_eq_true h1]; rfl)
    have e1 : (t.k == 1) = true := by simp [h1]
    generalize (decide (t.k = 1) && decide (t.a = 10)) = q at *
    clear h1
    go_enter Tryd.func126, Tryd.ntmps126
    go_wp2
    go_ret
    exact ⟨ret_bool HE.out, B0.out⟩
  · have HE : Hid (false = (decide (t.k = 1) && decide (t.a = 10))) := Lib.hid (by rw [decide_eq_false h1]; rfl)
    have e1 : (t.k == 1) = false := by simp [h1]
    generalize (decide (t.k = 1) && decide (t.a = 10)) = q at *
    clear h1
    go_enter Tryd.func126, Tryd.ntmps126
    go_wp2
    go_ret
    exact ⟨ret_bool HE.out, B0.out⟩

/-- The code of a token that is refused whatever the state is. -/
def refC (n : Int) (t : Tok) : Int := if t.k = 8 then 13 else if t.k = 9 ∨ (t.k = 7 ∧ findNo t.b t.c = 0) then 10 else if allowB n t = false then 11 else 0
def RfDone (n : Int) (t : Tok) (g C : Nat) (w : World) (e : Ending) (w' : World) : Prop := e = .returned (.int .i64 (refC n t)) ∧ GuOK w' g n C ∧ Only g w w'

set_option maxHeartbeats 1000000 in
theorem impl_refusal (n : Int) (t : Tok) (g C : Nat) (w : World) (h : GuOK w g n C) (hg : g < C) (hC : C ≤ w.heap.size) (ht : ∀ W, Only g w W → TabSets W) (hn : proB n = true) (hk : tokOKP t) :
    Calls Tryd.prog 125 #[.pointer (some ⟨g, 0, none⟩), tokV t] w (RfDone n t g C w) := by
  have B0 := Lib.hid (below_one w (.cells #[.int .i64 t.k, .int .i64 t.a, .int .i64 t.b, .int .i64 t.c, .int .i64 t.p, .int .i64 t.n] 38))
  have K0 : Hid (TokAt (w.alloc (.cells #[.int .i64 t.k, .int .i64 t.a, .int .i64 t.b, .int .i64 t.c, .int .i64 t.p, .int .i64 t.n] 38)) w.heap.size t) := Lib.hid (heap_alloc_new _ _)
  have hgl : g < w.heap.size := by omega
  have O0 : Hid (Only g w (w.alloc (.cells #[.int .i64 t.k, .int .i64 t.a, .int .i64 t.b, .int .i64 t.c, .int .i64 t.p, .int .i64 t.n] 38))) := Lib.hid (only_below hgl B0.out)
  have G0 := Lib.hid (h.keep B0.out)
  have hC0 : C ≤ (w.alloc (.cells #[.int .i64 t.k, .int .i64 t.a, .int .i64 t.b, .int .i64 t.c, .int .i64 t.p, .int .i64 t.n] 38)).heap.size := by simp; omega
  have HA := Lib.hid (fun W (hG : GuOK W g n C) (hCW : C ≤ W.heap.size) (hT : ∀ W', Only g W W' → TabSets W') => impl_allows n t g C W hG hg hCW hT hn hk)
  unfold GaDone at HA
  have HT := Lib.hid ht
  clear ht h hn
  unfold tokV at HA ⊢
  by_cases h8 : t.k = 8
  · have HE : Hid (refC n t = 13) := Lib.hid (by simp [refC, h8])
    have e8 : (t.k == 8) = true := by simp [h8]
    clear h8
    go_enter Tryd.func125, Tryd.ntmps125
    go_wp2
    go_ret
    exact ⟨ret_int HE.out.symm, G0.out, O0.out⟩
  have e8 : (t.k == 8) = false := by simp [h8]
  by_cases h9 : t.k = 9
  · have HE : Hid (refC n t = 10) := Lib.hid (by simp [refC, h9])
    have e9 : (t.k == 9) = true := by simp [h9]
    clear h8 h9
    go_enter Tryd.func125, Tryd.ntmps125
    go_wp2
    go_ret
    exact ⟨ret_int HE.out.symm, G0.out, O0.out⟩
  have e9 : (t.k == 9) = false := by simp [h9]
  by_cases h7 : t.k = 7
  · have e7 : (t.k == 7) = true := by simp [h7]
    have hb : 1 ≤ t.b ∧ t.b ≤ 3 := by
      obtain ⟨_, hk⟩ := hk
      omega
    have HNs := Lib.hid (fun W hT => impl_namesSet t W hT hb.1 hb.2)
    unfold tokV at HNs
    have HR : Hid (refC n t = if findNo t.b t.c = 0 then 10 else if allowB n t = false then 11 else 0) := Lib.hid (by
      unfold refC
      rw [if_neg h8]
      by_cases hf : findNo t.b t.c = 0
      · rw [if_pos (.inr ⟨h7, hf⟩), if_pos hf]
      · rw [if_neg (by rintro (h | ⟨_, h⟩); exact h9 h; exact hf h), if_neg hf])
    clear h8 h9 h7 hb hk
    have ⟨t0, t1, t2, t3, t4, t5⟩ := K0.out.cells
    by_cases hf : findNo t.b t.c = 0
    · have HE : Hid (refC n t = 10) := Lib.hid (by rw [HR.out, if_pos hf])
      rw [show decide (findNo t.b t.c ≠ 0) = false by simp [hf]] at HNs
      clear hf HR
      go_enter Tryd.func125, Tryd.ntmps125
      go_wp2_with fail
      refine (HNs.out _ (HT.out _ O0.out)).mono ?_
      generalize w.alloc (.cells #[.int .i64 t.k, .int .i64 t.a, .int .i64 t.b, .int .i64 t.c, .int .i64 t.p, .int .i64 t.n] 38) = W0 at *
      rintro e w1 ⟨rfl, b1⟩
      have O1 : Hid (Only g w w1) := Lib.hid (O0.out.trans (only_below (by omega) b1))
      have G1 := Lib.hid (G0.out.keep b1)
      clear b1 t0 t1 t2 t3 t4 t5
      go_wp2
      go_ret
      exact ⟨ret_int HE.out.symm, G1.out, O1.out⟩
    · rw [if_neg hf] at HR
      rw [show decide (findNo t.b t.c ≠ 0) = true by simp [hf]] at HNs
      clear hf
      generalize allowB n t = al at *
      go_enter Tryd.func125, Tryd.ntmps125
      go_wp2_with fail
      refine (HNs.out _ (HT.out _ O0.out)).mono ?_
      generalize w.alloc (.cells #[.int .i64 t.k, .int .i64 t.a, .int .i64 t.b, .int .i64 t.c, .int .i64 t.p, .int .i64 t.n] 38) = W0 at *
      clear t0 t1 t2 t3 t4 t5
      rintro e w1 ⟨rfl, b1⟩
      have hC1 : C ≤ w1.heap.size := Nat.le_trans hC0 b1.size
      have O1 : Hid (Only g w w1) := Lib.hid (O0.out.trans (only_below (by omega) b1))
      have G1 := Lib.hid (G0.out.keep b1)
      have K1 := Lib.hid (K0.out.keep b1)
      clear b1
      have ⟨t0, t1, t2, t3, t4, t5⟩ := K1.out.cells
      go_wp2_with fail
      refine (HA.out _ G1.out hC1 (fun W' o => HT.out W' (O1.out.trans o))).mono ?_
      clear t0 t1 t2 t3 t4 t5
      rintro e w2 ⟨rfl, hG2, o2⟩
      have HD : Hid (GuOK w2 g n C ∧ Only g w w2) := Lib.hid ⟨hG2, O1.out.trans o2⟩
      clear hG2 o2
      cases al
      · have HE : Hid (refC n t = 11) := Lib.hid (by rw [HR.out]; rfl)
        go_wp2
        go_ret
        exact ⟨ret_int HE.out.symm, HD.out⟩
      · have HE : Hid (refC n t = 0) := Lib.hid (by rw [HR.out]; rfl)
        go_wp2
        go_ret
        exact ⟨ret_int HE.out.symm, HD.out⟩
  · have e7 : (t.k == 7) = false := by simp [h7]
    have HR : Hid (refC n t = if allowB n t = false then 11 else 0) := Lib.hid (by
      unfold refC
      rw [if_neg h8, if_neg (by rintro (h | ⟨h, _⟩); exact h9 h; exact h7 h)])
    clear h8 h9 h7 hk
    have ⟨t0, t1, t2, t3, t4, t5⟩ := K0.out.cells
    generalize allowB n t = al at *
    go_enter Tryd.func125, Tryd.ntmps125
    go_wp2_with fail
    refine (HA.out _ G0.out hC0 (fun W' o => HT.out W' (O0.out.trans o))).mono ?_
    generalize w.alloc (.cells #[.int .i64 t.k, .int .i64 t.a, .int .i64 t.b, .int .i64 t.c, .int .i64 t.p, .int .i64 t.n] 38) = W0 at *
    clear t0 t1 t2 t3 t4 t5
    rintro e w2 ⟨rfl, hG2, o2⟩
    have HD : Hid (GuOK w2 g n C ∧ Only g w w2) := Lib.hid ⟨hG2, O0.out.trans o2⟩
    clear hG2 o2
    cases al
    · have HE : Hid (refC n t = 11) := Lib.hid (by rw [HR.out]; rfl)
      go_wp2
      go_ret
      exact ⟨ret_int HE.out.symm, HD.out⟩
    · have HE : Hid (refC n t = 0) := Lib.hid (by rw [HR.out]; rfl)
      go_wp2
      go_ret
      exact ⟨ret_int HE.out.symm, HD.out⟩

end Go.Proofs.YtjbikenhdgbacaaDoor

namespace Go.Proofs.YtjbikenhdgbacaaDoor
open Go.RowKit Go.Sort

/-- Only the blocks b and g may have changed. -/
def Only2 (b g : Nat) (w w' : World) : Prop := (∀ B, B ≤ b → B ≤ g → Below B w w') ∧ ∀ i, i ≠ b → i ≠ g → i < w.heap.size → w'.heap[i]? = w.heap[i]?
theorem Only2.refl (b g : Nat) (w : World) : Only2 b g w w := ⟨fun _ _ _ => Below.refl _ _, fun _ _ _ _ => rfl⟩
theorem Only.two_right {b g : Nat} {w w' : World} (h : Only g w w') : Only2 b g w w' := ⟨fun _ _ hB => h.1.mono hB, fun i _ hg hl => h.2 i hg hl⟩
theorem Only.two_left {b g : Nat} {w w' : World} (h : Only b w w') : Only2 b g w w' := ⟨fun _ hB _ => h.1.mono hB, fun i hb _ hl => h.2 i hb hl⟩
theorem Only2.size {b g : Nat} {w w' : World} (h : Only2 b g w w') : w.heap.size ≤ w'.heap.size := (h.1 0 (Nat.zero_le _) (Nat.zero_le _)).size
theorem Only2.trans {b g : Nat} {w w1 w2 : World} (h : Only2 b g w w1) (k : Only2 b g w1 w2) : Only2 b g w w2 :=
  ⟨fun B h1 h2 => (h.1 B h1 h2).trans (k.1 B h1 h2), fun i hb hg hl => by rw [k.2 i hb hg (Nat.lt_of_lt_of_le hl h.size), h.2 i hb hg hl]⟩

theorem stepT_ctl {x : St} {t : Tok} (h : t.k = 1) : (stepT x t).y = x := by
  unfold stepT calm
  rw [h]
  simp
  repeat' split
  all_goals rfl
def GsDone (n : Int) (x : St) (t : Tok) (b g C : Nat) (w : World) (e : Ending) (w' : World) : Prop := e = .returned (mvV (stepP n x t)) ∧ MAt w' b (stepP n x t).y ∧ GuOK w' g n C ∧ Only2 b g w w'
theorem gs_of {n : Int} {x : St} {t : Tok} {b g C : Nat} {w w' : World} {p : Stp} {v : Value} (hp : stepP n x t = p) (hv : mvV p = v) (hm : MAt w' b p.y) (hG : GuOK w' g n C) (ho : Only2 b g w w') : GsDone n x t b g C w (.returned v) w' := by
  subst hp
  exact ⟨by rw [hv], hm, hG, ho⟩
theorem stepP_ref {n : Int} {x : St} {t : Tok} (h : refC n t ≠ 0) : stepP n x t = ⟨x, -1, refC n t⟩ := by
  unfold refC at h ⊢
  unfold stepP
  repeat' split
  all_goals first | rfl | simp_all
theorem stepP_go {n : Int} {x : St} {t : Tok} (h : refC n t = 0) : stepP n x t = if (stepT x t).c ≠ 0 then ⟨x, -1, (stepT x t).c⟩ else
    if t.k = 1 ∧ t.a = 10 then (if restB n x = true then ⟨lineX n (stepT x t).y, (stepT x t).r, 0⟩ else ⟨x, -1, 14⟩) else ⟨(stepT x t).y, (stepT x t).r, 0⟩ := by
  unfold refC at h
  unfold stepP
  repeat' split at h
  all_goals simp_all
theorem GuOK.at {w : World} {g C : Nat} {n : Int} (h : GuOK w g n C) : ∃ m, GuAt w g n m := by
  obtain ⟨m, h1, _⟩ := h
  exact ⟨m, h1⟩

set_option maxHeartbeats 2000000 in
theorem impl_gstep (n : Int) (x : St) (t : Tok) (b g C : Nat) (w : World) (hm : MAt w b x) (h : GuOK w g n C) (hg : g < C) (hbC : b < C) (hne : b ≠ g) (hC : C ≤ w.heap.size) (ht : ∀ W, Only2 b g w W → TabM W) (hn : proB n = true) (hx : stOKB x = true) (hk : tokOKP t) :
    Calls Tryd.prog 93 #[.pointer (some ⟨g, 0, none⟩), .pointer (some ⟨b, 0, none⟩), tokV t] w (GsDone n x t b g C w) := by
  have B0 := Lib.hid (below_one w (.cells #[.int .i64 t.k, .int .i64 t.a, .int .i64 t.b, .int .i64 t.c, .int .i64 t.p, .int .i64 t.n] 38))
  have K0 : Hid (TokAt (w.alloc (.cells #[.int .i64 t.k, .int .i64 t.a, .int .i64 t.b, .int .i64 t.c, .int .i64 t.p, .int .i64 t.n] 38)) w.heap.size t) := Lib.hid (heap_alloc_new _ _)
  have hgl : g < w.heap.size := by omega
  have hbl : b < w.heap.size := by omega
  have O0 : Hid (Only2 b g w (w.alloc (.cells #[.int .i64 t.k, .int .i64 t.a, .int .i64 t.b, .int .i64 t.c, .int .i64 t.p, .int .i64 t.n] 38))) := Lib.hid (only_below hgl B0.out).two_right
  have G0 := Lib.hid (h.keep B0.out)
  have M0 := Lib.hid (hm.keep B0.out)
  have hC0 : C ≤ (w.alloc (.cells #[.int .i64 t.k, .int .i64 t.a, .int .i64 t.b, .int .i64 t.c, .int .i64 t.p, .int .i64 t.n] 38)).heap.size := by simp; omega
  have HT := Lib.hid ht
  have HRf := Lib.hid (fun W (hG : GuOK W g n C) (hCW : C ≤ W.heap.size) (hT : ∀ W', Only g W W' → TabSets W') => impl_refusal n t g C W hG hg hCW hT hn hk)
  have HSt := Lib.hid (fun W (hM : MAt W b x) (hT : TabM W) => impl_step x t b W hM hT hx hk)
  have HEn := Lib.hid (fun W => impl_endsLine t W)
  have HEl := Lib.hid (fun m W (hG : GuAt W g n m) (hM : MAt W b (stepT x t).y) => impl_endLine n (stepT x t).y m g b W hG hM (stepT_ok hx hk))
  have HCo := Lib.hid (fun hc => stepT_code (x := x) (t := t) hc)
  have HY1 := Lib.hid (fun h1 => stepT_ctl (x := x) (t := t) h1)
  have HPr := Lib.hid (fun h => stepP_ref (n := n) (x := x) (t := t) h)
  have HPg := Lib.hid (fun h => stepP_go (n := n) (x := x) (t := t) h)
  unfold RfDone at HRf
  unfold MvDone mvV at HSt
  unfold ElDone at HEl
  unfold tokV at HRf HSt HEn ⊢
  clear ht h hm hn hx hk
  have ⟨t0, t1, t2, t3, t4, t5⟩ := K0.out.cells
  go_enter Tryd.func93, Tryd.ntmps93
  go_wp2_with fail
  refine (HRf.out _ G0.out hC0 (fun W' o => (HT.out W' (O0.out.trans o.two_right)).1)).mono ?_
  generalize w.alloc (.cells #[.int .i64 t.k, .int .i64 t.a, .int .i64 t.b, .int .i64 t.c, .int .i64 t.p, .int .i64 t.n] 38) = W0 at *
  clear t0 t1 t2 t3 t4 t5
  rintro e w1 ⟨rfl, hG1, o1⟩
  have M1 : Hid (MAt w1 b x) := Lib.hid ((o1.2 b hne M0.out.lt).trans M0.out)
  have K1 : Hid (TokAt w1 w.heap.size t) := Lib.hid ((o1.2 _ (by omega) K0.out.lt).trans K0.out)
  have O1 : Hid (Only2 b g w w1) := Lib.hid (O0.out.trans o1.two_right)
  have G1 := Lib.hid hG1
  clear o1 hG1 M0 K0 G0 O0
  by_cases hr : refC n t = 0
  · have HP := Lib.hid (HPg.out hr)
    have er : (refC n t != 0) = false := by simp [hr]
    generalize refC n t = rc at *
    clear hr HPr HPg
    have ⟨t0, t1, t2, t3, t4, t5⟩ := K1.out.cells
    go_wp2_with fail
    refine (HSt.out _ M1.out (HT.out _ O1.out)).mono ?_
    clear t0 t1 t2 t3 t4 t5
    rintro e w2 ⟨rfl, hM2, o2⟩
    have M2 := Lib.hid hM2
    have K2 : Hid (TokAt w2 w.heap.size t) := Lib.hid ((o2.2 _ (by omega) K1.out.lt).trans K1.out)
    have O2 : Hid (Only2 b g w w2) := Lib.hid (O1.out.trans o2.two_left)
    have G2 := Lib.hid (G1.out.only o2 hbC (by omega))
    clear o2 hM2 M1 K1 O1 G1
    by_cases hc : (stepT x t).c = 0
    · have HP2 : Hid (stepP n x t = if t.k = 1 ∧ t.a = 10 then (if restB n x = true then ⟨lineX n (stepT x t).y, (stepT x t).r, 0⟩ else ⟨x, -1, 14⟩) else ⟨(stepT x t).y, (stepT x t).r, 0⟩) := Lib.hid (by rw [HP.out]; simp [hc])
      rw [hc]
      clear HP HCo
      have ⟨t0, t1, t2, t3, t4, t5⟩ := K2.out.cells
      go_wp2_with fail
      refine (HEn.out _).mono ?_
      clear t0 t1 t2 t3 t4 t5
      rintro e w3 ⟨rfl, b3⟩
      have M3 := Lib.hid (M2.out.keep b3)
      have G3 := Lib.hid (G2.out.keep b3)
      have O3 : Hid (Only2 b g w w3) := Lib.hid (O2.out.trans (only_below M2.out.lt b3).two_left)
      clear b3 M2 G2 O2 K2
      by_cases h1 : t.k = 1 ∧ t.a = 10
      · have hy := HY1.out h1.1
        rw [show (decide (t.k = 1) && decide (t.a = 10)) = true by simp [h1]]
        obtain ⟨m, hGm⟩ := G3.out.at
        rw [hy] at HEl M3
        by_cases hrs : restB n x = true
        · have HP3 : Hid (stepP n x t = ⟨lineX n x, (stepT x t).r, 0⟩) := Lib.hid (by rw [HP2.out, if_pos h1, if_pos hrs, hy])
          have hec : elC n x = 0 := by simp [elC, hrs]
          have hex : elX n x = lineX n x := by simp [elX, hrs]
          rw [hec, hex] at HEl
          clear h1 hy HY1 hec hex hrs HP2
          go_wp2_with fail
          refine (HEl.out m _ hGm M3.out).mono ?_
          rintro e w4 ⟨rfl, hM4, o4⟩
          have HD : Hid (GsDone n x t b g C w (.returned (.tuple #[.int .i64 (toldR (stepT x t)), .bool (toldB (stepT x t)), .int .i64 0])) w4) := Lib.hid (gs_of HP3.out rfl hM4 (G3.out.only o4 hbC (by omega)) (O3.out.trans o4.two_left))
          clear hM4 o4 hGm
          generalize toldR (stepT x t) = tr at *
          generalize toldB (stepT x t) = tb at *
          go_wp2
          go_ret3
          exact HD.out
        · have HP3 : Hid (stepP n x t = ⟨x, -1, 14⟩) := Lib.hid (by rw [HP2.out, if_pos h1, if_neg hrs])
          have hec : elC n x = 14 := by simp [elC, hrs]
          have hex : elX n x = x := by simp [elX, hrs]
          rw [hec, hex] at HEl
          clear h1 hy HY1 hec hex hrs HP2
          go_wp2_with fail
          refine (HEl.out m _ hGm M3.out).mono ?_
          rintro e w4 ⟨rfl, hM4, o4⟩
          have HD : Hid (GsDone n x t b g C w (.returned (.tuple #[.int .i64 0, .bool false, .int .i64 14])) w4) := Lib.hid (gs_of HP3.out rfl hM4 (G3.out.only o4 hbC (by omega)) (O3.out.trans o4.two_left))
          clear hM4 o4 hGm
          go_wp2
          go_ret3
          exact HD.out
      · rw [show (decide (t.k = 1) && decide (t.a = 10)) = false by
          cases hd : (decide (t.k = 1) && decide (t.a = 10))
          · rfl
          · rw [Bool.and_eq_true, decide_eq_true_eq, decide_eq_true_eq] at hd
            exact absurd hd h1]
        have HD : Hid (GsDone n x t b g C w (.returned (.tuple #[.int .i64 (toldR (stepT x t)), .bool (toldB (stepT x t)), .int .i64 0])) w3) := Lib.hid (gs_of (p := ⟨(stepT x t).y, (stepT x t).r, 0⟩) (by rw [HP2.out, if_neg h1]) rfl M3.out G3.out O3.out)
        clear h1 HY1 HP2 HEl M3
        generalize toldR (stepT x t) = tr at *
        generalize toldB (stepT x t) = tb at *
        go_wp2
        go_ret3
        exact HD.out
    · have ⟨hy, hrm⟩ := HCo.out hc
      have ec : ((stepT x t).c != 0) = true := by simp [hc]
      have HD : Hid (GsDone n x t b g C w (.returned (.tuple #[.int .i64 (toldR (stepT x t)), .bool (toldB (stepT x t)), .int .i64 (stepT x t).c])) w2) := Lib.hid (by
        refine gs_of (p := ⟨x, -1, (stepT x t).c⟩) (by rw [HP.out, if_pos hc]) ?_ ?_ G2.out O2.out
        · unfold mvV toldR toldB
          rw [hrm]
        · have := M2.out
          rw [hy] at this
          exact this)
      clear hy hrm HCo HP hc M2 HEl HY1
      generalize toldR (stepT x t) = tr at *
      generalize toldB (stepT x t) = tb at *
      generalize (stepT x t).c = cc at *
      go_wp2
      go_ret3
      exact HD.out
  · have HD : Hid (GsDone n x t b g C w (.returned (.tuple #[.int .i64 0, .bool false, .int .i64 (refC n t)])) w1) := Lib.hid (gs_of (HPr.out hr) rfl M1.out G1.out O1.out)
    have er : (refC n t != 0) = true := by simp [hr]
    generalize refC n t = rc at *
    clear hr HPr HPg
    go_wp2
    go_ret3
    exact HD.out

end Go.Proofs.YtjbikenhdgbacaaDoor

namespace Go.Proofs.YtjbikenhdgbacaaDoor
open Go.RowKit Go.Sort

set_option maxHeartbeats 1000000 in
set_option maxRecDepth 100000 in
theorem impl_StepProfile (n : Int) (x : St) (t : Tok) (w : World) (ht : TabM w) (hw : Wide64 x) : Calls Tryd.prog 50 #[.int .i64 n, stV x, tokV t] w (SpDone n x t w) := by
  have ⟨hB0, hT0, hS0, b0⟩ := step_blocks w x t
  have HB0 := Lib.hid hB0
  have HK0 := Lib.hid hT0
  have HS0 := Lib.hid hS0
  have B0 := Lib.hid b0
  clear hB0 hT0 hS0 b0
  have HF := Lib.hid (fun w => impl_machineOf x w)
  have HO := Lib.hid (fun b w h ht => impl_ok x b w h ht hw.1 hw.2)
  have HTK := Lib.hid (fun w => impl_tokenOK t w)
  have HST := Lib.hid (fun y b w h => impl_state y b w h)
  have HT := Lib.hid ht
  clear ht hw
  unfold StDone stV at HF HST
  unfold tokV at HTK ⊢
  unfold stV
  have HN := Lib.hid (fun w => impl_isProfile n w)
  cases hn : proB n
  · have HE : Hid (toldV (spP n x t) = .tuple #[stV zeroSt, .int .i64 0, .bool false, .int .i64 5]) := Lib.hid (told_bad (by rw [spP, if_neg (by rw [hn]; decide)]))
    rw [hn] at HN
    clear hn
    go_enter Tryd.func50, Tryd.ntmps50
    go_wp2_with fail
    refine (HN.out _).mono ?_
    rintro e wn ⟨rfl, rfl⟩
    go_wp2
    exact st_ret4 (y := zeroSt) (r := .int .i64 0) (m := .bool false) (c := .int .i64 5) rfl rfl rfl rfl rfl HS0.out Tryd.underlying24 rfl (by kernel_rfl) rfl ⟨by rw [HE.out], B0.out⟩
  have HN1 := Lib.hid hn
  have HGu := Lib.hid (fun w ht => impl_guideOf n w ht hn)
  unfold guV at HGu
  rw [hn] at HN
  clear hn
  cases ho : stOKB x
  · have HE : Hid (toldV (spP n x t) = .tuple #[stV zeroSt, .int .i64 0, .bool false, .int .i64 1]) := Lib.hid (told_bad (by rw [spP, if_pos HN1.out, if_neg (fun h => by rw [ho] at h; exact absurd h.1 (by decide))]))
    rw [ho] at HO
    go_enter Tryd.func50, Tryd.ntmps50
    go_wp2_with fail
    refine (HN.out _).mono ?_
    rintro e wn ⟨rfl, rfl⟩
    go_wp2_with fail
    refine (HF.out _).mono ?_
    generalize ((w.alloc (.cells #[.int .i64 x.g0, .int .i64 x.g1, .int .i64 x.g2, .int .i64 x.g3, .int .i64 x.l, .int .i64 x.s, .int .i64 x.d] 24)).alloc (.cells #[.int .i64 t.k, .int .i64 t.a, .int .i64 t.b, .int .i64 t.c, .int .i64 t.p, .int .i64 t.n] 38)).alloc (.cells #[.int .i64 0, .int .i64 0, .int .i64 0, .int .i64 0, .int .i64 0, .int .i64 0, .int .i64 0] 24) = W0 at *
    rintro e w1 ⟨rfl, b1⟩
    have B1 : Hid (Below w.heap.size w w1) := Lib.hid (B0.out.trans (b1.mono B0.out.size))
    have HB1 := Lib.hid ((HB0.out.keep b1).keep (below_one w1 (.cells #[.int .i64 x.g0, .int .i64 x.g1, .int .i64 x.g2, .int .i64 x.g3, .int .i64 x.l, .int .i64 x.s, .int .i64 x.d] 80)))
    have HK1 := Lib.hid ((HK0.out.keep b1).keep (below_one w1 (.cells #[.int .i64 x.g0, .int .i64 x.g1, .int .i64 x.g2, .int .i64 x.g3, .int .i64 x.l, .int .i64 x.s, .int .i64 x.d] 80)))
    have HS1 := Lib.hid ((HS0.out.keep b1).keep (below_one w1 (.cells #[.int .i64 x.g0, .int .i64 x.g1, .int .i64 x.g2, .int .i64 x.g3, .int .i64 x.l, .int .i64 x.s, .int .i64 x.d] 80)))
    have hw1 : w.heap.size + 2 < w1.heap.size := (HS0.out.keep b1).lt
    have B2 : Hid (Below w.heap.size w (w1.alloc (.cells #[.int .i64 x.g0, .int .i64 x.g1, .int .i64 x.g2, .int .i64 x.g3, .int .i64 x.l, .int .i64 x.s, .int .i64 x.d] 80))) := Lib.hid (B1.out.alloc B1.out.size _)
    have HM := Lib.hid (MAt.new w1 x)
    have HT2 := Lib.hid (HT.out.keep B2.out)
    clear b1 HB0 HK0 HS0 B0
    go_wp2_with fail
    refine (HO.out w1.heap.size _ HM.out HT2.out).mono ?_
    generalize w1.alloc (.cells #[.int .i64 x.g0, .int .i64 x.g1, .int .i64 x.g2, .int .i64 x.g3, .int .i64 x.l, .int .i64 x.s, .int .i64 x.d] 80) = W1 at *
    rintro e W2 ⟨rfl, b2⟩
    have B3 : Hid (Below w.heap.size w W2) := Lib.hid (B2.out.trans (b2.mono B2.out.size))
    have HK3 := Lib.hid (HK1.out.keep b2)
    have HS3 := Lib.hid (HS1.out.keep b2)
    have HM3 := Lib.hid (HM.out.keep b2)
    have HT3 := Lib.hid (HT2.out.keep b2)
    have hb3 : w1.heap.size < W2.heap.size := HM3.out.lt
    clear b2 B2 HM HT2 HB1 HS1 HK1
    have ⟨r0, r1, r2, r3, r4, r5, r6⟩ := HS3.out.cells
    have ⟨z0, z1, z2, z3, z4, z5, z6⟩ := HS3.out.thaw
    simp only [zeroSt] at r0 r1 r2 r3 r4 r5 r6
    have hl : w.heap.size + 2 < W2.heap.size := HS3.out.lt
    go_wp2
    exact st_ret4 (y := zeroSt) (r := .int .i64 0) (m := .bool false) (c := .int .i64 1) rfl rfl rfl rfl rfl (HS3.out.put zeroSt) Tryd.underlying24 rfl (by kernel_rfl) rfl ⟨by rw [HE.out], below_putSt B3.out (by omega) zeroSt⟩
  rw [ho] at HO
  cases hk : tokOKB t
  · have HE : Hid (toldV (spP n x t) = .tuple #[stV zeroSt, .int .i64 0, .bool false, .int .i64 1]) := Lib.hid (told_bad (by rw [spP, if_pos HN1.out, if_neg (fun h => by rw [hk] at h; exact absurd h.2 (by decide))]))
    rw [hk] at HTK
    go_enter Tryd.func50, Tryd.ntmps50
    go_wp2_with fail
    refine (HN.out _).mono ?_
    rintro e wn ⟨rfl, rfl⟩
    go_wp2_with fail
    refine (HF.out _).mono ?_
    generalize ((w.alloc (.cells #[.int .i64 x.g0, .int .i64 x.g1, .int .i64 x.g2, .int .i64 x.g3, .int .i64 x.l, .int .i64 x.s, .int .i64 x.d] 24)).alloc (.cells #[.int .i64 t.k, .int .i64 t.a, .int .i64 t.b, .int .i64 t.c, .int .i64 t.p, .int .i64 t.n] 38)).alloc (.cells #[.int .i64 0, .int .i64 0, .int .i64 0, .int .i64 0, .int .i64 0, .int .i64 0, .int .i64 0] 24) = W0 at *
    rintro e w1 ⟨rfl, b1⟩
    have B1 : Hid (Below w.heap.size w w1) := Lib.hid (B0.out.trans (b1.mono B0.out.size))
    have HB1 := Lib.hid ((HB0.out.keep b1).keep (below_one w1 (.cells #[.int .i64 x.g0, .int .i64 x.g1, .int .i64 x.g2, .int .i64 x.g3, .int .i64 x.l, .int .i64 x.s, .int .i64 x.d] 80)))
    have HK1 := Lib.hid ((HK0.out.keep b1).keep (below_one w1 (.cells #[.int .i64 x.g0, .int .i64 x.g1, .int .i64 x.g2, .int .i64 x.g3, .int .i64 x.l, .int .i64 x.s, .int .i64 x.d] 80)))
    have HS1 := Lib.hid ((HS0.out.keep b1).keep (below_one w1 (.cells #[.int .i64 x.g0, .int .i64 x.g1, .int .i64 x.g2, .int .i64 x.g3, .int .i64 x.l, .int .i64 x.s, .int .i64 x.d] 80)))
    have hw1 : w.heap.size + 2 < w1.heap.size := (HS0.out.keep b1).lt
    have B2 : Hid (Below w.heap.size w (w1.alloc (.cells #[.int .i64 x.g0, .int .i64 x.g1, .int .i64 x.g2, .int .i64 x.g3, .int .i64 x.l, .int .i64 x.s, .int .i64 x.d] 80))) := Lib.hid (B1.out.alloc B1.out.size _)
    have HM := Lib.hid (MAt.new w1 x)
    have HT2 := Lib.hid (HT.out.keep B2.out)
    clear b1 HB0 HK0 HS0 B0
    go_wp2_with fail
    refine (HO.out w1.heap.size _ HM.out HT2.out).mono ?_
    generalize w1.alloc (.cells #[.int .i64 x.g0, .int .i64 x.g1, .int .i64 x.g2, .int .i64 x.g3, .int .i64 x.l, .int .i64 x.s, .int .i64 x.d] 80) = W1 at *
    rintro e W2 ⟨rfl, b2⟩
    have B3 : Hid (Below w.heap.size w W2) := Lib.hid (B2.out.trans (b2.mono B2.out.size))
    have HK3 := Lib.hid (HK1.out.keep b2)
    have HS3 := Lib.hid (HS1.out.keep b2)
    have HM3 := Lib.hid (HM.out.keep b2)
    have HT3 := Lib.hid (HT2.out.keep b2)
    have hb3 : w1.heap.size < W2.heap.size := HM3.out.lt
    clear b2 B2 HM HT2 HB1 HS1 HK1
    have ⟨t0, t1, t2, t3, t4, t5⟩ := HK3.out.cells
    go_wp2_with fail
    refine (HTK.out _).mono ?_
    clear t0 t1 t2 t3 t4 t5
    rintro e W4 ⟨rfl, b4⟩
    have B4 : Hid (Below w.heap.size w W4) := Lib.hid (B3.out.trans (b4.mono B3.out.size))
    have HK4 := Lib.hid (HK3.out.keep b4)
    have HS4 := Lib.hid (HS3.out.keep b4)
    have HM4 := Lib.hid (HM3.out.keep b4)
    have HT4 := Lib.hid (HT3.out.keep b4)
    clear b4 B3 HS3 HM3 HT3 HK3 hb3
    have ⟨r0, r1, r2, r3, r4, r5, r6⟩ := HS4.out.cells
    have ⟨z0, z1, z2, z3, z4, z5, z6⟩ := HS4.out.thaw
    simp only [zeroSt] at r0 r1 r2 r3 r4 r5 r6
    have hl : w.heap.size + 2 < W4.heap.size := HS4.out.lt
    go_wp2
    exact st_ret4 (y := zeroSt) (r := .int .i64 0) (m := .bool false) (c := .int .i64 1) rfl rfl rfl rfl rfl (HS4.out.put zeroSt) Tryd.underlying24 rfl (by kernel_rfl) rfl ⟨by rw [HE.out], below_putSt B4.out (by omega) zeroSt⟩
  have HG := Lib.hid (fun b g C w hm h hg hb hne hC ht => impl_gstep n x t b g C w hm h hg hb hne hC ht HN1.out ho ((tokOKB_iff t).1 hk))
  rw [hk] at HTK
  unfold GsDone mvV tokV at HG
  have HE : Hid (toldV (spP n x t) = .tuple #[stV (stepP n x t).y, .int .i64 (toldR (stepP n x t)), .bool (toldB (stepP n x t)), .int .i64 (stepP n x t).c]) := Lib.hid (by rw [spP, if_pos HN1.out, if_pos ⟨ho, hk⟩]; rfl)
  clear ho hk
  generalize stepP n x t = q at *
  generalize toldR q = tr at *
  generalize toldB q = tb at *
  go_enter Tryd.func50, Tryd.ntmps50
  go_wp2_with fail
  refine (HN.out _).mono ?_
  rintro e wn ⟨rfl, rfl⟩
  go_wp2_with fail
  refine (HF.out _).mono ?_
  generalize ((w.alloc (.cells #[.int .i64 x.g0, .int .i64 x.g1, .int .i64 x.g2, .int .i64 x.g3, .int .i64 x.l, .int .i64 x.s, .int .i64 x.d] 24)).alloc (.cells #[.int .i64 t.k, .int .i64 t.a, .int .i64 t.b, .int .i64 t.c, .int .i64 t.p, .int .i64 t.n] 38)).alloc (.cells #[.int .i64 0, .int .i64 0, .int .i64 0, .int .i64 0, .int .i64 0, .int .i64 0, .int .i64 0] 24) = W0 at *
  rintro e w1 ⟨rfl, b1⟩
  have B1 : Hid (Below w.heap.size w w1) := Lib.hid (B0.out.trans (b1.mono B0.out.size))
  have HB1 := Lib.hid ((HB0.out.keep b1).keep (below_one w1 (.cells #[.int .i64 x.g0, .int .i64 x.g1, .int .i64 x.g2, .int .i64 x.g3, .int .i64 x.l, .int .i64 x.s, .int .i64 x.d] 80)))
  have HK1 := Lib.hid ((HK0.out.keep b1).keep (below_one w1 (.cells #[.int .i64 x.g0, .int .i64 x.g1, .int .i64 x.g2, .int .i64 x.g3, .int .i64 x.l, .int .i64 x.s, .int .i64 x.d] 80)))
  have HS1 := Lib.hid ((HS0.out.keep b1).keep (below_one w1 (.cells #[.int .i64 x.g0, .int .i64 x.g1, .int .i64 x.g2, .int .i64 x.g3, .int .i64 x.l, .int .i64 x.s, .int .i64 x.d] 80)))
  have hw1 : w.heap.size + 2 < w1.heap.size := (HS0.out.keep b1).lt
  have B2 : Hid (Below w.heap.size w (w1.alloc (.cells #[.int .i64 x.g0, .int .i64 x.g1, .int .i64 x.g2, .int .i64 x.g3, .int .i64 x.l, .int .i64 x.s, .int .i64 x.d] 80))) := Lib.hid (B1.out.alloc B1.out.size _)
  have HM := Lib.hid (MAt.new w1 x)
  have HT2 := Lib.hid (HT.out.keep B2.out)
  clear b1 HB0 HK0 HS0 B0
  go_wp2_with fail
  refine (HO.out w1.heap.size _ HM.out HT2.out).mono ?_
  generalize w1.alloc (.cells #[.int .i64 x.g0, .int .i64 x.g1, .int .i64 x.g2, .int .i64 x.g3, .int .i64 x.l, .int .i64 x.s, .int .i64 x.d] 80) = W1 at *
  rintro e W2 ⟨rfl, b2⟩
  have B3 : Hid (Below w.heap.size w W2) := Lib.hid (B2.out.trans (b2.mono B2.out.size))
  have HK3 := Lib.hid (HK1.out.keep b2)
  have HS3 := Lib.hid (HS1.out.keep b2)
  have HM3 := Lib.hid (HM.out.keep b2)
  have HT3 := Lib.hid (HT2.out.keep b2)
  have hb3 : w1.heap.size < W2.heap.size := HM3.out.lt
  clear b2 B2 HM HT2 HB1 HS1 HK1
  have ⟨t0, t1, t2, t3, t4, t5⟩ := HK3.out.cells
  go_wp2_with fail
  refine (HTK.out _).mono ?_
  clear t0 t1 t2 t3 t4 t5
  rintro e W4 ⟨rfl, b4⟩
  have B4 : Hid (Below w.heap.size w W4) := Lib.hid (B3.out.trans (b4.mono B3.out.size))
  have HK4 := Lib.hid (HK3.out.keep b4)
  have HS4 := Lib.hid (HS3.out.keep b4)
  have HM4 := Lib.hid (HM3.out.keep b4)
  have HT4 := Lib.hid (HT3.out.keep b4)
  clear b4 B3 HS3 HM3 HT3 HK3 hb3
  go_wp2_with fail
  refine (HGu.out W4 HT4.out.1).mono ?_
  rintro e W7 ⟨rfl, b7⟩
  have B7 : Hid (Below w.heap.size w W7) := Lib.hid (B4.out.trans (b7.mono B4.out.size))
  have B8 : Hid (Below w.heap.size w (W7.alloc (.cells #[.int .i64 n, .string (prName n), .string (prHead n), .slice none 0 0, .bool (prRight n), .bool (prShifts n), .bool (prSingle n), .bool (prReset n), .bool (prClear n), .map none] 108))) := Lib.hid (B7.out.alloc B7.out.size _)
  have HK8 := Lib.hid ((HK4.out.keep b7).keep (below_one W7 (.cells #[.int .i64 n, .string (prName n), .string (prHead n), .slice none 0 0, .bool (prRight n), .bool (prShifts n), .bool (prSingle n), .bool (prReset n), .bool (prClear n), .map none] 108)))
  have HS8 := Lib.hid ((HS4.out.keep b7).keep (below_one W7 (.cells #[.int .i64 n, .string (prName n), .string (prHead n), .slice none 0 0, .bool (prRight n), .bool (prShifts n), .bool (prSingle n), .bool (prReset n), .bool (prClear n), .map none] 108)))
  have HM8 := Lib.hid ((HM4.out.keep b7).keep (below_one W7 (.cells #[.int .i64 n, .string (prName n), .string (prHead n), .slice none 0 0, .bool (prRight n), .bool (prShifts n), .bool (prSingle n), .bool (prReset n), .bool (prClear n), .map none] 108)))
  have G8 : Hid (GuOK (W7.alloc (.cells #[.int .i64 n, .string (prName n), .string (prHead n), .slice none 0 0, .bool (prRight n), .bool (prShifts n), .bool (prSingle n), .bool (prReset n), .bool (prClear n), .map none] 108)) W7.heap.size n (W7.heap.size + 1)) := Lib.hid ⟨_, GuAt.new W7 n (.map none), .inl rfl⟩
  have hs8 : W7.heap.size + 1 ≤ (W7.alloc (.cells #[.int .i64 n, .string (prName n), .string (prHead n), .slice none 0 0, .bool (prRight n), .bool (prShifts n), .bool (prSingle n), .bool (prReset n), .bool (prClear n), .map none] 108)).heap.size := by simp
  have hm7 : w1.heap.size < W7.heap.size := (HM4.out.keep b7).lt
  have T8 : Hid (∀ W, Only2 w1.heap.size W7.heap.size (W7.alloc (.cells #[.int .i64 n, .string (prName n), .string (prHead n), .slice none 0 0, .bool (prRight n), .bool (prShifts n), .bool (prSingle n), .bool (prReset n), .bool (prClear n), .map none] 108)) W → TabM W) := Lib.hid (fun W o => HT.out.keep (B8.out.trans (o.1 w.heap.size (by omega) (by omega))))
  clear b7 HK4 HS4 HM4 HT4
  have ⟨t0, t1, t2, t3, t4, t5⟩ := HK8.out.cells
  go_wp2_with fail
  refine (HG.out w1.heap.size W7.heap.size (W7.heap.size + 1) _ HM8.out G8.out (Nat.lt_succ_self _) (by omega) (by omega) hs8 T8.out).mono ?_
  generalize W7.alloc (.cells #[.int .i64 n, .string (prName n), .string (prHead n), .slice none 0 0, .bool (prRight n), .bool (prShifts n), .bool (prSingle n), .bool (prReset n), .bool (prClear n), .map none] 108) = W8 at *
  clear t0 t1 t2 t3 t4 t5
  rintro e W5 ⟨rfl, HM5, _, O5⟩
  have HS5 : Hid (StAt W5 (w.heap.size + 2) zeroSt) := Lib.hid ((O5.2 _ (by omega) (by omega) HS8.out.lt).trans HS8.out)
  have B5 : Hid (Below w.heap.size w W5) := Lib.hid (B8.out.trans (O5.1 _ (by omega) (by omega)))
  go_wp2_with fail
  refine (HST.out q.y w1.heap.size W5 HM5).mono ?_
  rintro e W6 ⟨rfl, b6⟩
  have B6 : Hid (Below w.heap.size w W6) := Lib.hid (B5.out.trans (b6.mono B5.out.size))
  have HS6 := Lib.hid (HS5.out.keep b6)
  have ⟨r0, r1, r2, r3, r4, r5, r6⟩ := HS6.out.cells
  have ⟨z0, z1, z2, z3, z4, z5, z6⟩ := HS6.out.thaw
  simp only [zeroSt] at r0 r1 r2 r3 r4 r5 r6
  have hl : w.heap.size + 2 < W6.heap.size := HS6.out.lt
  clear b6 O5 HM5
  go_wp2
  exact st_ret4 (y := q.y) (r := .int .i64 tr) (m := .bool tb) (c := .int .i64 q.c) rfl rfl rfl rfl rfl (HS6.out.put q.y) Tryd.underlying24 rfl (by kernel_rfl) rfl ⟨by rw [HE.out], below_putSt B6.out (by omega) q.y⟩

end Go.Proofs.YtjbikenhdgbacaaDoor

namespace Go.Proofs.YtjbikenhdgbacaaDoor.fnExactStepProfile
open Go.RowKit

/-- A token of the laws in a block. -/
def LTk (w : World) (g : Nat) (t : Tok) : Prop := w.heap[g]? = some (.cells #[.int .i64 t.k, .int .i64 t.a, .int .i64 t.b, .int .i64 t.c, .int .i64 t.p, .int .i64 t.n] 49)
theorem LTk.lt {w : World} {g : Nat} {t : Tok} (h : LTk w g t) : g < w.heap.size := (Array.getElem?_eq_some_iff.1 h).1
theorem LTk.keep {w w' : World} {g : Nat} {t : Tok} (h : LTk w g t) (b : Below w.heap.size w w') : LTk w' g t := (b.block g h.lt).trans h
theorem LTk.cells {w : World} {g : Nat} {t : Tok} (h : LTk w g t) : w.cell? ⟨g, 0, none⟩ = some (.int .i64 t.k) ∧ w.cell? ⟨g, 1, none⟩ = some (.int .i64 t.a) ∧ w.cell? ⟨g, 2, none⟩ = some (.int .i64 t.b) ∧ w.cell? ⟨g, 3, none⟩ = some (.int .i64 t.c) ∧ w.cell? ⟨g, 4, none⟩ = some (.int .i64 t.p) ∧ w.cell? ⟨g, 5, none⟩ = some (.int .i64 t.n) := by
  refine ⟨?_, ?_, ?_, ?_, ?_, ?_⟩ <;> (rw [cell_of_row _ _ _ _ _ _ h]; rfl)

/-- The laws' arguments lie as they came. -/
def Iv (w0 W : World) (n : Nat) (x : St) (t : Tok) : Prop := LSt W n x ∧ LTk W (n + 1) t ∧ Below w0.heap.size w0 W
theorem Iv.keep {w0 W W' : World} {n : Nat} {x : St} {t : Tok} (h : Iv w0 W n x t) (b : Below W.heap.size W W') : Iv w0 W' n x t := ⟨h.1.keep b, h.2.1.keep b, h.2.2.trans (b.mono h.2.2.size)⟩
theorem Iv.drew {w0 W : World} {n : Nat} {x : St} {t : Tok} (h : Iv w0 W n x t) : Iv w0 W.drew n x t := h.keep (below_drewN (Below.refl _ _) 1)
theorem Iv.alloc {w0 W : World} {n : Nat} {x : St} {t : Tok} (h : Iv w0 W n x t) (o : Obj) : Iv w0 (W.alloc o) n x t := h.keep (below_one _ _)
theorem Iv.tab {w0 W : World} {n : Nat} {x : St} {t : Tok} (h : Iv w0 W n x t) (ht : TabM w0) : TabM W := ht.keep h.2.2
/-- What a call of StepProfile leaves: the state in a block of its own, three values. -/
def CutR (w0 : World) (n : Nat) (x : St) (t : Tok) (q : Stp) (tr : Int) (tb : Bool) (v5 v6 v7 v8 : Value) (wx : World) : Prop := ∃ g, v5 = .pointer (some ⟨g, 0, none⟩) ∧ v6 = .int .i64 tr ∧ v7 = .bool tb ∧ v8 = .int .i64 q.c ∧ StAt wx g q.y ∧ Iv w0 wx n x t

set_option maxHeartbeats 16000000 in
set_option maxRecDepth 100000 in
theorem walkS (N : Int) (x : St) (t : Tok) (w : World) (hd : Wide64 x) (ht : TabM w) : Calls Tryd.prog 11 #[.int .i64 N, stV x, tokV t] w fun e w' => e = .returned (.bool true) ∧ Below w.heap.size w w' := by
  have B0 := Lib.hid (below_two w (.cells #[.int .i64 x.g0, .int .i64 x.g1, .int .i64 x.g2, .int .i64 x.g3, .int .i64 x.l, .int .i64 x.s, .int .i64 x.d] 66) (.cells #[.int .i64 t.k, .int .i64 t.a, .int .i64 t.b, .int .i64 t.c, .int .i64 t.p, .int .i64 t.n] 49))
  have HT0 := Lib.hid (ht.keep B0.out)
  have HL0 : Hid (LSt ((w.alloc (.cells #[.int .i64 x.g0, .int .i64 x.g1, .int .i64 x.g2, .int .i64 x.g3, .int .i64 x.l, .int .i64 x.s, .int .i64 x.d] 66)).alloc (.cells #[.int .i64 t.k, .int .i64 t.a, .int .i64 t.b, .int .i64 t.c, .int .i64 t.p, .int .i64 t.n] 49)) w.heap.size x) := Lib.hid (heap_alloc2_old _ _ _)
  have HK0 : Hid (LTk ((w.alloc (.cells #[.int .i64 x.g0, .int .i64 x.g1, .int .i64 x.g2, .int .i64 x.g3, .int .i64 x.l, .int .i64 x.s, .int .i64 x.d] 66)).alloc (.cells #[.int .i64 t.k, .int .i64 t.a, .int .i64 t.b, .int .i64 t.c, .int .i64 t.p, .int .i64 t.n] 49)) (w.heap.size + 1) t) := Lib.hid (heap_alloc2_new _ _ _)
  have HC := Lib.hid (fun w => laws_toState x w)
  have HD := Lib.hid (fun w => laws_toToken t w)
  have HS := Lib.hid (fun w => spec_StepProfile N x t w)
  have HI := Lib.hid (fun w ht => impl_StepProfile N x t w ht hd)
  clear ht
  unfold StDone at HC
  unfold TokDone at HD
  unfold SpDone at HS HI
  generalize spP N x t = q at *
  have HV : Hid (toldV q = .tuple #[stV q.y, .int .i64 (if 0 ≤ q.r then q.r else 0), .bool (decide (0 ≤ q.r)), .int .i64 q.c]) := Lib.hid rfl
  rw [HV.out] at HS HI
  generalize (if 0 ≤ q.r then q.r else 0) = tr at *
  generalize decide (0 ≤ q.r) = tb at *
  have HQ := Lib.hid (fun w => laws_eqState_true q.y w)
  unfold stV at HC HS HI HQ ⊢
  unfold tokV at HD HS HI ⊢
  clear hd HV
  have h0 : Iv ((w.alloc (.cells #[.int .i64 x.g0, .int .i64 x.g1, .int .i64 x.g2, .int .i64 x.g3, .int .i64 x.l, .int .i64 x.s, .int .i64 x.d] 66)).alloc (.cells #[.int .i64 t.k, .int .i64 t.a, .int .i64 t.b, .int .i64 t.c, .int .i64 t.p, .int .i64 t.n] 49)) ((w.alloc (.cells #[.int .i64 x.g0, .int .i64 x.g1, .int .i64 x.g2, .int .i64 x.g3, .int .i64 x.l, .int .i64 x.s, .int .i64 x.d] 66)).alloc (.cells #[.int .i64 t.k, .int .i64 t.a, .int .i64 t.b, .int .i64 t.c, .int .i64 t.p, .int .i64 t.n] 49)) w.heap.size x t := ⟨HL0.out, HK0.out, Below.refl _ _⟩
  have hI := h0
  clear HL0 HK0
  go_enter Tryd.func11, Tryd.ntmps11
  go_upto_region 1 with fail
  generalize (w.alloc (.cells #[.int .i64 x.g0, .int .i64 x.g1, .int .i64 x.g2, .int .i64 x.g3, .int .i64 x.l, .int .i64 x.s, .int .i64 x.d] 66)).alloc (.cells #[.int .i64 t.k, .int .i64 t.a, .int .i64 t.b, .int .i64 t.c, .int .i64 t.p, .int .i64 t.n] 49) = w0 at *
  go_cut [7, 8, 9, 10] (fun v5 v6 v7 v8 wx => CutR w0 w.heap.size x t q tr tb v5 v6 v7 v8 wx)
  case first =>
    have ⟨y0, y1, y2, y3, y4, y5, y6⟩ := hI.1.cells
    have ⟨t0, t1, t2, t3, t4, t5⟩ := hI.2.1.cells
    have ⟨Y0, Y1, Y2, Y3, Y4, Y5, Y6⟩ := (hI.alloc (.cells #[.int .i64 0, .int .i64 0, .int .i64 0, .int .i64 0, .int .i64 0, .int .i64 0, .int .i64 0] 24)).1.cells
    have ⟨T0, T1, T2, T3, T4, T5⟩ := (hI.alloc (.cells #[.int .i64 0, .int .i64 0, .int .i64 0, .int .i64 0, .int .i64 0, .int .i64 0, .int .i64 0] 24)).2.1.cells
    go_region_with ((first | (go_at_call 44; clear y0 y1 y2 y3 y4 y5 y6 Y0 Y1 Y2 Y3 Y4 Y5 Y6 t0 t1 t2 t3 t4 t5 T0 T1 T2 T3 T4 T5; refine (HC.out _).mono ?_; rintro e w' ⟨rfl, b'⟩; (first | (have hg := hI.2.2.size; have hS := (stSlot0 _).keep b'; have ⟨r0, r1, r2, r3, r4, r5, r6⟩ := hS.cells; have ⟨z0, z1, z2, z3, z4, z5, z6⟩ := hS.thaw; have hl := hS.lt; simp only [zeroSt] at r0 r1 r2 r3 r4 r5 r6) | (have hg := hI.2.2.size; have hS := (StAt.drew (stSlot0 _)).keep b'; have ⟨r0, r1, r2, r3, r4, r5, r6⟩ := hS.cells; have ⟨z0, z1, z2, z3, z4, z5, z6⟩ := hS.thaw; have hl := hS.lt; simp only [zeroSt] at r0 r1 r2 r3 r4 r5 r6) | (have hS := hS.keep b'; clear r0 r1 r2 r3 r4 r5 r6 z0 z1 z2 z3 z4 z5 z6 hl; have ⟨r0, r1, r2, r3, r4, r5, r6⟩ := hS.cells; have ⟨z0, z1, z2, z3, z4, z5, z6⟩ := hS.thaw; have hl := hS.lt; simp only [zeroSt] at r0 r1 r2 r3 r4 r5 r6) | skip); have hI := Iv.keep (by first | exact hI | exact hI.drew | exact (hI.alloc _) | exact (hI.alloc _).drew | exact hI.drew.alloc _) b'; have ⟨t0, t1, t2, t3, t4, t5⟩ := hI.2.1.cells; have ⟨T0, T1, T2, T3, T4, T5⟩ := (hI.alloc (.cells #[.int .i64 0, .int .i64 0, .int .i64 0, .int .i64 0, .int .i64 0, .int .i64 0, .int .i64 0] 24)).2.1.cells) | (go_at_call 32; clear t0 t1 t2 t3 t4 t5 T0 T1 T2 T3 T4 T5; refine (HD.out _).mono ?_; rintro e w' ⟨rfl, b'⟩; (first | (have hg := hI.2.2.size; have hS := (stSlot0 _).keep b'; have ⟨r0, r1, r2, r3, r4, r5, r6⟩ := hS.cells; have ⟨z0, z1, z2, z3, z4, z5, z6⟩ := hS.thaw; have hl := hS.lt; simp only [zeroSt] at r0 r1 r2 r3 r4 r5 r6) | (have hg := hI.2.2.size; have hS := (StAt.drew (stSlot0 _)).keep b'; have ⟨r0, r1, r2, r3, r4, r5, r6⟩ := hS.cells; have ⟨z0, z1, z2, z3, z4, z5, z6⟩ := hS.thaw; have hl := hS.lt; simp only [zeroSt] at r0 r1 r2 r3 r4 r5 r6) | (have hS := hS.keep b'; clear r0 r1 r2 r3 r4 r5 r6 z0 z1 z2 z3 z4 z5 z6 hl; have ⟨r0, r1, r2, r3, r4, r5, r6⟩ := hS.cells; have ⟨z0, z1, z2, z3, z4, z5, z6⟩ := hS.thaw; have hl := hS.lt; simp only [zeroSt] at r0 r1 r2 r3 r4 r5 r6) | skip); have hI := Iv.keep (by first | exact hI | exact hI.drew | exact (hI.alloc _) | exact (hI.alloc _).drew | exact hI.drew.alloc _) b') | (go_at_call 49; refine (HS.out _).mono ?_; rintro e w' ⟨rfl, b'⟩; (first | (have hg := hI.2.2.size; have hS := (stSlot0 _).keep b'; have ⟨r0, r1, r2, r3, r4, r5, r6⟩ := hS.cells; have ⟨z0, z1, z2, z3, z4, z5, z6⟩ := hS.thaw; have hl := hS.lt; simp only [zeroSt] at r0 r1 r2 r3 r4 r5 r6) | (have hg := hI.2.2.size; have hS := (StAt.drew (stSlot0 _)).keep b'; have ⟨r0, r1, r2, r3, r4, r5, r6⟩ := hS.cells; have ⟨z0, z1, z2, z3, z4, z5, z6⟩ := hS.thaw; have hl := hS.lt; simp only [zeroSt] at r0 r1 r2 r3 r4 r5 r6) | (have hS := hS.keep b'; clear r0 r1 r2 r3 r4 r5 r6 z0 z1 z2 z3 z4 z5 z6 hl; have ⟨r0, r1, r2, r3, r4, r5, r6⟩ := hS.cells; have ⟨z0, z1, z2, z3, z4, z5, z6⟩ := hS.thaw; have hl := hS.lt; simp only [zeroSt] at r0 r1 r2 r3 r4 r5 r6) | skip); have hI := Iv.keep (by first | exact hI | exact hI.drew | exact (hI.alloc _) | exact (hI.alloc _).drew | exact hI.drew.alloc _) b')))
    all_goals (go_wp2_with fail; go_meet; first | exact ⟨_, rfl, rfl, rfl, rfl, hS.put q.y, h0.keep (below_putSt hI.2.2 hg q.y)⟩ | exact ⟨_, rfl, rfl, rfl, rfl, StAt.new _ q.y, hI.alloc _⟩)
  case rest =>
  obtain ⟨g1, rfl, rfl, rfl, rfl, V1, hI1⟩ := hcut
  have HT1 := Lib.hid (hI1.tab HT0.out)
  have B1 := Lib.hid (B0.out.trans (hI1.2.2.mono B0.out.size))
  clear hI h0 HS
  have h0 : Iv wc wc w.heap.size x t := ⟨hI1.1, hI1.2.1, Below.refl _ _⟩
  have hI := h0
  have HV1 := Lib.hid V1
  clear hI1 V1 B0 HT0
  go_upto_region 2 with fail
  go_cut [11, 12, 13, 14] (fun v5 v6 v7 v8 wx => CutR wc w.heap.size x t q tr tb v5 v6 v7 v8 wx)
  case first =>
    have ⟨y0, y1, y2, y3, y4, y5, y6⟩ := hI.1.cells
    have ⟨t0, t1, t2, t3, t4, t5⟩ := hI.2.1.cells
    have ⟨Y0, Y1, Y2, Y3, Y4, Y5, Y6⟩ := (hI.alloc (.cells #[.int .i64 0, .int .i64 0, .int .i64 0, .int .i64 0, .int .i64 0, .int .i64 0, .int .i64 0] 24)).1.cells
    have ⟨T0, T1, T2, T3, T4, T5⟩ := (hI.alloc (.cells #[.int .i64 0, .int .i64 0, .int .i64 0, .int .i64 0, .int .i64 0, .int .i64 0, .int .i64 0] 24)).2.1.cells
    go_region_with ((first | (go_at_call 44; clear y0 y1 y2 y3 y4 y5 y6 Y0 Y1 Y2 Y3 Y4 Y5 Y6 t0 t1 t2 t3 t4 t5 T0 T1 T2 T3 T4 T5; refine (HC.out _).mono ?_; rintro e w' ⟨rfl, b'⟩; (first | (have hg := hI.2.2.size; have hS := (stSlot0 _).keep b'; have ⟨r0, r1, r2, r3, r4, r5, r6⟩ := hS.cells; have ⟨z0, z1, z2, z3, z4, z5, z6⟩ := hS.thaw; have hl := hS.lt; simp only [zeroSt] at r0 r1 r2 r3 r4 r5 r6) | (have hg := hI.2.2.size; have hS := (StAt.drew (stSlot0 _)).keep b'; have ⟨r0, r1, r2, r3, r4, r5, r6⟩ := hS.cells; have ⟨z0, z1, z2, z3, z4, z5, z6⟩ := hS.thaw; have hl := hS.lt; simp only [zeroSt] at r0 r1 r2 r3 r4 r5 r6) | (have hS := hS.keep b'; clear r0 r1 r2 r3 r4 r5 r6 z0 z1 z2 z3 z4 z5 z6 hl; have ⟨r0, r1, r2, r3, r4, r5, r6⟩ := hS.cells; have ⟨z0, z1, z2, z3, z4, z5, z6⟩ := hS.thaw; have hl := hS.lt; simp only [zeroSt] at r0 r1 r2 r3 r4 r5 r6) | skip); have hI := Iv.keep (by first | exact hI | exact hI.drew | exact (hI.alloc _) | exact (hI.alloc _).drew | exact hI.drew.alloc _) b'; have ⟨t0, t1, t2, t3, t4, t5⟩ := hI.2.1.cells; have ⟨T0, T1, T2, T3, T4, T5⟩ := (hI.alloc (.cells #[.int .i64 0, .int .i64 0, .int .i64 0, .int .i64 0, .int .i64 0, .int .i64 0, .int .i64 0] 24)).2.1.cells) | (go_at_call 32; clear t0 t1 t2 t3 t4 t5 T0 T1 T2 T3 T4 T5; refine (HD.out _).mono ?_; rintro e w' ⟨rfl, b'⟩; (first | (have hg := hI.2.2.size; have hS := (stSlot0 _).keep b'; have ⟨r0, r1, r2, r3, r4, r5, r6⟩ := hS.cells; have ⟨z0, z1, z2, z3, z4, z5, z6⟩ := hS.thaw; have hl := hS.lt; simp only [zeroSt] at r0 r1 r2 r3 r4 r5 r6) | (have hg := hI.2.2.size; have hS := (StAt.drew (stSlot0 _)).keep b'; have ⟨r0, r1, r2, r3, r4, r5, r6⟩ := hS.cells; have ⟨z0, z1, z2, z3, z4, z5, z6⟩ := hS.thaw; have hl := hS.lt; simp only [zeroSt] at r0 r1 r2 r3 r4 r5 r6) | (have hS := hS.keep b'; clear r0 r1 r2 r3 r4 r5 r6 z0 z1 z2 z3 z4 z5 z6 hl; have ⟨r0, r1, r2, r3, r4, r5, r6⟩ := hS.cells; have ⟨z0, z1, z2, z3, z4, z5, z6⟩ := hS.thaw; have hl := hS.lt; simp only [zeroSt] at r0 r1 r2 r3 r4 r5 r6) | skip); have hI := Iv.keep (by first | exact hI | exact hI.drew | exact (hI.alloc _) | exact (hI.alloc _).drew | exact hI.drew.alloc _) b') | (go_at_call 50; refine (HI.out _ (Iv.tab (by first | exact hI | exact hI.drew | exact (hI.alloc _) | exact (hI.alloc _).drew | exact hI.drew.alloc _) HT1.out)).mono ?_; rintro e w' ⟨rfl, b'⟩; (first | (have hg := hI.2.2.size; have hS := (stSlot0 _).keep b'; have ⟨r0, r1, r2, r3, r4, r5, r6⟩ := hS.cells; have ⟨z0, z1, z2, z3, z4, z5, z6⟩ := hS.thaw; have hl := hS.lt; simp only [zeroSt] at r0 r1 r2 r3 r4 r5 r6) | (have hg := hI.2.2.size; have hS := (StAt.drew (stSlot0 _)).keep b'; have ⟨r0, r1, r2, r3, r4, r5, r6⟩ := hS.cells; have ⟨z0, z1, z2, z3, z4, z5, z6⟩ := hS.thaw; have hl := hS.lt; simp only [zeroSt] at r0 r1 r2 r3 r4 r5 r6) | (have hS := hS.keep b'; clear r0 r1 r2 r3 r4 r5 r6 z0 z1 z2 z3 z4 z5 z6 hl; have ⟨r0, r1, r2, r3, r4, r5, r6⟩ := hS.cells; have ⟨z0, z1, z2, z3, z4, z5, z6⟩ := hS.thaw; have hl := hS.lt; simp only [zeroSt] at r0 r1 r2 r3 r4 r5 r6) | skip); have hI := Iv.keep (by first | exact hI | exact hI.drew | exact (hI.alloc _) | exact (hI.alloc _).drew | exact hI.drew.alloc _) b')))
    all_goals (go_wp2_with fail; go_meet; first | exact ⟨_, rfl, rfl, rfl, rfl, hS.put q.y, h0.keep (below_putSt hI.2.2 hg q.y)⟩ | exact ⟨_, rfl, rfl, rfl, rfl, StAt.new _ q.y, hI.alloc _⟩)
  case rest =>
  obtain ⟨g2, rfl, rfl, rfl, rfl, V2, hI2⟩ := hcut
  have B2 := Lib.hid (B1.out.trans (hI2.2.2.mono B1.out.size))
  have V1 := HV1.out.keep hI2.2.2
  have ⟨y0, y1, y2, y3, y4, y5, y6⟩ := V1.cells
  have ⟨z0, z1, z2, z3, z4, z5, z6⟩ := V2.cells
  clear hI h0 HI V1 V2 hI2
  go_wp2_with fail
  refine (HQ.out _).mono ?_
  clear y0 y1 y2 y3 y4 y5 y6 z0 z1 z2 z3 z4 z5 z6
  rintro e w8 ⟨rfl, b8⟩
  have B8 := B2.out.trans (b8.mono B2.out.size)
  clear b8
  go_wp2
  go_ret
  exact ⟨rfl, B8⟩

theorem walk (N g0 g1 g2 g3 l s d k a b c p n : Int) (w : World) (_h0 : (Lit.int .i64 N).wf = true) (hw : ∀ z ∈ [g0, g1, g2, g3, l, s, d], (Lit.int .i64 z).wf = true) (_h1 : ∀ z ∈ [k, a, b, c, p, n], (Lit.int .i64 z).wf = true) (ht : TabM w) : Calls Tryd.prog 11 #[.int .i64 N, .agg #[.int .i64 g0, .int .i64 g1, .int .i64 g2, .int .i64 g3, .int .i64 l, .int .i64 s, .int .i64 d], .agg #[.int .i64 k, .int .i64 a, .int .i64 b, .int .i64 c, .int .i64 p, .int .i64 n]] w fun e w' => e = .returned (.bool true) ∧ Below w.heap.size w w' :=
  walkS N ⟨g0, g1, g2, g3, l, s, d⟩ ⟨k, a, b, c, p, n⟩ w (bounds_i64 (hw d (by simp))) ht

theorem table {W : World} (h : laidMetH Tryd.prog Rows.fnExactStepProfileRow.laid W) : TabM W := tabM_of_laid h
theorem readable : ∀ n ∈ Rows.fnExactStepProfileSpec.vars, ∀ g t, Tryd.prog.globalNamed n = some g → (Tryd.prog.globals[g]?).map (·.type) = some t → Tryd.prog.readableRec t = true ∧ t < Tryd.prog.types.size := sets_readable

end Go.Proofs.YtjbikenhdgbacaaDoor.fnExactStepProfile

namespace Go.Proofs.YtjbikenhdgbacaaDoor.fnExactStepProfile
open Go.ChangeShapes Go.WideShapes Go.ChangeAt Go.RowKit
open Go.ChangeMaps (open_string shut_string)
set_option linter.unusedVariables false

set_option maxRecDepth 100000 in
theorem contract (H : Type) (enc : TypeId × Value → H) (W : World) (base : Nat) (args : Array Value) (ds gs : List (DataW H)) (before : List MemPlace)
    (hval : ∀ (j : Nat) t v, Tryd.f11.params[j]? = some t → args[j]? = some v → Value.okWide Tryd.prog W .any base t v)
    (hW : DataW.Whole enc Tryd.prog Tryd.f11.params.toList Rows.fnExactStepProfileSpec.vars false W args.toList ds gs before) (hL : laidMetH Tryd.prog Rows.fnExactStepProfileRow.laid W) :
    Calls Tryd.prog 11 args W fun e W' => ∃ v, e = .returned v ∧ Rows.fnExactStepProfileSpec.post enc Tryd.prog Tryd.f11 false true false false W args v W' := by
  have HT := Lib.hid (table hL)
  clear hL
  have hW' := hW
  obtain ⟨p, q, hA0, hV0, rfl, hfz, hnd⟩ := hW
  have hV : DataW.TrodVars enc Tryd.prog W (fun _ => true) ["loop.example/g00748/impl.registry"] gs q := hV0
  clear hV0
  have hA : DataW.TrodAll enc Tryd.prog W 0 (fun _ => true) true Tryd.f11.params.toList args.toList ds p := hA0
  rw [Tryd.params11] at hA hval
  obtain ⟨v0, vs0, d0, ds0, p0, q0, hargs, rfl, rfl, h0, r0⟩ := trodAll_cons hA
  obtain ⟨v1, vs1, d1, ds1, p1, q1, rfl, rfl, rfl, h1, r1⟩ := trodAll_cons r0
  obtain ⟨v2, vs2, d2, ds2, p2, q2, rfl, rfl, rfl, h2, r2⟩ := trodAll_cons r1
  obtain ⟨rfl, rfl, rfl⟩ := trodAll_nil r2
  obtain rfl : args = #[v0, v1, v2] := by cases args; simp_all
  have hgs : ∃ d, gs = [d] := by obtain ⟨_, _, _, _, d, _, hgs, _⟩ := trodVars_one hV; exact ⟨d, hgs⟩
  obtain ⟨g1, rfl⟩ := hgs
  obtain ⟨a0, rfl, rfl, rfl, w0⟩ := open_int Tryd.underlying3 (hval 0 3 v0 rfl rfl) h0
  obtain ⟨z1, l1, rfl, rfl, rfl, w1⟩ := open_intStruct Tryd.underlying66 (by kernel_rfl) (by kernel_rfl) (hval 1 66 v1 rfl rfl) h1
  obtain ⟨a1_0, a1_1, a1_2, a1_3, a1_4, a1_5, a1_6, rfl⟩ := list7 l1
  obtain ⟨z2, l2, rfl, rfl, rfl, w2⟩ := open_intStruct Tryd.underlying49 (by kernel_rfl) (by kernel_rfl) (hval 2 49 v2 rfl rfl) h2
  obtain ⟨a2_0, a2_1, a2_2, a2_3, a2_4, a2_5, rfl⟩ := list6 l2
  clear hA0
  refine (walk a0 a1_0 a1_1 a1_2 a1_3 a1_4 a1_5 a1_6 a2_0 a2_1 a2_2 a2_3 a2_4 a2_5 W w0 w1 w2 HT.out).mono fun e W' ⟨he, bel⟩ => ?_
  subst he
  exact ⟨_, rfl, _, _, _, [], [], q, hW', trodAll_mk1 (shut_bool Tryd.underlying4 _), (trodAll_cons_mk (shut_int Tryd.underlying3 w0) (trodAll_cons_mk (shut_intStruct Tryd.underlying66 (by kernel_rfl) (by kernel_rfl) [a1_0, a1_1, a1_2, a1_3, a1_4, a1_5, a1_6] rfl w1) (trodAll_cons_mk (shut_intStruct Tryd.underlying49 (by kernel_rfl) (by kernel_rfl) [a2_0, a2_1, a2_2, a2_3, a2_4, a2_5] rfl w2) trodAll_mk0))), trodVars_below laidOut bel readable hV, bel.frame _, fun h => by cases h⟩

theorem laid_met (os : Os) : laidMetH Tryd.prog Rows.fnExactStepProfileRow.laid ((World.doorLaid Tryd.prog 400 os).forCall (fun _ _ => 0) ⟨#[], #[.int .i64 0, .agg #[.int .i64 0, .int .i64 0, .int .i64 0, .int .i64 0, .int .i64 0, .int .i64 0, .int .i64 0], .agg #[.int .i64 0, .int .i64 0, .int .i64 0, .int .i64 0, .int .i64 0, .int .i64 0]], []⟩).memory :=
  laidMetH_of_parts3 (fuel := 8) (laidMet_of_run' 8 (by kernel_rfl) (by kernel_rfl)) (by kernel_rfl) (by kernel_rfl)
theorem reads (os : Os) {H : Type} (enc : TypeId × Value → H) : ∃ x, DataW.whole enc Tryd.prog ((World.doorLaid Tryd.prog 400 os).forCall (fun _ _ => 0) ⟨#[], #[.int .i64 0, .agg #[.int .i64 0, .int .i64 0, .int .i64 0, .int .i64 0, .int .i64 0, .int .i64 0, .int .i64 0], .agg #[.int .i64 0, .int .i64 0, .int .i64 0, .int .i64 0, .int .i64 0, .int .i64 0]], []⟩).memory Tryd.f11.params.toList Rows.fnExactStepProfileSpec.vars false #[.int .i64 0, .agg #[.int .i64 0, .int .i64 0, .int .i64 0, .int .i64 0, .int .i64 0, .int .i64 0, .int .i64 0], .agg #[.int .i64 0, .int .i64 0, .int .i64 0, .int .i64 0, .int .i64 0, .int .i64 0]].toList 8 = some x :=
  Option.isSome_iff_exists.1 (by kernel_rfl)

set_option maxRecDepth 100000 in
theorem lifted (os : Os) (started : os.Started) (H : Type) (enc : TypeId × Value → H) (F : Stop.Interp) :
    ReturnsInHanded {} Tryd.checked os 11 .any ((OpenSpec.ofChange Rows.fnExactStepProfileSpec).preRow enc Tryd.prog Tryd.f11 Rows.fnExactStepProfileRow.domain false Rows.fnExactStepProfileRow.laid) (((OpenSpec.ofChange Rows.fnExactStepProfileSpec).at F).post enc Tryd.prog Tryd.f11 false true false false) := by
  obtain ⟨x, hx⟩ := reads os enc
  refine returnsInHanded_of_row (C := Tryd.checked) (s := OpenSpec.ofChange Rows.fnExactStepProfileSpec) own started (by kernel_rfl) Tryd.func11
    (witness_row_atRef (enc := enc) (C := Tryd.checked) false (World.doorLaid Tryd.prog 400 os) #[.int .i64 0, .agg #[.int .i64 0, .int .i64 0, .int .i64 0, .int .i64 0, .int .i64 0, .int .i64 0, .int .i64 0], .agg #[.int .i64 0, .int .i64 0, .int .i64 0, .int .i64 0, .int .i64 0, .int .i64 0]] rfl (by kernel_rfl) (by kernel_rfl) (by kernel_rfl)
      (OpenSpec.preRow_of_cond 8 hx rfl (fun k hk => by cases hk) (by kernel_rfl) (laid_met os))) ?_
  intro W base args ds gs before hval hW _ _ _ hL _ _
  exact contract H enc W base args ds gs before hval hW hL

theorem said : Rows.FnExactStepProfileSaid :=
  OpenClaim.holds_of_cond 11 Tryd.f11 rfl rfl rfl rfl rfl rfl rfl ⟨rfl, rfl, rfl, rfl, rfl⟩ rfl rfl rfl rfl rfl (by kernel_rfl) Tryd.func11 (by kernel_rfl)
    (of_decide_eq_true (by kernel_rfl)) (by unfold Func.isWrapper; first | (rw [if_pos (by decide +kernel)]; kernel_rfl) | (rw [if_neg (by decide +kernel)]; exact ⟨rfl, rfl⟩))
    (fun os started H enc _ F => by rw [OpenClaim.pre_eq_preRow]; exact lifted os started H enc F)

theorem plain (f : FuncId) (fn : Func) (hf : Tryd.pinned.checked.prog.funcNamed "loop.example/g00748/laws.FnExactStepProfile" = some f) (hfn : Tryd.pinned.checked.prog.funcs[f]? = some fn) :
    Rows.fnExactStepProfileCard.stood.looks = Tryd.pinned.checked.prog.looks [] ∧ ∀ (j : Nat) t, fn.params[j]? = some t → Tryd.pinned.checked.prog.wantsStandIn t = false := by
  obtain rfl : f = 11 := Option.some.inj ((show Tryd.prog.funcNamed "loop.example/g00748/laws.FnExactStepProfile" = some 11 by kernel_rfl).symm.trans hf) |>.symm
  obtain rfl : fn = Tryd.f11 := (Option.some.inj (Tryd.func11.symm.trans hfn)).symm
  refine ⟨by kernel_rfl, fun j t ht => ?_⟩
  rw [Tryd.params11] at ht
  have hm := Array.mem_of_getElem? ht
  simp at hm
  rcases hm with rfl | rfl | rfl
  · exact (show Tryd.prog.wantsStandIn 3 = false by kernel_rfl)
  · exact (show Tryd.prog.wantsStandIn 66 = false by kernel_rfl)
  · exact (show Tryd.prog.wantsStandIn 49 = false by kernel_rfl)

theorem card : Rows.FnExactStepProfileCardSaid :=
  Claim7.holds_tied_plain_at .later [] _ _ _ _ said (fun _ h => by cases h) (by kernel_rfl) (fun _ h => by cases h) fnExactStepProfile_row_tie rfl ⟨rfl, rfl⟩ (by kernel_rfl) rfl plain (by kernel_rfl)
end Go.Proofs.YtjbikenhdgbacaaDoor.fnExactStepProfile

namespace Go.Proofs.YtjbikenhdgbacaaDoor
theorem fnExactStepProfile_holds : Rows.FnExactStepProfileCardSaid := fnExactStepProfile.card
end Go.Proofs.YtjbikenhdgbacaaDoor
