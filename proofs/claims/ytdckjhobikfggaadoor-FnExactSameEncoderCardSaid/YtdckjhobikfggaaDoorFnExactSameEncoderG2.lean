/- The tied card of 'FnExactSameEncoder': from the walk to the given statement. The listed package-level variables start as the program's text lays them (the given tie). Joined of: LnV, WordsLaid, SetsLaid, SentsLaid, LnLaid, FnExactSameEncoderWalk, FnExactSameEncoderCard. -/
import Derived.Test.YtdckjhobikfggaaDoorFnExactSameEncoderG1
import Derived.Test.YtdckjhobikfggaaDoorVars
import Derived.Test.YtdckjhobikfggaaDoorSetsT
import Derived.Lib.SmallJoins
import Derived.Stop.LaidTwo
import Derived.Stop.LaidErr
import Derived.Stop.Texts
import Derived.ChangeVars
import Derived.OpenShut
import Derived.Test.YtdckjhobikfggaaDoorCards
import Derived.Test.YtdckjhobikfggaaDoorTie
import Derived.Lib.Hide
import Derived.Test.YtdckjhobikfggaaDoorLnOpen

namespace Go.Proofs.YtdckjhobikfggaaDoor
open Go.RowKit

set_option maxHeartbeats 8000000 in
set_option maxRecDepth 100000 in
theorem impl_SameEncoder (e f : Ec) (v u : Value) (sa sb : Addr) (w : World) (hv : Ints .i64 w v e.z) (hu : Ints .i64 w u f.z) (hl : e.z.length ≤ 1048576) (hl2 : f.z.length ≤ 1048576) (hr : e.r.size ≤ 1048576) (hr2 : f.r.size ≤ 1048576) (hz : ∀ r ∈ e.z, r ≤ 9223372036854775807) (hz2 : ∀ r ∈ f.z, r ≤ 9223372036854775807) (ht : TabSets w) (hw : TabWords w) (hS : Sents w sa sb) : Calls Tryd.prog 35 #[ecV e v, ecV f u] w fun x w' => x = .returned (.bool (seB e f)) ∧ Below w.heap.size w w' := by
  have hform : ∃ a c, v = .slice a e.z.length c := by
    rcases hv with ⟨h0, a, c, rfl⟩ | ⟨b, off, c, rfl, _⟩
    · exact ⟨a, c, by rw [h0]; rfl⟩
    · exact ⟨_, c, rfl⟩
  have hform2 : ∃ a c, u = .slice a f.z.length c := by
    rcases hu with ⟨h0, a, c, rfl⟩ | ⟨b, off, c, rfl, _⟩
    · exact ⟨a, c, by rw [h0]; rfl⟩
    · exact ⟨_, c, rfl⟩
  obtain ⟨a, cp, rfl⟩ := hform
  obtain ⟨a2, cp2, rfl⟩ := hform2
  have HO := Lib.hid (fun w h h1 h2 h3 => impl_EncoderOK e (.slice a e.z.length cp) sa sb w h hr hz h1 h2 h3)
  have HO2 := Lib.hid (fun w h h1 h2 h3 => impl_EncoderOK f (.slice a2 f.z.length cp2) sa sb w h hr2 hz2 h1 h2 h3)
  have HQ := Lib.hid (fun w h1 h2 => sl_Equal (.slice a e.z.length cp) (.slice a2 f.z.length cp2) e.z f.z w h1 h2 (by omega) (by omega))
  have B0 := Lib.hid (ecBelow2 w (.cells #[.int .i64 e.n, .int .i64 e.c, .int .i64 e.k, .string e.r, (.slice a e.z.length cp), .bool e.b, .bool e.o] 57) (.cells #[.int .i64 f.n, .int .i64 f.c, .int .i64 f.k, .string f.r, (.slice a2 f.z.length cp2), .bool f.b, .bool f.o] 57))
  have D0 : Hid (EcAt ((w.alloc (.cells #[.int .i64 e.n, .int .i64 e.c, .int .i64 e.k, .string e.r, (.slice a e.z.length cp), .bool e.b, .bool e.o] 57)).alloc (.cells #[.int .i64 f.n, .int .i64 f.c, .int .i64 f.k, .string f.r, (.slice a2 f.z.length cp2), .bool f.b, .bool f.o] 57)) w.heap.size e (.slice a e.z.length cp)) := Lib.hid (heap_alloc2_old _ _ _)
  have F0 : Hid (EcAt ((w.alloc (.cells #[.int .i64 e.n, .int .i64 e.c, .int .i64 e.k, .string e.r, (.slice a e.z.length cp), .bool e.b, .bool e.o] 57)).alloc (.cells #[.int .i64 f.n, .int .i64 f.c, .int .i64 f.k, .string f.r, (.slice a2 f.z.length cp2), .bool f.b, .bool f.o] 57)) (w.heap.size + 1) f (.slice a2 f.z.length cp2)) := Lib.hid (heap_alloc2_new _ _ _)
  have IV := Lib.hid (hv.keep B0.out)
  have IU := Lib.hid (hu.keep B0.out)
  have T1 := Lib.hid (ht.keep B0.out)
  have T2 := Lib.hid (hw.keep B0.out)
  have T3 := Lib.hid (hS.keep B0.out)
  unfold seB
  clear hv hu hl hl2 hr hr2 hz hz2 ht hw hS
  generalize ecOK e = q1 at *
  generalize ecOK f = q2 at *
  obtain ⟨n, c, k, r, z, b, o⟩ := e
  obtain ⟨n2, c2, k2, r2, z2, b2, o2⟩ := f
  unfold ecV at *
  dsimp only at *
  cases q1
  · rw [Bool.false_and]
    go_enter Tryd.func35, Tryd.ntmps35
    go_wp2_with fail
    refine (HO.out _ IV.out T1.out T2.out T3.out).mono ?_
    generalize (w.alloc (.cells #[.int .i64 n, .int .i64 c, .int .i64 k, .string r, (.slice a z.length cp), .bool b, .bool o] 57)).alloc (.cells #[.int .i64 n2, .int .i64 c2, .int .i64 k2, .string r2, (.slice a2 z2.length cp2), .bool b2, .bool o2] 57) = W at *
    rintro _ w1 ⟨rfl, b1⟩
    have D1 := Lib.hid (D0.out.keep b1)
    have F1 := Lib.hid (F0.out.keep b1)
    have B1 := Lib.hid (B0.out.trans (b1.mono B0.out.size))
    have IV1 := Lib.hid (IV.out.keep b1)
    have IU1 := Lib.hid (IU.out.keep b1)
    have X1 := Lib.hid b1
    clear b1 D0 F0 B0 IV IU
    have ⟨x0, x1, x2, x3, x4, x5, x6⟩ := ecCells D1.out
    have ⟨y0, y1, y2, y3, y4, y5, y6⟩ := ecCells F1.out
    go_wp2
    go_ret
    exact ⟨rfl, B1.out⟩
  rw [Bool.true_and]
  cases q2
  · rw [Bool.false_and]
    go_enter Tryd.func35, Tryd.ntmps35
    go_wp2_with fail
    refine (HO.out _ IV.out T1.out T2.out T3.out).mono ?_
    generalize (w.alloc (.cells #[.int .i64 n, .int .i64 c, .int .i64 k, .string r, (.slice a z.length cp), .bool b, .bool o] 57)).alloc (.cells #[.int .i64 n2, .int .i64 c2, .int .i64 k2, .string r2, (.slice a2 z2.length cp2), .bool b2, .bool o2] 57) = W at *
    rintro _ w1 ⟨rfl, b1⟩
    have D1 := Lib.hid (D0.out.keep b1)
    have F1 := Lib.hid (F0.out.keep b1)
    have B1 := Lib.hid (B0.out.trans (b1.mono B0.out.size))
    have IV1 := Lib.hid (IV.out.keep b1)
    have IU1 := Lib.hid (IU.out.keep b1)
    have X1 := Lib.hid b1
    clear b1 D0 F0 B0 IV IU
    have ⟨x0, x1, x2, x3, x4, x5, x6⟩ := ecCells D1.out
    have ⟨y0, y1, y2, y3, y4, y5, y6⟩ := ecCells F1.out
    go_wp2_with fail
    refine (HO2.out _ IU1.out (T1.out.keep X1.out) (T2.out.keep X1.out) (T3.out.keep X1.out)).mono ?_
    clear x0 x1 x2 x3 x4 x5 x6 y0 y1 y2 y3 y4 y5 y6
    rintro _ w2 ⟨rfl, b2'⟩
    have D2 := Lib.hid (D1.out.keep b2')
    have F2 := Lib.hid (F1.out.keep b2')
    have B2 := Lib.hid (B1.out.trans (b2'.mono B1.out.size))
    have IV2 := Lib.hid (IV1.out.keep b2')
    have IU2 := Lib.hid (IU1.out.keep b2')
    clear b2' D1 F1 B1 IV1 IU1 X1
    have ⟨x0, x1, x2, x3, x4, x5, x6⟩ := ecCells D2.out
    have ⟨y0, y1, y2, y3, y4, y5, y6⟩ := ecCells F2.out
    go_wp2
    go_ret
    exact ⟨rfl, B2.out⟩
  rw [Bool.true_and]
  by_cases h_r : r = r2
  case neg =>
    have e_r : (r.toList == r2.toList) = false := ba_ne h_r
    by_cases h_n : n = n2
    case neg =>
      have HE : Hid (sameE ⟨n, c, k, r, z, b, o⟩ ⟨n2, c2, k2, r2, z2, b2, o2⟩ = false) := Lib.hid (by simp [sameE, h_n])
      rw [HE.out]
      have e_n : (n == n2) = false := by rw [beq_eq_false_iff_ne]; exact h_n
      clear h_n h_r
      go_enter Tryd.func35, Tryd.ntmps35
      go_wp2_with fail
      refine (HO.out _ IV.out T1.out T2.out T3.out).mono ?_
      generalize (w.alloc (.cells #[.int .i64 n, .int .i64 c, .int .i64 k, .string r, (.slice a z.length cp), .bool b, .bool o] 57)).alloc (.cells #[.int .i64 n2, .int .i64 c2, .int .i64 k2, .string r2, (.slice a2 z2.length cp2), .bool b2, .bool o2] 57) = W at *
      rintro _ w1 ⟨rfl, b1⟩
      have D1 := Lib.hid (D0.out.keep b1)
      have F1 := Lib.hid (F0.out.keep b1)
      have B1 := Lib.hid (B0.out.trans (b1.mono B0.out.size))
      have IV1 := Lib.hid (IV.out.keep b1)
      have IU1 := Lib.hid (IU.out.keep b1)
      have X1 := Lib.hid b1
      clear b1 D0 F0 B0 IV IU
      have ⟨x0, x1, x2, x3, x4, x5, x6⟩ := ecCells D1.out
      have ⟨y0, y1, y2, y3, y4, y5, y6⟩ := ecCells F1.out
      go_wp2_with fail
      refine (HO2.out _ IU1.out (T1.out.keep X1.out) (T2.out.keep X1.out) (T3.out.keep X1.out)).mono ?_
      clear x0 x1 x2 x3 x4 x5 x6 y0 y1 y2 y3 y4 y5 y6
      rintro _ w2 ⟨rfl, b2'⟩
      have D2 := Lib.hid (D1.out.keep b2')
      have F2 := Lib.hid (F1.out.keep b2')
      have B2 := Lib.hid (B1.out.trans (b2'.mono B1.out.size))
      have IV2 := Lib.hid (IV1.out.keep b2')
      have IU2 := Lib.hid (IU1.out.keep b2')
      clear b2' D1 F1 B1 IV1 IU1 X1
      have ⟨x0, x1, x2, x3, x4, x5, x6⟩ := ecCells D2.out
      have ⟨y0, y1, y2, y3, y4, y5, y6⟩ := ecCells F2.out
      go_wp2
      go_ret
      exact ⟨rfl, B2.out⟩
    subst h_n
    by_cases h_c : c = c2
    case neg =>
      have HE : Hid (sameE ⟨n, c, k, r, z, b, o⟩ ⟨n, c2, k2, r2, z2, b2, o2⟩ = false) := Lib.hid (by simp [sameE, h_c])
      rw [HE.out]
      have e_c : (c == c2) = false := by rw [beq_eq_false_iff_ne]; exact h_c
      clear h_c h_r
      go_enter Tryd.func35, Tryd.ntmps35
      go_wp2_with fail
      refine (HO.out _ IV.out T1.out T2.out T3.out).mono ?_
      generalize (w.alloc (.cells #[.int .i64 n, .int .i64 c, .int .i64 k, .string r, (.slice a z.length cp), .bool b, .bool o] 57)).alloc (.cells #[.int .i64 n, .int .i64 c2, .int .i64 k2, .string r2, (.slice a2 z2.length cp2), .bool b2, .bool o2] 57) = W at *
      rintro _ w1 ⟨rfl, b1⟩
      have D1 := Lib.hid (D0.out.keep b1)
      have F1 := Lib.hid (F0.out.keep b1)
      have B1 := Lib.hid (B0.out.trans (b1.mono B0.out.size))
      have IV1 := Lib.hid (IV.out.keep b1)
      have IU1 := Lib.hid (IU.out.keep b1)
      have X1 := Lib.hid b1
      clear b1 D0 F0 B0 IV IU
      have ⟨x0, x1, x2, x3, x4, x5, x6⟩ := ecCells D1.out
      have ⟨y0, y1, y2, y3, y4, y5, y6⟩ := ecCells F1.out
      go_wp2_with fail
      refine (HO2.out _ IU1.out (T1.out.keep X1.out) (T2.out.keep X1.out) (T3.out.keep X1.out)).mono ?_
      clear x0 x1 x2 x3 x4 x5 x6 y0 y1 y2 y3 y4 y5 y6
      rintro _ w2 ⟨rfl, b2'⟩
      have D2 := Lib.hid (D1.out.keep b2')
      have F2 := Lib.hid (F1.out.keep b2')
      have B2 := Lib.hid (B1.out.trans (b2'.mono B1.out.size))
      have IV2 := Lib.hid (IV1.out.keep b2')
      have IU2 := Lib.hid (IU1.out.keep b2')
      clear b2' D1 F1 B1 IV1 IU1 X1
      have ⟨x0, x1, x2, x3, x4, x5, x6⟩ := ecCells D2.out
      have ⟨y0, y1, y2, y3, y4, y5, y6⟩ := ecCells F2.out
      go_wp2
      go_ret
      exact ⟨rfl, B2.out⟩
    subst h_c
    by_cases h_k : k = k2
    case neg =>
      have HE : Hid (sameE ⟨n, c, k, r, z, b, o⟩ ⟨n, c, k2, r2, z2, b2, o2⟩ = false) := Lib.hid (by simp [sameE, h_k])
      rw [HE.out]
      have e_k : (k == k2) = false := by rw [beq_eq_false_iff_ne]; exact h_k
      clear h_k h_r
      go_enter Tryd.func35, Tryd.ntmps35
      go_wp2_with fail
      refine (HO.out _ IV.out T1.out T2.out T3.out).mono ?_
      generalize (w.alloc (.cells #[.int .i64 n, .int .i64 c, .int .i64 k, .string r, (.slice a z.length cp), .bool b, .bool o] 57)).alloc (.cells #[.int .i64 n, .int .i64 c, .int .i64 k2, .string r2, (.slice a2 z2.length cp2), .bool b2, .bool o2] 57) = W at *
      rintro _ w1 ⟨rfl, b1⟩
      have D1 := Lib.hid (D0.out.keep b1)
      have F1 := Lib.hid (F0.out.keep b1)
      have B1 := Lib.hid (B0.out.trans (b1.mono B0.out.size))
      have IV1 := Lib.hid (IV.out.keep b1)
      have IU1 := Lib.hid (IU.out.keep b1)
      have X1 := Lib.hid b1
      clear b1 D0 F0 B0 IV IU
      have ⟨x0, x1, x2, x3, x4, x5, x6⟩ := ecCells D1.out
      have ⟨y0, y1, y2, y3, y4, y5, y6⟩ := ecCells F1.out
      go_wp2_with fail
      refine (HO2.out _ IU1.out (T1.out.keep X1.out) (T2.out.keep X1.out) (T3.out.keep X1.out)).mono ?_
      clear x0 x1 x2 x3 x4 x5 x6 y0 y1 y2 y3 y4 y5 y6
      rintro _ w2 ⟨rfl, b2'⟩
      have D2 := Lib.hid (D1.out.keep b2')
      have F2 := Lib.hid (F1.out.keep b2')
      have B2 := Lib.hid (B1.out.trans (b2'.mono B1.out.size))
      have IV2 := Lib.hid (IV1.out.keep b2')
      have IU2 := Lib.hid (IU1.out.keep b2')
      clear b2' D1 F1 B1 IV1 IU1 X1
      have ⟨x0, x1, x2, x3, x4, x5, x6⟩ := ecCells D2.out
      have ⟨y0, y1, y2, y3, y4, y5, y6⟩ := ecCells F2.out
      go_wp2
      go_ret
      exact ⟨rfl, B2.out⟩
    subst h_k
    have HE : Hid (sameE ⟨n, c, k, r, z, b, o⟩ ⟨n, c, k, r2, z2, b2, o2⟩ = false) := Lib.hid (by simp [sameE, h_r])
    rw [HE.out]
    clear h_r
    go_enter Tryd.func35, Tryd.ntmps35
    go_wp2_with fail
    refine (HO.out _ IV.out T1.out T2.out T3.out).mono ?_
    generalize (w.alloc (.cells #[.int .i64 n, .int .i64 c, .int .i64 k, .string r, (.slice a z.length cp), .bool b, .bool o] 57)).alloc (.cells #[.int .i64 n, .int .i64 c, .int .i64 k, .string r2, (.slice a2 z2.length cp2), .bool b2, .bool o2] 57) = W at *
    rintro _ w1 ⟨rfl, b1⟩
    have D1 := Lib.hid (D0.out.keep b1)
    have F1 := Lib.hid (F0.out.keep b1)
    have B1 := Lib.hid (B0.out.trans (b1.mono B0.out.size))
    have IV1 := Lib.hid (IV.out.keep b1)
    have IU1 := Lib.hid (IU.out.keep b1)
    have X1 := Lib.hid b1
    clear b1 D0 F0 B0 IV IU
    have ⟨x0, x1, x2, x3, x4, x5, x6⟩ := ecCells D1.out
    have ⟨y0, y1, y2, y3, y4, y5, y6⟩ := ecCells F1.out
    go_wp2_with fail
    refine (HO2.out _ IU1.out (T1.out.keep X1.out) (T2.out.keep X1.out) (T3.out.keep X1.out)).mono ?_
    clear x0 x1 x2 x3 x4 x5 x6 y0 y1 y2 y3 y4 y5 y6
    rintro _ w2 ⟨rfl, b2'⟩
    have D2 := Lib.hid (D1.out.keep b2')
    have F2 := Lib.hid (F1.out.keep b2')
    have B2 := Lib.hid (B1.out.trans (b2'.mono B1.out.size))
    have IV2 := Lib.hid (IV1.out.keep b2')
    have IU2 := Lib.hid (IU1.out.keep b2')
    clear b2' D1 F1 B1 IV1 IU1 X1
    have ⟨x0, x1, x2, x3, x4, x5, x6⟩ := ecCells D2.out
    have ⟨y0, y1, y2, y3, y4, y5, y6⟩ := ecCells F2.out
    go_wp2
    go_ret
    exact ⟨rfl, B2.out⟩
  subst h_r
  by_cases h_n : n = n2
  case neg =>
    have HE : Hid (sameE ⟨n, c, k, r, z, b, o⟩ ⟨n2, c2, k2, r, z2, b2, o2⟩ = false) := Lib.hid (by simp [sameE, h_n])
    rw [HE.out]
    have e_n : (n == n2) = false := by rw [beq_eq_false_iff_ne]; exact h_n
    generalize decide (z = z2) = dz at *
    clear h_n
    go_enter Tryd.func35, Tryd.ntmps35
    go_wp2_with fail
    refine (HO.out _ IV.out T1.out T2.out T3.out).mono ?_
    generalize (w.alloc (.cells #[.int .i64 n, .int .i64 c, .int .i64 k, .string r, (.slice a z.length cp), .bool b, .bool o] 57)).alloc (.cells #[.int .i64 n2, .int .i64 c2, .int .i64 k2, .string r, (.slice a2 z2.length cp2), .bool b2, .bool o2] 57) = W at *
    rintro _ w1 ⟨rfl, b1⟩
    have D1 := Lib.hid (D0.out.keep b1)
    have F1 := Lib.hid (F0.out.keep b1)
    have B1 := Lib.hid (B0.out.trans (b1.mono B0.out.size))
    have IV1 := Lib.hid (IV.out.keep b1)
    have IU1 := Lib.hid (IU.out.keep b1)
    have X1 := Lib.hid b1
    clear b1 D0 F0 B0 IV IU
    have ⟨x0, x1, x2, x3, x4, x5, x6⟩ := ecCells D1.out
    have ⟨y0, y1, y2, y3, y4, y5, y6⟩ := ecCells F1.out
    go_wp2_with fail
    refine (HO2.out _ IU1.out (T1.out.keep X1.out) (T2.out.keep X1.out) (T3.out.keep X1.out)).mono ?_
    clear x0 x1 x2 x3 x4 x5 x6 y0 y1 y2 y3 y4 y5 y6
    rintro _ w2 ⟨rfl, b2'⟩
    have D2 := Lib.hid (D1.out.keep b2')
    have F2 := Lib.hid (F1.out.keep b2')
    have B2 := Lib.hid (B1.out.trans (b2'.mono B1.out.size))
    have IV2 := Lib.hid (IV1.out.keep b2')
    have IU2 := Lib.hid (IU1.out.keep b2')
    clear b2' D1 F1 B1 IV1 IU1 X1
    have ⟨x0, x1, x2, x3, x4, x5, x6⟩ := ecCells D2.out
    have ⟨y0, y1, y2, y3, y4, y5, y6⟩ := ecCells F2.out
    go_wp2_with fail
    refine (HQ.out _ IV2.out IU2.out).mono ?_
    clear x0 x1 x2 x3 x4 x5 x6 y0 y1 y2 y3 y4 y5 y6
    rintro _ w3 ⟨rfl, q, rfl⟩
    have B3 := Lib.hid (below_drewN B2.out q)
    have ⟨x0, x1, x2, x3, x4, x5, x6⟩ := ecCells (D2.out.keep (below_drewN (Below.refl _ _) q))
    have ⟨y0, y1, y2, y3, y4, y5, y6⟩ := ecCells (F2.out.keep (below_drewN (Below.refl _ _) q))
    go_wp2
    go_ret
    exact ⟨rfl, B3.out⟩
  subst h_n
  by_cases h_c : c = c2
  case neg =>
    have HE : Hid (sameE ⟨n, c, k, r, z, b, o⟩ ⟨n, c2, k2, r, z2, b2, o2⟩ = false) := Lib.hid (by simp [sameE, h_c])
    rw [HE.out]
    have e_c : (c == c2) = false := by rw [beq_eq_false_iff_ne]; exact h_c
    generalize decide (z = z2) = dz at *
    clear h_c
    go_enter Tryd.func35, Tryd.ntmps35
    go_wp2_with fail
    refine (HO.out _ IV.out T1.out T2.out T3.out).mono ?_
    generalize (w.alloc (.cells #[.int .i64 n, .int .i64 c, .int .i64 k, .string r, (.slice a z.length cp), .bool b, .bool o] 57)).alloc (.cells #[.int .i64 n, .int .i64 c2, .int .i64 k2, .string r, (.slice a2 z2.length cp2), .bool b2, .bool o2] 57) = W at *
    rintro _ w1 ⟨rfl, b1⟩
    have D1 := Lib.hid (D0.out.keep b1)
    have F1 := Lib.hid (F0.out.keep b1)
    have B1 := Lib.hid (B0.out.trans (b1.mono B0.out.size))
    have IV1 := Lib.hid (IV.out.keep b1)
    have IU1 := Lib.hid (IU.out.keep b1)
    have X1 := Lib.hid b1
    clear b1 D0 F0 B0 IV IU
    have ⟨x0, x1, x2, x3, x4, x5, x6⟩ := ecCells D1.out
    have ⟨y0, y1, y2, y3, y4, y5, y6⟩ := ecCells F1.out
    go_wp2_with fail
    refine (HO2.out _ IU1.out (T1.out.keep X1.out) (T2.out.keep X1.out) (T3.out.keep X1.out)).mono ?_
    clear x0 x1 x2 x3 x4 x5 x6 y0 y1 y2 y3 y4 y5 y6
    rintro _ w2 ⟨rfl, b2'⟩
    have D2 := Lib.hid (D1.out.keep b2')
    have F2 := Lib.hid (F1.out.keep b2')
    have B2 := Lib.hid (B1.out.trans (b2'.mono B1.out.size))
    have IV2 := Lib.hid (IV1.out.keep b2')
    have IU2 := Lib.hid (IU1.out.keep b2')
    clear b2' D1 F1 B1 IV1 IU1 X1
    have ⟨x0, x1, x2, x3, x4, x5, x6⟩ := ecCells D2.out
    have ⟨y0, y1, y2, y3, y4, y5, y6⟩ := ecCells F2.out
    go_wp2_with fail
    refine (HQ.out _ IV2.out IU2.out).mono ?_
    clear x0 x1 x2 x3 x4 x5 x6 y0 y1 y2 y3 y4 y5 y6
    rintro _ w3 ⟨rfl, q, rfl⟩
    have B3 := Lib.hid (below_drewN B2.out q)
    have ⟨x0, x1, x2, x3, x4, x5, x6⟩ := ecCells (D2.out.keep (below_drewN (Below.refl _ _) q))
    have ⟨y0, y1, y2, y3, y4, y5, y6⟩ := ecCells (F2.out.keep (below_drewN (Below.refl _ _) q))
    go_wp2
    go_ret
    exact ⟨rfl, B3.out⟩
  subst h_c
  by_cases h_k : k = k2
  case neg =>
    have HE : Hid (sameE ⟨n, c, k, r, z, b, o⟩ ⟨n, c, k2, r, z2, b2, o2⟩ = false) := Lib.hid (by simp [sameE, h_k])
    rw [HE.out]
    have e_k : (k == k2) = false := by rw [beq_eq_false_iff_ne]; exact h_k
    generalize decide (z = z2) = dz at *
    clear h_k
    go_enter Tryd.func35, Tryd.ntmps35
    go_wp2_with fail
    refine (HO.out _ IV.out T1.out T2.out T3.out).mono ?_
    generalize (w.alloc (.cells #[.int .i64 n, .int .i64 c, .int .i64 k, .string r, (.slice a z.length cp), .bool b, .bool o] 57)).alloc (.cells #[.int .i64 n, .int .i64 c, .int .i64 k2, .string r, (.slice a2 z2.length cp2), .bool b2, .bool o2] 57) = W at *
    rintro _ w1 ⟨rfl, b1⟩
    have D1 := Lib.hid (D0.out.keep b1)
    have F1 := Lib.hid (F0.out.keep b1)
    have B1 := Lib.hid (B0.out.trans (b1.mono B0.out.size))
    have IV1 := Lib.hid (IV.out.keep b1)
    have IU1 := Lib.hid (IU.out.keep b1)
    have X1 := Lib.hid b1
    clear b1 D0 F0 B0 IV IU
    have ⟨x0, x1, x2, x3, x4, x5, x6⟩ := ecCells D1.out
    have ⟨y0, y1, y2, y3, y4, y5, y6⟩ := ecCells F1.out
    go_wp2_with fail
    refine (HO2.out _ IU1.out (T1.out.keep X1.out) (T2.out.keep X1.out) (T3.out.keep X1.out)).mono ?_
    clear x0 x1 x2 x3 x4 x5 x6 y0 y1 y2 y3 y4 y5 y6
    rintro _ w2 ⟨rfl, b2'⟩
    have D2 := Lib.hid (D1.out.keep b2')
    have F2 := Lib.hid (F1.out.keep b2')
    have B2 := Lib.hid (B1.out.trans (b2'.mono B1.out.size))
    have IV2 := Lib.hid (IV1.out.keep b2')
    have IU2 := Lib.hid (IU1.out.keep b2')
    clear b2' D1 F1 B1 IV1 IU1 X1
    have ⟨x0, x1, x2, x3, x4, x5, x6⟩ := ecCells D2.out
    have ⟨y0, y1, y2, y3, y4, y5, y6⟩ := ecCells F2.out
    go_wp2_with fail
    refine (HQ.out _ IV2.out IU2.out).mono ?_
    clear x0 x1 x2 x3 x4 x5 x6 y0 y1 y2 y3 y4 y5 y6
    rintro _ w3 ⟨rfl, q, rfl⟩
    have B3 := Lib.hid (below_drewN B2.out q)
    have ⟨x0, x1, x2, x3, x4, x5, x6⟩ := ecCells (D2.out.keep (below_drewN (Below.refl _ _) q))
    have ⟨y0, y1, y2, y3, y4, y5, y6⟩ := ecCells (F2.out.keep (below_drewN (Below.refl _ _) q))
    go_wp2
    go_ret
    exact ⟨rfl, B3.out⟩
  subst h_k
  by_cases h_z : z = z2
  case neg =>
    have HE : Hid (sameE ⟨n, c, k, r, z, b, o⟩ ⟨n, c, k, r, z2, b2, o2⟩ = false) := Lib.hid (by simp [sameE, h_z])
    rw [HE.out]
    rw [decide_eq_false h_z] at HQ
    clear h_z
    go_enter Tryd.func35, Tryd.ntmps35
    go_wp2_with fail
    refine (HO.out _ IV.out T1.out T2.out T3.out).mono ?_
    generalize (w.alloc (.cells #[.int .i64 n, .int .i64 c, .int .i64 k, .string r, (.slice a z.length cp), .bool b, .bool o] 57)).alloc (.cells #[.int .i64 n, .int .i64 c, .int .i64 k, .string r, (.slice a2 z2.length cp2), .bool b2, .bool o2] 57) = W at *
    rintro _ w1 ⟨rfl, b1⟩
    have D1 := Lib.hid (D0.out.keep b1)
    have F1 := Lib.hid (F0.out.keep b1)
    have B1 := Lib.hid (B0.out.trans (b1.mono B0.out.size))
    have IV1 := Lib.hid (IV.out.keep b1)
    have IU1 := Lib.hid (IU.out.keep b1)
    have X1 := Lib.hid b1
    clear b1 D0 F0 B0 IV IU
    have ⟨x0, x1, x2, x3, x4, x5, x6⟩ := ecCells D1.out
    have ⟨y0, y1, y2, y3, y4, y5, y6⟩ := ecCells F1.out
    go_wp2_with fail
    refine (HO2.out _ IU1.out (T1.out.keep X1.out) (T2.out.keep X1.out) (T3.out.keep X1.out)).mono ?_
    clear x0 x1 x2 x3 x4 x5 x6 y0 y1 y2 y3 y4 y5 y6
    rintro _ w2 ⟨rfl, b2'⟩
    have D2 := Lib.hid (D1.out.keep b2')
    have F2 := Lib.hid (F1.out.keep b2')
    have B2 := Lib.hid (B1.out.trans (b2'.mono B1.out.size))
    have IV2 := Lib.hid (IV1.out.keep b2')
    have IU2 := Lib.hid (IU1.out.keep b2')
    clear b2' D1 F1 B1 IV1 IU1 X1
    have ⟨x0, x1, x2, x3, x4, x5, x6⟩ := ecCells D2.out
    have ⟨y0, y1, y2, y3, y4, y5, y6⟩ := ecCells F2.out
    go_wp2_with fail
    refine (HQ.out _ IV2.out IU2.out).mono ?_
    clear x0 x1 x2 x3 x4 x5 x6 y0 y1 y2 y3 y4 y5 y6
    rintro _ w3 ⟨rfl, q, rfl⟩
    have B3 := Lib.hid (below_drewN B2.out q)
    have ⟨x0, x1, x2, x3, x4, x5, x6⟩ := ecCells (D2.out.keep (below_drewN (Below.refl _ _) q))
    have ⟨y0, y1, y2, y3, y4, y5, y6⟩ := ecCells (F2.out.keep (below_drewN (Below.refl _ _) q))
    go_wp2
    go_ret
    exact ⟨rfl, B3.out⟩
  rw [decide_eq_true h_z] at HQ
  by_cases h_b : b = b2
  case neg =>
    have HE : Hid (sameE ⟨n, c, k, r, z, b, o⟩ ⟨n, c, k, r, z2, b2, o2⟩ = false) := Lib.hid (by simp [sameE, h_b])
    rw [HE.out]
    have e_b : (b == b2) = false := by rw [beq_eq_false_iff_ne]; exact h_b
    clear h_b h_z
    go_enter Tryd.func35, Tryd.ntmps35
    go_wp2_with fail
    refine (HO.out _ IV.out T1.out T2.out T3.out).mono ?_
    generalize (w.alloc (.cells #[.int .i64 n, .int .i64 c, .int .i64 k, .string r, (.slice a z.length cp), .bool b, .bool o] 57)).alloc (.cells #[.int .i64 n, .int .i64 c, .int .i64 k, .string r, (.slice a2 z2.length cp2), .bool b2, .bool o2] 57) = W at *
    rintro _ w1 ⟨rfl, b1⟩
    have D1 := Lib.hid (D0.out.keep b1)
    have F1 := Lib.hid (F0.out.keep b1)
    have B1 := Lib.hid (B0.out.trans (b1.mono B0.out.size))
    have IV1 := Lib.hid (IV.out.keep b1)
    have IU1 := Lib.hid (IU.out.keep b1)
    have X1 := Lib.hid b1
    clear b1 D0 F0 B0 IV IU
    have ⟨x0, x1, x2, x3, x4, x5, x6⟩ := ecCells D1.out
    have ⟨y0, y1, y2, y3, y4, y5, y6⟩ := ecCells F1.out
    go_wp2_with fail
    refine (HO2.out _ IU1.out (T1.out.keep X1.out) (T2.out.keep X1.out) (T3.out.keep X1.out)).mono ?_
    clear x0 x1 x2 x3 x4 x5 x6 y0 y1 y2 y3 y4 y5 y6
    rintro _ w2 ⟨rfl, b2'⟩
    have D2 := Lib.hid (D1.out.keep b2')
    have F2 := Lib.hid (F1.out.keep b2')
    have B2 := Lib.hid (B1.out.trans (b2'.mono B1.out.size))
    have IV2 := Lib.hid (IV1.out.keep b2')
    have IU2 := Lib.hid (IU1.out.keep b2')
    clear b2' D1 F1 B1 IV1 IU1 X1
    have ⟨x0, x1, x2, x3, x4, x5, x6⟩ := ecCells D2.out
    have ⟨y0, y1, y2, y3, y4, y5, y6⟩ := ecCells F2.out
    go_wp2_with fail
    refine (HQ.out _ IV2.out IU2.out).mono ?_
    clear x0 x1 x2 x3 x4 x5 x6 y0 y1 y2 y3 y4 y5 y6
    rintro _ w3 ⟨rfl, q, rfl⟩
    have B3 := Lib.hid (below_drewN B2.out q)
    have ⟨x0, x1, x2, x3, x4, x5, x6⟩ := ecCells (D2.out.keep (below_drewN (Below.refl _ _) q))
    have ⟨y0, y1, y2, y3, y4, y5, y6⟩ := ecCells (F2.out.keep (below_drewN (Below.refl _ _) q))
    go_wp2
    go_ret
    exact ⟨rfl, B3.out⟩
  subst h_b
  by_cases h_o : o = o2
  case neg =>
    have HE : Hid (sameE ⟨n, c, k, r, z, b, o⟩ ⟨n, c, k, r, z2, b, o2⟩ = false) := Lib.hid (by simp [sameE, h_o])
    rw [HE.out]
    have e_o : (o == o2) = false := by rw [beq_eq_false_iff_ne]; exact h_o
    clear h_o h_z
    go_enter Tryd.func35, Tryd.ntmps35
    go_wp2_with fail
    refine (HO.out _ IV.out T1.out T2.out T3.out).mono ?_
    generalize (w.alloc (.cells #[.int .i64 n, .int .i64 c, .int .i64 k, .string r, (.slice a z.length cp), .bool b, .bool o] 57)).alloc (.cells #[.int .i64 n, .int .i64 c, .int .i64 k, .string r, (.slice a2 z2.length cp2), .bool b, .bool o2] 57) = W at *
    rintro _ w1 ⟨rfl, b1⟩
    have D1 := Lib.hid (D0.out.keep b1)
    have F1 := Lib.hid (F0.out.keep b1)
    have B1 := Lib.hid (B0.out.trans (b1.mono B0.out.size))
    have IV1 := Lib.hid (IV.out.keep b1)
    have IU1 := Lib.hid (IU.out.keep b1)
    have X1 := Lib.hid b1
    clear b1 D0 F0 B0 IV IU
    have ⟨x0, x1, x2, x3, x4, x5, x6⟩ := ecCells D1.out
    have ⟨y0, y1, y2, y3, y4, y5, y6⟩ := ecCells F1.out
    go_wp2_with fail
    refine (HO2.out _ IU1.out (T1.out.keep X1.out) (T2.out.keep X1.out) (T3.out.keep X1.out)).mono ?_
    clear x0 x1 x2 x3 x4 x5 x6 y0 y1 y2 y3 y4 y5 y6
    rintro _ w2 ⟨rfl, b2'⟩
    have D2 := Lib.hid (D1.out.keep b2')
    have F2 := Lib.hid (F1.out.keep b2')
    have B2 := Lib.hid (B1.out.trans (b2'.mono B1.out.size))
    have IV2 := Lib.hid (IV1.out.keep b2')
    have IU2 := Lib.hid (IU1.out.keep b2')
    clear b2' D1 F1 B1 IV1 IU1 X1
    have ⟨x0, x1, x2, x3, x4, x5, x6⟩ := ecCells D2.out
    have ⟨y0, y1, y2, y3, y4, y5, y6⟩ := ecCells F2.out
    go_wp2_with fail
    refine (HQ.out _ IV2.out IU2.out).mono ?_
    clear x0 x1 x2 x3 x4 x5 x6 y0 y1 y2 y3 y4 y5 y6
    rintro _ w3 ⟨rfl, q, rfl⟩
    have B3 := Lib.hid (below_drewN B2.out q)
    have ⟨x0, x1, x2, x3, x4, x5, x6⟩ := ecCells (D2.out.keep (below_drewN (Below.refl _ _) q))
    have ⟨y0, y1, y2, y3, y4, y5, y6⟩ := ecCells (F2.out.keep (below_drewN (Below.refl _ _) q))
    go_wp2
    go_ret
    exact ⟨rfl, B3.out⟩
  subst h_o
  have HE : Hid (sameE ⟨n, c, k, r, z, b, o⟩ ⟨n, c, k, r, z2, b, o⟩ = true) := Lib.hid (by simp [sameE, h_z])
  rw [HE.out]
  clear h_z
  go_enter Tryd.func35, Tryd.ntmps35
  go_wp2_with fail
  refine (HO.out _ IV.out T1.out T2.out T3.out).mono ?_
  generalize (w.alloc (.cells #[.int .i64 n, .int .i64 c, .int .i64 k, .string r, (.slice a z.length cp), .bool b, .bool o] 57)).alloc (.cells #[.int .i64 n, .int .i64 c, .int .i64 k, .string r, (.slice a2 z2.length cp2), .bool b, .bool o] 57) = W at *
  rintro _ w1 ⟨rfl, b1⟩
  have D1 := Lib.hid (D0.out.keep b1)
  have F1 := Lib.hid (F0.out.keep b1)
  have B1 := Lib.hid (B0.out.trans (b1.mono B0.out.size))
  have IV1 := Lib.hid (IV.out.keep b1)
  have IU1 := Lib.hid (IU.out.keep b1)
  have X1 := Lib.hid b1
  clear b1 D0 F0 B0 IV IU
  have ⟨x0, x1, x2, x3, x4, x5, x6⟩ := ecCells D1.out
  have ⟨y0, y1, y2, y3, y4, y5, y6⟩ := ecCells F1.out
  go_wp2_with fail
  refine (HO2.out _ IU1.out (T1.out.keep X1.out) (T2.out.keep X1.out) (T3.out.keep X1.out)).mono ?_
  clear x0 x1 x2 x3 x4 x5 x6 y0 y1 y2 y3 y4 y5 y6
  rintro _ w2 ⟨rfl, b2'⟩
  have D2 := Lib.hid (D1.out.keep b2')
  have F2 := Lib.hid (F1.out.keep b2')
  have B2 := Lib.hid (B1.out.trans (b2'.mono B1.out.size))
  have IV2 := Lib.hid (IV1.out.keep b2')
  have IU2 := Lib.hid (IU1.out.keep b2')
  clear b2' D1 F1 B1 IV1 IU1 X1
  have ⟨x0, x1, x2, x3, x4, x5, x6⟩ := ecCells D2.out
  have ⟨y0, y1, y2, y3, y4, y5, y6⟩ := ecCells F2.out
  go_wp2_with fail
  refine (HQ.out _ IV2.out IU2.out).mono ?_
  clear x0 x1 x2 x3 x4 x5 x6 y0 y1 y2 y3 y4 y5 y6
  rintro _ w3 ⟨rfl, q, rfl⟩
  have B3 := Lib.hid (below_drewN B2.out q)
  have ⟨x0, x1, x2, x3, x4, x5, x6⟩ := ecCells (D2.out.keep (below_drewN (Below.refl _ _) q))
  have ⟨y0, y1, y2, y3, y4, y5, y6⟩ := ecCells (F2.out.keep (below_drewN (Below.refl _ _) q))
  go_wp2
  go_ret
  exact ⟨rfl, B3.out⟩

end Go.Proofs.YtdckjhobikfggaaDoor

namespace Go.Proofs.YtdckjhobikfggaaDoor
open Go.ChangeShapes Go.WideShapes Go.ChangeAt Go.RowKit

theorem gWords : Tryd.prog.globalNamed "loop.example/g00748/impl.codeWords" = some 1 := by kernel_rfl
theorem tWords : (Tryd.prog.globals[1]?).map (·.type) = some 125 := by kernel_rfl
theorem laid_words {H : Type} : (Rows.laid_loop_example_g00748_impl_codeWords : DataW H) = .agg ((words.map fun b => b.data.toList).map fun s => .lit (.string s)) := rfl

theorem tab_of_laid {W : World} (h : laidMetH Tryd.prog [("loop.example/g00748/impl.codeWords", Rows.laid_loop_example_g00748_impl_codeWords)] W) : TabWords W := by
  rw [MakeChecks.laidMetH_plain _ _ _ (by kernel_rfl)] at h
  obtain ⟨ps, ⟨g0, t0, cs0, f0, p0, q0, hg0, ht0, hv0, hd0, _, _⟩, _, _⟩ := h
  obtain rfl := Option.some.inj (gWords.symm.trans hg0)
  obtain rfl := Option.some.inj (tWords.symm.trans ht0)
  rw [laid_words] at hd0
  have h1 := strTab Tryd.underlying125 Tryd.underlying9 (by kernel_rfl) _ hd0
  have hlen : cs0.size = 19 := by
    obtain ⟨_, _, _, _, hl, _⟩ := DataW.trod_array Tryd.underlying125 hd0
    have c19 : Tryd.prog.cellsOf 125 = 19 := by kernel_rfl
    rw [c19] at hl
    simpa using hl
  have hcs : cs0 = (words.map Value.string).toArray := by
    apply Array.ext_getElem?
    intro k
    by_cases hk : k < 19
    · have h2 := h1 k hk
      rw [Array.getElem?_toList] at h2
      rw [h2]
      have hl : words.length = 19 := rfl
      simp [List.getD, List.getElem?_eq_getElem (show k < words.length by omega)]
    · rw [Array.getElem?_eq_none (by omega), Array.getElem?_eq_none (by show 19 ≤ k; omega)]
  subst hcs
  unfold World.var? at hv0
  rw [hg0] at hv0
  simp only [Option.bind_some] at hv0
  split at hv0
  · next cs elem frozen hh =>
    cases hv0
    exact ⟨elem, frozen, hh⟩
  · cases hv0

theorem tab_readable : ∀ n ∈ ["loop.example/g00748/impl.codeWords"], ∀ g t, Tryd.prog.globalNamed n = some g → (Tryd.prog.globals[g]?).map (·.type) = some t → Tryd.prog.readableRec t = true ∧ t < Tryd.prog.types.size := by
  intro n hn g t hg ht
  obtain rfl : n = _ := List.mem_singleton.1 hn
  obtain rfl := Option.some.inj (gWords.symm.trans hg)
  obtain rfl := Option.some.inj (tWords.symm.trans ht)
  exact ⟨by kernel_rfl, of_decide_eq_true (by kernel_rfl)⟩

end Go.Proofs.YtdckjhobikfggaaDoor

namespace Go.Proofs.YtdckjhobikfggaaDoor
open Go.ChangeShapes Go.WideShapes Go.ChangeAt Go.RowKit

theorem gReg : Tryd.prog.globalNamed "loop.example/g00748/impl.registry" = some 4 := by kernel_rfl
theorem tReg : (Tryd.prog.globals[4]?).map (·.type) = some 191 := by kernel_rfl
def spD {H : Type} (s : Sp) : DataW H := .agg [.lit (.int .i64 s.1), .lit (.int .i64 s.2.1), .lit (.int .i64 s.2.2)]
def setD {H : Type} (k : Nat) : DataW H := .agg [.lit (.string (setName k).data.toList), .lit (.int .i64 (setKind k)), .lit (.int .i64 (setFinal k)), .slice ((setSpans k).map spD) []]
def regD {H : Type} : List (DataW H) := .agg [.lit (.string []), .lit (.int .i64 0), .lit (.int .i64 0), .nil] :: [setD 1, setD 2, setD 3, setD 4, setD 5, setD 6, setD 7, setD 8]
theorem laid_reg {H : Type} : (Rows.laid_loop_example_g00748_impl_registry : DataW H) = .agg regD := by kernel_rfl
theorem regD_at {H : Type} (k : Nat) (h1 : 1 ≤ k) (h8 : k ≤ 8) : (regD (H := H))[k]? = some (setD k) := by
  have : k = 1 ∨ k = 2 ∨ k = 3 ∨ k = 4 ∨ k = 5 ∨ k = 6 ∨ k = 7 ∨ k = 8 := by omega
  rcases this with rfl | rfl | rfl | rfl | rfl | rfl | rfl | rfl <;> rfl

theorem one_of_take {cs : List Value} {i : Nat} {c : Value} (h : (cs.drop i).take 1 = [c]) : cs[i]? = some c := by
  have := congrArg (fun l => l[0]?) h
  simpa [List.getElem?_take, List.getElem?_drop] using this

set_option maxRecDepth 100000 in
/-- A slice of spans, read. -/
theorem spans_of {H : Type} {enc : TypeId × Value → H} {W : World} {held : Bool} {fuel : Nat} {c : Value} {sp : List Sp} {p : List MemPlace} (hne : sp ≠ [])
    (h : DataW.trod enc Tryd.prog W 0 (fun _ => true) held fuel 149 [c] = some (.slice (sp.map spD) [], p)) : SpAt W c sp := by
  rcases Deep.open_slice Tryd.underlying149 h with ⟨_, hx⟩ | ⟨a, len, cap, m, n, D, Pl, hcs, _, hl, _, hm, hx, hel⟩
  · simp at hx
  · simp only [if_true] at hm
    have e1 := congrArg Prod.fst hx
    simp only [DataW.slice.injEq] at e1
    obtain ⟨e2, e3⟩ := e1
    have hlen : len = sp.length := by simpa using (congrArg List.length e2).symm
    subst hlen
    have c3 : Tryd.prog.cellsOf 184 = 3 := by kernel_rfl
    rw [c3] at hel
    have key : ∀ i (hi : i < sp.length), W.cell? (a.add (i * 3)) = some (.int .i64 (sp[i]).1) ∧ W.cell? ((a.add (i * 3)).add 1) = some (.int .i64 (sp[i]).2.1) ∧ W.cell? ((a.add (i * 3)).add 2) = some (.int .i64 (sp[i]).2.2) := by
      intro i hi
      obtain ⟨cs', h1, h2⟩ := hel i (by omega)
      obtain ⟨_, hlen3, hc⟩ := World.cells?_some h1
      have hD : D i = spD (sp[i]) := by
        have := congrArg (fun l => l[i]?) e2
        simp only [List.getElem?_map, List.getElem?_eq_getElem hi, Option.map_some, List.getElem?_range hi, Option.some.injEq] at this
        exact this.symm
      obtain ⟨y0, y1, y2, q, hy, _, t0, t1, t2⟩ := Deep.trod_struct3 Tryd.underlying184 h2
      have c1 : Tryd.prog.cellsOf 3 = 1 := by kernel_rfl
      obtain ⟨n0, f0, rfl, _⟩ := DataW.trod_int Tryd.underlying3 t0
      obtain ⟨n1, f1, rfl, _⟩ := DataW.trod_int Tryd.underlying3 t1
      obtain ⟨n2, f2, rfl, _⟩ := DataW.trod_int Tryd.underlying3 t2
      have hy1 := congrArg Prod.fst hy
      rw [hD] at hy1
      simp only [spD, DataW.agg.injEq, List.cons.injEq, DataW.lit.injEq, Lit.int.injEq, true_and, and_true] at hy1
      obtain ⟨g0, g1, g2⟩ := hy1
      have k0 := one_of_take (c := .int .i64 n0) (i := 0) (by rw [← c1]; exact f0)
      have k1 := one_of_take (c := .int .i64 n1) (i := 1) (by rw [← c1]; exact f1)
      have k2 := one_of_take (c := .int .i64 n2) (i := 2) (by rw [← c1]; exact f2)
      refine ⟨?_, ?_, ?_⟩
      · have := hc 0 (by omega)
        rw [k0, ← g0] at this
        simpa [Addr.add] using this
      · rw [hc 1 (by omega), k1, ← g1]
      · rw [hc 2 (by omega), k2, ← g2]
    simp only [List.cons.injEq, and_true] at hcs
    subst hcs
    have hpos : 0 < sp.length := List.length_pos_iff.2 hne
    obtain ⟨b, off, spot⟩ := a
    have hspot : spot = none := by
      have := World.cell?_spot (key 0 hpos).1
      simpa [Addr.add] using this
    subst hspot
    refine .inr ⟨b, off, cap, rfl, fun i hi => ?_⟩
    have ⟨h1, h2, h3⟩ := key i hi
    rw [add_off, add_off] at h2 h3
    rw [add_off] at h1
    exact ⟨h1, h2, h3⟩

set_option maxRecDepth 100000 in
theorem sets_of_laid {W : World} (h : laidMetH Tryd.prog [("loop.example/g00748/impl.registry", Rows.laid_loop_example_g00748_impl_registry)] W) : TabSets W := by
  rw [MakeChecks.laidMetH_plain _ _ _ (by kernel_rfl)] at h
  obtain ⟨ps, ⟨g0, t0, cs0, f0, p0, q0, hg0, ht0, hv0, hd0, _, _⟩, _, _⟩ := h
  obtain rfl := Option.some.inj (gReg.symm.trans hg0)
  obtain rfl := Option.some.inj (tReg.symm.trans ht0)
  rw [laid_reg] at hd0
  obtain ⟨xs, m, rfl, hx, _, hlen, hel⟩ := DataW.trod_array Tryd.underlying191 hd0
  have hx1 : regD = xs.map (·.1) := by simpa using congrArg Prod.fst hx
  have c4 : Tryd.prog.cellsOf 151 = 4 := by kernel_rfl
  have c1 : Tryd.prog.cellsOf 3 = 1 := by kernel_rfl
  have c1s : Tryd.prog.cellsOf 9 = 1 := by kernel_rfl
  have c1l : Tryd.prog.cellsOf 149 = 1 := by kernel_rfl
  rw [c4] at hel
  intro k h1 h8
  have hk : k < xs.length := by omega
  have e1 := hel k (by omega)
  rw [List.getElem?_eq_getElem hk] at e1
  have e2 : (xs[k]).1 = setD k := by
    have e3 := regD_at (H := Unit) k h1 h8
    rw [hx1, List.getElem?_map, List.getElem?_eq_getElem hk] at e3
    simpa using e3
  obtain ⟨y0, y1, y2, y3, n, hy, _, t0, t1, t2, t3⟩ := Joins.trod_struct4 Tryd.underlying151 e1
  obtain ⟨s0, f0, rfl, _⟩ := DataW.trod_string Tryd.underlying9 t0
  obtain ⟨n1, f1, rfl, _⟩ := DataW.trod_int Tryd.underlying3 t1
  obtain ⟨n2, f2, rfl, _⟩ := DataW.trod_int Tryd.underlying3 t2
  have hy1 := congrArg Prod.fst hy
  rw [e2] at hy1
  simp only [setD, DataW.agg.injEq, List.cons.injEq, DataW.lit.injEq, Lit.int.injEq, Lit.string.injEq, true_and, and_true] at hy1
  obtain ⟨g0, g1, g2, g3⟩ := hy1
  have hs0 : setName (k : Int) = s0 := ByteArray.ext (Array.toList_inj.1 g0)
  have cell : ∀ j, W.cell? ⟨4, j, none⟩ = cs0[j]? := fun j => by simpa using World.var?_cell gReg hv0 j
  have el : ∀ (j : Nat) (c : Value), j < 4 → ((((cs0.toList.drop (k * 4)).take 4).drop j).take 1) = [c] → W.cell? ⟨4, k * 4 + j, none⟩ = some c := by
    intro j c hj h
    have h2 := one_of_take h
    rw [List.getElem?_take_of_lt hj, List.getElem?_drop, Array.getElem?_toList] at h2
    rw [cell, h2]
  have l3 : ∃ c, ((((cs0.toList.drop (k * 4)).take 4).drop 3).take 1) = [c] := by
    rw [c1l] at t3
    rcases Deep.open_slice Tryd.underlying149 t3 with ⟨h, _⟩ | ⟨a, len, cap, _, _, _, _, h, _⟩
    · exact ⟨_, h⟩
    · exact ⟨_, h⟩
  obtain ⟨c, hc⟩ := l3
  refine ⟨?_, ?_, ?_, c, el 3 c (by decide) hc, ?_⟩
  · rw [hs0]
    exact el 0 _ (by decide) (by rw [← c1s]; exact f0)
  · rw [g1]
    exact el 1 _ (by decide) (by rw [← c1]; exact f1)
  · rw [g2]
    exact el 2 _ (by decide) (by rw [← c1]; exact f2)
  · have t4 : DataW.trod (fun _ : TypeId × Value => ()) Tryd.prog W 0 (fun _ => true) false n 149 [c] = some y3 := by
      rw [← hc, ← c1l]; exact t3
    obtain ⟨y3a, y3b⟩ := y3
    simp only at g3
    rw [← g3] at t4
    exact spans_of (by have := (set_few (k : Int)).1; intro h; rw [h] at this; simp at this) t4

theorem sets_readable : ∀ n ∈ ["loop.example/g00748/impl.registry"], ∀ g t, Tryd.prog.globalNamed n = some g → (Tryd.prog.globals[g]?).map (·.type) = some t → Tryd.prog.readableRec t = true ∧ t < Tryd.prog.types.size := by
  intro n hn g t hg ht
  obtain rfl : n = _ := List.mem_singleton.1 hn
  obtain rfl := Option.some.inj (gReg.symm.trans hg)
  obtain rfl := Option.some.inj (tReg.symm.trans ht)
  exact ⟨by kernel_rfl, of_decide_eq_true (by kernel_rfl)⟩

end Go.Proofs.YtdckjhobikfggaaDoor

namespace Go.Proofs.YtdckjhobikfggaaDoor
open Go.ChangeShapes Go.WideShapes Go.ChangeAt Go.RowKit

theorem gTrunc : Tryd.prog.globalNamed "loop.example/g00748/impl.errTruncated" = some 0 := by kernel_rfl
theorem gInv : Tryd.prog.globalNamed "loop.example/g00748/impl.errInvalid" = some 2 := by kernel_rfl
theorem tTrunc : (Tryd.prog.globals[0]?).map (·.type) = some 69 := by kernel_rfl
theorem tInv : (Tryd.prog.globals[2]?).map (·.type) = some 69 := by kernel_rfl
theorem starE : "*" ++ "errors.errorString" = "*errors.errorString" := by decide
theorem rowE (u : TypeId) (h : Tryd.prog.typeName? 3 u = some "*errors.errorString") : u = 199 :=
  typeName_ptr_named (nm := "errors.errorString") (by rw [starE]; kernel_rfl) (by kernel_rfl) (by decide) u (by rw [starE]; exact h)

theorem sents_of_laid {W : World} (h : laidMet Tryd.prog [("loop.example/g00748/impl.errTruncated", Rows.laid_loop_example_g00748_impl_errTruncated), ("loop.example/g00748/impl.errInvalid", Rows.laid_loop_example_g00748_impl_errInvalid)] W) : ∃ a b, Sents W a b := by
  obtain ⟨a0, a1, s0, s1, c0, c1, t0, t1, hv0, hv1, hc0, hs0, hz0, hc1, hs1, hz1, hne, hb0, hb1⟩ := laid_sentinels2 h gTrunc tTrunc gInv tInv Tryd.underlying69 rowE Tryd.underlying199 Tryd.underlying217 rfl rfl Tryd.underlying9 (by kernel_rfl) (by kernel_rfl)
  exact ⟨a0, a1, by simpa using World.var?_cell gTrunc hv0 0, by simpa using World.var?_cell gInv hv1 0, hne, ⟨c0, t0, hb0⟩, ⟨c1, t1, hb1⟩⟩

theorem sents_readable : ∀ n ∈ ["loop.example/g00748/impl.errInvalid", "loop.example/g00748/impl.errTruncated"], ∀ g t, Tryd.prog.globalNamed n = some g → (Tryd.prog.globals[g]?).map (·.type) = some t → Tryd.prog.readableRec t = true ∧ t < Tryd.prog.types.size := by
  intro n hn g t hg ht
  have : t = 69 := by
    simp only [List.mem_cons, List.not_mem_nil, or_false] at hn
    rcases hn with rfl | rfl
    · obtain rfl := Option.some.inj (gInv.symm.trans hg)
      exact (Option.some.inj (tInv.symm.trans ht)).symm
    · obtain rfl := Option.some.inj (gTrunc.symm.trans hg)
      exact (Option.some.inj (tTrunc.symm.trans ht)).symm
  subst this
  exact ⟨by kernel_rfl, of_decide_eq_true (by kernel_rfl)⟩

end Go.Proofs.YtdckjhobikfggaaDoor

namespace Go.Proofs.YtdckjhobikfggaaDoor
open Go.ChangeShapes Go.WideShapes Go.ChangeAt Go.RowKit

theorem trodVars_cons {H : Type} {enc : TypeId × Value → H} {P : Program} {w : World} {spare : Nat → Bool} {n : String} {ns : List String} {gs : List (DataW H)} {ps : List MemPlace} (h : DataW.TrodVars enc P w spare (n :: ns) gs ps) : ∃ d ds q, gs = d :: ds ∧ DataW.TrodVars enc P w spare ns ds q := by
  cases gs with
  | nil => simp [DataW.TrodVars] at h
  | cons d ds =>
    obtain ⟨_, _, _, _, _, q, _, _, _, _, hs, _⟩ := h
    exact ⟨d, ds, q, rfl, hs⟩
theorem trodVars_four {H : Type} {enc : TypeId × Value → H} {P : Program} {w : World} {spare : Nat → Bool} {n0 n1 n2 n3 : String} {gs : List (DataW H)} {ps : List MemPlace} (h : DataW.TrodVars enc P w spare [n0, n1, n2, n3] gs ps) : ∃ d0 d1 d2 d3, gs = [d0, d1, d2, d3] := by
  obtain ⟨d0, _, _, rfl, h1⟩ := trodVars_cons h
  obtain ⟨d1, _, _, rfl, h2⟩ := trodVars_cons h1
  obtain ⟨d2, _, _, rfl, h3⟩ := trodVars_cons h2
  obtain ⟨d3, _, _, rfl, h4⟩ := trodVars_cons h3
  obtain ⟨rfl, _⟩ := trodVars_none h4
  exact ⟨d0, d1, d2, d3, rfl⟩

theorem laid_apart {P : Program} {a b c d : String × DataW Unit} {W : World} (hp : ([a, b, c, d].all fun x => x.2.handleName?.isNone) = true) (h : laidMetH P [a, b, c, d] W) : laidMetH P [a] W ∧ laidMet P [b, c] W ∧ laidMetH P [d] W := by
  have ha : ([a].all fun x => x.2.handleName?.isNone) = true := by simp at hp ⊢; exact hp.1
  have hd : ([d].all fun x => x.2.handleName?.isNone) = true := by simp at hp ⊢; exact hp.2.2.2
  rw [MakeChecks.laidMetH_plain _ _ _ hp] at h
  rw [MakeChecks.laidMetH_plain _ _ _ ha, MakeChecks.laidMetH_plain _ _ _ hd]
  obtain ⟨ps, hl, hnd, hc⟩ := h
  obtain ⟨g0, t0, cs0, f0, p0, q0, h1, h2, h3, h4, ⟨g1, t1, cs1, f1, p1, q1, k1, k2, k3, k4, ⟨g2, t2, cs2, f2, p2, q2, m1, m2, m3, m4, ⟨g3, t3, cs3, f3, p3, q3, n1, n2, n3, n4, n5, n6⟩, m6⟩, k6⟩, h6⟩ := hl
  subst h6
  have hn0 := List.nodup_append.1 hnd
  have hc1 : ∀ b off, _ := fun b off hm => hc b off (List.mem_append_right _ hm)
  subst k6
  have hn1 := List.nodup_append.1 hn0.2.1
  have hc2 : ∀ b off, _ := fun b off hm => hc1 b off (List.mem_append_right _ hm)
  subst m6
  have hn2 := List.nodup_append.1 hn1.2.1
  refine ⟨⟨_, ⟨g0, t0, cs0, f0, p0, [], h1, h2, h3, h4, rfl, rfl⟩, by rw [List.append_nil]; exact hn0.1, fun b off hm => hc b off (List.mem_append_left _ (by rw [List.append_nil] at hm; exact hm))⟩, ⟨_, ⟨g1, t1, cs1, f1, p1, _, k1, k2, k3, k4, ⟨g2, t2, cs2, f2, p2, [], m1, m2, m3, m4, rfl, rfl⟩, rfl⟩, ?_, ?_⟩, ⟨_, ⟨g3, t3, cs3, f3, p3, q3, n1, n2, n3, n4, n5, n6⟩, hn2.2.1, fun b off hm => hc2 b off (List.mem_append_right _ hm)⟩⟩
  · rw [List.append_nil]
    refine List.nodup_append.2 ⟨hn1.1, hn2.1, fun x hx y hy => hn1.2.2 x hx y (List.mem_append_left _ hy)⟩
  · intro b off hm
    rw [List.append_nil] at hm
    rcases List.mem_append.1 hm with hm | hm
    · exact hc1 b off (List.mem_append_left _ hm)
    · exact hc2 b off (List.mem_append_left _ hm)

theorem four_of_laid {W : World} (h : laidMetH Tryd.prog [("loop.example/g00748/impl.codeWords", Rows.laid_loop_example_g00748_impl_codeWords), ("loop.example/g00748/impl.errTruncated", Rows.laid_loop_example_g00748_impl_errTruncated), ("loop.example/g00748/impl.errInvalid", Rows.laid_loop_example_g00748_impl_errInvalid), ("loop.example/g00748/impl.registry", Rows.laid_loop_example_g00748_impl_registry)] W) : TabSets W ∧ TabWords W ∧ ∃ a b, Sents W a b :=
  have h2 := laid_apart (by kernel_rfl) h
  ⟨sets_of_laid h2.2.2, tab_of_laid h2.1, sents_of_laid h2.2.1⟩

theorem four_readable : ∀ n ∈ ["loop.example/g00748/impl.codeWords", "loop.example/g00748/impl.errInvalid", "loop.example/g00748/impl.errTruncated", "loop.example/g00748/impl.registry"], ∀ g t, Tryd.prog.globalNamed n = some g → (Tryd.prog.globals[g]?).map (·.type) = some t → Tryd.prog.readableRec t = true ∧ t < Tryd.prog.types.size := by
  intro n hn g t hg ht
  simp only [List.mem_cons, List.not_mem_nil, or_false] at hn
  rcases hn with rfl | rfl | rfl | rfl
  · exact tab_readable _ (by simp) g t hg ht
  · exact sents_readable _ (by simp) g t hg ht
  · exact sents_readable _ (by simp) g t hg ht
  · exact sets_readable _ (by simp) g t hg ht

end Go.Proofs.YtdckjhobikfggaaDoor

namespace Go.Proofs.YtdckjhobikfggaaDoor.fnExactSameEncoder
open Go.RowKit

theorem row_wf {w : World} {a : Option Addr} {len cap : Nat} {zs : List Int} (hu : IsRow .i64 w a len cap zs) : ∀ r ∈ zs.take len, r ≤ 9223372036854775807 := by
  intro r hr
  rcases hu with ⟨_, _, _, rfl⟩ | ⟨x, _, _, _, _, _, hwf⟩
  · simp at hr
  · have := hwf r (List.mem_of_mem_take hr)
    simp [Lit.wf] at this
    have m1 : IntKind.i64.max = 9223372036854775807 := by decide
    omega
theorem left_ok {e : Ec} {m : Int} (h : 0 ≤ leftE e m) : (e.r.size : Int) + e.z.length ≤ m ∧ leftE e m = m - e.r.size - e.z.length := by
  unfold leftE at h ⊢
  split at h
  · split at h
    · rename_i h1 h2
      rw [if_pos h1, if_pos h2]
      exact ⟨by omega, rfl⟩
    · omega
  · omega
theorem left_no {e : Ec} {m : Int} (h : ¬ 0 ≤ leftE e m) : leftE e m < 0 := by omega

set_option maxHeartbeats 4000000 in
set_option maxRecDepth 100000 in
theorem walk (e : Ec) (a : Option Addr) (len cap : Nat) (zs : List Int) (f : Ec) (a2 : Option Addr) (len2 cap2 : Nat) (zs2 : List Int) (w : World) (hu : IsRow .i64 w a len cap zs) (he : e.z = zs.take len) (hs : e.r.size ≤ maxLen) (hu2 : IsRow .i64 w a2 len2 cap2 zs2) (he2 : f.z = zs2.take len2) (hs2 : f.r.size ≤ maxLen)
    (ht : TabSets w ∧ TabWords w ∧ ∃ a b, Sents w a b) : Calls Tryd.prog 7 #[ecV e (.slice a len cap), ecV f (.slice a2 len2 cap2)] w fun x w' => x = .returned (.bool true) ∧ Below w.heap.size w w' := by
  obtain ⟨ht1, ht2, sa, sb, ht3⟩ := ht
  have ⟨hl, hm⟩ := hu.length
  have ⟨hl2, hm2⟩ := hu2.length
  have hi := hu.ints
  have hi2 := hu2.ints
  have hwf := row_wf hu
  have hwf2 := row_wf hu2
  rw [← he] at hl hi hwf
  rw [← he2] at hl2 hi2 hwf2
  clear hu he zs hu2 he2 zs2
  subst hl hl2
  have HSz := Lib.hid (fun w => laws_szEncoder e a cap 1048576 w hs hm (by decide) (by decide))
  have HSz2 := Lib.hid (fun m w h1 h2 => laws_szEncoder f a2 cap2 m w hs2 hm2 h1 h2)
  have B0 := Lib.hid (ecBelow2 w (.cells #[.int .i64 e.n, .int .i64 e.c, .int .i64 e.k, .string e.r, (.slice a e.z.length cap), .bool e.b, .bool e.o] 54) (.cells #[.int .i64 f.n, .int .i64 f.c, .int .i64 f.k, .string f.r, (.slice a2 f.z.length cap2), .bool f.b, .bool f.o] 54))
  have L0 : Hid (LEcAt ((w.alloc (.cells #[.int .i64 e.n, .int .i64 e.c, .int .i64 e.k, .string e.r, (.slice a e.z.length cap), .bool e.b, .bool e.o] 54)).alloc (.cells #[.int .i64 f.n, .int .i64 f.c, .int .i64 f.k, .string f.r, (.slice a2 f.z.length cap2), .bool f.b, .bool f.o] 54)) w.heap.size e (.slice a e.z.length cap)) := Lib.hid (heap_alloc2_old _ _ _)
  have M0 : Hid (LEcAt ((w.alloc (.cells #[.int .i64 e.n, .int .i64 e.c, .int .i64 e.k, .string e.r, (.slice a e.z.length cap), .bool e.b, .bool e.o] 54)).alloc (.cells #[.int .i64 f.n, .int .i64 f.c, .int .i64 f.k, .string f.r, (.slice a2 f.z.length cap2), .bool f.b, .bool f.o] 54)) (w.heap.size + 1) f (.slice a2 f.z.length cap2)) := Lib.hid (heap_alloc2_new _ _ _)
  have I0 := Lib.hid (hi.keep B0.out)
  have J0 := Lib.hid (hi2.keep B0.out)
  have T1 := Lib.hid (ht1.keep B0.out)
  have T2 := Lib.hid (ht2.keep B0.out)
  have T3 := Lib.hid (ht3.keep B0.out)
  clear hi hi2 ht1 ht2 ht3 hs hm hs2 hm2
  by_cases h1 : 0 ≤ leftE e 1048576
  case neg =>
    have h1' := left_no h1
    generalize leftE e 1048576 = m1 at *
    clear hwf hwf2 HSz2 h1
    obtain ⟨n, c, k, r, z, b, o⟩ := e
    obtain ⟨n2, c2, k2, r2, z2, b2, o2⟩ := f
    unfold ecV at *
    dsimp only at *
    go_enter Tryd.func7, Tryd.ntmps7
    have ⟨x0, x1, x2, x3, x4, x5, x6⟩ := lecCells L0.out
    go_wp2_with fail
    refine (HSz.out _).mono ?_
    rintro _ w1 ⟨rfl, b1⟩
    have B1 := Lib.hid (B0.out.trans (b1.mono B0.out.size))
    go_wp2
    go_ret
    exact ⟨rfl, B1.out⟩
  have ⟨hb1, hb2⟩ := left_ok h1
  have hle1 : leftE e 1048576 ≤ 1048576 := by omega
  have HSz2' := Lib.hid (fun w => HSz2.out (leftE e 1048576) w h1 hle1)
  by_cases h2 : 0 ≤ leftE f (leftE e 1048576)
  case neg =>
    have h2' := left_no h2
    generalize leftE f (leftE e 1048576) = m2 at *
    have v0 : ¬ leftE e 1048576 < 0 := by omega
    generalize leftE e 1048576 = m1 at *
    clear hwf hwf2 HSz2 h1 h2 hb1 hb2 hle1
    obtain ⟨n, c, k, r, z, b, o⟩ := e
    obtain ⟨n2, c2, k2, r2, z2, b2, o2⟩ := f
    unfold ecV at *
    dsimp only at *
    go_enter Tryd.func7, Tryd.ntmps7
    have ⟨x0, x1, x2, x3, x4, x5, x6⟩ := lecCells L0.out
    go_wp2_with fail
    refine (HSz.out _).mono ?_
    clear x0 x1 x2 x3 x4 x5 x6
    generalize (w.alloc (.cells #[.int .i64 n, .int .i64 c, .int .i64 k, .string r, (.slice a z.length cap), .bool b, .bool o] 54)).alloc (.cells #[.int .i64 n2, .int .i64 c2, .int .i64 k2, .string r2, (.slice a2 z2.length cap2), .bool b2, .bool o2] 54) = W at *
    rintro _ w1 ⟨rfl, b1⟩
    have B1 := Lib.hid (B0.out.trans (b1.mono B0.out.size))
    have ⟨y0, y1, y2, y3, y4, y5, y6⟩ := lecCells (M0.out.keep b1)
    go_wp2_with fail
    refine (HSz2'.out _).mono ?_
    rintro _ w2 ⟨rfl, b2'⟩
    have B2 := Lib.hid (B1.out.trans (b2'.mono B1.out.size))
    go_wp2
    go_ret
    exact ⟨rfl, B2.out⟩
  have ⟨hb3, hb4⟩ := left_ok h2
  have hz : e.z.length ≤ 1048576 := by omega
  have hr : e.r.size ≤ 1048576 := by omega
  have hz2 : f.z.length ≤ 1048576 := by omega
  have hr2 : f.r.size ≤ 1048576 := by omega
  have v0 : ¬ leftE e 1048576 < 0 := by omega
  have v1 : ¬ leftE f (leftE e 1048576) < 0 := by omega
  generalize leftE f (leftE e 1048576) = m2 at *
  generalize leftE e 1048576 = m1 at *
  have HT := Lib.hid (fun v w h => laws_toEncoder e v w h hz)
  have HU := Lib.hid (fun v w h => laws_toEncoder f v w h hz2)
  have HS := Lib.hid (fun v u w h1 h2 => spec_SameEncoder e f v u w h1 h2 hz hz2 hr hr2)
  have HP := Lib.hid (fun v u w h1 h2 h3 h4 h5 => impl_SameEncoder e f v u sa sb w h1 h2 hz hz2 hr hr2 hwf hwf2 h3 h4 h5)
  have HQ := Lib.hid (fun v u w h1 h2 => laws_eqEncoder e v u w h1 h2 hz)
  have HQ2 := Lib.hid (fun v u w h1 h2 => laws_eqEncoder f v u w h1 h2 hz2)
  clear hwf hwf2 hr hr2 hz hz2 hb1 hb2 hb3 hb4 hle1 HSz2 h1 h2
  generalize seB e f = q at *
  obtain ⟨n, c, k, r, z, b, o⟩ := e
  obtain ⟨n2, c2, k2, r2, z2, b2, o2⟩ := f
  unfold ecV at *
  dsimp only at *
  have hqq : (q != q) = false := by simp
  go_enter Tryd.func7, Tryd.ntmps7
  have ⟨x0, x1, x2, x3, x4, x5, x6⟩ := lecCells L0.out
  go_wp2_with fail
  refine (HSz.out _).mono ?_
  clear x0 x1 x2 x3 x4 x5 x6
  generalize (w.alloc (.cells #[.int .i64 n, .int .i64 c, .int .i64 k, .string r, (.slice a z.length cap), .bool b, .bool o] 54)).alloc (.cells #[.int .i64 n2, .int .i64 c2, .int .i64 k2, .string r2, (.slice a2 z2.length cap2), .bool b2, .bool o2] 54) = W at *
  rintro _ w1 ⟨rfl, b1⟩
  have L1 := Lib.hid (L0.out.keep b1)
  have M1 := Lib.hid (M0.out.keep b1)
  have B1 := Lib.hid (B0.out.trans (b1.mono B0.out.size))
  have X1 := Lib.hid b1
  clear b1 L0 M0 B0
  have ⟨y0, y1, y2, y3, y4, y5, y6⟩ := lecCells M1.out
  go_wp2_with fail
  refine (HSz2'.out _).mono ?_
  clear y0 y1 y2 y3 y4 y5 y6
  rintro _ w2 ⟨rfl, b2'⟩
  have L2 := Lib.hid (L1.out.keep b2')
  have M2 := Lib.hid (M1.out.keep b2')
  have B2 := Lib.hid (B1.out.trans (b2'.mono B1.out.size))
  have X2 := Lib.hid (X1.out.trans (b2'.mono X1.out.size))
  clear b2' L1 M1 B1 X1
  go_wp2_with fail
  have bd := below_drewN (Below.refl w2.heap.size w2) 1
  have hS : (fun W' : World => LEcAt W' w.heap.size ⟨n, c, k, r, z, b, o⟩ (.slice a z.length cap) ∧ LEcAt W' (w.heap.size + 1) ⟨n2, c2, k2, r2, z2, b2, o2⟩ (.slice a2 z2.length cap2) ∧ Below w.heap.size w W') w2.drew := ⟨L2.out.keep bd, M2.out.keep bd, B2.out.trans (bd.mono B2.out.size)⟩
  have X3 : Hid (Below W.heap.size W w2.drew) := Lib.hid (X2.out.trans (bd.mono X2.out.size))
  have I3 := Lib.hid (I0.out.keep X3.out)
  have J3 := Lib.hid (J0.out.keep X3.out)
  have L3 := Lib.hid hS.1
  have M3 := Lib.hid hS.2.1
  have B3 := Lib.hid hS.2.2
  clear bd L2 M2 B2 X2
  refine wp_region_held (S := (fun W' : World => LEcAt W' w.heap.size ⟨n, c, k, r, z, b, o⟩ (.slice a z.length cap) ∧ LEcAt W' (w.heap.size + 1) ⟨n2, c2, k2, r2, z2, b2, o2⟩ (.slice a2 z2.length cap2) ∧ Below w.heap.size w W')) (by kernel_rfl) ?_
  refine wpAnyH_take (i := 0) (v := .agg #[.int .i64 n, .int .i64 c, .int .i64 k, .string r, .slice a z.length cap, .bool b, .bool o]) rfl (by kernel_rfl) (by kernel_rfl) (by kernel_rfl) (fun _ _ _ h => h) (.inl ⟨by kernel_rfl, fun w' hS' => by have ⟨y0, y1, y2, y3, y4, y5, y6⟩ := lecCells hS'.1; go_simp⟩) hS ?_
  refine wpAnyH_take (i := 2) (v := .agg #[.int .i64 n2, .int .i64 c2, .int .i64 k2, .string r2, .slice a2 z2.length cap2, .bool b2, .bool o2]) rfl (by kernel_rfl) (by kernel_rfl) (by kernel_rfl) (fun _ _ _ h => h) (.inl ⟨by kernel_rfl, fun w' hS' => by have ⟨y0, y1, y2, y3, y4, y5, y6⟩ := lecCells hS'.2.1; go_simp⟩) hS ?_
  refine wpAnyH_ready (rs := [1]) (by kernel_rfl) (by simp) (AllReadyH.cons rfl (fun K hK => ?_) AllReadyH.nil)
  clear hS
  go_simp
  refine (HT.out _ _ I3.out).mono ?_
  rintro _ w4 ⟨p1, rfl, o1, b4⟩
  have L4 := Lib.hid (L3.out.keep b4)
  have M4 := Lib.hid (M3.out.keep b4)
  have B4 := Lib.hid (B3.out.trans (b4.mono B3.out.size))
  have J4 := Lib.hid (J3.out.keep b4)
  have X4 := Lib.hid (X3.out.trans (b4.mono X3.out.size))
  refine hK.out _ _ ⟨L4.out, M4.out, B4.out⟩ (fun _ => ?_)
  clear hK K b4 L3 M3 B3 I3 J3 X3
  refine wpAnyH_ready (rs := [3]) (by kernel_rfl) (by simp) (AllReadyH.cons rfl (fun K hK => ?_) AllReadyH.nil)
  go_simp
  refine (HU.out _ _ J4.out).mono ?_
  rintro _ w5 ⟨p2, rfl, o2', b5⟩
  have L5 := Lib.hid (L4.out.keep b5)
  have M5 := Lib.hid (M4.out.keep b5)
  have B5 := Lib.hid (B4.out.trans (b5.mono B4.out.size))
  have X5 := Lib.hid (X4.out.trans (b5.mono X4.out.size))
  have O1 := Lib.hid (o1.all b5)
  refine hK.out _ _ ⟨L5.out, M5.out, B5.out⟩ (fun _ => ?_)
  clear hK K b5 L4 M4 B4 J4 X4 o1
  refine wpAnyH_ready (rs := [4]) (by kernel_rfl) (by simp) (AllReadyH.cons rfl (fun K hK => ?_) AllReadyH.nil)
  go_simp
  refine (HS.out _ _ _ O1.out.ints o2'.ints).mono ?_
  rintro _ w6 ⟨rfl, b6⟩
  have L6 := Lib.hid (L5.out.keep b6)
  have M6 := Lib.hid (M5.out.keep b6)
  have B6 := Lib.hid (B5.out.trans (b6.mono B5.out.size))
  have X6 := Lib.hid (X5.out.trans (b6.mono X5.out.size))
  refine hK.out _ _ ⟨L6.out, M6.out, B6.out⟩ (fun _ => ?_)
  clear hK K b6 L5 M5 B5 X5 O1 o2'
  have hS : (fun W' : World => LEcAt W' w.heap.size ⟨n, c, k, r, z, b, o⟩ (.slice a z.length cap) ∧ LEcAt W' (w.heap.size + 1) ⟨n2, c2, k2, r2, z2, b2, o2⟩ (.slice a2 z2.length cap2) ∧ Below w.heap.size w W') w6 := ⟨L6.out, M6.out, B6.out⟩
  refine wpAnyH_take (i := 5) (v := .bool q) rfl (by kernel_rfl) (by kernel_rfl) (by kernel_rfl) (fun _ _ _ h => h) (.inl ⟨by kernel_rfl, fun w' hS' => by go_simp⟩) hS ?_
  refine wpAnyH_done (by kernel_rfl) ?_ _
  clear hS
  go_simp
  have I6 := Lib.hid (I0.out.keep X6.out)
  have ⟨x0, x1, x2, x3, x4, x5, x6⟩ := lecCells L6.out
  go_wp2_with fail
  refine (HT.out _ _ I6.out).mono ?_
  clear x0 x1 x2 x3 x4 x5 x6
  rintro _ w7 ⟨p1, rfl, o7, b7⟩
  obtain ⟨va, vc, rfl, _⟩ := o7.shape
  have D7 : Hid (EcAt (w7.alloc (.cells #[.int .i64 n, .int .i64 c, .int .i64 k, .string r, (.slice va z.length vc), .bool b, .bool o] 57)) w7.heap.size ⟨n, c, k, r, z, b, o⟩ (.slice va z.length vc)) := Lib.hid (heap_alloc_new _ _)
  have bb := b7.alloc b7.size (.cells #[.int .i64 n, .int .i64 c, .int .i64 k, .string r, (.slice va z.length vc), .bool b, .bool o] 57)
  have O7 := Lib.hid (o7.alloc (.cells #[.int .i64 n, .int .i64 c, .int .i64 k, .string r, (.slice va z.length vc), .bool b, .bool o] 57))
  have L7 := Lib.hid (L6.out.keep bb)
  have M7 := Lib.hid (M6.out.keep bb)
  have B7 := Lib.hid (B6.out.trans (bb.mono B6.out.size))
  have X7 := Lib.hid (X6.out.trans (bb.mono X6.out.size))
  clear bb b7 o7 L6 M6 B6 X6 I6
  have J7 := Lib.hid (J0.out.keep X7.out)
  have ⟨y0, y1, y2, y3, y4, y5, y6⟩ := lecCells M7.out
  go_wp2_with fail
  refine (HU.out _ _ J7.out).mono ?_
  clear y0 y1 y2 y3 y4 y5 y6
  generalize hg1 : w7.heap.size = g1 at *
  generalize w7.alloc (.cells #[.int .i64 n, .int .i64 c, .int .i64 k, .string r, (.slice va z.length vc), .bool b, .bool o] 57) = W7 at *
  rintro _ w8 ⟨p2, rfl, o8, b8⟩
  obtain ⟨ua, uc, rfl, _⟩ := o8.shape
  have F8 : Hid (EcAt (w8.alloc (.cells #[.int .i64 n2, .int .i64 c2, .int .i64 k2, .string r2, (.slice ua z2.length uc), .bool b2, .bool o2] 57)) w8.heap.size ⟨n2, c2, k2, r2, z2, b2, o2⟩ (.slice ua z2.length uc)) := Lib.hid (heap_alloc_new _ _)
  have bb := b8.alloc b8.size (.cells #[.int .i64 n2, .int .i64 c2, .int .i64 k2, .string r2, (.slice ua z2.length uc), .bool b2, .bool o2] 57)
  have P8 := Lib.hid (o8.alloc (.cells #[.int .i64 n2, .int .i64 c2, .int .i64 k2, .string r2, (.slice ua z2.length uc), .bool b2, .bool o2] 57))
  have D8 := Lib.hid (D7.out.keep bb)
  have O8 := Lib.hid (O7.out.all bb)
  have L8 := Lib.hid (L7.out.keep bb)
  have M8 := Lib.hid (M7.out.keep bb)
  have B8 := Lib.hid (B7.out.trans (bb.mono B7.out.size))
  have X8 := Lib.hid (X7.out.trans (bb.mono X7.out.size))
  clear bb b8 o8 D7 O7 L7 M7 B7 X7 J7
  have ⟨x0, x1, x2, x3, x4, x5, x6⟩ := ecCells D8.out
  have ⟨y0, y1, y2, y3, y4, y5, y6⟩ := ecCells F8.out
  go_wp2_with fail
  refine (HP.out _ _ _ O8.out.ints P8.out.ints (T1.out.keep X8.out) (T2.out.keep X8.out) (T3.out.keep X8.out)).mono ?_
  clear x0 x1 x2 x3 x4 x5 x6 y0 y1 y2 y3 y4 y5 y6
  generalize hg2 : w8.heap.size = g2 at *
  generalize w8.alloc (.cells #[.int .i64 n2, .int .i64 c2, .int .i64 k2, .string r2, (.slice ua z2.length uc), .bool b2, .bool o2] 57) = W8 at *
  rintro _ w9 ⟨rfl, b9⟩
  have D9 := Lib.hid (D8.out.keep b9)
  have F9 := Lib.hid (F8.out.keep b9)
  have O9 := Lib.hid (O8.out.all b9)
  have P9 := Lib.hid (P8.out.all b9)
  have L9 := Lib.hid (L8.out.keep b9)
  have M9 := Lib.hid (M8.out.keep b9)
  have B9 := Lib.hid (B8.out.trans (b9.mono B8.out.size))
  have X9 := Lib.hid (X8.out.trans (b9.mono X8.out.size))
  clear b9 D8 F8 O8 P8 L8 M8 B8 X8
  go_wp2_with fail
  have bd := below_drewN (Below.refl w9.heap.size w9) 1
  have hS : (fun W' : World => EcAt W' g1 ⟨n, c, k, r, z, b, o⟩ (.slice va z.length vc) ∧ EcAt W' g2 ⟨n2, c2, k2, r2, z2, b2, o2⟩ (.slice ua z2.length uc) ∧ LEcAt W' w.heap.size ⟨n, c, k, r, z, b, o⟩ (.slice a z.length cap) ∧ LEcAt W' (w.heap.size + 1) ⟨n2, c2, k2, r2, z2, b2, o2⟩ (.slice a2 z2.length cap2) ∧ Below w.heap.size w W') w9.drew := ⟨D9.out.keep bd, F9.out.keep bd, L9.out.keep bd, M9.out.keep bd, B9.out.trans (bd.mono B9.out.size)⟩
  have X10 : Hid (Below W.heap.size W w9.drew) := Lib.hid (X9.out.trans (bd.mono X9.out.size))
  have IJ := Lib.hid (I0.out.keep X10.out)
  have O10 := Lib.hid (O9.out.all bd)
  have P10 := Lib.hid (P9.out.all bd)
  have D10 := Lib.hid hS.1
  have F10 := Lib.hid hS.2.1
  have L10 := Lib.hid hS.2.2.1
  have M10 := Lib.hid hS.2.2.2.1
  have B10 := Lib.hid hS.2.2.2.2
  clear bd D9 F9 O9 P9 L9 M9 B9 X9
  refine wp_region_held (S := (fun W' : World => EcAt W' g1 ⟨n, c, k, r, z, b, o⟩ (.slice va z.length vc) ∧ EcAt W' g2 ⟨n2, c2, k2, r2, z2, b2, o2⟩ (.slice ua z2.length uc) ∧ LEcAt W' w.heap.size ⟨n, c, k, r, z, b, o⟩ (.slice a z.length cap) ∧ LEcAt W' (w.heap.size + 1) ⟨n2, c2, k2, r2, z2, b2, o2⟩ (.slice a2 z2.length cap2) ∧ Below w.heap.size w W')) (by kernel_rfl) ?_
  refine wpAnyH_take (i := 0) (v := .agg #[.int .i64 n, .int .i64 c, .int .i64 k, .string r, .slice va z.length vc, .bool b, .bool o]) rfl (by kernel_rfl) (by kernel_rfl) (by kernel_rfl) (fun _ _ _ h => h) (.inl ⟨by kernel_rfl, fun w' hS' => by have ⟨y0, y1, y2, y3, y4, y5, y6⟩ := ecCells hS'.1; go_simp⟩) hS ?_
  refine wpAnyH_take (i := 1) (v := .agg #[.int .i64 n, .int .i64 c, .int .i64 k, .string r, .slice a z.length cap, .bool b, .bool o]) rfl (by kernel_rfl) (by kernel_rfl) (by kernel_rfl) (fun _ _ _ h => h) (.inl ⟨by kernel_rfl, fun w' hS' => by have ⟨y0, y1, y2, y3, y4, y5, y6⟩ := lecCells hS'.2.2.1; go_simp⟩) hS ?_
  refine wpAnyH_ready (rs := [2]) (by kernel_rfl) (by simp) (AllReadyH.cons rfl (fun K hK => ?_) AllReadyH.nil)
  clear hS
  go_simp
  refine (HT.out _ _ IJ.out).mono ?_
  rintro _ w11 ⟨p3, rfl, o3, b3⟩
  have D11 := Lib.hid (D10.out.keep b3)
  have F11 := Lib.hid (F10.out.keep b3)
  have O11 := Lib.hid (O10.out.all b3)
  have P11 := Lib.hid (P10.out.all b3)
  have L11 := Lib.hid (L10.out.keep b3)
  have M11 := Lib.hid (M10.out.keep b3)
  have B11 := Lib.hid (B10.out.trans (b3.mono B10.out.size))
  have X11 := Lib.hid (X10.out.trans (b3.mono X10.out.size))
  refine hK.out _ _ ⟨D11.out, F11.out, L11.out, M11.out, B11.out⟩ (fun _ => ?_)
  clear hK K b3 D10 F10 O10 P10 L10 M10 B10 X10 IJ
  refine wpAnyH_ready (rs := [3]) (by kernel_rfl) (by simp) (AllReadyH.cons rfl (fun K hK => ?_) AllReadyH.nil)
  go_simp
  refine (HQ.out _ _ _ O11.out.ints o3.ints).mono ?_
  rintro _ w12 ⟨rfl, b3⟩
  have D12 := Lib.hid (D11.out.keep b3)
  have F12 := Lib.hid (F11.out.keep b3)
  have O12 := Lib.hid (O11.out.all b3)
  have P12 := Lib.hid (P11.out.all b3)
  have L12 := Lib.hid (L11.out.keep b3)
  have M12 := Lib.hid (M11.out.keep b3)
  have B12 := Lib.hid (B11.out.trans (b3.mono B11.out.size))
  have X12 := Lib.hid (X11.out.trans (b3.mono X11.out.size))
  refine hK.out _ _ ⟨D12.out, F12.out, L12.out, M12.out, B12.out⟩ (fun _ => ?_)
  clear hK K b3 o3 D11 F11 O11 P11 L11 M11 B11 X11
  have hS : (fun W' : World => EcAt W' g1 ⟨n, c, k, r, z, b, o⟩ (.slice va z.length vc) ∧ EcAt W' g2 ⟨n2, c2, k2, r2, z2, b2, o2⟩ (.slice ua z2.length uc) ∧ LEcAt W' w.heap.size ⟨n, c, k, r, z, b, o⟩ (.slice a z.length cap) ∧ LEcAt W' (w.heap.size + 1) ⟨n2, c2, k2, r2, z2, b2, o2⟩ (.slice a2 z2.length cap2) ∧ Below w.heap.size w W') w12 := ⟨D12.out, F12.out, L12.out, M12.out, B12.out⟩
  refine wpAnyH_take (i := 4) (v := .bool false) rfl (by kernel_rfl) (by kernel_rfl) (by kernel_rfl) (fun _ _ _ h => h) (.inl ⟨by kernel_rfl, fun w' hS' => by go_simp⟩) hS ?_
  refine wpAnyH_done (by kernel_rfl) ?_ _
  clear hS
  go_simp
  go_wp2_with fail
  have bd := below_drewN (Below.refl w12.heap.size w12) 1
  have hS : (fun W' : World => EcAt W' g1 ⟨n, c, k, r, z, b, o⟩ (.slice va z.length vc) ∧ EcAt W' g2 ⟨n2, c2, k2, r2, z2, b2, o2⟩ (.slice ua z2.length uc) ∧ LEcAt W' w.heap.size ⟨n, c, k, r, z, b, o⟩ (.slice a z.length cap) ∧ LEcAt W' (w.heap.size + 1) ⟨n2, c2, k2, r2, z2, b2, o2⟩ (.slice a2 z2.length cap2) ∧ Below w.heap.size w W') w12.drew := ⟨D12.out.keep bd, F12.out.keep bd, L12.out.keep bd, M12.out.keep bd, B12.out.trans (bd.mono B12.out.size)⟩
  have X13 : Hid (Below W.heap.size W w12.drew) := Lib.hid (X12.out.trans (bd.mono X12.out.size))
  have IJ := Lib.hid (J0.out.keep X13.out)
  have O13 := Lib.hid (O12.out.all bd)
  have P13 := Lib.hid (P12.out.all bd)
  have D13 := Lib.hid hS.1
  have F13 := Lib.hid hS.2.1
  have L13 := Lib.hid hS.2.2.1
  have M13 := Lib.hid hS.2.2.2.1
  have B13 := Lib.hid hS.2.2.2.2
  clear bd D12 F12 O12 P12 L12 M12 B12 X12
  refine wp_region_held (S := (fun W' : World => EcAt W' g1 ⟨n, c, k, r, z, b, o⟩ (.slice va z.length vc) ∧ EcAt W' g2 ⟨n2, c2, k2, r2, z2, b2, o2⟩ (.slice ua z2.length uc) ∧ LEcAt W' w.heap.size ⟨n, c, k, r, z, b, o⟩ (.slice a z.length cap) ∧ LEcAt W' (w.heap.size + 1) ⟨n2, c2, k2, r2, z2, b2, o2⟩ (.slice a2 z2.length cap2) ∧ Below w.heap.size w W')) (by kernel_rfl) ?_
  refine wpAnyH_take (i := 0) (v := .agg #[.int .i64 n2, .int .i64 c2, .int .i64 k2, .string r2, .slice ua z2.length uc, .bool b2, .bool o2]) rfl (by kernel_rfl) (by kernel_rfl) (by kernel_rfl) (fun _ _ _ h => h) (.inl ⟨by kernel_rfl, fun w' hS' => by have ⟨y0, y1, y2, y3, y4, y5, y6⟩ := ecCells hS'.2.1; go_simp⟩) hS ?_
  refine wpAnyH_take (i := 1) (v := .agg #[.int .i64 n2, .int .i64 c2, .int .i64 k2, .string r2, .slice a2 z2.length cap2, .bool b2, .bool o2]) rfl (by kernel_rfl) (by kernel_rfl) (by kernel_rfl) (fun _ _ _ h => h) (.inl ⟨by kernel_rfl, fun w' hS' => by have ⟨y0, y1, y2, y3, y4, y5, y6⟩ := lecCells hS'.2.2.2.1; go_simp⟩) hS ?_
  refine wpAnyH_ready (rs := [2]) (by kernel_rfl) (by simp) (AllReadyH.cons rfl (fun K hK => ?_) AllReadyH.nil)
  clear hS
  go_simp
  refine (HU.out _ _ IJ.out).mono ?_
  rintro _ w14 ⟨p3, rfl, o3, b3⟩
  have D14 := Lib.hid (D13.out.keep b3)
  have F14 := Lib.hid (F13.out.keep b3)
  have O14 := Lib.hid (O13.out.all b3)
  have P14 := Lib.hid (P13.out.all b3)
  have L14 := Lib.hid (L13.out.keep b3)
  have M14 := Lib.hid (M13.out.keep b3)
  have B14 := Lib.hid (B13.out.trans (b3.mono B13.out.size))
  have X14 := Lib.hid (X13.out.trans (b3.mono X13.out.size))
  refine hK.out _ _ ⟨D14.out, F14.out, L14.out, M14.out, B14.out⟩ (fun _ => ?_)
  clear hK K b3 D13 F13 O13 P13 L13 M13 B13 X13 IJ
  refine wpAnyH_ready (rs := [3]) (by kernel_rfl) (by simp) (AllReadyH.cons rfl (fun K hK => ?_) AllReadyH.nil)
  go_simp
  refine (HQ2.out _ _ _ P14.out.ints o3.ints).mono ?_
  rintro _ w15 ⟨rfl, b3⟩
  have D15 := Lib.hid (D14.out.keep b3)
  have F15 := Lib.hid (F14.out.keep b3)
  have O15 := Lib.hid (O14.out.all b3)
  have P15 := Lib.hid (P14.out.all b3)
  have L15 := Lib.hid (L14.out.keep b3)
  have M15 := Lib.hid (M14.out.keep b3)
  have B15 := Lib.hid (B14.out.trans (b3.mono B14.out.size))
  have X15 := Lib.hid (X14.out.trans (b3.mono X14.out.size))
  refine hK.out _ _ ⟨D15.out, F15.out, L15.out, M15.out, B15.out⟩ (fun _ => ?_)
  clear hK K b3 o3 D14 F14 O14 P14 L14 M14 B14 X14
  have hS : (fun W' : World => EcAt W' g1 ⟨n, c, k, r, z, b, o⟩ (.slice va z.length vc) ∧ EcAt W' g2 ⟨n2, c2, k2, r2, z2, b2, o2⟩ (.slice ua z2.length uc) ∧ LEcAt W' w.heap.size ⟨n, c, k, r, z, b, o⟩ (.slice a z.length cap) ∧ LEcAt W' (w.heap.size + 1) ⟨n2, c2, k2, r2, z2, b2, o2⟩ (.slice a2 z2.length cap2) ∧ Below w.heap.size w W') w15 := ⟨D15.out, F15.out, L15.out, M15.out, B15.out⟩
  refine wpAnyH_take (i := 4) (v := .bool false) rfl (by kernel_rfl) (by kernel_rfl) (by kernel_rfl) (fun _ _ _ h => h) (.inl ⟨by kernel_rfl, fun w' hS' => by go_simp⟩) hS ?_
  refine wpAnyH_done (by kernel_rfl) ?_ _
  clear hS
  go_simp
  go_wp2
  go_ret
  exact ⟨rfl, B15.out⟩

theorem table {W : World} (h : laidMetH Tryd.prog Rows.fnExactSameEncoderRow.laid W) : TabSets W ∧ TabWords W ∧ ∃ a b, Sents W a b := four_of_laid h
theorem readable : ∀ n ∈ Rows.fnExactSameEncoderSpec.vars, ∀ g t, Tryd.prog.globalNamed n = some g → (Tryd.prog.globals[g]?).map (·.type) = some t → Tryd.prog.readableRec t = true ∧ t < Tryd.prog.types.size := four_readable

end Go.Proofs.YtdckjhobikfggaaDoor.fnExactSameEncoder

namespace Go.Proofs.YtdckjhobikfggaaDoor.fnExactSameEncoder
open Go.ChangeShapes Go.WideShapes Go.ChangeAt Go.RowKit
open Go.ChangeMaps (open_string shut_string)
set_option linter.unusedVariables false

set_option maxRecDepth 100000 in
theorem contract (H : Type) (enc : TypeId × Value → H) (W : World) (base : Nat) (args : Array Value) (ds gs : List (DataW H)) (before : List MemPlace)
    (hval : ∀ (j : Nat) t v, Tryd.f7.params[j]? = some t → args[j]? = some v → Value.okWide Tryd.prog W .any base t v)
    (hW : DataW.Whole enc Tryd.prog Tryd.f7.params.toList Rows.fnExactSameEncoderSpec.vars false W args.toList ds gs before) (hL : laidMetH Tryd.prog Rows.fnExactSameEncoderRow.laid W) :
    Calls Tryd.prog 7 args W fun e W' => ∃ v, e = .returned v ∧ Rows.fnExactSameEncoderSpec.post enc Tryd.prog Tryd.f7 false true false false W args v W' := by
  have HT := Lib.hid (table hL)
  clear hL
  have hW' := hW
  obtain ⟨p, q, hA0, hV0, rfl, hfz, hnd⟩ := hW
  have hV : DataW.TrodVars enc Tryd.prog W (fun _ => true) ["loop.example/g00748/impl.codeWords", "loop.example/g00748/impl.errInvalid", "loop.example/g00748/impl.errTruncated", "loop.example/g00748/impl.registry"] gs q := hV0
  clear hV0
  have hA : DataW.TrodAll enc Tryd.prog W 0 (fun _ => true) true Tryd.f7.params.toList args.toList ds p := hA0
  rw [Tryd.params7] at hA hval
  obtain ⟨v0, vs0, d0, ds0, p0, q0, hargs, rfl, rfl, h0, r0⟩ := trodAll_cons hA
  obtain ⟨v1, vs1, d1, ds1, p1, q1, rfl, rfl, rfl, h1, r1⟩ := trodAll_cons r0
  obtain ⟨rfl, rfl, rfl⟩ := trodAll_nil r1
  obtain rfl : args = #[v0, v1] := by cases args; simp_all
  obtain ⟨g1, g2, g3, g4, rfl⟩ := trodVars_four hV
  have k0 := h0
  have lt0 : ∀ x ∈ p0, x.block < W.heap.size := by obtain ⟨m, hm⟩ := k0; exact DataW.trod_lt m _ _ _ hm
  obtain ⟨a0, x0, len0, cap0, z0, rfl, u0, e0, s0⟩ := open_encoder (hval 0 54 v0 rfl rfl) h0
  have k1 := h1
  have lt1 : ∀ x ∈ p1, x.block < W.heap.size := by obtain ⟨m, hm⟩ := k1; exact DataW.trod_lt m _ _ _ hm
  obtain ⟨a1, x1, len1, cap1, z1, rfl, u1, e1, s1⟩ := open_encoder (hval 1 54 v1 rfl rfl) h1
  clear hA0
  refine (walk a0 x0 len0 cap0 z0 a1 x1 len1 cap1 z1 W u0 e0 s0 u1 e1 s1 HT.out).mono fun e W' ⟨he, bel⟩ => ?_
  subst he
  exact ⟨_, rfl, _, _, _, [], _, q, hW', trodAll_mk1 (shut_bool Tryd.underlying4 _), (trodAll_cons_mk (Below.trod laidOut (by kernel_rfl) (of_decide_eq_true (by kernel_rfl)) k0 bel lt0) (trodAll_cons_mk (Below.trod laidOut (by kernel_rfl) (of_decide_eq_true (by kernel_rfl)) k1 bel lt1) trodAll_mk0)), trodVars_below laidOut bel readable hV, bel.frame _, fun h => by cases h⟩

theorem laid_met (os : Os) : laidMetH Tryd.prog Rows.fnExactSameEncoderRow.laid ((World.doorLaid Tryd.prog 400 os).forCall (fun _ _ => 0) ⟨#[], #[.agg #[.int .i64 0, .int .i64 0, .int .i64 0, .string ByteArray.empty, .slice none 0 0, .bool false, .bool false], .agg #[.int .i64 0, .int .i64 0, .int .i64 0, .string ByteArray.empty, .slice none 0 0, .bool false, .bool false]], []⟩).memory :=
  laidMetH_of_parts3 (fuel := 8) (laidMet_of_run' 8 (by kernel_rfl) (by kernel_rfl)) (by kernel_rfl) (by kernel_rfl)
theorem reads (os : Os) {H : Type} (enc : TypeId × Value → H) : ∃ x, DataW.whole enc Tryd.prog ((World.doorLaid Tryd.prog 400 os).forCall (fun _ _ => 0) ⟨#[], #[.agg #[.int .i64 0, .int .i64 0, .int .i64 0, .string ByteArray.empty, .slice none 0 0, .bool false, .bool false], .agg #[.int .i64 0, .int .i64 0, .int .i64 0, .string ByteArray.empty, .slice none 0 0, .bool false, .bool false]], []⟩).memory Tryd.f7.params.toList Rows.fnExactSameEncoderSpec.vars false #[.agg #[.int .i64 0, .int .i64 0, .int .i64 0, .string ByteArray.empty, .slice none 0 0, .bool false, .bool false], .agg #[.int .i64 0, .int .i64 0, .int .i64 0, .string ByteArray.empty, .slice none 0 0, .bool false, .bool false]].toList 8 = some x :=
  Option.isSome_iff_exists.1 (by kernel_rfl)

set_option maxRecDepth 100000 in
theorem lifted (os : Os) (started : os.Started) (H : Type) (enc : TypeId × Value → H) (F : Stop.Interp) :
    ReturnsInHanded {} Tryd.checked os 7 .any ((OpenSpec.ofChange Rows.fnExactSameEncoderSpec).preRow enc Tryd.prog Tryd.f7 Rows.fnExactSameEncoderRow.domain false Rows.fnExactSameEncoderRow.laid) (((OpenSpec.ofChange Rows.fnExactSameEncoderSpec).at F).post enc Tryd.prog Tryd.f7 false true false false) := by
  obtain ⟨x, hx⟩ := reads os enc
  refine returnsInHanded_of_row (C := Tryd.checked) (s := OpenSpec.ofChange Rows.fnExactSameEncoderSpec) own started (by kernel_rfl) Tryd.func7
    (witness_row_atRef (enc := enc) (C := Tryd.checked) false (World.doorLaid Tryd.prog 400 os) #[.agg #[.int .i64 0, .int .i64 0, .int .i64 0, .string ByteArray.empty, .slice none 0 0, .bool false, .bool false], .agg #[.int .i64 0, .int .i64 0, .int .i64 0, .string ByteArray.empty, .slice none 0 0, .bool false, .bool false]] rfl (by kernel_rfl) (by kernel_rfl) (by kernel_rfl)
      (OpenSpec.preRow_of_cond 8 hx rfl (fun k hk => by cases hk) (by kernel_rfl) (laid_met os))) ?_
  intro W base args ds gs before hval hW _ _ _ hL _ _
  exact contract H enc W base args ds gs before hval hW hL

theorem said : Rows.FnExactSameEncoderSaid :=
  OpenClaim.holds_of_cond 7 Tryd.f7 rfl rfl rfl rfl rfl rfl rfl ⟨rfl, rfl, rfl, rfl, rfl⟩ rfl rfl rfl rfl rfl (by kernel_rfl) Tryd.func7 (by kernel_rfl)
    (of_decide_eq_true (by kernel_rfl)) (by unfold Func.isWrapper; first | (rw [if_pos (by decide +kernel)]; kernel_rfl) | (rw [if_neg (by decide +kernel)]; exact ⟨rfl, rfl⟩))
    (fun os started H enc _ F => by rw [OpenClaim.pre_eq_preRow]; exact lifted os started H enc F)

theorem plain (f : FuncId) (fn : Func) (hf : Tryd.pinned.checked.prog.funcNamed "loop.example/g00748/laws.FnExactSameEncoder" = some f) (hfn : Tryd.pinned.checked.prog.funcs[f]? = some fn) :
    Rows.fnExactSameEncoderCard.stood.looks = Tryd.pinned.checked.prog.looks [] ∧ ∀ (j : Nat) t, fn.params[j]? = some t → Tryd.pinned.checked.prog.wantsStandIn t = false := by
  obtain rfl : f = 7 := Option.some.inj ((show Tryd.prog.funcNamed "loop.example/g00748/laws.FnExactSameEncoder" = some 7 by kernel_rfl).symm.trans hf) |>.symm
  obtain rfl : fn = Tryd.f7 := (Option.some.inj (Tryd.func7.symm.trans hfn)).symm
  refine ⟨by kernel_rfl, fun j t ht => ?_⟩
  rw [Tryd.params7] at ht
  have hm := Array.mem_of_getElem? ht
  simp at hm
  subst hm
  exact (show Tryd.prog.wantsStandIn 54 = false by kernel_rfl)

theorem card : Rows.FnExactSameEncoderCardSaid :=
  Claim7.holds_tied_plain_at .later [] _ _ _ _ said (fun _ h => by cases h) (by kernel_rfl) (fun _ h => by cases h) fnExactSameEncoder_row_tie rfl ⟨rfl, rfl⟩ (by kernel_rfl) rfl plain (by kernel_rfl)
end Go.Proofs.YtdckjhobikfggaaDoor.fnExactSameEncoder

namespace Go.Proofs.YtdckjhobikfggaaDoor
theorem fnExactSameEncoder_holds : Rows.FnExactSameEncoderCardSaid := fnExactSameEncoder.card
end Go.Proofs.YtdckjhobikfggaaDoor
