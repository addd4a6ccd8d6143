/- The tied card of 'FnExactCloseDecoder': from the walk to the given statement. The listed package-level variables start as the program's text lays them (the given tie). Joined of: PcW, RfA, RfB, RfC, RdR, RdD, PcD, PcE, WordsLaid, SetsLaid, MaLaid, PcLaid, FnExactCloseDecoderWalk, FnExactCloseDecoderCard. -/
import Derived.Test.YtdckjhobikfggaaDoorFnExactCloseDecoderG1
import Derived.RangeFuncNested
import Derived.RangeFuncBound
import Derived.RangeFuncCalls
import Derived.RangeFuncLeaves
import Derived.Shelf.Abstract
import Derived.WalkKit
import Derived.Below
import Derived.OrdersHeld
import Derived.OrdersIn
import Derived.TacticsIn
import Derived.StillTail
import Derived.Deep.RegionHeld
import Derived.Deep.RegionLaw
import Derived.Test.YtdckjhobikfggaaDoorVars
import Derived.Test.YtdckjhobikfggaaDoorSetsT
import Derived.Lib.SmallJoins
import Derived.Test.YtdckjhobikfggaaDoorMaB
import Derived.Test.YtdckjhobikfggaaDoorCards
import Derived.Test.YtdckjhobikfggaaDoorTie
import Derived.Lib.Hide
import Derived.Test.YtdckjhobikfggaaDoorDeOpen

namespace Go.Proofs.YtdckjhobikfggaaDoor
open Go.RowKit Go.Sort

theorem region_held_v {P : Program} {id : Nat} {ops : Array Oper} {Q : Exit → Act → World → Prop} {S : World → Prop} {a : Act} {w : World} (w2 : World) (hw : { w with drawn := w.drawn + 1 } = w2) (hm : P.follows .mixedOrders = true)
    (h : wpAnyH P .any ops Q S ops.size (Array.replicate ops.size false) a w2) : (Code.region id ops true).wp P Q a w := by
  subst hw
  exact wp_region_held hm h

set_option maxHeartbeats 2000000 in
set_option maxRecDepth 100000 in
theorem closeBad (n a c : Int) (x : St) (r : ByteArray) (b : Bool) (o : Bool) (w : World) (hr : r.size ≤ 1048576) (hok : deOK ⟨n, a, c, x, r, b, o⟩ = false) : Calls Tryd.prog 25 #[deV ⟨n, a, c, x, r, b, o⟩] w fun e w' => e = .returned (.tuple #[deV zeroDe, .int .i64 1]) ∧ Below w.heap.size w w' := by
  have HO := Lib.hid (fun w => spec_l08OK ⟨n, a, c, x, r, b, o⟩ w hr)
  rw [hok] at HO
  have D0 : Hid (DeAt ((w.alloc (.cells #[.int .i64 n, .int .i64 a, .int .i64 c, .int .i64 x.g0, .int .i64 x.g1, .int .i64 x.g2, .int .i64 x.g3, .int .i64 x.l, .int .i64 x.s, .int .i64 x.d, .string r, .bool b, .bool o] 47)).alloc (.cells #[.int .i64 0, .int .i64 0, .int .i64 0, .int .i64 0, .int .i64 0, .int .i64 0, .int .i64 0, .int .i64 0, .int .i64 0, .int .i64 0, .string ⟨#[]⟩, .bool false, .bool false] 47)) w.heap.size ⟨n, a, c, x, r, b, o⟩) := Lib.hid (heap_alloc2_old _ _ _)
  have R0 : Hid (DeAt ((w.alloc (.cells #[.int .i64 n, .int .i64 a, .int .i64 c, .int .i64 x.g0, .int .i64 x.g1, .int .i64 x.g2, .int .i64 x.g3, .int .i64 x.l, .int .i64 x.s, .int .i64 x.d, .string r, .bool b, .bool o] 47)).alloc (.cells #[.int .i64 0, .int .i64 0, .int .i64 0, .int .i64 0, .int .i64 0, .int .i64 0, .int .i64 0, .int .i64 0, .int .i64 0, .int .i64 0, .string ⟨#[]⟩, .bool false, .bool false] 47)) (w.heap.size + 1) zeroDe) := Lib.hid (heap_alloc2_new _ _ _)
  have B0 := Lib.hid (below_two w (.cells #[.int .i64 n, .int .i64 a, .int .i64 c, .int .i64 x.g0, .int .i64 x.g1, .int .i64 x.g2, .int .i64 x.g3, .int .i64 x.l, .int .i64 x.s, .int .i64 x.d, .string r, .bool b, .bool o] 47) (.cells #[.int .i64 0, .int .i64 0, .int .i64 0, .int .i64 0, .int .i64 0, .int .i64 0, .int .i64 0, .int .i64 0, .int .i64 0, .int .i64 0, .string ⟨#[]⟩, .bool false, .bool false] 47))
  have HV : Hid (deV ⟨n, a, c, x, r, b, o⟩ = .agg #[.int .i64 n, .int .i64 a, .int .i64 c, .int .i64 x.g0, .int .i64 x.g1, .int .i64 x.g2, .int .i64 x.g3, .int .i64 x.l, .int .i64 x.s, .int .i64 x.d, .string r, .bool b, .bool o]) := Lib.hid rfl
  rw [HV.out] at HO
  clear hr hok
  rw [HV.out]
  go_enter Tryd.func25, Tryd.ntmps25
  go_wp2_with fail
  refine (HO.out _).mono ?_
  generalize (w.alloc (.cells #[.int .i64 n, .int .i64 a, .int .i64 c, .int .i64 x.g0, .int .i64 x.g1, .int .i64 x.g2, .int .i64 x.g3, .int .i64 x.l, .int .i64 x.s, .int .i64 x.d, .string r, .bool b, .bool o] 47)).alloc (.cells #[.int .i64 0, .int .i64 0, .int .i64 0, .int .i64 0, .int .i64 0, .int .i64 0, .int .i64 0, .int .i64 0, .int .i64 0, .int .i64 0, .string ⟨#[]⟩, .bool false, .bool false] 47) = W at *
  rintro e w1 ⟨rfl, b1⟩
  have D1 := Lib.hid (D0.out.keep b1)
  have R1 := Lib.hid (R0.out.keep b1)
  have B1 := Lib.hid (B0.out.trans (b1.mono B0.out.size))
  clear b1 D0 R0 B0
  have ⟨r0, r1, r2, r3, r4, r5, r6, r7, r8, r9, r10, r11, r12⟩ := deCells R1.out
  have ⟨s0, s1, s2, s3, s4, s5, s6, s7, s8, s9, s10, s11, s12⟩ := R1.out.thaw
  have hl1 := R1.out.lt
  go_wp2
  exact de_ret2 (y := zeroDe) rfl rfl rfl (R1.out.put zeroDe) Tryd.underlying47 rfl (by kernel_rfl) rfl ⟨rfl, below_putDe B1.out (by omega) zeroDe⟩

set_option maxHeartbeats 2000000 in
set_option maxRecDepth 100000 in
theorem closeOver (n a c : Int) (x : St) (r : ByteArray) (b : Bool) (w : World) (hr : r.size ≤ 1048576) (hok : deOK ⟨n, a, c, x, r, b, true⟩ = true) : Calls Tryd.prog 25 #[deV ⟨n, a, c, x, r, b, true⟩] w fun e w' => e = .returned (.tuple #[deV ⟨n, a, c, x, r, b, true⟩, .int .i64 (whyC ⟨n, a, c, x, r, b, true⟩)]) ∧ Below w.heap.size w w' := by
  have HO := Lib.hid (fun w => spec_l08OK ⟨n, a, c, x, r, b, true⟩ w hr)
  rw [hok] at HO
  have D0 : Hid (DeAt ((w.alloc (.cells #[.int .i64 n, .int .i64 a, .int .i64 c, .int .i64 x.g0, .int .i64 x.g1, .int .i64 x.g2, .int .i64 x.g3, .int .i64 x.l, .int .i64 x.s, .int .i64 x.d, .string r, .bool b, .bool true] 47)).alloc (.cells #[.int .i64 0, .int .i64 0, .int .i64 0, .int .i64 0, .int .i64 0, .int .i64 0, .int .i64 0, .int .i64 0, .int .i64 0, .int .i64 0, .string ⟨#[]⟩, .bool false, .bool false] 47)) w.heap.size ⟨n, a, c, x, r, b, true⟩) := Lib.hid (heap_alloc2_old _ _ _)
  have R0 : Hid (DeAt ((w.alloc (.cells #[.int .i64 n, .int .i64 a, .int .i64 c, .int .i64 x.g0, .int .i64 x.g1, .int .i64 x.g2, .int .i64 x.g3, .int .i64 x.l, .int .i64 x.s, .int .i64 x.d, .string r, .bool b, .bool true] 47)).alloc (.cells #[.int .i64 0, .int .i64 0, .int .i64 0, .int .i64 0, .int .i64 0, .int .i64 0, .int .i64 0, .int .i64 0, .int .i64 0, .int .i64 0, .string ⟨#[]⟩, .bool false, .bool false] 47)) (w.heap.size + 1) zeroDe) := Lib.hid (heap_alloc2_new _ _ _)
  have B0 := Lib.hid (below_two w (.cells #[.int .i64 n, .int .i64 a, .int .i64 c, .int .i64 x.g0, .int .i64 x.g1, .int .i64 x.g2, .int .i64 x.g3, .int .i64 x.l, .int .i64 x.s, .int .i64 x.d, .string r, .bool b, .bool true] 47) (.cells #[.int .i64 0, .int .i64 0, .int .i64 0, .int .i64 0, .int .i64 0, .int .i64 0, .int .i64 0, .int .i64 0, .int .i64 0, .int .i64 0, .string ⟨#[]⟩, .bool false, .bool false] 47))
  have HV : Hid (deV ⟨n, a, c, x, r, b, true⟩ = .agg #[.int .i64 n, .int .i64 a, .int .i64 c, .int .i64 x.g0, .int .i64 x.g1, .int .i64 x.g2, .int .i64 x.g3, .int .i64 x.l, .int .i64 x.s, .int .i64 x.d, .string r, .bool b, .bool true]) := Lib.hid rfl
  rw [HV.out] at HO
  have HY := Lib.hid (fun w => spec_l08Why ⟨n, a, c, x, r, b, true⟩ w)
  rw [HV.out] at HY
  generalize whyC ⟨n, a, c, x, r, b, true⟩ = cc at *
  clear hr hok
  rw [HV.out]
  go_enter Tryd.func25, Tryd.ntmps25
  go_wp2_with fail
  refine (HO.out _).mono ?_
  generalize (w.alloc (.cells #[.int .i64 n, .int .i64 a, .int .i64 c, .int .i64 x.g0, .int .i64 x.g1, .int .i64 x.g2, .int .i64 x.g3, .int .i64 x.l, .int .i64 x.s, .int .i64 x.d, .string r, .bool b, .bool true] 47)).alloc (.cells #[.int .i64 0, .int .i64 0, .int .i64 0, .int .i64 0, .int .i64 0, .int .i64 0, .int .i64 0, .int .i64 0, .int .i64 0, .int .i64 0, .string ⟨#[]⟩, .bool false, .bool false] 47) = W at *
  rintro e w1 ⟨rfl, b1⟩
  have D1 := Lib.hid (D0.out.keep b1)
  have R1 := Lib.hid (R0.out.keep b1)
  have B1 := Lib.hid (B0.out.trans (b1.mono B0.out.size))
  clear b1 D0 R0 B0
  have y12 := (deCells D1.out).2.2.2.2.2.2.2.2.2.2.2.2
  have hl1 := D1.out.lt
  go_wp2_with fail
  clear y12
  have hS : (fun W' : World => DeAt W' w.heap.size ⟨n, a, c, x, r, b, true⟩ ∧ Below w.heap.size w W') w1.drew := ⟨D1.out, below_drewN B1.out 1⟩
  refine wp_region_held (S := (fun W' : World => DeAt W' w.heap.size ⟨n, a, c, x, r, b, true⟩ ∧ Below w.heap.size w W')) (by kernel_rfl) ?_
  refine wpAnyH_take (i := 0) (v := .agg #[.int .i64 n, .int .i64 a, .int .i64 c, .int .i64 x.g0, .int .i64 x.g1, .int .i64 x.g2, .int .i64 x.g3, .int .i64 x.l, .int .i64 x.s, .int .i64 x.d, .string r, .bool b, .bool true]) rfl (by kernel_rfl) (by kernel_rfl) (by kernel_rfl) (fun _ _ _ h => h) (.inl ⟨by rfl, fun w' hS' => by have ⟨y0, y1, y2, y3, y4, y5, y6, y7, y8, y9, y10, y11, y12⟩ := deCells hS'.1; go_simp⟩) hS ?_
  refine wpAnyH_take (i := 1) (v := .agg #[.int .i64 n, .int .i64 a, .int .i64 c, .int .i64 x.g0, .int .i64 x.g1, .int .i64 x.g2, .int .i64 x.g3, .int .i64 x.l, .int .i64 x.s, .int .i64 x.d, .string r, .bool b, .bool true]) rfl (by kernel_rfl) (by kernel_rfl) (by kernel_rfl) (fun _ _ _ h => h) (.inl ⟨by rfl, fun w' hS' => by have ⟨y0, y1, y2, y3, y4, y5, y6, y7, y8, y9, y10, y11, y12⟩ := deCells hS'.1; go_simp⟩) hS ?_
  refine wpAnyH_ready (rs := [2]) (by kernel_rfl) (by simp) (AllReadyH.cons rfl (fun K hK => ?_) AllReadyH.nil)
  clear hS
  go_simp
  refine (HY.out _).mono ?_
  rintro e w2 ⟨rfl, b2⟩
  have D2 := Lib.hid (D1.out.keep (bel_drew b2))
  have R2 := Lib.hid (R1.out.keep (bel_drew b2))
  have B2 := Lib.hid (B1.out.trans ((bel_drew b2).mono B1.out.size))
  refine hK.out _ _ ⟨D2.out, B2.out⟩ (fun _ => ?_)
  clear hK K b2
  have hS : (fun W' : World => DeAt W' w.heap.size ⟨n, a, c, x, r, b, true⟩ ∧ Below w.heap.size w W') w2 := ⟨D2.out, B2.out⟩
  refine wpAnyH_ready (rs := [3]) (by kernel_rfl) (by simp) (AllReadyH.cons rfl (fun K hK => ?_) AllReadyH.nil)
  have ⟨r0, r1, r2, r3, r4, r5, r6, r7, r8, r9, r10, r11, r12⟩ := deCells R2.out
  have ⟨s0, s1, s2, s3, s4, s5, s6, s7, s8, s9, s10, s11, s12⟩ := R2.out.thaw
  have hl2 := R2.out.lt
  have R5 := Lib.hid (R2.out.put ⟨n, a, c, x, r, b, true⟩)
  have B5 := Lib.hid (below_putDe B2.out (show w.heap.size ≤ w.heap.size + 1 by omega) ⟨n, a, c, x, r, b, true⟩)
  have D5 : Hid (DeAt (putDe w2 (w.heap.size + 1) ⟨n, a, c, x, r, b, true⟩) w.heap.size ⟨n, a, c, x, r, b, true⟩) := Lib.hid (((only_putDe (w.heap.size + 1) w2 ⟨n, a, c, x, r, b, true⟩).2 _ (by omega) D2.out.lt).trans D2.out)
  clear hS
  go_simp
  refine hK.out _ _ ⟨D5.out, B5.out⟩ (fun _ => ?_)
  clear hK K
  have hS : (fun W' : World => DeAt W' w.heap.size ⟨n, a, c, x, r, b, true⟩ ∧ Below w.heap.size w W') (putDe w2 (w.heap.size + 1) ⟨n, a, c, x, r, b, true⟩) := ⟨D5.out, B5.out⟩
  refine wpAnyH_take (i := 4) (v := .int .i64 cc) rfl (by kernel_rfl) (by kernel_rfl) (by kernel_rfl) (fun _ _ _ h => h) (.inl ⟨by rfl, fun w' hS' => by go_simp⟩) hS ?_
  refine wpAnyH_done (by kernel_rfl) ?_ _
  clear hS r0 r1 r2 r3 r4 r5 r6 r7 r8 r9 r10 r11 r12 s0 s1 s2 s3 s4 s5 s6 s7 s8 s9 s10 s11 s12
  go_wp2
  exact de_ret2 (y := ⟨n, a, c, x, r, b, true⟩) rfl rfl rfl R5.out Tryd.underlying47 rfl (by kernel_rfl) rfl ⟨rfl, B5.out⟩

set_option maxHeartbeats 2000000 in
set_option maxRecDepth 100000 in
theorem closeOk (n a c : Int) (x : St) (r : ByteArray) (b : Bool) (w : World) (hr : r.size ≤ 1048576) (hok : deOK ⟨n, a, c, x, r, b, false⟩ = true) : Calls Tryd.prog 25 #[deV ⟨n, a, c, x, r, b, false⟩] w fun e w' => e = .returned (.tuple #[deV (failD ⟨n, a, c, x, r, b, false⟩ (clC ⟨n, a, c, x, r, b, false⟩)), .int .i64 (clC ⟨n, a, c, x, r, b, false⟩)]) ∧ Below w.heap.size w w' := by
  have HO := Lib.hid (fun w => spec_l08OK ⟨n, a, c, x, r, b, false⟩ w hr)
  rw [hok] at HO
  have D0 : Hid (DeAt ((w.alloc (.cells #[.int .i64 n, .int .i64 a, .int .i64 c, .int .i64 x.g0, .int .i64 x.g1, .int .i64 x.g2, .int .i64 x.g3, .int .i64 x.l, .int .i64 x.s, .int .i64 x.d, .string r, .bool b, .bool false] 47)).alloc (.cells #[.int .i64 0, .int .i64 0, .int .i64 0, .int .i64 0, .int .i64 0, .int .i64 0, .int .i64 0, .int .i64 0, .int .i64 0, .int .i64 0, .string ⟨#[]⟩, .bool false, .bool false] 47)) w.heap.size ⟨n, a, c, x, r, b, false⟩) := Lib.hid (heap_alloc2_old _ _ _)
  have R0 : Hid (DeAt ((w.alloc (.cells #[.int .i64 n, .int .i64 a, .int .i64 c, .int .i64 x.g0, .int .i64 x.g1, .int .i64 x.g2, .int .i64 x.g3, .int .i64 x.l, .int .i64 x.s, .int .i64 x.d, .string r, .bool b, .bool false] 47)).alloc (.cells #[.int .i64 0, .int .i64 0, .int .i64 0, .int .i64 0, .int .i64 0, .int .i64 0, .int .i64 0, .int .i64 0, .int .i64 0, .int .i64 0, .string ⟨#[]⟩, .bool false, .bool false] 47)) (w.heap.size + 1) zeroDe) := Lib.hid (heap_alloc2_new _ _ _)
  have B0 := Lib.hid (below_two w (.cells #[.int .i64 n, .int .i64 a, .int .i64 c, .int .i64 x.g0, .int .i64 x.g1, .int .i64 x.g2, .int .i64 x.g3, .int .i64 x.l, .int .i64 x.s, .int .i64 x.d, .string r, .bool b, .bool false] 47) (.cells #[.int .i64 0, .int .i64 0, .int .i64 0, .int .i64 0, .int .i64 0, .int .i64 0, .int .i64 0, .int .i64 0, .int .i64 0, .int .i64 0, .string ⟨#[]⟩, .bool false, .bool false] 47))
  have HV : Hid (deV ⟨n, a, c, x, r, b, false⟩ = .agg #[.int .i64 n, .int .i64 a, .int .i64 c, .int .i64 x.g0, .int .i64 x.g1, .int .i64 x.g2, .int .i64 x.g3, .int .i64 x.l, .int .i64 x.s, .int .i64 x.d, .string r, .bool b, .bool false]) := Lib.hid rfl
  rw [HV.out] at HO
  have HCl := Lib.hid (fun w => spec_l08Close ⟨n, a, c, x, r, b, false⟩ w)
  rw [HV.out] at HCl
  generalize clC ⟨n, a, c, x, r, b, false⟩ = k at *
  obtain ⟨y, hy⟩ : ∃ y, failD ⟨n, a, c, x, r, b, false⟩ k = y := ⟨_, rfl⟩
  have hc : y.c = k := by rw [← hy]; rfl
  rw [hy] at HCl
  rw [hy, ← hc]
  clear hy hc
  unfold DeDone at HCl
  have HY : Hid (deV y = .agg #[.int .i64 y.n, .int .i64 y.a, .int .i64 y.c, .int .i64 y.x.g0, .int .i64 y.x.g1, .int .i64 y.x.g2, .int .i64 y.x.g3, .int .i64 y.x.l, .int .i64 y.x.s, .int .i64 y.x.d, .string y.r, .bool y.b, .bool y.o]) := Lib.hid rfl
  rw [HY.out] at HCl
  clear hr hok
  rw [HV.out]
  go_enter Tryd.func25, Tryd.ntmps25
  go_wp2_with fail
  refine (HO.out _).mono ?_
  generalize (w.alloc (.cells #[.int .i64 n, .int .i64 a, .int .i64 c, .int .i64 x.g0, .int .i64 x.g1, .int .i64 x.g2, .int .i64 x.g3, .int .i64 x.l, .int .i64 x.s, .int .i64 x.d, .string r, .bool b, .bool false] 47)).alloc (.cells #[.int .i64 0, .int .i64 0, .int .i64 0, .int .i64 0, .int .i64 0, .int .i64 0, .int .i64 0, .int .i64 0, .int .i64 0, .int .i64 0, .string ⟨#[]⟩, .bool false, .bool false] 47) = W at *
  rintro e w1 ⟨rfl, b1⟩
  have D1 := Lib.hid (D0.out.keep b1)
  have R1 := Lib.hid (R0.out.keep b1)
  have B1 := Lib.hid (B0.out.trans (b1.mono B0.out.size))
  clear b1 D0 R0 B0
  have ⟨y0, y1, y2, y3, y4, y5, y6, y7, y8, y9, y10, y11, y12⟩ := deCells D1.out
  have hl1 := D1.out.lt
  go_wp2_with fail
  refine (HCl.out _).mono ?_
  clear y0 y1 y2 y3 y4 y5 y6 y7 y8 y9 y10 y11 y12
  rintro e w2 ⟨rfl, b2⟩
  have R2 := Lib.hid ((R1.out.keep b2).keep (below_one w2 (.cells #[.int .i64 y.n, .int .i64 y.a, .int .i64 y.c, .int .i64 y.x.g0, .int .i64 y.x.g1, .int .i64 y.x.g2, .int .i64 y.x.g3, .int .i64 y.x.l, .int .i64 y.x.s, .int .i64 y.x.d, .string y.r, .bool y.b, .bool y.o] 47)))
  have Y2 := Lib.hid (DeAt.new w2 y)
  have hg : w.heap.size + 1 < w2.heap.size := (R1.out.keep b2).lt
  have B2 := Lib.hid ((B1.out.trans (b2.mono B1.out.size)).alloc (B1.out.trans (b2.mono B1.out.size)).size (.cells #[.int .i64 y.n, .int .i64 y.a, .int .i64 y.c, .int .i64 y.x.g0, .int .i64 y.x.g1, .int .i64 y.x.g2, .int .i64 y.x.g3, .int .i64 y.x.l, .int .i64 y.x.s, .int .i64 y.x.d, .string y.r, .bool y.b, .bool y.o] 47))
  clear b2
  go_wp2_with fail
  generalize hgg : w2.heap.size = g at *
  generalize w2.alloc (.cells #[.int .i64 y.n, .int .i64 y.a, .int .i64 y.c, .int .i64 y.x.g0, .int .i64 y.x.g1, .int .i64 y.x.g2, .int .i64 y.x.g3, .int .i64 y.x.l, .int .i64 y.x.s, .int .i64 y.x.d, .string y.r, .bool y.b, .bool y.o] 47) = W2 at *
  clear hgg
  have R3 : Hid (DeAt W2.drew (w.heap.size + 1) zeroDe) := Lib.hid R2.out
  have Y3 : Hid (DeAt W2.drew g y) := Lib.hid Y2.out
  have B3 : Hid (Below w.heap.size w W2.drew) := Lib.hid (below_drewN B2.out 1)
  clear R2 Y2 B2
  refine region_held_v (S := (fun W' : World => DeAt W' g y ∧ Below w.heap.size w W')) W2.drew rfl (by kernel_rfl) ?_
  generalize W2.drew = V at *
  have hS : (fun W' : World => DeAt W' g y ∧ Below w.heap.size w W') V := ⟨Y3.out, B3.out⟩
  refine wpAnyH_take (i := 0) (v := .agg #[.int .i64 y.n, .int .i64 y.a, .int .i64 y.c, .int .i64 y.x.g0, .int .i64 y.x.g1, .int .i64 y.x.g2, .int .i64 y.x.g3, .int .i64 y.x.l, .int .i64 y.x.s, .int .i64 y.x.d, .string y.r, .bool y.b, .bool y.o]) rfl (by kernel_rfl) (by kernel_rfl) (by kernel_rfl) (fun _ _ _ h => h) (.inl ⟨by rfl, fun w' hS' => by have ⟨y0, y1, y2, y3, y4, y5, y6, y7, y8, y9, y10, y11, y12⟩ := DeAt.cells hS'.1; go_simp⟩) hS ?_
  refine wpAnyH_take (i := 1) (v := .pointer (some ⟨g, 2, none⟩)) rfl (by kernel_rfl) (by kernel_rfl) (by kernel_rfl) (fun _ _ _ h => h) (.inl ⟨by rfl, fun w' hS' => by go_simp⟩) hS ?_
  refine wpAnyH_take (i := 2) (v := .int .i64 y.c) rfl (by kernel_rfl) (by kernel_rfl) (by kernel_rfl) (fun _ _ _ h => h) (.inl ⟨by rfl, fun w' hS' => by have y2 := (DeAt.cells hS'.1).2.2.1; go_simp⟩) hS ?_
  refine wpAnyH_ready (rs := [3]) (by kernel_rfl) (by simp) (AllReadyH.cons rfl (fun K hK => ?_) AllReadyH.nil)
  have ⟨r0, r1, r2, r3, r4, r5, r6, r7, r8, r9, r10, r11, r12⟩ := deCells R3.out
  have ⟨s0, s1, s2, s3, s4, s5, s6, s7, s8, s9, s10, s11, s12⟩ := R3.out.thaw
  have hl2 := R3.out.lt
  have R5 := Lib.hid (R3.out.put y)
  have B5 := Lib.hid (below_putDe B3.out (show w.heap.size ≤ w.heap.size + 1 by omega) y)
  have D5 : Hid (DeAt (putDe V (w.heap.size + 1) y) g y) := Lib.hid (((only_putDe (w.heap.size + 1) V y).2 _ (by omega) Y3.out.lt).trans Y3.out)
  clear hS
  go_simp
  refine hK.out _ _ ⟨D5.out, B5.out⟩ (fun _ => ?_)
  clear hK K
  have hS : (fun W' : World => DeAt W' g y ∧ Below w.heap.size w W') (putDe V (w.heap.size + 1) y) := ⟨D5.out, B5.out⟩
  refine wpAnyH_take (i := 4) (v := .int .i64 y.c) rfl (by kernel_rfl) (by kernel_rfl) (by kernel_rfl) (fun _ _ _ h => h) (.inl ⟨by rfl, fun w' hS' => by go_simp⟩) hS ?_
  refine wpAnyH_done (by kernel_rfl) ?_ _
  clear hS r0 r1 r2 r3 r4 r5 r6 r7 r8 r9 r10 r11 r12 s0 s1 s2 s3 s4 s5 s6 s7 s8 s9 s10 s11 s12
  go_wp2
  exact de_ret2 (y := y) rfl rfl rfl R5.out Tryd.underlying47 rfl (by kernel_rfl) rfl ⟨rfl, B5.out⟩

theorem spec_CloseDecoder (d : De) (w : World) (hr : d.r.size ≤ 1048576) : Calls Tryd.prog 25 #[deV d] w (CdDone d w) := by
  obtain ⟨n, a, c, x, r, b, o⟩ := d
  unfold CdDone
  cases hok : deOK ⟨n, a, c, x, r, b, o⟩
  · obtain ⟨h1, h2⟩ := cl_bad hok
    rw [h1, h2]
    exact closeBad n a c x r b o w hr hok
  cases o
  · obtain ⟨h1, h2⟩ := cl_ok hok rfl
    rw [h1, h2]
    exact closeOk n a c x r b w hr hok
  · obtain ⟨h1, h2⟩ := cl_over hok rfl
    rw [h1, h2]
    exact closeOver n a c x r b w hr hok

end Go.Proofs.YtdckjhobikfggaaDoor

namespace Go.Proofs.YtdckjhobikfggaaDoor
open Go Go.RowKit

variable {P : Program}

/-- A walk in a frame of the function f. -/
def wpF (f : FuncId) (P : Program) (c : Code) (Q : Exit → Act → World → Prop) (a : Act) (w : World) : Prop :=
  ∀ (b : Frame) (k : List Item) (cs : List Frame), b.roundOf = none → b.fn = f →
    ∃ e a' w', Q e a' w' ∧ ArrivesIn (Machine.fenced P Fence.wide) P (lone (b.atR a (.code c :: k)) cs w) b k cs e a' w'

theorem wpF_of_wp {f : FuncId} {c : Code} {Q : Exit → Act → World → Prop} {a : Act} {w : World} (h : c.wp P Q a w) : wpF f P c Q a w :=
  fun b k cs hro _ => (wpIn_wide (n := 0)).2 h b k cs hro trivial (room_wide _)

theorem wpF_seq {f : FuncId} {x y : Code} {Q : Exit → Act → World → Prop} {a : Act} {w : World} (h : wpF f P x (Exit.then (wpF f P y Q) Q) a w) : wpF f P (Code.seq x y) Q a w := by
  intro b k cs hro hb
  have h0 : (lone (b.atR a (.code (.seq x y) :: k)) cs w).fenced P Fence.wide := fenced_wide _ _
  obtain ⟨e, a₁, w₁, hq, harr⟩ := h b (.code y :: k) cs hro hb
  cases e with
  | normal =>
    obtain ⟨e₂, a₂, w₂, hq₂, harr₂⟩ := hq b k cs hro hb
    exact ⟨e₂, a₂, w₂, hq₂, .of_steps (.head h0 stepR_seq harr) harr₂⟩
  | exit id => exact ⟨_, a₁, w₁, hq, .of_steps (.one h0 stepR_seq) (.pass (x := .code y) rfl (fun _ _ => .inl (by simp)) harr)⟩
  | goto l => exact ⟨_, a₁, w₁, hq, .of_steps (.one h0 stepR_seq) (.pass (x := .code y) rfl (fun _ _ => .inl (by simp)) harr)⟩
  | ret => exact ⟨_, a₁, w₁, hq, .of_steps (.one h0 stepR_seq) (.pass (x := .code y) rfl (fun _ _ => .inl (by simp)) harr)⟩
  | panic ch => exact ⟨_, a₁, w₁, hq, .of_steps (.one h0 stepR_seq) (.pass (x := .code y) rfl (fun _ _ => .inl (by simp)) harr)⟩
  | outgrown => exact ⟨_, a₁, w₁, hq, .of_steps (.one h0 stepR_seq) (.pass (x := .code y) rfl (fun _ _ => .inl (by simp)) harr)⟩

/-- A block that nothing leaves by its own exit. -/
theorem wpF_block {f : FuncId} {id : Nat} {c : Code} {Q : Exit → Act → World → Prop} {a : Act} {w : World} (h : wpF f P c (Exit.inBlock id Q) a w) : wpF f P (Code.block id c) Q a w := by
  intro b k cs hro hb
  have h0 : (lone (b.atR a (.code (.block id c) :: k)) cs w).fenced P Fence.wide := fenced_wide _ _
  obtain ⟨e, a₁, w₁, hq, harr⟩ := h b (.inBlock id :: k) cs hro hb
  cases e with
  | normal => exact ⟨.normal, a₁, w₁, hq, .head h0 stepR_block (StepsIn.trans harr (.one (fenced_wide _ _) stepR_inBlock))⟩
  | exit id' =>
    by_cases hid : id' = id
    · simp only [Exit.inBlock, hid, if_true] at hq
      exact ⟨.normal, a₁, w₁, hq, .head h0 stepR_block (harr.1 k (by simp [exitTo, hid]))⟩
    · simp only [Exit.inBlock, hid, if_false] at hq
      have this : (id == id') = false := by simp; exact fun h => hid h.symm
      have hx : exitTo id' (.inBlock id :: k) = exitTo id' k := by simp [exitTo, this]
      exact ⟨.exit id', a₁, w₁, hq, fun k' hk => .head h0 stepR_block (harr.1 k' (by rw [hx]; exact hk)),
        fun hr' hk => let ⟨k₁, h1, h2⟩ := harr.2 hr' (by rw [hx]; exact hk); ⟨k₁, h1, .head h0 stepR_block h2⟩⟩
  | goto l =>
    have hx : gotoIn l (.inBlock id :: k) = gotoIn l k := by simp [gotoIn]
    exact ⟨.goto l, a₁, w₁, hq, fun k' hk => .head h0 stepR_block (harr.1 k' (by rw [hx]; exact hk)),
      fun hr' hk => let ⟨k₁, h1, h2⟩ := harr.2 hr' (by rw [hx]; exact hk); ⟨k₁, h1, .head h0 stepR_block h2⟩⟩
  | ret => exact ⟨.ret, a₁, w₁, hq, fun hr => let ⟨todo, hs⟩ := harr.1 hr; ⟨todo, .head h0 stepR_block hs⟩, fun hr => let ⟨k₁, hs⟩ := harr.2 hr; ⟨k₁, .head h0 stepR_block hs⟩⟩
  | panic ch =>
    obtain ⟨todo, hs⟩ := harr
    exact ⟨.panic ch, a₁, w₁, hq, todo, .head h0 stepR_block hs⟩
  | outgrown => exact ⟨.outgrown, a₁, w₁, hq, harr.imp (fun h => h) (Outgrown.of_steps (.one stepR_block))⟩

/-- A function's contract from such a walk of its body. -/
theorem calls_of_wpF {f : FuncId} {fn : Func} {c : Code} {args : Array Value} {w : World} {R : Ending → World → Prop}
    (hf : P.funcs[f]? = some fn) (hb : fn.body = some c)
    (h : wpF f P c (bodyPostM Fence.wide 0 P fn R) { tmps := args ++ Array.replicate (fn.ntmps - args.size) undef, defers := [] } w) : Calls P f args w R := by
  refine (callsIn_wide (n := 0)).1 ⟨trivial, fun cs hr => ?_⟩
  let b : Frame := { (default : Frame) with fn := f, kind := .normal, roundOf := none }
  have henter : Frame.enter P f args .normal =
      b.atR { tmps := args ++ Array.replicate (fn.ntmps - args.size) undef, defers := [] } [.code c] := by
    simp [Frame.enter, Frame.atR, hf, hb, b]
  obtain ⟨e, a', w', hq, harr⟩ := h b [] cs rfl rfl
  rw [← henter] at harr
  cases e with
  | normal =>
    obtain ⟨e', w'', fr', hR, hs, hfn, hl⟩ := leaves_stepsInM a'.defers .returning w' { b.atR a' [] with mode := .returning } cs rfl rfl rfl hf rfl trivial hr hq
    exact ⟨e', w'', fr', hR, ComesIn.of_steps (StepsIn.trans harr (.one (fenced_wide _ _) (stepR_end rfl))) hs, hfn, hl⟩
  | ret =>
    obtain ⟨todo, hs₀⟩ := harr.1 rfl
    obtain ⟨e', w'', fr', hR, hs, hfn, hl⟩ := leaves_stepsInM a'.defers .returning w' { b.atR a' todo with mode := .returning } cs rfl rfl rfl hf rfl trivial hr hq
    exact ⟨e', w'', fr', hR, ComesIn.of_steps hs₀ hs, hfn, hl⟩
  | panic chain =>
    obtain ⟨todo, hs₀⟩ := harr
    obtain ⟨e', w'', fr', hR, hs, hfn, hl⟩ := leaves_stepsInM a'.defers (.panicking chain) w' { b.atR a' todo with mode := .panicking chain } cs rfl rfl rfl hf rfl trivial hr hq
    exact ⟨e', w'', fr', hR, ComesIn.of_steps hs₀ hs, hfn, hl⟩
  | exit id => exact hq.elim
  | goto l => exact hq.elim
  | outgrown => exact ⟨.outgrown, w', b, hq, harr.resolve_left (by simp [b]), rfl, trivial⟩

/-! ### One round -/

/-- How a round's body may be left: off its end, or by a panic. -/
def roundPostP (P : Program) (l : Nat) (R : Ending → World → Prop) : Exit → Act → World → Prop
  | .normal, _, w => ∃ v w', (Instr.endRound l none).run P w = .ok v w' ∧ R (.returned v) w'
  | .panic ch, a, w => a.defers = [] ∧ R (.panicked ch) w
  | _, _, _ => False

theorem roundIn_of_wpP {l : Nat} {f : FuncId} {fn : Func} (hf : P.funcs[f]? = some fn) {tmps : Array Value} {assign body : Code} {w : World} {R : Ending → World → Prop}
    (h : assign.wpIn (Fence.wide.inRound l) 0 P (Exit.then (fun a₁ w₁ => ∃ w₂, (Instr.beginRound l).run P w₁ = .ok () w₂ ∧ body.wpIn (Fence.wide.inRound l) 0 P (roundPostP P l R) a₁ w₂) (fun _ _ _ => False))
      { tmps := tmps, defers := [] } w) :
    RoundIn Fence.wide 0 P l f tmps assign body w R := by
  refine ⟨trivial, fun c cs hr => ?_⟩
  let b : Frame := { (default : Frame) with fn := f, kind := .normal, roundOf := some l }
  have hb0 : Frame.round l f tmps assign body .normal = b.atR { tmps := tmps, defers := [] } [.code assign, .beginRound, .code body] := by
    simp [Frame.round, Frame.atR, b]
  have hr' : (Fence.wide.inRound l).room ((c :: cs).length + 1 + 0) := hr
  have hF' : (Fence.wide.inRound l).fn b.fn := trivial
  obtain ⟨e, a₁, w₁, hq, harr⟩ := h b [.beginRound, .code body] (c :: cs) rfl hF' hr'
  rw [← hb0] at harr
  cases e with
  | normal =>
    obtain ⟨w₂, hbr, hbody⟩ := hq
    have s1 : StepsIn (Machine.fenced P (Fence.wide.inRound l)) P (lone (b.atR a₁ [.beginRound, .code body]) (c :: cs) w₁) (lone (b.atR a₁ [.code body]) (c :: cs) w₂) :=
      .one (fenced_calm (fr := b.atR a₁ [.beginRound, .code body]) hF' hr' rfl) (stepR_beginRound rfl hbr)
    obtain ⟨e₂, a₂, w₃, hq₂, harr₂⟩ := hbody b [] (c :: cs) rfl hF' hr'
    cases e₂ with
    | normal =>
      obtain ⟨v, w₄, hend, hR⟩ := hq₂
      exact ⟨.returned v, w₄, hR, (StepsIn.trans harr s1).trans (StepsIn.trans harr₂ (.one (fenced_calm (fr := b.atR a₂ []) hF' hr' rfl) (stepR_round_end rfl rfl hend)))⟩
    | panic chain =>
      obtain ⟨hd, hR⟩ := hq₂
      obtain ⟨todo, hs⟩ := harr₂
      refine ⟨.panicked chain, w₃, hR, (StepsIn.trans harr s1).trans (StepsIn.trans hs (.one (fenced_wide _ _) ?_))⟩
      exact step_leave_panicked ⟨rfl, hd, fn, hf⟩
    | ret => exact hq₂.elim
    | exit id => exact hq₂.elim
    | goto t => exact hq₂.elim
    | outgrown => exact hq₂.elim
  | exit id => exact hq.elim
  | goto t => exact hq.elim
  | ret => exact hq.elim
  | panic chain => exact hq.elim
  | outgrown => exact hq.elim

end Go.Proofs.YtdckjhobikfggaaDoor

namespace Go.Proofs.YtdckjhobikfggaaDoor
open Go Go.RowKit

variable {P : Program}

/-- The record of a loop, or its block of deferred calls. -/
def isLoop : Obj → Bool
  | .loop _ => true
  | .deferred _ => true
  | _ => false
/-- All but the records of loops from block N on lies as it lay. -/
structure Gr (N : Nat) (A B : World) : Prop where
  os : B.os = A.os
  tape : B.tape = A.tape
  output : B.output = A.output
  size : A.heap.size ≤ B.heap.size
  block : ∀ (g : Nat) (o : Obj), A.heap[g]? = some o → (isLoop o = false ∨ g < N) → B.heap[g]? = some o
theorem Gr.refl (N : Nat) (A : World) : Gr N A A := ⟨rfl, rfl, rfl, Nat.le_refl _, fun _ _ h _ => h⟩
theorem Gr.trans {N : Nat} {A B C : World} (h : Gr N A B) (k : Gr N B C) : Gr N A C := ⟨k.os.trans h.os, k.tape.trans h.tape, k.output.trans h.output, Nat.le_trans h.size k.size, fun g o hg ho => k.block g o (h.block g o hg ho) ho⟩
theorem Gr.below {N : Nat} {A B : World} (h : Below A.heap.size A B) : Gr N A B := ⟨h.os, h.tape, h.output, h.size, fun g _ hg _ => (h.block g (Array.getElem?_eq_some_iff.1 hg).1).trans hg⟩
theorem Gr.put {N : Nat} {A : World} {l : Nat} {ol : Obj} (hN : N ≤ l) (h : A.heap[l]? = some ol) (o' : Obj) (hol : isLoop ol = true := by rfl) : Gr N A (A.putObj l o') := by
  refine ⟨rfl, rfl, rfl, by simp [World.putObj], fun g o hg ho => ?_⟩
  have hne : g ≠ l := fun e => by
    subst e
    rw [h] at hg
    cases hg
    rcases ho with ho | ho
    · rw [hol] at ho; cases ho
    · omega
  exact (World.putObj_heap_other hne).trans hg
/-- What was made from N on lies as it lay. -/
def Kept (N : Nat) (B B' : World) : Prop := B.heap.size ≤ B'.heap.size ∧ ∀ (g : Nat) (o : Obj), N ≤ g → B.heap[g]? = some o → B'.heap[g]? = some o
theorem Kept.trans {N : Nat} {A B C : World} (h : Kept N A B) (k : Kept N B C) : Kept N A C := ⟨Nat.le_trans h.1 k.1, fun g o hN hg => k.2 g o hN (h.2 g o hN hg)⟩
/-- The records of loops and the blocks of deferred calls lie as they lay. -/
def KeptL (B B' : World) : Prop := ∀ (g : Nat) (o : Obj), B.heap[g]? = some o → o.isCells = false → (isLoop o = true ∨ ∃ d, o = .deferred d) → B'.heap[g]? = some o
theorem KeptL.trans {A B C : World} (h : KeptL A B) (k : KeptL B C) : KeptL A C := fun g o hg hc hd => k g o (h g o hg hc hd) hc hd

/-- The word of an iterator over N values. -/
def SeqIdx (P : Program) (gf : Nat) (lb : Array Value) (enc : Nat → Array Value) (nx : Nat → Nat) (N : Nat) (w : World) (Bt : Nat) : Prop :=
  ∀ (l : Nat) (J : Nat → World → Prop) (Jp : List PanicEntry → World → Prop) (W : World),
    (∀ k A B, J k A → Below A.heap.size A B → J k B) →
    (∀ k A, J k A → A.heap[Bt]? = w.heap[Bt]?) →
    (∀ k A B, k < N → J k A → Below A.heap.size A B → YieldAt Fence.wide 0 P l (enc k) B fun e B' =>
      (e = .returned (.bool true) ∧ J (nx k) B' ∧ Kept A.heap.size B B') ∨ (∃ ch, e = .panicked ch ∧ Jp ch B')) →
    J 0 W →
    CallsIn Fence.wide 0 P gf (#[.func (.yield l) #[] #[]] ++ lb) W fun e W' => (∃ v, e = .returned v ∧ J N W') ∨ (∃ ch, e = .panicked ch ∧ Jp ch W')

/-- How the body of a round may be left. -/
def bodyPostR (I : Nat → World → Prop) (Ip : List PanicEntry → World → Prop) (k N : Nat) (W : World) : Exit → Act → World → Prop
  | .normal, _, W' => I k W' ∧ Kept N W W' ∧ KeptL W W'
  | .panic ch, a, W' => a.defers = [] ∧ Ip ch W' ∧ KeptL W W'
  | _, _, _ => False

/-- **The law.** -/
theorem wpF_rangeFunc {f : FuncId} {fn : Func} (hf : P.funcs[f]? = some fn) {g : Operand} {ps : Array Tmp} {assign body : Code} {Q : Exit → Act → World → Prop} {a : Act} {w : World}
    {gf : Nat} {lb : Array Value} (hg : a.eval g = .func (.func gf) #[] lb) (eg : ∀ args w, (callFunc gf args).run P w = .ok (.enter gf args) w)
    {enc : Nat → Array Value} {nx : Nat → Nat} {N : Nat} (hps : ∀ k, (enc k).size = ps.size) {Bt : Nat} (hseq : SeqIdx P gf lb enc nx N w Bt)
    (I : Nat → World → Prop) (Ip : List PanicEntry → World → Prop) (Ax : Nat → Act → World → Prop)
    (hI : ∀ k A B, I k A → Gr w.heap.size A B → I k B) (hAx : ∀ k a A B, Ax k a A → Gr w.heap.size A B → Ax k a B) (hIw : ∀ k A, I k A → A.heap[Bt]? = w.heap[Bt]?) (h0 : I 0 w)
    (hassign : ∀ (l k : Nat) (W : World) (K : Act → World → Prop), k < N → (∀ a₁ W₁, Below W.heap.size W W₁ → Ax k a₁ W₁ → K a₁ W₁) →
      assign.wpIn (Fence.wide.inRound l) 0 P (Exit.then K (fun _ _ _ => False)) { tmps := (ps.zip (enc k)).foldl (fun t (p, v) => t.setIfInBounds p v) a.tmps, defers := [] } W)
    (hbody : ∀ (l k : Nat) (a₁ : Act) (A W : World), k < N → I k A → Gr w.heap.size A W → Ax k a₁ W → body.wpIn (Fence.wide.inRound l) 0 P (bodyPostR I Ip (nx k) A.heap.size W) a₁ W)
    (hdone : ∀ (D : Nat) (W : World), w.heap.size ≤ D → I N W → W.heap[D]? = some (.deferred (some [])) → Q .normal { a with defers := { target := .collected D, args := #[] } :: a.defers } W)
    (hpanic : ∀ (D : Nat) (ch : List PanicEntry) (W : World), w.heap.size ≤ D → Ip ch W → W.heap[D]? = some (.deferred (some [])) → Q (.panic ch) { a with defers := { target := .collected D, args := #[] } :: a.defers } W) :
    wpF f P (Code.rangeFunc g ps assign body) Q a w := by
  intro b k cs hro hb
  obtain ⟨rec, hrec⟩ : ∃ rec : LoopState → Option Code → Loop, rec = fun st pe => { state := st, pending := pe, fn := f, tmps := a.tmps, params := ps, assign, body, defers := w.heap.size } := ⟨_, rfl⟩
  obtain ⟨W1, hW1⟩ : ∃ W1, (w.alloc (.deferred (some []))).alloc (.loop (rec .ready none)) = W1 := ⟨_, rfl⟩
  have hL1 : W1.heap[w.heap.size + 1]? = some (.loop (rec .ready none)) := by
    rw [← hW1]; have := World.alloc_heap_new (w.alloc (.deferred (some []))) (.loop (rec .ready none)); rwa [World.size_alloc] at this
  have hK1 : W1.heap[w.heap.size]? = some (.deferred (some [])) := by
    rw [← hW1]; exact (Below.heap_alloc _ _ _ (by simp)).trans (World.alloc_heap_new w _)
  have hb1 : Below w.heap.size w W1 := by
    rw [← hW1]; exact ((Below.refl _ w).alloc (Nat.le_refl _) _).alloc (by simp) _
  have hI1 : I 0 W1 := hI _ _ _ h0 (Gr.below hb1)
  -- the iterator's call
  have hcall : CallsIn Fence.wide 0 P gf (#[.func (.yield (w.heap.size + 1)) #[] #[]] ++ lb) W1 (fun e W' => (∃ v, e = .returned v ∧ (I N W' ∧ W'.heap[w.heap.size + 1]? = some (.loop (rec .ready none)) ∧ W'.heap[w.heap.size]? = some (.deferred (some [])))) ∨ (∃ ch, e = .panicked ch ∧ (Ip ch W' ∧ W'.heap[w.heap.size]? = some (.deferred (some []))))) := by
    refine hseq (w.heap.size + 1)
      (fun k W => I k W ∧ W.heap[w.heap.size + 1]? = some (.loop (rec .ready none)) ∧ W.heap[w.heap.size]? = some (.deferred (some [])))
      (fun ch W => Ip ch W ∧ W.heap[w.heap.size]? = some (.deferred (some []))) W1 ?_ (fun k A h => hIw k A h.1) ?_ ⟨hI1, hL1, hK1⟩
    · rintro k A B ⟨hi, hl, hd⟩ hB
      exact ⟨hI _ _ _ hi (Gr.below hB), (hB.block _ (Array.getElem?_eq_some_iff.1 hl).1).trans hl, (hB.block _ (Array.getElem?_eq_some_iff.1 hd).1).trans hd⟩
    · rintro k A B hk ⟨hi, hl, hd⟩ hB
      have hl2 : B.heap[w.heap.size + 1]? = some (.loop (rec .ready none)) := (hB.block _ (Array.getElem?_eq_some_iff.1 hl).1).trans hl
      have hd2 : B.heap[w.heap.size]? = some (.deferred (some [])) := (hB.block _ (Array.getElem?_eq_some_iff.1 hd).1).trans hd
      have hlA : w.heap.size + 1 < A.heap.size := (Array.getElem?_eq_some_iff.1 hl).1
      have hy := run_yield (P := P) (args := enc k) hl2 (by rw [hrec]; exact hps k)
      rw [hrec] at hy
      refine ⟨f, _, assign, body, hy, roundIn_of_wpP hf ?_⟩
      refine hassign _ k B _ hk ?_
      intro a₁ B1 hB1 hax
      have hl3 : B1.heap[w.heap.size + 1]? = some (.loop (rec .ready none)) := (hB1.block _ (Array.getElem?_eq_some_iff.1 hl2).1).trans hl2
      have hd3 : B1.heap[w.heap.size]? = some (.deferred (some [])) := (hB1.block _ (Array.getElem?_eq_some_iff.1 hd2).1).trans hd2
      refine ⟨_, run_beginRound hl3 (by rw [hrec]), ?_⟩
      obtain ⟨B2, hB2⟩ : ∃ B2, B1.putObj (w.heap.size + 1) (.loop { rec .ready none with state := .busy }) = B2 := ⟨_, rfl⟩
      have g12 : Gr w.heap.size B1 B2 := by rw [← hB2]; exact Gr.put (by omega) hl3 _
      have hl4 : B2.heap[w.heap.size + 1]? = some (.loop { rec .ready none with state := .busy }) := by rw [← hB2]; exact World.putObj_heap_same (Array.getElem?_eq_some_iff.1 hl3).1
      have hd4 : B2.heap[w.heap.size]? = some (.deferred (some [])) := by rw [← hB2]; exact (World.putObj_heap_other (by omega)).trans hd3
      have k12 : Kept A.heap.size B1 B2 := ⟨g12.size, fun g o hN hg => by rw [← hB2]; exact (World.putObj_heap_other (by omega)).trans hg⟩
      have k01 : Kept A.heap.size B B1 := ⟨hB1.size, fun g o _ hg => (hB1.block g (Array.getElem?_eq_some_iff.1 hg).1).trans hg⟩
      have gAB : Gr w.heap.size A B2 := ((Gr.below hB).trans (Gr.below hB1)).trans g12
      rw [hB2]
      refine wpIn_mono (hbody _ k a₁ A B2 hk hi gAB (hAx _ _ _ _ hax g12)) ?_
      rintro e a3 W3 hp
      cases e with
      | normal =>
        obtain ⟨hi3, hk3, hkl3⟩ := hp
        have hl5 := hkl3 _ _ hl4 rfl (.inl rfl)
        have hd5 := hkl3 _ _ hd4 rfl (.inr ⟨_, rfl⟩)
        have hr := run_endRound (P := P) none hl5
        refine ⟨_, _, hr, .inl ⟨rfl, ⟨hI _ _ _ hi3 (Gr.put (by omega) hl5 _), ?_, ?_⟩, ?_⟩⟩
        · rw [World.putObj_heap_same (Array.getElem?_eq_some_iff.1 hl5).1, hrec]; rfl
        · exact (World.putObj_heap_other (by omega)).trans hd5
        · exact ((k01.trans k12).trans hk3).trans ⟨by simp [World.putObj], fun g o hN hg => (World.putObj_heap_other (by omega)).trans hg⟩
      | panic ch =>
        obtain ⟨hd0, hi3, hkl3⟩ := hp
        exact ⟨hd0, .inr ⟨ch, rfl, hi3, hkl3 _ _ hd4 rfl (.inr ⟨_, rfl⟩)⟩⟩
      | ret => exact hp.elim
      | exit id => exact hp.elim
      | goto t => exact hp.elim
      | outgrown => exact hp.elim
  -- the statement's steps
  have he : (Instr.enterLoop b.fn a.tmps ps assign body b.roundOf).run P w = .ok (w.heap.size + 1, [{ target := .collected w.heap.size, args := #[] }]) W1 := by
    rw [hro, hb, ← hW1, hrec]; exact run_enterLoop_outer _ _ _ _ _
  have hres : (resolve a.eval (rangeCall g (w.heap.size + 1)) 0).run P W1 = .ok { target := .fn (.func gf) lb, args := #[.func (.yield (w.heap.size + 1)) #[] #[]] } W1 := by
    simp only [resolve, hg]
    simp [go_sem]
  have hinv : (invoke (.fn (.func gf) lb) #[.func (.yield (w.heap.size + 1)) #[] #[]]).run P W1 = .ok (.enter gf (#[.func (.yield (w.heap.size + 1)) #[] #[]] ++ lb)) W1 := by
    simp [invoke, go_sem, eg]
  have henter := stepR_rangeFunc (P := P) (b := b) (a := a) (k := k) (cs := cs) (w := w) he hres hinv
  obtain ⟨e, w₃, fr, hR, hsteps, hfn, hleave⟩ := hcall.2 (b.atR { a with defers := [{ target := .collected w.heap.size, args := #[] }] ++ a.defers } (.inRangeFunc (w.heap.size + 1) :: k) :: cs) (room_wide _)
  have h0 : ∀ m : Machine, m.fenced P Fence.wide := fun m => fenced_wide P m
  rcases hR with ⟨v, rfl, hi, hl, hd⟩ | ⟨ch, rfl, hi, hd⟩
  · have hend := run_endLoop (P := P) hl (by rw [hrec]; simp)
    have sback : StepsIn (Machine.fenced P Fence.wide) P (lone (b.atR a (.code (.rangeFunc g ps assign body) :: k)) cs w) (lone (b.atR { a with defers := [{ target := .collected w.heap.size, args := #[] }] ++ a.defers } (((rec .ready none).pending.map Item.code).toList ++ k)) cs (w₃.putObj (w.heap.size + 1) (.loop { rec .ready none with state := .exhausted }))) := by
      refine .head (h0 _) henter (StepsIn.trans hsteps (.head (h0 _) ?_ (.one (h0 _) (stepR_endRangeFunc hend))))
      rw [← finish_atR_inRangeFunc (w.heap.size + 1) v]; exact step_leave_returned hleave
    refine ⟨.normal, _, _, hdone w.heap.size (w₃.putObj (w.heap.size + 1) (.loop { rec .ready none with state := .exhausted })) (Nat.le_refl _) (hI _ _ _ hi (Gr.put (by omega) hl _)) ((World.putObj_heap_other (by omega)).trans hd), ?_⟩
    have hpend : ((rec .ready none).pending.map Item.code).toList ++ k = k := by rw [hrec]; rfl
    rw [hpend] at sback
    exact sback
  · refine ⟨.panic ch, _, w₃, hpanic w.heap.size ch w₃ (Nat.le_refl _) hi hd, .inRangeFunc (w.heap.size + 1) :: k, .head (h0 _) henter (StepsIn.trans hsteps (.one (h0 _) ?_))⟩
    have := step_leave_panicked (P := P) (c := b.atR { a with defers := [{ target := .collected w.heap.size, args := #[] }] ++ a.defers } (.inRangeFunc (w.heap.size + 1) :: k)) (cs := cs) hleave
    rw [Frame.raise_atR] at this
    exact this

end Go.Proofs.YtdckjhobikfggaaDoor

namespace Go.Proofs.YtdckjhobikfggaaDoor
open Go Go.RowKit

variable {P : Program} {ops : Array Oper} {Q : Exit → Act → World → Prop} {md : Region.Mode}

/-- No operation defers. -/
def noDefer (ops : Array Oper) : Bool := ops.all fun o => match o.op with | .defer _ => false | _ => true
theorem noDefer_spec (h : noDefer ops = true) {i : Nat} {o : Oper} (ho : ops[i]? = some o) (c : Call) : o.op ≠ .defer c := by
  have hm : o ∈ ops := Array.mem_of_getElem? ho
  have := Array.all_eq_true_iff_forall_mem.1 h o hm
  intro e
  rw [e] at this
  cases this

theorem opIn_of_op {l : Nat} {o : Oper} {a : Act} {w : World} {K : Act → World → Prop} (hd : ∀ c, o.op ≠ .defer c) (h : o.wp P a w K Q) : o.wpIn (Fence.wide.inRound l) 0 P a w K Q := by
  refine ⟨fun _ _ => trivial, ?_⟩
  rw [Oper.semAt_eq _ _ _ hd]
  unfold Oper.wp at h
  generalize (execOp a.eval o).run P w = r at *
  have hdep : (Fence.wide.inRound l).depth.isSome = true → 1 ≤ 0 := fun h => by simp [Fence.inRound, Fence.wide] at h
  cases r with
  | ok x w' =>
    cases x with
    | enter f args => exact ⟨hdep, CallsIn.inRound l (callsIn_wide.2 h)⟩
    | row r args => exact ⟨hdep, fun c cs _ => let ⟨v, w', hv, hs⟩ := h c cs; ⟨v, w', hv, stepsIn_wide.2 hs⟩⟩
    | value v => exact h
    | skip => exact h
    | defer d => exact h
    | _ => exact h.elim
  | halt x w' => cases x <;> exact h

theorem anyIn_of_any {l : Nat} (hd : noDefer ops = true) (hQ : ¬ LetsOut Q) : ∀ (fuel : Nat) (listed : Array Bool) (a : Act) (w : World), wpAny P md ops Q fuel listed a w → wpAnyIn (Fence.wide.inRound l) 0 P md ops Q fuel listed a w
  | 0, _, _, _, h => h
  | fuel + 1, listed, a, w, h => by
    refine ⟨h.1, fun i hi => ?_⟩
    have h1 := h.2 i hi
    unfold wpOp at h1
    unfold wpOpIn
    cases ho : ops[i]? with
    | none => simp only [ho] at h1 ⊢; exact anyIn_of_any hd hQ fuel _ a w h1
    | some o =>
      simp only [ho] at h1 ⊢
      split
      · rename_i hw
        rw [if_pos hw] at h1
        rcases h1 with h1 | ⟨_, h1⟩
        · exact opIn_of_op (noDefer_spec hd ho) (Oper.wp_mono (fun a' w' h' => anyIn_of_any hd hQ fuel _ a' w' h') h1)
        · exact absurd h1 hQ
      · rename_i hw
        rw [if_neg hw] at h1
        exact ⟨fun _ _ => trivial, anyIn_of_any hd hQ fuel _ _ w h1⟩

theorem region_round_any {l id : Nat} {a : Act} {w : World} (hm : P.follows .mixedOrders = true) (hd : noDefer ops = true) (hQ : ¬ LetsOut Q)
    (h : wpAny P .any ops Q ops.size (Array.replicate ops.size false) a w.drew) : (Code.region id ops true).wpIn (Fence.wide.inRound l) 0 P Q a w :=
  wpIn_region_any hm (anyIn_of_any hd hQ _ _ _ _ h)

theorem region_round_held {S : World → Prop} {l id : Nat} {a : Act} {w : World} (hm : P.follows .mixedOrders = true) (hd : noDefer ops = true) (hQ : ¬ LetsOut Q)
    (h : wpAnyH P .any ops Q S ops.size (Array.replicate ops.size false) a w.drew) : (Code.region id ops true).wpIn (Fence.wide.inRound l) 0 P Q a w :=
  region_round_any hm hd hQ (wpAny_of_held _ _ _ _ h)

theorem listIn_of_list {l : Nat} (hQ : ¬ LetsOut Q) : ∀ (rest : List Oper) (a : Act) (w : World), (∀ o ∈ rest, ∀ c, o.op ≠ .defer c) → wpList P ops Q rest a w → wpListIn (Fence.wide.inRound l) 0 P ops Q rest a w
  | [], _, _, _, h => h
  | o :: rest, a, w, hd, h => by
    unfold wpList at h
    unfold wpListIn
    split
    · rename_i hw
      rw [if_pos hw] at h
      rcases h with h1 | ⟨_, h1⟩
      · exact opIn_of_op (hd o (by simp)) (Oper.wp_mono (fun a' w' h' => listIn_of_list hQ rest a' w' (fun o' ho' => hd o' (by simp [ho'])) h') h1)
      · exact absurd h1 hQ
    · rename_i hw
      rw [if_neg hw] at h
      exact ⟨fun _ _ => trivial, listIn_of_list hQ rest _ w (fun o' ho' => hd o' (by simp [ho'])) h⟩

theorem region_round {l id : Nat} {a : Act} {w : World} {rest : List Oper} (hd : noDefer rest.toArray = true) (hQ : ¬ LetsOut Q)
    (h : wpList P rest.toArray Q rest a w) : (Code.region id rest.toArray false).wpIn (Fence.wide.inRound l) 0 P Q a w :=
  wpIn_region_lit (listIn_of_list hQ rest a w (fun o ho c => by
    obtain ⟨i, hi⟩ := List.getElem?_of_mem ho
    exact noDefer_spec hd (i := i) (by simpa using hi) c) h)

theorem letsOut_then {K : Act → World → Prop} (h : ¬ LetsOut Q) : ¬ LetsOut (Exit.then K Q) := h
theorem letsOut_block {id : Nat} (h : ¬ LetsOut Q) : ¬ LetsOut (Exit.inBlock id Q) := h
theorem letsOut_body (I : Nat → World → Prop) (Ip : List PanicEntry → World → Prop) (k N : Nat) (W : World) : ¬ LetsOut (bodyPostR I Ip k N W) := fun ⟨_, _, h⟩ => h

end Go.Proofs.YtdckjhobikfggaaDoor

namespace Go.Proofs.YtdckjhobikfggaaDoor
open Go.RowKit Go.Sort

/-- Only the blocks b and r may have changed. -/
def Chg (r : Option Nat) (b : Nat) (w w' : World) : Prop := Below b w w' ∧ ∀ g, g ≠ b → r ≠ some g → g < w.heap.size → w'.heap[g]? = w.heap[g]?
theorem Chg.refl (r : Option Nat) (b : Nat) (w : World) : Chg r b w w := ⟨Below.refl _ _, fun _ _ _ _ => rfl⟩
theorem Only.chg {b : Nat} {w w' : World} (h : Only b w w') (r : Option Nat) : Chg r b w w' := ⟨h.1, fun g hg _ hl => h.2 g hg hl⟩
theorem Chg.trans {r r' : Option Nat} {b : Nat} {w w1 w2 : World} (h : Chg r b w w1) (k : Chg r' b w1 w2) (hr : ∀ g, r' = some g → r = some g ∨ w.heap.size ≤ g) : Chg r b w w2 :=
  ⟨h.1.trans k.1, fun g hg hne hl => by
    rw [k.2 g hg (fun e => (hr g e).elim hne (fun h => absurd hl (by omega))) (Nat.lt_of_lt_of_le hl h.1.size), h.2 g hg hne hl]⟩
theorem PlacesAt.moveL {w w' : World} {C mb : Nat} (h : PlacesAt w C mb) (hk : ∀ i o, C ≤ i → w.heap[i]? = some o → isLoop o = false → w'.heap[i]? = some o) : PlacesAt w' C mb := by
  obtain ⟨blk, h1, h2, hC, es, h3, h4⟩ := h
  exact ⟨blk, fun k hk10 => ⟨(h1 k hk10).1, hk _ _ (h1 k hk10).1 (h1 k hk10).2 rfl⟩, h2, hC, es, hk _ _ hC h3 rfl, h4⟩
/-- The places do not lie in block r. -/
def PlFree (w : World) (C mb : Nat) (r : Option Nat) : Prop := ∀ w' : World, (∀ g o, C ≤ g → r ≠ some g → w.heap[g]? = some o → isLoop o = false → w'.heap[g]? = some o) → PlacesAt w' C mb
theorem PlFree.at {w : World} {C mb : Nat} {r : Option Nat} (h : PlFree w C mb r) : PlacesAt w C mb := h w fun _ _ _ _ h _ => h
theorem PlFree.of {w : World} {C T mb : Nat} {r : Option Nat} (h : PlacesAt w T mb) (hC : C ≤ T) (hr : ∀ g, r = some g → g < T) : PlFree w C mb r := fun w' hw =>
  (h.moveL fun i o hi hl ho => hw i o (by omega) (fun e => by have := hr i e; omega) hl ho).low hC
theorem PlFree.chg {w w' : World} {C mb b : Nat} {r r' : Option Nat} (h : PlFree w C mb r) (hc : Chg r b w w') (hb : b < C) (hr : ∀ g, r' = some g → r = some g ∨ w.heap.size ≤ g) : PlFree w' C mb r' := fun w'' hw =>
  h w'' fun g o hC hne hl ho => by
    have hlt := (Array.getElem?_eq_some_iff.1 hl).1
    exact hw g o hC (fun e => (hr g e).elim hne (fun h => absurd hlt (by omega))) ((hc.2 g (by omega) hne hlt).trans hl) ho
theorem PlFree.gr {w w' : World} {N C mb : Nat} {r : Option Nat} (h : PlFree w C mb r) (hg : Gr N w w') : PlFree w' C mb r := fun w'' hw =>
  h w'' fun g o hC hne hl ho => hw g o hC hne (hg.block g o hl (.inl ho)) ho

theorem Own.onlyB {k : IntKind} {e : TypeId} {w w' : World} {B g : Nat} {v : Value} {zs : List Int} (h : Own k e w B v zs) (ho : Only g w w') (hg : g < B) : Own k e w' B v zs :=
  h.blocks fun j hj => ho.2 j (by have := (World.ownsRow.lt h j hj).1; omega) (World.ownsRow.lt h j hj).2

/-- A reading in block b: the profile n, the state x, the list l that holds zs. -/
def RSt (w : World) (b C : Nat) (n : Int) (x : St) (l : Value) (zs : List Int) : Prop := ∃ m, RdAt w b n m x l ∧ (m = .map none ∨ ∃ mb, m = .map (some mb) ∧ PlFree w C mb l.ownBlock) ∧ Own .i64 3 w C l zs
theorem RSt.lt {w : World} {b C : Nat} {n : Int} {x : St} {l : Value} {zs : List Int} (h : RSt w b C n x l zs) : b < w.heap.size := by obtain ⟨m, h1, _⟩ := h; exact h1.lt
theorem RSt.own {w : World} {b C : Nat} {n : Int} {x : St} {l : Value} {zs : List Int} (h : RSt w b C n x l zs) : Own .i64 3 w C l zs := by obtain ⟨m, _, _, h3⟩ := h; exact h3
theorem RSt.only {w w' : World} {b C : Nat} {n : Int} {x y : St} {l : Value} {zs : List Int} (h : RSt w b C n x l zs) (ho : Only b w w') (hb : b < C) (hm : ∀ m, RdAt w b n m x l → RdAt w' b n m y l) : RSt w' b C n y l zs := by
  obtain ⟨m, h1, h2, h3⟩ := h
  refine ⟨m, hm m h1, h2.imp id ?_, h3.onlyB ho hb⟩
  rintro ⟨mb, h4, h5⟩
  exact ⟨mb, h4, h5.chg (ho.chg _) hb fun g e => .inl e⟩
theorem RdAt.map_eq {w : World} {b : Nat} {n : Int} {m m' l : Value} {x : St} (h : RdAt w b n m x l) (h' : RdAt w b n m' x l) : m = m' := by
  have c1 := h.cells.2.2.2.2.2.2.2.2.1
  have c2 := h'.cells.2.2.2.2.2.2.2.2.1
  rw [c1] at c2
  exact Option.some.inj c2
theorem RSt.step {w w' : World} {b C : Nat} {n : Int} {x y : St} {m l : Value} {zs : List Int} (h : RSt w b C n x l zs) (h1 : RdAt w b n m x l) (ho : Only b w w') (hb : b < C) (h2 : RdAt w' b n m y l) : RSt w' b C n y l zs :=
  h.only ho hb fun m' hm' => by rw [← h1.map_eq hm']; exact h2
theorem RSt.keep {w w' : World} {b C : Nat} {n : Int} {x : St} {l : Value} {zs : List Int} (h : RSt w b C n x l zs) (hw : Below w.heap.size w w') (hb : b < C) : RSt w' b C n x l zs :=
  h.only (only_below h.lt hw) hb fun _ hm => hm.keep hw
theorem RdAt.gr' {N : Nat} {w w' : World} {b : Nat} {n : Int} {m l : Value} {x : St} (h : RdAt w b n m x l) (hg : Gr N w w') : RdAt w' b n m x l := hg.block _ _ h (.inl rfl)
theorem Own.gr {k : IntKind} {e : TypeId} {N : Nat} {w w' : World} {B : Nat} {v : Value} {zs : List Int} (h : Own k e w B v zs) (hg : Gr N w w') : Own k e w' B v zs := by
  refine ⟨h.1, ?_⟩
  rcases h.2 with h | ⟨g, cap, cur, a, b, c, d⟩
  · exact .inl h
  · exact .inr ⟨g, cap, cur, a, b, hg.block _ _ c (.inl rfl), d⟩
theorem RSt.gr {N : Nat} {w w' : World} {b C : Nat} {n : Int} {x : St} {l : Value} {zs : List Int} (h : RSt w b C n x l zs) (hg : Gr N w w') : RSt w' b C n x l zs := by
  obtain ⟨m, h1, h2, h3⟩ := h
  refine ⟨m, h1.gr' hg, h2.imp id ?_, h3.gr hg⟩
  rintro ⟨mb, h4, h5⟩
  exact ⟨mb, h4, h5.gr hg⟩
theorem Only.gr {N b : Nat} {w A B : World} (h : Only b w A) (hg : Gr N A B) (hN : w.heap.size ≤ N) (hb : b < w.heap.size) : Only b w B := by
  refine ⟨⟨hg.os.trans h.1.os, hg.tape.trans h.1.tape, hg.output.trans h.1.output, Nat.le_trans h.1.size hg.size, fun k hk => ?_⟩, fun g hgb hl => ?_⟩
  · have hl : k < w.heap.size := by omega
    have hs : w.heap[k]? = some w.heap[k] := Array.getElem?_eq_getElem hl
    rw [hg.block k _ ((h.1.block k hk).trans hs) (.inr (by omega)), hs]
  · have hs : w.heap[g]? = some w.heap[g] := Array.getElem?_eq_getElem hl
    rw [hg.block g _ ((h.2 g hgb hl).trans hs) (.inr (by omega)), hs]
theorem Only.chg_trans {r : Option Nat} {b : Nat} {w A B : World} (h : Only b w A) (k : Chg r b A B) (hr : ∀ g, r = some g → w.heap.size ≤ g) : Only b w B :=
  ⟨h.1.trans k.1, fun g hg hl => by rw [k.2 g hg (fun e => by have := hr g e; omega) (Nat.lt_of_lt_of_le hl h.1.size), h.2 g hg hl]⟩

/-- A list that has grown by an append, stored back. -/
theorem RSt.app {w w4 : World} {b C g cap k : Nat} {n : Int} {x : St} {l : Value} {zs zs' : List Int} (h : RSt w b C n x l zs) (hb : b < C) (ho : Own .i64 3 w4 C (.slice (some ⟨g, 0, none⟩) k cap) zs') (hg : w.grownBy w4 l.ownBlock) (hr : l.ownBlock = some g ∨ g = w.heap.size) :
    RSt (w4.setCell ⟨b, 17, none⟩ (.slice (some ⟨g, 0, none⟩) k cap)) b C n x (.slice (some ⟨g, 0, none⟩) k cap) zs' ∧ Chg l.ownBlock b w (w4.setCell ⟨b, 17, none⟩ (.slice (some ⟨g, 0, none⟩) k cap)) := by
  obtain ⟨m, h1, h2, h3⟩ := h
  have hlow := fun j hj => (World.ownsRow.lt h3 j hj).1
  have hbo : some b ≠ l.ownBlock := fun e => by have := hlow b e.symm; omega
  have h4 : RdAt w4 b n m x l := (hg.block b h1.lt hbo).trans h1
  have hgC : C ≤ g := (World.ownsRow.lt ho g rfl).1
  have c1 : Chg l.ownBlock b w (w4.setCell ⟨b, 17, none⟩ (.slice (some ⟨g, 0, none⟩) k cap)) := by
    refine ⟨((Below.refl b w).grown hg (Nat.le_of_lt h1.lt) (fun j hj => by have := hlow j hj; omega)).setCell (Nat.le_refl _) _, fun j hj hne hl => ?_⟩
    rw [Below.heap_setCell _ _ _ _ (by simpa using hj)]
    exact hg.block j hl (fun e => hne e.symm)
  refine ⟨⟨m, heap_setCell_same _ _ 17 _ _ _ h4, h2.imp id ?_, ?_⟩, c1⟩
  · rintro ⟨mb, h5, h6⟩
    refine ⟨mb, h5, h6.chg c1 hb fun j hj => ?_⟩
    have e : g = j := by simpa [Value.ownBlock] using hj
    subst e
    exact hr.imp id (fun h => by omega)
  · exact ho.blocks fun j hj => Below.heap_setCell _ _ _ _ (by
      have e : g = j := by simpa [Value.ownBlock] using hj
      simp; omega)

/-- 'append(s, x ..)' at a step of a region that draws its order; where the row lies behind it. -/
theorem step_i64x (w : World) {ops : Array Oper} {o : Oper} {a : Act} {L : Act → World → Prop} {Q : Exit → Act → World → Prop} {E : Prop} (hg : o.guard = none) (s x : Operand)
    (hop : o.op = Op.call { callee := Callee.builtin Builtin.append, args := #[s, x], argTypes := #[23, 23] }) (B : Nat) (v : Value) (zs : List Int) (hs : a.eval s = v) (hown : Own .i64 3 w B v zs)
    (b c : Nat) (r : Int) (hx : a.eval x = .slice (some ⟨b, 0, none⟩) 1 c)
    (hc : w.heap[b]? = some (.cells #[.int .i64 r] 3)) (hb : zs.length + 1 ≤ 1099511627776) (hB : B ≤ w.heap.size)
    (K : ∀ g cap w', Own .i64 3 w' B (.slice (some ⟨g, 0, none⟩) (zs.length + 1) cap) (zs ++ [r]) → w.grownBy w' v.ownBlock → (v.ownBlock = some g ∨ g = w.heap.size) → L (a.put o.dst (.slice (some ⟨g, 0, none⟩) (zs.length + 1) cap)) w') :
    if Region.wanted o (yielded ops a.tmps) = true then Oper.wp Tryd.prog o a w L Q else E := by
  obtain ⟨i, h1, h2, h3, h4⟩ := info_i64
  refine step_append_lies w hg s x 23 hop B 3 i (.int .i64 0) 1 8 Tryd.underlying23 h1 h2 h3 h4 rfl (by decide) v _ _ hs hown ⟨b, 0, none⟩ 1 c [.int .i64 r] hx (by simp) (World.news_of_block hc) ?_ (by decide) (by unfold maxLen; omega) (by omega) hB _ rfl ?_
  · intro u hu
    rw [List.mem_singleton] at hu
    rw [hu]
    rfl
  · intro g cap w' h' hg' hgg _
    exact K g cap w' (by unfold Own; rw [List.map_append, List.length_append]; exact h') hg' hgg

theorem app_i64x (w : World) {ops : Array Oper} {rest : List Oper} {o : Oper} {a : Act} {Q : Exit → Act → World → Prop} (hg : o.guard = none) (s x : Operand)
    (hop : o.op = Op.call { callee := Callee.builtin Builtin.append, args := #[s, x], argTypes := #[23, 23] }) (B : Nat) (v : Value) (zs : List Int) (hs : a.eval s = v) (hown : Own .i64 3 w B v zs)
    (b c : Nat) (r : Int) (hx : a.eval x = .slice (some ⟨b, 0, none⟩) 1 c)
    (hc : w.heap[b]? = some (.cells #[.int .i64 r] 3)) (hb : zs.length + 1 ≤ 1099511627776) (hB : B ≤ w.heap.size)
    (K : ∀ g cap w', Own .i64 3 w' B (.slice (some ⟨g, 0, none⟩) (zs.length + 1) cap) (zs ++ [r]) → w.grownBy w' v.ownBlock → (v.ownBlock = some g ∨ g = w.heap.size) → wpList Tryd.prog ops Q rest (a.put o.dst (.slice (some ⟨g, 0, none⟩) (zs.length + 1) cap)) w') : wpList Tryd.prog ops Q (o :: rest) a w := by
  obtain ⟨i, h1, h2, h3, h4⟩ := info_i64
  refine wpList_append_lies w hg s x 23 hop B 3 i (.int .i64 0) 1 8 Tryd.underlying23 h1 h2 h3 h4 rfl (by decide) v _ _ hs hown ⟨b, 0, none⟩ 1 c [.int .i64 r] hx (by simp) (World.news_of_block hc) ?_ (by decide) (by unfold maxLen; omega) (by omega) hB _ rfl ?_
  · intro u hu
    rw [List.mem_singleton] at hu
    rw [hu]
    rfl
  · intro g cap w' h' hg' hgg _
    exact K g cap w' (by unfold Own; rw [List.map_append, List.length_append]; exact h') hg' hgg

/-- What a replacement leaves. -/
def RpDone (n : Int) (x : St) (l : Value) (zs : List Int) (t : Tok) (b C : Nat) (w : World) (e : Ending) (w' : World) : Prop := e = .returned (.tuple #[]) ∧ ∃ l', RSt w' b C n (badX n x t) l' (zs ++ badZ t) ∧ Chg l.ownBlock b w w' ∧ ∀ g, l'.ownBlock = some g → l.ownBlock = some g ∨ w.heap.size ≤ g

end Go.Proofs.YtdckjhobikfggaaDoor

namespace Go.Proofs.YtdckjhobikfggaaDoor
open Go.RowKit Go.Sort

def rdV (n : Int) (m : Value) (y : St) (l : Value) : Value := .agg #[.int .i64 n, .string (prName n), .string (prHead n), .slice none 0 0, .bool (prRight n), .bool (prShifts n), .bool (prSingle n), .bool (prReset n), .bool (prClear n), m, .int .i64 y.g0, .int .i64 y.g1, .int .i64 y.g2, .int .i64 y.g3, .int .i64 y.l, .int .i64 y.s, .int .i64 y.d, l]
def put18 (w : World) (g : Nat) (n : Int) (y : St) : World := ((((((((((((((((((w.setCell ⟨g, 0, none⟩ (.int .i64 n)).setCell ⟨g, 1, none⟩ (.string (prName n))).setCell ⟨g, 2, none⟩ (.string (prHead n))).setCell ⟨g, 3, none⟩ (.slice none 0 0)).setCell ⟨g, 4, none⟩ (.bool (prRight n))).setCell ⟨g, 5, none⟩ (.bool (prShifts n))).setCell ⟨g, 6, none⟩ (.bool (prSingle n))).setCell ⟨g, 7, none⟩ (.bool (prReset n))).setCell ⟨g, 8, none⟩ (.bool (prClear n))).setCell ⟨g, 9, none⟩ (.map none)).setCell ⟨g, 10, none⟩ (.int .i64 y.g0)).setCell ⟨g, 11, none⟩ (.int .i64 y.g1)).setCell ⟨g, 12, none⟩ (.int .i64 y.g2)).setCell ⟨g, 13, none⟩ (.int .i64 y.g3)).setCell ⟨g, 14, none⟩ (.int .i64 y.l)).setCell ⟨g, 15, none⟩ (.int .i64 y.s)).setCell ⟨g, 16, none⟩ (.int .i64 y.d)).setCell ⟨g, 17, none⟩ (.slice none 0 0))
theorem put18_row {w : World} {g : Nat} (n : Int) (y : St) (h : w.heap[g]? = some (.cells #[.int .i64 0, .string ⟨#[]⟩, .string ⟨#[]⟩, .slice none 0 0, .bool false, .bool false, .bool false, .bool false, .bool false, .map none, .int .i64 0, .int .i64 0, .int .i64 0, .int .i64 0, .int .i64 0, .int .i64 0, .int .i64 0, .slice none 0 0] 122)) : RdAt (put18 w g n y) g n (.map none) y (.slice none 0 0) := by
  have k0 : (w.setCell ⟨g, 0, none⟩ (.int .i64 n)).heap[g]? = some (.cells #[.int .i64 n, .string ⟨#[]⟩, .string ⟨#[]⟩, .slice none 0 0, .bool false, .bool false, .bool false, .bool false, .bool false, .map none, .int .i64 0, .int .i64 0, .int .i64 0, .int .i64 0, .int .i64 0, .int .i64 0, .int .i64 0, .slice none 0 0] 122) := heap_setCell_same _ g 0 _ _ (.int .i64 n) h
  have k1 : ((w.setCell ⟨g, 0, none⟩ (.int .i64 n)).setCell ⟨g, 1, none⟩ (.string (prName n))).heap[g]? = some (.cells #[.int .i64 n, .string (prName n), .string ⟨#[]⟩, .slice none 0 0, .bool false, .bool false, .bool false, .bool false, .bool false, .map none, .int .i64 0, .int .i64 0, .int .i64 0, .int .i64 0, .int .i64 0, .int .i64 0, .int .i64 0, .slice none 0 0] 122) := heap_setCell_same _ g 1 _ _ (.string (prName n)) k0
  have k2 : (((w.setCell ⟨g, 0, none⟩ (.int .i64 n)).setCell ⟨g, 1, none⟩ (.string (prName n))).setCell ⟨g, 2, none⟩ (.string (prHead n))).heap[g]? = some (.cells #[.int .i64 n, .string (prName n), .string (prHead n), .slice none 0 0, .bool false, .bool false, .bool false, .bool false, .bool false, .map none, .int .i64 0, .int .i64 0, .int .i64 0, .int .i64 0, .int .i64 0, .int .i64 0, .int .i64 0, .slice none 0 0] 122) := heap_setCell_same _ g 2 _ _ (.string (prHead n)) k1
  have k3 : ((((w.setCell ⟨g, 0, none⟩ (.int .i64 n)).setCell ⟨g, 1, none⟩ (.string (prName n))).setCell ⟨g, 2, none⟩ (.string (prHead n))).setCell ⟨g, 3, none⟩ (.slice none 0 0)).heap[g]? = some (.cells #[.int .i64 n, .string (prName n), .string (prHead n), .slice none 0 0, .bool false, .bool false, .bool false, .bool false, .bool false, .map none, .int .i64 0, .int .i64 0, .int .i64 0, .int .i64 0, .int .i64 0, .int .i64 0, .int .i64 0, .slice none 0 0] 122) := heap_setCell_same _ g 3 _ _ (.slice none 0 0) k2
  have k4 : (((((w.setCell ⟨g, 0, none⟩ (.int .i64 n)).setCell ⟨g, 1, none⟩ (.string (prName n))).setCell ⟨g, 2, none⟩ (.string (prHead n))).setCell ⟨g, 3, none⟩ (.slice none 0 0)).setCell ⟨g, 4, none⟩ (.bool (prRight n))).heap[g]? = some (.cells #[.int .i64 n, .string (prName n), .string (prHead n), .slice none 0 0, .bool (prRight n), .bool false, .bool false, .bool false, .bool false, .map none, .int .i64 0, .int .i64 0, .int .i64 0, .int .i64 0, .int .i64 0, .int .i64 0, .int .i64 0, .slice none 0 0] 122) := heap_setCell_same _ g 4 _ _ (.bool (prRight n)) k3
  have k5 : ((((((w.setCell ⟨g, 0, none⟩ (.int .i64 n)).setCell ⟨g, 1, none⟩ (.string (prName n))).setCell ⟨g, 2, none⟩ (.string (prHead n))).setCell ⟨g, 3, none⟩ (.slice none 0 0)).setCell ⟨g, 4, none⟩ (.bool (prRight n))).setCell ⟨g, 5, none⟩ (.bool (prShifts n))).heap[g]? = some (.cells #[.int .i64 n, .string (prName n), .string (prHead n), .slice none 0 0, .bool (prRight n), .bool (prShifts n), .bool false, .bool false, .bool false, .map none, .int .i64 0, .int .i64 0, .int .i64 0, .int .i64 0, .int .i64 0, .int .i64 0, .int .i64 0, .slice none 0 0] 122) := heap_setCell_same _ g 5 _ _ (.bool (prShifts n)) k4
  have k6 : (((((((w.setCell ⟨g, 0, none⟩ (.int .i64 n)).setCell ⟨g, 1, none⟩ (.string (prName n))).setCell ⟨g, 2, none⟩ (.string (prHead n))).setCell ⟨g, 3, none⟩ (.slice none 0 0)).setCell ⟨g, 4, none⟩ (.bool (prRight n))).setCell ⟨g, 5, none⟩ (.bool (prShifts n))).setCell ⟨g, 6, none⟩ (.bool (prSingle n))).heap[g]? = some (.cells #[.int .i64 n, .string (prName n), .string (prHead n), .slice none 0 0, .bool (prRight n), .bool (prShifts n), .bool (prSingle n), .bool false, .bool false, .map none, .int .i64 0, .int .i64 0, .int .i64 0, .int .i64 0, .int .i64 0, .int .i64 0, .int .i64 0, .slice none 0 0] 122) := heap_setCell_same _ g 6 _ _ (.bool (prSingle n)) k5
  have k7 : ((((((((w.setCell ⟨g, 0, none⟩ (.int .i64 n)).setCell ⟨g, 1, none⟩ (.string (prName n))).setCell ⟨g, 2, none⟩ (.string (prHead n))).setCell ⟨g, 3, none⟩ (.slice none 0 0)).setCell ⟨g, 4, none⟩ (.bool (prRight n))).setCell ⟨g, 5, none⟩ (.bool (prShifts n))).setCell ⟨g, 6, none⟩ (.bool (prSingle n))).setCell ⟨g, 7, none⟩ (.bool (prReset n))).heap[g]? = some (.cells #[.int .i64 n, .string (prName n), .string (prHead n), .slice none 0 0, .bool (prRight n), .bool (prShifts n), .bool (prSingle n), .bool (prReset n), .bool false, .map none, .int .i64 0, .int .i64 0, .int .i64 0, .int .i64 0, .int .i64 0, .int .i64 0, .int .i64 0, .slice none 0 0] 122) := heap_setCell_same _ g 7 _ _ (.bool (prReset n)) k6
  have k8 : (((((((((w.setCell ⟨g, 0, none⟩ (.int .i64 n)).setCell ⟨g, 1, none⟩ (.string (prName n))).setCell ⟨g, 2, none⟩ (.string (prHead n))).setCell ⟨g, 3, none⟩ (.slice none 0 0)).setCell ⟨g, 4, none⟩ (.bool (prRight n))).setCell ⟨g, 5, none⟩ (.bool (prShifts n))).setCell ⟨g, 6, none⟩ (.bool (prSingle n))).setCell ⟨g, 7, none⟩ (.bool (prReset n))).setCell ⟨g, 8, none⟩ (.bool (prClear n))).heap[g]? = some (.cells #[.int .i64 n, .string (prName n), .string (prHead n), .slice none 0 0, .bool (prRight n), .bool (prShifts n), .bool (prSingle n), .bool (prReset n), .bool (prClear n), .map none, .int .i64 0, .int .i64 0, .int .i64 0, .int .i64 0, .int .i64 0, .int .i64 0, .int .i64 0, .slice none 0 0] 122) := heap_setCell_same _ g 8 _ _ (.bool (prClear n)) k7
  have k9 : ((((((((((w.setCell ⟨g, 0, none⟩ (.int .i64 n)).setCell ⟨g, 1, none⟩ (.string (prName n))).setCell ⟨g, 2, none⟩ (.string (prHead n))).setCell ⟨g, 3, none⟩ (.slice none 0 0)).setCell ⟨g, 4, none⟩ (.bool (prRight n))).setCell ⟨g, 5, none⟩ (.bool (prShifts n))).setCell ⟨g, 6, none⟩ (.bool (prSingle n))).setCell ⟨g, 7, none⟩ (.bool (prReset n))).setCell ⟨g, 8, none⟩ (.bool (prClear n))).setCell ⟨g, 9, none⟩ (.map none)).heap[g]? = some (.cells #[.int .i64 n, .string (prName n), .string (prHead n), .slice none 0 0, .bool (prRight n), .bool (prShifts n), .bool (prSingle n), .bool (prReset n), .bool (prClear n), .map none, .int .i64 0, .int .i64 0, .int .i64 0, .int .i64 0, .int .i64 0, .int .i64 0, .int .i64 0, .slice none 0 0] 122) := heap_setCell_same _ g 9 _ _ (.map none) k8
  have k10 : (((((((((((w.setCell ⟨g, 0, none⟩ (.int .i64 n)).setCell ⟨g, 1, none⟩ (.string (prName n))).setCell ⟨g, 2, none⟩ (.string (prHead n))).setCell ⟨g, 3, none⟩ (.slice none 0 0)).setCell ⟨g, 4, none⟩ (.bool (prRight n))).setCell ⟨g, 5, none⟩ (.bool (prShifts n))).setCell ⟨g, 6, none⟩ (.bool (prSingle n))).setCell ⟨g, 7, none⟩ (.bool (prReset n))).setCell ⟨g, 8, none⟩ (.bool (prClear n))).setCell ⟨g, 9, none⟩ (.map none)).setCell ⟨g, 10, none⟩ (.int .i64 y.g0)).heap[g]? = some (.cells #[.int .i64 n, .string (prName n), .string (prHead n), .slice none 0 0, .bool (prRight n), .bool (prShifts n), .bool (prSingle n), .bool (prReset n), .bool (prClear n), .map none, .int .i64 y.g0, .int .i64 0, .int .i64 0, .int .i64 0, .int .i64 0, .int .i64 0, .int .i64 0, .slice none 0 0] 122) := heap_setCell_same _ g 10 _ _ (.int .i64 y.g0) k9
  have k11 : ((((((((((((w.setCell ⟨g, 0, none⟩ (.int .i64 n)).setCell ⟨g, 1, none⟩ (.string (prName n))).setCell ⟨g, 2, none⟩ (.string (prHead n))).setCell ⟨g, 3, none⟩ (.slice none 0 0)).setCell ⟨g, 4, none⟩ (.bool (prRight n))).setCell ⟨g, 5, none⟩ (.bool (prShifts n))).setCell ⟨g, 6, none⟩ (.bool (prSingle n))).setCell ⟨g, 7, none⟩ (.bool (prReset n))).setCell ⟨g, 8, none⟩ (.bool (prClear n))).setCell ⟨g, 9, none⟩ (.map none)).setCell ⟨g, 10, none⟩ (.int .i64 y.g0)).setCell ⟨g, 11, none⟩ (.int .i64 y.g1)).heap[g]? = some (.cells #[.int .i64 n, .string (prName n), .string (prHead n), .slice none 0 0, .bool (prRight n), .bool (prShifts n), .bool (prSingle n), .bool (prReset n), .bool (prClear n), .map none, .int .i64 y.g0, .int .i64 y.g1, .int .i64 0, .int .i64 0, .int .i64 0, .int .i64 0, .int .i64 0, .slice none 0 0] 122) := heap_setCell_same _ g 11 _ _ (.int .i64 y.g1) k10
  have k12 : (((((((((((((w.setCell ⟨g, 0, none⟩ (.int .i64 n)).setCell ⟨g, 1, none⟩ (.string (prName n))).setCell ⟨g, 2, none⟩ (.string (prHead n))).setCell ⟨g, 3, none⟩ (.slice none 0 0)).setCell ⟨g, 4, none⟩ (.bool (prRight n))).setCell ⟨g, 5, none⟩ (.bool (prShifts n))).setCell ⟨g, 6, none⟩ (.bool (prSingle n))).setCell ⟨g, 7, none⟩ (.bool (prReset n))).setCell ⟨g, 8, none⟩ (.bool (prClear n))).setCell ⟨g, 9, none⟩ (.map none)).setCell ⟨g, 10, none⟩ (.int .i64 y.g0)).setCell ⟨g, 11, none⟩ (.int .i64 y.g1)).setCell ⟨g, 12, none⟩ (.int .i64 y.g2)).heap[g]? = some (.cells #[.int .i64 n, .string (prName n), .string (prHead n), .slice none 0 0, .bool (prRight n), .bool (prShifts n), .bool (prSingle n), .bool (prReset n), .bool (prClear n), .map none, .int .i64 y.g0, .int .i64 y.g1, .int .i64 y.g2, .int .i64 0, .int .i64 0, .int .i64 0, .int .i64 0, .slice none 0 0] 122) := heap_setCell_same _ g 12 _ _ (.int .i64 y.g2) k11
  have k13 : ((((((((((((((w.setCell ⟨g, 0, none⟩ (.int .i64 n)).setCell ⟨g, 1, none⟩ (.string (prName n))).setCell ⟨g, 2, none⟩ (.string (prHead n))).setCell ⟨g, 3, none⟩ (.slice none 0 0)).setCell ⟨g, 4, none⟩ (.bool (prRight n))).setCell ⟨g, 5, none⟩ (.bool (prShifts n))).setCell ⟨g, 6, none⟩ (.bool (prSingle n))).setCell ⟨g, 7, none⟩ (.bool (prReset n))).setCell ⟨g, 8, none⟩ (.bool (prClear n))).setCell ⟨g, 9, none⟩ (.map none)).setCell ⟨g, 10, none⟩ (.int .i64 y.g0)).setCell ⟨g, 11, none⟩ (.int .i64 y.g1)).setCell ⟨g, 12, none⟩ (.int .i64 y.g2)).setCell ⟨g, 13, none⟩ (.int .i64 y.g3)).heap[g]? = some (.cells #[.int .i64 n, .string (prName n), .string (prHead n), .slice none 0 0, .bool (prRight n), .bool (prShifts n), .bool (prSingle n), .bool (prReset n), .bool (prClear n), .map none, .int .i64 y.g0, .int .i64 y.g1, .int .i64 y.g2, .int .i64 y.g3, .int .i64 0, .int .i64 0, .int .i64 0, .slice none 0 0] 122) := heap_setCell_same _ g 13 _ _ (.int .i64 y.g3) k12
  have k14 : (((((((((((((((w.setCell ⟨g, 0, none⟩ (.int .i64 n)).setCell ⟨g, 1, none⟩ (.string (prName n))).setCell ⟨g, 2, none⟩ (.string (prHead n))).setCell ⟨g, 3, none⟩ (.slice none 0 0)).setCell ⟨g, 4, none⟩ (.bool (prRight n))).setCell ⟨g, 5, none⟩ (.bool (prShifts n))).setCell ⟨g, 6, none⟩ (.bool (prSingle n))).setCell ⟨g, 7, none⟩ (.bool (prReset n))).setCell ⟨g, 8, none⟩ (.bool (prClear n))).setCell ⟨g, 9, none⟩ (.map none)).setCell ⟨g, 10, none⟩ (.int .i64 y.g0)).setCell ⟨g, 11, none⟩ (.int .i64 y.g1)).setCell ⟨g, 12, none⟩ (.int .i64 y.g2)).setCell ⟨g, 13, none⟩ (.int .i64 y.g3)).setCell ⟨g, 14, none⟩ (.int .i64 y.l)).heap[g]? = some (.cells #[.int .i64 n, .string (prName n), .string (prHead n), .slice none 0 0, .bool (prRight n), .bool (prShifts n), .bool (prSingle n), .bool (prReset n), .bool (prClear n), .map none, .int .i64 y.g0, .int .i64 y.g1, .int .i64 y.g2, .int .i64 y.g3, .int .i64 y.l, .int .i64 0, .int .i64 0, .slice none 0 0] 122) := heap_setCell_same _ g 14 _ _ (.int .i64 y.l) k13
  have k15 : ((((((((((((((((w.setCell ⟨g, 0, none⟩ (.int .i64 n)).setCell ⟨g, 1, none⟩ (.string (prName n))).setCell ⟨g, 2, none⟩ (.string (prHead n))).setCell ⟨g, 3, none⟩ (.slice none 0 0)).setCell ⟨g, 4, none⟩ (.bool (prRight n))).setCell ⟨g, 5, none⟩ (.bool (prShifts n))).setCell ⟨g, 6, none⟩ (.bool (prSingle n))).setCell ⟨g, 7, none⟩ (.bool (prReset n))).setCell ⟨g, 8, none⟩ (.bool (prClear n))).setCell ⟨g, 9, none⟩ (.map none)).setCell ⟨g, 10, none⟩ (.int .i64 y.g0)).setCell ⟨g, 11, none⟩ (.int .i64 y.g1)).setCell ⟨g, 12, none⟩ (.int .i64 y.g2)).setCell ⟨g, 13, none⟩ (.int .i64 y.g3)).setCell ⟨g, 14, none⟩ (.int .i64 y.l)).setCell ⟨g, 15, none⟩ (.int .i64 y.s)).heap[g]? = some (.cells #[.int .i64 n, .string (prName n), .string (prHead n), .slice none 0 0, .bool (prRight n), .bool (prShifts n), .bool (prSingle n), .bool (prReset n), .bool (prClear n), .map none, .int .i64 y.g0, .int .i64 y.g1, .int .i64 y.g2, .int .i64 y.g3, .int .i64 y.l, .int .i64 y.s, .int .i64 0, .slice none 0 0] 122) := heap_setCell_same _ g 15 _ _ (.int .i64 y.s) k14
  have k16 : (((((((((((((((((w.setCell ⟨g, 0, none⟩ (.int .i64 n)).setCell ⟨g, 1, none⟩ (.string (prName n))).setCell ⟨g, 2, none⟩ (.string (prHead n))).setCell ⟨g, 3, none⟩ (.slice none 0 0)).setCell ⟨g, 4, none⟩ (.bool (prRight n))).setCell ⟨g, 5, none⟩ (.bool (prShifts n))).setCell ⟨g, 6, none⟩ (.bool (prSingle n))).setCell ⟨g, 7, none⟩ (.bool (prReset n))).setCell ⟨g, 8, none⟩ (.bool (prClear n))).setCell ⟨g, 9, none⟩ (.map none)).setCell ⟨g, 10, none⟩ (.int .i64 y.g0)).setCell ⟨g, 11, none⟩ (.int .i64 y.g1)).setCell ⟨g, 12, none⟩ (.int .i64 y.g2)).setCell ⟨g, 13, none⟩ (.int .i64 y.g3)).setCell ⟨g, 14, none⟩ (.int .i64 y.l)).setCell ⟨g, 15, none⟩ (.int .i64 y.s)).setCell ⟨g, 16, none⟩ (.int .i64 y.d)).heap[g]? = some (.cells #[.int .i64 n, .string (prName n), .string (prHead n), .slice none 0 0, .bool (prRight n), .bool (prShifts n), .bool (prSingle n), .bool (prReset n), .bool (prClear n), .map none, .int .i64 y.g0, .int .i64 y.g1, .int .i64 y.g2, .int .i64 y.g3, .int .i64 y.l, .int .i64 y.s, .int .i64 y.d, .slice none 0 0] 122) := heap_setCell_same _ g 16 _ _ (.int .i64 y.d) k15
  have k17 : ((((((((((((((((((w.setCell ⟨g, 0, none⟩ (.int .i64 n)).setCell ⟨g, 1, none⟩ (.string (prName n))).setCell ⟨g, 2, none⟩ (.string (prHead n))).setCell ⟨g, 3, none⟩ (.slice none 0 0)).setCell ⟨g, 4, none⟩ (.bool (prRight n))).setCell ⟨g, 5, none⟩ (.bool (prShifts n))).setCell ⟨g, 6, none⟩ (.bool (prSingle n))).setCell ⟨g, 7, none⟩ (.bool (prReset n))).setCell ⟨g, 8, none⟩ (.bool (prClear n))).setCell ⟨g, 9, none⟩ (.map none)).setCell ⟨g, 10, none⟩ (.int .i64 y.g0)).setCell ⟨g, 11, none⟩ (.int .i64 y.g1)).setCell ⟨g, 12, none⟩ (.int .i64 y.g2)).setCell ⟨g, 13, none⟩ (.int .i64 y.g3)).setCell ⟨g, 14, none⟩ (.int .i64 y.l)).setCell ⟨g, 15, none⟩ (.int .i64 y.s)).setCell ⟨g, 16, none⟩ (.int .i64 y.d)).setCell ⟨g, 17, none⟩ (.slice none 0 0)).heap[g]? = some (.cells #[.int .i64 n, .string (prName n), .string (prHead n), .slice none 0 0, .bool (prRight n), .bool (prShifts n), .bool (prSingle n), .bool (prReset n), .bool (prClear n), .map none, .int .i64 y.g0, .int .i64 y.g1, .int .i64 y.g2, .int .i64 y.g3, .int .i64 y.l, .int .i64 y.s, .int .i64 y.d, .slice none 0 0] 122) := heap_setCell_same _ g 17 _ _ (.slice none 0 0) k16
  exact k17
theorem put18_below {B : Nat} {a w : World} (h : Below B a w) {g : Nat} (hg : B ≤ g) (n : Int) (y : St) : Below B a (put18 w g n y) := ((((((((((((((((((h.setCell hg _).setCell hg _).setCell hg _).setCell hg _).setCell hg _).setCell hg _).setCell hg _).setCell hg _).setCell hg _).setCell hg _).setCell hg _).setCell hg _).setCell hg _).setCell hg _).setCell hg _).setCell hg _).setCell hg _).setCell hg _)
theorem row18_cells {w : World} {g : Nat} (h : w.heap[g]? = some (.cells #[.int .i64 0, .string ⟨#[]⟩, .string ⟨#[]⟩, .slice none 0 0, .bool false, .bool false, .bool false, .bool false, .bool false, .map none, .int .i64 0, .int .i64 0, .int .i64 0, .int .i64 0, .int .i64 0, .int .i64 0, .int .i64 0, .slice none 0 0] 122)) : w.cell? ⟨g, 0, none⟩ = some (.int .i64 0) ∧ w.cell? ⟨g, 1, none⟩ = some (.string ⟨#[]⟩) ∧ w.cell? ⟨g, 2, none⟩ = some (.string ⟨#[]⟩) ∧ w.cell? ⟨g, 3, none⟩ = some (.slice none 0 0) ∧ w.cell? ⟨g, 4, none⟩ = some (.bool false) ∧ w.cell? ⟨g, 5, none⟩ = some (.bool false) ∧ w.cell? ⟨g, 6, none⟩ = some (.bool false) ∧ w.cell? ⟨g, 7, none⟩ = some (.bool false) ∧ w.cell? ⟨g, 8, none⟩ = some (.bool false) ∧ w.cell? ⟨g, 9, none⟩ = some (.map none) ∧ w.cell? ⟨g, 10, none⟩ = some (.int .i64 0) ∧ w.cell? ⟨g, 11, none⟩ = some (.int .i64 0) ∧ w.cell? ⟨g, 12, none⟩ = some (.int .i64 0) ∧ w.cell? ⟨g, 13, none⟩ = some (.int .i64 0) ∧ w.cell? ⟨g, 14, none⟩ = some (.int .i64 0) ∧ w.cell? ⟨g, 15, none⟩ = some (.int .i64 0) ∧ w.cell? ⟨g, 16, none⟩ = some (.int .i64 0) ∧ w.cell? ⟨g, 17, none⟩ = some (.slice none 0 0) := by
  refine ⟨?_, ?_, ?_, ?_, ?_, ?_, ?_, ?_, ?_, ?_, ?_, ?_, ?_, ?_, ?_, ?_, ?_, ?_⟩ <;> (rw [cell_of_row _ _ _ _ _ _ h]; rfl)
theorem row18_thaw {w : World} {g : Nat} {cs : Array Value} {t : TypeId} (h : w.heap[g]? = some (.cells cs t)) : w.frozen? ⟨g, 0, none⟩ = false ∧ w.frozen? ⟨g, 1, none⟩ = false ∧ w.frozen? ⟨g, 2, none⟩ = false ∧ w.frozen? ⟨g, 3, none⟩ = false ∧ w.frozen? ⟨g, 4, none⟩ = false ∧ w.frozen? ⟨g, 5, none⟩ = false ∧ w.frozen? ⟨g, 6, none⟩ = false ∧ w.frozen? ⟨g, 7, none⟩ = false ∧ w.frozen? ⟨g, 8, none⟩ = false ∧ w.frozen? ⟨g, 9, none⟩ = false ∧ w.frozen? ⟨g, 10, none⟩ = false ∧ w.frozen? ⟨g, 11, none⟩ = false ∧ w.frozen? ⟨g, 12, none⟩ = false ∧ w.frozen? ⟨g, 13, none⟩ = false ∧ w.frozen? ⟨g, 14, none⟩ = false ∧ w.frozen? ⟨g, 15, none⟩ = false ∧ w.frozen? ⟨g, 16, none⟩ = false ∧ w.frozen? ⟨g, 17, none⟩ = false :=
  ⟨frozen_of_row w _ 0 _ _ h, frozen_of_row w _ 1 _ _ h, frozen_of_row w _ 2 _ _ h, frozen_of_row w _ 3 _ _ h, frozen_of_row w _ 4 _ _ h, frozen_of_row w _ 5 _ _ h, frozen_of_row w _ 6 _ _ h, frozen_of_row w _ 7 _ _ h, frozen_of_row w _ 8 _ _ h, frozen_of_row w _ 9 _ _ h, frozen_of_row w _ 10 _ _ h, frozen_of_row w _ 11 _ _ h, frozen_of_row w _ 12 _ _ h, frozen_of_row w _ 13 _ _ h, frozen_of_row w _ 14 _ _ h, frozen_of_row w _ 15 _ _ h, frozen_of_row w _ 16 _ _ h, frozen_of_row w _ 17 _ _ h⟩


end Go.Proofs.YtdckjhobikfggaaDoor

namespace Go.Proofs.YtdckjhobikfggaaDoor
open Go.RowKit Go.Sort

set_option maxHeartbeats 2000000 in
set_option maxRecDepth 100000 in
theorem impl_dreading (d : De) (g : Nat) (w : World) (h : DeAt w g d) (ht : TabSets w) (hn : proB d.n = true) : Calls Tryd.prog 89 #[.pointer (some ⟨g, 0, none⟩)] w fun e w' => e = .returned (rdV d.n (.map none) d.x (.slice none 0 0)) ∧ Below w.heap.size w w' := by
  have HG := Lib.hid (fun w ht => impl_guideOf d.n w ht hn)
  have HF := Lib.hid (fun w => impl_machineOf d.x w)
  unfold guV at HG
  unfold StDone stV at HF
  have B0 := Lib.hid (below_one w (.cells #[.int .i64 0, .string ⟨#[]⟩, .string ⟨#[]⟩, .slice none 0 0, .bool false, .bool false, .bool false, .bool false, .bool false, .map none, .int .i64 0, .int .i64 0, .int .i64 0, .int .i64 0, .int .i64 0, .int .i64 0, .int .i64 0, .slice none 0 0] 122))
  have S0 : Hid ((w.alloc (.cells #[.int .i64 0, .string ⟨#[]⟩, .string ⟨#[]⟩, .slice none 0 0, .bool false, .bool false, .bool false, .bool false, .bool false, .map none, .int .i64 0, .int .i64 0, .int .i64 0, .int .i64 0, .int .i64 0, .int .i64 0, .int .i64 0, .slice none 0 0] 122)).heap[w.heap.size]? = some (.cells #[.int .i64 0, .string ⟨#[]⟩, .string ⟨#[]⟩, .slice none 0 0, .bool false, .bool false, .bool false, .bool false, .bool false, .map none, .int .i64 0, .int .i64 0, .int .i64 0, .int .i64 0, .int .i64 0, .int .i64 0, .int .i64 0, .slice none 0 0] 122)) := Lib.hid (heap_alloc_new _ _)
  have HD := Lib.hid h
  have HT := Lib.hid ht
  clear h ht hn
  unfold rdV
  go_enter Tryd.func89, Tryd.ntmps89
  go_wp2_with fail
  generalize w.alloc (.cells #[.int .i64 0, .string ⟨#[]⟩, .string ⟨#[]⟩, .slice none 0 0, .bool false, .bool false, .bool false, .bool false, .bool false, .map none, .int .i64 0, .int .i64 0, .int .i64 0, .int .i64 0, .int .i64 0, .int .i64 0, .int .i64 0, .slice none 0 0] 122) = W at *
  have hS : (fun W' : World => Below w.heap.size w W') W.drew := below_drewN B0.out 1
  refine wp_region_held (S := (fun W' : World => Below w.heap.size w W')) (by kernel_rfl) ?_
  refine wpAnyH_take (i := 0) (v := .pointer (some ⟨g, 0, none⟩)) rfl (by kernel_rfl) (by kernel_rfl) (by kernel_rfl) (fun _ _ _ h => h) (.inl ⟨by rfl, fun w' hS' => by go_simp⟩) hS ?_
  refine wpAnyH_take (i := 1) (v := .pointer (some ⟨g, 0, none⟩)) rfl (by kernel_rfl) (by kernel_rfl) (by kernel_rfl) (fun _ _ _ h => h) (.inl ⟨by rfl, fun w' hS' => by go_simp⟩) hS ?_
  refine wpAnyH_take (i := 2) (v := .pointer (some ⟨g, 0, none⟩)) rfl (by kernel_rfl) (by kernel_rfl) (by kernel_rfl) (fun _ _ _ h => h) (.inl ⟨by rfl, fun w' hS' => by go_simp⟩) hS ?_
  refine wpAnyH_take (i := 3) (v := .int .i64 d.n) rfl (by kernel_rfl) (by kernel_rfl) (by kernel_rfl) (fun _ _ _ h => h) (.inl ⟨by rfl, fun w' hS' => by have s0 := (HD.out.keep hS').cells.1; go_simp⟩) hS ?_
  refine wpAnyH_take (i := 5) (v := .pointer (some ⟨g, 0, none⟩)) rfl (by kernel_rfl) (by kernel_rfl) (by kernel_rfl) (fun _ _ _ h => h) (.inl ⟨by rfl, fun w' hS' => by go_simp⟩) hS ?_
  refine wpAnyH_take (i := 6) (v := .pointer (some ⟨g, 0, none⟩)) rfl (by kernel_rfl) (by kernel_rfl) (by kernel_rfl) (fun _ _ _ h => h) (.inl ⟨by rfl, fun w' hS' => by go_simp⟩) hS ?_
  refine wpAnyH_take (i := 7) (v := .pointer (some ⟨g, 3, none⟩)) rfl (by kernel_rfl) (by kernel_rfl) (by kernel_rfl) (fun _ _ _ h => h) (.inl ⟨by rfl, fun w' hS' => by go_simp⟩) hS ?_
  refine wpAnyH_take (i := 8) (v := .agg #[.int .i64 d.x.g0, .int .i64 d.x.g1, .int .i64 d.x.g2, .int .i64 d.x.g3, .int .i64 d.x.l, .int .i64 d.x.s, .int .i64 d.x.d]) rfl (by kernel_rfl) (by kernel_rfl) (by kernel_rfl) (fun _ _ _ h => h) (.inl ⟨by rfl, fun w' hS' => by have ⟨_, _, _, s3, s4, s5, s6, s7, s8, s9, _, _, _⟩ := (HD.out.keep hS').cells; go_simp⟩) hS ?_
  refine wpAnyH_ready (rs := [4]) (by kernel_rfl) (by simp) (AllReadyH.cons rfl (fun K hK => ?_) AllReadyH.nil)
  clear hS
  go_simp
  refine (HG.out W.drew (HT.out.keep (below_drewN B0.out 1))).mono ?_
  rintro e w1 ⟨rfl, b1⟩
  have B1 : Below w.heap.size w w1 := B0.out.trans ((bel_drew b1).mono B0.out.size)
  have S1 := Lib.hid (((bel_drew b1).block _ (Array.getElem?_eq_some_iff.1 S0.out).1).trans S0.out)
  refine hK.out _ _ B1 (fun _ => ?_)
  clear hK K b1
  refine wpAnyH_ready (rs := [9]) (by kernel_rfl) (by simp) (AllReadyH.cons rfl (fun K hK => ?_) AllReadyH.nil)
  go_simp
  refine (HF.out w1).mono ?_
  rintro e w2 ⟨rfl, b2⟩
  have B2 := Lib.hid (B1.trans (b2.mono B1.size))
  have S2 := Lib.hid ((b2.block _ (Array.getElem?_eq_some_iff.1 S1.out).1).trans S1.out)
  refine hK.out _ _ B2.out (fun _ => ?_)
  clear hK K b2
  have hS : (fun W' : World => Below w.heap.size w W') w2 := B2.out
  refine wpAnyH_take (i := 10) (v := .agg #[.int .i64 d.n, .string (prName d.n), .string (prHead d.n), .slice none 0 0, .bool (prRight d.n), .bool (prShifts d.n), .bool (prSingle d.n), .bool (prReset d.n), .bool (prClear d.n), .map none, .int .i64 d.x.g0, .int .i64 d.x.g1, .int .i64 d.x.g2, .int .i64 d.x.g3, .int .i64 d.x.l, .int .i64 d.x.s, .int .i64 d.x.d, .slice none 0 0]) rfl (by kernel_rfl) (by kernel_rfl) (by kernel_rfl) (fun _ _ _ h => h) (.inl ⟨by rfl, fun w' hS' => by go_simp⟩) hS ?_
  refine wpAnyH_ready (rs := [11]) (by kernel_rfl) (by simp) (AllReadyH.cons rfl (fun K hK => ?_) AllReadyH.nil)
  have ⟨c0, c1, c2, c3, c4, c5, c6, c7, c8, c9, c10, c11, c12, c13, c14, c15, c16, c17⟩ := row18_cells S2.out
  have ⟨f0, f1, f2, f3, f4, f5, f6, f7, f8, f9, f10, f11, f12, f13, f14, f15, f16, f17⟩ := row18_thaw S2.out
  have hl3 : w.heap.size < w2.heap.size := (Array.getElem?_eq_some_iff.1 S2.out).1
  clear hS
  go_simp
  refine hK.out _ _ (put18_below B2.out (Nat.le_refl _) d.n d.x) (fun _ => ?_)
  refine wpAnyH_done (by kernel_rfl) ?_ _
  clear hK K c0 c1 c2 c3 c4 c5 c6 c7 c8 c9 c10 c11 c12 c13 c14 c15 c16 c17 f0 f1 f2 f3 f4 f5 f6 f7 f8 f9 f10 f11 f12 f13 f14 f15 f16 f17
  go_wp2
  exact bodyPost_ret (results_cell_row rfl _ _ w.heap.size _ _ _ _ rfl (put18_row d.n d.x S2.out) Tryd.underlying122 rfl (by kernel_rfl)) rfl ⟨rfl, put18_below B2.out (Nat.le_refl _) d.n d.x⟩

set_option maxHeartbeats 1000000 in
set_option maxRecDepth 100000 in
theorem dendCode15 (d : De) (g : Nat) (w : World) (h : DeAt w g d) (ht : TabSets w) (hn : proB d.n = true) (hx : stOKB d.x = true) (hb : d.b = false) (he : (prHead d.n).toList.isEmpty = false) : Calls Tryd.prog 60 #[.pointer (some ⟨g, 0, none⟩)] w fun e w' => e = .returned (.int .i64 15) ∧ Below w.heap.size w w' := by
  have HR := Lib.hid (fun w h ht => impl_dreading d g w h ht hn)
  have HE := Lib.hid (fun b w h => impl_endCode d.n d.x (.map none) (.slice none 0 0) b w h hx)
  have HD := Lib.hid h
  have HT := Lib.hid ht
  have HB := Lib.hid hb
  unfold rdV at HR
  clear h ht hn hx hb
  go_enter Tryd.func60, Tryd.ntmps60
  go_wp2_with fail
  refine (HR.out _ HD.out HT.out).mono ?_
  rintro e w1 ⟨rfl, b1⟩
  have D1 := Lib.hid (HD.out.keep (b1.alloc b1.size (.cells #[.int .i64 d.n, .string (prName d.n), .string (prHead d.n), .slice none 0 0, .bool (prRight d.n), .bool (prShifts d.n), .bool (prSingle d.n), .bool (prReset d.n), .bool (prClear d.n), .map none, .int .i64 d.x.g0, .int .i64 d.x.g1, .int .i64 d.x.g2, .int .i64 d.x.g3, .int .i64 d.x.l, .int .i64 d.x.s, .int .i64 d.x.d, .slice none 0 0] 122)))
  have A1 : Hid (RdAt (w1.alloc (.cells #[.int .i64 d.n, .string (prName d.n), .string (prHead d.n), .slice none 0 0, .bool (prRight d.n), .bool (prShifts d.n), .bool (prSingle d.n), .bool (prReset d.n), .bool (prClear d.n), .map none, .int .i64 d.x.g0, .int .i64 d.x.g1, .int .i64 d.x.g2, .int .i64 d.x.g3, .int .i64 d.x.l, .int .i64 d.x.s, .int .i64 d.x.d, .slice none 0 0] 122)) w1.heap.size d.n (.map none) d.x (.slice none 0 0)) := Lib.hid (heap_alloc_new _ _)
  have B1 := Lib.hid (b1.alloc b1.size (.cells #[.int .i64 d.n, .string (prName d.n), .string (prHead d.n), .slice none 0 0, .bool (prRight d.n), .bool (prShifts d.n), .bool (prSingle d.n), .bool (prReset d.n), .bool (prClear d.n), .map none, .int .i64 d.x.g0, .int .i64 d.x.g1, .int .i64 d.x.g2, .int .i64 d.x.g3, .int .i64 d.x.l, .int .i64 d.x.s, .int .i64 d.x.d, .slice none 0 0] 122))
  have ⟨_, _, _, _, _, _, _, _, _, _, y10, y11, _⟩ := D1.out.cells
  rw [HB.out] at y11
  have hl1 := D1.out.lt
  clear b1
  go_wp2
  go_ret
  exact ⟨rfl, B1.out⟩

set_option maxHeartbeats 1000000 in
set_option maxRecDepth 100000 in
theorem dendCodeA0 (d : De) (g : Nat) (w : World) (h : DeAt w g d) (ht : TabSets w) (hn : proB d.n = true) (hx : stOKB d.x = true) (hb : d.b = true) (hr : d.r.toList.isEmpty = true) : Calls Tryd.prog 60 #[.pointer (some ⟨g, 0, none⟩)] w fun e w' => e = .returned (.int .i64 (endC d.n d.x)) ∧ Below w.heap.size w w' := by
  have HR := Lib.hid (fun w h ht => impl_dreading d g w h ht hn)
  have HE := Lib.hid (fun b w h => impl_endCode d.n d.x (.map none) (.slice none 0 0) b w h hx)
  have HD := Lib.hid h
  have HT := Lib.hid ht
  have HB := Lib.hid hb
  unfold rdV at HR
  clear h ht hn hx hb
  go_enter Tryd.func60, Tryd.ntmps60
  go_wp2_with fail
  refine (HR.out _ HD.out HT.out).mono ?_
  rintro e w1 ⟨rfl, b1⟩
  have D1 := Lib.hid (HD.out.keep (b1.alloc b1.size (.cells #[.int .i64 d.n, .string (prName d.n), .string (prHead d.n), .slice none 0 0, .bool (prRight d.n), .bool (prShifts d.n), .bool (prSingle d.n), .bool (prReset d.n), .bool (prClear d.n), .map none, .int .i64 d.x.g0, .int .i64 d.x.g1, .int .i64 d.x.g2, .int .i64 d.x.g3, .int .i64 d.x.l, .int .i64 d.x.s, .int .i64 d.x.d, .slice none 0 0] 122)))
  have A1 : Hid (RdAt (w1.alloc (.cells #[.int .i64 d.n, .string (prName d.n), .string (prHead d.n), .slice none 0 0, .bool (prRight d.n), .bool (prShifts d.n), .bool (prSingle d.n), .bool (prReset d.n), .bool (prClear d.n), .map none, .int .i64 d.x.g0, .int .i64 d.x.g1, .int .i64 d.x.g2, .int .i64 d.x.g3, .int .i64 d.x.l, .int .i64 d.x.s, .int .i64 d.x.d, .slice none 0 0] 122)) w1.heap.size d.n (.map none) d.x (.slice none 0 0)) := Lib.hid (heap_alloc_new _ _)
  have B1 := Lib.hid (b1.alloc b1.size (.cells #[.int .i64 d.n, .string (prName d.n), .string (prHead d.n), .slice none 0 0, .bool (prRight d.n), .bool (prShifts d.n), .bool (prSingle d.n), .bool (prReset d.n), .bool (prClear d.n), .map none, .int .i64 d.x.g0, .int .i64 d.x.g1, .int .i64 d.x.g2, .int .i64 d.x.g3, .int .i64 d.x.l, .int .i64 d.x.s, .int .i64 d.x.d, .slice none 0 0] 122))
  have ⟨_, _, _, _, _, _, _, _, _, _, y10, y11, _⟩ := D1.out.cells
  rw [HB.out] at y11
  have hl1 := D1.out.lt
  clear b1
  go_wp2_with fail
  refine (HE.out _ _ A1.out).mono ?_
  rintro e w2 ⟨rfl, q, rfl⟩
  go_wp2
  go_ret
  exact ⟨rfl, below_drewN B1.out q⟩

set_option maxHeartbeats 1000000 in
set_option maxRecDepth 100000 in
theorem dendCodeB0 (d : De) (g : Nat) (w : World) (h : DeAt w g d) (ht : TabSets w) (hn : proB d.n = true) (hx : stOKB d.x = true) (hb : d.b = false) (he : (prHead d.n).toList.isEmpty = true) (hr : d.r.toList.isEmpty = true) : Calls Tryd.prog 60 #[.pointer (some ⟨g, 0, none⟩)] w fun e w' => e = .returned (.int .i64 (endC d.n d.x)) ∧ Below w.heap.size w w' := by
  have HR := Lib.hid (fun w h ht => impl_dreading d g w h ht hn)
  have HE := Lib.hid (fun b w h => impl_endCode d.n d.x (.map none) (.slice none 0 0) b w h hx)
  have HD := Lib.hid h
  have HT := Lib.hid ht
  have HB := Lib.hid hb
  unfold rdV at HR
  clear h ht hn hx hb
  go_enter Tryd.func60, Tryd.ntmps60
  go_wp2_with fail
  refine (HR.out _ HD.out HT.out).mono ?_
  rintro e w1 ⟨rfl, b1⟩
  have D1 := Lib.hid (HD.out.keep (b1.alloc b1.size (.cells #[.int .i64 d.n, .string (prName d.n), .string (prHead d.n), .slice none 0 0, .bool (prRight d.n), .bool (prShifts d.n), .bool (prSingle d.n), .bool (prReset d.n), .bool (prClear d.n), .map none, .int .i64 d.x.g0, .int .i64 d.x.g1, .int .i64 d.x.g2, .int .i64 d.x.g3, .int .i64 d.x.l, .int .i64 d.x.s, .int .i64 d.x.d, .slice none 0 0] 122)))
  have A1 : Hid (RdAt (w1.alloc (.cells #[.int .i64 d.n, .string (prName d.n), .string (prHead d.n), .slice none 0 0, .bool (prRight d.n), .bool (prShifts d.n), .bool (prSingle d.n), .bool (prReset d.n), .bool (prClear d.n), .map none, .int .i64 d.x.g0, .int .i64 d.x.g1, .int .i64 d.x.g2, .int .i64 d.x.g3, .int .i64 d.x.l, .int .i64 d.x.s, .int .i64 d.x.d, .slice none 0 0] 122)) w1.heap.size d.n (.map none) d.x (.slice none 0 0)) := Lib.hid (heap_alloc_new _ _)
  have B1 := Lib.hid (b1.alloc b1.size (.cells #[.int .i64 d.n, .string (prName d.n), .string (prHead d.n), .slice none 0 0, .bool (prRight d.n), .bool (prShifts d.n), .bool (prSingle d.n), .bool (prReset d.n), .bool (prClear d.n), .map none, .int .i64 d.x.g0, .int .i64 d.x.g1, .int .i64 d.x.g2, .int .i64 d.x.g3, .int .i64 d.x.l, .int .i64 d.x.s, .int .i64 d.x.d, .slice none 0 0] 122))
  have ⟨_, _, _, _, _, _, _, _, _, _, y10, y11, _⟩ := D1.out.cells
  rw [HB.out] at y11
  have hl1 := D1.out.lt
  clear b1
  go_wp2_with fail
  refine (HE.out _ _ A1.out).mono ?_
  rintro e w2 ⟨rfl, q, rfl⟩
  go_wp2
  go_ret
  exact ⟨rfl, below_drewN B1.out q⟩

set_option maxHeartbeats 1000000 in
set_option maxRecDepth 100000 in
theorem dendCodeA1 (d : De) (g : Nat) (w : World) (h : DeAt w g d) (ht : TabSets w) (hn : proB d.n = true) (hx : stOKB d.x = true) (hb : d.b = true) (hr : d.r.toList.isEmpty = false) : Calls Tryd.prog 60 #[.pointer (some ⟨g, 0, none⟩)] w fun e w' => e = .returned (.int .i64 13) ∧ Below w.heap.size w w' := by
  have HR := Lib.hid (fun w h ht => impl_dreading d g w h ht hn)
  have HE := Lib.hid (fun b w h => impl_endCode d.n d.x (.map none) (.slice none 0 0) b w h hx)
  have HD := Lib.hid h
  have HT := Lib.hid ht
  have HB := Lib.hid hb
  unfold rdV at HR
  clear h ht hn hx hb
  go_enter Tryd.func60, Tryd.ntmps60
  go_wp2_with fail
  refine (HR.out _ HD.out HT.out).mono ?_
  rintro e w1 ⟨rfl, b1⟩
  have D1 := Lib.hid (HD.out.keep (b1.alloc b1.size (.cells #[.int .i64 d.n, .string (prName d.n), .string (prHead d.n), .slice none 0 0, .bool (prRight d.n), .bool (prShifts d.n), .bool (prSingle d.n), .bool (prReset d.n), .bool (prClear d.n), .map none, .int .i64 d.x.g0, .int .i64 d.x.g1, .int .i64 d.x.g2, .int .i64 d.x.g3, .int .i64 d.x.l, .int .i64 d.x.s, .int .i64 d.x.d, .slice none 0 0] 122)))
  have A1 : Hid (RdAt (w1.alloc (.cells #[.int .i64 d.n, .string (prName d.n), .string (prHead d.n), .slice none 0 0, .bool (prRight d.n), .bool (prShifts d.n), .bool (prSingle d.n), .bool (prReset d.n), .bool (prClear d.n), .map none, .int .i64 d.x.g0, .int .i64 d.x.g1, .int .i64 d.x.g2, .int .i64 d.x.g3, .int .i64 d.x.l, .int .i64 d.x.s, .int .i64 d.x.d, .slice none 0 0] 122)) w1.heap.size d.n (.map none) d.x (.slice none 0 0)) := Lib.hid (heap_alloc_new _ _)
  have B1 := Lib.hid (b1.alloc b1.size (.cells #[.int .i64 d.n, .string (prName d.n), .string (prHead d.n), .slice none 0 0, .bool (prRight d.n), .bool (prShifts d.n), .bool (prSingle d.n), .bool (prReset d.n), .bool (prClear d.n), .map none, .int .i64 d.x.g0, .int .i64 d.x.g1, .int .i64 d.x.g2, .int .i64 d.x.g3, .int .i64 d.x.l, .int .i64 d.x.s, .int .i64 d.x.d, .slice none 0 0] 122))
  have ⟨_, _, _, _, _, _, _, _, _, _, y10, y11, _⟩ := D1.out.cells
  rw [HB.out] at y11
  have hl1 := D1.out.lt
  clear b1
  go_wp2
  go_ret
  exact ⟨rfl, B1.out⟩

set_option maxHeartbeats 1000000 in
set_option maxRecDepth 100000 in
theorem dendCodeB1 (d : De) (g : Nat) (w : World) (h : DeAt w g d) (ht : TabSets w) (hn : proB d.n = true) (hx : stOKB d.x = true) (hb : d.b = false) (he : (prHead d.n).toList.isEmpty = true) (hr : d.r.toList.isEmpty = false) : Calls Tryd.prog 60 #[.pointer (some ⟨g, 0, none⟩)] w fun e w' => e = .returned (.int .i64 13) ∧ Below w.heap.size w w' := by
  have HR := Lib.hid (fun w h ht => impl_dreading d g w h ht hn)
  have HE := Lib.hid (fun b w h => impl_endCode d.n d.x (.map none) (.slice none 0 0) b w h hx)
  have HD := Lib.hid h
  have HT := Lib.hid ht
  have HB := Lib.hid hb
  unfold rdV at HR
  clear h ht hn hx hb
  go_enter Tryd.func60, Tryd.ntmps60
  go_wp2_with fail
  refine (HR.out _ HD.out HT.out).mono ?_
  rintro e w1 ⟨rfl, b1⟩
  have D1 := Lib.hid (HD.out.keep (b1.alloc b1.size (.cells #[.int .i64 d.n, .string (prName d.n), .string (prHead d.n), .slice none 0 0, .bool (prRight d.n), .bool (prShifts d.n), .bool (prSingle d.n), .bool (prReset d.n), .bool (prClear d.n), .map none, .int .i64 d.x.g0, .int .i64 d.x.g1, .int .i64 d.x.g2, .int .i64 d.x.g3, .int .i64 d.x.l, .int .i64 d.x.s, .int .i64 d.x.d, .slice none 0 0] 122)))
  have A1 : Hid (RdAt (w1.alloc (.cells #[.int .i64 d.n, .string (prName d.n), .string (prHead d.n), .slice none 0 0, .bool (prRight d.n), .bool (prShifts d.n), .bool (prSingle d.n), .bool (prReset d.n), .bool (prClear d.n), .map none, .int .i64 d.x.g0, .int .i64 d.x.g1, .int .i64 d.x.g2, .int .i64 d.x.g3, .int .i64 d.x.l, .int .i64 d.x.s, .int .i64 d.x.d, .slice none 0 0] 122)) w1.heap.size d.n (.map none) d.x (.slice none 0 0)) := Lib.hid (heap_alloc_new _ _)
  have B1 := Lib.hid (b1.alloc b1.size (.cells #[.int .i64 d.n, .string (prName d.n), .string (prHead d.n), .slice none 0 0, .bool (prRight d.n), .bool (prShifts d.n), .bool (prSingle d.n), .bool (prReset d.n), .bool (prClear d.n), .map none, .int .i64 d.x.g0, .int .i64 d.x.g1, .int .i64 d.x.g2, .int .i64 d.x.g3, .int .i64 d.x.l, .int .i64 d.x.s, .int .i64 d.x.d, .slice none 0 0] 122))
  have ⟨_, _, _, _, _, _, _, _, _, _, y10, y11, _⟩ := D1.out.cells
  rw [HB.out] at y11
  have hl1 := D1.out.lt
  clear b1
  go_wp2
  go_ret
  exact ⟨rfl, B1.out⟩

theorem impl_dendCode (d : De) (g : Nat) (w : World) (h : DeAt w g d) (ht : TabSets w) (hn : proB d.n = true) (hx : stOKB d.x = true) : Calls Tryd.prog 60 #[.pointer (some ⟨g, 0, none⟩)] w fun e w' => e = .returned (.int .i64 (clC d)) ∧ Below w.heap.size w w' := by
  unfold clC
  by_cases h15 : d.b = false ∧ 0 < (prHead d.n).size
  · rw [if_pos h15]
    exact dendCode15 d g w h ht hn hx h15.1 (some_size h15.2)
  rw [if_neg h15]
  by_cases h0 : 0 < d.r.size
  · rw [if_pos h0]
    cases hb : d.b
    · exact dendCodeB1 d g w h ht hn hx hb (empty_size (by
        have : ¬ 0 < (prHead d.n).size := fun h => h15 ⟨hb, h⟩
        omega)) (some_size h0)
    · exact dendCodeA1 d g w h ht hn hx hb (some_size h0)
  · rw [if_neg h0]
    cases hb : d.b
    · exact dendCodeB0 d g w h ht hn hx hb (empty_size (by
        have : ¬ 0 < (prHead d.n).size := fun h => h15 ⟨hb, h⟩
        omega)) (empty_size (by omega))
    · exact dendCodeA0 d g w h ht hn hx hb (empty_size (by omega))

end Go.Proofs.YtdckjhobikfggaaDoor

namespace Go.Proofs.YtdckjhobikfggaaDoor
open Go.RowKit Go.Sort

set_option maxHeartbeats 2000000 in
set_option maxRecDepth 100000 in
theorem impl_CloseDecoder (d : De) (w : World) (ht : TabM w) (hw : TabWords w) (hx : Wide64 d.x) (hr : d.r.size ≤ 1048576) : Calls Tryd.prog 27 #[deV d] w (CdDone d w) := by
  have HO := Lib.hid (fun w ht hw => impl_DecoderOK d w ht hw hx hr)
  have D0 : Hid (DeAt ((w.alloc (.cells #[.int .i64 d.n, .int .i64 d.a, .int .i64 d.c, .int .i64 d.x.g0, .int .i64 d.x.g1, .int .i64 d.x.g2, .int .i64 d.x.g3, .int .i64 d.x.l, .int .i64 d.x.s, .int .i64 d.x.d, .string d.r, .bool d.b, .bool d.o] 47)).alloc (.cells #[.int .i64 0, .int .i64 0, .int .i64 0, .int .i64 0, .int .i64 0, .int .i64 0, .int .i64 0, .int .i64 0, .int .i64 0, .int .i64 0, .string ⟨#[]⟩, .bool false, .bool false] 47)) w.heap.size d) := Lib.hid (heap_alloc2_old _ _ _)
  have R0 : Hid (DeAt ((w.alloc (.cells #[.int .i64 d.n, .int .i64 d.a, .int .i64 d.c, .int .i64 d.x.g0, .int .i64 d.x.g1, .int .i64 d.x.g2, .int .i64 d.x.g3, .int .i64 d.x.l, .int .i64 d.x.s, .int .i64 d.x.d, .string d.r, .bool d.b, .bool d.o] 47)).alloc (.cells #[.int .i64 0, .int .i64 0, .int .i64 0, .int .i64 0, .int .i64 0, .int .i64 0, .int .i64 0, .int .i64 0, .int .i64 0, .int .i64 0, .string ⟨#[]⟩, .bool false, .bool false] 47)) (w.heap.size + 1) zeroDe) := Lib.hid (heap_alloc2_new _ _ _)
  have B0 := Lib.hid (below_two w (.cells #[.int .i64 d.n, .int .i64 d.a, .int .i64 d.c, .int .i64 d.x.g0, .int .i64 d.x.g1, .int .i64 d.x.g2, .int .i64 d.x.g3, .int .i64 d.x.l, .int .i64 d.x.s, .int .i64 d.x.d, .string d.r, .bool d.b, .bool d.o] 47) (.cells #[.int .i64 0, .int .i64 0, .int .i64 0, .int .i64 0, .int .i64 0, .int .i64 0, .int .i64 0, .int .i64 0, .int .i64 0, .int .i64 0, .string ⟨#[]⟩, .bool false, .bool false] 47))
  have HT0 := Lib.hid (ht.keep B0.out)
  have HW0 := Lib.hid (hw.keep B0.out)
  clear ht hw hx hr
  unfold CdDone
  cases hok : deOK d
  · obtain ⟨h1, h2⟩ := cl_bad hok
    rw [h1, h2]
    rw [hok] at HO
    clear hok h1 h2
    unfold deV at HO ⊢
    go_enter Tryd.func27, Tryd.ntmps27
    go_wp2_with fail
    refine (HO.out _ HT0.out HW0.out).mono ?_
    generalize (w.alloc (.cells #[.int .i64 d.n, .int .i64 d.a, .int .i64 d.c, .int .i64 d.x.g0, .int .i64 d.x.g1, .int .i64 d.x.g2, .int .i64 d.x.g3, .int .i64 d.x.l, .int .i64 d.x.s, .int .i64 d.x.d, .string d.r, .bool d.b, .bool d.o] 47)).alloc (.cells #[.int .i64 0, .int .i64 0, .int .i64 0, .int .i64 0, .int .i64 0, .int .i64 0, .int .i64 0, .int .i64 0, .int .i64 0, .int .i64 0, .string ⟨#[]⟩, .bool false, .bool false] 47) = W at *
    rintro e w1 ⟨rfl, b1⟩
    have R1 := Lib.hid (R0.out.keep b1)
    have B1 := Lib.hid (B0.out.trans (b1.mono B0.out.size))
    have ⟨r0, r1, r2, r3, r4, r5, r6, r7, r8, r9, r10, r11, r12⟩ := deCells R1.out
    have ⟨s0, s1, s2, s3, s4, s5, s6, s7, s8, s9, s10, s11, s12⟩ := R1.out.thaw
    have hl1 := R1.out.lt
    clear b1
    go_wp2
    exact de_ret2 (y := zeroDe) rfl rfl rfl (R1.out.put zeroDe) Tryd.underlying47 rfl (by kernel_rfl) rfl ⟨rfl, below_putDe B1.out (by omega) zeroDe⟩
  obtain ⟨hn, hs, _, _, _, _, _, hco, _⟩ := deOK_parts hok
  rw [hok] at HO
  cases ho : d.o
  · obtain ⟨h1, h2⟩ := cl_ok hok ho
    have HOv := Lib.hid (fun w => impl_overCode d.o d.c w)
    rw [show (if d.o = true ∧ d.c = 0 then (17 : Int) else d.c) = overC d from rfl, over_none ho hco] at HOv
    have HE := Lib.hid (fun g w h ht => impl_dendCode d g w h ht hn hs)
    have HN := Lib.hid (fun g c w h => impl_dend d g c w h)
    rw [h1, h2]
    clear hok h1 h2 ho hco hn hs
    generalize clC d = cc at *
    unfold deV at HO ⊢
    go_enter Tryd.func27, Tryd.ntmps27
    go_wp2_with fail
    refine (HO.out _ HT0.out HW0.out).mono ?_
    generalize (w.alloc (.cells #[.int .i64 d.n, .int .i64 d.a, .int .i64 d.c, .int .i64 d.x.g0, .int .i64 d.x.g1, .int .i64 d.x.g2, .int .i64 d.x.g3, .int .i64 d.x.l, .int .i64 d.x.s, .int .i64 d.x.d, .string d.r, .bool d.b, .bool d.o] 47)).alloc (.cells #[.int .i64 0, .int .i64 0, .int .i64 0, .int .i64 0, .int .i64 0, .int .i64 0, .int .i64 0, .int .i64 0, .int .i64 0, .int .i64 0, .string ⟨#[]⟩, .bool false, .bool false] 47) = W at *
    rintro e w1 ⟨rfl, b1⟩
    have D1 := Lib.hid (D0.out.keep b1)
    have R1 := Lib.hid (R0.out.keep b1)
    have B1 := Lib.hid (B0.out.trans (b1.mono B0.out.size))
    have HT1 := Lib.hid (HT0.out.keep b1)
    clear b1
    have ⟨_, _, d2, _, _, _, _, _, _, _, _, _, d12⟩ := deCells D1.out
    go_wp2_with fail
    refine (HOv.out _).mono ?_
    rintro e w2 ⟨rfl, rfl⟩
    clear d2 d12
    go_wp2_with fail
    refine (HE.out _ _ D1.out HT1.out.1).mono ?_
    rintro e w2 ⟨rfl, b2⟩
    have D2 := Lib.hid (D1.out.keep b2)
    have R2 := Lib.hid (R1.out.keep b2)
    have B2 := Lib.hid (B1.out.trans (b2.mono B1.out.size))
    clear b2
    go_wp2_with fail
    refine (HN.out _ cc _ D2.out).mono ?_
    rintro e w3 ⟨rfl, dd3, o3⟩
    have D3 := Lib.hid dd3
    have R3 : Hid (DeAt w3 (w.heap.size + 1) zeroDe) := Lib.hid ((o3.2 _ (by omega) R2.out.lt).trans R2.out)
    have B3 := Lib.hid (B2.out.trans (o3.1.mono (Nat.le_refl _)))
    have ⟨r0, r1, r2, r3, r4, r5, r6, r7, r8, r9, r10, r11, r12⟩ := deCells R3.out
    have ⟨s0, s1, s2, s3, s4, s5, s6, s7, s8, s9, s10, s11, s12⟩ := R3.out.thaw
    have ⟨d0, d1, d2, d3, d4, d5, d6, d7, d8, d9, d10, d11, d12⟩ := deCells D3.out
    have hl1 := R3.out.lt
    have hl0 := D3.out.lt
    clear dd3 o3
    go_wp2
    exact de_ret2 (y := failD d cc) rfl rfl rfl (R3.out.put (failD d cc)) Tryd.underlying47 rfl (by kernel_rfl) rfl ⟨rfl, below_putDe B3.out (by omega) (failD d cc)⟩
  · obtain ⟨h1, h2⟩ := cl_over hok ho
    have HOv := Lib.hid (fun w => impl_overCode d.o d.c w)
    rw [show (if d.o = true ∧ d.c = 0 then (17 : Int) else d.c) = overC d from rfl, over_why ho] at HOv
    have ez : (whyC d != 0) = true := by simpa using why_some d
    rw [h1, h2]
    clear hok h1 h2 ho hco hn hs
    generalize whyC d = cc at *
    unfold deV at HO ⊢
    go_enter Tryd.func27, Tryd.ntmps27
    go_wp2_with fail
    refine (HO.out _ HT0.out HW0.out).mono ?_
    generalize (w.alloc (.cells #[.int .i64 d.n, .int .i64 d.a, .int .i64 d.c, .int .i64 d.x.g0, .int .i64 d.x.g1, .int .i64 d.x.g2, .int .i64 d.x.g3, .int .i64 d.x.l, .int .i64 d.x.s, .int .i64 d.x.d, .string d.r, .bool d.b, .bool d.o] 47)).alloc (.cells #[.int .i64 0, .int .i64 0, .int .i64 0, .int .i64 0, .int .i64 0, .int .i64 0, .int .i64 0, .int .i64 0, .int .i64 0, .int .i64 0, .string ⟨#[]⟩, .bool false, .bool false] 47) = W at *
    rintro e w1 ⟨rfl, b1⟩
    have D1 := Lib.hid (D0.out.keep b1)
    have R1 := Lib.hid (R0.out.keep b1)
    have B1 := Lib.hid (B0.out.trans (b1.mono B0.out.size))
    clear b1
    have ⟨_, _, d2, _, _, _, _, _, _, _, _, _, d12⟩ := deCells D1.out
    go_wp2_with fail
    refine (HOv.out _).mono ?_
    rintro e w2 ⟨rfl, rfl⟩
    clear d2 d12
    have ⟨r0, r1, r2, r3, r4, r5, r6, r7, r8, r9, r10, r11, r12⟩ := deCells R1.out
    have ⟨s0, s1, s2, s3, s4, s5, s6, s7, s8, s9, s10, s11, s12⟩ := R1.out.thaw
    have ⟨d0, d1, d2, d3, d4, d5, d6, d7, d8, d9, d10, d11, d12⟩ := deCells D1.out
    have hl1 := R1.out.lt
    have hl0 := D1.out.lt
    go_wp2
    exact de_ret2 (y := d) rfl rfl rfl (R1.out.put d) Tryd.underlying47 rfl (by kernel_rfl) rfl ⟨rfl, below_putDe B1.out (by omega) d⟩

end Go.Proofs.YtdckjhobikfggaaDoor

namespace Go.Proofs.YtdckjhobikfggaaDoor
open Go.ChangeShapes Go.WideShapes Go.ChangeAt Go.RowKit

theorem gWords : Tryd.prog.globalNamed "loop.example/g00748/impl.codeWords" = some 1 := by kernel_rfl
theorem tWords : (Tryd.prog.globals[1]?).map (·.type) = some 125 := by kernel_rfl
theorem laid_words {H : Type} : (Rows.laid_loop_example_g00748_impl_codeWords : DataW H) = .agg ((words.map fun b => b.data.toList).map fun s => .lit (.string s)) := rfl

theorem tab_of_laid {W : World} (h : laidMetH Tryd.prog [("loop.example/g00748/impl.codeWords", Rows.laid_loop_example_g00748_impl_codeWords)] W) : TabWords W := by
  rw [MakeChecks.laidMetH_plain _ _ _ (by kernel_rfl)] at h
  obtain ⟨ps, ⟨g0, t0, cs0, f0, p0, q0, hg0, ht0, hv0, hd0, _, _⟩, _, _⟩ := h
  obtain rfl := Option.some.inj (gWords.symm.trans hg0)
  obtain rfl := Option.some.inj (tWords.symm.trans ht0)
  rw [laid_words] at hd0
  have h1 := strTab Tryd.underlying125 Tryd.underlying9 (by kernel_rfl) _ hd0
  have hlen : cs0.size = 19 := by
    obtain ⟨_, _, _, _, hl, _⟩ := DataW.trod_array Tryd.underlying125 hd0
    have c19 : Tryd.prog.cellsOf 125 = 19 := by kernel_rfl
    rw [c19] at hl
    simpa using hl
  have hcs : cs0 = (words.map Value.string).toArray := by
    apply Array.ext_getElem?
    intro k
    by_cases hk : k < 19
    · have h2 := h1 k hk
      rw [Array.getElem?_toList] at h2
      rw [h2]
      have hl : words.length = 19 := rfl
      simp [List.getD, List.getElem?_eq_getElem (show k < words.length by omega)]
    · rw [Array.getElem?_eq_none (by omega), Array.getElem?_eq_none (by show 19 ≤ k; omega)]
  subst hcs
  unfold World.var? at hv0
  rw [hg0] at hv0
  simp only [Option.bind_some] at hv0
  split at hv0
  · next cs elem frozen hh =>
    cases hv0
    exact ⟨elem, frozen, hh⟩
  · cases hv0

theorem tab_readable : ∀ n ∈ ["loop.example/g00748/impl.codeWords"], ∀ g t, Tryd.prog.globalNamed n = some g → (Tryd.prog.globals[g]?).map (·.type) = some t → Tryd.prog.readableRec t = true ∧ t < Tryd.prog.types.size := by
  intro n hn g t hg ht
  obtain rfl : n = _ := List.mem_singleton.1 hn
  obtain rfl := Option.some.inj (gWords.symm.trans hg)
  obtain rfl := Option.some.inj (tWords.symm.trans ht)
  exact ⟨by kernel_rfl, of_decide_eq_true (by kernel_rfl)⟩

end Go.Proofs.YtdckjhobikfggaaDoor

namespace Go.Proofs.YtdckjhobikfggaaDoor
open Go.ChangeShapes Go.WideShapes Go.ChangeAt Go.RowKit

theorem gReg : Tryd.prog.globalNamed "loop.example/g00748/impl.registry" = some 4 := by kernel_rfl
theorem tReg : (Tryd.prog.globals[4]?).map (·.type) = some 191 := by kernel_rfl
def spD {H : Type} (s : Sp) : DataW H := .agg [.lit (.int .i64 s.1), .lit (.int .i64 s.2.1), .lit (.int .i64 s.2.2)]
def setD {H : Type} (k : Nat) : DataW H := .agg [.lit (.string (setName k).data.toList), .lit (.int .i64 (setKind k)), .lit (.int .i64 (setFinal k)), .slice ((setSpans k).map spD) []]
def regD {H : Type} : List (DataW H) := .agg [.lit (.string []), .lit (.int .i64 0), .lit (.int .i64 0), .nil] :: [setD 1, setD 2, setD 3, setD 4, setD 5, setD 6, setD 7, setD 8]
theorem laid_reg {H : Type} : (Rows.laid_loop_example_g00748_impl_registry : DataW H) = .agg regD := by kernel_rfl
theorem regD_at {H : Type} (k : Nat) (h1 : 1 ≤ k) (h8 : k ≤ 8) : (regD (H := H))[k]? = some (setD k) := by
  have : k = 1 ∨ k = 2 ∨ k = 3 ∨ k = 4 ∨ k = 5 ∨ k = 6 ∨ k = 7 ∨ k = 8 := by omega
  rcases this with rfl | rfl | rfl | rfl | rfl | rfl | rfl | rfl <;> rfl

theorem one_of_take {cs : List Value} {i : Nat} {c : Value} (h : (cs.drop i).take 1 = [c]) : cs[i]? = some c := by
  have := congrArg (fun l => l[0]?) h
  simpa [List.getElem?_take, List.getElem?_drop] using this

set_option maxRecDepth 100000 in
/-- A slice of spans, read. -/
theorem spans_of {H : Type} {enc : TypeId × Value → H} {W : World} {held : Bool} {fuel : Nat} {c : Value} {sp : List Sp} {p : List MemPlace} (hne : sp ≠ [])
    (h : DataW.trod enc Tryd.prog W 0 (fun _ => true) held fuel 149 [c] = some (.slice (sp.map spD) [], p)) : SpAt W c sp := by
  rcases Deep.open_slice Tryd.underlying149 h with ⟨_, hx⟩ | ⟨a, len, cap, m, n, D, Pl, hcs, _, hl, _, hm, hx, hel⟩
  · simp at hx
  · simp only [if_true] at hm
    have e1 := congrArg Prod.fst hx
    simp only [DataW.slice.injEq] at e1
    obtain ⟨e2, e3⟩ := e1
    have hlen : len = sp.length := by simpa using (congrArg List.length e2).symm
    subst hlen
    have c3 : Tryd.prog.cellsOf 184 = 3 := by kernel_rfl
    rw [c3] at hel
    have key : ∀ i (hi : i < sp.length), W.cell? (a.add (i * 3)) = some (.int .i64 (sp[i]).1) ∧ W.cell? ((a.add (i * 3)).add 1) = some (.int .i64 (sp[i]).2.1) ∧ W.cell? ((a.add (i * 3)).add 2) = some (.int .i64 (sp[i]).2.2) := by
      intro i hi
      obtain ⟨cs', h1, h2⟩ := hel i (by omega)
      obtain ⟨_, hlen3, hc⟩ := World.cells?_some h1
      have hD : D i = spD (sp[i]) := by
        have := congrArg (fun l => l[i]?) e2
        simp only [List.getElem?_map, List.getElem?_eq_getElem hi, Option.map_some, List.getElem?_range hi, Option.some.injEq] at this
        exact this.symm
      obtain ⟨y0, y1, y2, q, hy, _, t0, t1, t2⟩ := Deep.trod_struct3 Tryd.underlying184 h2
      have c1 : Tryd.prog.cellsOf 3 = 1 := by kernel_rfl
      obtain ⟨n0, f0, rfl, _⟩ := DataW.trod_int Tryd.underlying3 t0
      obtain ⟨n1, f1, rfl, _⟩ := DataW.trod_int Tryd.underlying3 t1
      obtain ⟨n2, f2, rfl, _⟩ := DataW.trod_int Tryd.underlying3 t2
      have hy1 := congrArg Prod.fst hy
      rw [hD] at hy1
      simp only [spD, DataW.agg.injEq, List.cons.injEq, DataW.lit.injEq, Lit.int.injEq, true_and, and_true] at hy1
      obtain ⟨g0, g1, g2⟩ := hy1
      have k0 := one_of_take (c := .int .i64 n0) (i := 0) (by rw [← c1]; exact f0)
      have k1 := one_of_take (c := .int .i64 n1) (i := 1) (by rw [← c1]; exact f1)
      have k2 := one_of_take (c := .int .i64 n2) (i := 2) (by rw [← c1]; exact f2)
      refine ⟨?_, ?_, ?_⟩
      · have := hc 0 (by omega)
        rw [k0, ← g0] at this
        simpa [Addr.add] using this
      · rw [hc 1 (by omega), k1, ← g1]
      · rw [hc 2 (by omega), k2, ← g2]
    simp only [List.cons.injEq, and_true] at hcs
    subst hcs
    have hpos : 0 < sp.length := List.length_pos_iff.2 hne
    obtain ⟨b, off, spot⟩ := a
    have hspot : spot = none := by
      have := World.cell?_spot (key 0 hpos).1
      simpa [Addr.add] using this
    subst hspot
    refine .inr ⟨b, off, cap, rfl, fun i hi => ?_⟩
    have ⟨h1, h2, h3⟩ := key i hi
    rw [add_off, add_off] at h2 h3
    rw [add_off] at h1
    exact ⟨h1, h2, h3⟩

set_option maxRecDepth 100000 in
theorem sets_of_laid {W : World} (h : laidMetH Tryd.prog [("loop.example/g00748/impl.registry", Rows.laid_loop_example_g00748_impl_registry)] W) : TabSets W := by
  rw [MakeChecks.laidMetH_plain _ _ _ (by kernel_rfl)] at h
  obtain ⟨ps, ⟨g0, t0, cs0, f0, p0, q0, hg0, ht0, hv0, hd0, _, _⟩, _, _⟩ := h
  obtain rfl := Option.some.inj (gReg.symm.trans hg0)
  obtain rfl := Option.some.inj (tReg.symm.trans ht0)
  rw [laid_reg] at hd0
  obtain ⟨xs, m, rfl, hx, _, hlen, hel⟩ := DataW.trod_array Tryd.underlying191 hd0
  have hx1 : regD = xs.map (·.1) := by simpa using congrArg Prod.fst hx
  have c4 : Tryd.prog.cellsOf 151 = 4 := by kernel_rfl
  have c1 : Tryd.prog.cellsOf 3 = 1 := by kernel_rfl
  have c1s : Tryd.prog.cellsOf 9 = 1 := by kernel_rfl
  have c1l : Tryd.prog.cellsOf 149 = 1 := by kernel_rfl
  rw [c4] at hel
  intro k h1 h8
  have hk : k < xs.length := by omega
  have e1 := hel k (by omega)
  rw [List.getElem?_eq_getElem hk] at e1
  have e2 : (xs[k]).1 = setD k := by
    have e3 := regD_at (H := Unit) k h1 h8
    rw [hx1, List.getElem?_map, List.getElem?_eq_getElem hk] at e3
    simpa using e3
  obtain ⟨y0, y1, y2, y3, n, hy, _, t0, t1, t2, t3⟩ := Joins.trod_struct4 Tryd.underlying151 e1
  obtain ⟨s0, f0, rfl, _⟩ := DataW.trod_string Tryd.underlying9 t0
  obtain ⟨n1, f1, rfl, _⟩ := DataW.trod_int Tryd.underlying3 t1
  obtain ⟨n2, f2, rfl, _⟩ := DataW.trod_int Tryd.underlying3 t2
  have hy1 := congrArg Prod.fst hy
  rw [e2] at hy1
  simp only [setD, DataW.agg.injEq, List.cons.injEq, DataW.lit.injEq, Lit.int.injEq, Lit.string.injEq, true_and, and_true] at hy1
  obtain ⟨g0, g1, g2, g3⟩ := hy1
  have hs0 : setName (k : Int) = s0 := ByteArray.ext (Array.toList_inj.1 g0)
  have cell : ∀ j, W.cell? ⟨4, j, none⟩ = cs0[j]? := fun j => by simpa using World.var?_cell gReg hv0 j
  have el : ∀ (j : Nat) (c : Value), j < 4 → ((((cs0.toList.drop (k * 4)).take 4).drop j).take 1) = [c] → W.cell? ⟨4, k * 4 + j, none⟩ = some c := by
    intro j c hj h
    have h2 := one_of_take h
    rw [List.getElem?_take_of_lt hj, List.getElem?_drop, Array.getElem?_toList] at h2
    rw [cell, h2]
  have l3 : ∃ c, ((((cs0.toList.drop (k * 4)).take 4).drop 3).take 1) = [c] := by
    rw [c1l] at t3
    rcases Deep.open_slice Tryd.underlying149 t3 with ⟨h, _⟩ | ⟨a, len, cap, _, _, _, _, h, _⟩
    · exact ⟨_, h⟩
    · exact ⟨_, h⟩
  obtain ⟨c, hc⟩ := l3
  refine ⟨?_, ?_, ?_, c, el 3 c (by decide) hc, ?_⟩
  · rw [hs0]
    exact el 0 _ (by decide) (by rw [← c1s]; exact f0)
  · rw [g1]
    exact el 1 _ (by decide) (by rw [← c1]; exact f1)
  · rw [g2]
    exact el 2 _ (by decide) (by rw [← c1]; exact f2)
  · have t4 : DataW.trod (fun _ : TypeId × Value => ()) Tryd.prog W 0 (fun _ => true) false n 149 [c] = some y3 := by
      rw [← hc, ← c1l]; exact t3
    obtain ⟨y3a, y3b⟩ := y3
    simp only at g3
    rw [← g3] at t4
    exact spans_of (by have := (set_few (k : Int)).1; intro h; rw [h] at this; simp at this) t4

theorem sets_readable : ∀ n ∈ ["loop.example/g00748/impl.registry"], ∀ g t, Tryd.prog.globalNamed n = some g → (Tryd.prog.globals[g]?).map (·.type) = some t → Tryd.prog.readableRec t = true ∧ t < Tryd.prog.types.size := by
  intro n hn g t hg ht
  obtain rfl : n = _ := List.mem_singleton.1 hn
  obtain rfl := Option.some.inj (gReg.symm.trans hg)
  obtain rfl := Option.some.inj (tReg.symm.trans ht)
  exact ⟨by kernel_rfl, of_decide_eq_true (by kernel_rfl)⟩

end Go.Proofs.YtdckjhobikfggaaDoor

namespace Go.Proofs.YtdckjhobikfggaaDoor
open Go.ChangeShapes Go.WideShapes Go.ChangeAt Go.RowKit

set_option maxRecDepth 100000 in
theorem tabM_of_laid {W : World} (h : laidMetH Tryd.prog [("loop.example/g00748/impl.registry", Rows.laid_loop_example_g00748_impl_registry)] W) : TabM W := by
  refine ⟨sets_of_laid h, ?_⟩
  rw [MakeChecks.laidMetH_plain _ _ _ (by kernel_rfl)] at h
  obtain ⟨ps, ⟨g0, t0, cs0, f0, p0, q0, hg0, ht0, hv0, hd0, _, _⟩, _, _⟩ := h
  obtain rfl := Option.some.inj (gReg.symm.trans hg0)
  obtain rfl := Option.some.inj (tReg.symm.trans ht0)
  rw [laid_reg] at hd0
  obtain ⟨xs, m, rfl, hx, _, hlen, hel⟩ := DataW.trod_array Tryd.underlying191 hd0
  have hx1 : regD = xs.map (·.1) := by simpa using congrArg Prod.fst hx
  have c4 : Tryd.prog.cellsOf 151 = 4 := by kernel_rfl
  have c1 : Tryd.prog.cellsOf 3 = 1 := by kernel_rfl
  rw [c4] at hel
  have hk : 0 < xs.length := by omega
  have e1 := hel 0 (by omega)
  rw [List.getElem?_eq_getElem hk] at e1
  have e2 : (xs[0]).1 = .agg [.lit (.string []), .lit (.int .i64 0), .lit (.int .i64 0), .nil] := by
    have e3 : (regD (H := Unit))[0]? = some (.agg [.lit (.string []), .lit (.int .i64 0), .lit (.int .i64 0), .nil]) := rfl
    rw [hx1, List.getElem?_map, List.getElem?_eq_getElem hk] at e3
    simpa using e3
  obtain ⟨y0, y1, y2, y3, n, hy, _, t0, t1, t2, t3⟩ := Joins.trod_struct4 Tryd.underlying151 e1
  obtain ⟨n1, f1, rfl, _⟩ := DataW.trod_int Tryd.underlying3 t1
  have hy1 := congrArg Prod.fst hy
  rw [e2] at hy1
  simp only [DataW.agg.injEq, List.cons.injEq, DataW.lit.injEq, Lit.int.injEq, true_and, and_true] at hy1
  obtain ⟨_, g1, _⟩ := hy1
  have cell : ∀ j, W.cell? ⟨4, j, none⟩ = cs0[j]? := fun j => by simpa using World.var?_cell gReg hv0 j
  have h2 := one_of_take (by rw [← c1]; exact f1)
  rw [List.getElem?_take_of_lt (by decide), List.getElem?_drop, Array.getElem?_toList] at h2
  rw [cell]
  rw [← g1] at h2
  simpa using h2

end Go.Proofs.YtdckjhobikfggaaDoor

namespace Go.Proofs.YtdckjhobikfggaaDoor
open Go.ChangeShapes Go.WideShapes Go.ChangeAt Go.RowKit

theorem laid_split {P : Program} {a b : String × DataW Unit} {W : World} (hp : ([a, b].all fun x => x.2.handleName?.isNone) = true) (h : laidMetH P [a, b] W) : laidMetH P [a] W ∧ laidMetH P [b] W := by
  have ha : ([a].all fun x => x.2.handleName?.isNone) = true := by simp at hp ⊢; exact hp.1
  have hb : ([b].all fun x => x.2.handleName?.isNone) = true := by simp at hp ⊢; exact hp.2
  rw [MakeChecks.laidMetH_plain _ _ _ hp] at h
  rw [MakeChecks.laidMetH_plain _ _ _ ha, MakeChecks.laidMetH_plain _ _ _ hb]
  obtain ⟨ps, hl, hnd, hc⟩ := h
  obtain ⟨g0, t0, cs0, f0, p0, q0, h1, h2, h3, h4, ⟨g1, t1, cs1, f1, p1, q1, k1, k2, k3, k4, k5, k6⟩, h6⟩ := hl
  subst h6
  have hn := List.nodup_append.1 hnd
  refine ⟨⟨_, ⟨g0, t0, cs0, f0, p0, [], h1, h2, h3, h4, rfl, rfl⟩, by rw [List.append_nil]; exact hn.1, fun b off hm => hc b off (List.mem_append_left _ (by rw [List.append_nil] at hm; exact hm))⟩, ?_⟩
  exact ⟨q0, ⟨g1, t1, cs1, f1, p1, q1, k1, k2, k3, k4, k5, k6⟩, hn.2.1, fun b off hm => hc b off (List.mem_append_right _ hm)⟩

theorem tabs_of_laid {W : World} (h : laidMetH Tryd.prog [("loop.example/g00748/impl.registry", Rows.laid_loop_example_g00748_impl_registry), ("loop.example/g00748/impl.codeWords", Rows.laid_loop_example_g00748_impl_codeWords)] W) : TabM W ∧ TabWords W :=
  have h2 := laid_split (by kernel_rfl) h
  ⟨tabM_of_laid h2.1, tab_of_laid h2.2⟩
theorem tabs_of_laid' {W : World} (h : laidMetH Tryd.prog [("loop.example/g00748/impl.codeWords", Rows.laid_loop_example_g00748_impl_codeWords), ("loop.example/g00748/impl.registry", Rows.laid_loop_example_g00748_impl_registry)] W) : TabM W ∧ TabWords W :=
  have h2 := laid_split (by kernel_rfl) h
  ⟨tabM_of_laid h2.2, tab_of_laid h2.1⟩

theorem two_readable : ∀ n ∈ ["loop.example/g00748/impl.registry", "loop.example/g00748/impl.codeWords"], ∀ g t, Tryd.prog.globalNamed n = some g → (Tryd.prog.globals[g]?).map (·.type) = some t → Tryd.prog.readableRec t = true ∧ t < Tryd.prog.types.size := by
  intro n hn g t hg ht
  simp only [List.mem_cons, List.not_mem_nil, or_false] at hn
  rcases hn with rfl | rfl
  · obtain rfl := Option.some.inj (gReg.symm.trans hg)
    obtain rfl := Option.some.inj (tReg.symm.trans ht)
    exact ⟨by kernel_rfl, of_decide_eq_true (by kernel_rfl)⟩
  · obtain rfl := Option.some.inj (gWords.symm.trans hg)
    obtain rfl := Option.some.inj (tWords.symm.trans ht)
    exact ⟨by kernel_rfl, of_decide_eq_true (by kernel_rfl)⟩

end Go.Proofs.YtdckjhobikfggaaDoor

namespace Go.Proofs.YtdckjhobikfggaaDoor.fnExactCloseDecoder
open Go.RowKit

set_option maxHeartbeats 1000000 in
set_option maxRecDepth 100000 in
theorem eqDe (d : De) (w : World) : Calls Tryd.prog 28 #[deV d, deV d] w fun e w' => e = .returned (.bool true) ∧ Below w.heap.size w w' := by
  have HQ := Lib.hid (fun w => laws_eqState_true d.x w)
  have D0 : Hid (DeAt ((w.alloc (.cells #[.int .i64 d.n, .int .i64 d.a, .int .i64 d.c, .int .i64 d.x.g0, .int .i64 d.x.g1, .int .i64 d.x.g2, .int .i64 d.x.g3, .int .i64 d.x.l, .int .i64 d.x.s, .int .i64 d.x.d, .string d.r, .bool d.b, .bool d.o] 47)).alloc (.cells #[.int .i64 d.n, .int .i64 d.a, .int .i64 d.c, .int .i64 d.x.g0, .int .i64 d.x.g1, .int .i64 d.x.g2, .int .i64 d.x.g3, .int .i64 d.x.l, .int .i64 d.x.s, .int .i64 d.x.d, .string d.r, .bool d.b, .bool d.o] 47)) w.heap.size d) := Lib.hid (heap_alloc2_old _ _ _)
  have R0 : Hid (DeAt ((w.alloc (.cells #[.int .i64 d.n, .int .i64 d.a, .int .i64 d.c, .int .i64 d.x.g0, .int .i64 d.x.g1, .int .i64 d.x.g2, .int .i64 d.x.g3, .int .i64 d.x.l, .int .i64 d.x.s, .int .i64 d.x.d, .string d.r, .bool d.b, .bool d.o] 47)).alloc (.cells #[.int .i64 d.n, .int .i64 d.a, .int .i64 d.c, .int .i64 d.x.g0, .int .i64 d.x.g1, .int .i64 d.x.g2, .int .i64 d.x.g3, .int .i64 d.x.l, .int .i64 d.x.s, .int .i64 d.x.d, .string d.r, .bool d.b, .bool d.o] 47)) (w.heap.size + 1) d) := Lib.hid (heap_alloc2_new _ _ _)
  have B0 := Lib.hid (below_two w (.cells #[.int .i64 d.n, .int .i64 d.a, .int .i64 d.c, .int .i64 d.x.g0, .int .i64 d.x.g1, .int .i64 d.x.g2, .int .i64 d.x.g3, .int .i64 d.x.l, .int .i64 d.x.s, .int .i64 d.x.d, .string d.r, .bool d.b, .bool d.o] 47) (.cells #[.int .i64 d.n, .int .i64 d.a, .int .i64 d.c, .int .i64 d.x.g0, .int .i64 d.x.g1, .int .i64 d.x.g2, .int .i64 d.x.g3, .int .i64 d.x.l, .int .i64 d.x.s, .int .i64 d.x.d, .string d.r, .bool d.b, .bool d.o] 47))
  unfold stV at HQ
  unfold deV
  go_enter Tryd.func28, Tryd.ntmps28
  go_wp2_with fail
  refine (HQ.out _).mono ?_
  generalize (w.alloc (.cells #[.int .i64 d.n, .int .i64 d.a, .int .i64 d.c, .int .i64 d.x.g0, .int .i64 d.x.g1, .int .i64 d.x.g2, .int .i64 d.x.g3, .int .i64 d.x.l, .int .i64 d.x.s, .int .i64 d.x.d, .string d.r, .bool d.b, .bool d.o] 47)).alloc (.cells #[.int .i64 d.n, .int .i64 d.a, .int .i64 d.c, .int .i64 d.x.g0, .int .i64 d.x.g1, .int .i64 d.x.g2, .int .i64 d.x.g3, .int .i64 d.x.l, .int .i64 d.x.s, .int .i64 d.x.d, .string d.r, .bool d.b, .bool d.o] 47) = W at *
  rintro e w1 ⟨rfl, b1⟩
  have ⟨_, _, _, _, _, _, _, _, _, _, r10, r11, r12⟩ := (D0.out.keep b1).cells
  have ⟨_, _, _, _, _, _, _, _, _, _, z10, z11, z12⟩ := (R0.out.keep b1).cells
  have B1 := Lib.hid (B0.out.trans (b1.mono B0.out.size))
  clear b1
  go_wp2
  go_ret
  exact ⟨rfl, B1.out⟩

set_option maxHeartbeats 1000000 in
set_option maxRecDepth 100000 in
theorem walk (d : De) (w : World) (hx : Wide64 d.x) (hr : d.r.size ≤ maxLen) (ht : TabM w ∧ TabWords w) : Calls Tryd.prog 5 #[deV d] w fun e w' => e = .returned (.bool true) ∧ Below w.heap.size w w' := by
  have HT := Lib.hid ht.1
  have HW := Lib.hid ht.2
  have B0 := Lib.hid (below_one w (.cells #[.int .i64 d.n, .int .i64 d.a, .int .i64 d.c, .int .i64 d.x.g0, .int .i64 d.x.g1, .int .i64 d.x.g2, .int .i64 d.x.g3, .int .i64 d.x.l, .int .i64 d.x.s, .int .i64 d.x.d, .string d.r, .bool d.b, .bool d.o] 43))
  have L0 := Lib.hid (LDe.new w d)
  have HZ := Lib.hid (fun w => laws_szDecoder d w hr)
  have HC := Lib.hid (fun w => laws_toDecoder d w)
  unfold DeDone at HC
  clear ht
  by_cases h : d.r.size ≤ 1048576
  · rw [if_pos h] at HZ
    have h2 : ¬ (1048576 : Int) - (d.r.size : Int) < 0 := by omega
    have HS := Lib.hid (fun w => spec_CloseDecoder d w h)
    have HI := Lib.hid (fun w ht hw => impl_CloseDecoder d w ht hw hx h)
    have HQ := Lib.hid (fun w => eqDe (clP d) w)
    clear hx hr h
    unfold CdDone at HS HI
    generalize clP d = y at *
    generalize cdC d = cc at *
    unfold deV at HZ HC HS HI HQ ⊢
    go_enter Tryd.func5, Tryd.ntmps5
    go_wp2_with fail
    refine (HZ.out _).mono ?_
    generalize w.alloc (.cells #[.int .i64 d.n, .int .i64 d.a, .int .i64 d.c, .int .i64 d.x.g0, .int .i64 d.x.g1, .int .i64 d.x.g2, .int .i64 d.x.g3, .int .i64 d.x.l, .int .i64 d.x.s, .int .i64 d.x.d, .string d.r, .bool d.b, .bool d.o] 43) = w0 at *
    rintro e w1 ⟨rfl, b1⟩
    have B1 := Lib.hid (B0.out.trans (b1.mono B0.out.size))
    have L1 := Lib.hid (L0.out.keep b1)
    have ⟨l0, l1, l2, l3, l4, l5, l6, l7, l8, l9, l10, l11, l12⟩ := L1.out.cells
    clear b1
    go_wp2_with fail
    refine (HC.out _).mono ?_
    clear l0 l1 l2 l3 l4 l5 l6 l7 l8 l9 l10 l11 l12
    rintro e w2 ⟨rfl, b2⟩
    have B2 := Lib.hid (B1.out.trans (b2.mono B1.out.size))
    have L2 := Lib.hid (L1.out.keep b2)
    clear b2
    go_wp2_with fail
    refine (HS.out _).mono ?_
    rintro e w3 ⟨rfl, b3⟩
    have V3 := Lib.hid (DeAt.new w3 y)
    have B3 := Lib.hid ((B2.out.trans (b3.mono B2.out.size)).alloc (B2.out.trans (b3.mono B2.out.size)).size (.cells #[.int .i64 y.n, .int .i64 y.a, .int .i64 y.c, .int .i64 y.x.g0, .int .i64 y.x.g1, .int .i64 y.x.g2, .int .i64 y.x.g3, .int .i64 y.x.l, .int .i64 y.x.s, .int .i64 y.x.d, .string y.r, .bool y.b, .bool y.o] 47))
    have L3 := Lib.hid ((L2.out.keep b3).keep (below_one w3 (.cells #[.int .i64 y.n, .int .i64 y.a, .int .i64 y.c, .int .i64 y.x.g0, .int .i64 y.x.g1, .int .i64 y.x.g2, .int .i64 y.x.g3, .int .i64 y.x.l, .int .i64 y.x.s, .int .i64 y.x.d, .string y.r, .bool y.b, .bool y.o] 47)))
    have ⟨l0, l1, l2, l3, l4, l5, l6, l7, l8, l9, l10, l11, l12⟩ := L3.out.cells
    clear b3
    go_wp2_with fail
    refine (HC.out _).mono ?_
    clear l0 l1 l2 l3 l4 l5 l6 l7 l8 l9 l10 l11 l12
    generalize w3.alloc (.cells #[.int .i64 y.n, .int .i64 y.a, .int .i64 y.c, .int .i64 y.x.g0, .int .i64 y.x.g1, .int .i64 y.x.g2, .int .i64 y.x.g3, .int .i64 y.x.l, .int .i64 y.x.s, .int .i64 y.x.d, .string y.r, .bool y.b, .bool y.o] 47) = W3 at *
    rintro e w4 ⟨rfl, b4⟩
    have V4 := Lib.hid (V3.out.keep b4)
    have B4 := Lib.hid (B3.out.trans (b4.mono B3.out.size))
    clear b4
    go_wp2_with fail
    refine (HI.out _ (HT.out.keep B4.out) (HW.out.keep B4.out)).mono ?_
    rintro e w5 ⟨rfl, b5⟩
    have V5 := Lib.hid ((V4.out.keep b5).keep (below_one w5 (.cells #[.int .i64 y.n, .int .i64 y.a, .int .i64 y.c, .int .i64 y.x.g0, .int .i64 y.x.g1, .int .i64 y.x.g2, .int .i64 y.x.g3, .int .i64 y.x.l, .int .i64 y.x.s, .int .i64 y.x.d, .string y.r, .bool y.b, .bool y.o] 47)))
    have V6 := Lib.hid (DeAt.new w5 y)
    have B5 := Lib.hid ((B4.out.trans (b5.mono B4.out.size)).alloc (B4.out.trans (b5.mono B4.out.size)).size (.cells #[.int .i64 y.n, .int .i64 y.a, .int .i64 y.c, .int .i64 y.x.g0, .int .i64 y.x.g1, .int .i64 y.x.g2, .int .i64 y.x.g3, .int .i64 y.x.l, .int .i64 y.x.s, .int .i64 y.x.d, .string y.r, .bool y.b, .bool y.o] 47))
    clear b5
    have ⟨y0, y1, y2, y3, y4, y5, y6, y7, y8, y9, y10, y11, y12⟩ := V5.out.cells
    have ⟨z0, z1, z2, z3, z4, z5, z6, z7, z8, z9, z10, z11, z12⟩ := V6.out.cells
    go_wp2_with fail
    refine (HQ.out _).mono ?_
    clear y0 y1 y2 y3 y4 y5 y6 y7 y8 y9 y10 y11 y12 z0 z1 z2 z3 z4 z5 z6 z7 z8 z9 z10 z11 z12
    generalize w5.alloc (.cells #[.int .i64 y.n, .int .i64 y.a, .int .i64 y.c, .int .i64 y.x.g0, .int .i64 y.x.g1, .int .i64 y.x.g2, .int .i64 y.x.g3, .int .i64 y.x.l, .int .i64 y.x.s, .int .i64 y.x.d, .string y.r, .bool y.b, .bool y.o] 47) = W5 at *
    rintro e w6 ⟨rfl, b6⟩
    have B6 := B5.out.trans (b6.mono B5.out.size)
    go_wp2
    go_ret
    exact ⟨rfl, B6⟩
  · rw [if_neg h] at HZ
    clear hx hr h
    unfold deV at HZ HC ⊢
    go_enter Tryd.func5, Tryd.ntmps5
    go_wp2_with fail
    refine (HZ.out _).mono ?_
    rintro e w1 ⟨rfl, b1⟩
    go_wp2
    go_ret
    exact ⟨rfl, B0.out.trans (b1.mono B0.out.size)⟩

theorem table {W : World} (h : laidMetH Tryd.prog Rows.fnExactCloseDecoderRow.laid W) : TabM W ∧ TabWords W := tabs_of_laid' h
theorem readable : ∀ n ∈ Rows.fnExactCloseDecoderSpec.vars, ∀ g t, Tryd.prog.globalNamed n = some g → (Tryd.prog.globals[g]?).map (·.type) = some t → Tryd.prog.readableRec t = true ∧ t < Tryd.prog.types.size := two_readable

end Go.Proofs.YtdckjhobikfggaaDoor.fnExactCloseDecoder

namespace Go.Proofs.YtdckjhobikfggaaDoor.fnExactCloseDecoder
open Go.ChangeShapes Go.WideShapes Go.ChangeAt Go.RowKit
open Go.ChangeMaps (open_string shut_string)
set_option linter.unusedVariables false

set_option maxRecDepth 100000 in
theorem contract (H : Type) (enc : TypeId × Value → H) (W : World) (base : Nat) (args : Array Value) (ds gs : List (DataW H)) (before : List MemPlace)
    (hval : ∀ (j : Nat) t v, Tryd.f5.params[j]? = some t → args[j]? = some v → Value.okWide Tryd.prog W .any base t v)
    (hW : DataW.Whole enc Tryd.prog Tryd.f5.params.toList Rows.fnExactCloseDecoderSpec.vars false W args.toList ds gs before) (hL : laidMetH Tryd.prog Rows.fnExactCloseDecoderRow.laid W) :
    Calls Tryd.prog 5 args W fun e W' => ∃ v, e = .returned v ∧ Rows.fnExactCloseDecoderSpec.post enc Tryd.prog Tryd.f5 false true false false W args v W' := by
  have HT := Lib.hid (table hL)
  clear hL
  have hW' := hW
  obtain ⟨p, q, hA0, hV0, rfl, hfz, hnd⟩ := hW
  have hV : DataW.TrodVars enc Tryd.prog W (fun _ => true) ["loop.example/g00748/impl.registry", "loop.example/g00748/impl.codeWords"] gs q := hV0
  clear hV0
  have hA : DataW.TrodAll enc Tryd.prog W 0 (fun _ => true) true Tryd.f5.params.toList args.toList ds p := hA0
  rw [Tryd.params5] at hA hval
  obtain ⟨v0, vs0, d0, ds0, p0, q0, hargs, rfl, rfl, h0, r0⟩ := trodAll_cons hA
  obtain ⟨rfl, rfl, rfl⟩ := trodAll_nil r0
  obtain rfl : args = #[v0] := by cases args; simp_all
  have hgs : ∃ d d', gs = [d, d'] := by obtain ⟨_, _, _, _, d, _, _, _, _, _, d', _, hgs, _⟩ := trodVars_two hV; exact ⟨d, d', hgs⟩
  obtain ⟨g1, g2, rfl⟩ := hgs
  have k0 := h0
  have lt0 : ∀ x ∈ p0, x.block < W.heap.size := by obtain ⟨m, hm⟩ := k0; exact DataW.trod_lt m _ _ _ hm
  obtain ⟨a0, rfl, u0, s0⟩ := open_decoder (hval 0 43 v0 rfl rfl) h0
  clear hA0
  refine (walk a0 W u0 s0 HT.out).mono fun e W' ⟨he, bel⟩ => ?_
  subst he
  exact ⟨_, rfl, _, _, _, [], _, q, hW', trodAll_mk1 (shut_bool Tryd.underlying4 _), (trodAll_cons_mk (Below.trod laidOut (by kernel_rfl) (of_decide_eq_true (by kernel_rfl)) k0 bel lt0) trodAll_mk0), trodVars_below laidOut bel readable hV, bel.frame _, fun h => by cases h⟩

theorem laid_met (os : Os) : laidMetH Tryd.prog Rows.fnExactCloseDecoderRow.laid ((World.doorLaid Tryd.prog 400 os).forCall (fun _ _ => 0) ⟨#[], #[.agg #[.int .i64 0, .int .i64 0, .int .i64 0, .int .i64 0, .int .i64 0, .int .i64 0, .int .i64 0, .int .i64 0, .int .i64 0, .int .i64 0, .string ByteArray.empty, .bool false, .bool false]], []⟩).memory :=
  laidMetH_of_parts3 (fuel := 8) (laidMet_of_run' 8 (by kernel_rfl) (by kernel_rfl)) (by kernel_rfl) (by kernel_rfl)
theorem reads (os : Os) {H : Type} (enc : TypeId × Value → H) : ∃ x, DataW.whole enc Tryd.prog ((World.doorLaid Tryd.prog 400 os).forCall (fun _ _ => 0) ⟨#[], #[.agg #[.int .i64 0, .int .i64 0, .int .i64 0, .int .i64 0, .int .i64 0, .int .i64 0, .int .i64 0, .int .i64 0, .int .i64 0, .int .i64 0, .string ByteArray.empty, .bool false, .bool false]], []⟩).memory Tryd.f5.params.toList Rows.fnExactCloseDecoderSpec.vars false #[.agg #[.int .i64 0, .int .i64 0, .int .i64 0, .int .i64 0, .int .i64 0, .int .i64 0, .int .i64 0, .int .i64 0, .int .i64 0, .int .i64 0, .string ByteArray.empty, .bool false, .bool false]].toList 8 = some x :=
  Option.isSome_iff_exists.1 (by kernel_rfl)

set_option maxRecDepth 100000 in
theorem lifted (os : Os) (started : os.Started) (H : Type) (enc : TypeId × Value → H) (F : Stop.Interp) :
    ReturnsInHanded {} Tryd.checked os 5 .any ((OpenSpec.ofChange Rows.fnExactCloseDecoderSpec).preRow enc Tryd.prog Tryd.f5 Rows.fnExactCloseDecoderRow.domain false Rows.fnExactCloseDecoderRow.laid) (((OpenSpec.ofChange Rows.fnExactCloseDecoderSpec).at F).post enc Tryd.prog Tryd.f5 false true false false) := by
  obtain ⟨x, hx⟩ := reads os enc
  refine returnsInHanded_of_row (C := Tryd.checked) (s := OpenSpec.ofChange Rows.fnExactCloseDecoderSpec) own started (by kernel_rfl) Tryd.func5
    (witness_row_atRef (enc := enc) (C := Tryd.checked) false (World.doorLaid Tryd.prog 400 os) #[.agg #[.int .i64 0, .int .i64 0, .int .i64 0, .int .i64 0, .int .i64 0, .int .i64 0, .int .i64 0, .int .i64 0, .int .i64 0, .int .i64 0, .string ByteArray.empty, .bool false, .bool false]] rfl (by kernel_rfl) (by kernel_rfl) (by kernel_rfl)
      (OpenSpec.preRow_of_cond 8 hx rfl (fun k hk => by cases hk) (by kernel_rfl) (laid_met os))) ?_
  intro W base args ds gs before hval hW _ _ _ hL _ _
  exact contract H enc W base args ds gs before hval hW hL

theorem said : Rows.FnExactCloseDecoderSaid :=
  OpenClaim.holds_of_cond 5 Tryd.f5 rfl rfl rfl rfl rfl rfl rfl ⟨rfl, rfl, rfl, rfl, rfl⟩ rfl rfl rfl rfl rfl (by kernel_rfl) Tryd.func5 (by kernel_rfl)
    (of_decide_eq_true (by kernel_rfl)) (by unfold Func.isWrapper; first | (rw [if_pos (by decide +kernel)]; kernel_rfl) | (rw [if_neg (by decide +kernel)]; exact ⟨rfl, rfl⟩))
    (fun os started H enc _ F => by rw [OpenClaim.pre_eq_preRow]; exact lifted os started H enc F)

theorem plain (f : FuncId) (fn : Func) (hf : Tryd.pinned.checked.prog.funcNamed "loop.example/g00748/laws.FnExactCloseDecoder" = some f) (hfn : Tryd.pinned.checked.prog.funcs[f]? = some fn) :
    Rows.fnExactCloseDecoderCard.stood.looks = Tryd.pinned.checked.prog.looks [] ∧ ∀ (j : Nat) t, fn.params[j]? = some t → Tryd.pinned.checked.prog.wantsStandIn t = false := by
  obtain rfl : f = 5 := Option.some.inj ((show Tryd.prog.funcNamed "loop.example/g00748/laws.FnExactCloseDecoder" = some 5 by kernel_rfl).symm.trans hf) |>.symm
  obtain rfl : fn = Tryd.f5 := (Option.some.inj (Tryd.func5.symm.trans hfn)).symm
  refine ⟨by kernel_rfl, fun j t ht => ?_⟩
  rw [Tryd.params5] at ht
  have hm := Array.mem_of_getElem? ht
  simp at hm
  subst hm
  exact (show Tryd.prog.wantsStandIn 43 = false by kernel_rfl)

theorem card : Rows.FnExactCloseDecoderCardSaid :=
  Claim7.holds_tied_plain_at .later [] _ _ _ _ said (fun _ h => by cases h) (by kernel_rfl) (fun _ h => by cases h) fnExactCloseDecoder_row_tie rfl ⟨rfl, rfl⟩ (by kernel_rfl) rfl plain (by kernel_rfl)
end Go.Proofs.YtdckjhobikfggaaDoor.fnExactCloseDecoder

namespace Go.Proofs.YtdckjhobikfggaaDoor
theorem fnExactCloseDecoder_holds : Rows.FnExactCloseDecoderCardSaid := fnExactCloseDecoder.card
end Go.Proofs.YtdckjhobikfggaaDoor
