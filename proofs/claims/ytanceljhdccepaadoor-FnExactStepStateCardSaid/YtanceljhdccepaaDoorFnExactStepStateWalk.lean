/- The walk of 'FnExactStepState': the law returns true at every argument, where the package's table reads as its text lays it. -/
import Derived.Test.YtanceljhdccepaaDoorStL
import Derived.Test.YtanceljhdccepaaDoorMaLaid
import Derived.Test.YtanceljhdccepaaDoorMaI
import Derived.Deep.RegionWith
import Derived.Deep.DeepCutAuto
namespace Go.Proofs.YtanceljhdccepaaDoor.fnExactStepState
open Go.RowKit

/-- A token of the laws in a block. -/
def LTk (w : World) (g : Nat) (t : Tok) : Prop := w.heap[g]? = some (.cells #[.int .i64 t.k, .int .i64 t.a, .int .i64 t.b, .int .i64 t.c, .int .i64 t.p, .int .i64 t.n] 63)
theorem LTk.lt {w : World} {g : Nat} {t : Tok} (h : LTk w g t) : g < w.heap.size := (Array.getElem?_eq_some_iff.1 h).1
theorem LTk.keep {w w' : World} {g : Nat} {t : Tok} (h : LTk w g t) (b : Below w.heap.size w w') : LTk w' g t := (b.block g h.lt).trans h
theorem LTk.cells {w : World} {g : Nat} {t : Tok} (h : LTk w g t) : w.cell? ⟨g, 0, none⟩ = some (.int .i64 t.k) ∧ w.cell? ⟨g, 1, none⟩ = some (.int .i64 t.a) ∧ w.cell? ⟨g, 2, none⟩ = some (.int .i64 t.b) ∧ w.cell? ⟨g, 3, none⟩ = some (.int .i64 t.c) ∧ w.cell? ⟨g, 4, none⟩ = some (.int .i64 t.p) ∧ w.cell? ⟨g, 5, none⟩ = some (.int .i64 t.n) := by
  refine ⟨?_, ?_, ?_, ?_, ?_, ?_⟩ <;> (rw [cell_of_row _ _ _ _ _ _ h]; rfl)

/-- The laws' arguments lie as they came. -/
def Iv (w0 W : World) (n : Nat) (x : St) (t : Tok) : Prop := LSt W n x ∧ LTk W (n + 1) t ∧ Below w0.heap.size w0 W
theorem Iv.keep {w0 W W' : World} {n : Nat} {x : St} {t : Tok} (h : Iv w0 W n x t) (b : Below W.heap.size W W') : Iv w0 W' n x t := ⟨h.1.keep b, h.2.1.keep b, h.2.2.trans (b.mono h.2.2.size)⟩
theorem Iv.drew {w0 W : World} {n : Nat} {x : St} {t : Tok} (h : Iv w0 W n x t) : Iv w0 W.drew n x t := h.keep (below_drewN (Below.refl _ _) 1)
theorem Iv.alloc {w0 W : World} {n : Nat} {x : St} {t : Tok} (h : Iv w0 W n x t) (o : Obj) : Iv w0 (W.alloc o) n x t := h.keep (below_one _ _)
theorem Iv.tab {w0 W : World} {n : Nat} {x : St} {t : Tok} (h : Iv w0 W n x t) (ht : TabM w0) : TabM W := ht.keep h.2.2
/-- What a call of StepState leaves: the state in a block of its own, three values. -/
def CutR (w0 : World) (n : Nat) (x : St) (t : Tok) (q : Stp) (tr : Int) (tb : Bool) (v5 v6 v7 v8 : Value) (wx : World) : Prop := ∃ g, v5 = .pointer (some ⟨g, 0, none⟩) ∧ v6 = .int .i64 tr ∧ v7 = .bool tb ∧ v8 = .int .i64 q.c ∧ StAt wx g q.y ∧ Iv w0 wx n x t

set_option maxHeartbeats 16000000 in
set_option maxRecDepth 100000 in
theorem walkS (x : St) (t : Tok) (w : World) (hd : Wide64 x) (ht : TabM w) : Calls Tryd.prog 8 #[stV x, tokV t] w fun e w' => e = .returned (.bool true) ∧ Below w.heap.size w w' := by
  have B0 := Lib.hid (below_two w (.cells #[.int .i64 x.g0, .int .i64 x.g1, .int .i64 x.g2, .int .i64 x.g3, .int .i64 x.l, .int .i64 x.s, .int .i64 x.d] 57) (.cells #[.int .i64 t.k, .int .i64 t.a, .int .i64 t.b, .int .i64 t.c, .int .i64 t.p, .int .i64 t.n] 63))
  have HT0 := Lib.hid (ht.keep B0.out)
  have HL0 : Hid (LSt ((w.alloc (.cells #[.int .i64 x.g0, .int .i64 x.g1, .int .i64 x.g2, .int .i64 x.g3, .int .i64 x.l, .int .i64 x.s, .int .i64 x.d] 57)).alloc (.cells #[.int .i64 t.k, .int .i64 t.a, .int .i64 t.b, .int .i64 t.c, .int .i64 t.p, .int .i64 t.n] 63)) w.heap.size x) := Lib.hid (heap_alloc2_old _ _ _)
  have HK0 : Hid (LTk ((w.alloc (.cells #[.int .i64 x.g0, .int .i64 x.g1, .int .i64 x.g2, .int .i64 x.g3, .int .i64 x.l, .int .i64 x.s, .int .i64 x.d] 57)).alloc (.cells #[.int .i64 t.k, .int .i64 t.a, .int .i64 t.b, .int .i64 t.c, .int .i64 t.p, .int .i64 t.n] 63)) (w.heap.size + 1) t) := Lib.hid (heap_alloc2_new _ _ _)
  have HC := Lib.hid (fun w => laws_toState x w)
  have HD := Lib.hid (fun w => laws_toToken t w)
  have HS := Lib.hid (fun w => spec_StepState x t w)
  have HI := Lib.hid (fun w ht => impl_StepState x t w ht hd)
  clear ht
  unfold StDone at HC
  unfold TokDone at HD
  unfold SsDone at HS HI
  generalize ssP x t = q at *
  have HV : Hid (toldV q = .tuple #[stV q.y, .int .i64 (if 0 ≤ q.r then q.r else 0), .bool (decide (0 ≤ q.r)), .int .i64 q.c]) := Lib.hid rfl
  rw [HV.out] at HS HI
  generalize (if 0 ≤ q.r then q.r else 0) = tr at *
  generalize decide (0 ≤ q.r) = tb at *
  have HQ := Lib.hid (fun w => laws_eqState_true q.y w)
  unfold stV at HC HS HI HQ ⊢
  unfold tokV at HD HS HI ⊢
  clear hd HV
  have h0 : Iv ((w.alloc (.cells #[.int .i64 x.g0, .int .i64 x.g1, .int .i64 x.g2, .int .i64 x.g3, .int .i64 x.l, .int .i64 x.s, .int .i64 x.d] 57)).alloc (.cells #[.int .i64 t.k, .int .i64 t.a, .int .i64 t.b, .int .i64 t.c, .int .i64 t.p, .int .i64 t.n] 63)) ((w.alloc (.cells #[.int .i64 x.g0, .int .i64 x.g1, .int .i64 x.g2, .int .i64 x.g3, .int .i64 x.l, .int .i64 x.s, .int .i64 x.d] 57)).alloc (.cells #[.int .i64 t.k, .int .i64 t.a, .int .i64 t.b, .int .i64 t.c, .int .i64 t.p, .int .i64 t.n] 63)) w.heap.size x t := ⟨HL0.out, HK0.out, Below.refl _ _⟩
  have hI := h0
  clear HL0 HK0
  go_enter Tryd.func8, Tryd.ntmps8
  go_upto_region 1 with fail
  generalize (w.alloc (.cells #[.int .i64 x.g0, .int .i64 x.g1, .int .i64 x.g2, .int .i64 x.g3, .int .i64 x.l, .int .i64 x.s, .int .i64 x.d] 57)).alloc (.cells #[.int .i64 t.k, .int .i64 t.a, .int .i64 t.b, .int .i64 t.c, .int .i64 t.p, .int .i64 t.n] 63) = w0 at *
  go_cut [5, 6, 7, 8] (fun v5 v6 v7 v8 wx => CutR w0 w.heap.size x t q tr tb v5 v6 v7 v8 wx)
  case first =>
    have ⟨y0, y1, y2, y3, y4, y5, y6⟩ := hI.1.cells
    have ⟨t0, t1, t2, t3, t4, t5⟩ := hI.2.1.cells
    have ⟨Y0, Y1, Y2, Y3, Y4, Y5, Y6⟩ := (hI.alloc (.cells #[.int .i64 0, .int .i64 0, .int .i64 0, .int .i64 0, .int .i64 0, .int .i64 0, .int .i64 0] 24)).1.cells
    have ⟨T0, T1, T2, T3, T4, T5⟩ := (hI.alloc (.cells #[.int .i64 0, .int .i64 0, .int .i64 0, .int .i64 0, .int .i64 0, .int .i64 0, .int .i64 0] 24)).2.1.cells
    go_region_with ((first | (go_at_call 34; clear y0 y1 y2 y3 y4 y5 y6 Y0 Y1 Y2 Y3 Y4 Y5 Y6 t0 t1 t2 t3 t4 t5 T0 T1 T2 T3 T4 T5; refine (HC.out _).mono ?_; rintro e w' ⟨rfl, b'⟩; (first | (have hg := hI.2.2.size; have hS := (stSlot0 _).keep b'; have ⟨r0, r1, r2, r3, r4, r5, r6⟩ := hS.cells; have ⟨z0, z1, z2, z3, z4, z5, z6⟩ := hS.thaw; have hl := hS.lt; simp only [zeroSt] at r0 r1 r2 r3 r4 r5 r6) | (have hg := hI.2.2.size; have hS := (StAt.drew (stSlot0 _)).keep b'; have ⟨r0, r1, r2, r3, r4, r5, r6⟩ := hS.cells; have ⟨z0, z1, z2, z3, z4, z5, z6⟩ := hS.thaw; have hl := hS.lt; simp only [zeroSt] at r0 r1 r2 r3 r4 r5 r6) | (have hS := hS.keep b'; clear r0 r1 r2 r3 r4 r5 r6 z0 z1 z2 z3 z4 z5 z6 hl; have ⟨r0, r1, r2, r3, r4, r5, r6⟩ := hS.cells; have ⟨z0, z1, z2, z3, z4, z5, z6⟩ := hS.thaw; have hl := hS.lt; simp only [zeroSt] at r0 r1 r2 r3 r4 r5 r6) | skip); have hI := Iv.keep (by first | exact hI | exact hI.drew | exact (hI.alloc _) | exact (hI.alloc _).drew | exact hI.drew.alloc _) b'; have ⟨t0, t1, t2, t3, t4, t5⟩ := hI.2.1.cells; have ⟨T0, T1, T2, T3, T4, T5⟩ := (hI.alloc (.cells #[.int .i64 0, .int .i64 0, .int .i64 0, .int .i64 0, .int .i64 0, .int .i64 0, .int .i64 0] 24)).2.1.cells) | (go_at_call 36; clear t0 t1 t2 t3 t4 t5 T0 T1 T2 T3 T4 T5; refine (HD.out _).mono ?_; rintro e w' ⟨rfl, b'⟩; (first | (have hg := hI.2.2.size; have hS := (stSlot0 _).keep b'; have ⟨r0, r1, r2, r3, r4, r5, r6⟩ := hS.cells; have ⟨z0, z1, z2, z3, z4, z5, z6⟩ := hS.thaw; have hl := hS.lt; simp only [zeroSt] at r0 r1 r2 r3 r4 r5 r6) | (have hg := hI.2.2.size; have hS := (StAt.drew (stSlot0 _)).keep b'; have ⟨r0, r1, r2, r3, r4, r5, r6⟩ := hS.cells; have ⟨z0, z1, z2, z3, z4, z5, z6⟩ := hS.thaw; have hl := hS.lt; simp only [zeroSt] at r0 r1 r2 r3 r4 r5 r6) | (have hS := hS.keep b'; clear r0 r1 r2 r3 r4 r5 r6 z0 z1 z2 z3 z4 z5 z6 hl; have ⟨r0, r1, r2, r3, r4, r5, r6⟩ := hS.cells; have ⟨z0, z1, z2, z3, z4, z5, z6⟩ := hS.thaw; have hl := hS.lt; simp only [zeroSt] at r0 r1 r2 r3 r4 r5 r6) | skip); have hI := Iv.keep (by first | exact hI | exact hI.drew | exact (hI.alloc _) | exact (hI.alloc _).drew | exact hI.drew.alloc _) b') | (go_at_call 19; refine (HS.out _).mono ?_; rintro e w' ⟨rfl, b'⟩; (first | (have hg := hI.2.2.size; have hS := (stSlot0 _).keep b'; have ⟨r0, r1, r2, r3, r4, r5, r6⟩ := hS.cells; have ⟨z0, z1, z2, z3, z4, z5, z6⟩ := hS.thaw; have hl := hS.lt; simp only [zeroSt] at r0 r1 r2 r3 r4 r5 r6) | (have hg := hI.2.2.size; have hS := (StAt.drew (stSlot0 _)).keep b'; have ⟨r0, r1, r2, r3, r4, r5, r6⟩ := hS.cells; have ⟨z0, z1, z2, z3, z4, z5, z6⟩ := hS.thaw; have hl := hS.lt; simp only [zeroSt] at r0 r1 r2 r3 r4 r5 r6) | (have hS := hS.keep b'; clear r0 r1 r2 r3 r4 r5 r6 z0 z1 z2 z3 z4 z5 z6 hl; have ⟨r0, r1, r2, r3, r4, r5, r6⟩ := hS.cells; have ⟨z0, z1, z2, z3, z4, z5, z6⟩ := hS.thaw; have hl := hS.lt; simp only [zeroSt] at r0 r1 r2 r3 r4 r5 r6) | skip); have hI := Iv.keep (by first | exact hI | exact hI.drew | exact (hI.alloc _) | exact (hI.alloc _).drew | exact hI.drew.alloc _) b')))
    all_goals (go_wp2_with fail; go_meet; first | exact ⟨_, rfl, rfl, rfl, rfl, hS.put q.y, h0.keep (below_putSt hI.2.2 hg q.y)⟩ | exact ⟨_, rfl, rfl, rfl, rfl, StAt.new _ q.y, hI.alloc _⟩)
  case rest =>
  obtain ⟨g1, rfl, rfl, rfl, rfl, V1, hI1⟩ := hcut
  have HT1 := Lib.hid (hI1.tab HT0.out)
  have B1 := Lib.hid (B0.out.trans (hI1.2.2.mono B0.out.size))
  clear hI h0 HS
  have h0 : Iv wc wc w.heap.size x t := ⟨hI1.1, hI1.2.1, Below.refl _ _⟩
  have hI := h0
  have HV1 := Lib.hid V1
  clear hI1 V1 B0 HT0
  go_upto_region 2 with fail
  go_cut [9, 10, 11, 12] (fun v5 v6 v7 v8 wx => CutR wc w.heap.size x t q tr tb v5 v6 v7 v8 wx)
  case first =>
    have ⟨y0, y1, y2, y3, y4, y5, y6⟩ := hI.1.cells
    have ⟨t0, t1, t2, t3, t4, t5⟩ := hI.2.1.cells
    have ⟨Y0, Y1, Y2, Y3, Y4, Y5, Y6⟩ := (hI.alloc (.cells #[.int .i64 0, .int .i64 0, .int .i64 0, .int .i64 0, .int .i64 0, .int .i64 0, .int .i64 0] 24)).1.cells
    have ⟨T0, T1, T2, T3, T4, T5⟩ := (hI.alloc (.cells #[.int .i64 0, .int .i64 0, .int .i64 0, .int .i64 0, .int .i64 0, .int .i64 0, .int .i64 0] 24)).2.1.cells
    go_region_with ((first | (go_at_call 34; clear y0 y1 y2 y3 y4 y5 y6 Y0 Y1 Y2 Y3 Y4 Y5 Y6 t0 t1 t2 t3 t4 t5 T0 T1 T2 T3 T4 T5; refine (HC.out _).mono ?_; rintro e w' ⟨rfl, b'⟩; (first | (have hg := hI.2.2.size; have hS := (stSlot0 _).keep b'; have ⟨r0, r1, r2, r3, r4, r5, r6⟩ := hS.cells; have ⟨z0, z1, z2, z3, z4, z5, z6⟩ := hS.thaw; have hl := hS.lt; simp only [zeroSt] at r0 r1 r2 r3 r4 r5 r6) | (have hg := hI.2.2.size; have hS := (StAt.drew (stSlot0 _)).keep b'; have ⟨r0, r1, r2, r3, r4, r5, r6⟩ := hS.cells; have ⟨z0, z1, z2, z3, z4, z5, z6⟩ := hS.thaw; have hl := hS.lt; simp only [zeroSt] at r0 r1 r2 r3 r4 r5 r6) | (have hS := hS.keep b'; clear r0 r1 r2 r3 r4 r5 r6 z0 z1 z2 z3 z4 z5 z6 hl; have ⟨r0, r1, r2, r3, r4, r5, r6⟩ := hS.cells; have ⟨z0, z1, z2, z3, z4, z5, z6⟩ := hS.thaw; have hl := hS.lt; simp only [zeroSt] at r0 r1 r2 r3 r4 r5 r6) | skip); have hI := Iv.keep (by first | exact hI | exact hI.drew | exact (hI.alloc _) | exact (hI.alloc _).drew | exact hI.drew.alloc _) b'; have ⟨t0, t1, t2, t3, t4, t5⟩ := hI.2.1.cells; have ⟨T0, T1, T2, T3, T4, T5⟩ := (hI.alloc (.cells #[.int .i64 0, .int .i64 0, .int .i64 0, .int .i64 0, .int .i64 0, .int .i64 0, .int .i64 0] 24)).2.1.cells) | (go_at_call 36; clear t0 t1 t2 t3 t4 t5 T0 T1 T2 T3 T4 T5; refine (HD.out _).mono ?_; rintro e w' ⟨rfl, b'⟩; (first | (have hg := hI.2.2.size; have hS := (stSlot0 _).keep b'; have ⟨r0, r1, r2, r3, r4, r5, r6⟩ := hS.cells; have ⟨z0, z1, z2, z3, z4, z5, z6⟩ := hS.thaw; have hl := hS.lt; simp only [zeroSt] at r0 r1 r2 r3 r4 r5 r6) | (have hg := hI.2.2.size; have hS := (StAt.drew (stSlot0 _)).keep b'; have ⟨r0, r1, r2, r3, r4, r5, r6⟩ := hS.cells; have ⟨z0, z1, z2, z3, z4, z5, z6⟩ := hS.thaw; have hl := hS.lt; simp only [zeroSt] at r0 r1 r2 r3 r4 r5 r6) | (have hS := hS.keep b'; clear r0 r1 r2 r3 r4 r5 r6 z0 z1 z2 z3 z4 z5 z6 hl; have ⟨r0, r1, r2, r3, r4, r5, r6⟩ := hS.cells; have ⟨z0, z1, z2, z3, z4, z5, z6⟩ := hS.thaw; have hl := hS.lt; simp only [zeroSt] at r0 r1 r2 r3 r4 r5 r6) | skip); have hI := Iv.keep (by first | exact hI | exact hI.drew | exact (hI.alloc _) | exact (hI.alloc _).drew | exact hI.drew.alloc _) b') | (go_at_call 18; refine (HI.out _ (Iv.tab (by first | exact hI | exact hI.drew | exact (hI.alloc _) | exact (hI.alloc _).drew | exact hI.drew.alloc _) HT1.out)).mono ?_; rintro e w' ⟨rfl, b'⟩; (first | (have hg := hI.2.2.size; have hS := (stSlot0 _).keep b'; have ⟨r0, r1, r2, r3, r4, r5, r6⟩ := hS.cells; have ⟨z0, z1, z2, z3, z4, z5, z6⟩ := hS.thaw; have hl := hS.lt; simp only [zeroSt] at r0 r1 r2 r3 r4 r5 r6) | (have hg := hI.2.2.size; have hS := (StAt.drew (stSlot0 _)).keep b'; have ⟨r0, r1, r2, r3, r4, r5, r6⟩ := hS.cells; have ⟨z0, z1, z2, z3, z4, z5, z6⟩ := hS.thaw; have hl := hS.lt; simp only [zeroSt] at r0 r1 r2 r3 r4 r5 r6) | (have hS := hS.keep b'; clear r0 r1 r2 r3 r4 r5 r6 z0 z1 z2 z3 z4 z5 z6 hl; have ⟨r0, r1, r2, r3, r4, r5, r6⟩ := hS.cells; have ⟨z0, z1, z2, z3, z4, z5, z6⟩ := hS.thaw; have hl := hS.lt; simp only [zeroSt] at r0 r1 r2 r3 r4 r5 r6) | skip); have hI := Iv.keep (by first | exact hI | exact hI.drew | exact (hI.alloc _) | exact (hI.alloc _).drew | exact hI.drew.alloc _) b')))
    all_goals (go_wp2_with fail; go_meet; first | exact ⟨_, rfl, rfl, rfl, rfl, hS.put q.y, h0.keep (below_putSt hI.2.2 hg q.y)⟩ | exact ⟨_, rfl, rfl, rfl, rfl, StAt.new _ q.y, hI.alloc _⟩)
  case rest =>
  obtain ⟨g2, rfl, rfl, rfl, rfl, V2, hI2⟩ := hcut
  have B2 := Lib.hid (B1.out.trans (hI2.2.2.mono B1.out.size))
  have V1 := HV1.out.keep hI2.2.2
  have ⟨y0, y1, y2, y3, y4, y5, y6⟩ := V1.cells
  have ⟨z0, z1, z2, z3, z4, z5, z6⟩ := V2.cells
  clear hI h0 HI V1 V2 hI2
  go_wp2_with fail
  refine (HQ.out _).mono ?_
  clear y0 y1 y2 y3 y4 y5 y6 z0 z1 z2 z3 z4 z5 z6
  rintro e w8 ⟨rfl, b8⟩
  have B8 := B2.out.trans (b8.mono B2.out.size)
  clear b8
  go_wp2
  go_ret
  exact ⟨rfl, B8⟩

theorem walk (g0 g1 g2 g3 l s d k a b c p n : Int) (w : World) (hw : ∀ z ∈ [g0, g1, g2, g3, l, s, d], (Lit.int .i64 z).wf = true) (_h1 : ∀ z ∈ [k, a, b, c, p, n], (Lit.int .i64 z).wf = true) (ht : TabM w) : Calls Tryd.prog 8 #[.agg #[.int .i64 g0, .int .i64 g1, .int .i64 g2, .int .i64 g3, .int .i64 l, .int .i64 s, .int .i64 d], .agg #[.int .i64 k, .int .i64 a, .int .i64 b, .int .i64 c, .int .i64 p, .int .i64 n]] w fun e w' => e = .returned (.bool true) ∧ Below w.heap.size w w' :=
  walkS ⟨g0, g1, g2, g3, l, s, d⟩ ⟨k, a, b, c, p, n⟩ w (bounds_i64 (hw d (by simp))) ht

theorem table {W : World} (h : laidMetH Tryd.prog Rows.fnExactStepStateRow.laid W) : TabM W := tabM_of_laid h
theorem readable : ∀ n ∈ Rows.fnExactStepStateSpec.vars, ∀ g t, Tryd.prog.globalNamed n = some g → (Tryd.prog.globals[g]?).map (·.type) = some t → Tryd.prog.readableRec t = true ∧ t < Tryd.prog.types.size := sets_readable

end Go.Proofs.YtanceljhdccepaaDoor.fnExactStepState
