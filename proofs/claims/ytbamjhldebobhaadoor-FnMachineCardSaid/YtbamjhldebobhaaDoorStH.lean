/- The specification's StepState. -/
import Derived.Test.YtbamjhldebobhaaDoorStG
import Derived.Test.YtbamjhldebobhaaDoorTokE
namespace Go.Proofs.YtbamjhldebobhaaDoor
open Go.RowKit Go.Sort

theorem results_cell_tmp3 {P : Program} {fn : Func} {p u v z : Tmp} {ty : TypeId} (h : fn.results = #[.cell p ty, .tmp u, .tmp v, .tmp z]) (tmps : Array Value) (w : World) (g : Nat) (t : TypeId) (cs : Array Value) (fr : Nat × Nat) (d : TypeDesc)
    (hp : tmps.getD p undef = .pointer (some ⟨g, 0, none⟩)) (hg : w.heap[g]? = some (.cells cs t fr))
    (hu : P.underlying ty = some d) (hd : (match d with | .struct _ | .array _ _ => true | _ => false) = true) (hi : (P.info? ty).map (·.size) = some cs.size) :
    (results fn tmps).run P w = .ok (.tuple #[.agg cs, tmps.getD u undef, tmps.getD v undef, tmps.getD z undef]) w := by
  have h1 : (results fn tmps).run P w = ((asAddr (tmps.getD p undef)).run P w).andThen fun a w₁ => ((loadVar ty a).run P w₁).andThen fun x w₂ => .ok (.tuple #[x, tmps.getD u undef, tmps.getD v undef, tmps.getD z undef]) w₂ := by
    simp only [results, h]
    simp [Sem.run_bind, Result.andThen]
  rw [h1, hp]
  simp [asAddr, run_loadVar_row w g t ty cs fr d hg hu hd hi, Result.andThen]
theorem st_ret4 {P : Program} {fn : Func} {p u v z : Tmp} {a : Act} {w1 : World} {g : Nat} {t ty : TypeId} {fr : Nat × Nat} {d : TypeDesc} {y : St} {r m c : Value} {Q : Ending → World → Prop} (h : fn.results = #[.cell p ty, .tmp u, .tmp v, .tmp z])
    (hp : a.tmps.getD p undef = .pointer (some ⟨g, 0, none⟩)) (hr : a.tmps.getD u undef = r) (hm : a.tmps.getD v undef = m) (hc : a.tmps.getD z undef = c) (hg : w1.heap[g]? = some (.cells #[.int .i64 y.g0, .int .i64 y.g1, .int .i64 y.g2, .int .i64 y.g3, .int .i64 y.l, .int .i64 y.s, .int .i64 y.d] t fr))
    (hu : P.underlying ty = some d) (hd : (match d with | .struct _ | .array _ _ => true | _ => false) = true) (hi : (P.info? ty).map (·.size) = some 7) (hdef : a.defers = []) (hQ : Q (.returned (.tuple #[stV y, r, m, c])) w1) :
    bodyPost P fn Q .ret a w1 :=
  bodyPost_ret (results_cell_tmp3 h _ _ g _ _ _ _ hp hg hu hd hi) hdef (by rw [hr, hm, hc]; exact hQ)

theorem StAt.alloc {w : World} {g : Nat} {x : St} (h : StAt w g x) (o : Obj) : StAt (w.alloc o) g x := h.keep (below_one _ _)

/-- What StepState tells of a step. -/
def toldV (p : Stp) : Value := .tuple #[stV p.y, .int .i64 (if 0 ≤ p.r then p.r else 0), .bool (decide (0 ≤ p.r)), .int .i64 p.c]
def SsDone (x : St) (t : Tok) (w : World) (e : Ending) (w' : World) : Prop := e = .returned (toldV (ssP x t)) ∧ Below w.heap.size w w'
theorem told_bad {p : Stp} {y : St} {c : Int} (h : p = ⟨y, -1, c⟩) : toldV p = .tuple #[stV y, .int .i64 0, .bool false, .int .i64 c] := by rw [h]; rfl
theorem told_none {p : Stp} (h : p.r = -1) : toldV p = .tuple #[stV p.y, .int .i64 0, .bool false, .int .i64 p.c] := by unfold toldV; rw [h]; rfl
theorem told_some {p : Stp} (h : 0 ≤ p.r) : toldV p = .tuple #[stV p.y, .int .i64 p.r, .bool true, .int .i64 p.c] := by unfold toldV; rw [if_pos h, decide_eq_true h]

set_option maxHeartbeats 1000000 in
set_option maxRecDepth 100000 in
theorem spec_StepState (x : St) (t : Tok) (w : World) : Calls Tryd.prog 12 #[stV x, tokV t] w (SsDone x t w) := by
  have ⟨hB0, hT0, hS0, b0⟩ := step_blocks w x t
  have HB0 := Lib.hid hB0
  have HT0 := Lib.hid hT0
  have HS0 := Lib.hid hS0
  have B0 := Lib.hid b0
  clear hB0 hT0 hS0 b0
  have HO := Lib.hid (fun w => spec_l04OK x w)
  have HK := Lib.hid (fun w => spec_l03OK t w)
  unfold tokV at HK ⊢
  unfold stV at HO ⊢
  cases ho : stOKB x
  · have HE : Hid (toldV (ssP x t) = .tuple #[stV zeroSt, .int .i64 0, .bool false, .int .i64 1]) := Lib.hid (told_bad (by rw [ssP, if_neg (fun h => by rw [ho] at h; exact absurd h.1 (by decide))]))
    rw [ho] at HO
    go_enter Tryd.func12, Tryd.ntmps12
    go_wp2_with fail
    refine (HO.out _).mono ?_
    generalize ((w.alloc (.cells #[.int .i64 x.g0, .int .i64 x.g1, .int .i64 x.g2, .int .i64 x.g3, .int .i64 x.l, .int .i64 x.s, .int .i64 x.d] 24)).alloc (.cells #[.int .i64 t.k, .int .i64 t.a, .int .i64 t.b, .int .i64 t.c, .int .i64 t.p, .int .i64 t.n] 38)).alloc (.cells #[.int .i64 0, .int .i64 0, .int .i64 0, .int .i64 0, .int .i64 0, .int .i64 0, .int .i64 0] 24) = W0 at *
    rintro e W1 ⟨rfl, b1⟩
    have B1 : Hid (Below w.heap.size w W1) := Lib.hid (B0.out.trans (b1.mono B0.out.size))
    have HB1 := Lib.hid (HB0.out.keep b1)
    have HT1 := Lib.hid (HT0.out.keep b1)
    have HS1 := Lib.hid (HS0.out.keep b1)
    clear b1 HB0 HT0 HS0 B0
    have ⟨y0, y1, y2, y3, y4, y5, y6⟩ := HB1.out.cells
    have ⟨t0, t1, t2, t3, t4, t5⟩ := HT1.out.cells
    have ⟨r0, r1, r2, r3, r4, r5, r6⟩ := HS1.out.cells
    have ⟨z0, z1, z2, z3, z4, z5, z6⟩ := HS1.out.thaw
    simp only [zeroSt] at r0 r1 r2 r3 r4 r5 r6
    have hl : w.heap.size + 2 < W1.heap.size := HS1.out.lt
    go_wp2
    exact st_ret4 (y := zeroSt) (r := .int .i64 0) (m := .bool false) (c := .int .i64 1) rfl rfl rfl rfl rfl (HS1.out.put zeroSt) Tryd.underlying24 rfl (by kernel_rfl) rfl ⟨by rw [HE.out], below_putSt B1.out (by omega) zeroSt⟩
  rw [ho] at HO
  cases hk : tokOKB t
  · have HE : Hid (toldV (ssP x t) = .tuple #[stV zeroSt, .int .i64 0, .bool false, .int .i64 1]) := Lib.hid (told_bad (by rw [ssP, if_neg (fun h => by rw [hk] at h; exact absurd h.2 (by decide))]))
    rw [hk] at HK
    go_enter Tryd.func12, Tryd.ntmps12
    go_wp2_with fail
    refine (HO.out _).mono ?_
    generalize ((w.alloc (.cells #[.int .i64 x.g0, .int .i64 x.g1, .int .i64 x.g2, .int .i64 x.g3, .int .i64 x.l, .int .i64 x.s, .int .i64 x.d] 24)).alloc (.cells #[.int .i64 t.k, .int .i64 t.a, .int .i64 t.b, .int .i64 t.c, .int .i64 t.p, .int .i64 t.n] 38)).alloc (.cells #[.int .i64 0, .int .i64 0, .int .i64 0, .int .i64 0, .int .i64 0, .int .i64 0, .int .i64 0] 24) = W0 at *
    rintro e W1 ⟨rfl, b1⟩
    have B1 : Hid (Below w.heap.size w W1) := Lib.hid (B0.out.trans (b1.mono B0.out.size))
    have HB1 := Lib.hid (HB0.out.keep b1)
    have HT1 := Lib.hid (HT0.out.keep b1)
    have HS1 := Lib.hid (HS0.out.keep b1)
    clear b1 HB0 HT0 HS0 B0
    have ⟨y0, y1, y2, y3, y4, y5, y6⟩ := HB1.out.cells
    have ⟨t0, t1, t2, t3, t4, t5⟩ := HT1.out.cells
    go_wp2_with fail
    refine (HK.out _).mono ?_
    clear y0 y1 y2 y3 y4 y5 y6 t0 t1 t2 t3 t4 t5
    rintro e W2 ⟨rfl, b2⟩
    have B2 : Hid (Below w.heap.size w W2) := Lib.hid (B1.out.trans (b2.mono B1.out.size))
    have HB2 := Lib.hid (HB1.out.keep b2)
    have HT2 := Lib.hid (HT1.out.keep b2)
    have HS2 := Lib.hid (HS1.out.keep b2)
    clear b2 HB1 HT1 HS1 B1
    have ⟨r0, r1, r2, r3, r4, r5, r6⟩ := HS2.out.cells
    have ⟨z0, z1, z2, z3, z4, z5, z6⟩ := HS2.out.thaw
    simp only [zeroSt] at r0 r1 r2 r3 r4 r5 r6
    have hl : w.heap.size + 2 < W2.heap.size := HS2.out.lt
    go_wp2
    exact st_ret4 (y := zeroSt) (r := .int .i64 0) (m := .bool false) (c := .int .i64 1) rfl rfl rfl rfl rfl (HS2.out.put zeroSt) Tryd.underlying24 rfl (by kernel_rfl) rfl ⟨by rw [HE.out], below_putSt B2.out (by omega) zeroSt⟩
  have HG := Lib.hid (fun w => spec_l04Step x t w ho ((tokOKB_iff t).1 hk).wide)
  have HP : Hid (ssP x t = stepT x t) := Lib.hid (by rw [ssP, if_pos ⟨ho, hk⟩])
  have HC := Lib.hid (fun h => stepT_code (x := x) (t := t) h)
  have hr := stepT_r (x := x) ((tokOKB_iff t).1 hk).wide
  rw [hk] at HK
  clear ho hk
  unfold StpDone stpV at HG
  unfold tokV stV at HG
  generalize stepT x t = p at *
  by_cases hc : p.c = 0
  · have HE0 : Hid (toldV (ssP x t) = toldV p) := Lib.hid (by rw [HP.out])
    have HD := Lib.hid hc
    rw [hc] at HG
    clear hc HP HC
    rcases hr with hr | hr
    · have HE : Hid (toldV (ssP x t) = .tuple #[stV p.y, .int .i64 0, .bool false, .int .i64 0]) := Lib.hid (by rw [HE0.out, told_none hr, HD.out])
      rw [hr] at HG
      clear hr
      go_enter Tryd.func12, Tryd.ntmps12
      go_wp2_with fail
      refine (HO.out _).mono ?_
      generalize ((w.alloc (.cells #[.int .i64 x.g0, .int .i64 x.g1, .int .i64 x.g2, .int .i64 x.g3, .int .i64 x.l, .int .i64 x.s, .int .i64 x.d] 24)).alloc (.cells #[.int .i64 t.k, .int .i64 t.a, .int .i64 t.b, .int .i64 t.c, .int .i64 t.p, .int .i64 t.n] 38)).alloc (.cells #[.int .i64 0, .int .i64 0, .int .i64 0, .int .i64 0, .int .i64 0, .int .i64 0, .int .i64 0] 24) = W0 at *
      rintro e W1 ⟨rfl, b1⟩
      have B1 : Hid (Below w.heap.size w W1) := Lib.hid (B0.out.trans (b1.mono B0.out.size))
      have HB1 := Lib.hid (HB0.out.keep b1)
      have HT1 := Lib.hid (HT0.out.keep b1)
      have HS1 := Lib.hid (HS0.out.keep b1)
      clear b1 HB0 HT0 HS0 B0
      have ⟨y0, y1, y2, y3, y4, y5, y6⟩ := HB1.out.cells
      have ⟨t0, t1, t2, t3, t4, t5⟩ := HT1.out.cells
      go_wp2_with fail
      refine (HK.out _).mono ?_
      clear y0 y1 y2 y3 y4 y5 y6 t0 t1 t2 t3 t4 t5
      rintro e W2 ⟨rfl, b2⟩
      have B2 : Hid (Below w.heap.size w W2) := Lib.hid (B1.out.trans (b2.mono B1.out.size))
      have HB2 := Lib.hid (HB1.out.keep b2)
      have HT2 := Lib.hid (HT1.out.keep b2)
      have HS2 := Lib.hid (HS1.out.keep b2)
      clear b2 HB1 HT1 HS1 B1
      have ⟨y0, y1, y2, y3, y4, y5, y6⟩ := HB2.out.cells
      have ⟨t0, t1, t2, t3, t4, t5⟩ := HT2.out.cells
      go_wp2_with fail
      refine (HG.out _).mono ?_
      clear y0 y1 y2 y3 y4 y5 y6 t0 t1 t2 t3 t4 t5
      rintro e W3 ⟨rfl, b3⟩
      have B3 : Hid (Below w.heap.size w W3) := Lib.hid (B2.out.trans (b3.mono B2.out.size))
      have HB3 := Lib.hid (HB2.out.keep b3)
      have HT3 := Lib.hid (HT2.out.keep b3)
      have HS3 := Lib.hid (HS2.out.keep b3)
      clear b3 HB2 HT2 HS2 B2
      have ⟨r0, r1, r2, r3, r4, r5, r6⟩ := HS3.out.cells
      have ⟨z0, z1, z2, z3, z4, z5, z6⟩ := HS3.out.thaw
      simp only [zeroSt] at r0 r1 r2 r3 r4 r5 r6
      have hl : w.heap.size + 2 < W3.heap.size := HS3.out.lt
      have BB := Lib.hid (below_putSt B3.out (show w.heap.size ≤ w.heap.size + 1 + 1 by omega) p.y)
      go_wp2
      exact st_ret4 (y := p.y) (r := .int .i64 0) (m := .bool false) (c := .int .i64 0) rfl rfl rfl rfl rfl ((HS3.out.put p.y).alloc _) Tryd.underlying24 rfl (by kernel_rfl) rfl ⟨by rw [HE.out], BB.out.alloc BB.out.size _⟩
    · have HE : Hid (toldV (ssP x t) = .tuple #[stV p.y, .int .i64 p.r, .bool true, .int .i64 0]) := Lib.hid (by rw [HE0.out, told_some hr, HD.out])
      go_enter Tryd.func12, Tryd.ntmps12
      go_wp2_with fail
      refine (HO.out _).mono ?_
      generalize ((w.alloc (.cells #[.int .i64 x.g0, .int .i64 x.g1, .int .i64 x.g2, .int .i64 x.g3, .int .i64 x.l, .int .i64 x.s, .int .i64 x.d] 24)).alloc (.cells #[.int .i64 t.k, .int .i64 t.a, .int .i64 t.b, .int .i64 t.c, .int .i64 t.p, .int .i64 t.n] 38)).alloc (.cells #[.int .i64 0, .int .i64 0, .int .i64 0, .int .i64 0, .int .i64 0, .int .i64 0, .int .i64 0] 24) = W0 at *
      rintro e W1 ⟨rfl, b1⟩
      have B1 : Hid (Below w.heap.size w W1) := Lib.hid (B0.out.trans (b1.mono B0.out.size))
      have HB1 := Lib.hid (HB0.out.keep b1)
      have HT1 := Lib.hid (HT0.out.keep b1)
      have HS1 := Lib.hid (HS0.out.keep b1)
      clear b1 HB0 HT0 HS0 B0
      have ⟨y0, y1, y2, y3, y4, y5, y6⟩ := HB1.out.cells
      have ⟨t0, t1, t2, t3, t4, t5⟩ := HT1.out.cells
      go_wp2_with fail
      refine (HK.out _).mono ?_
      clear y0 y1 y2 y3 y4 y5 y6 t0 t1 t2 t3 t4 t5
      rintro e W2 ⟨rfl, b2⟩
      have B2 : Hid (Below w.heap.size w W2) := Lib.hid (B1.out.trans (b2.mono B1.out.size))
      have HB2 := Lib.hid (HB1.out.keep b2)
      have HT2 := Lib.hid (HT1.out.keep b2)
      have HS2 := Lib.hid (HS1.out.keep b2)
      clear b2 HB1 HT1 HS1 B1
      have ⟨y0, y1, y2, y3, y4, y5, y6⟩ := HB2.out.cells
      have ⟨t0, t1, t2, t3, t4, t5⟩ := HT2.out.cells
      go_wp2_with fail
      refine (HG.out _).mono ?_
      clear y0 y1 y2 y3 y4 y5 y6 t0 t1 t2 t3 t4 t5
      rintro e W3 ⟨rfl, b3⟩
      have B3 : Hid (Below w.heap.size w W3) := Lib.hid (B2.out.trans (b3.mono B2.out.size))
      have HB3 := Lib.hid (HB2.out.keep b3)
      have HT3 := Lib.hid (HT2.out.keep b3)
      have HS3 := Lib.hid (HS2.out.keep b3)
      clear b3 HB2 HT2 HS2 B2
      have ⟨r0, r1, r2, r3, r4, r5, r6⟩ := HS3.out.cells
      have ⟨z0, z1, z2, z3, z4, z5, z6⟩ := HS3.out.thaw
      simp only [zeroSt] at r0 r1 r2 r3 r4 r5 r6
      have hl : w.heap.size + 2 < W3.heap.size := HS3.out.lt
      have BB := Lib.hid (below_putSt B3.out (show w.heap.size ≤ w.heap.size + 1 + 1 by omega) p.y)
      go_wp2
      exact st_ret4 (y := p.y) (r := .int .i64 p.r) (m := .bool true) (c := .int .i64 0) rfl rfl rfl rfl rfl ((HS3.out.put p.y).alloc _) Tryd.underlying24 rfl (by kernel_rfl) rfl ⟨by rw [HE.out], BB.out.alloc BB.out.size _⟩
  · have HE : Hid (toldV (ssP x t) = .tuple #[stV x, .int .i64 0, .bool false, .int .i64 p.c]) := Lib.hid (by
      rw [HP.out]
      have ⟨h1, h2⟩ := HC.out hc
      rw [told_none h2, h1])
    have ec : (p.c != 0) = true := by simpa using hc
    clear hc HP HC hr
    go_enter Tryd.func12, Tryd.ntmps12
    go_wp2_with fail
    refine (HO.out _).mono ?_
    generalize ((w.alloc (.cells #[.int .i64 x.g0, .int .i64 x.g1, .int .i64 x.g2, .int .i64 x.g3, .int .i64 x.l, .int .i64 x.s, .int .i64 x.d] 24)).alloc (.cells #[.int .i64 t.k, .int .i64 t.a, .int .i64 t.b, .int .i64 t.c, .int .i64 t.p, .int .i64 t.n] 38)).alloc (.cells #[.int .i64 0, .int .i64 0, .int .i64 0, .int .i64 0, .int .i64 0, .int .i64 0, .int .i64 0] 24) = W0 at *
    rintro e W1 ⟨rfl, b1⟩
    have B1 : Hid (Below w.heap.size w W1) := Lib.hid (B0.out.trans (b1.mono B0.out.size))
    have HB1 := Lib.hid (HB0.out.keep b1)
    have HT1 := Lib.hid (HT0.out.keep b1)
    have HS1 := Lib.hid (HS0.out.keep b1)
    clear b1 HB0 HT0 HS0 B0
    have ⟨y0, y1, y2, y3, y4, y5, y6⟩ := HB1.out.cells
    have ⟨t0, t1, t2, t3, t4, t5⟩ := HT1.out.cells
    go_wp2_with fail
    refine (HK.out _).mono ?_
    clear y0 y1 y2 y3 y4 y5 y6 t0 t1 t2 t3 t4 t5
    rintro e W2 ⟨rfl, b2⟩
    have B2 : Hid (Below w.heap.size w W2) := Lib.hid (B1.out.trans (b2.mono B1.out.size))
    have HB2 := Lib.hid (HB1.out.keep b2)
    have HT2 := Lib.hid (HT1.out.keep b2)
    have HS2 := Lib.hid (HS1.out.keep b2)
    clear b2 HB1 HT1 HS1 B1
    have ⟨y0, y1, y2, y3, y4, y5, y6⟩ := HB2.out.cells
    have ⟨t0, t1, t2, t3, t4, t5⟩ := HT2.out.cells
    go_wp2_with fail
    refine (HG.out _).mono ?_
    clear y0 y1 y2 y3 y4 y5 y6 t0 t1 t2 t3 t4 t5
    rintro e W3 ⟨rfl, b3⟩
    have B3 : Hid (Below w.heap.size w W3) := Lib.hid (B2.out.trans (b3.mono B2.out.size))
    have HB3 := Lib.hid (HB2.out.keep b3)
    have HT3 := Lib.hid (HT2.out.keep b3)
    have HS3 := Lib.hid (HS2.out.keep b3)
    clear b3 HB2 HT2 HS2 B2
    have ⟨y0, y1, y2, y3, y4, y5, y6⟩ := (HB3.out.alloc (.cells #[.int .i64 p.y.g0, .int .i64 p.y.g1, .int .i64 p.y.g2, .int .i64 p.y.g3, .int .i64 p.y.l, .int .i64 p.y.s, .int .i64 p.y.d] 24)).cells
    have BB := Lib.hid (below_putSt B3.out (show w.heap.size ≤ w.heap.size + 1 + 1 by omega) x)
    have ⟨r0, r1, r2, r3, r4, r5, r6⟩ := HS3.out.cells
    have ⟨z0, z1, z2, z3, z4, z5, z6⟩ := HS3.out.thaw
    simp only [zeroSt] at r0 r1 r2 r3 r4 r5 r6
    have hl : w.heap.size + 2 < W3.heap.size := HS3.out.lt
    go_wp2
    exact st_ret4 (y := x) (r := .int .i64 0) (m := .bool false) (c := .int .i64 p.c) rfl rfl rfl rfl rfl ((HS3.out.put x).alloc _) Tryd.underlying24 rfl (by kernel_rfl) rfl ⟨by rw [HE.out], BB.out.alloc BB.out.size _⟩

end Go.Proofs.YtbamjhldebobhaaDoor
