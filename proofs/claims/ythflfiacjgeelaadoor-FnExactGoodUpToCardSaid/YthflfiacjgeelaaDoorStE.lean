/- The specification's NameSet. -/
import Derived.Test.YthflfiacjgeelaaDoorStD
import Derived.Test.YthflfiacjgeelaaDoorEscA
namespace Go.Proofs.YthflfiacjgeelaaDoor
open Go.RowKit

theorem st_ret2 {P : Program} {fn : Func} {p u : Tmp} {a : Act} {w1 : World} {g : Nat} {t ty : TypeId} {fr : Nat × Nat} {d : TypeDesc} {y : St} {c : Int} {Q : Ending → World → Prop} (h : fn.results = #[.cell p ty, .tmp u])
    (hp : a.tmps.getD p undef = .pointer (some ⟨g, 0, none⟩)) (hc : a.tmps.getD u undef = .int .i64 c) (hg : w1.heap[g]? = some (.cells #[.int .i64 y.g0, .int .i64 y.g1, .int .i64 y.g2, .int .i64 y.g3, .int .i64 y.l, .int .i64 y.s, .int .i64 y.d] t fr))
    (hu : P.underlying ty = some d) (hd : (match d with | .struct _ | .array _ _ => true | _ => false) = true) (hi : (P.info? ty).map (·.size) = some 7) (hdef : a.defers = []) (hQ : Q (.returned (.tuple #[stV y, .int .i64 c])) w1) :
    bodyPost P fn Q .ret a w1 :=
  bodyPost_ret (results_row_tmp' h _ _ g _ _ _ _ hp hg hu hd hi) hdef (by rw [hc]; exact hQ)

/-- NameSet: the code and the state. -/
def nsC (x : St) (g n : Int) : Int := if stOKB x = true then (if eoC g n = 0 then (if pendB x = true then 13 else 0) else eoC g n) else 1
def nsX (x : St) (g n : Int) : St := if nsC x g n = 0 then stPut x g n else if nsC x g n = 13 then x else zeroSt
def NsDone (x : St) (g n : Int) (w : World) (e : Ending) (w' : World) : Prop := e = .returned (.tuple #[stV (nsX x g n), .int .i64 (nsC x g n)]) ∧ Below w.heap.size w w'
theorem eoC_vals (g n : Int) : eoC g n = 0 ∨ eoC g n = 4 ∨ eoC g n = 5 := by
  unfold eoC
  repeat' split
  all_goals simp
theorem eoC_in {g n : Int} (h : eoC g n = 0) : 0 ≤ g ∧ g ≤ 3 := by
  unfold eoC at h
  split at h
  · split at h
    · next h1 => exact inB_true h1.1
    · cases h
  · cases h

set_option maxHeartbeats 2000000 in
set_option maxRecDepth 100000 in
theorem spec_NameSet (x : St) (g n : Int) (w : World) : Calls Tryd.prog 20 #[stV x, .int .i64 g, .int .i64 n] w (NsDone x g n w) := by
  have HO := Lib.hid (spec_l04OK x)
  have HP := Lib.hid (spec_l04Pending x)
  have HPut := Lib.hid (fun w h0 h3 => spec_l04Put x g n w h0 h3)
  have B0 := below_two w (.cells #[.int .i64 x.g0, .int .i64 x.g1, .int .i64 x.g2, .int .i64 x.g3, .int .i64 x.l, .int .i64 x.s, .int .i64 x.d] 24) (.cells #[.int .i64 0, .int .i64 0, .int .i64 0, .int .i64 0, .int .i64 0, .int .i64 0, .int .i64 0] 24)
  have HB0 : Hid (StAt ((w.alloc (.cells #[.int .i64 x.g0, .int .i64 x.g1, .int .i64 x.g2, .int .i64 x.g3, .int .i64 x.l, .int .i64 x.s, .int .i64 x.d] 24)).alloc (.cells #[.int .i64 0, .int .i64 0, .int .i64 0, .int .i64 0, .int .i64 0, .int .i64 0, .int .i64 0] 24)) w.heap.size x) := Lib.hid (heap_alloc2_old _ _ _)
  have HS0 : Hid (StAt ((w.alloc (.cells #[.int .i64 x.g0, .int .i64 x.g1, .int .i64 x.g2, .int .i64 x.g3, .int .i64 x.l, .int .i64 x.s, .int .i64 x.d] 24)).alloc (.cells #[.int .i64 0, .int .i64 0, .int .i64 0, .int .i64 0, .int .i64 0, .int .i64 0, .int .i64 0] 24)) (w.heap.size + 1) zeroSt) := Lib.hid (heap_alloc2_new _ _ _)
  unfold stV at HO HP HPut ⊢
  unfold StDone at HPut
  cases ho : stOKB x
  · have HC : Hid (nsC x g n = 1) := Lib.hid (by simp [nsC, ho])
    have HE : Hid (nsX x g n = zeroSt) := Lib.hid (by simp [nsX, HC.out])
    rw [ho] at HO
    go_enter Tryd.func20, Tryd.ntmps20
    go_wp2_with fail
    refine (HO.out _).mono ?_
    generalize ((w.alloc (.cells #[.int .i64 x.g0, .int .i64 x.g1, .int .i64 x.g2, .int .i64 x.g3, .int .i64 x.l, .int .i64 x.s, .int .i64 x.d] 24)).alloc (.cells #[.int .i64 0, .int .i64 0, .int .i64 0, .int .i64 0, .int .i64 0, .int .i64 0, .int .i64 0] 24)) = W0 at *
    rintro e w1 ⟨rfl, b1⟩
    have B1 : Below w.heap.size w w1 := B0.trans (b1.mono B0.size)
    have hB := (HB0.out.keep b1)
    have hS := Lib.hid (HS0.out.keep b1)
    have ⟨y0, y1, y2, y3, y4, y5, y6⟩ := hB.cells
    have ⟨r0, r1, r2, r3, r4, r5, r6⟩ := hS.out.cells
    have ⟨z0, z1, z2, z3, z4, z5, z6⟩ := hS.out.thaw
    simp only [zeroSt] at r0 r1 r2 r3 r4 r5 r6
    have hl : w.heap.size + 1 < w1.heap.size := hS.out.lt
    clear hB
    clear b1 y0 y1 y2 y3 y4 y5 y6
    go_wp2
    exact st_ret2 (y := zeroSt) rfl rfl rfl (hS.out.put zeroSt) Tryd.underlying24 rfl (by kernel_rfl) rfl ⟨by rw [HC.out, HE.out], below_putSt B1 (Nat.le_succ _) zeroSt⟩
  rw [ho] at HO
  have HEO := Lib.hid (fun w => spec_EscapeOf g n w)
  unfold eoV at HEO
  generalize eoT g n = et at *
  by_cases he : eoC g n = 0
  · have ⟨g0, g3⟩ := eoC_in he
    rw [he] at HEO
    cases hp : pendB x
    · have HC : Hid (nsC x g n = 0) := Lib.hid (by simp [nsC, ho, he, hp])
      have HE : Hid (nsX x g n = stPut x g n) := Lib.hid (by simp [nsX, HC.out])
      rw [hp] at HP
      go_enter Tryd.func20, Tryd.ntmps20
      go_wp2_with fail
      refine (HO.out _).mono ?_
      generalize ((w.alloc (.cells #[.int .i64 x.g0, .int .i64 x.g1, .int .i64 x.g2, .int .i64 x.g3, .int .i64 x.l, .int .i64 x.s, .int .i64 x.d] 24)).alloc (.cells #[.int .i64 0, .int .i64 0, .int .i64 0, .int .i64 0, .int .i64 0, .int .i64 0, .int .i64 0] 24)) = W0 at *
      rintro e w1 ⟨rfl, b1⟩
      have B1 : Below w.heap.size w w1 := B0.trans (b1.mono B0.size)
      have HB1 := Lib.hid (HB0.out.keep b1)
      have HS1 := Lib.hid (HS0.out.keep b1)
      clear b1 HB0 HS0 B0
      go_wp2_with fail
      refine (HEO.out _).mono ?_
      rintro e w2 ⟨rfl, b2⟩
      have B2 : Below w.heap.size w w2 := B1.trans (b2.mono B1.size)
      have HB2 := Lib.hid (HB1.out.keep b2)
      have HS2 := Lib.hid (HS1.out.keep b2)
      have ⟨y0, y1, y2, y3, y4, y5, y6⟩ := HB2.out.cells
      clear b2 HB1 HS1 B1
      go_wp2_with fail
      refine (HP.out _).mono ?_
      clear y0 y1 y2 y3 y4 y5 y6
      rintro e w3 ⟨rfl, b3⟩
      have B3 : Below w.heap.size w w3 := B2.trans (b3.mono B2.size)
      have HB3 := Lib.hid (HB2.out.keep b3)
      have HS3 := Lib.hid (HS2.out.keep b3)
      have ⟨y0, y1, y2, y3, y4, y5, y6⟩ := HB3.out.cells
      clear b3 HB2 HS2 B2
      go_wp2_with fail
      refine (HPut.out _ g0 g3).mono ?_
      clear y0 y1 y2 y3 y4 y5 y6
      rintro e w4 ⟨rfl, b4⟩
      have B4 : Below w.heap.size w w4 := B3.trans (b4.mono B3.size)
      have hS := Lib.hid (HS3.out.keep b4)
      have ⟨r0, r1, r2, r3, r4, r5, r6⟩ := hS.out.cells
      have ⟨z0, z1, z2, z3, z4, z5, z6⟩ := hS.out.thaw
      simp only [zeroSt] at r0 r1 r2 r3 r4 r5 r6
      have hl : w.heap.size + 1 < w4.heap.size := hS.out.lt
      clear b4 HB3 HS3 B3
      generalize stPut x g n = y at *
      unfold stV
      go_wp2
      exact st_ret2 (y := y) rfl rfl rfl (hS.out.put y) Tryd.underlying24 rfl (by kernel_rfl) rfl ⟨by rw [HC.out, HE.out], below_putSt B4 (Nat.le_succ _) y⟩
    · have HC : Hid (nsC x g n = 13) := Lib.hid (by simp [nsC, ho, he, hp])
      have HE : Hid (nsX x g n = x) := Lib.hid (by simp [nsX, HC.out])
      rw [hp] at HP
      go_enter Tryd.func20, Tryd.ntmps20
      go_wp2_with fail
      refine (HO.out _).mono ?_
      generalize ((w.alloc (.cells #[.int .i64 x.g0, .int .i64 x.g1, .int .i64 x.g2, .int .i64 x.g3, .int .i64 x.l, .int .i64 x.s, .int .i64 x.d] 24)).alloc (.cells #[.int .i64 0, .int .i64 0, .int .i64 0, .int .i64 0, .int .i64 0, .int .i64 0, .int .i64 0] 24)) = W0 at *
      rintro e w1 ⟨rfl, b1⟩
      have B1 : Below w.heap.size w w1 := B0.trans (b1.mono B0.size)
      have HB1 := Lib.hid (HB0.out.keep b1)
      have HS1 := Lib.hid (HS0.out.keep b1)
      clear b1 HB0 HS0 B0
      go_wp2_with fail
      refine (HEO.out _).mono ?_
      rintro e w2 ⟨rfl, b2⟩
      have B2 : Below w.heap.size w w2 := B1.trans (b2.mono B1.size)
      have HB2 := Lib.hid (HB1.out.keep b2)
      have HS2 := Lib.hid (HS1.out.keep b2)
      have ⟨y0, y1, y2, y3, y4, y5, y6⟩ := HB2.out.cells
      clear b2 HB1 HS1 B1
      go_wp2_with fail
      refine (HP.out _).mono ?_
      clear y0 y1 y2 y3 y4 y5 y6
      rintro e w3 ⟨rfl, b3⟩
      have B3 : Below w.heap.size w w3 := B2.trans (b3.mono B2.size)
      have HB3 := Lib.hid (HB2.out.keep b3)
      have hS := Lib.hid (HS2.out.keep b3)
      have ⟨y0, y1, y2, y3, y4, y5, y6⟩ := HB3.out.cells
      have ⟨r0, r1, r2, r3, r4, r5, r6⟩ := hS.out.cells
      have ⟨z0, z1, z2, z3, z4, z5, z6⟩ := hS.out.thaw
      simp only [zeroSt] at r0 r1 r2 r3 r4 r5 r6
      have hl : w.heap.size + 1 < w3.heap.size := hS.out.lt
      clear b3 HB2 HS2 B2
      go_wp2
      exact st_ret2 (y := x) rfl rfl rfl (hS.out.put x) Tryd.underlying24 rfl (by kernel_rfl) rfl ⟨by rw [HC.out, HE.out], below_putSt B3 (Nat.le_succ _) x⟩
  · have HC : Hid (nsC x g n = eoC g n) := Lib.hid (by simp [nsC, ho, he])
    have HE : Hid (nsX x g n = zeroSt) := Lib.hid (by
      rw [nsX, HC.out, if_neg he, if_neg (by have := eoC_vals g n; omega)])
    generalize eoC g n = c at *
    have ec : (c != 0) = true := by simpa using he
    clear he
    go_enter Tryd.func20, Tryd.ntmps20
    go_wp2_with fail
    refine (HO.out _).mono ?_
    generalize ((w.alloc (.cells #[.int .i64 x.g0, .int .i64 x.g1, .int .i64 x.g2, .int .i64 x.g3, .int .i64 x.l, .int .i64 x.s, .int .i64 x.d] 24)).alloc (.cells #[.int .i64 0, .int .i64 0, .int .i64 0, .int .i64 0, .int .i64 0, .int .i64 0, .int .i64 0] 24)) = W0 at *
    rintro e w1 ⟨rfl, b1⟩
    have B1 : Below w.heap.size w w1 := B0.trans (b1.mono B0.size)
    have HS1 := Lib.hid (HS0.out.keep b1)
    clear b1 HB0 HS0 B0
    go_wp2_with fail
    refine (HEO.out _).mono ?_
    rintro e w2 ⟨rfl, b2⟩
    have B2 : Below w.heap.size w w2 := B1.trans (b2.mono B1.size)
    have hS := Lib.hid (HS1.out.keep b2)
    have ⟨r0, r1, r2, r3, r4, r5, r6⟩ := hS.out.cells
    have ⟨z0, z1, z2, z3, z4, z5, z6⟩ := hS.out.thaw
    simp only [zeroSt] at r0 r1 r2 r3 r4 r5 r6
    have hl : w.heap.size + 1 < w2.heap.size := hS.out.lt
    clear b2 HS1 B1
    go_wp2
    exact st_ret2 (y := zeroSt) rfl rfl rfl (hS.out.put zeroSt) Tryd.underlying24 rfl (by kernel_rfl) rfl ⟨by rw [HC.out, HE.out], below_putSt B2 (Nat.le_succ _) zeroSt⟩

end Go.Proofs.YthflfiacjgeelaaDoor
