/- StartOf: the states in which strings of a profile begin (a seat whose program holds no sets). -/
import Derived.Test.YthflfiacjgeelabStA0
namespace Go.Proofs.Ythflfiacjgeelab
open Go.RowKit

/-- A struct in a slot of its own and a number are handed back. -/
theorem results_row_tmp' {P : Program} {fn : Func} {p u : Tmp} {ty : TypeId} (h : fn.results = #[.cell p ty, .tmp u]) (tmps : Array Value) (w : World) (g : Nat) (t : TypeId) (cs : Array Value) (fr : Nat × Nat) (d : TypeDesc)
    (hp : tmps.getD p undef = .pointer (some ⟨g, 0, none⟩)) (hg : w.heap[g]? = some (.cells cs t fr))
    (hu : P.underlying ty = some d) (hd : (match d with | .struct _ | .array _ _ => true | _ => false) = true) (hi : (P.info? ty).map (·.size) = some cs.size) :
    (results fn tmps).run P w = .ok (.tuple #[.agg cs, tmps.getD u undef]) w := by
  rw [results_cell_tmp h, hp]
  simp [asAddr, run_loadVar_row w g t ty cs fr d hg hu hd hi, Result.andThen]
theorem st_ret2 {P : Program} {fn : Func} {p u : Tmp} {a : Act} {w1 : World} {g : Nat} {t ty : TypeId} {fr : Nat × Nat} {d : TypeDesc} {y : St} {c : Int} {Q : Ending → World → Prop} (h : fn.results = #[.cell p ty, .tmp u])
    (hp : a.tmps.getD p undef = .pointer (some ⟨g, 0, none⟩)) (hc : a.tmps.getD u undef = .int .i64 c) (hg : w1.heap[g]? = some (.cells #[.int .i64 y.g0, .int .i64 y.g1, .int .i64 y.g2, .int .i64 y.g3, .int .i64 y.l, .int .i64 y.s, .int .i64 y.d] t fr))
    (hu : P.underlying ty = some d) (hd : (match d with | .struct _ | .array _ _ => true | _ => false) = true) (hi : (P.info? ty).map (·.size) = some 7) (hdef : a.defers = []) (hQ : Q (.returned (.tuple #[stV y, .int .i64 c])) w1) :
    bodyPost P fn Q .ret a w1 :=
  bodyPost_ret (results_row_tmp' h _ _ g _ _ _ _ hp hg hu hd hi) hdef (by rw [hc]; exact hQ)

/-- There is such a profile. -/
def proB (n : Int) : Bool := inB n 1 5
def startP (n : Int) : St := if n = 5 then ⟨1, 4, 0, 0, 0, 0, 0⟩ else ⟨1, 0, 0, 0, 0, 0, 0⟩
def soX (n : Int) : St := if proB n = true then startP n else zeroSt
def soC (n : Int) : Int := if proB n = true then 0 else 5
def SoDone (n : Int) (w : World) (e : Ending) (w' : World) : Prop := e = .returned (.tuple #[stV (soX n), .int .i64 (soC n)]) ∧ Below w.heap.size w w'

theorem spec_l05No (n : Int) (w : World) : Calls Try.prog 7 #[.int .i64 n] w fun e w' => e = .returned (.bool (proB n)) ∧ w = w' := by
  go_enter Try.func7, Try.ntmps7
  go_wp2_with (go_at_call 12; refine (spec_l01In _ _ _ _).mono ?_; rintro e w' ⟨rfl, rfl⟩)
  go_ret
  exact ⟨rfl, rfl⟩

theorem impl_isProfile (n : Int) (w : World) : Calls Try.prog 9 #[.int .i64 n] w fun e w' => e = .returned (.bool (proB n)) ∧ w = w' := by
  by_cases h1 : 1 ≤ n
  · by_cases h2 : n ≤ 5
    all_goals
      go_enter Try.func9, Try.ntmps9
      go_wp2
      go_ret
      exact ⟨by simp [proB, inB, *], rfl⟩
  · go_enter Try.func9, Try.ntmps9
    go_wp2
    go_ret
    exact ⟨by simp [proB, inB]; omega, rfl⟩

set_option maxHeartbeats 1000000 in
theorem start_l04 (w : World) : Calls Try.prog 15 #[] w (StDone startSt w) := by
  go_enter Try.func15, Try.ntmps15
  go_wp2
  exact st_ret (y := startSt) rfl rfl rfl (heap_alloc_new _ _) Try.underlying23 rfl (by kernel_rfl) rfl (below_one _ _)

set_option maxHeartbeats 1000000 in
theorem start_impl (w : World) : Calls Try.prog 14 #[] w (StDone startSt w) := by
  go_enter Try.func14, Try.ntmps14
  go_wp2
  exact st_ret (y := startSt) rfl rfl rfl (heap_alloc_new _ _) Try.underlying23 rfl (by kernel_rfl) rfl (below_one _ _)

set_option maxHeartbeats 400000 in
theorem spec_l05Start (n : Int) (w : World) : Calls Try.prog 13 #[.int .i64 n] w (StDone (startP n) w) := by
  have HR0 := Lib.hid (stSlot0 w)
  have B0 := Lib.hid (below_one w (.cells #[.int .i64 0, .int .i64 0, .int .i64 0, .int .i64 0, .int .i64 0, .int .i64 0, .int .i64 0] 23))
  have HS := Lib.hid (fun w => start_l04 w)
  unfold StDone stV startSt at HS
  by_cases h5 : n = 5
  · have HE : Hid (startP n = ⟨1, 4, 0, 0, 0, 0, 0⟩) := Lib.hid (by simp [startP, h5])
    have e5 : (n == 5) = true := by simp [h5]
    clear h5
    go_enter Try.func13, Try.ntmps13
    go_wp2_with fail
    refine (HS.out _).mono ?_
    generalize w.alloc (.cells #[.int .i64 0, .int .i64 0, .int .i64 0, .int .i64 0, .int .i64 0, .int .i64 0, .int .i64 0] 23) = W0 at *
    rintro e w1 ⟨rfl, b1⟩
    have hl1 : w.heap.size < w1.heap.size := (HR0.out.keep b1).lt
    have HR3 := Lib.hid (HR0.out.keep b1)
    have B3 : Hid (Below w.heap.size w w1) := Lib.hid (B0.out.trans (b1.mono B0.out.size))
    clear b1 HR0
    have ⟨r0, r1, r2, r3, r4, r5, r6⟩ := HR3.out.cells
    have ⟨z0, z1, z2, z3, z4, z5, z6⟩ := HR3.out.thaw
    simp only [zeroSt] at r0 r1 r2 r3 r4 r5 r6
    go_wp2
    exact st_ret (y := ⟨1, 4, 0, 0, 0, 0, 0⟩) HE.out rfl rfl ((HR3.out.put ⟨1, 4, 0, 0, 0, 0, 0⟩).keep (below_one _ _)) Try.underlying23 rfl (by kernel_rfl) rfl ((below_putSt B3.out (Nat.le_refl _) ⟨1, 4, 0, 0, 0, 0, 0⟩).alloc (below_putSt B3.out (Nat.le_refl _) ⟨1, 4, 0, 0, 0, 0, 0⟩).size _)
  · have HE : Hid (startP n = ⟨1, 0, 0, 0, 0, 0, 0⟩) := Lib.hid (by simp [startP, h5])
    have e5 : (n == 5) = false := by simp [h5]
    clear h5
    go_enter Try.func13, Try.ntmps13
    go_wp2_with fail
    refine (HS.out _).mono ?_
    generalize w.alloc (.cells #[.int .i64 0, .int .i64 0, .int .i64 0, .int .i64 0, .int .i64 0, .int .i64 0, .int .i64 0] 23) = W0 at *
    rintro e w1 ⟨rfl, b1⟩
    have HR3 := Lib.hid (HR0.out.keep b1)
    have B3 : Hid (Below w.heap.size w w1) := Lib.hid (B0.out.trans (b1.mono B0.out.size))
    have hl1 : w.heap.size < w1.heap.size := (HR0.out.keep b1).lt
    clear b1 HR0
    have ⟨r0, r1, r2, r3, r4, r5, r6⟩ := HR3.out.cells
    have ⟨z0, z1, z2, z3, z4, z5, z6⟩ := HR3.out.thaw
    simp only [zeroSt] at r0 r1 r2 r3 r4 r5 r6
    go_wp2
    exact st_ret (y := ⟨1, 0, 0, 0, 0, 0, 0⟩) HE.out rfl rfl ((HR3.out.put ⟨1, 0, 0, 0, 0, 0, 0⟩).keep (below_one _ _)) Try.underlying23 rfl (by kernel_rfl) rfl ((below_putSt B3.out (Nat.le_refl _) ⟨1, 0, 0, 0, 0, 0, 0⟩).alloc (below_putSt B3.out (Nat.le_refl _) ⟨1, 0, 0, 0, 0, 0, 0⟩).size _)

set_option maxHeartbeats 400000 in
theorem impl_startOf (n : Int) (w : World) : Calls Try.prog 10 #[.int .i64 n] w (StDone (startP n) w) := by
  have HR0 := Lib.hid (stSlot0 w)
  have B0 := Lib.hid (below_one w (.cells #[.int .i64 0, .int .i64 0, .int .i64 0, .int .i64 0, .int .i64 0, .int .i64 0, .int .i64 0] 23))
  have HS := Lib.hid (fun w => start_impl w)
  unfold StDone stV startSt at HS
  by_cases h5 : n = 5
  · have HE : Hid (startP n = ⟨1, 4, 0, 0, 0, 0, 0⟩) := Lib.hid (by simp [startP, h5])
    have e5 : (n == 5) = true := by simp [h5]
    clear h5
    go_enter Try.func10, Try.ntmps10
    go_wp2_with fail
    refine (HS.out _).mono ?_
    generalize w.alloc (.cells #[.int .i64 0, .int .i64 0, .int .i64 0, .int .i64 0, .int .i64 0, .int .i64 0, .int .i64 0] 23) = W0 at *
    rintro e w1 ⟨rfl, b1⟩
    have hl1 : w.heap.size < w1.heap.size := (HR0.out.keep b1).lt
    have HR3 := Lib.hid (HR0.out.keep b1)
    have B3 : Hid (Below w.heap.size w w1) := Lib.hid (B0.out.trans (b1.mono B0.out.size))
    clear b1 HR0
    have ⟨r0, r1, r2, r3, r4, r5, r6⟩ := HR3.out.cells
    have ⟨z0, z1, z2, z3, z4, z5, z6⟩ := HR3.out.thaw
    simp only [zeroSt] at r0 r1 r2 r3 r4 r5 r6
    go_wp2
    exact st_ret (y := ⟨1, 4, 0, 0, 0, 0, 0⟩) HE.out rfl rfl ((HR3.out.put ⟨1, 4, 0, 0, 0, 0, 0⟩).keep (below_one _ _)) Try.underlying23 rfl (by kernel_rfl) rfl ((below_putSt B3.out (Nat.le_refl _) ⟨1, 4, 0, 0, 0, 0, 0⟩).alloc (below_putSt B3.out (Nat.le_refl _) ⟨1, 4, 0, 0, 0, 0, 0⟩).size _)
  · have HE : Hid (startP n = ⟨1, 0, 0, 0, 0, 0, 0⟩) := Lib.hid (by simp [startP, h5])
    have e5 : (n == 5) = false := by simp [h5]
    clear h5
    go_enter Try.func10, Try.ntmps10
    go_wp2_with fail
    refine (HS.out _).mono ?_
    generalize w.alloc (.cells #[.int .i64 0, .int .i64 0, .int .i64 0, .int .i64 0, .int .i64 0, .int .i64 0, .int .i64 0] 23) = W0 at *
    rintro e w1 ⟨rfl, b1⟩
    have HR3 := Lib.hid (HR0.out.keep b1)
    have B3 : Hid (Below w.heap.size w w1) := Lib.hid (B0.out.trans (b1.mono B0.out.size))
    have hl1 : w.heap.size < w1.heap.size := (HR0.out.keep b1).lt
    clear b1 HR0
    have ⟨r0, r1, r2, r3, r4, r5, r6⟩ := HR3.out.cells
    have ⟨z0, z1, z2, z3, z4, z5, z6⟩ := HR3.out.thaw
    simp only [zeroSt] at r0 r1 r2 r3 r4 r5 r6
    go_wp2
    exact st_ret (y := ⟨1, 0, 0, 0, 0, 0, 0⟩) HE.out rfl rfl ((HR3.out.put ⟨1, 0, 0, 0, 0, 0, 0⟩).keep (below_one _ _)) Try.underlying23 rfl (by kernel_rfl) rfl ((below_putSt B3.out (Nat.le_refl _) ⟨1, 0, 0, 0, 0, 0, 0⟩).alloc (below_putSt B3.out (Nat.le_refl _) ⟨1, 0, 0, 0, 0, 0, 0⟩).size _)

end Go.Proofs.Ythflfiacjgeelab
