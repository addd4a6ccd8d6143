/- The specification's lines and names of profiles. -/
import Derived.Test.YtbamjhldebobhaaGreatDoorPrA
import Derived.Test.YtbamjhldebobhaaGreatDoorStL
namespace Go.Proofs.YtbamjhldebobhaaGreatDoor
open Go.RowKit

theorem prField0 : ∀ (a b c d e f g h : Value) (w : World), (Instr.field 60 (.agg #[a, b, c, d, e, f, g, h]) 0).run Tryz.prog w = .ok a w := fun _ _ _ _ _ _ _ _ _ => by kernel_rfl
theorem prField7 : ∀ (a b c d e f g h : Value) (w : World), (Instr.field 60 (.agg #[a, b, c, d, e, f, g, h]) 7).run Tryz.prog w = .ok h w := fun _ _ _ _ _ _ _ _ _ => by kernel_rfl

/-- A profile in a block. -/
def PrAt (w : World) (g : Nat) (n : Int) (v : Value) : Prop := w.heap[g]? = some (.cells #[.string (prName n), .string (prHead n), v, .bool (prRight n), .bool (prShifts n), .bool (prSingle n), .bool (prReset n), .bool (prClear n)] 60)
theorem PrAt.lt {w : World} {g : Nat} {n : Int} {v : Value} (h : PrAt w g n v) : g < w.heap.size := (Array.getElem?_eq_some_iff.1 h).1
theorem PrAt.keep {w w' : World} {g : Nat} {n : Int} {v : Value} (h : PrAt w g n v) (b : Below w.heap.size w w') : PrAt w' g n v := (b.block g h.lt).trans h
theorem PrAt.cells {w : World} {g : Nat} {n : Int} {v : Value} (h : PrAt w g n v) : w.cell? ⟨g, 2, none⟩ = some v ∧ w.cell? ⟨g, 3, none⟩ = some (.bool (prRight n)) ∧ w.cell? ⟨g, 4, none⟩ = some (.bool (prShifts n)) ∧ w.cell? ⟨g, 5, none⟩ = some (.bool (prSingle n)) ∧ w.cell? ⟨g, 6, none⟩ = some (.bool (prReset n)) ∧ w.cell? ⟨g, 7, none⟩ = some (.bool (prClear n)) := by
  refine ⟨?_, ?_, ?_, ?_, ?_, ?_⟩ <;> (rw [cell_of_row _ _ _ _ _ _ h]; rfl)

set_option maxHeartbeats 400000 in
theorem spec_l05Rest (n : Int) (v : Value) (x : St) (w : World) : Calls Tryz.prog 114 #[prV n v, stV x] w fun e w' => e = .returned (.bool (restB n x)) ∧ Below w.heap.size w w' := by
  have HP := Lib.hid (spec_l04Pending x)
  have HR : Hid (restB n x = (!pendB x && (!prReset n || (decide (x.l = 0) && decide (x.g0 = 1))))) := Lib.hid rfl
  have B0 := Lib.hid (below_two w (.cells #[.string (prName n), .string (prHead n), v, .bool (prRight n), .bool (prShifts n), .bool (prSingle n), .bool (prReset n), .bool (prClear n)] 60) (.cells #[.int .i64 x.g0, .int .i64 x.g1, .int .i64 x.g2, .int .i64 x.g3, .int .i64 x.l, .int .i64 x.s, .int .i64 x.d] 39))
  have A0 : Hid (PrAt ((w.alloc (.cells #[.string (prName n), .string (prHead n), v, .bool (prRight n), .bool (prShifts n), .bool (prSingle n), .bool (prReset n), .bool (prClear n)] 60)).alloc (.cells #[.int .i64 x.g0, .int .i64 x.g1, .int .i64 x.g2, .int .i64 x.g3, .int .i64 x.l, .int .i64 x.s, .int .i64 x.d] 39)) w.heap.size n v) := Lib.hid (heap_alloc2_old _ _ _)
  have S0 : Hid (StAt ((w.alloc (.cells #[.string (prName n), .string (prHead n), v, .bool (prRight n), .bool (prShifts n), .bool (prSingle n), .bool (prReset n), .bool (prClear n)] 60)).alloc (.cells #[.int .i64 x.g0, .int .i64 x.g1, .int .i64 x.g2, .int .i64 x.g3, .int .i64 x.l, .int .i64 x.s, .int .i64 x.d] 39)) (w.heap.size + 1) x) := Lib.hid (heap_alloc2_new _ _ _)
  unfold prV stV
  unfold stV at HP
  generalize restB n x = q at *
  cases hp : pendB x
  · rw [hp] at HP HR
    go_enter Tryz.func114, Tryz.ntmps114
    go_wp2_with fail
    refine (HP.out _).mono ?_
    generalize (w.alloc (.cells #[.string (prName n), .string (prHead n), v, .bool (prRight n), .bool (prShifts n), .bool (prSingle n), .bool (prReset n), .bool (prClear n)] 60)).alloc (.cells #[.int .i64 x.g0, .int .i64 x.g1, .int .i64 x.g2, .int .i64 x.g3, .int .i64 x.l, .int .i64 x.s, .int .i64 x.d] 39) = W0 at *
    rintro e w1 ⟨rfl, b1⟩
    have ⟨_, _, _, _, p6, _⟩ := (A0.out.keep b1).cells
    have ⟨y0, _, _, _, y4, _, _⟩ := (S0.out.keep b1).cells
    have B1 : Hid (Below w.heap.size w w1) := Lib.hid (B0.out.trans (b1.mono B0.out.size))
    clear b1 A0 S0
    cases hr : prReset n
    · have HE : Hid (q = true) := Lib.hid (by rw [HR.out, hr]; rfl)
      rw [hr] at p6
      go_wp2
      go_ret
      exact ⟨ret_bool HE.out.symm, B1.out⟩
    · rw [hr] at p6
      by_cases hl : x.l = 0
      · have HE : Hid (q = (x.g0 == 1)) := Lib.hid (by rw [HR.out, hr, show decide (x.l = 0) = true by simpa using hl]; rfl)
        have el : (x.l == 0) = true := by simp [hl]
        clear hl
        go_wp2
        go_ret
        exact ⟨ret_bool HE.out.symm, B1.out⟩
      · have HE : Hid (q = false) := Lib.hid (by rw [HR.out, hr, show decide (x.l = 0) = false by simpa using hl]; rfl)
        have el : (x.l == 0) = false := by simp [hl]
        go_wp2
        go_ret
        exact ⟨ret_bool HE.out.symm, B1.out⟩
  · have HE : Hid (q = false) := Lib.hid (by rw [HR.out, hp]; rfl)
    rw [hp] at HP
    go_enter Tryz.func114, Tryz.ntmps114
    go_wp2_with fail
    refine (HP.out _).mono ?_
    generalize (w.alloc (.cells #[.string (prName n), .string (prHead n), v, .bool (prRight n), .bool (prShifts n), .bool (prSingle n), .bool (prReset n), .bool (prClear n)] 60)).alloc (.cells #[.int .i64 x.g0, .int .i64 x.g1, .int .i64 x.g2, .int .i64 x.g3, .int .i64 x.l, .int .i64 x.s, .int .i64 x.d] 39) = W0 at *
    rintro e w1 ⟨rfl, b1⟩
    have B1 : Hid (Below w.heap.size w w1) := Lib.hid (B0.out.trans (b1.mono B0.out.size))
    clear b1 A0 S0
    go_wp2
    go_ret
    exact ⟨ret_bool HE.out.symm, B1.out⟩

set_option maxHeartbeats 1000000 in
theorem spec_l05Line (n : Int) (x : St) (w : World) : Calls Tryz.prog 115 #[.int .i64 n, stV x] w (StDone (lineX n x) w) := by
  have HP := Lib.hid (fun w => spec_l05Profile n w)
  have HS := Lib.hid (fun w => spec_l05Start n w)
  have F7 := prField7
  have B0 := Lib.hid (below_two w (.cells #[.int .i64 x.g0, .int .i64 x.g1, .int .i64 x.g2, .int .i64 x.g3, .int .i64 x.l, .int .i64 x.s, .int .i64 x.d] 39) (.cells #[.int .i64 0, .int .i64 0, .int .i64 0, .int .i64 0, .int .i64 0, .int .i64 0, .int .i64 0] 39))
  have HB0 : Hid (StAt ((w.alloc (.cells #[.int .i64 x.g0, .int .i64 x.g1, .int .i64 x.g2, .int .i64 x.g3, .int .i64 x.l, .int .i64 x.s, .int .i64 x.d] 39)).alloc (.cells #[.int .i64 0, .int .i64 0, .int .i64 0, .int .i64 0, .int .i64 0, .int .i64 0, .int .i64 0] 39)) w.heap.size x) := Lib.hid (heap_alloc2_old _ _ _)
  have HS0 : Hid (StAt ((w.alloc (.cells #[.int .i64 x.g0, .int .i64 x.g1, .int .i64 x.g2, .int .i64 x.g3, .int .i64 x.l, .int .i64 x.s, .int .i64 x.d] 39)).alloc (.cells #[.int .i64 0, .int .i64 0, .int .i64 0, .int .i64 0, .int .i64 0, .int .i64 0, .int .i64 0] 39)) (w.heap.size + 1) zeroSt) := Lib.hid (heap_alloc2_new _ _ _)
  unfold PrDone prV at HP
  unfold StDone stV at HS
  unfold stV
  cases hc : prClear n
  · have HE : Hid (lineX n x = x) := Lib.hid (by simp [lineX, hc])
    rw [hc] at HP
    go_enter Tryz.func115, Tryz.ntmps115
    go_wp2_with fail
    refine (HP.out _).mono ?_
    generalize (w.alloc (.cells #[.int .i64 x.g0, .int .i64 x.g1, .int .i64 x.g2, .int .i64 x.g3, .int .i64 x.l, .int .i64 x.s, .int .i64 x.d] 39)).alloc (.cells #[.int .i64 0, .int .i64 0, .int .i64 0, .int .i64 0, .int .i64 0, .int .i64 0, .int .i64 0] 39) = W0 at *
    rintro e w1 ⟨v, rfl, _, b1⟩
    have B1 : Hid (Below w.heap.size w w1) := Lib.hid (B0.out.trans (b1.mono B0.out.size))
    have HB1 := Lib.hid (HB0.out.keep b1)
    have HS1 := Lib.hid (HS0.out.keep b1)
    clear b1 HB0 HS0
    have ⟨y0, y1, y2, y3, y4, y5, y6⟩ := HB1.out.cells
    have ⟨r0, r1, r2, r3, r4, r5, r6⟩ := HS1.out.cells
    have ⟨z0, z1, z2, z3, z4, z5, z6⟩ := HS1.out.thaw
    simp only [zeroSt] at r0 r1 r2 r3 r4 r5 r6
    have hl : w.heap.size + 1 < w1.heap.size := HS1.out.lt
    go_wp2
    exact st_ret (y := x) HE.out rfl rfl (HS1.out.put x) Tryz.underlying39 rfl (by kernel_rfl) rfl (below_putSt B1.out (Nat.le_succ _) x)
  · have HE : Hid (lineX n x = startP n) := Lib.hid (by simp [lineX, hc])
    rw [hc] at HP
    generalize startP n = y at *
    go_enter Tryz.func115, Tryz.ntmps115
    go_wp2_with fail
    refine (HP.out _).mono ?_
    generalize (w.alloc (.cells #[.int .i64 x.g0, .int .i64 x.g1, .int .i64 x.g2, .int .i64 x.g3, .int .i64 x.l, .int .i64 x.s, .int .i64 x.d] 39)).alloc (.cells #[.int .i64 0, .int .i64 0, .int .i64 0, .int .i64 0, .int .i64 0, .int .i64 0, .int .i64 0] 39) = W0 at *
    rintro e w1 ⟨v, rfl, _, b1⟩
    have B1 : Hid (Below w.heap.size w w1) := Lib.hid (B0.out.trans (b1.mono B0.out.size))
    have HS1 := Lib.hid (HS0.out.keep b1)
    clear b1 HB0 HS0
    go_wp2_with fail
    refine (HS.out _).mono ?_
    rintro e w2 ⟨rfl, b2⟩
    have B2 : Hid (Below w.heap.size w w2) := Lib.hid (B1.out.trans (b2.mono B1.out.size))
    have HS2 := Lib.hid (HS1.out.keep b2)
    clear b2 HS1
    have ⟨r0, r1, r2, r3, r4, r5, r6⟩ := HS2.out.cells
    have ⟨z0, z1, z2, z3, z4, z5, z6⟩ := HS2.out.thaw
    simp only [zeroSt] at r0 r1 r2 r3 r4 r5 r6
    have hl : w.heap.size + 1 < w2.heap.size := HS2.out.lt
    go_wp2
    exact st_ret (y := y) HE.out rfl rfl (HS2.out.put y) Tryz.underlying39 rfl (by kernel_rfl) rfl (below_putSt B2.out (Nat.le_succ _) y)

/-- The first number with that name; 0 of none. -/
def prNo (s : ByteArray) : Int := firstNo (fun k => decide (prName k = s)) 5 1
def pnC (s : ByteArray) : Int := if 65536 < s.size then 2 else if prNo s = 0 then 5 else 0
def pnR (s : ByteArray) : Int := if pnC s = 0 then prNo s else 0
def pnV (s : ByteArray) : Value := .tuple #[.int .i64 (pnR s), .int .i64 (pnC s)]
theorem pnV_bad (s : ByteArray) (c : Int) (h : pnC s = c) (h0 : c ≠ 0) : pnV s = .tuple #[.int .i64 0, .int .i64 c] := by simp [pnV, pnR, h, h0]
theorem pnV_ok (s : ByteArray) (h : pnC s = 0) : pnV s = .tuple #[.int .i64 (prNo s), .int .i64 0] := by simp [pnV, pnR, h]
theorem PrDone.part {n : Int} {w : World} {e : Ending} {w' : World} (h : PrDone n w e w') : ∃ v, e = .returned (prV n v) ∧ Below w.heap.size w w' := by
  obtain ⟨v, h1, _, h3⟩ := h
  exact ⟨v, h1, h3⟩

/-- AtRest and LineEnd: what they answer. -/
def arC (n : Int) (x : St) : Int := if proB n = true then (if stOKB x = true then 0 else 1) else 5
def arB (n : Int) (x : St) : Bool := proB n && (stOKB x && restB n x)
def leC (n : Int) (x : St) : Int := if proB n = true then (if stOKB x = true then (if restB n x = true then 0 else 14) else 1) else 5
def leX (n : Int) (x : St) : St := if leC n x = 0 then lineX n x else if leC n x = 14 then x else zeroSt
def ArDone (n : Int) (x : St) (w : World) (e : Ending) (w' : World) : Prop := e = .returned (.tuple #[.bool (arB n x), .int .i64 (arC n x)]) ∧ Below w.heap.size w w'
def LeDone (n : Int) (x : St) (w : World) (e : Ending) (w' : World) : Prop := e = .returned (.tuple #[stV (leX n x), .int .i64 (leC n x)]) ∧ Below w.heap.size w w'
theorem arDone_bad {n : Int} {x : St} {w w' : World} {c : Int} (h : arC n x = c) (h0 : c ≠ 0) (hb : Below w.heap.size w w') : ArDone n x w (.returned (.tuple #[.bool false, .int .i64 c])) w' := by
  refine ⟨?_, hb⟩
  have : arB n x = false := by
    unfold arC at h
    unfold arB
    cases h1 : proB n <;> cases h2 : stOKB x <;> simp_all
  rw [this, h]
theorem arDone_ok {n : Int} {x : St} {w w' : World} {b : Bool} (h1 : proB n = true) (h2 : stOKB x = true) (h3 : restB n x = b) (hb : Below w.heap.size w w') : ArDone n x w (.returned (.tuple #[.bool b, .int .i64 0])) w' := by
  refine ⟨?_, hb⟩
  rw [arB, arC, h1, h2, h3]
  simp


theorem leX_bad {n : Int} {x : St} {c : Int} (h : leC n x = c) (h0 : c ≠ 0) (h1 : c ≠ 14) : leX n x = zeroSt := by simp [leX, h, h0, h1]
theorem leX_14 {n : Int} {x : St} (h : leC n x = 14) : leX n x = x := by simp [leX, h]
theorem leX_ok {n : Int} {x : St} (h : leC n x = 0) : leX n x = lineX n x := by simp [leX, h]

end Go.Proofs.YtbamjhldebobhaaGreatDoor
