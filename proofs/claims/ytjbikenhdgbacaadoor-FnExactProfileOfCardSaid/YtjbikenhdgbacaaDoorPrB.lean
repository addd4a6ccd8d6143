/- The specification's lines and names of profiles. -/
import Derived.Test.YtjbikenhdgbacaaDoorPrA
import Derived.Test.YtjbikenhdgbacaaDoorStL
namespace Go.Proofs.YtjbikenhdgbacaaDoor
open Go.RowKit

theorem prField0 : ∀ (a b c d e f g h : Value) (w : World), (Instr.field 55 (.agg #[a, b, c, d, e, f, g, h]) 0).run Tryd.prog w = .ok a w := fun _ _ _ _ _ _ _ _ _ => by kernel_rfl
theorem prField7 : ∀ (a b c d e f g h : Value) (w : World), (Instr.field 55 (.agg #[a, b, c, d, e, f, g, h]) 7).run Tryd.prog w = .ok h w := fun _ _ _ _ _ _ _ _ _ => by kernel_rfl

/-- A profile in a block. -/
def PrAt (w : World) (g : Nat) (n : Int) (v : Value) : Prop := w.heap[g]? = some (.cells #[.string (prName n), .string (prHead n), v, .bool (prRight n), .bool (prShifts n), .bool (prSingle n), .bool (prReset n), .bool (prClear n)] 55)
theorem PrAt.lt {w : World} {g : Nat} {n : Int} {v : Value} (h : PrAt w g n v) : g < w.heap.size := (Array.getElem?_eq_some_iff.1 h).1
theorem PrAt.keep {w w' : World} {g : Nat} {n : Int} {v : Value} (h : PrAt w g n v) (b : Below w.heap.size w w') : PrAt w' g n v := (b.block g h.lt).trans h
theorem PrAt.cells {w : World} {g : Nat} {n : Int} {v : Value} (h : PrAt w g n v) : w.cell? ⟨g, 2, none⟩ = some v ∧ w.cell? ⟨g, 3, none⟩ = some (.bool (prRight n)) ∧ w.cell? ⟨g, 4, none⟩ = some (.bool (prShifts n)) ∧ w.cell? ⟨g, 5, none⟩ = some (.bool (prSingle n)) ∧ w.cell? ⟨g, 6, none⟩ = some (.bool (prReset n)) ∧ w.cell? ⟨g, 7, none⟩ = some (.bool (prClear n)) := by
  refine ⟨?_, ?_, ?_, ?_, ?_, ?_⟩ <;> (rw [cell_of_row _ _ _ _ _ _ h]; rfl)

set_option maxHeartbeats 400000 in
theorem spec_l05Rest (n : Int) (v : Value) (x : St) (w : World) : Calls Tryd.prog 88 #[prV n v, stV x] w fun e w' => e = .returned (.bool (restB n x)) ∧ Below w.heap.size w w' := by
  have HP := Lib.hid (spec_l04Pending x)
  have HR : Hid (restB n x = (!pendB x && (!prReset n || (decide (x.l = 0) && decide (x.g0 = 1))))) := Lib.hid rfl
  have B0 := Lib.hid (below_two w (.cells #[.string (prName n), .string (prHead n), v, .bool (prRight n), .bool (prShifts n), .bool (prSingle n), .bool (prReset n), .bool (prClear n)] 55) (.cells #[.int .i64 x.g0, .int .i64 x.g1, .int .i64 x.g2, .int .i64 x.g3, .int .i64 x.l, .int .i64 x.s, .int .i64 x.d] 24))
  have A0 : Hid (PrAt ((w.alloc (.cells #[.string (prName n), .string (prHead n), v, .bool (prRight n), .bool (prShifts n), .bool (prSingle n), .bool (prReset n), .bool (prClear n)] 55)).alloc (.cells #[.int .i64 x.g0, .int .i64 x.g1, .int .i64 x.g2, .int .i64 x.g3, .int .i64 x.l, .int .i64 x.s, .int .i64 x.d] 24)) w.heap.size n v) := Lib.hid (heap_alloc2_old _ _ _)
  have S0 : Hid (StAt ((w.alloc (.cells #[.string (prName n), .string (prHead n), v, .bool (prRight n), .bool (prShifts n), .bool (prSingle n), .bool (prReset n), .bool (prClear n)] 55)).alloc (.cells #[.int .i64 x.g0, .int .i64 x.g1, .int .i64 x.g2, .int .i64 x.g3, .int .i64 x.l, .int .i64 x.s, .int .i64 x.d] 24)) (w.heap.size + 1) x) := Lib.hid (heap_alloc2_new _ _ _)
  unfold prV stV
  unfold stV at HP
  generalize restB n x = q at *
  cases hp : pendB x
  · rw [hp] at HP HR
    go_enter Tryd.func88, Tryd.ntmps88
    go_wp2_with fail
    refine (HP.out _).mono ?_
    generalize (w.alloc (.cells #[.string (prName n), .string (prHead n), v, .bool (prRight n), .bool (prShifts n), .bool (prSingle n), .bool (prReset n), .bool (prClear n)] 55)).alloc (.cells #[.int .i64 x.g0, .int .i64 x.g1, .int .i64 x.g2, .int .i64 x.g3, .int .i64 x.l, .int .i64 x.s, .int .i64 x.d] 24) = W0 at *
    rintro e w1 ⟨rfl, b1⟩
    have ⟨_, _, _, _, p6, _⟩ := (A0.out.keep b1).cells
    have ⟨y0, _, _, _, y4, _, _⟩ := (S0.out.keep b1).cells
    have B1 : Hid (Below w.heap.size w w1) := Lib.hid (B0.out.trans (b1.mono B0.out.size))
    clear b1 A0 S0
    cases hr : prReset n
    · have HE : Hid (q = true) := Lib.hid (by rw [HR.out, hr]; rfl)
      rw [hr] at p6
      go_wp2
      go_ret
      exact ⟨ret_bool HE.out.symm, B1.out⟩
    · rw [hr] at p6
      by_cases hl : x.l = 0
      · have HE : Hid (q = (x.g0 == 1)) := Lib.hid (by rw [HR.out, hr, show decide (x.l = 0) = true by simpa using hl]; rfl)
        have el : (x.l == 0) = true := by simp [hl]
        clear hl
        go_wp2
        go_ret
        exact ⟨ret_bool HE.out.symm, B1.out⟩
      · have HE : Hid (q = false) := Lib.hid (by rw [HR.out, hr, show decide (x.l = 0) = false by simpa using hl]; rfl)
        have el : (x.l == 0) = false := by simp [hl]
        go_wp2
        go_ret
        exact ⟨ret_bool HE.out.symm, B1.out⟩
  · have HE : Hid (q = false) := Lib.hid (by rw [HR.out, hp]; rfl)
    rw [hp] at HP
    go_enter Tryd.func88, Tryd.ntmps88
    go_wp2_with fail
    refine (HP.out _).mono ?_
    generalize (w.alloc (.cells #[.string (prName n), .string (prHead n), v, .bool (prRight n), .bool (prShifts n), .bool (prSingle n), .bool (prReset n), .bool (prClear n)] 55)).alloc (.cells #[.int .i64 x.g0, .int .i64 x.g1, .int .i64 x.g2, .int .i64 x.g3, .int .i64 x.l, .int .i64 x.s, .int .i64 x.d] 24) = W0 at *
    rintro e w1 ⟨rfl, b1⟩
    have B1 : Hid (Below w.heap.size w w1) := Lib.hid (B0.out.trans (b1.mono B0.out.size))
    clear b1 A0 S0
    go_wp2
    go_ret
    exact ⟨ret_bool HE.out.symm, B1.out⟩

set_option maxHeartbeats 1000000 in
theorem spec_l05Line (n : Int) (x : St) (w : World) : Calls Tryd.prog 90 #[.int .i64 n, stV x] w (StDone (lineX n x) w) := by
  have HP := Lib.hid (fun w => spec_l05Profile n w)
  have HS := Lib.hid (fun w => spec_l05Start n w)
  have F7 := prField7
  have B0 := Lib.hid (below_two w (.cells #[.int .i64 x.g0, .int .i64 x.g1, .int .i64 x.g2, .int .i64 x.g3, .int .i64 x.l, .int .i64 x.s, .int .i64 x.d] 24) (.cells #[.int .i64 0, .int .i64 0, .int .i64 0, .int .i64 0, .int .i64 0, .int .i64 0, .int .i64 0] 24))
  have HB0 : Hid (StAt ((w.alloc (.cells #[.int .i64 x.g0, .int .i64 x.g1, .int .i64 x.g2, .int .i64 x.g3, .int .i64 x.l, .int .i64 x.s, .int .i64 x.d] 24)).alloc (.cells #[.int .i64 0, .int .i64 0, .int .i64 0, .int .i64 0, .int .i64 0, .int .i64 0, .int .i64 0] 24)) w.heap.size x) := Lib.hid (heap_alloc2_old _ _ _)
  have HS0 : Hid (StAt ((w.alloc (.cells #[.int .i64 x.g0, .int .i64 x.g1, .int .i64 x.g2, .int .i64 x.g3, .int .i64 x.l, .int .i64 x.s, .int .i64 x.d] 24)).alloc (.cells #[.int .i64 0, .int .i64 0, .int .i64 0, .int .i64 0, .int .i64 0, .int .i64 0, .int .i64 0] 24)) (w.heap.size + 1) zeroSt) := Lib.hid (heap_alloc2_new _ _ _)
  unfold PrDone prV at HP
  unfold StDone stV at HS
  unfold stV
  cases hc : prClear n
  · have HE : Hid (lineX n x = x) := Lib.hid (by simp [lineX, hc])
    rw [hc] at HP
    go_enter Tryd.func90, Tryd.ntmps90
    go_wp2_with fail
    refine (HP.out _).mono ?_
    generalize (w.alloc (.cells #[.int .i64 x.g0, .int .i64 x.g1, .int .i64 x.g2, .int .i64 x.g3, .int .i64 x.l, .int .i64 x.s, .int .i64 x.d] 24)).alloc (.cells #[.int .i64 0, .int .i64 0, .int .i64 0, .int .i64 0, .int .i64 0, .int .i64 0, .int .i64 0] 24) = W0 at *
    rintro e w1 ⟨v, rfl, _, b1⟩
    have B1 : Hid (Below w.heap.size w w1) := Lib.hid (B0.out.trans (b1.mono B0.out.size))
    have HB1 := Lib.hid (HB0.out.keep b1)
    have HS1 := Lib.hid (HS0.out.keep b1)
    clear b1 HB0 HS0
    have ⟨y0, y1, y2, y3, y4, y5, y6⟩ := HB1.out.cells
    have ⟨r0, r1, r2, r3, r4, r5, r6⟩ := HS1.out.cells
    have ⟨z0, z1, z2, z3, z4, z5, z6⟩ := HS1.out.thaw
    simp only [zeroSt] at r0 r1 r2 r3 r4 r5 r6
    have hl : w.heap.size + 1 < w1.heap.size := HS1.out.lt
    go_wp2
    exact st_ret (y := x) HE.out rfl rfl (HS1.out.put x) Tryd.underlying24 rfl (by kernel_rfl) rfl (below_putSt B1.out (Nat.le_succ _) x)
  · have HE : Hid (lineX n x = startP n) := Lib.hid (by simp [lineX, hc])
    rw [hc] at HP
    generalize startP n = y at *
    go_enter Tryd.func90, Tryd.ntmps90
    go_wp2_with fail
    refine (HP.out _).mono ?_
    generalize (w.alloc (.cells #[.int .i64 x.g0, .int .i64 x.g1, .int .i64 x.g2, .int .i64 x.g3, .int .i64 x.l, .int .i64 x.s, .int .i64 x.d] 24)).alloc (.cells #[.int .i64 0, .int .i64 0, .int .i64 0, .int .i64 0, .int .i64 0, .int .i64 0, .int .i64 0] 24) = W0 at *
    rintro e w1 ⟨v, rfl, _, b1⟩
    have B1 : Hid (Below w.heap.size w w1) := Lib.hid (B0.out.trans (b1.mono B0.out.size))
    have HS1 := Lib.hid (HS0.out.keep b1)
    clear b1 HB0 HS0
    go_wp2_with fail
    refine (HS.out _).mono ?_
    rintro e w2 ⟨rfl, b2⟩
    have B2 : Hid (Below w.heap.size w w2) := Lib.hid (B1.out.trans (b2.mono B1.out.size))
    have HS2 := Lib.hid (HS1.out.keep b2)
    clear b2 HS1
    have ⟨r0, r1, r2, r3, r4, r5, r6⟩ := HS2.out.cells
    have ⟨z0, z1, z2, z3, z4, z5, z6⟩ := HS2.out.thaw
    simp only [zeroSt] at r0 r1 r2 r3 r4 r5 r6
    have hl : w.heap.size + 1 < w2.heap.size := HS2.out.lt
    go_wp2
    exact st_ret (y := y) HE.out rfl rfl (HS2.out.put y) Tryd.underlying24 rfl (by kernel_rfl) rfl (below_putSt B2.out (Nat.le_succ _) y)

/-- The first number with that name; 0 of none. -/
def prNo (s : ByteArray) : Int := firstNo (fun k => decide (prName k = s)) 5 1
def pnC (s : ByteArray) : Int := if 65536 < s.size then 2 else if prNo s = 0 then 5 else 0
def pnR (s : ByteArray) : Int := if pnC s = 0 then prNo s else 0
def pnV (s : ByteArray) : Value := .tuple #[.int .i64 (pnR s), .int .i64 (pnC s)]
theorem pnV_bad (s : ByteArray) (c : Int) (h : pnC s = c) (h0 : c ≠ 0) : pnV s = .tuple #[.int .i64 0, .int .i64 c] := by simp [pnV, pnR, h, h0]
theorem pnV_ok (s : ByteArray) (h : pnC s = 0) : pnV s = .tuple #[.int .i64 (prNo s), .int .i64 0] := by simp [pnV, pnR, h]
theorem PrDone.part {n : Int} {w : World} {e : Ending} {w' : World} (h : PrDone n w e w') : ∃ v, e = .returned (prV n v) ∧ Below w.heap.size w w' := by
  obtain ⟨v, h1, _, h3⟩ := h
  exact ⟨v, h1, h3⟩

set_option maxHeartbeats 1000000 in
theorem spec_ProfileNamed (s : ByteArray) (w : World) (_hs : s.size ≤ 9223372036854775807) : Calls Tryd.prog 39 #[.string s] w fun e w' => e = .returned (pnV s) ∧ Below w.heap.size w w' := by
  by_cases hb : 65536 < s.size
  · have HE := Lib.hid (pnV_bad s 2 (by simp [pnC, hb]) (by decide))
    have hb' : (65536 : Int) < (s.size : Int) := by omega
    go_enter Tryd.func39, Tryd.ntmps39
    go_wp2
    go_ret2
    exact ⟨ret_val HE.out.symm, Below.refl _ _⟩
  · have hb' : (s.size : Int) ≤ 65536 := by omega
    have F0 := prField0
    have HP := Lib.hid (fun (k : Nat) (wr : World) (_ : Below w.heap.size w wr) (_ : 1 ≤ k) (_ : k ≤ 5) => (spec_l05Profile (k : Int) wr).mono (fun _ _ h => h.part))
    unfold prV at HP
    go_enter Tryd.func39, Tryd.ntmps39
    go_wp2
    go_loopw [4] (fun i wr => ∃ k f : Nat, k + f = 6 ∧ 1 ≤ k ∧ i = .int .i64 k ∧ Hid (prNo s = firstNo (fun k => decide (prName k = s)) f (k : Int)) ∧ Below w.heap.size w wr) (fun i _ => 6 - (intOf i).toNat)
    case atStart => exact ⟨1, 5, rfl, by omega, rfl, Lib.hid rfl, Below.refl _ _⟩
    case round =>
      obtain ⟨k, f, hk, hk1, rfl, HR, b⟩ := hrel
      by_cases hlt : k ≤ 5
      · obtain ⟨f, rfl⟩ : ∃ f', f = f' + 1 := ⟨f - 1, by omega⟩
        have hp := HP.out k wr b hk1 hlt
        go_wp2_with fail
        refine hp.mono ?_
        clear hp
        rintro e w1 ⟨v, rfl, b1⟩
        have B1 : Below w.heap.size w w1 := b.trans (b1.mono b.size)
        by_cases he : prName (k : Int) = s
        · have HE := Lib.hid (pnV_ok s (by
            have h2 : prNo s = (k : Int) := by rw [HR.out]; simp [firstNo, he]
            simp [pnC, hb, h2]; omega))
          have h2 : Hid (prNo s = (k : Int)) := Lib.hid (by rw [HR.out]; simp [firstNo, he])
          rw [he]
          go_wp2
          go_ret2
          refine ⟨ret_val ?_, B1⟩
          rw [HE.out, h2.out]
          rfl
        · have h2 : ((prName (k : Int)).toList == s.toList) = false := str_ne' he
          have HX : Hid (prNo s = firstNo (fun k => decide (prName k = s)) f ((k + 1 : Nat) : Int)) := Lib.hid (by rw [HR.out]; simp [firstNo, he])
          go_wp2
          go_roundw
          case rel => exact ⟨k + 1, f, by omega, by omega, by go_num, HX, B1⟩
          case measure => simp [intOf]; omega
      · have hf : f = 0 := by omega
        subst hf
        have HE := Lib.hid (pnV_bad s 5 (by have h2 : prNo s = 0 := by rw [HR.out]; rfl
                                            simp [pnC, hb, h2]) (by decide))
        go_wp2
        go_ret2
        exact ⟨ret_val HE.out.symm, b⟩

/-- AtRest and LineEnd: what they answer. -/
def arC (n : Int) (x : St) : Int := if proB n = true then (if stOKB x = true then 0 else 1) else 5
def arB (n : Int) (x : St) : Bool := proB n && (stOKB x && restB n x)
def leC (n : Int) (x : St) : Int := if proB n = true then (if stOKB x = true then (if restB n x = true then 0 else 14) else 1) else 5
def leX (n : Int) (x : St) : St := if leC n x = 0 then lineX n x else if leC n x = 14 then x else zeroSt
def ArDone (n : Int) (x : St) (w : World) (e : Ending) (w' : World) : Prop := e = .returned (.tuple #[.bool (arB n x), .int .i64 (arC n x)]) ∧ Below w.heap.size w w'
def LeDone (n : Int) (x : St) (w : World) (e : Ending) (w' : World) : Prop := e = .returned (.tuple #[stV (leX n x), .int .i64 (leC n x)]) ∧ Below w.heap.size w w'
theorem arDone_bad {n : Int} {x : St} {w w' : World} {c : Int} (h : arC n x = c) (h0 : c ≠ 0) (hb : Below w.heap.size w w') : ArDone n x w (.returned (.tuple #[.bool false, .int .i64 c])) w' := by
  refine ⟨?_, hb⟩
  have : arB n x = false := by
    unfold arC at h
    unfold arB
    cases h1 : proB n <;> cases h2 : stOKB x <;> simp_all
  rw [this, h]
theorem arDone_ok {n : Int} {x : St} {w w' : World} {b : Bool} (h1 : proB n = true) (h2 : stOKB x = true) (h3 : restB n x = b) (hb : Below w.heap.size w w') : ArDone n x w (.returned (.tuple #[.bool b, .int .i64 0])) w' := by
  refine ⟨?_, hb⟩
  rw [arB, arC, h1, h2, h3]
  simp

set_option maxHeartbeats 1000000 in
theorem spec_AtRest (n : Int) (x : St) (w : World) : Calls Tryd.prog 43 #[.int .i64 n, stV x] w (ArDone n x w) := by
  have HN := Lib.hid (fun w => spec_l05No n w)
  have HO := Lib.hid (spec_l04OK x)
  have HP := Lib.hid (fun w => spec_l05Profile n w)
  have HR := Lib.hid (fun v w => spec_l05Rest n v x w)
  have B0 := Lib.hid (below_one w (.cells #[.int .i64 x.g0, .int .i64 x.g1, .int .i64 x.g2, .int .i64 x.g3, .int .i64 x.l, .int .i64 x.s, .int .i64 x.d] 24))
  have S0 := Lib.hid (StAt.new w x)
  unfold PrDone at HP
  unfold prV at HP HR
  unfold stV at HO HR ⊢
  cases hn : proB n
  · have HC : Hid (arC n x = 5) := Lib.hid (by simp [arC, hn])
    rw [hn] at HN
    go_enter Tryd.func43, Tryd.ntmps43
    go_wp2_with fail
    refine (HN.out _).mono ?_
    rintro e w1 ⟨rfl, rfl⟩
    go_wp2
    go_ret2
    exact arDone_bad HC.out (by decide) B0.out
  have HN1 := Lib.hid hn
  rw [hn] at HN
  clear hn
  cases ho : stOKB x
  · have HC : Hid (arC n x = 1) := Lib.hid (by simp [arC, HN1.out, ho])
    rw [ho] at HO
    go_enter Tryd.func43, Tryd.ntmps43
    go_wp2_with fail
    refine (HN.out _).mono ?_
    rintro e w1 ⟨rfl, rfl⟩
    go_wp2_with fail
    refine (HO.out _).mono ?_
    generalize w.alloc (.cells #[.int .i64 x.g0, .int .i64 x.g1, .int .i64 x.g2, .int .i64 x.g3, .int .i64 x.l, .int .i64 x.s, .int .i64 x.d] 24) = W0 at *
    rintro e w1 ⟨rfl, b1⟩
    have B1 : Hid (Below w.heap.size w w1) := Lib.hid (B0.out.trans (b1.mono B0.out.size))
    clear b1
    go_wp2
    go_ret2
    exact arDone_bad HC.out (by decide) B1.out
  · have HO1 := Lib.hid ho
    rw [ho] at HO
    clear ho
    go_enter Tryd.func43, Tryd.ntmps43
    go_wp2_with fail
    refine (HN.out _).mono ?_
    rintro e w1 ⟨rfl, rfl⟩
    go_wp2_with fail
    refine (HO.out _).mono ?_
    generalize w.alloc (.cells #[.int .i64 x.g0, .int .i64 x.g1, .int .i64 x.g2, .int .i64 x.g3, .int .i64 x.l, .int .i64 x.s, .int .i64 x.d] 24) = W0 at *
    rintro e w1 ⟨rfl, b1⟩
    have B1 : Hid (Below w.heap.size w w1) := Lib.hid (B0.out.trans (b1.mono B0.out.size))
    have S1 := Lib.hid (S0.out.keep b1)
    clear b1 S0
    obtain ⟨q, hq⟩ : ∃ q, restB n x = q := ⟨_, rfl⟩
    rw [hq] at HR
    have HQ := Lib.hid hq
    clear hq
    have ⟨y0, y1, y2, y3, y4, y5, y6⟩ := S1.out.cells
    go_wp2_with fail
    go_region_with ((first | (go_at_call 78; refine (HP.out _).mono ?_; rintro e w2 ⟨v, rfl, _, b2⟩; have b12 : Below w1.heap.size w1 w2 := bel_drew b2; have B2 : Hid (Below w.heap.size w w2) := Lib.hid (B1.out.trans (b12.mono B1.out.size)); have ⟨p0, p1, p2, p3, p4, p5, p6⟩ := (S1.out.keep b12).cells; clear b2 b12) | (go_at_call 88; refine (HR.out _ _).mono ?_; rintro e w3 ⟨rfl, b3⟩; have B3 : Hid (Below w.heap.size w w3) := Lib.hid (B2.out.trans (b3.mono B2.out.size)); clear b3)))
    all_goals
      go_wp2
      go_ret2
      exact arDone_ok HN1.out HO1.out HQ.out B3.out


theorem leX_bad {n : Int} {x : St} {c : Int} (h : leC n x = c) (h0 : c ≠ 0) (h1 : c ≠ 14) : leX n x = zeroSt := by simp [leX, h, h0, h1]
theorem leX_14 {n : Int} {x : St} (h : leC n x = 14) : leX n x = x := by simp [leX, h]
theorem leX_ok {n : Int} {x : St} (h : leC n x = 0) : leX n x = lineX n x := by simp [leX, h]

set_option maxHeartbeats 2000000 in
theorem spec_LineEnd (n : Int) (x : St) (w : World) : Calls Tryd.prog 46 #[.int .i64 n, stV x] w (LeDone n x w) := by
  have HN := Lib.hid (fun w => spec_l05No n w)
  have HO := Lib.hid (spec_l04OK x)
  have HP := Lib.hid (fun w => spec_l05Profile n w)
  have HR := Lib.hid (fun v w => spec_l05Rest n v x w)
  have HL := Lib.hid (fun w => spec_l05Line n x w)
  have B0 := Lib.hid (below_two w (.cells #[.int .i64 x.g0, .int .i64 x.g1, .int .i64 x.g2, .int .i64 x.g3, .int .i64 x.l, .int .i64 x.s, .int .i64 x.d] 24) (.cells #[.int .i64 0, .int .i64 0, .int .i64 0, .int .i64 0, .int .i64 0, .int .i64 0, .int .i64 0] 24))
  have S0 : Hid (StAt ((w.alloc (.cells #[.int .i64 x.g0, .int .i64 x.g1, .int .i64 x.g2, .int .i64 x.g3, .int .i64 x.l, .int .i64 x.s, .int .i64 x.d] 24)).alloc (.cells #[.int .i64 0, .int .i64 0, .int .i64 0, .int .i64 0, .int .i64 0, .int .i64 0, .int .i64 0] 24)) w.heap.size x) := Lib.hid (heap_alloc2_old _ _ _)
  have Z0 : Hid (StAt ((w.alloc (.cells #[.int .i64 x.g0, .int .i64 x.g1, .int .i64 x.g2, .int .i64 x.g3, .int .i64 x.l, .int .i64 x.s, .int .i64 x.d] 24)).alloc (.cells #[.int .i64 0, .int .i64 0, .int .i64 0, .int .i64 0, .int .i64 0, .int .i64 0, .int .i64 0] 24)) (w.heap.size + 1) zeroSt) := Lib.hid (heap_alloc2_new _ _ _)
  unfold PrDone at HP
  unfold prV at HP HR
  unfold StDone at HL
  unfold stV at HO HR HL ⊢
  cases hn : proB n
  · have HC : Hid (leC n x = 5) := Lib.hid (by simp [leC, hn])
    have HE := Lib.hid (leX_bad HC.out (by decide) (by decide))
    rw [hn] at HN
    go_enter Tryd.func46, Tryd.ntmps46
    go_wp2_with fail
    refine (HN.out _).mono ?_
    rintro e w1 ⟨rfl, rfl⟩
    go_wp2
    exact st_ret2 (y := zeroSt) rfl rfl rfl Z0.out Tryd.underlying24 rfl (by kernel_rfl) rfl ⟨by rw [HC.out, HE.out], B0.out⟩
  have HN1 := Lib.hid hn
  rw [hn] at HN
  clear hn
  cases ho : stOKB x
  · have HC : Hid (leC n x = 1) := Lib.hid (by simp [leC, HN1.out, ho])
    have HE := Lib.hid (leX_bad HC.out (by decide) (by decide))
    rw [ho] at HO
    go_enter Tryd.func46, Tryd.ntmps46
    go_wp2_with fail
    refine (HN.out _).mono ?_
    rintro e w1 ⟨rfl, rfl⟩
    go_wp2_with fail
    refine (HO.out _).mono ?_
    generalize (w.alloc (.cells #[.int .i64 x.g0, .int .i64 x.g1, .int .i64 x.g2, .int .i64 x.g3, .int .i64 x.l, .int .i64 x.s, .int .i64 x.d] 24)).alloc (.cells #[.int .i64 0, .int .i64 0, .int .i64 0, .int .i64 0, .int .i64 0, .int .i64 0, .int .i64 0] 24) = W0 at *
    rintro e w1 ⟨rfl, b1⟩
    have B1 : Hid (Below w.heap.size w w1) := Lib.hid (B0.out.trans (b1.mono B0.out.size))
    have Z1 := Lib.hid (Z0.out.keep b1)
    clear b1 Z0 S0
    have ⟨r0, r1, r2, r3, r4, r5, r6⟩ := Z1.out.cells
    have ⟨z0, z1, z2, z3, z4, z5, z6⟩ := Z1.out.thaw
    simp only [zeroSt] at r0 r1 r2 r3 r4 r5 r6
    have hl : w.heap.size + 1 < w1.heap.size := Z1.out.lt
    go_wp2
    exact st_ret2 (y := zeroSt) rfl rfl rfl (Z1.out.put zeroSt) Tryd.underlying24 rfl (by kernel_rfl) rfl ⟨by rw [HC.out, HE.out], below_putSt B1.out (Nat.le_succ _) zeroSt⟩
  · have HO1 := Lib.hid ho
    rw [ho] at HO
    clear ho
    go_enter Tryd.func46, Tryd.ntmps46
    go_wp2_with fail
    refine (HN.out _).mono ?_
    rintro e w1 ⟨rfl, rfl⟩
    go_wp2_with fail
    refine (HO.out _).mono ?_
    generalize (w.alloc (.cells #[.int .i64 x.g0, .int .i64 x.g1, .int .i64 x.g2, .int .i64 x.g3, .int .i64 x.l, .int .i64 x.s, .int .i64 x.d] 24)).alloc (.cells #[.int .i64 0, .int .i64 0, .int .i64 0, .int .i64 0, .int .i64 0, .int .i64 0, .int .i64 0] 24) = W0 at *
    rintro e w1 ⟨rfl, b1⟩
    have B1 : Hid (Below w.heap.size w w1) := Lib.hid (B0.out.trans (b1.mono B0.out.size))
    have S1 := Lib.hid (S0.out.keep b1)
    have Z1 := Lib.hid (Z0.out.keep b1)
    clear b1 S0 Z0
    have ⟨y0, y1, y2, y3, y4, y5, y6⟩ := S1.out.cells
    cases hr : restB n x
    · have HC : Hid (leC n x = 14) := Lib.hid (by simp [leC, HN1.out, HO1.out, hr])
      have HE := Lib.hid (leX_14 HC.out)
      rw [hr] at HR
      go_wp2_with fail
      go_region_with ((first | (go_at_call 78; refine (HP.out _).mono ?_; rintro e w2 ⟨v, rfl, _, b2⟩; have b12 : Below w1.heap.size w1 w2 := bel_drew b2; have B2 : Hid (Below w.heap.size w w2) := Lib.hid (B1.out.trans (b12.mono B1.out.size)); have S2 := Lib.hid (S1.out.keep b12); have Z2 := Lib.hid (Z1.out.keep b12); have ⟨p0, p1, p2, p3, p4, p5, p6⟩ := S2.out.cells; clear b2 b12) | (go_at_call 88; refine (HR.out _ _).mono ?_; rintro e w3 ⟨rfl, b3⟩; have B3 : Hid (Below w.heap.size w w3) := Lib.hid (B2.out.trans (b3.mono B2.out.size)); have S3 := Lib.hid (S2.out.keep b3); have Z3 := Lib.hid (Z2.out.keep b3); clear b3)))
      all_goals
        clear y0 y1 y2 y3 y4 y5 y6 p0 p1 p2 p3 p4 p5 p6
        have ⟨y0, y1, y2, y3, y4, y5, y6⟩ := S3.out.cells
        have ⟨r0, r1, r2, r3, r4, r5, r6⟩ := Z3.out.cells
        have ⟨z0, z1, z2, z3, z4, z5, z6⟩ := Z3.out.thaw
        simp only [zeroSt] at r0 r1 r2 r3 r4 r5 r6
        have hl : w.heap.size + 1 < w3.heap.size := Z3.out.lt
        go_wp2
        exact st_ret2 (y := x) rfl rfl rfl (Z3.out.put x) Tryd.underlying24 rfl (by kernel_rfl) rfl ⟨by rw [HC.out, HE.out], below_putSt B3.out (Nat.le_succ _) x⟩
    · have HC : Hid (leC n x = 0) := Lib.hid (by simp [leC, HN1.out, HO1.out, hr])
      have HE := Lib.hid (leX_ok HC.out)
      rw [hr] at HR
      generalize lineX n x = y at *
      go_wp2_with fail
      go_region_with ((first | (go_at_call 78; refine (HP.out _).mono ?_; rintro e w2 ⟨v, rfl, _, b2⟩; have b12 : Below w1.heap.size w1 w2 := bel_drew b2; have B2 : Hid (Below w.heap.size w w2) := Lib.hid (B1.out.trans (b12.mono B1.out.size)); have S2 := Lib.hid (S1.out.keep b12); have Z2 := Lib.hid (Z1.out.keep b12); have ⟨p0, p1, p2, p3, p4, p5, p6⟩ := S2.out.cells; clear b2 b12) | (go_at_call 88; refine (HR.out _ _).mono ?_; rintro e w3 ⟨rfl, b3⟩; have B3 : Hid (Below w.heap.size w w3) := Lib.hid (B2.out.trans (b3.mono B2.out.size)); have S3 := Lib.hid (S2.out.keep b3); have Z3 := Lib.hid (Z2.out.keep b3); clear b3)))
      all_goals
        clear y0 y1 y2 y3 y4 y5 y6 p0 p1 p2 p3 p4 p5 p6
        have ⟨y0, y1, y2, y3, y4, y5, y6⟩ := S3.out.cells
        go_wp2_with fail
        refine (HL.out _).mono ?_
        clear y0 y1 y2 y3 y4 y5 y6
        rintro e w4 ⟨rfl, b4⟩
        have B4 : Hid (Below w.heap.size w w4) := Lib.hid (B3.out.trans (b4.mono B3.out.size))
        have Z4 := Lib.hid (Z3.out.keep b4)
        clear b4
        have ⟨r0, r1, r2, r3, r4, r5, r6⟩ := Z4.out.cells
        have ⟨z0, z1, z2, z3, z4, z5, z6⟩ := Z4.out.thaw
        simp only [zeroSt] at r0 r1 r2 r3 r4 r5 r6
        have hl : w.heap.size + 1 < w4.heap.size := Z4.out.lt
        go_wp2
        exact st_ret2 (y := y) rfl rfl rfl (Z4.out.put y) Tryd.underlying24 rfl (by kernel_rfl) rfl ⟨by rw [HC.out, HE.out], below_putSt B4.out (Nat.le_succ _) y⟩

end Go.Proofs.YtjbikenhdgbacaaDoor
