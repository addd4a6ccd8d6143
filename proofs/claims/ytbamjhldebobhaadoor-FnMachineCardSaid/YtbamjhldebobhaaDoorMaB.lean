/- The program's valid registers. -/
import Derived.Test.YtbamjhldebobhaaDoorMaA
namespace Go.Proofs.YtbamjhldebobhaaDoor
open Go.RowKit

/-- The table's kinds, with that of its first entry, which is no set. -/
def kind0 (q : Int) : Int := if q = 0 then 0 else setKind q
def TabM (w : World) : Prop := TabSets w ∧ w.cell? ⟨0, 1, none⟩ = some (.int .i64 0)
theorem TabM.keep {w w' : World} (h : TabM w) (hb : Below w.heap.size w w') : TabM w' := ⟨h.1.keep hb, by rw [hb.cell (World.block_lt_of_cell? w _ h.2)]; exact h.2⟩
theorem TabM.kind {w : World} (h : TabM w) (k : Nat) (hk : k ≤ 8) : w.cell? ⟨0, k * 4 + 1, none⟩ = some (.int .i64 (kind0 k)) := by
  by_cases h0 : k = 0
  · subst h0; exact h.2
  · have := (h.1 k (by omega) hk).2.1
    rw [this, kind0, if_neg (by omega)]

/-- A designation can put the set of register n there. -/
def rgB (x : St) (n : Int) : Bool := setB (stGet x n) && regB (setKind (stGet x n)) n
def rI (x : St) (j n : Nat) : Int := if n < j ∧ rgB x n = true then stGet x n else if n = 0 then 1 else 0
def RAt (w : World) (b : Nat) (x : St) (j : Nat) : Prop := w.heap[b]? = some (.cells #[.int .i64 (rI x j 0), .int .i64 (rI x j 1), .int .i64 (rI x j 2), .int .i64 (rI x j 3)] 50)
theorem rI_same {x : St} {j n : Nat} (h : n ≠ j ∨ rgB x n = false) : rI x (j + 1) n = rI x j n := by
  unfold rI
  rcases h with h | h
  · have : (n < j + 1) ↔ (n < j) := by omega
    simp only [this]
  · rw [h]; simp
theorem rI_new {x : St} {j : Nat} (h : rgB x j = true) : rI x (j + 1) j = stGet x j := by
  unfold rI; rw [if_pos ⟨by omega, h⟩]
theorem RAt.skip {w : World} {b : Nat} {x : St} {j : Nat} (h : RAt w b x j) (hf : rgB x j = false) : RAt w b x (j + 1) := by
  have e : ∀ n, rI x (j + 1) n = rI x j n := fun n => by
    by_cases hn : n = j
    · subst hn; exact rI_same (.inr hf)
    · exact rI_same (.inl hn)
  unfold RAt
  rw [e, e, e, e]
  exact h
theorem RAt.cells {w : World} {b : Nat} {x : St} {j : Nat} (h : RAt w b x j) : w.cell? ⟨b, 0, none⟩ = some (.int .i64 (rI x j 0)) ∧ w.cell? ⟨b, 1, none⟩ = some (.int .i64 (rI x j 1)) ∧ w.cell? ⟨b, 2, none⟩ = some (.int .i64 (rI x j 2)) ∧ w.cell? ⟨b, 3, none⟩ = some (.int .i64 (rI x j 3)) := by
  refine ⟨?_, ?_, ?_, ?_⟩ <;> (rw [cell_of_row _ _ _ _ _ _ h]; rfl)
theorem RAt.thaw {w : World} {b : Nat} {x : St} {j : Nat} (h : RAt w b x j) : w.frozen? ⟨b, 0, none⟩ = false ∧ w.frozen? ⟨b, 1, none⟩ = false ∧ w.frozen? ⟨b, 2, none⟩ = false ∧ w.frozen? ⟨b, 3, none⟩ = false :=
  ⟨frozen_of_row w _ 0 _ _ h, frozen_of_row w _ 1 _ _ h, frozen_of_row w _ 2 _ _ h, frozen_of_row w _ 3 _ _ h⟩
theorem RAt.lt {w : World} {g : Nat} {x : St} {j : Nat} (h : RAt w g x j) : g < w.heap.size := (Array.getElem?_eq_some_iff.1 h).1
theorem RAt.new (w : World) (x : St) : RAt (w.alloc (.cells #[.int .i64 1, .int .i64 0, .int .i64 0, .int .i64 0] 50)) w.heap.size x 0 := by
  have : ∀ n, rI x 0 n = if n = 0 then 1 else 0 := fun n => by unfold rI; rw [if_neg (by omega)]
  unfold RAt
  rw [this, this, this, this]
  exact heap_alloc_new _ _
theorem RAt.put {w : World} {b : Nat} {x : St} {j : Nat} (h : RAt w b x j) (hj : j < 4) (ht : rgB x j = true) : RAt (w.setCell ⟨b, j, none⟩ (.int .i64 (stGet x j))) b x (j + 1) := by
  have k := heap_setCell_same w b j _ _ (.int .i64 (stGet x j)) h
  unfold RAt
  rw [k]
  have e : ∀ n, n ≠ j → rI x (j + 1) n = rI x j n := fun n hn => rI_same (.inl hn)
  have e1 := rI_new ht
  have : j = 0 ∨ j = 1 ∨ j = 2 ∨ j = 3 := by omega
  rcases this with rfl | rfl | rfl | rfl
  · rw [e1, e 1 (by decide), e 2 (by decide), e 3 (by decide)]; rfl
  · rw [e1, e 0 (by decide), e 2 (by decide), e 3 (by decide)]; rfl
  · rw [e1, e 0 (by decide), e 1 (by decide), e 3 (by decide)]; rfl
  · rw [e1, e 0 (by decide), e 1 (by decide), e 2 (by decide)]; rfl

theorem reg_pure0 (g : Int) : ((if (setB g && regB (setKind g) 0) = true then g else 1) == g) = (inB g 0 8 && !(decide ((0 : Int) = 0) && (decide (g = 0) || decide (setKind g = 2)))) := by
  have hb : regB (setKind g) 0 = !decide (setKind g = 2) := by simp [regB, inB]
  rw [hb]
  by_cases h1 : 1 ≤ g ∧ g ≤ 8
  · have e1 : setB g = true := by simp [setB, inB, h1.1, h1.2]
    have e2 : inB g 0 8 = true := by simp [inB]; omega
    have e3 : decide (g = 0) = false := by simp; omega
    by_cases h2 : setKind g = 2
    · have e4 : ¬ (1 : Int) = g := fun h => by rw [← h] at h2; revert h2; decide
      simp [e1, e2, e3, h2, e4]
    · simp [e1, e2, e3, h2]
  · have e1 : setB g = false := by simp [setB, inB]; omega
    have e4 : ¬ (1 : Int) = g := by omega
    by_cases h6 : g = 0
    · subst h6; decide
    · have e2 : inB g 0 8 = false := by simp [inB]; omega
      simp [e1, e2, e4]
theorem reg_pureN (g : Int) (n : Nat) (h0 : n ≠ 0) (hn : n < 4) : ((if (setB g && regB (setKind g) n) = true then g else 0) == g) = (inB g 0 8 && !(decide ((n : Int) = 0) && (decide (g = 0) || decide (setKind g = 2)))) := by
  have hz : decide ((n : Int) = 0) = false := decide_eq_false (by omega)
  have hi : inB (n : Int) 0 3 = true := by simp [inB]; omega
  have hb : regB (setKind g) n = true := by rw [regB, hi, hz]; simp
  rw [hb, hz]
  by_cases h1 : 1 ≤ g ∧ g ≤ 8
  · have e1 : setB g = true := by simp [setB, inB, h1.1, h1.2]
    have e2 : inB g 0 8 = true := by simp [inB]; omega
    simp [e1, e2]
  · have e1 : setB g = false := by simp [setB, inB]; omega
    by_cases h6 : g = 0
    · subst h6; decide
    · have e2 : inB g 0 8 = false := by simp [inB]; omega
      have e4 : ¬ (0 : Int) = g := by omega
      simp [e1, e2, e4]
theorem rI4 (x : St) (n : Nat) (hn : n < 4) : (rI x 4 n == stGet x n) = regOK x n := by
  unfold rI regOK rgB
  generalize stGet x n = g
  by_cases h0 : n = 0
  · subst h0
    have := reg_pure0 g
    simpa using this
  · have := reg_pureN g n h0 hn
    simp only [hn, true_and, if_neg h0]
    exact this

theorem regs_eq (x : St) : ((rI x 4 0 == x.g0) && ((rI x 4 1 == x.g1) && ((rI x 4 2 == x.g2) && (rI x 4 3 == x.g3)))) = regsOK x := by
  unfold regsOK
  have h0 := rI4 x 0 (by decide)
  have h1 := rI4 x 1 (by decide)
  have h2 := rI4 x 2 (by decide)
  have h3 := rI4 x 3 (by decide)
  have g0 : stGet x ((0 : Nat) : Int) = x.g0 := rfl
  have g1 : stGet x ((1 : Nat) : Int) = x.g1 := rfl
  have g2 : stGet x ((2 : Nat) : Int) = x.g2 := rfl
  have g3 : stGet x ((3 : Nat) : Int) = x.g3 := rfl
  rw [g0] at h0
  rw [g1] at h1
  rw [g2] at h2
  rw [g3] at h3
  rw [h0, h1, h2, h3]
  rfl

/-- Two arrays of four ints compared. -/
theorem equal4 (d : Nat) (a0 a1 a2 a3 b0 b1 b2 b3 : Int) (w : World) : (Op.equalIn (d + 2) 50 (.agg #[.int .i64 a0, .int .i64 a1, .int .i64 a2, .int .i64 a3]) (.agg #[.int .i64 b0, .int .i64 b1, .int .i64 b2, .int .i64 b3])).run Tryd.prog w = .ok ((a0 == b0) && ((a1 == b1) && ((a2 == b2) && (a3 == b3)))) w := by
  have hsz : ∀ w, (sizeOf 3).run Tryd.prog w = .ok 1 w := fun w => by kernel_rfl
  have he := Tryd.underlying3
  have q : ∀ (x y : Int), (Op.equalIn (d + 1) 3 (.int .i64 x) (.int .i64 y)).run Tryd.prog w = .ok (x == y) w := fun x y => run_equalIn_int w d 3 .i64 .i64 x y he
  have p : ∀ (i : Nat) (xs : Array Value) (v : Value), xs[i]? = some v → (part 3 xs i).run Tryd.prog w = .ok v w := fun i xs v h => by
    simp [part, isAgg, run_underlying he, h]
  rw [Op.equalIn]
  simp only [Sem.run_bind, run_underlying Tryd.underlying50, Result.andThen_ok, hsz, Std.Legacy.Range.forIn_eq_forIn_range', Std.Legacy.Range.size, Nat.sub_zero, Nat.add_sub_cancel, Nat.div_one]
  rw [show List.range' 0 4 1 = [0, 1, 2, 3] from rfl]
  simp only [List.forIn_cons, Sem.run_bind, Nat.mul_one]
  have x0 := p 0 #[.int .i64 a0, .int .i64 a1, .int .i64 a2, .int .i64 a3] _ rfl
  have y0 := p 0 #[.int .i64 b0, .int .i64 b1, .int .i64 b2, .int .i64 b3] _ rfl
  have q0 := q a0 b0
  have x1 := p 1 #[.int .i64 a0, .int .i64 a1, .int .i64 a2, .int .i64 a3] _ rfl
  have y1 := p 1 #[.int .i64 b0, .int .i64 b1, .int .i64 b2, .int .i64 b3] _ rfl
  have q1 := q a1 b1
  have x2 := p 2 #[.int .i64 a0, .int .i64 a1, .int .i64 a2, .int .i64 a3] _ rfl
  have y2 := p 2 #[.int .i64 b0, .int .i64 b1, .int .i64 b2, .int .i64 b3] _ rfl
  have q2 := q a2 b2
  have x3 := p 3 #[.int .i64 a0, .int .i64 a1, .int .i64 a2, .int .i64 a3] _ rfl
  have y3 := p 3 #[.int .i64 b0, .int .i64 b1, .int .i64 b2, .int .i64 b3] _ rfl
  have q3 := q a3 b3
  generalize (a0 == b0) = c0 at q0 ⊢
  generalize (a1 == b1) = c1 at q1 ⊢
  generalize (a2 == b2) = c2 at q2 ⊢
  generalize (a3 == b3) = c3 at q3 ⊢
  cases c0
  · simp [x0, y0, q0]
  cases c1
  · simp [x0, y0, q0, x1, y1, q1]
  cases c2
  · simp [x0, y0, q0, x1, y1, q1, x2, y2, q2]
  cases c3
  · simp [x0, y0, q0, x1, y1, q1, x2, y2, q2, x3, y3, q3]
  · simp [x0, y0, q0, x1, y1, q1, x2, y2, q2, x3, y3, q3]

set_option maxHeartbeats 4000000 in
set_option maxRecDepth 100000 in
theorem impl_regsOK (x : St) (b : Nat) (w : World) (h : MAt w b x) (ht : TabM w) : Calls Tryd.prog 49 #[.pointer (some ⟨b, 0, none⟩)] w fun e w' => e = .returned (.bool (regsOK x)) ∧ Below w.heap.size w w' := by
  have HM := Lib.hid h
  have HT := Lib.hid ht
  have hbl : b < w.heap.size := h.lt
  have HR0 := Lib.hid (RAt.new w x)
  have B0 := Lib.hid (below_one w (.cells #[.int .i64 1, .int .i64 0, .int .i64 0, .int .i64 0] 50))
  clear h ht
  go_enter Tryd.func49, Tryd.ntmps49
  go_wp2
  generalize w.alloc (.cells #[.int .i64 1, .int .i64 0, .int .i64 0, .int .i64 0] 50) = w0 at *
  go_loopw [8] (fun i wr => ∃ j : Nat, j ≤ 4 ∧ i = .int .i64 j ∧ Hid (RAt wr w.heap.size x j) ∧ Hid (Below w.heap.size w wr)) (fun i _ => 4 - (intOf i).toNat)
  case atStart => exact ⟨0, by omega, rfl, HR0, B0⟩
  case round =>
    obtain ⟨j, hj, rfl, HR, BW⟩ := hrel
    by_cases hlt : j < 4
    · have HTr := Lib.hid (HT.out.keep BW.out)
      have HMr := Lib.hid (HM.out.keep BW.out)
      clear HM HT HR0 B0
      have hsz : w.heap.size < wr.heap.size := HR.out.lt
      have HG0 : Hid (∀ n, stGet x n = if n = 0 then x.g0 else if n = 1 then x.g1 else if n = 2 then x.g2 else x.g3) := Lib.hid (fun _ => rfl)
      have : j = 0 ∨ j = 1 ∨ j = 2 ∨ j = 3 := by omega
      rcases this with rfl | rfl | rfl | rfl
      · have ⟨y0, y1, y2, y3, y4, y5, y6⟩ := HMr.out.cells
        have HV : Hid (stGet x ((0 : Nat) : Int) = x.g0) := Lib.hid rfl
        go_wp2
        go_quiet (fail)
        have HR1 : Hid (RAt (wr.drewN nq) w.heap.size x 0) := Lib.hid HR.out
        have B1 : Hid (Below w.heap.size w (wr.drewN nq)) := Lib.hid (below_drewN BW.out nq)
        have HT1 : Hid (TabM (wr.drewN nq)) := Lib.hid (HTr.out.keep (below_drewN (Below.refl _ _) nq))
        clear y0 y1 y2 y3 y4 y5 y6 HTr HMr HR BW hsz
        generalize wr.drewN nq = W1 at *
        cases hsb : setB x.g0
        · have HF : Hid (rgB x ((0 : Nat) : Int) = false) := Lib.hid (by rw [rgB, HV.out, hsb]; rfl)
          go_wp2_with fail
          refine (impl_isSet x.g0 W1).mono ?_
          rintro e w2 ⟨rfl, rfl⟩
          rw [hsb]
          go_wp2
          go_roundw
          case rel => exact ⟨0 + 1, by decide, rfl, Lib.hid (HR1.out.skip HF.out), B1⟩
          case measure => decide
        · obtain ⟨k, hk, k1, k8⟩ := setB_nat hsb
          have c1 := (HT1.out.1 k k1 k8).2.1
          have u1 : (0 : Int) ≤ (k : Int) := by omega
          have u2 : (k : Int) < 9 := by omega
          have HX := Lib.hid hk
          have HS := Lib.hid (fun w => impl_isSet x.g0 w)
          rw [hsb] at HS
          cases hrb : regB (setKind x.g0) 0
          · have HF : Hid (rgB x ((0 : Nat) : Int) = false) := Lib.hid (by rw [rgB, HV.out, hsb]; exact hrb)
            have HP := Lib.hid (fun w => impl_isRegisterFor (setKind x.g0) 0 w)
            rw [hrb] at HP
            rw [← hk] at c1 u1 u2
            clear hk hsb hrb
            go_wp2_with fail
            refine (HS.out W1).mono ?_
            rintro e w2 ⟨rfl, rfl⟩
            rw [HX.out] at c1 u1 u2 HP ⊢
            go_wp2_with fail
            refine (HP.out W1).mono ?_
            rintro e w2 ⟨rfl, rfl⟩
            go_wp2
            go_roundw
            case rel => exact ⟨0 + 1, by decide, rfl, Lib.hid (HR1.out.skip HF.out), B1⟩
            case measure => decide
          · have HF : Hid (rgB x ((0 : Nat) : Int) = true) := Lib.hid (by rw [rgB, HV.out, hsb]; exact hrb)
            have HP := Lib.hid (fun w => impl_isRegisterFor (setKind x.g0) 0 w)
            rw [hrb] at HP
            rw [← hk] at c1 u1 u2
            clear hk hsb hrb
            have HZ : Hid (RAt (W1.setCell ⟨w.heap.size, 0, none⟩ (.int .i64 x.g0)) w.heap.size x (0 + 1)) := Lib.hid (by
              have := HR1.out.put (by decide) HF.out
              rw [HV.out] at this
              exact this)
            have ⟨r0, r1, r2, r3⟩ := HR1.out.cells
            have ⟨z0, z1, z2, z3⟩ := HR1.out.thaw
            have hl1 : w.heap.size < W1.heap.size := HR1.out.lt
            go_wp2_with fail
            refine (HS.out W1).mono ?_
            rintro e w2 ⟨rfl, rfl⟩
            rw [HX.out] at c1 u1 u2 HP HZ ⊢
            go_wp2_with fail
            refine (HP.out W1).mono ?_
            rintro e w2 ⟨rfl, rfl⟩
            go_wp2
            go_roundw
            case rel => exact ⟨0 + 1, by decide, rfl, HZ, Lib.hid (B1.out.setCell (Nat.le_refl _) _)⟩
            case measure => decide
      · have ⟨y0, y1, y2, y3, y4, y5, y6⟩ := HMr.out.cells
        have HV : Hid (stGet x ((1 : Nat) : Int) = x.g1) := Lib.hid rfl
        go_wp2
        go_quiet (fail)
        have HR1 : Hid (RAt (wr.drewN nq) w.heap.size x 1) := Lib.hid HR.out
        have B1 : Hid (Below w.heap.size w (wr.drewN nq)) := Lib.hid (below_drewN BW.out nq)
        have HT1 : Hid (TabM (wr.drewN nq)) := Lib.hid (HTr.out.keep (below_drewN (Below.refl _ _) nq))
        clear y0 y1 y2 y3 y4 y5 y6 HTr HMr HR BW hsz
        generalize wr.drewN nq = W1 at *
        cases hsb : setB x.g1
        · have HF : Hid (rgB x ((1 : Nat) : Int) = false) := Lib.hid (by rw [rgB, HV.out, hsb]; rfl)
          go_wp2_with fail
          refine (impl_isSet x.g1 W1).mono ?_
          rintro e w2 ⟨rfl, rfl⟩
          rw [hsb]
          go_wp2
          go_roundw
          case rel => exact ⟨1 + 1, by decide, rfl, Lib.hid (HR1.out.skip HF.out), B1⟩
          case measure => decide
        · obtain ⟨k, hk, k1, k8⟩ := setB_nat hsb
          have c1 := (HT1.out.1 k k1 k8).2.1
          have u1 : (0 : Int) ≤ (k : Int) := by omega
          have u2 : (k : Int) < 9 := by omega
          have HX := Lib.hid hk
          have HS := Lib.hid (fun w => impl_isSet x.g1 w)
          rw [hsb] at HS
          cases hrb : regB (setKind x.g1) 1
          · have HF : Hid (rgB x ((1 : Nat) : Int) = false) := Lib.hid (by rw [rgB, HV.out, hsb]; exact hrb)
            have HP := Lib.hid (fun w => impl_isRegisterFor (setKind x.g1) 1 w)
            rw [hrb] at HP
            rw [← hk] at c1 u1 u2
            clear hk hsb hrb
            go_wp2_with fail
            refine (HS.out W1).mono ?_
            rintro e w2 ⟨rfl, rfl⟩
            rw [HX.out] at c1 u1 u2 HP ⊢
            go_wp2_with fail
            refine (HP.out W1).mono ?_
            rintro e w2 ⟨rfl, rfl⟩
            go_wp2
            go_roundw
            case rel => exact ⟨1 + 1, by decide, rfl, Lib.hid (HR1.out.skip HF.out), B1⟩
            case measure => decide
          · have HF : Hid (rgB x ((1 : Nat) : Int) = true) := Lib.hid (by rw [rgB, HV.out, hsb]; exact hrb)
            have HP := Lib.hid (fun w => impl_isRegisterFor (setKind x.g1) 1 w)
            rw [hrb] at HP
            rw [← hk] at c1 u1 u2
            clear hk hsb hrb
            have HZ : Hid (RAt (W1.setCell ⟨w.heap.size, 1, none⟩ (.int .i64 x.g1)) w.heap.size x (1 + 1)) := Lib.hid (by
              have := HR1.out.put (by decide) HF.out
              rw [HV.out] at this
              exact this)
            have ⟨r0, r1, r2, r3⟩ := HR1.out.cells
            have ⟨z0, z1, z2, z3⟩ := HR1.out.thaw
            have hl1 : w.heap.size < W1.heap.size := HR1.out.lt
            go_wp2_with fail
            refine (HS.out W1).mono ?_
            rintro e w2 ⟨rfl, rfl⟩
            rw [HX.out] at c1 u1 u2 HP HZ ⊢
            go_wp2_with fail
            refine (HP.out W1).mono ?_
            rintro e w2 ⟨rfl, rfl⟩
            go_wp2
            go_roundw
            case rel => exact ⟨1 + 1, by decide, rfl, HZ, Lib.hid (B1.out.setCell (Nat.le_refl _) _)⟩
            case measure => decide
      · have ⟨y0, y1, y2, y3, y4, y5, y6⟩ := HMr.out.cells
        have HV : Hid (stGet x ((2 : Nat) : Int) = x.g2) := Lib.hid rfl
        go_wp2
        go_quiet (fail)
        have HR1 : Hid (RAt (wr.drewN nq) w.heap.size x 2) := Lib.hid HR.out
        have B1 : Hid (Below w.heap.size w (wr.drewN nq)) := Lib.hid (below_drewN BW.out nq)
        have HT1 : Hid (TabM (wr.drewN nq)) := Lib.hid (HTr.out.keep (below_drewN (Below.refl _ _) nq))
        clear y0 y1 y2 y3 y4 y5 y6 HTr HMr HR BW hsz
        generalize wr.drewN nq = W1 at *
        cases hsb : setB x.g2
        · have HF : Hid (rgB x ((2 : Nat) : Int) = false) := Lib.hid (by rw [rgB, HV.out, hsb]; rfl)
          go_wp2_with fail
          refine (impl_isSet x.g2 W1).mono ?_
          rintro e w2 ⟨rfl, rfl⟩
          rw [hsb]
          go_wp2
          go_roundw
          case rel => exact ⟨2 + 1, by decide, rfl, Lib.hid (HR1.out.skip HF.out), B1⟩
          case measure => decide
        · obtain ⟨k, hk, k1, k8⟩ := setB_nat hsb
          have c1 := (HT1.out.1 k k1 k8).2.1
          have u1 : (0 : Int) ≤ (k : Int) := by omega
          have u2 : (k : Int) < 9 := by omega
          have HX := Lib.hid hk
          have HS := Lib.hid (fun w => impl_isSet x.g2 w)
          rw [hsb] at HS
          cases hrb : regB (setKind x.g2) 2
          · have HF : Hid (rgB x ((2 : Nat) : Int) = false) := Lib.hid (by rw [rgB, HV.out, hsb]; exact hrb)
            have HP := Lib.hid (fun w => impl_isRegisterFor (setKind x.g2) 2 w)
            rw [hrb] at HP
            rw [← hk] at c1 u1 u2
            clear hk hsb hrb
            go_wp2_with fail
            refine (HS.out W1).mono ?_
            rintro e w2 ⟨rfl, rfl⟩
            rw [HX.out] at c1 u1 u2 HP ⊢
            go_wp2_with fail
            refine (HP.out W1).mono ?_
            rintro e w2 ⟨rfl, rfl⟩
            go_wp2
            go_roundw
            case rel => exact ⟨2 + 1, by decide, rfl, Lib.hid (HR1.out.skip HF.out), B1⟩
            case measure => decide
          · have HF : Hid (rgB x ((2 : Nat) : Int) = true) := Lib.hid (by rw [rgB, HV.out, hsb]; exact hrb)
            have HP := Lib.hid (fun w => impl_isRegisterFor (setKind x.g2) 2 w)
            rw [hrb] at HP
            rw [← hk] at c1 u1 u2
            clear hk hsb hrb
            have HZ : Hid (RAt (W1.setCell ⟨w.heap.size, 2, none⟩ (.int .i64 x.g2)) w.heap.size x (2 + 1)) := Lib.hid (by
              have := HR1.out.put (by decide) HF.out
              rw [HV.out] at this
              exact this)
            have ⟨r0, r1, r2, r3⟩ := HR1.out.cells
            have ⟨z0, z1, z2, z3⟩ := HR1.out.thaw
            have hl1 : w.heap.size < W1.heap.size := HR1.out.lt
            go_wp2_with fail
            refine (HS.out W1).mono ?_
            rintro e w2 ⟨rfl, rfl⟩
            rw [HX.out] at c1 u1 u2 HP HZ ⊢
            go_wp2_with fail
            refine (HP.out W1).mono ?_
            rintro e w2 ⟨rfl, rfl⟩
            go_wp2
            go_roundw
            case rel => exact ⟨2 + 1, by decide, rfl, HZ, Lib.hid (B1.out.setCell (Nat.le_refl _) _)⟩
            case measure => decide
      · have ⟨y0, y1, y2, y3, y4, y5, y6⟩ := HMr.out.cells
        have HV : Hid (stGet x ((3 : Nat) : Int) = x.g3) := Lib.hid rfl
        go_wp2
        go_quiet (fail)
        have HR1 : Hid (RAt (wr.drewN nq) w.heap.size x 3) := Lib.hid HR.out
        have B1 : Hid (Below w.heap.size w (wr.drewN nq)) := Lib.hid (below_drewN BW.out nq)
        have HT1 : Hid (TabM (wr.drewN nq)) := Lib.hid (HTr.out.keep (below_drewN (Below.refl _ _) nq))
        clear y0 y1 y2 y3 y4 y5 y6 HTr HMr HR BW hsz
        generalize wr.drewN nq = W1 at *
        cases hsb : setB x.g3
        · have HF : Hid (rgB x ((3 : Nat) : Int) = false) := Lib.hid (by rw [rgB, HV.out, hsb]; rfl)
          go_wp2_with fail
          refine (impl_isSet x.g3 W1).mono ?_
          rintro e w2 ⟨rfl, rfl⟩
          rw [hsb]
          go_wp2
          go_roundw
          case rel => exact ⟨3 + 1, by decide, rfl, Lib.hid (HR1.out.skip HF.out), B1⟩
          case measure => decide
        · obtain ⟨k, hk, k1, k8⟩ := setB_nat hsb
          have c1 := (HT1.out.1 k k1 k8).2.1
          have u1 : (0 : Int) ≤ (k : Int) := by omega
          have u2 : (k : Int) < 9 := by omega
          have HX := Lib.hid hk
          have HS := Lib.hid (fun w => impl_isSet x.g3 w)
          rw [hsb] at HS
          cases hrb : regB (setKind x.g3) 3
          · have HF : Hid (rgB x ((3 : Nat) : Int) = false) := Lib.hid (by rw [rgB, HV.out, hsb]; exact hrb)
            have HP := Lib.hid (fun w => impl_isRegisterFor (setKind x.g3) 3 w)
            rw [hrb] at HP
            rw [← hk] at c1 u1 u2
            clear hk hsb hrb
            go_wp2_with fail
            refine (HS.out W1).mono ?_
            rintro e w2 ⟨rfl, rfl⟩
            rw [HX.out] at c1 u1 u2 HP ⊢
            go_wp2_with fail
            refine (HP.out W1).mono ?_
            rintro e w2 ⟨rfl, rfl⟩
            go_wp2
            go_roundw
            case rel => exact ⟨3 + 1, by decide, rfl, Lib.hid (HR1.out.skip HF.out), B1⟩
            case measure => decide
          · have HF : Hid (rgB x ((3 : Nat) : Int) = true) := Lib.hid (by rw [rgB, HV.out, hsb]; exact hrb)
            have HP := Lib.hid (fun w => impl_isRegisterFor (setKind x.g3) 3 w)
            rw [hrb] at HP
            rw [← hk] at c1 u1 u2
            clear hk hsb hrb
            have HZ : Hid (RAt (W1.setCell ⟨w.heap.size, 3, none⟩ (.int .i64 x.g3)) w.heap.size x (3 + 1)) := Lib.hid (by
              have := HR1.out.put (by decide) HF.out
              rw [HV.out] at this
              exact this)
            have ⟨r0, r1, r2, r3⟩ := HR1.out.cells
            have ⟨z0, z1, z2, z3⟩ := HR1.out.thaw
            have hl1 : w.heap.size < W1.heap.size := HR1.out.lt
            go_wp2_with fail
            refine (HS.out W1).mono ?_
            rintro e w2 ⟨rfl, rfl⟩
            rw [HX.out] at c1 u1 u2 HP HZ ⊢
            go_wp2_with fail
            refine (HP.out W1).mono ?_
            rintro e w2 ⟨rfl, rfl⟩
            go_wp2
            go_roundw
            case rel => exact ⟨3 + 1, by decide, rfl, HZ, Lib.hid (B1.out.setCell (Nat.le_refl _) _)⟩
            case measure => decide
    · obtain rfl : j = 4 := by omega
      have ⟨y0, y1, y2, y3, y4, y5, y6⟩ := (HM.out.keep BW.out).cells
      have ⟨r0, r1, r2, r3⟩ := HR.out.cells
      have HE := Lib.hid (regs_eq x)
      have E4 := fun w => equal4 9998 (rI x 4 0) (rI x 4 1) (rI x 4 2) (rI x 4 3) x.g0 x.g1 x.g2 x.g3 w
      have G4 : Tryd.prog.eqGuardType Tryd.prog.depth 50 = false := by kernel_rfl
      rw [HE.out] at E4
      go_wp2
      go_quiet (fail)
      go_wp2
      go_ret
      exact ⟨rfl, below_drewN BW.out _⟩

end Go.Proofs.YtbamjhldebobhaaDoor
