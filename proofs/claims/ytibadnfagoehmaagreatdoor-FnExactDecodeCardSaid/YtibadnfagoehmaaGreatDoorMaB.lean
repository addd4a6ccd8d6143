/- The program's valid registers. -/
import Derived.Test.YtibadnfagoehmaaGreatDoorMaA
namespace Go.Proofs.YtibadnfagoehmaaGreatDoor
open Go.RowKit

/-- The table's kinds, with that of its first entry, which is no set. -/
def kind0 (q : Int) : Int := if q = 0 then 0 else setKind q
def TabM (w : World) : Prop := TabSets w ∧ w.cell? ⟨0, 1, none⟩ = some (.int .i64 0)
theorem TabM.keep {w w' : World} (h : TabM w) (hb : Below w.heap.size w w') : TabM w' := ⟨h.1.keep hb, by rw [hb.cell (World.block_lt_of_cell? w _ h.2)]; exact h.2⟩
theorem TabM.kind {w : World} (h : TabM w) (k : Nat) (hk : k ≤ 8) : w.cell? ⟨0, k * 4 + 1, none⟩ = some (.int .i64 (kind0 k)) := by
  by_cases h0 : k = 0
  · subst h0; exact h.2
  · have := (h.1 k (by omega) hk).2.1
    rw [this, kind0, if_neg (by omega)]

/-- A designation can put the set of register n there. -/
def rgB (x : St) (n : Int) : Bool := setB (stGet x n) && regB (setKind (stGet x n)) n
def rI (x : St) (j n : Nat) : Int := if n < j ∧ rgB x n = true then stGet x n else if n = 0 then 1 else 0
def RAt (w : World) (b : Nat) (x : St) (j : Nat) : Prop := w.heap[b]? = some (.cells #[.int .i64 (rI x j 0), .int .i64 (rI x j 1), .int .i64 (rI x j 2), .int .i64 (rI x j 3)] 51)
theorem rI_same {x : St} {j n : Nat} (h : n ≠ j ∨ rgB x n = false) : rI x (j + 1) n = rI x j n := by
  unfold rI
  rcases h with h | h
  · have : (n < j + 1) ↔ (n < j) := by omega
    simp only [this]
  · rw [h]; simp
theorem rI_new {x : St} {j : Nat} (h : rgB x j = true) : rI x (j + 1) j = stGet x j := by
  unfold rI; rw [if_pos ⟨by omega, h⟩]
theorem RAt.skip {w : World} {b : Nat} {x : St} {j : Nat} (h : RAt w b x j) (hf : rgB x j = false) : RAt w b x (j + 1) := by
  have e : ∀ n, rI x (j + 1) n = rI x j n := fun n => by
    by_cases hn : n = j
    · subst hn; exact rI_same (.inr hf)
    · exact rI_same (.inl hn)
  unfold RAt
  rw [e, e, e, e]
  exact h
theorem RAt.cells {w : World} {b : Nat} {x : St} {j : Nat} (h : RAt w b x j) : w.cell? ⟨b, 0, none⟩ = some (.int .i64 (rI x j 0)) ∧ w.cell? ⟨b, 1, none⟩ = some (.int .i64 (rI x j 1)) ∧ w.cell? ⟨b, 2, none⟩ = some (.int .i64 (rI x j 2)) ∧ w.cell? ⟨b, 3, none⟩ = some (.int .i64 (rI x j 3)) := by
  refine ⟨?_, ?_, ?_, ?_⟩ <;> (rw [cell_of_row _ _ _ _ _ _ h]; rfl)
theorem RAt.thaw {w : World} {b : Nat} {x : St} {j : Nat} (h : RAt w b x j) : w.frozen? ⟨b, 0, none⟩ = false ∧ w.frozen? ⟨b, 1, none⟩ = false ∧ w.frozen? ⟨b, 2, none⟩ = false ∧ w.frozen? ⟨b, 3, none⟩ = false :=
  ⟨frozen_of_row w _ 0 _ _ h, frozen_of_row w _ 1 _ _ h, frozen_of_row w _ 2 _ _ h, frozen_of_row w _ 3 _ _ h⟩
theorem RAt.lt {w : World} {g : Nat} {x : St} {j : Nat} (h : RAt w g x j) : g < w.heap.size := (Array.getElem?_eq_some_iff.1 h).1
theorem RAt.new (w : World) (x : St) : RAt (w.alloc (.cells #[.int .i64 1, .int .i64 0, .int .i64 0, .int .i64 0] 51)) w.heap.size x 0 := by
  have : ∀ n, rI x 0 n = if n = 0 then 1 else 0 := fun n => by unfold rI; rw [if_neg (by omega)]
  unfold RAt
  rw [this, this, this, this]
  exact heap_alloc_new _ _
theorem RAt.put {w : World} {b : Nat} {x : St} {j : Nat} (h : RAt w b x j) (hj : j < 4) (ht : rgB x j = true) : RAt (w.setCell ⟨b, j, none⟩ (.int .i64 (stGet x j))) b x (j + 1) := by
  have k := heap_setCell_same w b j _ _ (.int .i64 (stGet x j)) h
  unfold RAt
  rw [k]
  have e : ∀ n, n ≠ j → rI x (j + 1) n = rI x j n := fun n hn => rI_same (.inl hn)
  have e1 := rI_new ht
  have : j = 0 ∨ j = 1 ∨ j = 2 ∨ j = 3 := by omega
  rcases this with rfl | rfl | rfl | rfl
  · rw [e1, e 1 (by decide), e 2 (by decide), e 3 (by decide)]; rfl
  · rw [e1, e 0 (by decide), e 2 (by decide), e 3 (by decide)]; rfl
  · rw [e1, e 0 (by decide), e 1 (by decide), e 3 (by decide)]; rfl
  · rw [e1, e 0 (by decide), e 1 (by decide), e 2 (by decide)]; rfl

theorem reg_pure0 (g : Int) : ((if (setB g && regB (setKind g) 0) = true then g else 1) == g) = (inB g 0 8 && !(decide ((0 : Int) = 0) && (decide (g = 0) || decide (setKind g = 2)))) := by
  have hb : regB (setKind g) 0 = !decide (setKind g = 2) := by simp [regB, inB]
  rw [hb]
  by_cases h1 : 1 ≤ g ∧ g ≤ 8
  · have e1 : setB g = true := by simp [setB, inB, h1.1, h1.2]
    have e2 : inB g 0 8 = true := by simp [inB]; omega
    have e3 : decide (g = 0) = false := by simp; omega
    by_cases h2 : setKind g = 2
    · have e4 : ¬ (1 : Int) = g := fun h => by rw [← h] at h2; revert h2; decide
      simp [e1, e2, e3, h2, e4]
    · simp [e1, e2, e3, h2]
  · have e1 : setB g = false := by simp [setB, inB]; omega
    have e4 : ¬ (1 : Int) = g := by omega
    by_cases h6 : g = 0
    · subst h6; decide
    · have e2 : inB g 0 8 = false := by simp [inB]; omega
      simp [e1, e2, e4]
theorem reg_pureN (g : Int) (n : Nat) (h0 : n ≠ 0) (hn : n < 4) : ((if (setB g && regB (setKind g) n) = true then g else 0) == g) = (inB g 0 8 && !(decide ((n : Int) = 0) && (decide (g = 0) || decide (setKind g = 2)))) := by
  have hz : decide ((n : Int) = 0) = false := decide_eq_false (by omega)
  have hi : inB (n : Int) 0 3 = true := by simp [inB]; omega
  have hb : regB (setKind g) n = true := by rw [regB, hi, hz]; simp
  rw [hb, hz]
  by_cases h1 : 1 ≤ g ∧ g ≤ 8
  · have e1 : setB g = true := by simp [setB, inB, h1.1, h1.2]
    have e2 : inB g 0 8 = true := by simp [inB]; omega
    simp [e1, e2]
  · have e1 : setB g = false := by simp [setB, inB]; omega
    by_cases h6 : g = 0
    · subst h6; decide
    · have e2 : inB g 0 8 = false := by simp [inB]; omega
      have e4 : ¬ (0 : Int) = g := by omega
      simp [e1, e2, e4]
theorem rI4 (x : St) (n : Nat) (hn : n < 4) : (rI x 4 n == stGet x n) = regOK x n := by
  unfold rI regOK rgB
  generalize stGet x n = g
  by_cases h0 : n = 0
  · subst h0
    have := reg_pure0 g
    simpa using this
  · have := reg_pureN g n h0 hn
    simp only [hn, true_and, if_neg h0]
    exact this

theorem regs_eq (x : St) : ((rI x 4 0 == x.g0) && ((rI x 4 1 == x.g1) && ((rI x 4 2 == x.g2) && (rI x 4 3 == x.g3)))) = regsOK x := by
  unfold regsOK
  have h0 := rI4 x 0 (by decide)
  have h1 := rI4 x 1 (by decide)
  have h2 := rI4 x 2 (by decide)
  have h3 := rI4 x 3 (by decide)
  have g0 : stGet x ((0 : Nat) : Int) = x.g0 := rfl
  have g1 : stGet x ((1 : Nat) : Int) = x.g1 := rfl
  have g2 : stGet x ((2 : Nat) : Int) = x.g2 := rfl
  have g3 : stGet x ((3 : Nat) : Int) = x.g3 := rfl
  rw [g0] at h0
  rw [g1] at h1
  rw [g2] at h2
  rw [g3] at h3
  rw [h0, h1, h2, h3]
  rfl

/-- Two arrays of four ints compared. -/
theorem equal4 (d : Nat) (a0 a1 a2 a3 b0 b1 b2 b3 : Int) (w : World) : (Op.equalIn (d + 2) 51 (.agg #[.int .i64 a0, .int .i64 a1, .int .i64 a2, .int .i64 a3]) (.agg #[.int .i64 b0, .int .i64 b1, .int .i64 b2, .int .i64 b3])).run Tryz.prog w = .ok ((a0 == b0) && ((a1 == b1) && ((a2 == b2) && (a3 == b3)))) w := by
  have hsz : ∀ w, (sizeOf 3).run Tryz.prog w = .ok 1 w := fun w => by kernel_rfl
  have he := Tryz.underlying3
  have q : ∀ (x y : Int), (Op.equalIn (d + 1) 3 (.int .i64 x) (.int .i64 y)).run Tryz.prog w = .ok (x == y) w := fun x y => run_equalIn_int w d 3 .i64 .i64 x y he
  have p : ∀ (i : Nat) (xs : Array Value) (v : Value), xs[i]? = some v → (part 3 xs i).run Tryz.prog w = .ok v w := fun i xs v h => by
    simp [part, isAgg, run_underlying he, h]
  rw [Op.equalIn]
  simp only [Sem.run_bind, run_underlying Tryz.underlying51, Result.andThen_ok, hsz, Std.Legacy.Range.forIn_eq_forIn_range', Std.Legacy.Range.size, Nat.sub_zero, Nat.add_sub_cancel, Nat.div_one]
  rw [show List.range' 0 4 1 = [0, 1, 2, 3] from rfl]
  simp only [List.forIn_cons, Sem.run_bind, Nat.mul_one]
  have x0 := p 0 #[.int .i64 a0, .int .i64 a1, .int .i64 a2, .int .i64 a3] _ rfl
  have y0 := p 0 #[.int .i64 b0, .int .i64 b1, .int .i64 b2, .int .i64 b3] _ rfl
  have q0 := q a0 b0
  have x1 := p 1 #[.int .i64 a0, .int .i64 a1, .int .i64 a2, .int .i64 a3] _ rfl
  have y1 := p 1 #[.int .i64 b0, .int .i64 b1, .int .i64 b2, .int .i64 b3] _ rfl
  have q1 := q a1 b1
  have x2 := p 2 #[.int .i64 a0, .int .i64 a1, .int .i64 a2, .int .i64 a3] _ rfl
  have y2 := p 2 #[.int .i64 b0, .int .i64 b1, .int .i64 b2, .int .i64 b3] _ rfl
  have q2 := q a2 b2
  have x3 := p 3 #[.int .i64 a0, .int .i64 a1, .int .i64 a2, .int .i64 a3] _ rfl
  have y3 := p 3 #[.int .i64 b0, .int .i64 b1, .int .i64 b2, .int .i64 b3] _ rfl
  have q3 := q a3 b3
  generalize (a0 == b0) = c0 at q0 ⊢
  generalize (a1 == b1) = c1 at q1 ⊢
  generalize (a2 == b2) = c2 at q2 ⊢
  generalize (a3 == b3) = c3 at q3 ⊢
  cases c0
  · simp [x0, y0, q0]
  cases c1
  · simp [x0, y0, q0, x1, y1, q1]
  cases c2
  · simp [x0, y0, q0, x1, y1, q1, x2, y2, q2]
  cases c3
  · simp [x0, y0, q0, x1, y1, q1, x2, y2, q2, x3, y3, q3]
  · simp [x0, y0, q0, x1, y1, q1, x2, y2, q2, x3, y3, q3]

end Go.Proofs.YtibadnfagoehmaaGreatDoor
