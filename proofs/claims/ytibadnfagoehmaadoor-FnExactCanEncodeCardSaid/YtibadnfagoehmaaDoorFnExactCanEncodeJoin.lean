/- The tied card of 'FnExactCanEncode': from the walk to the given statement. The listed package-level variables start as the program's text lays them (the given tie). Joined of: PlC, PrK, ByteI, TokH, EnB, SetsLaid, FnExactCanEncodeWalk, FnExactCanEncodeCard. -/
import Derived.Test.YtibadnfagoehmaaDoorPlB
import Derived.Test.YtibadnfagoehmaaDoorPrJ
import Derived.Test.YtibadnfagoehmaaDoorPrC
import Derived.Test.YtibadnfagoehmaaDoorTokB
import Derived.Test.YtibadnfagoehmaaDoorTokD
import Derived.Test.YtibadnfagoehmaaDoorEscI
import Derived.Test.YtibadnfagoehmaaDoorEnA
import Derived.Test.YtibadnfagoehmaaDoorSetsJ
import Derived.Test.YtibadnfagoehmaaDoorSetsT
import Derived.Test.YtibadnfagoehmaaDoorVars
import Derived.Lib.SmallJoins
import Derived.Test.YtibadnfagoehmaaDoorCards
import Derived.Test.YtibadnfagoehmaaDoorTie
import Derived.Lib.Hide

namespace Go.Proofs.YtibadnfagoehmaaDoor
open Go.RowKit Go.MapKept Go.ChangeMaps

theorem set_same {l : Array Bool} {i : Nat} (h : i < l.size) : (l.setIfInBounds i true).getD i false = true := by simp [Array.getD_eq_getD_getElem?, h]
theorem set_other {l : Array Bool} {i j : Nat} (h : i ≠ j) (b : Bool) : (l.setIfInBounds i true).getD j b = l.getD j b := by simp [Array.getD_eq_getD_getElem?, Array.getElem?_setIfInBounds_ne h]
theorem unlisted {l : Array Bool} {i : Nat} (h : l.getD i true = false) : l.getD i false = false ∧ i < l.size := by
  have h1 := getD_true h
  exact ⟨by rw [Array.getD_eq_getD_getElem?, h1]; rfl, (Array.getElem?_eq_some_iff.1 h1).1⟩

structure PlInv (w0 : World) (l : Array Bool) (a : Act) (w : World) : Prop where
  size : l.size = 33
  tm : a.tmps.size = 23
  df : a.defers = []
  bel : Below w0.heap.size w0 w
  ks : ∀ k, k < 10 → l.getD (3 * k + 1) false = true → a.eval (.tmp (2 * k + 2)) = plK (plKey k).1 (plKey k).2
  all : ∃ blk : Nat → Nat, (∀ k, k < 10 → l.getD (3 * k + 2) false = true → a.eval (.tmp (2 * k + 3)) = plSl (blk k) k ∧ w0.heap.size ≤ blk k ∧ w.heap[blk k]? = some (plC k)) ∧
    (∀ j k, j < 10 → k < 10 → l.getD (3 * j + 2) false = true → l.getD (3 * k + 2) false = true → blk j = blk k → j = k) ∧
    (l.getD 0 false = true → ∃ mb, a.eval (.tmp 1) = .map (some mb) ∧ PlMap w w0.heap.size mb blk (fun k => l.getD (3 * k + 3) false))
  ins : ∀ k, k < 10 → l.getD (3 * k + 3) false = true → l.getD 0 false = true ∧ l.getD (3 * k + 2) false = true
  fin : l.getD 31 false = true → l.getD 0 false = true ∧ a.eval (.tmp 22) = a.eval (.tmp 1)
  fin2 : l.getD 32 false = true → l.getD 31 false = true ∧ a.eval (.tmp 0) = a.eval (.tmp 22)

theorem tm_put {a : Act} {d : Option Tmp} {v : Value} : (a.put d v).tmps.size = a.tmps.size ∧ (a.put d v).defers = a.defers := by
  cases d with
  | none => exact ⟨rfl, rfl⟩
  | some d => exact ⟨by simp [Act.put], rfl⟩

theorem PlInv.build {w0 w : World} {l : Array Bool} {a : Act} (h : PlInv w0 l a w) (k : Nat) (hk : k < 10) (hu : l.getD (3 * k + 1) true = false) : PlInv w0 (l.setIfInBounds (3 * k + 1) true) (a.put (some (2 * k + 2)) (plK (plKey k).1 (plKey k).2)) w := by
  have ⟨hu0, hul⟩ := unlisted hu
  have hne : ∀ j : Nat, 2 * k + 2 ≠ j → (a.put (some (2 * k + 2)) (plK (plKey k).1 (plKey k).2)).eval (.tmp j) = a.eval (.tmp j) := fun j hj => Act.eval_put_ne a _ j _ hj
  obtain ⟨blk, a1, a2, a3⟩ := h.all
  refine ⟨by simpa using h.size, tm_put.1.trans h.tm, tm_put.2.trans h.df, h.bel, ?_, ⟨blk, ?_, ?_, ?_⟩, ?_, ?_, ?_⟩
  · intro j hj hl
    by_cases hjk : j = k
    · subst hjk
      exact Act.eval_put_same a _ _ (by rw [h.tm]; omega)
    · rw [set_other (by omega)] at hl
      rw [hne _ (by omega)]
      exact h.ks j hj hl
  · intro j hj hl
    rw [set_other (by omega)] at hl
    rw [hne _ (by omega)]
    exact a1 j hj hl
  · intro i j hi hj h1 h2
    rw [set_other (by omega)] at h1 h2
    exact a2 i j hi hj h1 h2
  · intro h0
    rw [set_other (by omega)] at h0
    obtain ⟨mb, m1, m2⟩ := a3 h0
    refine ⟨mb, by rw [hne _ (by omega)]; exact m1, ?_⟩
    have : (fun j => (l.setIfInBounds (3 * k + 1) true).getD (3 * j + 3) false) = fun j => l.getD (3 * j + 3) false := funext fun j => set_other (by omega) _
    rw [this]
    exact m2
  · intro j hj hl
    rw [set_other (by omega)] at hl ⊢
    rw [set_other (by omega)]
    exact h.ins j hj hl
  · intro hl
    rw [set_other (by omega)] at hl ⊢
    rw [hne _ (by omega), hne _ (by omega)]
    exact h.fin hl
  · intro hl
    rw [set_other (by omega)] at hl ⊢
    rw [hne _ (by omega), hne _ (by omega)]
    exact h.fin2 hl

theorem PlInv.slice {w0 w : World} {l : Array Bool} {a : Act} (h : PlInv w0 l a w) (k : Nat) (hk : k < 10) (hu : l.getD (3 * k + 2) true = false) : PlInv w0 (l.setIfInBounds (3 * k + 2) true) (a.put (some (2 * k + 3)) (plSl w.heap.size k)) (w.alloc (plC k)) := by
  have ⟨hu0, hul⟩ := unlisted hu
  have hne : ∀ j : Nat, 2 * k + 3 ≠ j → (a.put (some (2 * k + 3)) (plSl w.heap.size k)).eval (.tmp j) = a.eval (.tmp j) := fun j hj => Act.eval_put_ne a _ j _ hj
  obtain ⟨blk, a1, a2, a3⟩ := h.all
  have hlt : ∀ j, j < 10 → l.getD (3 * j + 2) false = true → blk j < w.heap.size := fun j hj hl => (Array.getElem?_eq_some_iff.1 (a1 j hj hl).2.2).1
  refine ⟨by simpa using h.size, tm_put.1.trans h.tm, tm_put.2.trans h.df, h.bel.alloc h.bel.size _, ?_, ⟨fun j => if j = k then w.heap.size else blk j, ?_, ?_, ?_⟩, ?_, ?_, ?_⟩
  · intro j hj hl
    rw [set_other (by omega)] at hl
    rw [hne _ (by omega)]
    exact h.ks j hj hl
  · intro j hj hl
    by_cases hjk : j = k
    · subst hjk
      dsimp only
      rw [if_pos rfl]
      exact ⟨Act.eval_put_same a _ _ (by rw [h.tm]; omega), h.bel.size, at_new _ _ rfl⟩
    · rw [set_other (by omega)] at hl
      dsimp only
      rw [if_neg hjk, hne _ (by omega)]
      have := a1 j hj hl
      exact ⟨this.1, this.2.1, at_old _ this.2.2⟩
  · intro i j hi hj h1 h2
    dsimp only
    by_cases hik : i = k
    · by_cases hjk : j = k
      · intro _; omega
      · rw [set_other (by omega)] at h2
        rw [if_pos hik, if_neg hjk]
        have := hlt j hj h2
        intro he
        omega
    · rw [set_other (by omega)] at h1
      by_cases hjk : j = k
      · rw [if_neg hik, if_pos hjk]
        have := hlt i hi h1
        intro he
        omega
      · rw [set_other (by omega)] at h2
        rw [if_neg hik, if_neg hjk]
        exact a2 i j hi hj h1 h2
  · intro h0
    rw [set_other (by omega)] at h0
    obtain ⟨mb, m1, hmb, es, e1, e2, e3⟩ := a3 h0
    refine ⟨mb, by rw [hne _ (by omega)]; exact m1, hmb, es, at_old _ e1, ?_, e3⟩
    intro j hj
    dsimp only
    rw [set_other (by omega)]
    refine ⟨fun hl => ?_, (e2 j hj).2⟩
    have hjk : j ≠ k := by
      intro he
      subst he
      have := (h.ins j hj hl).2
      rw [hu0] at this
      cases this
    rw [if_neg hjk]
    exact (e2 j hj).1 hl
  · intro j hj hl
    rw [set_other (by omega)] at hl ⊢
    have := h.ins j hj hl
    refine ⟨this.1, ?_⟩
    by_cases hjk : j = k
    · subst hjk; exact set_same hul
    · rw [set_other (by omega)]; exact this.2
  · intro hl
    rw [set_other (by omega)] at hl ⊢
    rw [hne _ (by omega), hne _ (by omega)]
    exact h.fin hl
  · intro hl
    rw [set_other (by omega)] at hl ⊢
    rw [hne _ (by omega), hne _ (by omega)]
    exact h.fin2 hl

theorem PlInv.make {w0 w : World} {l : Array Bool} {a : Act} (h : PlInv w0 l a w) (hu : l.getD 0 true = false) : PlInv w0 (l.setIfInBounds 0 true) (a.put (some 1) (.map (some w.heap.size))) (w.alloc (.map #[] 0)) := by
  have ⟨hu0, hul⟩ := unlisted hu
  have hne : ∀ j : Nat, 1 ≠ j → (a.put (some 1) (.map (some w.heap.size))).eval (.tmp j) = a.eval (.tmp j) := fun j hj => Act.eval_put_ne a _ j _ hj
  obtain ⟨blk, a1, a2, a3⟩ := h.all
  refine ⟨by simpa using h.size, tm_put.1.trans h.tm, tm_put.2.trans h.df, h.bel.alloc h.bel.size _, ?_, ⟨blk, ?_, ?_, ?_⟩, ?_, ?_, ?_⟩
  · intro j hj hl
    rw [set_other (by omega)] at hl
    rw [hne _ (by omega)]
    exact h.ks j hj hl
  · intro j hj hl
    rw [set_other (by omega)] at hl
    rw [hne _ (by omega)]
    have := a1 j hj hl
    exact ⟨this.1, this.2.1, at_old _ this.2.2⟩
  · intro i j hi hj h1 h2
    rw [set_other (by omega)] at h1 h2
    exact a2 i j hi hj h1 h2
  · intro _
    refine ⟨w.heap.size, Act.eval_put_same a _ _ (by rw [h.tm]; omega), h.bel.size, [], at_new _ _ rfl, ?_, fun _ _ _ => rfl⟩
    intro j hj
    dsimp only
    rw [set_other (by omega)]
    refine ⟨fun hl => ?_, fun _ => rfl⟩
    have := (h.ins j hj hl).1
    rw [hu0] at this
    cases this
  · intro j hj hl
    rw [set_other (by omega)] at hl
    rw [set_other (by omega : 0 ≠ 3 * j + 2)]
    exact ⟨set_same hul, (h.ins j hj hl).2⟩
  · intro hl
    rw [set_other (by omega)] at hl
    have := (h.fin hl).1
    rw [hu0] at this
    cases this
  · intro hl
    rw [set_other (by omega)] at hl
    have := (h.fin (h.fin2 hl).1).1
    rw [hu0] at this
    cases this

theorem PlInv.insert {w0 w : World} {l : Array Bool} {a : Act} (h : PlInv w0 l a w) (k : Nat) (hk : k < 10) (hu : l.getD (3 * k + 3) true = false) (d0 : l.getD 0 false = true) (d1 : l.getD (3 * k + 1) false = true) (d2 : l.getD (3 * k + 2) false = true) :
    ∃ w', (Instr.mapUpdate 88 (a.eval (.tmp 1)) (a.eval (.tmp (2 * k + 2))) (a.eval (.tmp (2 * k + 3)))).run Tryd.prog w = .ok () w' ∧ PlInv w0 (l.setIfInBounds (3 * k + 3) true) a w' := by
  have ⟨hu0, hul⟩ := unlisted hu
  obtain ⟨blk, a1, a2, a3⟩ := h.all
  obtain ⟨mb, m1, hmb, es, e1, e2, e3⟩ := a3 d0
  have e1' : w.heap[mb]? = some (.map (plE 0 es).toArray es.length) := e1
  have hno := (e2 k hk).2 hu0
  refine ⟨setBlock w mb (plO (es ++ [(((plKey k).1, (plKey k).2), plSl (blk k) k)])), ?_, ?_⟩
  · rw [m1, h.ks k hk d1, (a1 k hk d2).1]
    exact insert_place (plKey k).1 (plKey k).2 (plSl (blk k) k) e1 hno
  · have hother : ∀ i, i ≠ mb → (setBlock w mb (plO (es ++ [(((plKey k).1, (plKey k).2), plSl (blk k) k)]))).heap[i]? = w.heap[i]? := fun i hi => heap_setBlock_other e1' _ hi
    refine ⟨by simpa using h.size, h.tm, h.df, ?_, ?_, ⟨blk, ?_, ?_, ?_⟩, ?_, ?_, ?_⟩
    · exact h.bel.grown (row := some mb) ⟨rfl, rfl, rfl, by simp [setBlock], fun i _ hi => heap_setBlock_other e1' _ (fun e => hi (by rw [e]))⟩ h.bel.size (fun i hi => by cases hi; exact hmb)
    · intro j hj hl
      rw [set_other (by omega)] at hl
      exact h.ks j hj hl
    · intro j hj hl
      rw [set_other (by omega)] at hl
      have := a1 j hj hl
      refine ⟨this.1, this.2.1, (hother _ ?_).trans this.2.2⟩
      intro he
      have h3 := this.2.2
      rw [he, e1] at h3
      unfold plO plC at h3
      simp at h3
    · intro i j hi hj h1 h2
      rw [set_other (by omega)] at h1 h2
      exact a2 i j hi hj h1 h2
    · intro _
      refine ⟨mb, m1, hmb, _, heap_setBlock_same e1' _, ?_, ?_⟩
      · intro j hj
        rw [plIdx_snoc]
        by_cases hjk : j = k
        · subst hjk
          refine ⟨fun _ => ?_, fun hl => ?_⟩
          · rw [hno]
            exact ⟨0 + es.length, by simp⟩
          · dsimp only at hl
            rw [set_same hul] at hl
            cases hl
        · dsimp only
          rw [set_other (by omega)]
          refine ⟨fun hl => ?_, fun hl => ?_⟩
          · obtain ⟨i, hi⟩ := (e2 j hj).1 hl
            rw [hi]
            exact ⟨i, rfl⟩
          · rw [(e2 j hj).2 hl]
            have hkk : plKey j ≠ plKey k := fun he => hjk (plKey_inj j hj k hk he)
            have : ((((plKey j).1 == (plKey k).1) && ((plKey j).2 == (plKey k).2)) = true) → False := by
              intro hb
              simp only [Bool.and_eq_true, beq_iff_eq] at hb
              exact hkk (Prod.ext hb.1 hb.2)
            simp only
            rw [if_neg this]
      · intro p r hpr
        rw [plIdx_snoc, e3 p r hpr]
        have : (((p == (plKey k).1) && (r == (plKey k).2)) = true) → False := by
          intro hb
          simp only [Bool.and_eq_true, beq_iff_eq] at hb
          exact hpr k hk (Prod.ext hb.1.symm hb.2.symm)
        simp only
        rw [if_neg this]
    · intro j hj hl
      rw [set_other (by omega : 3 * k + 3 ≠ 0), set_other (by omega : 3 * k + 3 ≠ 3 * j + 2)]
      by_cases hjk : j = k
      · subst hjk; exact ⟨d0, d2⟩
      · rw [set_other (by omega)] at hl
        exact h.ins j hj hl
    · intro hl
      rw [set_other (by omega)] at hl ⊢
      exact h.fin hl
    · intro hl
      rw [set_other (by omega)] at hl ⊢
      exact h.fin2 hl

theorem PlInv.move {w0 w : World} {l : Array Bool} {a : Act} (h : PlInv w0 l a w) (hu : l.getD 31 true = false) (d0 : l.getD 0 false = true) : PlInv w0 (l.setIfInBounds 31 true) (a.put (some 22) (a.eval (.tmp 1))) w := by
  have ⟨hu0, hul⟩ := unlisted hu
  have hne : ∀ j : Nat, 22 ≠ j → (a.put (some 22) (a.eval (.tmp 1))).eval (.tmp j) = a.eval (.tmp j) := fun j hj => Act.eval_put_ne a _ j _ hj
  obtain ⟨blk, a1, a2, a3⟩ := h.all
  refine ⟨by simpa using h.size, tm_put.1.trans h.tm, tm_put.2.trans h.df, h.bel, ?_, ⟨blk, ?_, ?_, ?_⟩, ?_, ?_, ?_⟩
  · intro j hj hl
    rw [set_other (by omega)] at hl
    rw [hne _ (by omega)]
    exact h.ks j hj hl
  · intro j hj hl
    rw [set_other (by omega)] at hl
    rw [hne _ (by omega)]
    exact a1 j hj hl
  · intro i j hi hj h1 h2
    rw [set_other (by omega)] at h1 h2
    exact a2 i j hi hj h1 h2
  · intro h0
    obtain ⟨mb, m1, m2⟩ := a3 d0
    refine ⟨mb, by rw [hne _ (by omega)]; exact m1, ?_⟩
    obtain ⟨hmb, es, e1, e2, e3⟩ := m2
    refine ⟨hmb, es, e1, fun j hj => ?_, e3⟩
    dsimp only
    rw [set_other (by omega)]
    exact e2 j hj
  · intro j hj hl
    rw [set_other (by omega)] at hl
    rw [set_other (by omega : 31 ≠ 0), set_other (by omega : 31 ≠ 3 * j + 2)]
    exact h.ins j hj hl
  · intro _
    rw [set_other (by omega : 31 ≠ 0), hne _ (by omega : 22 ≠ 1)]
    exact ⟨d0, Act.eval_put_same a _ _ (by rw [h.tm]; omega)⟩
  · intro hl
    rw [set_other (by omega)] at hl
    have := (h.fin2 hl).1
    rw [hu0] at this
    cases this

theorem PlInv.assign {w0 w : World} {l : Array Bool} {a : Act} (h : PlInv w0 l a w) (hu : l.getD 32 true = false) (d31 : l.getD 31 false = true) : PlInv w0 (l.setIfInBounds 32 true) (a.put (some 0) (a.eval (.tmp 22))) w := by
  have ⟨hu0, hul⟩ := unlisted hu
  have hne : ∀ j : Nat, 0 ≠ j → (a.put (some 0) (a.eval (.tmp 22))).eval (.tmp j) = a.eval (.tmp j) := fun j hj => Act.eval_put_ne a _ j _ hj
  obtain ⟨blk, a1, a2, a3⟩ := h.all
  refine ⟨by simpa using h.size, tm_put.1.trans h.tm, tm_put.2.trans h.df, h.bel, ?_, ⟨blk, ?_, ?_, ?_⟩, ?_, ?_, ?_⟩
  · intro j hj hl
    rw [set_other (by omega)] at hl
    rw [hne _ (by omega)]
    exact h.ks j hj hl
  · intro j hj hl
    rw [set_other (by omega)] at hl
    rw [hne _ (by omega)]
    exact a1 j hj hl
  · intro i j hi hj h1 h2
    rw [set_other (by omega)] at h1 h2
    exact a2 i j hi hj h1 h2
  · intro h0
    rw [set_other (by omega)] at h0
    obtain ⟨mb, m1, m2⟩ := a3 h0
    refine ⟨mb, by rw [hne _ (by omega)]; exact m1, ?_⟩
    obtain ⟨hmb, es, e1, e2, e3⟩ := m2
    refine ⟨hmb, es, e1, fun j hj => ?_, e3⟩
    dsimp only
    rw [set_other (by omega)]
    exact e2 j hj
  · intro j hj hl
    rw [set_other (by omega)] at hl
    rw [set_other (by omega : 32 ≠ 0), set_other (by omega : 32 ≠ 3 * j + 2)]
    exact h.ins j hj hl
  · intro hl
    rw [set_other (by omega)] at hl ⊢
    rw [hne _ (by omega), hne _ (by omega)]
    exact h.fin hl
  · intro _
    rw [set_other (by omega : 32 ≠ 31), hne _ (by omega : 0 ≠ 22)]
    exact ⟨d31, Act.eval_put_same a _ _ (by rw [h.tm]; omega)⟩

/-- One operation that comes up, by its run. -/
theorem op_value {P : Program} {ops : Array Oper} {Q : Exit → Act → World → Prop} {i : Nat} {o : Oper} {a : Act} {w w' : World} {v : Value} {K : Act → World → Prop} (ho : ops[i]? = some o) (hg : o.guard = none) (hr : (execOp a.eval o).run P w = .ok (.value v) w') (hK : K (a.put o.dst v) w') : wpOp P ops Q i K a w := by
  unfold wpOp
  rw [ho]
  have : Region.wanted o (yielded ops a.tmps) = true := by simp [Region.wanted, hg]
  simp only [this, if_true]
  exact .inl (by unfold Oper.wp; rw [hr]; exact hK)
theorem op_skip {P : Program} {ops : Array Oper} {Q : Exit → Act → World → Prop} {i : Nat} {o : Oper} {a : Act} {w w' : World} {K : Act → World → Prop} (ho : ops[i]? = some o) (hg : o.guard = none) (hr : (execOp a.eval o).run P w = .ok .skip w') (hK : K (a.put o.dst undef) w') : wpOp P ops Q i K a w := by
  unfold wpOp
  rw [ho]
  have : Region.wanted o (yielded ops a.tmps) = true := by simp [Region.wanted, hg]
  simp only [this, if_true]
  exact .inl (by unfold Oper.wp; rw [hr]; exact hK)

/-- The map of all places. -/
def PlacesAt (w : World) (C mb : Nat) : Prop := ∃ blk : Nat → Nat, (∀ k, k < 10 → C ≤ blk k ∧ w.heap[blk k]? = some (plC k)) ∧ (∀ j k, j < 10 → k < 10 → blk j = blk k → j = k) ∧ PlMap w C mb blk (fun _ => true)

theorem PlInv.last {w0 w : World} {l : Array Bool} {a : Act} (h : PlInv w0 l a w) (hl : ∀ i, i < 33 → l.getD i false = true) : ∃ mb, a.eval (.tmp 0) = .map (some mb) ∧ PlacesAt w w0.heap.size mb := by
  obtain ⟨blk, a1, a2, a3⟩ := h.all
  obtain ⟨mb, m1, hmb, es, e1, e2, e3⟩ := a3 (hl 0 (by omega))
  refine ⟨mb, ?_, blk, fun k hk => (a1 k hk (hl _ (by omega))).2, fun j k hj hk => a2 j k hj hk (hl _ (by omega)) (hl _ (by omega)), hmb, es, e1, fun k hk => ⟨fun _ => (e2 k hk).1 (hl _ (by omega)), fun hf => by cases hf⟩, e3⟩
  rw [(h.fin2 (hl 32 (by omega))).2, (h.fin (hl 31 (by omega))).2, m1]

set_option maxHeartbeats 4000000 in
set_option maxRecDepth 100000 in
theorem impl_setsOfPlaces (w : World) : Calls Tryd.prog 126 #[] w fun e w' => ∃ mb, e = .returned (.map (some mb)) ∧ PlacesAt w' w.heap.size mb ∧ Below w.heap.size w w' := by
  have hmm := @run_makeMap Tryd.prog
  go_enter Tryd.func126, Tryd.ntmps126
  go_wp2_with fail
  rename_i K hK
  refine wp_region_any (by kernel_rfl) ?_
  refine wpAny_inv (PlInv w) ?_ ?_ _ _ _ _ (by decide +kernel) ?_
  · intro l a w1 hI i hi
    obtain ⟨hu, o, ho, hd⟩ := mem_ready.1 hi
    have hi33 : i < 33 := by have := (Array.getElem?_eq_some_iff.1 ho).1; simpa using this
    rcases (show i = 0 ∨ i = 1 ∨ i = 2 ∨ i = 3 ∨ i = 4 ∨ i = 5 ∨ i = 6 ∨ i = 7 ∨ i = 8 ∨ i = 9 ∨ i = 10 ∨ i = 11 ∨ i = 12 ∨ i = 13 ∨ i = 14 ∨ i = 15 ∨ i = 16 ∨ i = 17 ∨ i = 18 ∨ i = 19 ∨ i = 20 ∨ i = 21 ∨ i = 22 ∨ i = 23 ∨ i = 24 ∨ i = 25 ∨ i = 26 ∨ i = 27 ∨ i = 28 ∨ i = 29 ∨ i = 30 ∨ i = 31 ∨ i = 32 by omega) with rfl | rfl | rfl | rfl | rfl | rfl | rfl | rfl | rfl | rfl | rfl | rfl | rfl | rfl | rfl | rfl | rfl | rfl | rfl | rfl | rfl | rfl | rfl | rfl | rfl | rfl | rfl | rfl | rfl | rfl | rfl | rfl | rfl
    · exact op_value rfl rfl (by simp [execOp, hmm]) (hI.make hu)
    · exact op_value rfl rfl (by go_simp; rfl) (hI.build 0 (by decide) hu)
    · exact op_value rfl rfl (by go_simp; exact ⟨rfl, rfl⟩) (hI.slice 0 (by decide) hu)
    · obtain rfl := Option.some.inj ho
      obtain ⟨w2, hr, hI2⟩ := hI.insert 0 (by decide) hu (hd ⟨0, .data⟩ (by simp) rfl) (hd ⟨1, .data⟩ (by simp) rfl) (hd ⟨2, .data⟩ (by simp) rfl)
      exact op_skip rfl rfl (by simp [execOp, hr, Result.andThen]) hI2
    · exact op_value rfl rfl (by go_simp; rfl) (hI.build 1 (by decide) hu)
    · exact op_value rfl rfl (by go_simp; exact ⟨rfl, rfl⟩) (hI.slice 1 (by decide) hu)
    · obtain rfl := Option.some.inj ho
      obtain ⟨w2, hr, hI2⟩ := hI.insert 1 (by decide) hu (hd ⟨0, .data⟩ (by simp) rfl) (hd ⟨4, .data⟩ (by simp) rfl) (hd ⟨5, .data⟩ (by simp) rfl)
      exact op_skip rfl rfl (by simp [execOp, hr, Result.andThen]) hI2
    · exact op_value rfl rfl (by go_simp; rfl) (hI.build 2 (by decide) hu)
    · exact op_value rfl rfl (by go_simp; exact ⟨rfl, rfl⟩) (hI.slice 2 (by decide) hu)
    · obtain rfl := Option.some.inj ho
      obtain ⟨w2, hr, hI2⟩ := hI.insert 2 (by decide) hu (hd ⟨0, .data⟩ (by simp) rfl) (hd ⟨7, .data⟩ (by simp) rfl) (hd ⟨8, .data⟩ (by simp) rfl)
      exact op_skip rfl rfl (by simp [execOp, hr, Result.andThen]) hI2
    · exact op_value rfl rfl (by go_simp; rfl) (hI.build 3 (by decide) hu)
    · exact op_value rfl rfl (by go_simp; exact ⟨rfl, rfl⟩) (hI.slice 3 (by decide) hu)
    · obtain rfl := Option.some.inj ho
      obtain ⟨w2, hr, hI2⟩ := hI.insert 3 (by decide) hu (hd ⟨0, .data⟩ (by simp) rfl) (hd ⟨10, .data⟩ (by simp) rfl) (hd ⟨11, .data⟩ (by simp) rfl)
      exact op_skip rfl rfl (by simp [execOp, hr, Result.andThen]) hI2
    · exact op_value rfl rfl (by go_simp; rfl) (hI.build 4 (by decide) hu)
    · exact op_value rfl rfl (by go_simp; exact ⟨rfl, rfl⟩) (hI.slice 4 (by decide) hu)
    · obtain rfl := Option.some.inj ho
      obtain ⟨w2, hr, hI2⟩ := hI.insert 4 (by decide) hu (hd ⟨0, .data⟩ (by simp) rfl) (hd ⟨13, .data⟩ (by simp) rfl) (hd ⟨14, .data⟩ (by simp) rfl)
      exact op_skip rfl rfl (by simp [execOp, hr, Result.andThen]) hI2
    · exact op_value rfl rfl (by go_simp; rfl) (hI.build 5 (by decide) hu)
    · exact op_value rfl rfl (by go_simp; exact ⟨rfl, rfl⟩) (hI.slice 5 (by decide) hu)
    · obtain rfl := Option.some.inj ho
      obtain ⟨w2, hr, hI2⟩ := hI.insert 5 (by decide) hu (hd ⟨0, .data⟩ (by simp) rfl) (hd ⟨16, .data⟩ (by simp) rfl) (hd ⟨17, .data⟩ (by simp) rfl)
      exact op_skip rfl rfl (by simp [execOp, hr, Result.andThen]) hI2
    · exact op_value rfl rfl (by go_simp; rfl) (hI.build 6 (by decide) hu)
    · exact op_value rfl rfl (by go_simp; exact ⟨rfl, rfl⟩) (hI.slice 6 (by decide) hu)
    · obtain rfl := Option.some.inj ho
      obtain ⟨w2, hr, hI2⟩ := hI.insert 6 (by decide) hu (hd ⟨0, .data⟩ (by simp) rfl) (hd ⟨19, .data⟩ (by simp) rfl) (hd ⟨20, .data⟩ (by simp) rfl)
      exact op_skip rfl rfl (by simp [execOp, hr, Result.andThen]) hI2
    · exact op_value rfl rfl (by go_simp; rfl) (hI.build 7 (by decide) hu)
    · exact op_value rfl rfl (by go_simp; exact ⟨rfl, rfl⟩) (hI.slice 7 (by decide) hu)
    · obtain rfl := Option.some.inj ho
      obtain ⟨w2, hr, hI2⟩ := hI.insert 7 (by decide) hu (hd ⟨0, .data⟩ (by simp) rfl) (hd ⟨22, .data⟩ (by simp) rfl) (hd ⟨23, .data⟩ (by simp) rfl)
      exact op_skip rfl rfl (by simp [execOp, hr, Result.andThen]) hI2
    · exact op_value rfl rfl (by go_simp; rfl) (hI.build 8 (by decide) hu)
    · exact op_value rfl rfl (by go_simp; exact ⟨rfl, rfl⟩) (hI.slice 8 (by decide) hu)
    · obtain rfl := Option.some.inj ho
      obtain ⟨w2, hr, hI2⟩ := hI.insert 8 (by decide) hu (hd ⟨0, .data⟩ (by simp) rfl) (hd ⟨25, .data⟩ (by simp) rfl) (hd ⟨26, .data⟩ (by simp) rfl)
      exact op_skip rfl rfl (by simp [execOp, hr, Result.andThen]) hI2
    · exact op_value rfl rfl (by go_simp; rfl) (hI.build 9 (by decide) hu)
    · exact op_value rfl rfl (by go_simp; exact ⟨rfl, rfl⟩) (hI.slice 9 (by decide) hu)
    · obtain rfl := Option.some.inj ho
      obtain ⟨w2, hr, hI2⟩ := hI.insert 9 (by decide) hu (hd ⟨0, .data⟩ (by simp) rfl) (hd ⟨28, .data⟩ (by simp) rfl) (hd ⟨29, .data⟩ (by simp) rfl)
      exact op_skip rfl rfl (by simp [execOp, hr, Result.andThen]) hI2
    · obtain rfl := Option.some.inj ho
      exact op_value rfl rfl (by simp [execOp]) (hI.move hu (hd ⟨0, .data⟩ (by simp) rfl))
    · obtain rfl := Option.some.inj ho
      exact op_value rfl rfl (by simp [execOp]) (hI.assign hu (hd ⟨31, .data⟩ (by simp) rfl))
  · intro l a w1 hI hr
    have hl := fun i hi => all_listed (by decide +kernel) (by rw [hI.size]; rfl) hr 33 i hi (by simpa using hi)
    obtain ⟨mb, h0, hp⟩ := hI.last hl
    refine hK _ _ ?_
    go_wp2
    exact bodyPost_ret (results_tmp rfl _ _ _) hI.df ⟨mb, congrArg Ending.returned h0, hp, hI.bel⟩
  · have hf : ∀ i, (Array.replicate 33 false).getD i false = false := fun i => by
      rw [Array.getD_eq_getD_getElem?, Array.getElem?_replicate]
      split <;> rfl
    have no : ∀ {i : Nat}, (Array.replicate 33 false).getD i false = true → False := fun h => by rw [hf] at h; cases h
    exact ⟨rfl, rfl, rfl, (Below.refl w.heap.size w).drew, fun k _ h => (no h).elim, ⟨fun _ => 0, fun k _ h => (no h).elim, fun j k _ _ h => (no h).elim, fun h => (no h).elim⟩, fun k _ h => (no h).elim, fun h => (no h).elim, fun h => (no h).elim⟩

end Go.Proofs.YtibadnfagoehmaaDoor

namespace Go.Proofs.YtibadnfagoehmaaDoor
open Go.RowKit

theorem PlacesAt.move {w w' : World} {C mb : Nat} (h : PlacesAt w C mb) (hk : ∀ i, C ≤ i → i < w.heap.size → w'.heap[i]? = w.heap[i]?) : PlacesAt w' C mb := by
  obtain ⟨blk, h1, h2, hC, es, h3, h4⟩ := h
  exact ⟨blk, fun k hk10 => ⟨(h1 k hk10).1, (hk _ (h1 k hk10).1 (Array.getElem?_eq_some_iff.1 (h1 k hk10).2).1).trans (h1 k hk10).2⟩, h2, hC, es, (hk _ hC (Array.getElem?_eq_some_iff.1 h3).1).trans h3, h4⟩
theorem PlacesAt.keep {w w' : World} {C mb : Nat} (h : PlacesAt w C mb) (b : Below w.heap.size w w') : PlacesAt w' C mb := h.move fun i _ hi => b.block i hi
theorem PlacesAt.only {w w' : World} {C mb b : Nat} (h : PlacesAt w C mb) (o : Only b w w') (hb : b < C) : PlacesAt w' C mb := h.move fun i hi hl => o.2 i (by omega) hl
theorem PlacesAt.low {w : World} {C C' mb : Nat} (h : PlacesAt w C mb) (hC : C' ≤ C) : PlacesAt w C' mb := by
  obtain ⟨blk, h1, h2, h3, h4⟩ := h
  exact ⟨blk, fun k hk => ⟨Nat.le_trans hC (h1 k hk).1, (h1 k hk).2⟩, h2, Nat.le_trans hC h3, h4⟩

/-- The number of a profile's register among the places; 10 of none. -/
def plNo (n a : Int) : Nat := if n = 1 ∧ a = 0 then 0 else if n = 2 ∧ a = 0 then 1 else if n = 2 ∧ a = 2 then 2 else if n = 3 ∧ a = 0 then 3 else if n = 3 ∧ a = 1 then 4 else if n = 4 ∧ a = 0 then 5 else if n = 4 ∧ a = 1 then 6 else if n = 4 ∧ a = 2 then 7 else if n = 5 ∧ a = 0 then 8 else if n = 5 ∧ a = 1 then 9 else 10
theorem plNo_spec {n a : Int} (hn : proB n = true) (a0 : 0 ≤ a) (a3 : a ≤ 3) : (plNo n a < 10 ∧ plKey (plNo n a) = (n, a) ∧ plList (plNo n a) = prSets n a) ∨ ((∀ k, k < 10 → plKey k ≠ (n, a)) ∧ prSets n a = []) := by
  rcases pro_cases hn with rfl | rfl | rfl | rfl | rfl <;> rcases (show a = 0 ∨ a = 1 ∨ a = 2 ∨ a = 3 by omega) with rfl | rfl | rfl | rfl <;> decide +kernel
theorem plList_few : ∀ k, (plList k).length ≤ 6 := by
  intro k
  by_cases h : k < 10
  · exact (show ∀ k, k < 10 → (plList k).length ≤ 6 by decide +kernel) k h
  · have : plList k = [] := by
      unfold plList
      rw [List.getD_eq_getElem?_getD, List.getElem?_eq_none (by simp [plLists]; omega)]
      rfl
    rw [this]
    decide
theorem own_row {w : World} {C b k : Nat} (hC : C ≤ b) (h : w.heap[b]? = some (plC k)) : Own .i64 3 w C (plSl b k) (plList k) := by
  refine ⟨by simp, .inr ⟨b, (plList k).length, _, rfl, hC, h, Nat.le_refl _, ?_, by simp, List.take_of_length_le (by simp)⟩⟩
  have := plList_few k
  unfold maxLen
  omega

/-- The value of a register's sets: a row of the map's own, or nil. -/
theorem PlacesAt.look {w : World} {C mb : Nat} (h : PlacesAt w C mb) {n a : Int} (hn : proB n = true) (a0 : 0 ≤ a) (a3 : a ≤ 3) : ∃ s l c, (∀ q, (Instr.lookup 88 (.map (some mb)) (.agg #[.int .i64 n, .int .i64 a]) false).run Tryd.prog (w.drewN q) = .ok (.slice s l c) (w.drewN q)) ∧ Own .i64 3 w C (.slice s l c) (prSets n a) := by
  obtain ⟨blk, h1, h2, hC, es, h3, h4, h5⟩ := h
  have hl := fun q => lookup_place (w := w.drewN q) n a h3
  rcases plNo_spec hn a0 a3 with ⟨k1, k2, k3⟩ | ⟨k1, k2⟩
  · obtain ⟨i, hi⟩ := (h4 _ k1).1 rfl
    rw [k2] at hi
    rw [hi] at hl
    refine ⟨_, _, _, hl, ?_⟩
    rw [← k3]
    exact own_row (h1 _ k1).1 (h1 _ k1).2
  · rw [h5 n a k1] at hl
    refine ⟨_, _, _, hl, ?_⟩
    rw [k2]
    exact Own.nil _ _ _ _

/-- A guide with its map, made or not yet. -/
def GuOK (w : World) (g : Nat) (n : Int) (C : Nat) : Prop := ∃ m, GuAt w g n m ∧ (m = .map none ∨ ∃ mb, m = .map (some mb) ∧ PlacesAt w C mb)
theorem GuOK.keep {w w' : World} {g C : Nat} {n : Int} (h : GuOK w g n C) (b : Below w.heap.size w w') : GuOK w' g n C := by
  obtain ⟨m, h1, h2⟩ := h
  refine ⟨m, h1.keep b, h2.imp id ?_⟩
  rintro ⟨mb, h3, h4⟩
  exact ⟨mb, h3, h4.keep b⟩
theorem GuOK.only {w w' : World} {g C b : Nat} {n : Int} (h : GuOK w g n C) (o : Only b w w') (hb : b < C) (hg : g ≠ b) : GuOK w' g n C := by
  obtain ⟨m, h1, h2⟩ := h
  refine ⟨m, (o.2 g hg h1.lt).trans h1, h2.imp id ?_⟩
  rintro ⟨mb, h3, h4⟩
  exact ⟨mb, h3, h4.only o hb⟩
theorem GuAt.put {w : World} {g : Nat} {n : Int} {m : Value} (h : GuAt w g n m) (m' : Value) : GuAt (w.setCell ⟨g, 9, none⟩ m') g n m' := heap_setCell_same _ _ 9 _ _ m' h

def SfDone (n a : Int) (g C : Nat) (w : World) (e : Ending) (w' : World) : Prop := ∃ s l c mb, e = .returned (.slice s l c) ∧ GuAt w' g n (.map (some mb)) ∧ PlacesAt w' C mb ∧ Own .i64 3 w' C (.slice s l c) (prSets n a) ∧ Only g w w'

set_option maxHeartbeats 1000000 in
theorem impl_setsFor (n : Int) (a : Int) (g C : Nat) (w : World) (h : GuOK w g n C) (hg : g < C) (hC : C ≤ w.heap.size) (hn : proB n = true) (a0 : 0 ≤ a) (a3 : a ≤ 3) : Calls Tryd.prog 103 #[.pointer (some ⟨g, 0, none⟩), .int .i64 a] w (SfDone n a g C w) := by
  obtain ⟨m, hm, h2⟩ := h
  have q1 : ∀ (x y : Operand) (m : Option Nat) (w : World), (eqGuard .eql 88 x y (.map m) (.map none)).run Tryd.prog w = .ok () w := fun _ _ _ _ => by kernel_rfl
  have q2 : ∀ (w : World), (binOp .eql 88 (.map none) (.map none)).run Tryd.prog w = .ok (.bool true) w := fun _ => by kernel_rfl
  have q3 : ∀ (mb : Nat) (w : World), (binOp .eql 88 (.map (some mb)) (.map none)).run Tryd.prog w = .ok (.bool false) w := fun _ _ => by kernel_rfl
  rcases h2 with rfl | ⟨mb, rfl, hp⟩
  · have HS := Lib.hid (fun w => impl_setsOfPlaces w)
    have HM := Lib.hid hm
    have ⟨c0, c1, c2, c3, c4, c5, c6, c7, c8, c9⟩ := row10_cells hm
    clear c1 c2 c3 c4 c5 c6 c7 c8 hm
    go_enter Tryd.func103, Tryd.ntmps103
    go_wp2_with fail
    refine (HS.out _).mono ?_
    rintro e w1 ⟨mb, rfl, hp, b1⟩
    have HM1 := Lib.hid (HM.out.keep b1)
    have ⟨d0, d1, d2, d3, d4, d5, d6, d7, d8, d9⟩ := row10_cells HM1.out
    have ⟨_, _, _, _, _, _, _, _, _, f9⟩ := row10_thaw HM1.out
    have HM2 := Lib.hid (HM1.out.put (.map (some mb)))
    have hgl : g < w1.heap.size := HM1.out.lt
    have O2 : Hid (Only g w (w1.setCell ⟨g, 9, none⟩ (.map (some mb)))) := Lib.hid ((only_below HM.out.lt b1).trans (Only.set g 9 w1 _))
    have HP2 : Hid (PlacesAt (w1.setCell ⟨g, 9, none⟩ (.map (some mb))) C mb) := Lib.hid ((hp.low hC).only (Only.set g 9 w1 _) hg)
    obtain ⟨s, l, c, hl, ho⟩ := HP2.out.look hn a0 a3
    have HL := Lib.hid (fun q => show SfDone n a g C w (.returned (.slice s l c)) ((w1.setCell ⟨g, 9, none⟩ (.map (some mb))).drewN q) from ⟨s, l, c, mb, rfl, HM2.out, HP2.out.move (fun _ _ _ => rfl), ho, O2.out.drewN q⟩)
    clear d1 d2 d3 d4 d5 d6 d7 d8 b1 hp ho c0 c9
    have ⟨x0, x1, x2, x3, x4, x5, x6, x7, x8, x9⟩ := row10_cells HM2.out
    clear x1 x2 x3 x4 x5 x6 x7 x8
    go_wp2
    generalize w1.setCell ⟨g, 9, none⟩ (.map (some mb)) = W2 at *
    go_quiet (fail)
    go_wp2
    go_ret
    exact HL.out _
  · obtain ⟨s, l, c, hl, ho⟩ := hp.look hn a0 a3
    have HL := Lib.hid (fun q => show SfDone n a g C w (.returned (.slice s l c)) (w.drewN q) from ⟨s, l, c, mb, rfl, hm, hp.move (fun _ _ _ => rfl), ho, (Only.refl _ _).drewN q⟩)
    have ⟨c0, c1, c2, c3, c4, c5, c6, c7, c8, c9⟩ := row10_cells hm
    clear c1 c2 c3 c4 c5 c6 c7 c8 hp ho hm
    go_enter Tryd.func103, Tryd.ntmps103
    go_wp2_with fail
    go_quiet (fail)
    go_wp2
    go_ret
    exact HL.out _

/-- A set is no set 0. -/
theorem prSets_pos (n a : Int) : hasB (prSets n a) 0 = false := by
  unfold prSets prSet0 prSet1 prSet2
  repeat' split
  all_goals rfl
theorem allow7_bad {n a b c p m : Int} (h : fsC b c ≠ 0) (hb : 1 ≤ b) (hb3 : b ≤ 3) : allowB n ⟨7, a, b, c, p, m⟩ = false := by
  have hf : findNo b c = 0 := by
    unfold fsC at h
    rw [if_pos (by simp [inB]; omega)] at h
    by_cases h0 : findNo b c = 0
    · exact h0
    · rw [if_neg h0] at h
      exact absurd rfl h
  have := prSets_pos n a
  unfold hasB at this
  simp only [allowB, hf]
  exact this
theorem allow7_ok {n a b c p m : Int} : allowB n ⟨7, a, b, c, p, m⟩ = hasB (prSets n a) (findNo b c) := by simp only [allowB, hasB]; rfl

/-- What the guide's methods that may make its map leave. -/
def GaDone (q : Bool) (g : Nat) (n : Int) (C : Nat) (w : World) (e : Ending) (w' : World) : Prop := e = .returned (.bool q) ∧ GuOK w' g n C ∧ Only g w w'

end Go.Proofs.YtibadnfagoehmaaDoor

namespace Go.Proofs.YtibadnfagoehmaaDoor
open Go.RowKit

/-- The token, without its place, of a byte other than ESC. -/
def byteTok (b : Int) : Tok :=
  if b = 15 then ⟨5, 0, 0, 0, 0, 0⟩ else if b = 14 then ⟨5, 1, 0, 0, 0, 0⟩ else if b = 142 then ⟨6, 2, 0, 0, 0, 0⟩ else if b = 143 then ⟨6, 3, 0, 0, 0, 0⟩
  else if b = 32 then ⟨2, 0, 0, 0, 0, 0⟩ else if 33 ≤ b ∧ b ≤ 126 then ⟨3, b, 0, 0, 0, 0⟩ else if 160 ≤ b then ⟨4, b - 128, 0, 0, 0, 0⟩ else ⟨1, b, 0, 0, 0, 0⟩

set_option maxHeartbeats 2000000 in
theorem impl_byteToken (b : Int) (w : World) (h0 : 0 ≤ b) (h1 : b ≤ 65536) : Calls Tryd.prog 84 #[.int .i64 b] w (TokDone (byteTok b) w) := by
  by_cases c1 : b = 15
  · subst c1
    go_enter Tryd.func84, Tryd.ntmps84
    go_wp2
    exact tok_ret (y := ⟨5, 0, 0, 0, 0, 0⟩) rfl rfl rfl (heap_alloc_new _ _) Tryd.underlying38 rfl (by kernel_rfl) rfl (below_one _ _)
  by_cases c2 : b = 14
  · subst c2
    clear c1
    go_enter Tryd.func84, Tryd.ntmps84
    go_wp2
    exact tok_ret (y := ⟨5, 1, 0, 0, 0, 0⟩) rfl rfl rfl (heap_alloc_new _ _) Tryd.underlying38 rfl (by kernel_rfl) rfl (below_one _ _)
  by_cases c3 : b = 142
  · subst c3
    clear c1 c2
    go_enter Tryd.func84, Tryd.ntmps84
    go_wp2
    exact tok_ret (y := ⟨6, 2, 0, 0, 0, 0⟩) rfl rfl rfl (heap_alloc_new _ _) Tryd.underlying38 rfl (by kernel_rfl) rfl (below_one _ _)
  by_cases c4 : b = 143
  · subst c4
    clear c1 c2 c3
    go_enter Tryd.func84, Tryd.ntmps84
    go_wp2
    exact tok_ret (y := ⟨6, 3, 0, 0, 0, 0⟩) rfl rfl rfl (heap_alloc_new _ _) Tryd.underlying38 rfl (by kernel_rfl) rfl (below_one _ _)
  by_cases c5 : b = 32
  · subst c5
    clear c1 c2 c3 c4
    go_enter Tryd.func84, Tryd.ntmps84
    go_wp2
    exact tok_ret (y := ⟨2, 0, 0, 0, 0, 0⟩) rfl rfl rfl (heap_alloc_new _ _) Tryd.underlying38 rfl (by kernel_rfl) rfl (below_one _ _)
  have e1 : (b == 15) = false := by rw [beq_eq_false_iff_ne]; exact c1
  have e2 : (b == 14) = false := by rw [beq_eq_false_iff_ne]; exact c2
  have e3 : (b == 142) = false := by rw [beq_eq_false_iff_ne]; exact c3
  have e4 : (b == 143) = false := by rw [beq_eq_false_iff_ne]; exact c4
  have e5 : (b == 32) = false := by rw [beq_eq_false_iff_ne]; exact c5
  by_cases c6 : 33 ≤ b
  · by_cases c7 : b ≤ 126
    · have HE : Hid (byteTok b = ⟨3, b, 0, 0, 0, 0⟩) := Lib.hid (by rw [byteTok, if_neg c1, if_neg c2, if_neg c3, if_neg c4, if_neg c5, if_pos ⟨c6, c7⟩])
      clear c1 c2 c3 c4 c5
      go_enter Tryd.func84, Tryd.ntmps84
      go_wp2
      exact tok_ret HE.out rfl rfl (heap_alloc_new _ _) Tryd.underlying38 rfl (by kernel_rfl) rfl (below_one _ _)
    · have c8 : 126 < b := by omega
      by_cases c9 : 160 ≤ b
      · have HE : Hid (byteTok b = ⟨4, b - 128, 0, 0, 0, 0⟩) := Lib.hid (by rw [byteTok, if_neg c1, if_neg c2, if_neg c3, if_neg c4, if_neg c5, if_neg (by omega), if_pos c9])
        have u1 : IntKind.i64.wrap (b - 128) = b - 128 := IntWalk.i64_in _ (by omega)
        clear c1 c2 c3 c4 c5 c7
        go_enter Tryd.func84, Tryd.ntmps84
        go_wp2
        exact tok_ret HE.out rfl rfl (heap_alloc_new _ _) Tryd.underlying38 rfl (by kernel_rfl) rfl (below_one _ _)
      · have HE : Hid (byteTok b = ⟨1, b, 0, 0, 0, 0⟩) := Lib.hid (by rw [byteTok, if_neg c1, if_neg c2, if_neg c3, if_neg c4, if_neg c5, if_neg (by omega), if_neg c9])
        have c10 : b < 160 := by omega
        clear c1 c2 c3 c4 c5 c7 c9
        go_enter Tryd.func84, Tryd.ntmps84
        go_wp2
        exact tok_ret HE.out rfl rfl (heap_alloc_new _ _) Tryd.underlying38 rfl (by kernel_rfl) rfl (below_one _ _)
  · have HE : Hid (byteTok b = ⟨1, b, 0, 0, 0, 0⟩) := Lib.hid (by rw [byteTok, if_neg c1, if_neg c2, if_neg c3, if_neg c4, if_neg c5, if_neg (by omega), if_neg (by omega)])
    have c10 : b < 33 := by omega
    clear c1 c2 c3 c4 c5 c6
    go_enter Tryd.func84, Tryd.ntmps84
    go_wp2
    exact tok_ret HE.out rfl rfl (heap_alloc_new _ _) Tryd.underlying38 rfl (by kernel_rfl) rfl (below_one _ _)

end Go.Proofs.YtibadnfagoehmaaDoor

namespace Go.Proofs.YtibadnfagoehmaaDoor
open Go.RowKit

theorem tokField0 (y : Tok) (w : World) : (Instr.field 38 (.agg #[.int .i64 y.k, .int .i64 y.a, .int .i64 y.b, .int .i64 y.c, .int .i64 y.p, .int .i64 y.n]) 0).run Tryd.prog w = .ok (.int .i64 y.k) w := by kernel_rfl

def ctlB (a : Int) : Bool := decide (0 ≤ a) && decide (a < 160) && decide (a ≠ 27) && decide ((byteTok a).k = 1)
theorem ctlB_iff (a : Int) : ctlB a = true ↔ ((0 ≤ a ∧ a ≤ 13) ∨ (16 ≤ a ∧ a ≤ 31 ∧ a ≠ 27) ∨ a = 127 ∨ (128 ≤ a ∧ a ≤ 159 ∧ a ≠ 142 ∧ a ≠ 143)) := by
  simp only [ctlB, Bool.and_eq_true, decide_eq_true_eq]
  unfold byteTok
  repeat' split
  all_goals dsimp only
  all_goals omega

set_option maxHeartbeats 1000000 in
theorem impl_isControl (a : Int) (w : World) : Calls Tryd.prog 125 #[.int .i64 a] w fun e w' => e = .returned (.bool (ctlB a)) ∧ Below w.heap.size w w' := by
  by_cases h0 : a < 0
  · have HE : Hid (ctlB a = false) := Lib.hid (by simp [ctlB]; omega)
    go_enter Tryd.func125, Tryd.ntmps125
    go_wp2
    go_ret
    exact ⟨ret_bool HE.out.symm, Below.refl _ _⟩
  have h0' : 0 ≤ a := by omega
  by_cases h1 : 160 ≤ a
  · have HE : Hid (ctlB a = false) := Lib.hid (by simp [ctlB]; omega)
    clear h0
    go_enter Tryd.func125, Tryd.ntmps125
    go_wp2
    go_ret
    exact ⟨ret_bool HE.out.symm, Below.refl _ _⟩
  have h1' : a < 160 := by omega
  by_cases h2 : a = 27
  · subst h2
    clear h0 h1 h0' h1'
    go_enter Tryd.func125, Tryd.ntmps125
    go_wp2
    go_ret
    exact ⟨ret_bool (by decide), Below.refl _ _⟩
  have HE : Hid (ctlB a = ((byteTok a).k == 1)) := Lib.hid (by
    have q0 : decide (0 ≤ a) = true := by simpa using h0'
    have q1 : decide (a < 160) = true := by simpa using h1'
    have q2 : decide (a ≠ 27) = true := by simpa using h2
    rw [ctlB, q0, q1, q2]
    rfl)
  have e2 : (a != 27) = true := by simpa using h2
  have HF := Lib.hid (tokField0 (byteTok a))
  clear h0 h1 h2
  generalize hy : byteTok a = y at *
  have HY := Lib.hid hy
  clear hy
  have fy := HF.out
  go_enter Tryd.func125, Tryd.ntmps125
  go_wp2_with fail
  refine (impl_byteToken a w h0' (by omega)).mono ?_
  rintro e w1 ⟨rfl, b1⟩
  rw [HY.out]
  unfold tokV
  go_wp2
  go_ret
  exact ⟨ret_bool HE.out.symm, b1⟩

def valB (k a : Int) : Bool :=
  if k = 1 then ctlB a else if k = 3 then inB a 33 126 else if k = 4 then inB a 32 127 else if k = 5 then inB a 0 3 else if k = 6 then decide (a = 2 ∨ a = 3)
  else if k = 2 ∨ k = 8 ∨ k = 9 then decide (a = 0) else false

set_option maxHeartbeats 2000000 in
theorem impl_tokenValueOK (k a : Int) (w : World) : Calls Tryd.prog 122 #[.int .i64 k, .int .i64 a] w fun e w' => e = .returned (.bool (valB k a)) ∧ Below w.heap.size w w' := by
  by_cases k1 : k = 1
  · subst k1
    go_enter Tryd.func122, Tryd.ntmps122
    go_wp2_with fail
    refine (impl_isControl a w).mono ?_
    rintro e w1 ⟨rfl, b1⟩
    go_wp2
    go_ret
    exact ⟨rfl, b1⟩
  by_cases k3 : k = 3
  · subst k3
    clear k1
    go_enter Tryd.func122, Tryd.ntmps122
    go_wp2_with fail
    refine (impl_isCode94 a w).mono ?_
    rintro e w1 ⟨rfl, rfl⟩
    go_wp2
    go_ret
    exact ⟨rfl, Below.refl _ _⟩
  by_cases k4 : k = 4
  · subst k4
    clear k1 k3
    have HE : Hid (valB 4 a = (decide (32 ≤ a) && decide (a ≤ 127))) := Lib.hid rfl
    rw [HE.out]
    by_cases h1 : 32 ≤ a
    · by_cases h2 : a ≤ 127
      all_goals
        go_enter Tryd.func122, Tryd.ntmps122
        go_wp2
        go_ret
        exact ⟨ret_bool (by simp [h1, h2]), Below.refl _ _⟩
    · have HF := Lib.hid (show decide (32 ≤ a) = false by simpa using h1)
      go_enter Tryd.func122, Tryd.ntmps122
      go_wp2
      go_ret
      exact ⟨ret_bool (by rw [HF.out]; rfl), Below.refl _ _⟩
  by_cases k5 : k = 5
  · subst k5
    clear k1 k3 k4
    have HE : Hid (valB 5 a = (decide (0 ≤ a) && decide (a ≤ 3))) := Lib.hid rfl
    rw [HE.out]
    by_cases h1 : 0 ≤ a
    · by_cases h2 : a ≤ 3
      all_goals
        go_enter Tryd.func122, Tryd.ntmps122
        go_wp2
        go_ret
        exact ⟨ret_bool (by simp [h1, h2]), Below.refl _ _⟩
    · have HF := Lib.hid (show decide (0 ≤ a) = false by simpa using h1)
      go_enter Tryd.func122, Tryd.ntmps122
      go_wp2
      go_ret
      exact ⟨ret_bool (by rw [HF.out]; rfl), Below.refl _ _⟩
  by_cases k6 : k = 6
  · subst k6
    clear k1 k3 k4 k5
    have HE : Hid (valB 6 a = decide (a = 2 ∨ a = 3)) := Lib.hid rfl
    rw [HE.out]
    by_cases h1 : a = 2
    · subst h1
      go_enter Tryd.func122, Tryd.ntmps122
      go_wp2
      go_ret
      exact ⟨ret_bool (by decide), Below.refl _ _⟩
    · have e1 : (a == 2) = false := by simpa using h1
      have HX : Hid ((a == 3) = decide (a = 2 ∨ a = 3)) := Lib.hid (by simp [h1]; rfl)
      clear h1
      go_enter Tryd.func122, Tryd.ntmps122
      go_wp2
      go_ret
      exact ⟨ret_bool HX.out, Below.refl _ _⟩
  by_cases k2 : k = 2 ∨ k = 8 ∨ k = 9
  · have HE : Hid ((a == 0) = valB k a) := Lib.hid (by
      rw [valB, if_neg k1, if_neg k3, if_neg k4, if_neg k5, if_neg k6, if_pos k2]
      rfl)
    clear k1 k3 k4 k5 k6
    rcases k2 with rfl | rfl | rfl
    all_goals
      go_enter Tryd.func122, Tryd.ntmps122
      go_wp2
      go_ret
      exact ⟨ret_bool HE.out, Below.refl _ _⟩
  · have HE : Hid (false = valB k a) := Lib.hid (by rw [valB, if_neg k1, if_neg k3, if_neg k4, if_neg k5, if_neg k6, if_neg k2])
    have e1 : (k == 1) = false := by rw [beq_eq_false_iff_ne]; exact k1
    have e3 : (k == 3) = false := by rw [beq_eq_false_iff_ne]; exact k3
    have e4 : (k == 4) = false := by rw [beq_eq_false_iff_ne]; exact k4
    have e5 : (k == 5) = false := by rw [beq_eq_false_iff_ne]; exact k5
    have e6 : (k == 6) = false := by rw [beq_eq_false_iff_ne]; exact k6
    have e2 : (k == 2) = false := by rw [beq_eq_false_iff_ne]; omega
    have e8 : (k == 8) = false := by rw [beq_eq_false_iff_ne]; omega
    have e9 : (k == 9) = false := by rw [beq_eq_false_iff_ne]; omega
    clear k1 k2 k3 k4 k5 k6
    go_enter Tryd.func122, Tryd.ntmps122
    go_wp2
    go_ret
    exact ⟨ret_bool HE.out, Below.refl _ _⟩

def fldB (x : Tok) : Bool := if x.k = 7 then inB x.b 1 3 && (regB x.b x.a && (decide (64 ≤ x.c) && decide (x.c ≤ 126))) else valB x.k x.a && (decide (x.b = 0) && decide (x.c = 0))

set_option maxHeartbeats 2000000 in
set_option maxRecDepth 100000 in
theorem impl_tokenFieldsOK (x : Tok) (w : World) : Calls Tryd.prog 91 #[tokV x] w fun e w' => e = .returned (.bool (fldB x)) ∧ Below w.heap.size w w' := by
  obtain ⟨k, a, b, c, p, n⟩ := x
  have b0 := below_one w (.cells #[.int .i64 k, .int .i64 a, .int .i64 b, .int .i64 c, .int .i64 p, .int .i64 n] 38)
  have hX := TokAt.new w ⟨k, a, b, c, p, n⟩
  unfold tokV
  by_cases k7 : k = 7
  · have HE : Hid (fldB ⟨k, a, b, c, p, n⟩ = (inB b 1 3 && (regB b a && (decide (64 ≤ c) && decide (c ≤ 126))))) := Lib.hid (by rw [fldB, if_pos k7])
    rw [HE.out]
    subst k7
    clear hX HE
    have HK := Lib.hid (impl_isKind b)
    have HR := Lib.hid (impl_isRegisterFor b a)
    generalize inB b 1 3 = kb at *
    generalize regB b a = rb at *
    cases kb
    · go_enter Tryd.func91, Tryd.ntmps91
      go_wp2_with fail
      refine (HK.out _).mono ?_
      rintro e w1 ⟨rfl, rfl⟩
      go_wp2
      go_ret
      exact ⟨rfl, b0⟩
    cases rb
    · go_enter Tryd.func91, Tryd.ntmps91
      go_wp2_with fail
      refine (HK.out _).mono ?_
      rintro e w1 ⟨rfl, rfl⟩
      go_wp2_with fail
      refine (HR.out _).mono ?_
      rintro e w1 ⟨rfl, rfl⟩
      go_wp2
      go_ret
      exact ⟨rfl, b0⟩
    by_cases c1 : 64 ≤ c
    · have HD : Hid (decide (c ≤ 126) = (true && (true && (decide (64 ≤ c) && decide (c ≤ 126))))) := Lib.hid (by simp [c1])
      rw [← HD.out]
      go_enter Tryd.func91, Tryd.ntmps91
      go_wp2_with fail
      refine (HK.out _).mono ?_
      rintro e w1 ⟨rfl, rfl⟩
      go_wp2_with fail
      refine (HR.out _).mono ?_
      rintro e w1 ⟨rfl, rfl⟩
      go_wp2
      go_ret
      exact ⟨rfl, b0⟩
    · have HD : Hid (false = (true && (true && (decide (64 ≤ c) && decide (c ≤ 126))))) := Lib.hid (by simp [c1])
      rw [← HD.out]
      go_enter Tryd.func91, Tryd.ntmps91
      go_wp2_with fail
      refine (HK.out _).mono ?_
      rintro e w1 ⟨rfl, rfl⟩
      go_wp2_with fail
      refine (HR.out _).mono ?_
      rintro e w1 ⟨rfl, rfl⟩
      go_wp2
      go_ret
      exact ⟨rfl, b0⟩
  · have HE : Hid (fldB ⟨k, a, b, c, p, n⟩ = (valB k a && (decide (b = 0) && decide (c = 0)))) := Lib.hid (by rw [fldB, if_neg k7])
    have e7 : (k == 7) = false := by rw [beq_eq_false_iff_ne]; exact k7
    rw [HE.out]
    clear k7
    go_enter Tryd.func91, Tryd.ntmps91
    go_wp2_with fail
    refine (impl_tokenValueOK k a _).mono ?_
    rintro e w1 ⟨rfl, b1⟩
    have B1 : Below w.heap.size w w1 := b0.trans (b1.mono b0.size)
    have ⟨y0, y1, y2, y3, y4, y5⟩ := (hX.keep b1).cells
    clear hX b0 b1
    cases hv : valB k a
    · have HV := Lib.hid hv
      go_wp2
      go_ret
      exact ⟨ret_bool (by rw [HV.out]; rfl), B1⟩
    · by_cases hb : b = 0
      · subst hb
        go_wp2
        go_ret
        exact ⟨ret_bool rfl, B1⟩
      · have eb : (b == 0) = false := by rw [beq_eq_false_iff_ne]; exact hb
        go_wp2
        go_ret
        exact ⟨ret_bool (by simp [hb]), B1⟩

def lenB (x : Tok) : Bool :=
  if x.k = 5 ∧ 2 ≤ x.a then decide (x.n = 2) else if x.k = 6 then decide (x.n = 1 ∨ x.n = 2) else if x.k = 7 then decide (x.n = 3 ∨ x.n = 4) else if x.k = 8 ∨ x.k = 9 then decide (1 ≤ x.n) && decide (x.n ≤ 65536) else decide (x.n = 1)

set_option maxHeartbeats 2000000 in
set_option maxRecDepth 100000 in
theorem impl_tokenLengthOK (x : Tok) (w : World) : Calls Tryd.prog 92 #[tokV x] w fun e w' => e = .returned (.bool (lenB x)) ∧ Below w.heap.size w w' := by
  obtain ⟨k, a, b, c, p, n⟩ := x
  have b0 := Lib.hid (below_one w (.cells #[.int .i64 k, .int .i64 a, .int .i64 b, .int .i64 c, .int .i64 p, .int .i64 n] 38))
  unfold tokV
  by_cases k5 : k = 5
  · by_cases a2 : 2 ≤ a
    · have HE : Hid ((n == 2) = lenB ⟨k, a, b, c, p, n⟩) := Lib.hid (by rw [lenB, if_pos ⟨k5, a2⟩]; rfl)
      subst k5
      go_enter Tryd.func92, Tryd.ntmps92
      go_wp2
      go_ret
      exact ⟨ret_bool HE.out, b0.out⟩
    · have HE : Hid ((n == 1) = lenB ⟨k, a, b, c, p, n⟩) := Lib.hid (by rw [lenB, if_neg (fun h => a2 h.2), if_neg (by dsimp only; omega), if_neg (by dsimp only; omega), if_neg (by dsimp only; omega)]; rfl)
      subst k5
      go_enter Tryd.func92, Tryd.ntmps92
      go_wp2
      go_ret
      exact ⟨ret_bool HE.out, b0.out⟩
  have e5 : (k == 5) = false := by rw [beq_eq_false_iff_ne]; exact k5
  by_cases k6 : k = 6
  · have HE : Hid (lenB ⟨k, a, b, c, p, n⟩ = decide (n = 1 ∨ n = 2)) := Lib.hid (by rw [lenB, if_neg (fun h => k5 h.1), if_pos k6])
    rw [HE.out]
    subst k6
    clear k5 e5
    by_cases n1 : n = 1
    · subst n1
      go_enter Tryd.func92, Tryd.ntmps92
      go_wp2
      go_ret
      exact ⟨ret_bool (by decide), b0.out⟩
    · have e1 : (n == 1) = false := by rw [beq_eq_false_iff_ne]; exact n1
      go_enter Tryd.func92, Tryd.ntmps92
      go_wp2
      go_ret
      exact ⟨ret_bool (by simp [n1]; rfl), b0.out⟩
  have e6 : (k == 6) = false := by rw [beq_eq_false_iff_ne]; exact k6
  by_cases k7 : k = 7
  · have HE : Hid (lenB ⟨k, a, b, c, p, n⟩ = decide (n = 3 ∨ n = 4)) := Lib.hid (by rw [lenB, if_neg (fun h => k5 h.1), if_neg k6, if_pos k7])
    rw [HE.out]
    subst k7
    clear k5 e5 k6 e6
    by_cases n1 : n = 3
    · subst n1
      go_enter Tryd.func92, Tryd.ntmps92
      go_wp2
      go_ret
      exact ⟨ret_bool (by decide), b0.out⟩
    · have e1 : (n == 3) = false := by rw [beq_eq_false_iff_ne]; exact n1
      go_enter Tryd.func92, Tryd.ntmps92
      go_wp2
      go_ret
      exact ⟨ret_bool (by simp [n1]; rfl), b0.out⟩
  have e7 : (k == 7) = false := by rw [beq_eq_false_iff_ne]; exact k7
  by_cases k8 : k = 8 ∨ k = 9
  · have HE : Hid (lenB ⟨k, a, b, c, p, n⟩ = (decide (1 ≤ n) && decide (n ≤ 65536))) := Lib.hid (by rw [lenB, if_neg (fun h => k5 h.1), if_neg k6, if_neg k7, if_pos k8])
    rw [HE.out]
    clear k5 e5 k6 e6 k7 e7 HE
    by_cases n1 : 1 ≤ n
    · by_cases n2 : n ≤ 65536
      all_goals
        rcases k8 with rfl | rfl
        all_goals
          go_enter Tryd.func92, Tryd.ntmps92
          go_wp2
          go_ret
          exact ⟨ret_bool (by simp [n1, n2]), b0.out⟩
    · have HF := Lib.hid (show decide (1 ≤ n) = false by simpa using n1)
      rcases k8 with rfl | rfl
      all_goals
        go_enter Tryd.func92, Tryd.ntmps92
        go_wp2
        go_ret
        exact ⟨ret_bool (by rw [HF.out]; rfl), b0.out⟩
  · have e8 : (k == 8) = false := by rw [beq_eq_false_iff_ne]; omega
    have e9 : (k == 9) = false := by rw [beq_eq_false_iff_ne]; omega
    have HE : Hid ((n == 1) = lenB ⟨k, a, b, c, p, n⟩) := Lib.hid (by rw [lenB, if_neg (fun h => k5 h.1), if_neg k6, if_neg k7, if_neg k8]; rfl)
    clear k5 k6 k7 k8
    go_enter Tryd.func92, Tryd.ntmps92
    go_wp2
    go_ret
    exact ⟨ret_bool HE.out, b0.out⟩

def tokOKI (x : Tok) : Bool := decide (0 ≤ x.p) && (decide (x.p ≤ 65536) && (fldB x && lenB x))
theorem regB_iff (kd g : Int) : regB kd g = true ↔ (0 ≤ g ∧ g ≤ 3) ∧ ¬ (kd = 2 ∧ g = 0) := by
  unfold regB inB
  rw [Bool.and_eq_true, Bool.and_eq_true, decide_eq_true_eq, decide_eq_true_eq, Bool.not_eq_true', Bool.and_eq_false_iff, decide_eq_false_iff_not, decide_eq_false_iff_not]
  omega
theorem okI1 (a b c p n : Int) : tokOKI ⟨1, a, b, c, p, n⟩ = true ↔ tokOKP ⟨1, a, b, c, p, n⟩ := by
  show (decide (0 ≤ p) && (decide (p ≤ 65536) && ((ctlB a && (decide (b = 0) && decide (c = 0))) && decide (n = 1)))) = true ↔ _
  unfold tokOKP
  simp only [Bool.and_eq_true, decide_eq_true_eq, ctlB_iff, Int.reduceEq, false_and, true_and, or_false]
  omega
theorem okI2 (a b c p n : Int) : tokOKI ⟨2, a, b, c, p, n⟩ = true ↔ tokOKP ⟨2, a, b, c, p, n⟩ := by
  show (decide (0 ≤ p) && (decide (p ≤ 65536) && ((decide (a = 0) && (decide (b = 0) && decide (c = 0))) && decide (n = 1)))) = true ↔ _
  unfold tokOKP
  simp only [Bool.and_eq_true, decide_eq_true_eq, Int.reduceEq, false_and, true_and, false_or, or_false]
  omega
theorem okI3 (a b c p n : Int) : tokOKI ⟨3, a, b, c, p, n⟩ = true ↔ tokOKP ⟨3, a, b, c, p, n⟩ := by
  show (decide (0 ≤ p) && (decide (p ≤ 65536) && ((inB a 33 126 && (decide (b = 0) && decide (c = 0))) && decide (n = 1)))) = true ↔ _
  unfold tokOKP
  simp only [Bool.and_eq_true, decide_eq_true_eq, inB, Int.reduceEq, false_and, true_and, false_or, or_false]
  omega
theorem okI4 (a b c p n : Int) : tokOKI ⟨4, a, b, c, p, n⟩ = true ↔ tokOKP ⟨4, a, b, c, p, n⟩ := by
  show (decide (0 ≤ p) && (decide (p ≤ 65536) && ((inB a 32 127 && (decide (b = 0) && decide (c = 0))) && decide (n = 1)))) = true ↔ _
  unfold tokOKP
  simp only [Bool.and_eq_true, decide_eq_true_eq, inB, Int.reduceEq, false_and, true_and, false_or, or_false]
  omega
theorem okI6 (a b c p n : Int) : tokOKI ⟨6, a, b, c, p, n⟩ = true ↔ tokOKP ⟨6, a, b, c, p, n⟩ := by
  show (decide (0 ≤ p) && (decide (p ≤ 65536) && ((decide (a = 2 ∨ a = 3) && (decide (b = 0) && decide (c = 0))) && decide (n = 1 ∨ n = 2)))) = true ↔ _
  unfold tokOKP
  simp only [Bool.and_eq_true, decide_eq_true_eq, Int.reduceEq, false_and, true_and, false_or, or_false]
  omega
theorem okI7 (a b c p n : Int) : tokOKI ⟨7, a, b, c, p, n⟩ = true ↔ tokOKP ⟨7, a, b, c, p, n⟩ := by
  show (decide (0 ≤ p) && (decide (p ≤ 65536) && ((inB b 1 3 && (regB b a && (decide (64 ≤ c) && decide (c ≤ 126)))) && decide (n = 3 ∨ n = 4)))) = true ↔ _
  unfold tokOKP
  simp only [Bool.and_eq_true, decide_eq_true_eq, inB, regB_iff, Int.reduceEq, false_and, true_and, false_or, or_false]
  omega
theorem okI8 (a b c p n : Int) : tokOKI ⟨8, a, b, c, p, n⟩ = true ↔ tokOKP ⟨8, a, b, c, p, n⟩ := by
  show (decide (0 ≤ p) && (decide (p ≤ 65536) && ((decide (a = 0) && (decide (b = 0) && decide (c = 0))) && (decide (1 ≤ n) && decide (n ≤ 65536))))) = true ↔ _
  unfold tokOKP
  simp only [Bool.and_eq_true, decide_eq_true_eq, Int.reduceEq, false_and, true_and, false_or, or_false]
  omega
theorem okI9 (a b c p n : Int) : tokOKI ⟨9, a, b, c, p, n⟩ = true ↔ tokOKP ⟨9, a, b, c, p, n⟩ := by
  show (decide (0 ≤ p) && (decide (p ≤ 65536) && ((decide (a = 0) && (decide (b = 0) && decide (c = 0))) && (decide (1 ≤ n) && decide (n ≤ 65536))))) = true ↔ _
  unfold tokOKP
  simp only [Bool.and_eq_true, decide_eq_true_eq, Int.reduceEq, false_and, true_and, false_or]
  omega
theorem okI5 (a b c p n : Int) : tokOKI ⟨5, a, b, c, p, n⟩ = true ↔ tokOKP ⟨5, a, b, c, p, n⟩ := by
  by_cases a2 : 2 ≤ a
  · have hl : lenB ⟨5, a, b, c, p, n⟩ = decide (n = 2) := by rw [lenB, if_pos ⟨rfl, a2⟩]
    show (decide (0 ≤ p) && (decide (p ≤ 65536) && ((inB a 0 3 && (decide (b = 0) && decide (c = 0))) && lenB ⟨5, a, b, c, p, n⟩))) = true ↔ _
    rw [hl]
    unfold tokOKP
    simp only [Bool.and_eq_true, decide_eq_true_eq, inB, Int.reduceEq, false_and, true_and, false_or, or_false]
    omega
  · have hl : lenB ⟨5, a, b, c, p, n⟩ = decide (n = 1) := by rw [lenB, if_neg (fun h => a2 h.2)]; rfl
    show (decide (0 ≤ p) && (decide (p ≤ 65536) && ((inB a 0 3 && (decide (b = 0) && decide (c = 0))) && lenB ⟨5, a, b, c, p, n⟩))) = true ↔ _
    rw [hl]
    unfold tokOKP
    simp only [Bool.and_eq_true, decide_eq_true_eq, inB, Int.reduceEq, false_and, true_and, false_or, or_false]
    omega
theorem tokOKI_eq (x : Tok) : tokOKI x = tokOKB x := by
  refine tokOKB_of ?_
  obtain ⟨k, a, b, c, p, n⟩ := x
  by_cases hk : k < 1 ∨ 9 < k
  · have h1 : valB k a = false := by
      rw [valB, if_neg (by omega), if_neg (by omega), if_neg (by omega), if_neg (by omega), if_neg (by omega), if_neg (by omega)]
    have h2 : fldB ⟨k, a, b, c, p, n⟩ = false := by
      rw [fldB, if_neg (by dsimp only; omega)]
      dsimp only
      rw [h1]
      rfl
    unfold tokOKI
    rw [h2]
    unfold tokOKP
    constructor
    · intro h; simp at h
    · intro h; exfalso; dsimp only at h; omega
  · have : k = 1 ∨ k = 2 ∨ k = 3 ∨ k = 4 ∨ k = 5 ∨ k = 6 ∨ k = 7 ∨ k = 8 ∨ k = 9 := by omega
    rcases this with rfl | rfl | rfl | rfl | rfl | rfl | rfl | rfl | rfl
    · exact okI1 a b c p n
    · exact okI2 a b c p n
    · exact okI3 a b c p n
    · exact okI4 a b c p n
    · exact okI5 a b c p n
    · exact okI6 a b c p n
    · exact okI7 a b c p n
    · exact okI8 a b c p n
    · exact okI9 a b c p n

set_option maxHeartbeats 2000000 in
set_option maxRecDepth 100000 in
theorem impl_tokenOK (x : Tok) (w : World) : Calls Tryd.prog 48 #[tokV x] w fun e w' => e = .returned (.bool (tokOKB x)) ∧ Below w.heap.size w w' := by
  have HO := Lib.hid (tokOKI_eq x)
  rw [← HO.out]
  have HF := Lib.hid (impl_tokenFieldsOK x)
  have HL := Lib.hid (impl_tokenLengthOK x)
  have HX := Lib.hid (show tokOKI x = (decide (0 ≤ x.p) && (decide (x.p ≤ 65536) && (fldB x && lenB x))) from rfl)
  rw [HX.out]
  generalize fldB x = fb at *
  generalize lenB x = lb at *
  clear HO HX
  obtain ⟨k, a, b, c, p, n⟩ := x
  have b0 := below_one w (.cells #[.int .i64 k, .int .i64 a, .int .i64 b, .int .i64 c, .int .i64 p, .int .i64 n] 38)
  have hX := TokAt.new w ⟨k, a, b, c, p, n⟩
  unfold tokV at HF HL ⊢
  dsimp only at *
  by_cases p0 : 0 ≤ p
  · by_cases p1 : p ≤ 65536
    · have HD : Hid ((decide (0 ≤ p) && (decide (p ≤ 65536) && (fb && lb))) = (fb && lb)) := Lib.hid (by simp [p0, p1])
      rw [HD.out]
      go_enter Tryd.func48, Tryd.ntmps48
      go_wp2_with fail
      refine (HF.out _).mono ?_
      rintro e w1 ⟨rfl, b1⟩
      have B1 : Below w.heap.size w w1 := b0.trans (b1.mono b0.size)
      have ⟨y0, y1, y2, y3, y4, y5⟩ := (hX.keep b1).cells
      dsimp only at y0 y1 y2 y3 y4 y5
      clear hX b0 b1
      cases fb
      · go_wp2
        go_ret
        exact ⟨rfl, B1⟩
      · go_wp2_with fail
        refine (HL.out _).mono ?_
        rintro e w2 ⟨rfl, b2⟩
        have B2 : Below w.heap.size w w2 := B1.trans (b2.mono B1.size)
        go_wp2
        go_ret
        exact ⟨ret_bool (by simp), B2⟩
    · have HD : Hid ((decide (0 ≤ p) && (decide (p ≤ 65536) && (fb && lb))) = false) := Lib.hid (by simp [p1])
      rw [HD.out]
      clear hX
      go_enter Tryd.func48, Tryd.ntmps48
      go_wp2
      go_ret
      exact ⟨rfl, b0⟩
  · have HD : Hid ((decide (0 ≤ p) && (decide (p ≤ 65536) && (fb && lb))) = false) := Lib.hid (by simp [p0])
    rw [HD.out]
    clear hX
    go_enter Tryd.func48, Tryd.ntmps48
    go_wp2
    go_ret
    exact ⟨rfl, b0⟩

end Go.Proofs.YtibadnfagoehmaaDoor

namespace Go.Proofs.YtibadnfagoehmaaDoor
open Go.RowKit

def ownI (r : Int) : Bool := (r == 32) || (decide (r < 128) && ctlB r)
theorem ownI_iff {r : Int} (h : okB r = true) : ownI r = (ownR r && (decide (r ≠ 14) && (decide (r ≠ 15) && decide (r ≠ 27)))) := by
  have ⟨h0, _, _⟩ := okB_true h
  have hc := ctlB_iff r
  rw [Bool.eq_iff_iff]
  simp only [ownI, ownR, Bool.or_eq_true, Bool.and_eq_true, decide_eq_true_eq, beq_iff_eq, hc]
  omega

theorem impl_isOwnByte (r : Int) (w : World) : Calls Tryd.prog 102 #[.int .i64 r] w fun e w' => e = .returned (.bool (ownI r)) ∧ Below w.heap.size w w' := by
  by_cases h32 : r = 32
  · have HE : Hid (ownI r = true) := Lib.hid (by simp [ownI, h32])
    have e32 : (r == 32) = true := by simp [h32]
    clear h32
    go_enter Tryd.func102, Tryd.ntmps102
    go_wp2
    go_ret
    exact ⟨ret_bool HE.out.symm, Below.refl _ _⟩
  have e32 : (r == 32) = false := by simp [h32]
  by_cases h128 : r < 128
  · have HE : Hid (ownI r = ctlB r) := Lib.hid (by simp [ownI, h32, h128])
    have e128 : decide (r < 128) = true := by simp [h128]
    clear h32 h128
    go_enter Tryd.func102, Tryd.ntmps102
    go_wp2_with fail
    refine (impl_isControl r _).mono ?_
    rintro e w1 ⟨rfl, b1⟩
    generalize ctlB r = q at *
    go_wp2
    go_ret
    exact ⟨ret_bool HE.out.symm, b1⟩
  · have HE : Hid (ownI r = false) := Lib.hid (by simp [ownI, h32, h128])
    have e128 : decide (r < 128) = false := by simp [h128]
    clear h32 h128
    go_enter Tryd.func102, Tryd.ntmps102
    go_wp2
    go_ret
    exact ⟨ret_bool HE.out.symm, Below.refl _ _⟩

theorem codeS_none (q r : Int) (h : r = 14 ∨ r = 15 ∨ r = 27) : codeS (setSpans q) r = 0 := by
  unfold setSpans
  repeat' split
  all_goals rcases h with rfl | rfl | rfl <;> rfl
theorem canG_none (g r : Int) (h : r = 14 ∨ r = 15 ∨ r = 27) (qs : List Int) : canG g r qs = false := by
  unfold canG
  rw [List.any_eq_false]
  intro q _
  simp [codeS_none q r h]
/-- What the program asks. -/
theorem canB_own {n r : Int} (hr : okB r = true) (h : ownI r = true) : canB n r = true := by
  rw [ownI_iff hr, Bool.and_eq_true] at h
  unfold canB
  rw [if_pos h.1]
  exact h.2
theorem canB_other {n r : Int} (hr : okB r = true) (h : ownI r = false) (b : Bool) (hb : (canG 0 r (prSet0 n) || (canG 1 r (prSet1 n) || canG 2 r (prSet2 n))) = b) : canB n r = b := by
  unfold canB
  split
  · next ho =>
    rw [ownI_iff hr, ho, Bool.true_and] at h
    have hx : r = 14 ∨ r = 15 ∨ r = 27 := by
      simp only [Bool.and_eq_false_iff, decide_eq_false_iff_not, Decidable.not_not] at h
      exact h
    rw [canG_none 0 r hx, canG_none 1 r hx, canG_none 2 r hx] at hb
    rw [h, ← hb]
    rfl
  · exact hb
theorem canI_yes {n r : Int} {g : Nat} (hr : okB r = true) (ho : ownI r = false) (hg : g < 4) (h : canG g r (prSets n g) = true) : canB n r = true := by
  refine canB_other hr ho true ?_
  rcases (show g = 0 ∨ g = 1 ∨ g = 2 ∨ g = 3 by omega) with rfl | rfl | rfl | rfl
  · simp [show canG 0 r (prSet0 n) = true from h]
  · simp [show canG 1 r (prSet1 n) = true from h]
  · simp [show canG 2 r (prSet2 n) = true from h]
  · simp [canG, prSets] at h
theorem canI_no {n r : Int} (hr : okB r = true) (ho : ownI r = false) (h : ∀ g : Nat, g < 4 → canG g r (prSets n g) = false) : canB n r = false := by
  refine canB_other hr ho false ?_
  simp [show canG 0 r (prSet0 n) = false from h 0 (by decide), show canG 1 r (prSet1 n) = false from h 1 (by decide), show canG 2 r (prSet2 n) = false from h 2 (by decide)]
/-- A world that comes of a first one with the table, a block g made since being written. -/
theorem TabSets.since {w0 w w' : World} {g : Nat} (ht : TabSets w0) (b0 : Below w0.heap.size w0 w) (hg : w0.heap.size ≤ g) (o : Only g w w') : TabSets w' := ht.keep (b0.trans (o.1.mono hg))
theorem cf_none {q r : Int} (h : setB q = true) (hc : codeS (setSpans q) r = 0) : cfV q r = .tuple #[.int .i64 0, .int .i64 12] := cfV_bad q r 12 (by simp [cfC, h, hc]) (by decide)
theorem cf_some {q r : Int} (h : setB q = true) (hc : 0 < codeS (setSpans q) r) : cfV q r = .tuple #[.int .i64 (codeS (setSpans q) r), .int .i64 0] := cfV_ok q r (by simp [cfC, h]; omega)
theorem set_mem {n : Int} {k j : Nat} (hj : j < (prSets n k).length) (_hk : k < 4) : setB ((prSets n k).getD j 0) = true := by
  have hm : (prSets n k).getD j 0 ∈ prSets n k := by simp [List.getD, List.getElem?_eq_getElem hj]
  revert hm
  generalize (prSets n k).getD j 0 = q
  unfold prSets prSet0 prSet1 prSet2
  repeat' split
  all_goals (intro hm; first | (cases hm; done) | (simp only [List.mem_cons, List.not_mem_nil, or_false] at hm; rcases hm with rfl | rfl | rfl | rfl | rfl | rfl <;> decide))
theorem codeS_pos (q r : Int) : 0 ≤ codeS (setSpans q) r := by
  have : ∀ sp : List Sp, (∀ s ∈ sp, smallSp s) → 0 ≤ codeS sp r := by
    intro sp
    induction sp with
    | nil => intro _; simp [codeS]
    | cons s t ih =>
      intro h
      unfold codeS
      split
      · next hb =>
        have := inB_true hb
        have ⟨⟨a1, a2⟩, ⟨a3, a4⟩, a5, a6⟩ := h s (by simp)
        omega
      · exact ih fun x hx => h x (List.mem_cons_of_mem _ hx)
  exact this _ (set_small q)

set_option maxHeartbeats 1000000 in
theorem impl_canEncode (n r : Int) (g C : Nat) (w0 w : World) (h : GuOK w g n C) (hg : g < C) (hC : C ≤ w.heap.size) (ht : TabSets w0) (b0 : Below w0.heap.size w0 w) (hg0 : w0.heap.size ≤ g) (hn : proB n = true) (hr : okB r = true) :
    Calls Tryd.prog 65 #[.pointer (some ⟨g, 0, none⟩), .int .i64 r] w (GaDone (canB n r) g n C w) := by
  have HO := Lib.hid (fun w => impl_isOwnByte r w)
  cases ho : ownI r
  · rw [ho] at HO
    have HS := Lib.hid (fun (k : Nat) w h hC (hk : k < 4) => impl_setsFor n k g C w h hg hC hn (by omega) (by omega))
    have HY := Lib.hid (fun (k : Nat) (hk : k < 4) (h : canG k r (prSets n k) = true) => canI_yes (n := n) hr ho hk h)
    have HNo := Lib.hid (fun (h : ∀ g : Nat, g < 4 → canG g r (prSets n g) = false) => canI_no (n := n) hr ho h)
    have hr1 : r ≤ 9223372036854775807 := by have := okB_true hr; omega
    have HF := Lib.hid (fun q w ht => impl_CodeFor q r w ht hr1)
    have HT := Lib.hid (fun w' (o : Only g w w') => ht.since b0 hg0 o)
    have hgl : g < w.heap.size := by omega
    have HG := Lib.hid h
    clear ho hn hr hr1 ht b0 h
    go_enter Tryd.func65, Tryd.ntmps65
    go_wp2_with fail
    refine (HO.out _).mono ?_
    rintro e w1 ⟨rfl, b1⟩
    have HG1 := Lib.hid (HG.out.keep b1)
    have O1 := Lib.hid (only_below hgl b1)
    have hs1 := b1.size
    clear b1 HG
    go_wp2
    go_loopw [5, 12] (fun _ i wr => ∃ k : Nat, k ≤ 4 ∧ i = .int .i64 k ∧ Hid (∀ g : Nat, g < k → canG g r (prSets n g) = false) ∧ Hid (GuOK wr g n C) ∧ Hid (Only g w wr) ∧ w.heap.size ≤ wr.heap.size) (fun _ i _ => 4 - (intOf i).toNat)
    case atStart => exact ⟨0, by omega, rfl, Lib.hid (fun g hg => absurd hg (by omega)), HG1, O1, hs1⟩
    case round =>
      clear HG1 O1 hs1
      obtain ⟨k, hk, rfl, HC, HGr, HOr, hsr⟩ := hrel
      by_cases hk4 : k < 4
      · have hk4' : (k : Int) < 4 := by omega
        have hk0' : (0 : Int) ≤ (k : Int) := by omega
        go_wp2_with fail
        refine (HS.out k _ HGr.out (by omega) hk4).mono ?_
        rintro e w2 ⟨s, l, c, mb, rfl, hG, hP, hOw, o2⟩
        have HG2 : Hid (GuOK w2 g n C) := Lib.hid ⟨_, hG, .inr ⟨mb, rfl, hP⟩⟩
        have HO2 := Lib.hid (HOr.out.trans o2)
        have hs2 : w.heap.size ≤ w2.heap.size := Nat.le_trans hsr o2.1.size
        have HI := Lib.hid hOw.ints
        obtain ⟨a', c', hv⟩ := hOw.ints.form
        injection hv with e1 e2 e3
        subst e2
        have hfew := prSets_few n k
        have HSet := Lib.hid (fun j hj => set_mem (n := n) (k := k) (j := j) hj hk4)
        clear hG hP hOw o2 HGr HOr hsr e1 e3 a' c' mb
        have HYk := Lib.hid (fun h => HY.out k hk4 h)
        have HNx : Hid (canG k r (prSets n k) = false → ∀ g : Nat, g < k + 1 → canG g r (prSets n g) = false) := Lib.hid (fun h g hg => by
          by_cases hgk : g = k
          · subst hgk; exact h
          · exact HC.out g (by omega))
        have HCk : Hid (∀ j c, j < (prSets n k).length → canG k r ((prSets n k).take j) = false → codeS (setSpans ((prSets n k).getD j 0)) r = c → canG k r ((prSets n k).take (j + 1)) = (decide (0 < c) && (decide ((k : Int) ≠ 2) || decide (c ≠ 127)))) := Lib.hid (fun j c h1 h3 h2 => canG_take k r _ j h1 h3 c h2)
        generalize prSets n k = zs at *
        go_wp2
        go_loopw [7, 8, 9, 19] (fun _ _ _ i wq => ∃ j : Nat, j ≤ zs.length ∧ i = .int .i64 j ∧ Hid (canG k r (zs.take j) = false) ∧ Hid (GuOK wq g n C) ∧ Hid (Only g w wq) ∧ Below w2.heap.size w2 wq) (fun _ _ _ i _ => zs.length - (intOf i).toNat)
        case atStart => exact ⟨0, by omega, rfl, Lib.hid rfl, HG2, HO2, Below.refl _ _⟩
        case round =>
          clear HG2 HO2
          obtain ⟨j, hj, rfl, HJ, HGq, HOq, hq⟩ := hrel
          by_cases hjl : j < zs.length
          · have hjl' : (j : Int) < (zs.length : Int) := by omega
            have hj0' : (0 : Int) ≤ (j : Int) := by omega
            obtain ⟨b, off, rfl, c1⟩ := (HI.out.keep hq).pick j hjl
            have hset := HSet.out j hjl
            have HCj := Lib.hid (fun c => HCk.out j c hjl HJ.out)
            generalize zs.getD j 0 = z at *
            have hz64 := inB_true hset
            have hcs := codeS_pos z r
            go_wp2_with fail
            refine (HF.out z _ (HT.out _ HOq.out)).mono ?_
            rintro e w3 ⟨rfl, b3⟩
            have hgl3 : g < wr.heap.size := Nat.lt_of_lt_of_le hgl HOq.out.1.size
            have HG3 := Lib.hid (HGq.out.keep b3)
            have HO3 := Lib.hid (HOq.out.trans (only_below hgl3 b3))
            have hq3 : Below w2.heap.size w2 w3 := hq.trans (b3.mono hq.size)
            have HCc := Lib.hid (HCj.out _ rfl)
            clear c1 hq b3 HCj HGq HOq
            by_cases hc : codeS (setSpans z) r = 0
            · rw [cf_none hset hc]
              rw [hc] at HCc
              have HN : Hid (canG k r (zs.take (j + 1)) = false) := Lib.hid (by rw [HCc.out]; simp)
              clear hc hcs HCc hset
              go_wp2
              go_roundw
              case rel => exact ⟨j + 1, by omega, by go_num, HN, HG3, HO3, hq3⟩
              case measure => simp [intOf]; omega
            · rw [cf_some hset (by omega)]
              generalize codeS (setSpans z) r = c at *
              by_cases hk2 : k = 2
              · have ek : ((k : Int) != 2) = false := by simp [hk2]
                by_cases hc7 : c = 127
                · have ecc : (c != 127) = false := by simp [hc7]
                  have HN : Hid (canG k r (zs.take (j + 1)) = false) := Lib.hid (by rw [HCc.out]; simp [hk2, hc7])
                  clear hc hk2 hc7 hcs HCc hset
                  go_wp2
                  go_roundw
                  case rel => exact ⟨j + 1, by omega, by go_num, HN, HG3, HO3, hq3⟩
                  case measure => simp [intOf]; omega
                · have ecc : (c != 127) = true := by simp [hc7]
                  have HN : Hid (canB n r = true) := Lib.hid (HYk.out (canG_some (k := j + 1) (by rw [HCc.out]; simp [hc7]; omega)))
                  clear hc hk2 hc7 hcs HCc hset
                  go_wp2
                  go_ret
                  exact ⟨ret_bool HN.out.symm, HG3.out, HO3.out⟩
              · have ek : ((k : Int) != 2) = true := by simp; omega
                have HN : Hid (canB n r = true) := Lib.hid (HYk.out (canG_some (k := j + 1) (by rw [HCc.out]; simp; omega)))
                clear hc hk2 hcs HCc hset
                go_wp2
                go_ret
                exact ⟨ret_bool HN.out.symm, HG3.out, HO3.out⟩
          · have HN : Hid (∀ g : Nat, g < k + 1 → canG g r (prSets n g) = false) := Lib.hid (HNx.out (by
              have := HJ.out
              rw [List.take_of_length_le (by omega)] at this
              exact this))
            have hsq : w.heap.size ≤ wr.heap.size := Nat.le_trans hs2 hq.size
            go_wp2
            go_roundw
            case rel => exact ⟨k + 1, by omega, by go_num, HN, HGq, HOq, hsq⟩
            case measure => simp [intOf]; omega
      · have HE : Hid (canB n r = false) := Lib.hid (HNo.out fun g hg => HC.out g (by omega))
        go_wp2
        go_ret
        exact ⟨ret_bool HE.out.symm, HGr.out, HOr.out⟩
  · rw [ho] at HO
    have HE := Lib.hid (canB_own (n := n) hr ho)
    have HG := Lib.hid h
    have hgl : g < w.heap.size := by omega
    clear ho hn hr ht b0 h
    go_enter Tryd.func65, Tryd.ntmps65
    go_wp2_with fail
    refine (HO.out _).mono ?_
    rintro e w1 ⟨rfl, b1⟩
    go_wp2
    go_ret
    exact ⟨ret_bool HE.out.symm, HG.out.keep b1, only_below hgl b1⟩

theorem ce_bad {n r c : Int} (h : ceC n r = c) (h0 : c ≠ 0) : (.tuple #[.bool (ceB n r), .int .i64 (ceC n r)] : Value) = .tuple #[.bool false, .int .i64 c] := by
  rw [h, ceB, h]
  simp [h0]
set_option maxHeartbeats 400000 in
theorem impl_CanEncode (n r : Int) (w : World) (ht : TabSets w) : Calls Tryd.prog 25 #[.int .i64 n, .int .i64 r] w fun e w' => e = .returned (.tuple #[.bool (ceB n r), .int .i64 (ceC n r)]) ∧ Below w.heap.size w w' := by
  cases hn : proB n
  · have HE := Lib.hid (ce_bad (n := n) (r := r) (c := 5) (by simp [ceC, hn]) (by decide))
    go_enter Tryd.func25, Tryd.ntmps25
    go_wp2_with fail
    refine (impl_isProfile n _).mono ?_
    rintro e w1 ⟨rfl, rfl⟩
    rw [hn]
    go_wp2
    go_ret2
    exact ⟨ret_val HE.out.symm, Below.refl _ _⟩
  cases hr : okB r
  · have HE := Lib.hid (ce_bad (n := n) (r := r) (c := 4) (by simp [ceC, hn, hr]) (by decide))
    go_enter Tryd.func25, Tryd.ntmps25
    go_wp2_with fail
    refine (impl_isProfile n _).mono ?_
    rintro e w1 ⟨rfl, rfl⟩
    rw [hn]
    go_wp2_with fail
    refine (impl_RuneOK r _).mono ?_
    rintro e w2 ⟨rfl, rfl⟩
    rw [hr]
    go_wp2
    go_ret2
    exact ⟨ret_val HE.out.symm, Below.refl _ _⟩
  · have HE : Hid ((.tuple #[.bool (ceB n r), .int .i64 (ceC n r)] : Value) = .tuple #[.bool (canB n r), .int .i64 0]) := Lib.hid (by simp [ceB, ceC, hn, hr])
    have HCan := Lib.hid (fun g C w' h hg hC b0 hg0 => impl_canEncode n r g C w w' h hg hC ht b0 hg0 hn hr)
    have HGu := Lib.hid (fun w' (b : Below w.heap.size w w') => impl_guideOf n w' (ht.keep b) hn)
    unfold GaDone at HCan
    have HN := Lib.hid hn
    have HR := Lib.hid hr
    clear hn hr ht
    generalize canB n r = q at *
    go_enter Tryd.func25, Tryd.ntmps25
    go_wp2_with fail
    refine (impl_isProfile n _).mono ?_
    rintro e w1 ⟨rfl, rfl⟩
    rw [HN.out]
    go_wp2_with fail
    refine (impl_RuneOK r _).mono ?_
    rintro e w2 ⟨rfl, rfl⟩
    rw [HR.out]
    go_wp2_with fail
    refine (HGu.out _ (Below.refl _ _)).mono ?_
    rintro e w3 ⟨rfl, b3⟩
    have hs3 := b3.size
    have B4 := Lib.hid (b3.trans ((below_one w3 (.cells #[.int .i64 n, .string (prName n), .string (prHead n), .slice none 0 0, .bool (prRight n), .bool (prShifts n), .bool (prSingle n), .bool (prReset n), .bool (prClear n), .map none] 90)).mono b3.size))
    have HG4 : Hid (GuOK (w3.alloc (.cells #[.int .i64 n, .string (prName n), .string (prHead n), .slice none 0 0, .bool (prRight n), .bool (prShifts n), .bool (prSingle n), .bool (prReset n), .bool (prClear n), .map none] 90)) w3.heap.size n (w3.heap.size + 1)) := Lib.hid ⟨_, GuAt.new w3 n (.map none), .inl rfl⟩
    clear b3
    unfold guV
    go_wp2_with fail
    refine (HCan.out _ _ _ HG4.out (by omega) (by simp) B4.out (by omega)).mono ?_
    rintro e w5 ⟨rfl, _, o5⟩
    have B5 := B4.out.trans (o5.1.mono (by omega))
    go_wp2
    go_ret2
    exact ⟨ret_val HE.out.symm, B5⟩

end Go.Proofs.YtibadnfagoehmaaDoor

namespace Go.Proofs.YtibadnfagoehmaaDoor
open Go.ChangeShapes Go.WideShapes Go.ChangeAt Go.RowKit

theorem gReg : Tryd.prog.globalNamed "loop.example/g00748/impl.registry" = some 0 := by kernel_rfl
theorem tReg : (Tryd.prog.globals[0]?).map (·.type) = some 121 := by kernel_rfl
def spD {H : Type} (s : Sp) : DataW H := .agg [.lit (.int .i64 s.1), .lit (.int .i64 s.2.1), .lit (.int .i64 s.2.2)]
def setD {H : Type} (k : Nat) : DataW H := .agg [.lit (.string (setName k).data.toList), .lit (.int .i64 (setKind k)), .lit (.int .i64 (setFinal k)), .slice ((setSpans k).map spD) []]
def regD {H : Type} : List (DataW H) := .agg [.lit (.string []), .lit (.int .i64 0), .lit (.int .i64 0), .nil] :: [setD 1, setD 2, setD 3, setD 4, setD 5, setD 6, setD 7, setD 8]
theorem laid_reg {H : Type} : (Rows.laid_loop_example_g00748_impl_registry : DataW H) = .agg regD := by kernel_rfl
theorem regD_at {H : Type} (k : Nat) (h1 : 1 ≤ k) (h8 : k ≤ 8) : (regD (H := H))[k]? = some (setD k) := by
  have : k = 1 ∨ k = 2 ∨ k = 3 ∨ k = 4 ∨ k = 5 ∨ k = 6 ∨ k = 7 ∨ k = 8 := by omega
  rcases this with rfl | rfl | rfl | rfl | rfl | rfl | rfl | rfl <;> rfl

theorem one_of_take {cs : List Value} {i : Nat} {c : Value} (h : (cs.drop i).take 1 = [c]) : cs[i]? = some c := by
  have := congrArg (fun l => l[0]?) h
  simpa [List.getElem?_take, List.getElem?_drop] using this

set_option maxRecDepth 100000 in
/-- A slice of spans, read. -/
theorem spans_of {H : Type} {enc : TypeId × Value → H} {W : World} {held : Bool} {fuel : Nat} {c : Value} {sp : List Sp} {p : List MemPlace} (hne : sp ≠ [])
    (h : DataW.trod enc Tryd.prog W 0 (fun _ => true) held fuel 108 [c] = some (.slice (sp.map spD) [], p)) : SpAt W c sp := by
  rcases Deep.open_slice Tryd.underlying108 h with ⟨_, hx⟩ | ⟨a, len, cap, m, n, D, Pl, hcs, _, hl, _, hm, hx, hel⟩
  · simp at hx
  · simp only [if_true] at hm
    have e1 := congrArg Prod.fst hx
    simp only [DataW.slice.injEq] at e1
    obtain ⟨e2, e3⟩ := e1
    have hlen : len = sp.length := by simpa using (congrArg List.length e2).symm
    subst hlen
    have c3 : Tryd.prog.cellsOf 133 = 3 := by kernel_rfl
    rw [c3] at hel
    have key : ∀ i (hi : i < sp.length), W.cell? (a.add (i * 3)) = some (.int .i64 (sp[i]).1) ∧ W.cell? ((a.add (i * 3)).add 1) = some (.int .i64 (sp[i]).2.1) ∧ W.cell? ((a.add (i * 3)).add 2) = some (.int .i64 (sp[i]).2.2) := by
      intro i hi
      obtain ⟨cs', h1, h2⟩ := hel i (by omega)
      obtain ⟨_, hlen3, hc⟩ := World.cells?_some h1
      have hD : D i = spD (sp[i]) := by
        have := congrArg (fun l => l[i]?) e2
        simp only [List.getElem?_map, List.getElem?_eq_getElem hi, Option.map_some, List.getElem?_range hi, Option.some.injEq] at this
        exact this.symm
      obtain ⟨y0, y1, y2, q, hy, _, t0, t1, t2⟩ := Deep.trod_struct3 Tryd.underlying133 h2
      have c1 : Tryd.prog.cellsOf 3 = 1 := by kernel_rfl
      obtain ⟨n0, f0, rfl, _⟩ := DataW.trod_int Tryd.underlying3 t0
      obtain ⟨n1, f1, rfl, _⟩ := DataW.trod_int Tryd.underlying3 t1
      obtain ⟨n2, f2, rfl, _⟩ := DataW.trod_int Tryd.underlying3 t2
      have hy1 := congrArg Prod.fst hy
      rw [hD] at hy1
      simp only [spD, DataW.agg.injEq, List.cons.injEq, DataW.lit.injEq, Lit.int.injEq, true_and, and_true] at hy1
      obtain ⟨g0, g1, g2⟩ := hy1
      have k0 := one_of_take (c := .int .i64 n0) (i := 0) (by rw [← c1]; exact f0)
      have k1 := one_of_take (c := .int .i64 n1) (i := 1) (by rw [← c1]; exact f1)
      have k2 := one_of_take (c := .int .i64 n2) (i := 2) (by rw [← c1]; exact f2)
      refine ⟨?_, ?_, ?_⟩
      · have := hc 0 (by omega)
        rw [k0, ← g0] at this
        simpa [Addr.add] using this
      · rw [hc 1 (by omega), k1, ← g1]
      · rw [hc 2 (by omega), k2, ← g2]
    simp only [List.cons.injEq, and_true] at hcs
    subst hcs
    have hpos : 0 < sp.length := List.length_pos_iff.2 hne
    obtain ⟨b, off, spot⟩ := a
    have hspot : spot = none := by
      have := World.cell?_spot (key 0 hpos).1
      simpa [Addr.add] using this
    subst hspot
    refine .inr ⟨b, off, cap, rfl, fun i hi => ?_⟩
    have ⟨h1, h2, h3⟩ := key i hi
    rw [add_off, add_off] at h2 h3
    rw [add_off] at h1
    exact ⟨h1, h2, h3⟩

set_option maxRecDepth 100000 in
theorem sets_of_laid {W : World} (h : laidMetH Tryd.prog [("loop.example/g00748/impl.registry", Rows.laid_loop_example_g00748_impl_registry)] W) : TabSets W := by
  rw [MakeChecks.laidMetH_plain _ _ _ (by kernel_rfl)] at h
  obtain ⟨ps, ⟨g0, t0, cs0, f0, p0, q0, hg0, ht0, hv0, hd0, _, _⟩, _, _⟩ := h
  obtain rfl := Option.some.inj (gReg.symm.trans hg0)
  obtain rfl := Option.some.inj (tReg.symm.trans ht0)
  rw [laid_reg] at hd0
  obtain ⟨xs, m, rfl, hx, _, hlen, hel⟩ := DataW.trod_array Tryd.underlying121 hd0
  have hx1 : regD = xs.map (·.1) := by simpa using congrArg Prod.fst hx
  have c4 : Tryd.prog.cellsOf 110 = 4 := by kernel_rfl
  have c1 : Tryd.prog.cellsOf 3 = 1 := by kernel_rfl
  have c1s : Tryd.prog.cellsOf 9 = 1 := by kernel_rfl
  have c1l : Tryd.prog.cellsOf 108 = 1 := by kernel_rfl
  rw [c4] at hel
  intro k h1 h8
  have hk : k < xs.length := by omega
  have e1 := hel k (by omega)
  rw [List.getElem?_eq_getElem hk] at e1
  have e2 : (xs[k]).1 = setD k := by
    have e3 := regD_at (H := Unit) k h1 h8
    rw [hx1, List.getElem?_map, List.getElem?_eq_getElem hk] at e3
    simpa using e3
  obtain ⟨y0, y1, y2, y3, n, hy, _, t0, t1, t2, t3⟩ := Joins.trod_struct4 Tryd.underlying110 e1
  obtain ⟨s0, f0, rfl, _⟩ := DataW.trod_string Tryd.underlying9 t0
  obtain ⟨n1, f1, rfl, _⟩ := DataW.trod_int Tryd.underlying3 t1
  obtain ⟨n2, f2, rfl, _⟩ := DataW.trod_int Tryd.underlying3 t2
  have hy1 := congrArg Prod.fst hy
  rw [e2] at hy1
  simp only [setD, DataW.agg.injEq, List.cons.injEq, DataW.lit.injEq, Lit.int.injEq, Lit.string.injEq, true_and, and_true] at hy1
  obtain ⟨g0, g1, g2, g3⟩ := hy1
  have hs0 : setName (k : Int) = s0 := ByteArray.ext (Array.toList_inj.1 g0)
  have cell : ∀ j, W.cell? ⟨0, j, none⟩ = cs0[j]? := fun j => by simpa using World.var?_cell gReg hv0 j
  have el : ∀ (j : Nat) (c : Value), j < 4 → ((((cs0.toList.drop (k * 4)).take 4).drop j).take 1) = [c] → W.cell? ⟨0, k * 4 + j, none⟩ = some c := by
    intro j c hj h
    have h2 := one_of_take h
    rw [List.getElem?_take_of_lt hj, List.getElem?_drop, Array.getElem?_toList] at h2
    rw [cell, h2]
  have l3 : ∃ c, ((((cs0.toList.drop (k * 4)).take 4).drop 3).take 1) = [c] := by
    rw [c1l] at t3
    rcases Deep.open_slice Tryd.underlying108 t3 with ⟨h, _⟩ | ⟨a, len, cap, _, _, _, _, h, _⟩
    · exact ⟨_, h⟩
    · exact ⟨_, h⟩
  obtain ⟨c, hc⟩ := l3
  refine ⟨?_, ?_, ?_, c, el 3 c (by decide) hc, ?_⟩
  · rw [hs0]
    exact el 0 _ (by decide) (by rw [← c1s]; exact f0)
  · rw [g1]
    exact el 1 _ (by decide) (by rw [← c1]; exact f1)
  · rw [g2]
    exact el 2 _ (by decide) (by rw [← c1]; exact f2)
  · have t4 : DataW.trod (fun _ : TypeId × Value => ()) Tryd.prog W 0 (fun _ => true) false n 108 [c] = some y3 := by
      rw [← hc, ← c1l]; exact t3
    obtain ⟨y3a, y3b⟩ := y3
    simp only at g3
    rw [← g3] at t4
    exact spans_of (by have := (set_few (k : Int)).1; intro h; rw [h] at this; simp at this) t4

theorem sets_readable : ∀ n ∈ ["loop.example/g00748/impl.registry"], ∀ g t, Tryd.prog.globalNamed n = some g → (Tryd.prog.globals[g]?).map (·.type) = some t → Tryd.prog.readableRec t = true ∧ t < Tryd.prog.types.size := by
  intro n hn g t hg ht
  obtain rfl : n = _ := List.mem_singleton.1 hn
  obtain rfl := Option.some.inj (gReg.symm.trans hg)
  obtain rfl := Option.some.inj (tReg.symm.trans ht)
  exact ⟨by kernel_rfl, of_decide_eq_true (by kernel_rfl)⟩

end Go.Proofs.YtibadnfagoehmaaDoor

namespace Go.Proofs.YtibadnfagoehmaaDoor.fnExactCanEncode
open Go.RowKit

theorem walk (a : Int) (b : Int) (w : World) (_h0 : (Lit.int .i64 a).wf = true) (_h1 : (Lit.int .i64 b).wf = true) (ht : TabSets w) : Calls Tryd.prog 4 #[.int .i64 a, .int .i64 b] w fun e w' => e = .returned (.bool true) ∧ Below w.heap.size w w' := by
  have HT := Lib.hid ht
  clear ht
  have HS := Lib.hid (fun w => spec_CanEncode a b w)
  have HI := Lib.hid (fun w ht => impl_CanEncode a b w ht)
  generalize ceB a b = x at *
  generalize ceC a b = c at *
  go_enter Tryd.func4, Tryd.ntmps4
  go_wp2_with fail
  refine (HS.out w).mono ?_
  rintro e w1 ⟨rfl, b1⟩
  go_wp2_with fail
  refine (HI.out w1 (HT.out.keep b1)).mono ?_
  rintro e w2 ⟨rfl, b2⟩
  have B2 : Below w.heap.size w w2 := b1.trans (b2.mono b1.size)
  go_wp2
  go_ret
  exact ⟨rfl, B2⟩

theorem table {W : World} (h : laidMetH Tryd.prog Rows.fnExactCanEncodeRow.laid W) : TabSets W := sets_of_laid h
theorem readable : ∀ n ∈ Rows.fnExactCanEncodeSpec.vars, ∀ g t, Tryd.prog.globalNamed n = some g → (Tryd.prog.globals[g]?).map (·.type) = some t → Tryd.prog.readableRec t = true ∧ t < Tryd.prog.types.size := sets_readable

end Go.Proofs.YtibadnfagoehmaaDoor.fnExactCanEncode

namespace Go.Proofs.YtibadnfagoehmaaDoor.fnExactCanEncode
open Go.ChangeShapes Go.WideShapes Go.ChangeAt Go.RowKit
open Go.ChangeMaps (open_string shut_string)
set_option linter.unusedVariables false

set_option maxRecDepth 100000 in
theorem contract (H : Type) (enc : TypeId × Value → H) (W : World) (base : Nat) (args : Array Value) (ds gs : List (DataW H)) (before : List MemPlace)
    (hval : ∀ (j : Nat) t v, Tryd.f4.params[j]? = some t → args[j]? = some v → Value.okWide Tryd.prog W .any base t v)
    (hW : DataW.Whole enc Tryd.prog Tryd.f4.params.toList Rows.fnExactCanEncodeSpec.vars false W args.toList ds gs before) (hL : laidMetH Tryd.prog Rows.fnExactCanEncodeRow.laid W) :
    Calls Tryd.prog 4 args W fun e W' => ∃ v, e = .returned v ∧ Rows.fnExactCanEncodeSpec.post enc Tryd.prog Tryd.f4 false true false false W args v W' := by
  have HT := Lib.hid (table hL)
  clear hL
  have hW' := hW
  obtain ⟨p, q, hA0, hV0, rfl, hfz, hnd⟩ := hW
  have hV : DataW.TrodVars enc Tryd.prog W (fun _ => true) ["loop.example/g00748/impl.registry"] gs q := hV0
  clear hV0
  have hA : DataW.TrodAll enc Tryd.prog W 0 (fun _ => true) true Tryd.f4.params.toList args.toList ds p := hA0
  rw [Tryd.params4] at hA hval
  obtain ⟨v0, vs0, d0, ds0, p0, q0, hargs, rfl, rfl, h0, r0⟩ := trodAll_cons hA
  obtain ⟨v1, vs1, d1, ds1, p1, q1, rfl, rfl, rfl, h1, r1⟩ := trodAll_cons r0
  obtain ⟨rfl, rfl, rfl⟩ := trodAll_nil r1
  obtain rfl : args = #[v0, v1] := by cases args; simp_all
  have hgs : ∃ d, gs = [d] := by obtain ⟨_, _, _, _, d, _, hgs, _⟩ := trodVars_one hV; exact ⟨d, hgs⟩
  obtain ⟨g1, rfl⟩ := hgs
  obtain ⟨a0, rfl, rfl, rfl, w0⟩ := open_int Tryd.underlying3 (hval 0 3 v0 rfl rfl) h0
  obtain ⟨a1, rfl, rfl, rfl, w1⟩ := open_int Tryd.underlying3 (hval 1 3 v1 rfl rfl) h1
  clear hA0
  refine (walk a0 a1 W w0 w1 HT.out).mono fun e W' ⟨he, bel⟩ => ?_
  subst he
  exact ⟨_, rfl, _, _, _, [], [], q, hW', trodAll_mk1 (shut_bool Tryd.underlying4 _), (trodAll_cons_mk (shut_int Tryd.underlying3 w0) (trodAll_cons_mk (shut_int Tryd.underlying3 w1) trodAll_mk0)), trodVars_below laidOut bel readable hV, bel.frame _, fun h => by cases h⟩

theorem laid_met (os : Os) : laidMetH Tryd.prog Rows.fnExactCanEncodeRow.laid ((World.doorLaid Tryd.prog 400 os).forCall (fun _ _ => 0) ⟨#[], #[.int .i64 0, .int .i64 0], []⟩).memory :=
  laidMetH_of_parts3 (fuel := 8) (laidMet_of_run' 8 (by kernel_rfl) (by kernel_rfl)) (by kernel_rfl) (by kernel_rfl)
theorem reads (os : Os) {H : Type} (enc : TypeId × Value → H) : ∃ x, DataW.whole enc Tryd.prog ((World.doorLaid Tryd.prog 400 os).forCall (fun _ _ => 0) ⟨#[], #[.int .i64 0, .int .i64 0], []⟩).memory Tryd.f4.params.toList Rows.fnExactCanEncodeSpec.vars false #[.int .i64 0, .int .i64 0].toList 8 = some x :=
  Option.isSome_iff_exists.1 (by kernel_rfl)

set_option maxRecDepth 100000 in
theorem lifted (os : Os) (started : os.Started) (H : Type) (enc : TypeId × Value → H) (F : Stop.Interp) :
    ReturnsInHanded {} Tryd.checked os 4 .any ((OpenSpec.ofChange Rows.fnExactCanEncodeSpec).preRow enc Tryd.prog Tryd.f4 Rows.fnExactCanEncodeRow.domain false Rows.fnExactCanEncodeRow.laid) (((OpenSpec.ofChange Rows.fnExactCanEncodeSpec).at F).post enc Tryd.prog Tryd.f4 false true false false) := by
  obtain ⟨x, hx⟩ := reads os enc
  refine returnsInHanded_of_row (C := Tryd.checked) (s := OpenSpec.ofChange Rows.fnExactCanEncodeSpec) own started (by kernel_rfl) Tryd.func4
    (witness_row_atRef (enc := enc) (C := Tryd.checked) false (World.doorLaid Tryd.prog 400 os) #[.int .i64 0, .int .i64 0] rfl (by kernel_rfl) (by kernel_rfl) (by kernel_rfl)
      (OpenSpec.preRow_of_cond 8 hx rfl (fun k hk => by cases hk) (by kernel_rfl) (laid_met os))) ?_
  intro W base args ds gs before hval hW _ _ _ hL _ _
  exact contract H enc W base args ds gs before hval hW hL

theorem said : Rows.FnExactCanEncodeSaid :=
  OpenClaim.holds_of_cond 4 Tryd.f4 rfl rfl rfl rfl rfl rfl rfl ⟨rfl, rfl, rfl, rfl, rfl⟩ rfl rfl rfl rfl rfl (by kernel_rfl) Tryd.func4 (by kernel_rfl)
    (of_decide_eq_true (by kernel_rfl)) (by unfold Func.isWrapper; first | (rw [if_pos (by decide +kernel)]; kernel_rfl) | (rw [if_neg (by decide +kernel)]; exact ⟨rfl, rfl⟩))
    (fun os started H enc _ F => by rw [OpenClaim.pre_eq_preRow]; exact lifted os started H enc F)

theorem plain (f : FuncId) (fn : Func) (hf : Tryd.pinned.checked.prog.funcNamed "loop.example/g00748/laws.FnExactCanEncode" = some f) (hfn : Tryd.pinned.checked.prog.funcs[f]? = some fn) :
    Rows.fnExactCanEncodeCard.stood.looks = Tryd.pinned.checked.prog.looks [] ∧ ∀ (j : Nat) t, fn.params[j]? = some t → Tryd.pinned.checked.prog.wantsStandIn t = false := by
  obtain rfl : f = 4 := Option.some.inj ((show Tryd.prog.funcNamed "loop.example/g00748/laws.FnExactCanEncode" = some 4 by kernel_rfl).symm.trans hf) |>.symm
  obtain rfl : fn = Tryd.f4 := (Option.some.inj (Tryd.func4.symm.trans hfn)).symm
  refine ⟨by kernel_rfl, fun j t ht => ?_⟩
  rw [Tryd.params4] at ht
  have hm := Array.mem_of_getElem? ht
  simp at hm
  subst hm
  exact (show Tryd.prog.wantsStandIn 3 = false by kernel_rfl)

theorem card : Rows.FnExactCanEncodeCardSaid :=
  Claim7.holds_tied_plain_at .later [] _ _ _ _ said (fun _ h => by cases h) (by kernel_rfl) (fun _ h => by cases h) fnExactCanEncode_row_tie rfl ⟨rfl, rfl⟩ (by kernel_rfl) rfl plain (by kernel_rfl)
end Go.Proofs.YtibadnfagoehmaaDoor.fnExactCanEncode

namespace Go.Proofs.YtibadnfagoehmaaDoor
theorem fnExactCanEncode_holds : Rows.FnExactCanEncodeCardSaid := fnExactCanEncode.card
end Go.Proofs.YtibadnfagoehmaaDoor
