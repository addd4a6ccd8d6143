/- The program's map of places. -/
import Derived.Test.YtjbikenhdgbacaaDoorPlB
namespace Go.Proofs.YtjbikenhdgbacaaDoor
open Go.RowKit Go.MapKept Go.ChangeMaps

theorem set_same {l : Array Bool} {i : Nat} (h : i < l.size) : (l.setIfInBounds i true).getD i false = true := by simp [Array.getD_eq_getD_getElem?, h]
theorem set_other {l : Array Bool} {i j : Nat} (h : i ≠ j) (b : Bool) : (l.setIfInBounds i true).getD j b = l.getD j b := by simp [Array.getD_eq_getD_getElem?, Array.getElem?_setIfInBounds_ne h]
theorem unlisted {l : Array Bool} {i : Nat} (h : l.getD i true = false) : l.getD i false = false ∧ i < l.size := by
  have h1 := getD_true h
  exact ⟨by rw [Array.getD_eq_getD_getElem?, h1]; rfl, (Array.getElem?_eq_some_iff.1 h1).1⟩

structure PlInv (w0 : World) (l : Array Bool) (a : Act) (w : World) : Prop where
  size : l.size = 33
  tm : a.tmps.size = 23
  df : a.defers = []
  bel : Below w0.heap.size w0 w
  ks : ∀ k, k < 10 → l.getD (3 * k + 1) false = true → a.eval (.tmp (2 * k + 2)) = plK (plKey k).1 (plKey k).2
  all : ∃ blk : Nat → Nat, (∀ k, k < 10 → l.getD (3 * k + 2) false = true → a.eval (.tmp (2 * k + 3)) = plSl (blk k) k ∧ w0.heap.size ≤ blk k ∧ w.heap[blk k]? = some (plC k)) ∧
    (∀ j k, j < 10 → k < 10 → l.getD (3 * j + 2) false = true → l.getD (3 * k + 2) false = true → blk j = blk k → j = k) ∧
    (l.getD 0 false = true → ∃ mb, a.eval (.tmp 1) = .map (some mb) ∧ PlMap w w0.heap.size mb blk (fun k => l.getD (3 * k + 3) false))
  ins : ∀ k, k < 10 → l.getD (3 * k + 3) false = true → l.getD 0 false = true ∧ l.getD (3 * k + 2) false = true
  fin : l.getD 31 false = true → l.getD 0 false = true ∧ a.eval (.tmp 22) = a.eval (.tmp 1)
  fin2 : l.getD 32 false = true → l.getD 31 false = true ∧ a.eval (.tmp 0) = a.eval (.tmp 22)

theorem tm_put {a : Act} {d : Option Tmp} {v : Value} : (a.put d v).tmps.size = a.tmps.size ∧ (a.put d v).defers = a.defers := by
  cases d with
  | none => exact ⟨rfl, rfl⟩
  | some d => exact ⟨by simp [Act.put], rfl⟩

theorem PlInv.build {w0 w : World} {l : Array Bool} {a : Act} (h : PlInv w0 l a w) (k : Nat) (hk : k < 10) (hu : l.getD (3 * k + 1) true = false) : PlInv w0 (l.setIfInBounds (3 * k + 1) true) (a.put (some (2 * k + 2)) (plK (plKey k).1 (plKey k).2)) w := by
  have ⟨hu0, hul⟩ := unlisted hu
  have hne : ∀ j : Nat, 2 * k + 2 ≠ j → (a.put (some (2 * k + 2)) (plK (plKey k).1 (plKey k).2)).eval (.tmp j) = a.eval (.tmp j) := fun j hj => Act.eval_put_ne a _ j _ hj
  obtain ⟨blk, a1, a2, a3⟩ := h.all
  refine ⟨by simpa using h.size, tm_put.1.trans h.tm, tm_put.2.trans h.df, h.bel, ?_, ⟨blk, ?_, ?_, ?_⟩, ?_, ?_, ?_⟩
  · intro j hj hl
    by_cases hjk : j = k
    · subst hjk
      exact Act.eval_put_same a _ _ (by rw [h.tm]; omega)
    · rw [set_other (by omega)] at hl
      rw [hne _ (by omega)]
      exact h.ks j hj hl
  · intro j hj hl
    rw [set_other (by omega)] at hl
    rw [hne _ (by omega)]
    exact a1 j hj hl
  · intro i j hi hj h1 h2
    rw [set_other (by omega)] at h1 h2
    exact a2 i j hi hj h1 h2
  · intro h0
    rw [set_other (by omega)] at h0
    obtain ⟨mb, m1, m2⟩ := a3 h0
    refine ⟨mb, by rw [hne _ (by omega)]; exact m1, ?_⟩
    have : (fun j => (l.setIfInBounds (3 * k + 1) true).getD (3 * j + 3) false) = fun j => l.getD (3 * j + 3) false := funext fun j => set_other (by omega) _
    rw [this]
    exact m2
  · intro j hj hl
    rw [set_other (by omega)] at hl ⊢
    rw [set_other (by omega)]
    exact h.ins j hj hl
  · intro hl
    rw [set_other (by omega)] at hl ⊢
    rw [hne _ (by omega), hne _ (by omega)]
    exact h.fin hl
  · intro hl
    rw [set_other (by omega)] at hl ⊢
    rw [hne _ (by omega), hne _ (by omega)]
    exact h.fin2 hl

theorem PlInv.slice {w0 w : World} {l : Array Bool} {a : Act} (h : PlInv w0 l a w) (k : Nat) (hk : k < 10) (hu : l.getD (3 * k + 2) true = false) : PlInv w0 (l.setIfInBounds (3 * k + 2) true) (a.put (some (2 * k + 3)) (plSl w.heap.size k)) (w.alloc (plC k)) := by
  have ⟨hu0, hul⟩ := unlisted hu
  have hne : ∀ j : Nat, 2 * k + 3 ≠ j → (a.put (some (2 * k + 3)) (plSl w.heap.size k)).eval (.tmp j) = a.eval (.tmp j) := fun j hj => Act.eval_put_ne a _ j _ hj
  obtain ⟨blk, a1, a2, a3⟩ := h.all
  have hlt : ∀ j, j < 10 → l.getD (3 * j + 2) false = true → blk j < w.heap.size := fun j hj hl => (Array.getElem?_eq_some_iff.1 (a1 j hj hl).2.2).1
  refine ⟨by simpa using h.size, tm_put.1.trans h.tm, tm_put.2.trans h.df, h.bel.alloc h.bel.size _, ?_, ⟨fun j => if j = k then w.heap.size else blk j, ?_, ?_, ?_⟩, ?_, ?_, ?_⟩
  · intro j hj hl
    rw [set_other (by omega)] at hl
    rw [hne _ (by omega)]
    exact h.ks j hj hl
  · intro j hj hl
    by_cases hjk : j = k
    · subst hjk
      dsimp only
      rw [if_pos rfl]
      exact ⟨Act.eval_put_same a _ _ (by rw [h.tm]; omega), h.bel.size, at_new _ _ rfl⟩
    · rw [set_other (by omega)] at hl
      dsimp only
      rw [if_neg hjk, hne _ (by omega)]
      have := a1 j hj hl
      exact ⟨this.1, this.2.1, at_old _ this.2.2⟩
  · intro i j hi hj h1 h2
    dsimp only
    by_cases hik : i = k
    · by_cases hjk : j = k
      · intro _; omega
      · rw [set_other (by omega)] at h2
        rw [if_pos hik, if_neg hjk]
        have := hlt j hj h2
        intro he
        omega
    · rw [set_other (by omega)] at h1
      by_cases hjk : j = k
      · rw [if_neg hik, if_pos hjk]
        have := hlt i hi h1
        intro he
        omega
      · rw [set_other (by omega)] at h2
        rw [if_neg hik, if_neg hjk]
        exact a2 i j hi hj h1 h2
  · intro h0
    rw [set_other (by omega)] at h0
    obtain ⟨mb, m1, hmb, es, e1, e2, e3⟩ := a3 h0
    refine ⟨mb, by rw [hne _ (by omega)]; exact m1, hmb, es, at_old _ e1, ?_, e3⟩
    intro j hj
    dsimp only
    rw [set_other (by omega)]
    refine ⟨fun hl => ?_, (e2 j hj).2⟩
    have hjk : j ≠ k := by
      intro he
      subst he
      have := (h.ins j hj hl).2
      rw [hu0] at this
      cases this
    rw [if_neg hjk]
    exact (e2 j hj).1 hl
  · intro j hj hl
    rw [set_other (by omega)] at hl ⊢
    have := h.ins j hj hl
    refine ⟨this.1, ?_⟩
    by_cases hjk : j = k
    · subst hjk; exact set_same hul
    · rw [set_other (by omega)]; exact this.2
  · intro hl
    rw [set_other (by omega)] at hl ⊢
    rw [hne _ (by omega), hne _ (by omega)]
    exact h.fin hl
  · intro hl
    rw [set_other (by omega)] at hl ⊢
    rw [hne _ (by omega), hne _ (by omega)]
    exact h.fin2 hl

theorem PlInv.make {w0 w : World} {l : Array Bool} {a : Act} (h : PlInv w0 l a w) (hu : l.getD 0 true = false) : PlInv w0 (l.setIfInBounds 0 true) (a.put (some 1) (.map (some w.heap.size))) (w.alloc (.map #[] 0)) := by
  have ⟨hu0, hul⟩ := unlisted hu
  have hne : ∀ j : Nat, 1 ≠ j → (a.put (some 1) (.map (some w.heap.size))).eval (.tmp j) = a.eval (.tmp j) := fun j hj => Act.eval_put_ne a _ j _ hj
  obtain ⟨blk, a1, a2, a3⟩ := h.all
  refine ⟨by simpa using h.size, tm_put.1.trans h.tm, tm_put.2.trans h.df, h.bel.alloc h.bel.size _, ?_, ⟨blk, ?_, ?_, ?_⟩, ?_, ?_, ?_⟩
  · intro j hj hl
    rw [set_other (by omega)] at hl
    rw [hne _ (by omega)]
    exact h.ks j hj hl
  · intro j hj hl
    rw [set_other (by omega)] at hl
    rw [hne _ (by omega)]
    have := a1 j hj hl
    exact ⟨this.1, this.2.1, at_old _ this.2.2⟩
  · intro i j hi hj h1 h2
    rw [set_other (by omega)] at h1 h2
    exact a2 i j hi hj h1 h2
  · intro _
    refine ⟨w.heap.size, Act.eval_put_same a _ _ (by rw [h.tm]; omega), h.bel.size, [], at_new _ _ rfl, ?_, fun _ _ _ => rfl⟩
    intro j hj
    dsimp only
    rw [set_other (by omega)]
    refine ⟨fun hl => ?_, fun _ => rfl⟩
    have := (h.ins j hj hl).1
    rw [hu0] at this
    cases this
  · intro j hj hl
    rw [set_other (by omega)] at hl
    rw [set_other (by omega : 0 ≠ 3 * j + 2)]
    exact ⟨set_same hul, (h.ins j hj hl).2⟩
  · intro hl
    rw [set_other (by omega)] at hl
    have := (h.fin hl).1
    rw [hu0] at this
    cases this
  · intro hl
    rw [set_other (by omega)] at hl
    have := (h.fin (h.fin2 hl).1).1
    rw [hu0] at this
    cases this

theorem PlInv.insert {w0 w : World} {l : Array Bool} {a : Act} (h : PlInv w0 l a w) (k : Nat) (hk : k < 10) (hu : l.getD (3 * k + 3) true = false) (d0 : l.getD 0 false = true) (d1 : l.getD (3 * k + 1) false = true) (d2 : l.getD (3 * k + 2) false = true) :
    ∃ w', (Instr.mapUpdate 106 (a.eval (.tmp 1)) (a.eval (.tmp (2 * k + 2))) (a.eval (.tmp (2 * k + 3)))).run Tryd.prog w = .ok () w' ∧ PlInv w0 (l.setIfInBounds (3 * k + 3) true) a w' := by
  have ⟨hu0, hul⟩ := unlisted hu
  obtain ⟨blk, a1, a2, a3⟩ := h.all
  obtain ⟨mb, m1, hmb, es, e1, e2, e3⟩ := a3 d0
  have e1' : w.heap[mb]? = some (.map (plE 0 es).toArray es.length) := e1
  have hno := (e2 k hk).2 hu0
  refine ⟨setBlock w mb (plO (es ++ [(((plKey k).1, (plKey k).2), plSl (blk k) k)])), ?_, ?_⟩
  · rw [m1, h.ks k hk d1, (a1 k hk d2).1]
    exact insert_place (plKey k).1 (plKey k).2 (plSl (blk k) k) e1 hno
  · have hother : ∀ i, i ≠ mb → (setBlock w mb (plO (es ++ [(((plKey k).1, (plKey k).2), plSl (blk k) k)]))).heap[i]? = w.heap[i]? := fun i hi => heap_setBlock_other e1' _ hi
    refine ⟨by simpa using h.size, h.tm, h.df, ?_, ?_, ⟨blk, ?_, ?_, ?_⟩, ?_, ?_, ?_⟩
    · exact h.bel.grown (row := some mb) ⟨rfl, rfl, rfl, by simp [setBlock], fun i _ hi => heap_setBlock_other e1' _ (fun e => hi (by rw [e]))⟩ h.bel.size (fun i hi => by cases hi; exact hmb)
    · intro j hj hl
      rw [set_other (by omega)] at hl
      exact h.ks j hj hl
    · intro j hj hl
      rw [set_other (by omega)] at hl
      have := a1 j hj hl
      refine ⟨this.1, this.2.1, (hother _ ?_).trans this.2.2⟩
      intro he
      have h3 := this.2.2
      rw [he, e1] at h3
      unfold plO plC at h3
      simp at h3
    · intro i j hi hj h1 h2
      rw [set_other (by omega)] at h1 h2
      exact a2 i j hi hj h1 h2
    · intro _
      refine ⟨mb, m1, hmb, _, heap_setBlock_same e1' _, ?_, ?_⟩
      · intro j hj
        rw [plIdx_snoc]
        by_cases hjk : j = k
        · subst hjk
          refine ⟨fun _ => ?_, fun hl => ?_⟩
          · rw [hno]
            exact ⟨0 + es.length, by simp⟩
          · dsimp only at hl
            rw [set_same hul] at hl
            cases hl
        · dsimp only
          rw [set_other (by omega)]
          refine ⟨fun hl => ?_, fun hl => ?_⟩
          · obtain ⟨i, hi⟩ := (e2 j hj).1 hl
            rw [hi]
            exact ⟨i, rfl⟩
          · rw [(e2 j hj).2 hl]
            have hkk : plKey j ≠ plKey k := fun he => hjk (plKey_inj j hj k hk he)
            have : ((((plKey j).1 == (plKey k).1) && ((plKey j).2 == (plKey k).2)) = true) → False := by
              intro hb
              simp only [Bool.and_eq_true, beq_iff_eq] at hb
              exact hkk (Prod.ext hb.1 hb.2)
            simp only
            rw [if_neg this]
      · intro p r hpr
        rw [plIdx_snoc, e3 p r hpr]
        have : (((p == (plKey k).1) && (r == (plKey k).2)) = true) → False := by
          intro hb
          simp only [Bool.and_eq_true, beq_iff_eq] at hb
          exact hpr k hk (Prod.ext hb.1.symm hb.2.symm)
        simp only
        rw [if_neg this]
    · intro j hj hl
      rw [set_other (by omega : 3 * k + 3 ≠ 0), set_other (by omega : 3 * k + 3 ≠ 3 * j + 2)]
      by_cases hjk : j = k
      · subst hjk; exact ⟨d0, d2⟩
      · rw [set_other (by omega)] at hl
        exact h.ins j hj hl
    · intro hl
      rw [set_other (by omega)] at hl ⊢
      exact h.fin hl
    · intro hl
      rw [set_other (by omega)] at hl ⊢
      exact h.fin2 hl

theorem PlInv.move {w0 w : World} {l : Array Bool} {a : Act} (h : PlInv w0 l a w) (hu : l.getD 31 true = false) (d0 : l.getD 0 false = true) : PlInv w0 (l.setIfInBounds 31 true) (a.put (some 22) (a.eval (.tmp 1))) w := by
  have ⟨hu0, hul⟩ := unlisted hu
  have hne : ∀ j : Nat, 22 ≠ j → (a.put (some 22) (a.eval (.tmp 1))).eval (.tmp j) = a.eval (.tmp j) := fun j hj => Act.eval_put_ne a _ j _ hj
  obtain ⟨blk, a1, a2, a3⟩ := h.all
  refine ⟨by simpa using h.size, tm_put.1.trans h.tm, tm_put.2.trans h.df, h.bel, ?_, ⟨blk, ?_, ?_, ?_⟩, ?_, ?_, ?_⟩
  · intro j hj hl
    rw [set_other (by omega)] at hl
    rw [hne _ (by omega)]
    exact h.ks j hj hl
  · intro j hj hl
    rw [set_other (by omega)] at hl
    rw [hne _ (by omega)]
    exact a1 j hj hl
  · intro i j hi hj h1 h2
    rw [set_other (by omega)] at h1 h2
    exact a2 i j hi hj h1 h2
  · intro h0
    obtain ⟨mb, m1, m2⟩ := a3 d0
    refine ⟨mb, by rw [hne _ (by omega)]; exact m1, ?_⟩
    obtain ⟨hmb, es, e1, e2, e3⟩ := m2
    refine ⟨hmb, es, e1, fun j hj => ?_, e3⟩
    dsimp only
    rw [set_other (by omega)]
    exact e2 j hj
  · intro j hj hl
    rw [set_other (by omega)] at hl
    rw [set_other (by omega : 31 ≠ 0), set_other (by omega : 31 ≠ 3 * j + 2)]
    exact h.ins j hj hl
  · intro _
    rw [set_other (by omega : 31 ≠ 0), hne _ (by omega : 22 ≠ 1)]
    exact ⟨d0, Act.eval_put_same a _ _ (by rw [h.tm]; omega)⟩
  · intro hl
    rw [set_other (by omega)] at hl
    have := (h.fin2 hl).1
    rw [hu0] at this
    cases this

theorem PlInv.assign {w0 w : World} {l : Array Bool} {a : Act} (h : PlInv w0 l a w) (hu : l.getD 32 true = false) (d31 : l.getD 31 false = true) : PlInv w0 (l.setIfInBounds 32 true) (a.put (some 0) (a.eval (.tmp 22))) w := by
  have ⟨hu0, hul⟩ := unlisted hu
  have hne : ∀ j : Nat, 0 ≠ j → (a.put (some 0) (a.eval (.tmp 22))).eval (.tmp j) = a.eval (.tmp j) := fun j hj => Act.eval_put_ne a _ j _ hj
  obtain ⟨blk, a1, a2, a3⟩ := h.all
  refine ⟨by simpa using h.size, tm_put.1.trans h.tm, tm_put.2.trans h.df, h.bel, ?_, ⟨blk, ?_, ?_, ?_⟩, ?_, ?_, ?_⟩
  · intro j hj hl
    rw [set_other (by omega)] at hl
    rw [hne _ (by omega)]
    exact h.ks j hj hl
  · intro j hj hl
    rw [set_other (by omega)] at hl
    rw [hne _ (by omega)]
    exact a1 j hj hl
  · intro i j hi hj h1 h2
    rw [set_other (by omega)] at h1 h2
    exact a2 i j hi hj h1 h2
  · intro h0
    rw [set_other (by omega)] at h0
    obtain ⟨mb, m1, m2⟩ := a3 h0
    refine ⟨mb, by rw [hne _ (by omega)]; exact m1, ?_⟩
    obtain ⟨hmb, es, e1, e2, e3⟩ := m2
    refine ⟨hmb, es, e1, fun j hj => ?_, e3⟩
    dsimp only
    rw [set_other (by omega)]
    exact e2 j hj
  · intro j hj hl
    rw [set_other (by omega)] at hl
    rw [set_other (by omega : 32 ≠ 0), set_other (by omega : 32 ≠ 3 * j + 2)]
    exact h.ins j hj hl
  · intro hl
    rw [set_other (by omega)] at hl ⊢
    rw [hne _ (by omega), hne _ (by omega)]
    exact h.fin hl
  · intro _
    rw [set_other (by omega : 32 ≠ 31), hne _ (by omega : 0 ≠ 22)]
    exact ⟨d31, Act.eval_put_same a _ _ (by rw [h.tm]; omega)⟩

/-- One operation that comes up, by its run. -/
theorem op_value {P : Program} {ops : Array Oper} {Q : Exit → Act → World → Prop} {i : Nat} {o : Oper} {a : Act} {w w' : World} {v : Value} {K : Act → World → Prop} (ho : ops[i]? = some o) (hg : o.guard = none) (hr : (execOp a.eval o).run P w = .ok (.value v) w') (hK : K (a.put o.dst v) w') : wpOp P ops Q i K a w := by
  unfold wpOp
  rw [ho]
  have : Region.wanted o (yielded ops a.tmps) = true := by simp [Region.wanted, hg]
  simp only [this, if_true]
  exact .inl (by unfold Oper.wp; rw [hr]; exact hK)
theorem op_skip {P : Program} {ops : Array Oper} {Q : Exit → Act → World → Prop} {i : Nat} {o : Oper} {a : Act} {w w' : World} {K : Act → World → Prop} (ho : ops[i]? = some o) (hg : o.guard = none) (hr : (execOp a.eval o).run P w = .ok .skip w') (hK : K (a.put o.dst undef) w') : wpOp P ops Q i K a w := by
  unfold wpOp
  rw [ho]
  have : Region.wanted o (yielded ops a.tmps) = true := by simp [Region.wanted, hg]
  simp only [this, if_true]
  exact .inl (by unfold Oper.wp; rw [hr]; exact hK)

/-- The map of all places. -/
def PlacesAt (w : World) (C mb : Nat) : Prop := ∃ blk : Nat → Nat, (∀ k, k < 10 → C ≤ blk k ∧ w.heap[blk k]? = some (plC k)) ∧ (∀ j k, j < 10 → k < 10 → blk j = blk k → j = k) ∧ PlMap w C mb blk (fun _ => true)

theorem PlInv.last {w0 w : World} {l : Array Bool} {a : Act} (h : PlInv w0 l a w) (hl : ∀ i, i < 33 → l.getD i false = true) : ∃ mb, a.eval (.tmp 0) = .map (some mb) ∧ PlacesAt w w0.heap.size mb := by
  obtain ⟨blk, a1, a2, a3⟩ := h.all
  obtain ⟨mb, m1, hmb, es, e1, e2, e3⟩ := a3 (hl 0 (by omega))
  refine ⟨mb, ?_, blk, fun k hk => (a1 k hk (hl _ (by omega))).2, fun j k hj hk => a2 j k hj hk (hl _ (by omega)) (hl _ (by omega)), hmb, es, e1, fun k hk => ⟨fun _ => (e2 k hk).1 (hl _ (by omega)), fun hf => by cases hf⟩, e3⟩
  rw [(h.fin2 (hl 32 (by omega))).2, (h.fin (hl 31 (by omega))).2, m1]

set_option maxHeartbeats 4000000 in
set_option maxRecDepth 100000 in
theorem impl_setsOfPlaces (w : World) : Calls Tryd.prog 117 #[] w fun e w' => ∃ mb, e = .returned (.map (some mb)) ∧ PlacesAt w' w.heap.size mb ∧ Below w.heap.size w w' := by
  have hmm := @run_makeMap Tryd.prog
  go_enter Tryd.func117, Tryd.ntmps117
  go_wp2_with fail
  rename_i K hK
  refine wp_region_any (by kernel_rfl) ?_
  refine wpAny_inv (PlInv w) ?_ ?_ _ _ _ _ (by decide +kernel) ?_
  · intro l a w1 hI i hi
    obtain ⟨hu, o, ho, hd⟩ := mem_ready.1 hi
    have hi33 : i < 33 := by have := (Array.getElem?_eq_some_iff.1 ho).1; simpa using this
    rcases (show i = 0 ∨ i = 1 ∨ i = 2 ∨ i = 3 ∨ i = 4 ∨ i = 5 ∨ i = 6 ∨ i = 7 ∨ i = 8 ∨ i = 9 ∨ i = 10 ∨ i = 11 ∨ i = 12 ∨ i = 13 ∨ i = 14 ∨ i = 15 ∨ i = 16 ∨ i = 17 ∨ i = 18 ∨ i = 19 ∨ i = 20 ∨ i = 21 ∨ i = 22 ∨ i = 23 ∨ i = 24 ∨ i = 25 ∨ i = 26 ∨ i = 27 ∨ i = 28 ∨ i = 29 ∨ i = 30 ∨ i = 31 ∨ i = 32 by omega) with rfl | rfl | rfl | rfl | rfl | rfl | rfl | rfl | rfl | rfl | rfl | rfl | rfl | rfl | rfl | rfl | rfl | rfl | rfl | rfl | rfl | rfl | rfl | rfl | rfl | rfl | rfl | rfl | rfl | rfl | rfl | rfl | rfl
    · exact op_value rfl rfl (by simp [execOp, hmm]) (hI.make hu)
    · exact op_value rfl rfl (by go_simp; rfl) (hI.build 0 (by decide) hu)
    · exact op_value rfl rfl (by go_simp; exact ⟨rfl, rfl⟩) (hI.slice 0 (by decide) hu)
    · obtain rfl := Option.some.inj ho
      obtain ⟨w2, hr, hI2⟩ := hI.insert 0 (by decide) hu (hd ⟨0, .data⟩ (by simp) rfl) (hd ⟨1, .data⟩ (by simp) rfl) (hd ⟨2, .data⟩ (by simp) rfl)
      exact op_skip rfl rfl (by simp [execOp, hr, Result.andThen]) hI2
    · exact op_value rfl rfl (by go_simp; rfl) (hI.build 1 (by decide) hu)
    · exact op_value rfl rfl (by go_simp; exact ⟨rfl, rfl⟩) (hI.slice 1 (by decide) hu)
    · obtain rfl := Option.some.inj ho
      obtain ⟨w2, hr, hI2⟩ := hI.insert 1 (by decide) hu (hd ⟨0, .data⟩ (by simp) rfl) (hd ⟨4, .data⟩ (by simp) rfl) (hd ⟨5, .data⟩ (by simp) rfl)
      exact op_skip rfl rfl (by simp [execOp, hr, Result.andThen]) hI2
    · exact op_value rfl rfl (by go_simp; rfl) (hI.build 2 (by decide) hu)
    · exact op_value rfl rfl (by go_simp; exact ⟨rfl, rfl⟩) (hI.slice 2 (by decide) hu)
    · obtain rfl := Option.some.inj ho
      obtain ⟨w2, hr, hI2⟩ := hI.insert 2 (by decide) hu (hd ⟨0, .data⟩ (by simp) rfl) (hd ⟨7, .data⟩ (by simp) rfl) (hd ⟨8, .data⟩ (by simp) rfl)
      exact op_skip rfl rfl (by simp [execOp, hr, Result.andThen]) hI2
    · exact op_value rfl rfl (by go_simp; rfl) (hI.build 3 (by decide) hu)
    · exact op_value rfl rfl (by go_simp; exact ⟨rfl, rfl⟩) (hI.slice 3 (by decide) hu)
    · obtain rfl := Option.some.inj ho
      obtain ⟨w2, hr, hI2⟩ := hI.insert 3 (by decide) hu (hd ⟨0, .data⟩ (by simp) rfl) (hd ⟨10, .data⟩ (by simp) rfl) (hd ⟨11, .data⟩ (by simp) rfl)
      exact op_skip rfl rfl (by simp [execOp, hr, Result.andThen]) hI2
    · exact op_value rfl rfl (by go_simp; rfl) (hI.build 4 (by decide) hu)
    · exact op_value rfl rfl (by go_simp; exact ⟨rfl, rfl⟩) (hI.slice 4 (by decide) hu)
    · obtain rfl := Option.some.inj ho
      obtain ⟨w2, hr, hI2⟩ := hI.insert 4 (by decide) hu (hd ⟨0, .data⟩ (by simp) rfl) (hd ⟨13, .data⟩ (by simp) rfl) (hd ⟨14, .data⟩ (by simp) rfl)
      exact op_skip rfl rfl (by simp [execOp, hr, Result.andThen]) hI2
    · exact op_value rfl rfl (by go_simp; rfl) (hI.build 5 (by decide) hu)
    · exact op_value rfl rfl (by go_simp; exact ⟨rfl, rfl⟩) (hI.slice 5 (by decide) hu)
    · obtain rfl := Option.some.inj ho
      obtain ⟨w2, hr, hI2⟩ := hI.insert 5 (by decide) hu (hd ⟨0, .data⟩ (by simp) rfl) (hd ⟨16, .data⟩ (by simp) rfl) (hd ⟨17, .data⟩ (by simp) rfl)
      exact op_skip rfl rfl (by simp [execOp, hr, Result.andThen]) hI2
    · exact op_value rfl rfl (by go_simp; rfl) (hI.build 6 (by decide) hu)
    · exact op_value rfl rfl (by go_simp; exact ⟨rfl, rfl⟩) (hI.slice 6 (by decide) hu)
    · obtain rfl := Option.some.inj ho
      obtain ⟨w2, hr, hI2⟩ := hI.insert 6 (by decide) hu (hd ⟨0, .data⟩ (by simp) rfl) (hd ⟨19, .data⟩ (by simp) rfl) (hd ⟨20, .data⟩ (by simp) rfl)
      exact op_skip rfl rfl (by simp [execOp, hr, Result.andThen]) hI2
    · exact op_value rfl rfl (by go_simp; rfl) (hI.build 7 (by decide) hu)
    · exact op_value rfl rfl (by go_simp; exact ⟨rfl, rfl⟩) (hI.slice 7 (by decide) hu)
    · obtain rfl := Option.some.inj ho
      obtain ⟨w2, hr, hI2⟩ := hI.insert 7 (by decide) hu (hd ⟨0, .data⟩ (by simp) rfl) (hd ⟨22, .data⟩ (by simp) rfl) (hd ⟨23, .data⟩ (by simp) rfl)
      exact op_skip rfl rfl (by simp [execOp, hr, Result.andThen]) hI2
    · exact op_value rfl rfl (by go_simp; rfl) (hI.build 8 (by decide) hu)
    · exact op_value rfl rfl (by go_simp; exact ⟨rfl, rfl⟩) (hI.slice 8 (by decide) hu)
    · obtain rfl := Option.some.inj ho
      obtain ⟨w2, hr, hI2⟩ := hI.insert 8 (by decide) hu (hd ⟨0, .data⟩ (by simp) rfl) (hd ⟨25, .data⟩ (by simp) rfl) (hd ⟨26, .data⟩ (by simp) rfl)
      exact op_skip rfl rfl (by simp [execOp, hr, Result.andThen]) hI2
    · exact op_value rfl rfl (by go_simp; rfl) (hI.build 9 (by decide) hu)
    · exact op_value rfl rfl (by go_simp; exact ⟨rfl, rfl⟩) (hI.slice 9 (by decide) hu)
    · obtain rfl := Option.some.inj ho
      obtain ⟨w2, hr, hI2⟩ := hI.insert 9 (by decide) hu (hd ⟨0, .data⟩ (by simp) rfl) (hd ⟨28, .data⟩ (by simp) rfl) (hd ⟨29, .data⟩ (by simp) rfl)
      exact op_skip rfl rfl (by simp [execOp, hr, Result.andThen]) hI2
    · obtain rfl := Option.some.inj ho
      exact op_value rfl rfl (by simp [execOp]) (hI.move hu (hd ⟨0, .data⟩ (by simp) rfl))
    · obtain rfl := Option.some.inj ho
      exact op_value rfl rfl (by simp [execOp]) (hI.assign hu (hd ⟨31, .data⟩ (by simp) rfl))
  · intro l a w1 hI hr
    have hl := fun i hi => all_listed (by decide +kernel) (by rw [hI.size]; rfl) hr 33 i hi (by simpa using hi)
    obtain ⟨mb, h0, hp⟩ := hI.last hl
    refine hK _ _ ?_
    go_wp2
    exact bodyPost_ret (results_tmp rfl _ _ _) hI.df ⟨mb, congrArg Ending.returned h0, hp, hI.bel⟩
  · have hf : ∀ i, (Array.replicate 33 false).getD i false = false := fun i => by
      rw [Array.getD_eq_getD_getElem?, Array.getElem?_replicate]
      split <;> rfl
    have no : ∀ {i : Nat}, (Array.replicate 33 false).getD i false = true → False := fun h => by rw [hf] at h; cases h
    exact ⟨rfl, rfl, rfl, (Below.refl w.heap.size w).drew, fun k _ h => (no h).elim, ⟨fun _ => 0, fun k _ h => (no h).elim, fun j k _ _ h => (no h).elim, fun h => (no h).elim⟩, fun k _ h => (no h).elim, fun h => (no h).elim, fun h => (no h).elim⟩

end Go.Proofs.YtjbikenhdgbacaaDoor
