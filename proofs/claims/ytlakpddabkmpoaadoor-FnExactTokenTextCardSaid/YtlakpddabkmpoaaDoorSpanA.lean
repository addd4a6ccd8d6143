/- Slices of spans that are compared: contracts of the laws' own helpers. -/
import Derived.Test.YtlakpddabkmpoaaDoorSetsA
import Derived.Test.YtlakpddabkmpoaaDoorInts
import Derived.Test.YtlakpddabkmpoaaDoorDraw
namespace Go.Proofs.YtlakpddabkmpoaaDoor
open Go.RowKit

/-- The slice v reads as the spans sp. -/
def SpAt (w : World) (v : Value) (sp : List Sp) : Prop :=
  (sp = [] ∧ ∃ a c, v = .slice a 0 c) ∨ ∃ g off c, v = .slice (some ⟨g, off, none⟩) sp.length c ∧ ∀ i (h : i < sp.length),
    w.cell? ⟨g, off + i * 3, none⟩ = some (.int .i64 (sp[i]).1) ∧ w.cell? ⟨g, off + i * 3 + 1, none⟩ = some (.int .i64 (sp[i]).2.1) ∧ w.cell? ⟨g, off + i * 3 + 2, none⟩ = some (.int .i64 (sp[i]).2.2)
theorem SpAt.keep {w w' : World} {v : Value} {sp : List Sp} (h : SpAt w v sp) (hb : Below w.heap.size w w') : SpAt w' v sp := by
  rcases h with h | ⟨g, off, c, rfl, hc⟩
  · exact .inl h
  · refine .inr ⟨g, off, c, rfl, fun i hi => ?_⟩
    have ⟨h1, h2, h3⟩ := hc i hi
    exact ⟨by rw [hb.cell (World.block_lt_of_cell? w _ h1)]; exact h1, by rw [hb.cell (World.block_lt_of_cell? w _ h2)]; exact h2, by rw [hb.cell (World.block_lt_of_cell? w _ h3)]; exact h3⟩
theorem SpAt.form {w : World} {v : Value} {sp : List Sp} (h : SpAt w v sp) : ∃ a c, v = .slice a sp.length c := by
  rcases h with ⟨rfl, a, c, rfl⟩ | ⟨g, off, c, rfl, _⟩
  · exact ⟨_, _, rfl⟩
  · exact ⟨_, _, rfl⟩
def spV (s : Sp) : Value := .agg #[.int .i64 s.1, .int .i64 s.2.1, .int .i64 s.2.2]
theorem spanField0 : ∀ (a b c : Value) (w : World), (Instr.field 34 (.agg #[a, b, c]) 0).run Tryd.prog w = .ok a w := fun _ _ _ _ => by kernel_rfl
theorem spanField1 : ∀ (a b c : Value) (w : World), (Instr.field 34 (.agg #[a, b, c]) 1).run Tryd.prog w = .ok b w := fun _ _ _ _ => by kernel_rfl
theorem spanField2 : ∀ (a b c : Value) (w : World), (Instr.field 34 (.agg #[a, b, c]) 2).run Tryd.prog w = .ok c w := fun _ _ _ _ => by kernel_rfl

set_option maxHeartbeats 1000000 in
theorem laws_eqSpan (s t : Sp) (w : World) : Calls Tryd.prog 69 #[spV s, spV t] w fun e w' => e = .returned (.bool (decide (s = t))) ∧ Below w.heap.size w w' := by
  obtain ⟨a, b, c⟩ := s
  obtain ⟨a', b', c'⟩ := t
  unfold spV
  have F0 := spanField0
  have F1 := spanField1
  have F2 := spanField2
  have HB := Lib.hid (fun (o o' : Obj) => ((Below.refl w.heap.size w).alloc (Nat.le_refl _) o).alloc (by simp) o')
  by_cases h1 : a = a'
  · by_cases h2 : b = b'
    · by_cases h3 : c = c'
      · have HE : Hid (decide ((a, b, c) = (a', b', c')) = true) := Lib.hid (by simp [h1, h2, h3])
        have z1 : (a != a') = false := by simp [h1]
        have z2 : (b != b') = false := by simp [h2]
        have z3 : (c != c') = false := by simp [h3]
        clear h1 h2 h3
        go_enter Tryd.func69, Tryd.ntmps69
        go_wp2
        go_ret
        exact ⟨ret_bool HE.out.symm, HB.out _ _⟩
      · have HE : Hid (decide ((a, b, c) = (a', b', c')) = false) := Lib.hid (by simp [h3])
        have z1 : (a != a') = false := by simp [h1]
        have z2 : (b != b') = false := by simp [h2]
        have z3 : (c != c') = true := by simp [h3]
        clear h1 h2 h3
        go_enter Tryd.func69, Tryd.ntmps69
        go_wp2
        go_ret
        exact ⟨ret_bool HE.out.symm, HB.out _ _⟩
    · have HE : Hid (decide ((a, b, c) = (a', b', c')) = false) := Lib.hid (by simp [h2])
      have z1 : (a != a') = false := by simp [h1]
      have z2 : (b != b') = true := by simp [h2]
      clear h1 h2
      go_enter Tryd.func69, Tryd.ntmps69
      go_wp2
      go_ret
      exact ⟨ret_bool HE.out.symm, HB.out _ _⟩
  · have HE : Hid (decide ((a, b, c) = (a', b', c')) = false) := Lib.hid (by simp [h1])
    have z1 : (a != a') = true := by simp [h1]
    clear h1
    go_enter Tryd.func69, Tryd.ntmps69
    go_wp2
    go_ret
    exact ⟨ret_bool HE.out.symm, HB.out _ _⟩

theorem take_sameSp {zs ys : List Sp} {k : Nat} (h : k < zs.length) (h2 : k < ys.length) (ht : zs.take k = ys.take k) (he : zs[k] = ys[k]) : zs.take (k + 1) = ys.take (k + 1) := by
  rw [List.take_succ_eq_append_getElem h, List.take_succ_eq_append_getElem h2, ht, he]

set_option maxHeartbeats 1000000 in
theorem laws_eqSpanS (v u : Value) (sp tp : List Sp) (w : World) (hv : SpAt w v sp) (hu : SpAt w u tp) (_hl : sp.length ≤ 1048576) (_hl2 : tp.length ≤ 1048576) : Calls Tryd.prog 53 #[v, u] w fun e w' => e = .returned (.bool (decide (sp = tp))) ∧ Below w.heap.size w w' := by
  have HV := Lib.hid hv
  have HU := Lib.hid hu
  obtain ⟨a, c, rfl⟩ := hv.form
  obtain ⟨a', c', rfl⟩ := hu.form
  clear hv hu
  by_cases hne : sp.length = tp.length
  · generalize hn : sp.length = n at *
    have HM := Lib.hid hn
    have HN := Lib.hid hne
    rw [← hne]
    rw [← hne] at HU
    clear hne hn
    have e0 : ((n : Int) != (n : Int)) = false := by simp
    go_enter Tryd.func53, Tryd.ntmps53
    go_wp2
    go_loopw [5] (fun i wr => ∃ k : Nat, k ≤ n ∧ i = .int .i64 k ∧ Hid (sp.take k = tp.take k) ∧ Below w.heap.size w wr) (fun i _ => n - (intOf i).toNat)
    case atStart => exact ⟨0, Nat.zero_le _, rfl, Lib.hid rfl, Below.refl _ _⟩
    case round =>
      obtain ⟨k, hk, rfl, HT, hb⟩ := hrel
      by_cases hlt : k < n
      · have hk1 : k < sp.length := by have := HM.out; omega
        have hk2 : k < tp.length := by have := HN.out; omega
        obtain ⟨g, off, rfl, x0, x1, x2⟩ : ∃ g off, a = some ⟨g, off, none⟩ ∧ wr.cell? ⟨g, off + k * 3, none⟩ = some (.int .i64 (sp[k]).1) ∧ wr.cell? ⟨g, off + k * 3 + 1, none⟩ = some (.int .i64 (sp[k]).2.1) ∧ wr.cell? ⟨g, off + k * 3 + 2, none⟩ = some (.int .i64 (sp[k]).2.2) := by
          rcases HV.out.keep hb with ⟨h0, _⟩ | ⟨g, off, c2, hv, hc⟩
          · rw [h0] at hk1; simp at hk1
          · injection hv with h1 h2 h3
            exact ⟨g, off, h1, hc k hk1⟩
        obtain ⟨g', off', rfl, y0, y1, y2⟩ : ∃ g off, a' = some ⟨g, off, none⟩ ∧ wr.cell? ⟨g, off + k * 3, none⟩ = some (.int .i64 (tp[k]).1) ∧ wr.cell? ⟨g, off + k * 3 + 1, none⟩ = some (.int .i64 (tp[k]).2.1) ∧ wr.cell? ⟨g, off + k * 3 + 2, none⟩ = some (.int .i64 (tp[k]).2.2) := by
          rcases HU.out.keep hb with ⟨h0, _⟩ | ⟨g, off, c2, hv, hc⟩
          · rw [h0] at hk2; simp at hk2
          · injection hv with h1 h2 h3
            exact ⟨g, off, h1, hc k hk2⟩
        have HX : Hid (sp[k] = tp[k] → sp.take (k + 1) = tp.take (k + 1)) := Lib.hid (fun h => take_sameSp hk1 hk2 HT.out h)
        have HY : Hid (sp[k] ≠ tp[k] → decide (sp = tp) = false) := Lib.hid (fun h => decide_eq_false (fun h2 => h (by simp [h2])))
        generalize sp[k] = s at *
        generalize tp[k] = t at *
        obtain ⟨s1, s2, s3⟩ := s
        obtain ⟨t1, t2, t3⟩ := t
        simp only at x0 x1 x2 y0 y1 y2
        have u1 : (0 : Int) ≤ (k : Int) := by omega
        have u2 : (k : Int) < (n : Int) := by omega
        go_wp2
        refine still_tail_w 8 (wr.drewN 1) rfl (by kernel_rfl) (by kernel_rfl) ?_
        simp only [List.take_succ_cons, List.take_zero, List.drop_succ_cons, List.drop_zero]
        repeat still_step
        refine wpStill_nil ?_
        go_wp2_with fail
        refine (laws_eqSpan (s1, s2, s3) (t1, t2, t3) _).mono ?_
        rintro e w2 ⟨rfl, b2⟩
        have B2 : Below w.heap.size w w2 := (below_drewN hb 1).trans (b2.mono hb.size)
        clear x0 x1 x2 y0 y1 y2
        by_cases hst : ((s1, s2, s3) : Sp) = (t1, t2, t3)
        · rw [decide_eq_true hst]
          have HX2 := Lib.hid (HX.out hst)
          clear hst
          go_wp2
          go_roundw
          case rel => exact ⟨k + 1, by omega, by go_num, HX2, B2⟩
          case measure => simp [intOf]; omega
        · rw [decide_eq_false hst]
          have HY2 := Lib.hid (HY.out hst)
          clear hst
          go_wp2
          go_ret
          exact ⟨ret_bool HY2.out.symm, B2⟩
      · go_wp2
        go_ret
        refine ⟨ret_bool (Eq.symm (decide_eq_true ?_)), hb⟩
        have := HT.out
        rw [List.take_of_length_le (by have := HM.out; omega), List.take_of_length_le (by have := HM.out; have := HN.out; omega)] at this
        exact this
  · have hz : ((sp.length : Int) != (tp.length : Int)) = true := by simp; omega
    have HF : Hid (decide (sp = tp) = false) := Lib.hid (decide_eq_false (fun h => hne (by rw [h])))
    clear hne
    go_enter Tryd.func53, Tryd.ntmps53
    go_wp2
    go_ret
    exact ⟨ret_bool HF.out.symm, Below.refl _ _⟩

/-- A set's value. -/
def setVal (nm : ByteArray) (kind final : Int) (v : Value) : Value := .agg #[.string nm, .int .i64 kind, .int .i64 final, v]

set_option maxHeartbeats 1000000 in
/-- Two sets of the same fields. -/
theorem laws_eqSet_true (nm : ByteArray) (kind final : Int) (v u : Value) (sp : List Sp) (w : World) (hv : SpAt w v sp) (hu : SpAt w u sp) (hl : sp.length ≤ 1048576) :
    Calls Tryd.prog 27 #[setVal nm kind final v, setVal nm kind final u] w fun e w' => e = .returned (.bool true) ∧ Below w.heap.size w w' := by
  have HV := Lib.hid hv
  have HU := Lib.hid hu
  obtain ⟨a, c, rfl⟩ := hv.form
  obtain ⟨a', c', rfl⟩ := hu.form
  clear hv hu
  unfold setVal
  go_enter Tryd.func27, Tryd.ntmps27
  go_wp2_with fail
  refine (laws_eqSpanS _ _ sp sp _ (HV.out.keep (((Below.refl _ _).alloc (Nat.le_refl _) _).alloc (by simp) _)) (HU.out.keep (((Below.refl _ _).alloc (Nat.le_refl _) _).alloc (by simp) _)) hl hl).mono ?_
  rintro e w2 ⟨rfl, b2⟩
  rw [show decide (sp = sp) = true from decide_eq_true rfl]
  have B2 : Below w.heap.size w w2 := (((Below.refl _ _).alloc (Nat.le_refl _) _).alloc (by simp) _).trans (b2.mono (by simp; omega))
  go_wp2
  go_ret
  exact ⟨rfl, B2⟩

end Go.Proofs.YtlakpddabkmpoaaDoor
