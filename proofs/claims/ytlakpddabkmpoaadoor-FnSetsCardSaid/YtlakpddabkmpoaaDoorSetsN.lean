/- SetNamed of the program: a map from names, made by a call of its own, asked for one name. -/
import Derived.Test.YtlakpddabkmpoaaDoorSetsE
import Derived.Maps.OwnSet
namespace Go.Proofs.YtlakpddabkmpoaaDoor
open Go.RowKit Go.Maps

theorem nameLaw : Keyed Tryd.prog 9 := string_keyed Tryd.underlying9
theorem zeroInt (w : World) : (zeroValue 3).run Tryd.prog w = .ok (.int .i64 0) w := by kernel_rfl

/-- 'map[K]V{k: v}' at one of its keys: as a store. -/
theorem wpList_insert_own {H : Type} {P : Program} (w : World) {ops : Array Oper} {rest : List Oper} {o : Oper} {a : Act} {Q : Exit → Act → World → Prop}
    (hg : o.guard = none) (m x v : Operand) (t : TypeId) (hop : o.op = Op.insert t m x v)
    (k e : TypeId) (K : Keyed P k) (ht : P.underlying t = some (.map k e)) (R : Value → Option (DataW H × List MemPlace)) (b n : Nat) (D : DataW H)
    (hm : a.eval m = .map (some b)) (hown : w.ownsMap P k R b n D) (hn : n < maxLen) (key val : Value) (kl : Lit) (hx : a.eval x = key) (hv : a.eval v = val) (hkey : keyOf P k key = some kl)
    (d : DataW H) (ps : List MemPlace) (hval : R val = some (d, ps))
    (hK : ∀ w', w'.ownsMap P k R b (n + 1) (D.put kl d) → w.grownBy w' (some b) → wpList P ops Q rest (a.put o.dst undef) w') :
    wpList P ops Q (o :: rest) a w := by
  refine wpList_plain hg fun K' hK' => ?_
  obtain ⟨w', hrun, r1, r2⟩ := hown.update K ht hn hkey hval
  unfold Oper.wp
  simp [execOp, hop, hm, hx, hv, hrun, Result.andThen]
  exact hK' _ _ (hK w' r1 r2)

/-- The key of a name, and the map that the names make. -/
def nameKey (s : ByteArray) : Lit := .string s.data.toList
def putName (D : DataW Unit) (k : Int) : DataW Unit := D.put (nameKey (setName k)) (.lit (.int .i64 k))
def namesD : DataW Unit := putName (putName (putName (putName (putName (putName (putName (putName (.map []) 1) 2) 3) 4) 5) 6) 7) 8

theorem nameKey_ne {s t : ByteArray} (h : ¬ s = t) : nameKey t ≠ nameKey s := by
  intro h2
  simp only [nameKey, Lit.string.injEq] at h2
  exact h (ByteArray.ext (Array.toList_inj.1 h2).symm)
theorem isMap_putName {D : DataW Unit} (h : IsMap D) (k : Int) : IsMap (putName D k) := h.put _ _
theorem names_hit (k : Int) (h1 : 1 ≤ k) (h8 : k ≤ 8) : Maps.has namesD (nameKey (setName k)) = true ∧ namesD.atKey (nameKey (setName k)) (.lit (.int .i64 0)) = .lit (.int .i64 k) ∧ nameNo (setName k) = k := by
  have : k = 1 ∨ k = 2 ∨ k = 3 ∨ k = 4 ∨ k = 5 ∨ k = 6 ∨ k = 7 ∨ k = 8 := by omega
  rcases this with rfl | rfl | rfl | rfl | rfl | rfl | rfl | rfl <;> exact ⟨by kernel_rfl, by kernel_rfl, by decide +kernel⟩
theorem names_miss (s : ByteArray) (h : nameNo s = 0) : Maps.has namesD (nameKey s) = false := by
  have hk : ∀ k : Int, 1 ≤ k → k ≤ 8 → ¬ setName k = s := by
    intro k h1 h8 he
    rw [← he, (names_hit k h1 h8).2.2] at h
    omega
  have step : ∀ (D : DataW Unit) (k : Int), 1 ≤ k → k ≤ 8 → Maps.has (putName D k) (nameKey s) = Maps.has D (nameKey s) := fun D k h1 h8 => has_put_other (nameKey_ne (hk k h1 h8)) _
  unfold namesD
  rw [step _ 8 (by decide) (by decide), step _ 7 (by decide) (by decide), step _ 6 (by decide) (by decide), step _ 5 (by decide) (by decide), step _ 4 (by decide) (by decide), step _ 3 (by decide) (by decide), step _ 2 (by decide) (by decide), step _ 1 (by decide) (by decide)]
  rfl
theorem names_at (s : ByteArray) : (nameNo s = 0 ∧ Maps.has namesD (nameKey s) = false) ∨ (nameNo s ≠ 0 ∧ Maps.has namesD (nameKey s) = true ∧ namesD.atKey (nameKey s) (.lit (.int .i64 0)) = .lit (.int .i64 (nameNo s))) := by
  rcases firstNo_le (fun k => decide (setName k = s)) 8 1 (by decide) with h | ⟨h1, h2, h3⟩
  · exact .inl ⟨h, names_miss s h⟩
  · have h4 : setName (nameNo s) = s := of_decide_eq_true h3
    have h5 : 1 ≤ nameNo s := h1
    have h6 : nameNo s < 1 + 8 := h2
    obtain ⟨a, b, _⟩ := names_hit (nameNo s) h5 (by omega)
    rw [h4] at a b
    exact .inr ⟨by omega, a, b⟩

abbrev ownsNames (w : World) (b n : Nat) (D : DataW Unit) : Prop := w.ownsMap Tryd.prog 9 (plainElem Tryd.prog 3) b n D
theorem key1 (k : Int) (h : (setName k).size ≤ maxLen) : keyOf Tryd.prog 9 (.string (setName k)) = some (nameKey (setName k)) := WideMaps.keyOf_string_mk Tryd.underlying9 h
theorem el1 (k : Int) (h : (Lit.int .i64 k).wf = true) : plainElem (H := Unit) Tryd.prog 3 (.int .i64 k) = some (.lit (.int .i64 k), []) := plainElem_int Tryd.underlying3 h

set_option maxRecDepth 100000 in
theorem impl_setNumbers (w : World) : Calls Tryd.prog 46 #[] w fun e w' => e = .returned (.map (some w.heap.size)) ∧ ownsNames w' w.heap.size 8 namesD ∧ Below w.heap.size w w' := by
  have hmm := @run_makeMap Tryd.prog
  have h0 := World.ownsMap_made w Tryd.prog 9 (plainElem (H := Unit) Tryd.prog 3)
  have b0 : Below w.heap.size w (w.alloc (.map #[] 0)) := (Below.refl _ _).alloc (Nat.le_refl _) _
  have hB := b0.size
  go_enter Tryd.func46, Tryd.ntmps46
  go_wp2_with (refine wpList_insert_own _ rfl _ _ _ 58 rfl 9 3 nameLaw Tryd.underlying58 _ w.heap.size 0 _ rfl h0 (by decide) _ _ _ rfl rfl (key1 1 (by decide)) _ [] (el1 1 (by decide)) ?_)
  intro w1 h1 g1
  have b1 : Below w.heap.size w w1 := b0.grown g1 b0.size (fun k hk => by cases hk; exact Nat.le_refl _)
  go_wp2_with (refine wpList_insert_own _ rfl _ _ _ 58 rfl 9 3 nameLaw Tryd.underlying58 _ w.heap.size 1 _ rfl h1 (by decide) _ _ _ rfl rfl (key1 2 (by decide)) _ [] (el1 2 (by decide)) ?_)
  intro w2 h2 g2
  have b2 : Below w.heap.size w w2 := b1.grown g2 b1.size (fun k hk => by cases hk; exact Nat.le_refl _)
  go_wp2_with (refine wpList_insert_own _ rfl _ _ _ 58 rfl 9 3 nameLaw Tryd.underlying58 _ w.heap.size 2 _ rfl h2 (by decide) _ _ _ rfl rfl (key1 3 (by decide)) _ [] (el1 3 (by decide)) ?_)
  intro w3 h3 g3
  have b3 : Below w.heap.size w w3 := b2.grown g3 b2.size (fun k hk => by cases hk; exact Nat.le_refl _)
  go_wp2_with (refine wpList_insert_own _ rfl _ _ _ 58 rfl 9 3 nameLaw Tryd.underlying58 _ w.heap.size 3 _ rfl h3 (by decide) _ _ _ rfl rfl (key1 4 (by decide)) _ [] (el1 4 (by decide)) ?_)
  intro w4 h4 g4
  have b4 : Below w.heap.size w w4 := b3.grown g4 b3.size (fun k hk => by cases hk; exact Nat.le_refl _)
  go_wp2_with (refine wpList_insert_own _ rfl _ _ _ 58 rfl 9 3 nameLaw Tryd.underlying58 _ w.heap.size 4 _ rfl h4 (by decide) _ _ _ rfl rfl (key1 5 (by decide)) _ [] (el1 5 (by decide)) ?_)
  intro w5 h5 g5
  have b5 : Below w.heap.size w w5 := b4.grown g5 b4.size (fun k hk => by cases hk; exact Nat.le_refl _)
  go_wp2_with (refine wpList_insert_own _ rfl _ _ _ 58 rfl 9 3 nameLaw Tryd.underlying58 _ w.heap.size 5 _ rfl h5 (by decide) _ _ _ rfl rfl (key1 6 (by decide)) _ [] (el1 6 (by decide)) ?_)
  intro w6 h6 g6
  have b6 : Below w.heap.size w w6 := b5.grown g6 b5.size (fun k hk => by cases hk; exact Nat.le_refl _)
  go_wp2_with (refine wpList_insert_own _ rfl _ _ _ 58 rfl 9 3 nameLaw Tryd.underlying58 _ w.heap.size 6 _ rfl h6 (by decide) _ _ _ rfl rfl (key1 7 (by decide)) _ [] (el1 7 (by decide)) ?_)
  intro w7 h7 g7
  have b7 : Below w.heap.size w w7 := b6.grown g7 b6.size (fun k hk => by cases hk; exact Nat.le_refl _)
  go_wp2_with (refine wpList_insert_own _ rfl _ _ _ 58 rfl 9 3 nameLaw Tryd.underlying58 _ w.heap.size 7 _ rfl h7 (by decide) _ _ _ rfl rfl (key1 8 (by decide)) _ [] (el1 8 (by decide)) ?_)
  intro w8 h8 g8
  have b8 : Below w.heap.size w w8 := b7.grown g8 b7.size (fun k hk => by cases hk; exact Nat.le_refl _)
  go_wp2
  go_ret
  exact ⟨rfl, h8, b8⟩

set_option maxRecDepth 100000 in
theorem impl_SetNamed (s : ByteArray) (w : World) (hs : s.size ≤ 9223372036854775807) : Calls Tryd.prog 16 #[.string s] w fun e w' => e = .returned (snV s) ∧ Below w.heap.size w w' := by
  by_cases hb : 65536 < s.size
  · have HE := Lib.hid (snV_bad s 2 (by simp [snC, hb]) (by decide))
    have hb' : (65536 : Int) < (s.size : Int) := by omega
    go_enter Tryd.func16, Tryd.ntmps16
    go_wp2
    go_ret2
    exact ⟨ret_val HE.out.symm, Below.refl _ _⟩
  · have hb' : (s.size : Int) ≤ 65536 := by omega
    have hkey : keyOf Tryd.prog 9 (.string s) = some (nameKey s) := WideMaps.keyOf_string_mk Tryd.underlying9 (by unfold maxLen; omega)
    go_enter Tryd.func16, Tryd.ntmps16
    go_wp2_with fail
    refine (impl_setNumbers w).mono ?_
    rintro e w1 ⟨rfl, hown, bel⟩
    obtain ⟨v, ps, hrun, hv⟩ := hown.look_ok nameLaw Tryd.underlying58 (zeroInt _) (el1 0 (by decide)) hkey
    obtain ⟨c, rfl, hc, _⟩ := plainElem_int_inv Tryd.underlying3 hv
    simp only [Prod.mk.injEq] at hc
    rcases names_at s with ⟨h1, h2⟩ | ⟨h1, h2, h3⟩
    · have HE := Lib.hid (snV_bad s 5 (by simp [snC, hb, h1]) (by decide))
      rw [h2] at hrun
      clear hc hown hv hkey h1 h2
      go_wp2
      go_ret2
      exact ⟨ret_val HE.out.symm, bel⟩
    · have hcv : c = nameNo s := by
        have := hc.1.symm.trans h3
        simpa using this
      have HE := Lib.hid (snV_ok s (by simp [snC, hb, h1]))
      rw [h2] at hrun
      rw [← hcv] at HE
      clear hc hown hv hkey h1 h2 h3 hcv
      go_wp2
      go_ret2
      exact ⟨ret_val HE.out.symm, bel⟩

end Go.Proofs.YtlakpddabkmpoaaDoor
