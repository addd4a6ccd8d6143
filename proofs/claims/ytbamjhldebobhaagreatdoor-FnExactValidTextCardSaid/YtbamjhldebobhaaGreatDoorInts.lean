/- Slices of ints that are read, copied and compared. Lengths at most 2^40. -/
import Derived.Test.YtbamjhldebobhaaGreatDoorOwn
import Derived.Test.YtbamjhldebobhaaGreatDoorRunesA
import Derived.Deep.QuietTactic
import Derived.BigQuiet
namespace Go.Proofs.YtbamjhldebobhaaGreatDoor
open Go.RowKit

/-- What the walk is told of a slice of integers that came in (the row's frame gives it). -/
def IsRow (k : IntKind) (w : World) (a : Option Addr) (len cap : Nat) (zs : List Int) : Prop :=
  (a = none ∧ len = 0 ∧ cap = 0 ∧ zs = []) ∨
  ∃ x, a = some x ∧ len ≤ cap ∧ cap ≤ maxLen ∧ zs.length = cap ∧ (∀ i, i < zs.length → w.cell? (x.add i) = some (.int k (zs.getD i 0))) ∧ ∀ n ∈ zs, (Lit.int k n).wf = true

/-- The slice v reads as the numbers zs. -/
def Ints (k : IntKind) (w : World) (v : Value) (zs : List Int) : Prop :=
  (zs = [] ∧ ∃ a c, v = .slice a 0 c) ∨ ∃ b off c, v = .slice (some ⟨b, off, none⟩) zs.length c ∧ ∀ i, i < zs.length → w.cell? ⟨b, off + i, none⟩ = some (.int k (zs.getD i 0))

theorem add_off (b off j : Nat) : (⟨b, off, none⟩ : Addr).add j = ⟨b, off + j, none⟩ := by
  unfold Addr.add
  split
  · next h => rw [h]; rfl
  · simp

theorem Own.ints {k : IntKind} {e : TypeId} {w : World} {B : Nat} {v : Value} {zs : List Int} (h : Own k e w B v zs) : Ints k w v zs := by
  obtain ⟨a, cap, rfl, h1, h2, h3, h4⟩ := h.shape
  cases a with
  | none => obtain ⟨rfl, rfl⟩ := h3 rfl; exact .inl ⟨rfl, _, _, rfl⟩
  | some x =>
    obtain ⟨b, off, spot⟩ := x
    obtain ⟨rfl, rfl, hb⟩ := h4 _ rfl
    exact .inr ⟨b, 0, cap, rfl, fun i hi => by rw [Nat.zero_add]; exact h.cell i hi⟩

theorem IsRow.ints {k : IntKind} {w : World} {a : Option Addr} {len cap : Nat} {zs : List Int} (h : IsRow k w a len cap zs) : Ints k w (.slice a len cap) (zs.take len) := by
  rcases h with ⟨rfl, rfl, rfl, rfl⟩ | ⟨x, rfl, h1, h2, h3, h4, h5⟩
  · exact .inl ⟨rfl, _, _, rfl⟩
  · by_cases h0 : len = 0
    · subst h0; exact .inl ⟨by simp, _, _, rfl⟩
    · obtain ⟨b, off, spot⟩ := x
      have hc := h4 0 (by omega)
      have hspot : spot = none := by simpa [Addr.add] using World.cell?_spot hc
      subst hspot
      refine .inr ⟨b, off, cap, by rw [List.length_take, h3, Nat.min_eq_left h1], fun i hi => ?_⟩
      rw [List.length_take, h3, Nat.min_eq_left h1] at hi
      rw [← add_off, h4 i (by omega)]
      congr 2
      simp [List.getD, hi]
theorem IsRow.length {k : IntKind} {w : World} {a : Option Addr} {len cap : Nat} {zs : List Int} (h : IsRow k w a len cap zs) : (zs.take len).length = len ∧ len ≤ maxLen := by
  rcases h with ⟨rfl, rfl, rfl, rfl⟩ | ⟨x, rfl, h1, h2, h3, h4, h5⟩
  · exact ⟨rfl, Nat.zero_le _⟩
  · exact ⟨by rw [List.length_take, h3, Nat.min_eq_left h1], by omega⟩

theorem Ints.keep {k : IntKind} {w w' : World} {v : Value} {zs : List Int} (h : Ints k w v zs) (hb : Below w.heap.size w w') : Ints k w' v zs := by
  rcases h with h | ⟨b, off, c, rfl, hc⟩
  · exact .inl h
  · refine .inr ⟨b, off, c, rfl, fun i hi => ?_⟩
    have := hc i hi
    rw [hb.cell (World.block_lt_of_cell? w _ this)]; exact this

theorem made_zeros (z : Value) (n : Nat) : (madeCells #[z] (n * 1)).toList = List.replicate n z := by
  rw [Nat.mul_one]
  apply List.ext_getElem?
  intro i
  rw [List.getElem?_replicate]
  by_cases h : i < n
  · simp [madeCells, h, Nat.mod_one]
  · simp [madeCells, h]

/-- 'make([]int, n)'. -/
theorem make_i64 (w : World) {ops : Array Oper} {rest : List Oper} {o : Oper} {a : Act} {Q : Exit → Act → World → Prop} (hg : o.guard = none) (l c : Operand) (hop : o.op = Op.makeSlice 22 l c)
    (B n : Nat) (kl kc : IntKind) (L C : Int) (hl : a.eval l = .int kl L) (hc : a.eval c = .int kc C) (hL : L = n) (hC : C = n) (hn : n ≤ 1099511627776) (hB : B ≤ w.heap.size)
    (K : ∀ w', Own .i64 3 w' B (.slice (some ⟨w.heap.size, 0, none⟩) n n) (List.replicate n 0) → w.grownBy w' none → wpList Tryz.prog ops Q rest (a.put o.dst (.slice (some ⟨w.heap.size, 0, none⟩) n n)) w') : wpList Tryz.prog ops Q (o :: rest) a w := by
  obtain ⟨i0, j1, j2, j3, j4⟩ := info_i64
  refine wpList_make_full w hg l c 22 hop B 3 i0 (.int .i64 0) 1 Tryz.underlying22 j1 j2 j3 kl kc L C n hl hc hL hC (by rw [j4]; omega) (by unfold maxLen; omega) hB ?_
  intro w' h hgr
  refine K w' ?_ hgr
  have e1 : (Value.int .i64 0).cells = #[Value.int .i64 0] := rfl
  rw [e1, made_zeros] at h
  unfold Own
  simpa using h

theorem Own.store {k : IntKind} {e : TypeId} {w : World} {B g n cap : Nat} {zs : List Int} (h : Own k e w B (.slice (some ⟨g, 0, none⟩) n cap) zs) (j : Nat) (u : Int) :
    Own k e (w.setCell ⟨g, j, none⟩ (.int k u)) B (.slice (some ⟨g, 0, none⟩) n cap) (zs.set j u) := by
  have hn : zs.length = n := by
    obtain ⟨a, c, hv, _⟩ := h.shape
    injection hv with _ h2; exact h2.symm
  subst hn
  have := (World.ownsRow.stored h j (.int k u)).1
  unfold Own
  rw [List.length_set, List.map_set]
  exact this
theorem Own.frozen {k : IntKind} {e : TypeId} {w : World} {B g n cap : Nat} {zs : List Int} (h : Own k e w B (.slice (some ⟨g, 0, none⟩) n cap) zs) (j : Nat) : w.frozen? ⟨g, j, none⟩ = false := by
  have hn : zs.length = n := by
    obtain ⟨a, c, hv, _⟩ := h.shape
    injection hv with _ h2; exact h2.symm
  subst hn
  exact World.ownsRow.frozenAt h j
theorem Own.base {k : IntKind} {e : TypeId} {w : World} {B g n cap : Nat} {zs : List Int} (h : Own k e w B (.slice (some ⟨g, 0, none⟩) n cap) zs) : B ≤ g ∧ g < w.heap.size := World.ownsRow.lt h g rfl

/-- Cells of an older world, behind what the call has made since. -/
theorem cell_since {w wr : World} (hb : Below w.heap.size w wr) {p : Addr} {v : Value} (h : w.cell? p = some v) : wr.cell? p = some v := by
  rw [hb.cell (World.block_lt_of_cell? w _ h)]; exact h

theorem set_copy (zs : List Int) (k : Nat) (h : k < zs.length) : (zs.take k ++ List.replicate (zs.length - k) 0).set k (zs.getD k 0) = zs.take (k + 1) ++ List.replicate (zs.length - (k + 1)) 0 := by
  have hl : (zs.take k).length = k := by simp; omega
  have e : zs.take (k + 1) = zs.take k ++ [zs[k]] := List.take_succ_eq_append_getElem h
  rw [List.set_append_right _ _ (by omega), hl, Nat.sub_self, e]
  have : zs.length - k = (zs.length - (k + 1)) + 1 := by omega
  rw [this, List.replicate_succ]
  simp only [List.set_cons_zero, List.getD, List.getElem?_eq_getElem h, Option.getD_some, List.append_assoc, List.cons_append, List.nil_append]

set_option maxHeartbeats 400000 in
/-- A copy in new memory. -/
theorem laws_toIntS (v : Value) (zs : List Int) (w : World) (h : Ints .i64 w v zs) (hl : zs.length ≤ 1048576) : Calls Tryz.prog 27 #[v] w fun e w' => ∃ v', e = .returned v' ∧ Own .i64 3 w' w.heap.size v' zs ∧ Below w.heap.size w w' := by
  rcases h with ⟨rfl, a, c, rfl⟩ | ⟨b, off, c, rfl, hcell⟩
  · go_enter Tryz.func27, Tryz.ntmps27
    go_wp2_with (at_make; refine make_i64 _ rfl _ _ rfl w.heap.size 0 _ _ 0 0 rfl rfl rfl rfl (by omega) (Nat.le_refl _) ?_)
    intro w1 hown hg
    have hb : Below w.heap.size w w1 := (Below.refl _ _).grown hg (Nat.le_refl _) (fun k hk => by cases hk)
    clear hg
    go_wp2
    go_loop [4] (fun i => i = .int .i64 0) (fun _ => 0)
    case atStart => rfl
    case round =>
      subst hrel
      go_wp2
      go_ret
      exact ⟨_, rfl, hown, hb⟩
  · generalize hn : zs.length = n at *
    have HN := Lib.hid hn
    clear hn
    go_enter Tryz.func27, Tryz.ntmps27
    go_wp2_with (at_make; refine make_i64 _ rfl _ _ rfl w.heap.size n _ _ n n rfl rfl rfl rfl (by omega) (Nat.le_refl _) ?_)
    intro w1 hown hg
    have hb : Below w.heap.size w w1 := (Below.refl _ _).grown hg (Nat.le_refl _) (fun k hk => by cases hk)
    clear hg
    go_wp2
    go_loopw [4] (fun i wr => ∃ k : Nat, k ≤ n ∧ i = .int .i64 k ∧ Own .i64 3 wr w.heap.size (.slice (some ⟨w.heap.size, 0, none⟩) n n) (zs.take k ++ List.replicate (n - k) 0) ∧ Below w.heap.size w wr) (fun i _ => n - (intOf i).toNat)
    case atStart => exact ⟨0, Nat.zero_le _, rfl, by simpa using hown, hb⟩
    case round =>
      clear hown hb
      obtain ⟨k, hk, rfl, ho, hb⟩ := hrel
      by_cases hlt : k < n
      · have hc := cell_since hb (hcell k hlt)
        have hf := ho.frozen k
        have hold := ho.cell k (by simp; have := HN.out; omega)
        have ho2 := ho.store k (zs.getD k 0)
        have hb2 : Below w.heap.size w (wr.setCell ⟨w.heap.size, k, none⟩ (.int .i64 (zs.getD k 0))) := hb.setCell (Nat.le_refl _) _
        have e1 := set_copy zs k (by have := HN.out; omega)
        rw [HN.out] at e1
        rw [e1] at ho2
        clear e1 ho hcell
        have h1 : (0 : Int) ≤ (k : Int) := by omega
        have h2 : (k : Int) < (n : Int) := by omega
        go_wp2
        go_roundw
        case rel => exact ⟨k + 1, by omega, by go_num, ho2, hb2⟩
        case measure => simp [intOf]; omega
      · go_wp2
        go_ret
        have hkn : k = n := by omega
        have := HN.out
        subst hkn
        refine ⟨_, rfl, ?_, hb⟩
        rw [Nat.sub_self, List.replicate_zero, List.append_nil, List.take_of_length_le (by omega)] at ho
        exact ho

theorem take_same {zs ys : List Int} {k : Nat} (h : k < zs.length) (h2 : k < ys.length) (ht : zs.take k = ys.take k) (he : zs.getD k 0 = ys.getD k 0) : zs.take (k + 1) = ys.take (k + 1) := by
  have e1 : zs.take (k + 1) = zs.take k ++ [zs[k]] := List.take_succ_eq_append_getElem h
  have e2 : ys.take (k + 1) = ys.take k ++ [ys[k]] := List.take_succ_eq_append_getElem h2
  rw [e1, e2, ht]
  simp only [List.getD, List.getElem?_eq_getElem h, List.getElem?_eq_getElem h2, Option.getD_some] at he
  rw [he]

set_option maxHeartbeats 400000 in
/-- Two slices hold the same numbers. -/
theorem laws_eqIntS (v u : Value) (zs ys : List Int) (w : World) (hv : Ints .i64 w v zs) (hu : Ints .i64 w u ys) (hl : zs.length ≤ 1099511627776) (hl2 : ys.length ≤ 1099511627776) : Calls Tryz.prog 12 #[v, u] w fun e w' => e = .returned (.bool (decide (zs = ys))) ∧ ∃ n, w' = w.drewN n := by
  have hv2 : ∃ a c, v = .slice a zs.length c := by
    rcases hv with ⟨rfl, a, c, rfl⟩ | ⟨b, off, c, rfl, _⟩
    · exact ⟨_, _, rfl⟩
    · exact ⟨_, _, rfl⟩
  have hu2 : ∃ a c, u = .slice a ys.length c := by
    rcases hu with ⟨rfl, a, c, rfl⟩ | ⟨b, off, c, rfl, _⟩
    · exact ⟨_, _, rfl⟩
    · exact ⟨_, _, rfl⟩
  by_cases hne : zs.length = ys.length
  · by_cases h0 : zs.length = 0
    · obtain ⟨a, c, rfl⟩ := hv2
      obtain ⟨a2, c2, rfl⟩ := hu2
      have e1 : zs = [] := List.length_eq_zero_iff.1 h0
      have e2 : ys = [] := List.length_eq_zero_iff.1 (by omega)
      subst e1; subst e2
      clear hv hu h0 hne
      go_enter Tryz.func12, Tryz.ntmps12
      go_wp2
      go_loop [5] (fun i => i = .int .i64 0) (fun _ => 0)
      case atStart => rfl
      case round =>
        subst hrel
        go_wp2
        go_ret
        exact ⟨rfl, 0, rfl⟩
    · clear hv2 hu2
      rcases hv with ⟨rfl, a, c, rfl⟩ | ⟨b, off, c, rfl, hcell⟩
      · exact absurd rfl h0
      · rcases hu with ⟨rfl, a, c, rfl⟩ | ⟨b2, off2, cc, rfl, hcell2⟩
        · exact absurd hne h0
        · generalize hn : zs.length = n at *
          have HN := Lib.hid hn
          have HM := Lib.hid hne
          rw [← hne]
          rw [← hne] at hcell2
          clear hn hne
          have e0 : ((n : Int) != (n : Int)) = false := by simp
          go_enter Tryz.func12, Tryz.ntmps12
          go_wp2
          go_loopw [5] (fun i wr => ∃ k q : Nat, k ≤ n ∧ i = .int .i64 k ∧ Hid (zs.take k = ys.take k) ∧ wr = w.drewN q) (fun i _ => n - (intOf i).toNat)
          case atStart => exact ⟨0, 0, Nat.zero_le _, rfl, Lib.hid rfl, rfl⟩
          case round =>
            obtain ⟨k, q, hk, rfl, HT, rfl⟩ := hrel
            by_cases hlt : k < n
            · have c1 := hcell k hlt
              have c2 := hcell2 k hlt
              have h1 : (0 : Int) ≤ (k : Int) := by omega
              have h2 : (k : Int) < (n : Int) := by omega
              generalize hx : zs.getD k 0 = x at c1
              generalize hy : ys.getD k 0 = y at c2
              have HX := Lib.hid hx
              have HY := Lib.hid hy
              clear hcell hcell2 hx hy
              by_cases hxy : x = y
              · have hz : (x != y) = false := by simp [hxy]
                have HXY := Lib.hid hxy
                clear hxy
                go_wp2_with fail
                go_quiet (fail)
                go_wp2
                go_roundw
                case rel =>
                  refine ⟨k + 1, _, by omega, by go_num, Lib.hid (take_same (by have := HN.out; omega) (by have := HM.out; omega) HT.out (by rw [HX.out, HY.out, HXY.out])), rfl⟩
                case measure => simp [intOf]; omega
              · have hz : (x != y) = true := by simp [hxy]
                have HF : Hid (decide (zs = ys) = false) := Lib.hid (decide_eq_false (fun h => hxy (by rw [← HX.out, ← HY.out, h])))
                go_wp2_with fail
                go_quiet (fail)
                go_wp2
                go_ret
                exact ⟨ret_bool HF.out.symm, _, World.drewN_drewN ..⟩
            · have hkn : k = n := by omega
              have HF : Hid (decide (zs = ys) = true) := Lib.hid (decide_eq_true (by
                have := HT.out
                rw [List.take_of_length_le (by have := HN.out; omega), List.take_of_length_le (by have := HM.out; omega)] at this
                exact this))
              clear hkn
              go_wp2
              go_ret
              exact ⟨ret_bool HF.out.symm, _, rfl⟩
  · obtain ⟨a, c, rfl⟩ := hv2
    obtain ⟨a2, c2, rfl⟩ := hu2
    have hz : ((zs.length : Int) != (ys.length : Int)) = true := by simp; omega
    have HF : Hid (decide (zs = ys) = false) := Lib.hid (decide_eq_false (fun h => hne (by rw [h])))
    clear hv hu
    go_enter Tryz.func12, Tryz.ntmps12
    go_wp2
    go_ret
    exact ⟨ret_bool HF.out.symm, 0, rfl⟩

end Go.Proofs.YtbamjhldebobhaaGreatDoor
