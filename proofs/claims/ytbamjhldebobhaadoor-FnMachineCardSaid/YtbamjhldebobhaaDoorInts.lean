/- Slices of ints that are read, copied and compared. Lengths at most 2^40. -/
import Derived.Test.YtbamjhldebobhaaDoorOwn
import Derived.Test.YtbamjhldebobhaaDoorRunesA
import Derived.Deep.QuietTactic
import Derived.BigQuiet
namespace Go.Proofs.YtbamjhldebobhaaDoor
open Go.RowKit

/-- What the walk is told of a slice of integers that came in (the row's frame gives it). -/
def IsRow (k : IntKind) (w : World) (a : Option Addr) (len cap : Nat) (zs : List Int) : Prop :=
  (a = none ∧ len = 0 ∧ cap = 0 ∧ zs = []) ∨
  ∃ x, a = some x ∧ len ≤ cap ∧ cap ≤ maxLen ∧ zs.length = cap ∧ (∀ i, i < zs.length → w.cell? (x.add i) = some (.int k (zs.getD i 0))) ∧ ∀ n ∈ zs, (Lit.int k n).wf = true

/-- The slice v reads as the numbers zs. -/
def Ints (k : IntKind) (w : World) (v : Value) (zs : List Int) : Prop :=
  (zs = [] ∧ ∃ a c, v = .slice a 0 c) ∨ ∃ b off c, v = .slice (some ⟨b, off, none⟩) zs.length c ∧ ∀ i, i < zs.length → w.cell? ⟨b, off + i, none⟩ = some (.int k (zs.getD i 0))

theorem add_off (b off j : Nat) : (⟨b, off, none⟩ : Addr).add j = ⟨b, off + j, none⟩ := by
  unfold Addr.add
  split
  · next h => rw [h]; rfl
  · simp

theorem Own.ints {k : IntKind} {e : TypeId} {w : World} {B : Nat} {v : Value} {zs : List Int} (h : Own k e w B v zs) : Ints k w v zs := by
  obtain ⟨a, cap, rfl, h1, h2, h3, h4⟩ := h.shape
  cases a with
  | none => obtain ⟨rfl, rfl⟩ := h3 rfl; exact .inl ⟨rfl, _, _, rfl⟩
  | some x =>
    obtain ⟨b, off, spot⟩ := x
    obtain ⟨rfl, rfl, hb⟩ := h4 _ rfl
    exact .inr ⟨b, 0, cap, rfl, fun i hi => by rw [Nat.zero_add]; exact h.cell i hi⟩

theorem IsRow.ints {k : IntKind} {w : World} {a : Option Addr} {len cap : Nat} {zs : List Int} (h : IsRow k w a len cap zs) : Ints k w (.slice a len cap) (zs.take len) := by
  rcases h with ⟨rfl, rfl, rfl, rfl⟩ | ⟨x, rfl, h1, h2, h3, h4, h5⟩
  · exact .inl ⟨rfl, _, _, rfl⟩
  · by_cases h0 : len = 0
    · subst h0; exact .inl ⟨by simp, _, _, rfl⟩
    · obtain ⟨b, off, spot⟩ := x
      have hc := h4 0 (by omega)
      have hspot : spot = none := by simpa [Addr.add] using World.cell?_spot hc
      subst hspot
      refine .inr ⟨b, off, cap, by rw [List.length_take, h3, Nat.min_eq_left h1], fun i hi => ?_⟩
      rw [List.length_take, h3, Nat.min_eq_left h1] at hi
      rw [← add_off, h4 i (by omega)]
      congr 2
      simp [List.getD, hi]
theorem IsRow.length {k : IntKind} {w : World} {a : Option Addr} {len cap : Nat} {zs : List Int} (h : IsRow k w a len cap zs) : (zs.take len).length = len ∧ len ≤ maxLen := by
  rcases h with ⟨rfl, rfl, rfl, rfl⟩ | ⟨x, rfl, h1, h2, h3, h4, h5⟩
  · exact ⟨rfl, Nat.zero_le _⟩
  · exact ⟨by rw [List.length_take, h3, Nat.min_eq_left h1], by omega⟩

theorem Ints.keep {k : IntKind} {w w' : World} {v : Value} {zs : List Int} (h : Ints k w v zs) (hb : Below w.heap.size w w') : Ints k w' v zs := by
  rcases h with h | ⟨b, off, c, rfl, hc⟩
  · exact .inl h
  · refine .inr ⟨b, off, c, rfl, fun i hi => ?_⟩
    have := hc i hi
    rw [hb.cell (World.block_lt_of_cell? w _ this)]; exact this

theorem made_zeros (z : Value) (n : Nat) : (madeCells #[z] (n * 1)).toList = List.replicate n z := by
  rw [Nat.mul_one]
  apply List.ext_getElem?
  intro i
  rw [List.getElem?_replicate]
  by_cases h : i < n
  · simp [madeCells, h, Nat.mod_one]
  · simp [madeCells, h]

/-- 'make([]int, n)'. -/
theorem make_i64 (w : World) {ops : Array Oper} {rest : List Oper} {o : Oper} {a : Act} {Q : Exit → Act → World → Prop} (hg : o.guard = none) (l c : Operand) (hop : o.op = Op.makeSlice 27 l c)
    (B n : Nat) (kl kc : IntKind) (L C : Int) (hl : a.eval l = .int kl L) (hc : a.eval c = .int kc C) (hL : L = n) (hC : C = n) (hn : n ≤ 1099511627776) (hB : B ≤ w.heap.size)
    (K : ∀ w', Own .i64 3 w' B (.slice (some ⟨w.heap.size, 0, none⟩) n n) (List.replicate n 0) → w.grownBy w' none → wpList Tryd.prog ops Q rest (a.put o.dst (.slice (some ⟨w.heap.size, 0, none⟩) n n)) w') : wpList Tryd.prog ops Q (o :: rest) a w := by
  obtain ⟨i0, j1, j2, j3, j4⟩ := info_i64
  refine wpList_make_full w hg l c 27 hop B 3 i0 (.int .i64 0) 1 Tryd.underlying27 j1 j2 j3 kl kc L C n hl hc hL hC (by rw [j4]; omega) (by unfold maxLen; omega) hB ?_
  intro w' h hgr
  refine K w' ?_ hgr
  have e1 : (Value.int .i64 0).cells = #[Value.int .i64 0] := rfl
  rw [e1, made_zeros] at h
  unfold Own
  simpa using h

theorem Own.store {k : IntKind} {e : TypeId} {w : World} {B g n cap : Nat} {zs : List Int} (h : Own k e w B (.slice (some ⟨g, 0, none⟩) n cap) zs) (j : Nat) (u : Int) :
    Own k e (w.setCell ⟨g, j, none⟩ (.int k u)) B (.slice (some ⟨g, 0, none⟩) n cap) (zs.set j u) := by
  have hn : zs.length = n := by
    obtain ⟨a, c, hv, _⟩ := h.shape
    injection hv with _ h2; exact h2.symm
  subst hn
  have := (World.ownsRow.stored h j (.int k u)).1
  unfold Own
  rw [List.length_set, List.map_set]
  exact this
theorem Own.frozen {k : IntKind} {e : TypeId} {w : World} {B g n cap : Nat} {zs : List Int} (h : Own k e w B (.slice (some ⟨g, 0, none⟩) n cap) zs) (j : Nat) : w.frozen? ⟨g, j, none⟩ = false := by
  have hn : zs.length = n := by
    obtain ⟨a, c, hv, _⟩ := h.shape
    injection hv with _ h2; exact h2.symm
  subst hn
  exact World.ownsRow.frozenAt h j
theorem Own.base {k : IntKind} {e : TypeId} {w : World} {B g n cap : Nat} {zs : List Int} (h : Own k e w B (.slice (some ⟨g, 0, none⟩) n cap) zs) : B ≤ g ∧ g < w.heap.size := World.ownsRow.lt h g rfl

/-- Cells of an older world, behind what the call has made since. -/
theorem cell_since {w wr : World} (hb : Below w.heap.size w wr) {p : Addr} {v : Value} (h : w.cell? p = some v) : wr.cell? p = some v := by
  rw [hb.cell (World.block_lt_of_cell? w _ h)]; exact h

theorem set_copy (zs : List Int) (k : Nat) (h : k < zs.length) : (zs.take k ++ List.replicate (zs.length - k) 0).set k (zs.getD k 0) = zs.take (k + 1) ++ List.replicate (zs.length - (k + 1)) 0 := by
  have hl : (zs.take k).length = k := by simp; omega
  have e : zs.take (k + 1) = zs.take k ++ [zs[k]] := List.take_succ_eq_append_getElem h
  rw [List.set_append_right _ _ (by omega), hl, Nat.sub_self, e]
  have : zs.length - k = (zs.length - (k + 1)) + 1 := by omega
  rw [this, List.replicate_succ]
  simp only [List.set_cons_zero, List.getD, List.getElem?_eq_getElem h, Option.getD_some, List.append_assoc, List.cons_append, List.nil_append]

theorem take_same {zs ys : List Int} {k : Nat} (h : k < zs.length) (h2 : k < ys.length) (ht : zs.take k = ys.take k) (he : zs.getD k 0 = ys.getD k 0) : zs.take (k + 1) = ys.take (k + 1) := by
  have e1 : zs.take (k + 1) = zs.take k ++ [zs[k]] := List.take_succ_eq_append_getElem h
  have e2 : ys.take (k + 1) = ys.take k ++ [ys[k]] := List.take_succ_eq_append_getElem h2
  rw [e1, e2, ht]
  simp only [List.getD, List.getElem?_eq_getElem h, List.getElem?_eq_getElem h2, Option.getD_some] at he
  rw [he]

end Go.Proofs.YtbamjhldebobhaaDoor
