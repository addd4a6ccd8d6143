/- Slices of spans that are marked and held: contracts of the laws' own helpers. -/
import Derived.Test.YtanceljhdccepaaDoorSpanA
import Derived.Test.YtanceljhdccepaaDoorMarks
namespace Go.Proofs.YtanceljhdccepaaDoor
open Go.RowKit

/-- The slice v of n spans holds the numbers zs, three a span, in memory of the call's own (from block B on). -/
def OwnC (w : World) (B : Nat) (v : Value) (n : Nat) (zs : List Int) : Prop := w.ownsRow B 52 3 v n (zs.map (Value.int .i64))
theorem OwnC.below {w w' : World} {B C n : Nat} {v : Value} {zs : List Int} (h : OwnC w B v n zs) (hb : Below C w w') (hC : ∀ g, v.ownBlock = some g → g < C) : OwnC w' B v n zs := by
  refine ⟨h.1, ?_⟩
  rcases h.2 with h | ⟨g, cap, cur, a, b, c, d⟩
  · exact .inl h
  · exact .inr ⟨g, cap, cur, a, b, by rw [hb.block g (hC g (by rw [a]; rfl))]; exact c, d⟩
theorem OwnC.all {w w' : World} {B n : Nat} {v : Value} {zs : List Int} (h : OwnC w B v n zs) (hb : Below w.heap.size w w') : OwnC w' B v n zs :=
  h.below hb fun g hg => (World.ownsRow.lt h g hg).2
theorem OwnC.shape {w : World} {B n : Nat} {v : Value} {zs : List Int} (h : OwnC w B v n zs) : ∃ a cap, v = .slice a n cap ∧ (a = none → n = 0) ∧ ∀ x, a = some x → x.off = 0 ∧ x.spot = none ∧ B ≤ x.block := by
  rcases h.2 with ⟨hv, h0⟩ | ⟨g, cap, cur, a, b, c, d, e', f⟩
  · exact ⟨none, 0, by rw [hv, h0], fun _ => h0, by intro x hx; cases hx⟩
  · exact ⟨_, cap, a, (fun hx => by cases hx), (fun x hx => by cases hx; exact ⟨rfl, rfl, b⟩)⟩
theorem OwnC.length {w : World} {B n : Nat} {v : Value} {zs : List Int} (h : OwnC w B v n zs) : zs.length = n * 3 := by
  have := h.1
  simpa using this
theorem OwnC.cell {w : World} {B g cap n m : Nat} {zs : List Int} (h : OwnC w B (.slice (some ⟨g, 0, none⟩) m cap) n zs) (j : Nat) (hj : j < zs.length) : w.cell? ⟨g, j, none⟩ = some (.int .i64 (zs.getD j 0)) := by
  have h2 := World.ownsRow.cells h (g := g) rfl j (.int .i64 (zs.getD j 0)) (by simp [List.getElem?_eq_getElem hj, List.getD])
  rw [add_off, Nat.zero_add] at h2; exact h2
theorem OwnC.store {w : World} {B g n cap : Nat} {zs : List Int} (h : OwnC w B (.slice (some ⟨g, 0, none⟩) n cap) n zs) (j : Nat) (u : Int) :
    OwnC (w.setCell ⟨g, j, none⟩ (.int .i64 u)) B (.slice (some ⟨g, 0, none⟩) n cap) n (zs.set j u) := by
  have := (World.ownsRow.stored h j (.int .i64 u)).1
  unfold OwnC
  rw [List.map_set]
  exact this
theorem OwnC.frozen {w : World} {B g n cap : Nat} {zs : List Int} (h : OwnC w B (.slice (some ⟨g, 0, none⟩) n cap) n zs) (j : Nat) : w.frozen? ⟨g, j, none⟩ = false := World.ownsRow.frozenAt h j

theorem grownBy_refl (w : World) (row : Option Nat) : w.grownBy w row := ⟨rfl, rfl, rfl, Nat.le_refl _, fun _ _ _ => rfl⟩
theorem grownBy_setCell (w : World) (g off : Nat) (u : Value) : w.grownBy (w.setCell ⟨g, off, none⟩ u) (some g) :=
  have b := (Below.refl 0 w).setCell (p := ⟨g, off, none⟩) (Nat.zero_le _) u
  ⟨b.os, b.tape, b.output, b.size, fun i _ hi => Below.heap_setCell _ _ _ _ (fun e => hi (by rw [e]))⟩

theorem markTo_succ3 (zs : List Int) (k : Int) (j : Nat) (h : j + 2 < zs.length) : (((markTo zs k j).set j (k + j)).set (j + 1) (k + j + 1)).set (j + 2) (k + j + 1 + 1) = markTo zs k (j + 3) := by
  rw [markTo_succ zs k j (by omega)]
  have e1 : k + (j : Int) + 1 = k + ((j + 1 : Nat) : Int) := by omega
  have e2 : k + (j : Int) + 1 + 1 = k + ((j + 2 : Nat) : Int) := by omega
  rw [e2, e1, markTo_succ zs k (j + 1) (by omega), markTo_succ zs k (j + 2) (by omega)]

theorem OwnC.cells {w : World} {B n : Nat} {v : Value} {k : Int} (h : OwnC w B v n (marks k (n * 3))) : (n = 0 ∧ ∃ a c, v = .slice a 0 c) ∨ ∃ g c, v = .slice (some ⟨g, 0, none⟩) n c ∧ ∀ j, j < n * 3 → w.cell? ⟨g, j, none⟩ = some (.int .i64 (k + (j : Int))) := by
  obtain ⟨a, c, rfl, h3, h4⟩ := h.shape
  cases a with
  | none => obtain rfl := h3 rfl; exact .inl ⟨rfl, _, _, rfl⟩
  | some x =>
    obtain ⟨g, off, spot⟩ := x
    obtain ⟨rfl, rfl, hB⟩ := h4 _ rfl
    refine .inr ⟨g, c, rfl, fun j hj => ?_⟩
    have := h.cell j (by rw [marks_length]; exact hj)
    rw [marks_at _ _ _ hj] at this
    exact this

end Go.Proofs.YtanceljhdccepaaDoor
