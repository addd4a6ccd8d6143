/- Slices of spans that are compared: contracts of the laws' own helpers. -/
import Derived.Test.YtbamjhldebobhaaDoorSetsA
import Derived.Test.YtbamjhldebobhaaDoorInts
import Derived.Test.YtbamjhldebobhaaDoorDraw
namespace Go.Proofs.YtbamjhldebobhaaDoor
open Go.RowKit

/-- The slice v reads as the spans sp. -/
def SpAt (w : World) (v : Value) (sp : List Sp) : Prop :=
  (sp = [] ∧ ∃ a c, v = .slice a 0 c) ∨ ∃ g off c, v = .slice (some ⟨g, off, none⟩) sp.length c ∧ ∀ i (h : i < sp.length),
    w.cell? ⟨g, off + i * 3, none⟩ = some (.int .i64 (sp[i]).1) ∧ w.cell? ⟨g, off + i * 3 + 1, none⟩ = some (.int .i64 (sp[i]).2.1) ∧ w.cell? ⟨g, off + i * 3 + 2, none⟩ = some (.int .i64 (sp[i]).2.2)
theorem SpAt.keep {w w' : World} {v : Value} {sp : List Sp} (h : SpAt w v sp) (hb : Below w.heap.size w w') : SpAt w' v sp := by
  rcases h with h | ⟨g, off, c, rfl, hc⟩
  · exact .inl h
  · refine .inr ⟨g, off, c, rfl, fun i hi => ?_⟩
    have ⟨h1, h2, h3⟩ := hc i hi
    exact ⟨by rw [hb.cell (World.block_lt_of_cell? w _ h1)]; exact h1, by rw [hb.cell (World.block_lt_of_cell? w _ h2)]; exact h2, by rw [hb.cell (World.block_lt_of_cell? w _ h3)]; exact h3⟩
theorem SpAt.form {w : World} {v : Value} {sp : List Sp} (h : SpAt w v sp) : ∃ a c, v = .slice a sp.length c := by
  rcases h with ⟨rfl, a, c, rfl⟩ | ⟨g, off, c, rfl, _⟩
  · exact ⟨_, _, rfl⟩
  · exact ⟨_, _, rfl⟩
def spV (s : Sp) : Value := .agg #[.int .i64 s.1, .int .i64 s.2.1, .int .i64 s.2.2]
theorem spanField0 : ∀ (a b c : Value) (w : World), (Instr.field 90 (.agg #[a, b, c]) 0).run Tryd.prog w = .ok a w := fun _ _ _ _ => by kernel_rfl
theorem spanField1 : ∀ (a b c : Value) (w : World), (Instr.field 90 (.agg #[a, b, c]) 1).run Tryd.prog w = .ok b w := fun _ _ _ _ => by kernel_rfl
theorem spanField2 : ∀ (a b c : Value) (w : World), (Instr.field 90 (.agg #[a, b, c]) 2).run Tryd.prog w = .ok c w := fun _ _ _ _ => by kernel_rfl

theorem take_sameSp {zs ys : List Sp} {k : Nat} (h : k < zs.length) (h2 : k < ys.length) (ht : zs.take k = ys.take k) (he : zs[k] = ys[k]) : zs.take (k + 1) = ys.take (k + 1) := by
  rw [List.take_succ_eq_append_getElem h, List.take_succ_eq_append_getElem h2, ht, he]

/-- A set's value. -/
def setVal (nm : ByteArray) (kind final : Int) (v : Value) : Value := .agg #[.string nm, .int .i64 kind, .int .i64 final, v]

end Go.Proofs.YtbamjhldebobhaaDoor
