/- The laws' source of choices: contracts of l00Source, byte, next, RuneDrawn, and of the laws' own 'at' and 'mix'. A code has at most 2^20 + 1 bytes. -/
import Derived.Test.YthflfiacjgeelabDoorInts
import Derived.IntWalk
import Derived.Deep.RegionHeld3
import Derived.StillTailTactics
namespace Go.Proofs.YthflfiacjgeelabDoor
open Go.RowKit

theorem Ints.form {k : IntKind} {w : World} {v : Value} {zs : List Int} (h : Ints k w v zs) : ∃ a c, v = .slice a zs.length c := by
  rcases h with ⟨rfl, a, c, rfl⟩ | ⟨b, off, c, rfl, _⟩
  · exact ⟨_, _, rfl⟩
  · exact ⟨_, _, rfl⟩
/-- A store into another block leaves what the slice reads. -/
theorem Ints.store {k : IntKind} {w : World} {v : Value} {zs : List Int} (h : Ints k w v zs) (b j : Nat) (u : Value) (hne : ∀ bb off c, 0 < zs.length → v = .slice (some ⟨bb, off, none⟩) zs.length c → bb ≠ b) : Ints k (w.setCell ⟨b, j, none⟩ u) v zs := by
  rcases h with h | ⟨bb, off, c, rfl, hc⟩
  · exact .inl h
  · refine .inr ⟨bb, off, c, rfl, fun i hi => ?_⟩
    have := hne bb off c (by omega) rfl
    rw [World.cell?_of_block (w := w) (a := ⟨bb, off + i, none⟩) (Below.heap_setCell w ⟨b, j, none⟩ u bb this)]
    exact hc i hi
theorem Ints.drewN {k : IntKind} {w : World} {v : Value} {zs : List Int} (h : Ints k w v zs) (q : Nat) : Ints k (w.drewN q) v zs := h.keep (below_drewN (Below.refl _ _) q)

/-- Of what stood in w only block b may have turned. -/
def Only (b : Nat) (w w' : World) : Prop := Below b w w' ∧ ∀ g, g ≠ b → g < w.heap.size → w'.heap[g]? = w.heap[g]?
theorem Only.refl (b : Nat) (w : World) : Only b w w := ⟨Below.refl _ _, fun _ _ _ => rfl⟩
theorem Only.trans {b : Nat} {w w1 w2 : World} (h : Only b w w1) (k : Only b w1 w2) : Only b w w2 :=
  ⟨h.1.trans k.1, fun g hg hl => by rw [k.2 g hg (Nat.lt_of_lt_of_le hl h.1.size), h.2 g hg hl]⟩
theorem Only.drewN {b : Nat} {w w1 : World} (h : Only b w w1) (q : Nat) : Only b w (w1.drewN q) := ⟨below_drewN h.1 q, h.2⟩
theorem Only.set (b j : Nat) (w : World) (u : Value) : Only b w (w.setCell ⟨b, j, none⟩ u) :=
  ⟨(Below.refl b w).setCell (p := ⟨b, j, none⟩) (Nat.le_refl _) u, fun g hg _ => Below.heap_setCell w ⟨b, j, none⟩ u g hg⟩
theorem Only.alloc {b : Nat} {w w1 : World} (h : Only b w w1) (hb : b < w.heap.size) (o : Obj) : Only b w (w1.alloc o) :=
  ⟨h.1.alloc (by have := h.1.size; omega) o, fun g hg hl => by rw [Below.heap_alloc w1 o g (Nat.lt_of_lt_of_le hl h.1.size), h.2 g hg hl]⟩

/-- The library's law of a region with a forced tail, the world behind the draw under a name. -/
theorem still_tail_w {P : Program} {id : Nat} {Q : Exit → Act → World → Prop} {a : Act} {w : World} {l : List Oper} (n : Nat) (w2 : World) (hw : { w with drawn := w.drawn + 1 } = w2) (hm : P.follows .mixedOrders = true) (hB : Region.lexTailB .any l.toArray n = true)
    (h : wpStill P l.toArray w2 (fun a' => wpList P l.toArray Q (l.drop n) a' w2) (l.take n) a) : (Code.region id l.toArray true).wp P Q a w := by
  subst hw; exact wp_region_still_tail n hm hB h

end Go.Proofs.YthflfiacjgeelabDoor
