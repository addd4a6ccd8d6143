/- A good rune drawn, out of a code. -/
import Derived.Test.YtbamjhldebobhaaDoorDrawR
namespace Go.Proofs.YtbamjhldebobhaaDoor
open Go.RowKit

def GoodDone (w : World) (b : Nat) (zs : List Int) (m : Nat) (e : Ending) (w' : World) : Prop := (∃ r : Int, e = .returned (.int .i64 r) ∧ okB r = true) ∧ Src w' b zs (m + 30) ∧ Only b w w'

def SourceDone (w : World) (zs : List Int) (e : Ending) (w' : World) : Prop := e = .returned (.pointer (some ⟨w.heap.size, 0, none⟩)) ∧ Src w' w.heap.size zs 0 ∧ Below w.heap.size w w'

set_option maxHeartbeats 1000000 in
theorem spec_l00Source (v : Value) (zs : List Int) (w : World) (h : Ints .u8 w v zs) (hz : ∀ z ∈ zs, 0 ≤ z ∧ z ≤ 255) (hl : zs.length ≤ 1048600) :
    Calls Tryd.prog 21 #[v] w (SourceDone w zs) := by
  have HI := Lib.hid h
  obtain ⟨a, c, rfl⟩ := h.form
  clear h
  have e1 : (zs.length : Int).tmod 1000 = (zs.length : Int) % 1000 := Int.tmod_eq_emod_of_nonneg (by omega)
  go_enter Tryd.func21, Tryd.ntmps21
  go_wp2
  go_ret
  refine ⟨rfl, ⟨_, 0, (zs.length : Int) % 1000, heap_alloc_new _ _, HI.out.keep ((Below.refl _ _).alloc (Nat.le_refl _) _), by omega, by omega, by omega, hz, hl, fun bb off c' h0 hv => ?_⟩, (Below.refl _ _).alloc (Nat.le_refl _) _⟩
  rcases HI.out with ⟨rfl, _⟩ | ⟨b2, off2, c2, hv2, hc2⟩
  · simp at h0
  · rw [hv2] at hv
    injection hv with h1 h2 h3
    injection h1 with h1
    injection h1 with h4 h5 h6
    subst h4
    have := World.block_lt_of_cell? w _ (hc2 0 h0)
    exact this

/-- A drawn rune: whatever the code, a rune that may be. -/
def DrawnDone (w : World) (e : Ending) (w' : World) : Prop := (∃ r : Int, e = .returned (.int .i64 r) ∧ okB r = true) ∧ Below w.heap.size w w'

end Go.Proofs.YtbamjhldebobhaaDoor
