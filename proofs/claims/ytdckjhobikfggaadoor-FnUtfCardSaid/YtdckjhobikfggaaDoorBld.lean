/- A strings.Builder that the call has made: its contracts, over lists of numbers. Lengths below 2^46. -/
import Derived.Test.YtdckjhobikfggaaDoorOwn
import Derived.Test.YtdckjhobikfggaaDoorLayB
namespace Go.Proofs.YtdckjhobikfggaaDoor
open Go.RowKit

/-- The builder in block b holds the bytes zs. -/
def Bld (w : World) (B b : Nat) (zs : List Int) : Prop := Lib.IsBuilderF 67 5 B b (zs.map (Value.int .u8)) w
def Bytes8 (zs : List Int) : Prop := ∀ z ∈ zs, 0 ≤ z ∧ z < 256

theorem Bytes8.nil : Bytes8 [] := by intro z hz; cases hz
theorem Bytes8.append {a b : List Int} (h : Bytes8 a) (k : Bytes8 b) : Bytes8 (a ++ b) := by
  intro z hz; rcases List.mem_append.1 hz with h' | h'
  · exact h z h'
  · exact k z h'
theorem Bytes8.one {a : Int} (h0 : 0 ≤ a) (h1 : a < 256) : Bytes8 [a] := by intro z hz; simp at hz; omega

theorem cells_bytes {zs : List Int} (h : Bytes8 zs) : zs.map (Value.int .u8) = Lib.byteCells (zs.map fun n => UInt8.ofNat n.toNat) := by
  unfold Lib.byteCells
  rw [List.map_map]
  apply List.map_congr_left
  intro z hz
  have ⟨h0, h1⟩ := h z hz
  simp only [Function.comp]
  congr 1
  simp
  omega

theorem Bld.fresh (w : World) : Bld (w.alloc (.cells #[.pointer none, .slice none 0 0] 67)) w.heap.size w.heap.size [] := Lib.IsBuilderF.of (Lib.fresh_isBuilder _ _ w)

theorem bld_WriteByte (B b : Nat) (zs : List Int) (c : Int) (w : World) (h : Bld w B b zs) (hl : zs.length + 1 ≤ 70368744177664) (hB : B ≤ w.heap.size) :
    Calls Tryd.prog 49 #[.pointer (some ⟨b, 0, none⟩), .int .u8 c] w fun e w' => e = .returned .nilIface ∧ Bld w' B b (zs ++ [c]) ∧ Below B w w' ∧ Lib.OthersKept 5 (some b) w w' := by
  refine (Any.Builder_WriteByte_k Tryd.layB167 Tryd.layB_extra B b (zs.map (Value.int .u8)) c w h (by simp; omega) hB).mono ?_
  rintro e w' ⟨rfl, h1, h2, h3⟩
  exact ⟨rfl, by unfold Bld; rw [List.map_append]; exact Or.inr h1, h2, h3⟩

theorem bld_String (B b : Nat) (zs : List Int) (w : World) (h : Bld w B b zs) (h8 : Bytes8 zs) (hB : B ≤ w.heap.size) :
    Calls Tryd.prog 39 #[.pointer (some ⟨b, 0, none⟩)] w fun e w' => e = .returned (.string (bs zs)) ∧ Below B w w' := by
  refine (Any.Builder_String_any_k Tryd.layB169 Tryd.layB_extra B b (zs.map fun n => UInt8.ofNat n.toNat) w (by rw [← cells_bytes h8]; exact h) hB).mono ?_
  rintro e w' ⟨rfl, h1, h2, h3⟩
  exact ⟨rfl, h2⟩

end Go.Proofs.YtdckjhobikfggaaDoor
