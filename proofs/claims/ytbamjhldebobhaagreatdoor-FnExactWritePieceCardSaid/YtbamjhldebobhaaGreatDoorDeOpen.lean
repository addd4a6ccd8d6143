/- A decoder that came in: its fields. -/
import Derived.Test.YtbamjhldebobhaaGreatDoorPcM
import Derived.Test.YtbamjhldebobhaaGreatDoorIntStruct
import Derived.Test.YtbamjhldebobhaaGreatDoorMaC
import Derived.ChangeArms
namespace Go.Proofs.YtbamjhldebobhaaGreatDoor
open Go.ChangeShapes Go.WideShapes Go.ChangeAt Go.RowKit

set_option maxRecDepth 100000 in
theorem list13 {α : Type} {zs : List α} (h : zs.length = 13) : ∃ a0 a1 a2 a3 a4 a5 a6 a7 a8 a9 a10 a11 a12, zs = [a0, a1, a2, a3, a4, a5, a6, a7, a8, a9, a10, a11, a12] := by
  match zs, h with
  | [a0, a1, a2, a3, a4, a5, a6, a7, a8, a9, a10, a11, a12], _ => exact ⟨a0, a1, a2, a3, a4, a5, a6, a7, a8, a9, a10, a11, a12, rfl⟩

set_option maxRecDepth 100000 in
theorem open_decoder {H : Type} {enc : TypeId × Value → H} {W : World} {base : Nat} {spare : Nat → Bool} {held : Bool} {r : Reach} {b0 : Nat} {v : Value} {d : DataW H} {p : List MemPlace}
    (hv : Value.okWide Tryz.prog W r b0 37 v) (h : DataW.Trod enc Tryz.prog W base spare held 37 v d p) : ∃ y : De, v = deV y ∧ Wide64 y.x ∧ y.r.size ≤ maxLen := by
  obtain ⟨cs, rfl, hsz⟩ := okWide_struct Tryz.underlying37 hv
  obtain ⟨fuel, hf⟩ := h
  obtain ⟨xs, m, _, hx, _, hlen, hel⟩ := DataW.trod_struct Tryz.underlying37 hf
  have hC : Tryz.prog.cellsOf 37 = 13 := by kernel_rfl
  have hi : Tryz.prog.cellsOf 3 = 1 := by kernel_rfl
  have hs : Tryz.prog.cellsOf 35 = 7 := by kernel_rfl
  have ht : Tryz.prog.cellsOf 9 = 1 := by kernel_rfl
  have hb : Tryz.prog.cellsOf 4 = 1 := by kernel_rfl
  rw [hC] at hsz
  obtain ⟨ls⟩ := cs
  have hsz' : ls.length = 13 := hsz
  obtain ⟨a0, a1, a2, a3, a4, a5, a6, a7, a8, a9, a10, a11, a12, rfl⟩ := list13 hsz'
  have hl7 : xs.length = 7 := hlen
  have f0 := hel 0 _ rfl
  have f1 := hel 1 _ rfl
  have f2 := hel 2 _ rfl
  have f3 := hel 3 _ rfl
  have f4 := hel 4 _ rfl
  have f5 := hel 5 _ rfl
  have f6 := hel 6 _ rfl
  rw [List.getElem?_eq_getElem (by omega)] at f0 f1 f2 f3 f4 f5 f6
  obtain ⟨z0, e0, _, _⟩ := DataW.trod_int Tryz.underlying3 f0
  obtain ⟨z1, e1, _, _⟩ := DataW.trod_int Tryz.underlying3 f1
  obtain ⟨z2, e2, _, _⟩ := DataW.trod_int Tryz.underlying3 f2
  obtain ⟨z10, e10, _, w10⟩ := DataW.trod_string Tryz.underlying9 f4
  obtain ⟨z11, e11, _⟩ := DataW.trod_bool Tryz.underlying4 f5
  obtain ⟨z12, e12, _⟩ := DataW.trod_bool Tryz.underlying4 f6
  obtain ⟨ys, m2, _, _, _, hlen2, hel2⟩ := DataW.trod_struct Tryz.underlying35 f3
  have hl7b : ys.length = 7 := hlen2
  have g0 := hel2 0 _ rfl
  have g1 := hel2 1 _ rfl
  have g2 := hel2 2 _ rfl
  have g3 := hel2 3 _ rfl
  have g4 := hel2 4 _ rfl
  have g5 := hel2 5 _ rfl
  have g6 := hel2 6 _ rfl
  rw [List.getElem?_eq_getElem (by omega)] at g0 g1 g2 g3 g4 g5 g6
  obtain ⟨z3, e3, _, _⟩ := DataW.trod_int Tryz.underlying3 g0
  obtain ⟨z4, e4, _, _⟩ := DataW.trod_int Tryz.underlying3 g1
  obtain ⟨z5, e5, _, _⟩ := DataW.trod_int Tryz.underlying3 g2
  obtain ⟨z6, e6, _, _⟩ := DataW.trod_int Tryz.underlying3 g3
  obtain ⟨z7, e7, _, _⟩ := DataW.trod_int Tryz.underlying3 g4
  obtain ⟨z8, e8, _, _⟩ := DataW.trod_int Tryz.underlying3 g5
  obtain ⟨z9, e9, _, w9⟩ := DataW.trod_int Tryz.underlying3 g6
  simp [Value.cells, hi, hs, ht, hb] at e0 e1 e2 e3 e4 e5 e6 e7 e8 e9 e10 e11 e12
  subst e0 e1 e2 e3 e4 e5 e6 e7 e8 e9 e10 e11 e12
  refine ⟨⟨z0, z1, z2, ⟨z3, z4, z5, z6, z7, z8, z9⟩, z10, z11, z12⟩, rfl, ?_, w10⟩
  have m0 : IntKind.i64.min = -9223372036854775808 := by decide
  have m1 : IntKind.i64.max = 9223372036854775807 := by decide
  simp [Lit.wf] at w9
  show -9223372036854775808 ≤ z9 ∧ z9 ≤ 9223372036854775807
  omega

end Go.Proofs.YtbamjhldebobhaaGreatDoor
