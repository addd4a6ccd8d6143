/- An encoder that came in: its fields and its line. -/
import Derived.Test.YtdckjhobikfggaaDoorLnA
import Derived.Test.YtdckjhobikfggaaDoorIntStruct
import Derived.Test.YtdckjhobikfggaaDoorMaC
import Derived.ChangeArms
namespace Go.Proofs.YtdckjhobikfggaaDoor
open Go.ChangeShapes Go.WideShapes Go.ChangeAt Go.RowKit

set_option maxRecDepth 100000 in
theorem ecList {α : Type} {zs : List α} (h : zs.length = 7) : ∃ a0 a1 a2 a3 a4 a5 a6, zs = [a0, a1, a2, a3, a4, a5, a6] := by
  match zs, h with
  | [a0, a1, a2, a3, a4, a5, a6], _ => exact ⟨a0, a1, a2, a3, a4, a5, a6, rfl⟩

set_option maxRecDepth 100000 in
theorem open_encoder {H : Type} {enc : TypeId × Value → H} {W : World} {base : Nat} {held : Bool} {r : Reach} {b0 : Nat} {v : Value} {d : DataW H} {p : List MemPlace}
    (hv : Value.okWide Tryd.prog W r b0 54 v) (h : DataW.Trod enc Tryd.prog W base (fun _ => true) held 54 v d p) : ∃ (y : Ec) (a : Option Addr) (len cap : Nat) (zs : List Int), v = ecV y (.slice a len cap) ∧ IsRow .i64 W a len cap zs ∧ y.z = zs.take len ∧ y.r.size ≤ maxLen := by
  obtain ⟨cs, rfl, hsz⟩ := okWide_struct Tryd.underlying54 hv
  obtain ⟨fuel, hf⟩ := h
  obtain ⟨xs, m, _, hx, _, hlen, hel⟩ := DataW.trod_struct Tryd.underlying54 hf
  have hC : Tryd.prog.cellsOf 54 = 7 := by kernel_rfl
  have hi : Tryd.prog.cellsOf 3 = 1 := by kernel_rfl
  have hs : Tryd.prog.cellsOf 23 = 1 := by kernel_rfl
  have ht : Tryd.prog.cellsOf 9 = 1 := by kernel_rfl
  have hb : Tryd.prog.cellsOf 4 = 1 := by kernel_rfl
  rw [hC] at hsz
  obtain ⟨ls⟩ := cs
  have hsz' : ls.length = 7 := hsz
  obtain ⟨a0, a1, a2, a3, a4, a5, a6, rfl⟩ := ecList hsz'
  have hl7 : xs.length = 7 := hlen
  have f0 := hel 0 _ rfl
  have f1 := hel 1 _ rfl
  have f2 := hel 2 _ rfl
  have f3 := hel 3 _ rfl
  have f4 := hel 4 _ rfl
  have f5 := hel 5 _ rfl
  have f6 := hel 6 _ rfl
  rw [List.getElem?_eq_getElem (by omega)] at f0 f1 f2 f3 f4 f5 f6
  obtain ⟨z0, e0, _, _⟩ := DataW.trod_int Tryd.underlying3 f0
  obtain ⟨z1, e1, _, _⟩ := DataW.trod_int Tryd.underlying3 f1
  obtain ⟨z2, e2, _, _⟩ := DataW.trod_int Tryd.underlying3 f2
  obtain ⟨z3, e3, _, w3⟩ := DataW.trod_string Tryd.underlying9 f3
  obtain ⟨z5, e5, _⟩ := DataW.trod_bool Tryd.underlying4 f5
  obtain ⟨z6, e6, _⟩ := DataW.trod_bool Tryd.underlying4 f6
  rcases open_ints Tryd.underlying23 Tryd.underlying3 (by kernel_rfl) f4 with ⟨e4, _⟩ | ⟨x, l, c, zs, e4, _, hl, hm, hz, _, hcell, hwz⟩
  · simp [Value.cells, hi, hs, ht, hb] at e0 e1 e2 e3 e4 e5 e6
    subst e0 e1 e2 e3 e4 e5 e6
    exact ⟨⟨z0, z1, z2, z3, [], z5, z6⟩, none, 0, 0, [], rfl, .inl ⟨rfl, rfl, rfl, rfl⟩, rfl, w3⟩
  · simp [Value.cells, hi, hs, ht, hb] at e0 e1 e2 e3 e4 e5 e6
    subst e0 e1 e2 e3 e4 e5 e6
    exact ⟨⟨z0, z1, z2, z3, zs.take l, z5, z6⟩, some x, l, c, zs, rfl, .inr ⟨x, rfl, hl, hm, by simpa using hz, hcell, hwz⟩, rfl, w3⟩

end Go.Proofs.YtdckjhobikfggaaDoor
