/- The table of sets with its first entry, which is no set, out of the row's laid list. -/
import Derived.Test.YtjbikenhdgbacaaDoorSetsLaid
import Derived.Test.YtjbikenhdgbacaaDoorMaB
namespace Go.Proofs.YtjbikenhdgbacaaDoor
open Go.ChangeShapes Go.WideShapes Go.ChangeAt Go.RowKit

set_option maxRecDepth 100000 in
theorem tabM_of_laid {W : World} (h : laidMetH Tryd.prog [("loop.example/g00748/impl.registry", Rows.laid_loop_example_g00748_impl_registry)] W) : TabM W := by
  refine ⟨sets_of_laid h, ?_⟩
  rw [MakeChecks.laidMetH_plain _ _ _ (by kernel_rfl)] at h
  obtain ⟨ps, ⟨g0, t0, cs0, f0, p0, q0, hg0, ht0, hv0, hd0, _, _⟩, _, _⟩ := h
  obtain rfl := Option.some.inj (gReg.symm.trans hg0)
  obtain rfl := Option.some.inj (tReg.symm.trans ht0)
  rw [laid_reg] at hd0
  obtain ⟨xs, m, rfl, hx, _, hlen, hel⟩ := DataW.trod_array Tryd.underlying98 hd0
  have hx1 : regD = xs.map (·.1) := by simpa using congrArg Prod.fst hx
  have c4 : Tryd.prog.cellsOf 95 = 4 := by kernel_rfl
  have c1 : Tryd.prog.cellsOf 3 = 1 := by kernel_rfl
  rw [c4] at hel
  have hk : 0 < xs.length := by omega
  have e1 := hel 0 (by omega)
  rw [List.getElem?_eq_getElem hk] at e1
  have e2 : (xs[0]).1 = .agg [.lit (.string []), .lit (.int .i64 0), .lit (.int .i64 0), .nil] := by
    have e3 : (regD (H := Unit))[0]? = some (.agg [.lit (.string []), .lit (.int .i64 0), .lit (.int .i64 0), .nil]) := rfl
    rw [hx1, List.getElem?_map, List.getElem?_eq_getElem hk] at e3
    simpa using e3
  obtain ⟨y0, y1, y2, y3, n, hy, _, t0, t1, t2, t3⟩ := Joins.trod_struct4 Tryd.underlying95 e1
  obtain ⟨n1, f1, rfl, _⟩ := DataW.trod_int Tryd.underlying3 t1
  have hy1 := congrArg Prod.fst hy
  rw [e2] at hy1
  simp only [DataW.agg.injEq, List.cons.injEq, DataW.lit.injEq, Lit.int.injEq, true_and, and_true] at hy1
  obtain ⟨_, g1, _⟩ := hy1
  have cell : ∀ j, W.cell? ⟨0, j, none⟩ = cs0[j]? := fun j => by simpa using World.var?_cell gReg hv0 j
  have h2 := one_of_take (by rw [← c1]; exact f1)
  rw [List.getElem?_take_of_lt (by decide), List.getElem?_drop, Array.getElem?_toList] at h2
  rw [cell]
  rw [← g1] at h2
  simpa using h2

end Go.Proofs.YtjbikenhdgbacaaDoor
