/- What the row's list of package-level variables gives: the table of words. -/
import Derived.Test.YtdegpogjenfpaaaDoorWords
import Derived.Test.YtdegpogjenfpaaaDoorVars
namespace Go.Proofs.YtdegpogjenfpaaaDoor
open Go.ChangeShapes Go.WideShapes Go.ChangeAt Go.RowKit

theorem gWords : Tryd.prog.globalNamed "loop.example/g00748/impl.codeWords" = some 0 := by kernel_rfl
theorem tWords : (Tryd.prog.globals[0]?).map (·.type) = some 65 := by kernel_rfl
theorem laid_words {H : Type} : (Rows.laid_loop_example_g00748_impl_codeWords : DataW H) = .agg ((words.map fun b => b.data.toList).map fun s => .lit (.string s)) := rfl

theorem tab_of_laid {W : World} (h : laidMetH Tryd.prog [("loop.example/g00748/impl.codeWords", Rows.laid_loop_example_g00748_impl_codeWords)] W) : TabWords W := by
  rw [MakeChecks.laidMetH_plain _ _ _ (by kernel_rfl)] at h
  obtain ⟨ps, ⟨g0, t0, cs0, f0, p0, q0, hg0, ht0, hv0, hd0, _, _⟩, _, _⟩ := h
  obtain rfl := Option.some.inj (gWords.symm.trans hg0)
  obtain rfl := Option.some.inj (tWords.symm.trans ht0)
  rw [laid_words] at hd0
  have h1 := strTab Tryd.underlying65 Tryd.underlying9 (by kernel_rfl) _ hd0
  have hlen : cs0.size = 19 := by
    obtain ⟨_, _, _, _, hl, _⟩ := DataW.trod_array Tryd.underlying65 hd0
    have c19 : Tryd.prog.cellsOf 65 = 19 := by kernel_rfl
    rw [c19] at hl
    simpa using hl
  have hcs : cs0 = (words.map Value.string).toArray := by
    apply Array.ext_getElem?
    intro k
    by_cases hk : k < 19
    · have h2 := h1 k hk
      rw [Array.getElem?_toList] at h2
      rw [h2]
      have hl : words.length = 19 := rfl
      simp [List.getD, List.getElem?_eq_getElem (show k < words.length by omega)]
    · rw [Array.getElem?_eq_none (by omega), Array.getElem?_eq_none (by show 19 ≤ k; omega)]
  subst hcs
  unfold World.var? at hv0
  rw [hg0] at hv0
  simp only [Option.bind_some] at hv0
  split at hv0
  · next cs elem frozen hh =>
    cases hv0
    exact ⟨elem, frozen, hh⟩
  · cases hv0

theorem tab_readable : ∀ n ∈ ["loop.example/g00748/impl.codeWords"], ∀ g t, Tryd.prog.globalNamed n = some g → (Tryd.prog.globals[g]?).map (·.type) = some t → Tryd.prog.readableRec t = true ∧ t < Tryd.prog.types.size := by
  intro n hn g t hg ht
  obtain rfl : n = _ := List.mem_singleton.1 hn
  obtain rfl := Option.some.inj (gWords.symm.trans hg)
  obtain rfl := Option.some.inj (tWords.symm.trans ht)
  exact ⟨by kernel_rfl, of_decide_eq_true (by kernel_rfl)⟩

end Go.Proofs.YtdegpogjenfpaaaDoor
