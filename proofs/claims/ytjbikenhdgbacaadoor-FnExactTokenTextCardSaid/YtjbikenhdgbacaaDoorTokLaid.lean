/- What the row's list of package-level variables gives: the table of the kinds' words and the library's table of powers of ten. -/
import Derived.Test.YtjbikenhdgbacaaDoorTokTab
namespace Go.Proofs.YtjbikenhdgbacaaDoor
open Go.ChangeShapes Go.WideShapes Go.ChangeAt Go.RowKit

theorem tTokW : (Tryd.prog.globals[1]?).map (·.type) = some 100 := by kernel_rfl
theorem tPow : (Tryd.prog.globals[2]?).map (·.type) = some 161 := by kernel_rfl
theorem laid_tokW {H : Type} : (Rows.laid_loop_example_g00748_impl_tokenWords : DataW H) = .agg ((tkWords.map fun b => b.data.toList).map fun s => .lit (.string s)) := rfl
theorem laid_pow : (Rows.laid_internal_strconv_uint64pow10 : DataW Unit) = Lib.tabData .u64 Lib.pow10Tab := by kernel_rfl

theorem toks_of_laid {W : World} (h : laidMetH Tryd.prog Rows.fnExactTokenTextRow.laid W) : TabTok W := by
  have h' : laidMetH Tryd.prog [("math/bits.deBruijn32tab", Rows.laid_math_bits_deBruijn32tab), ("math/bits.deBruijn64tab", Rows.laid_math_bits_deBruijn64tab), ("internal/strconv.uint64pow10", Rows.laid_internal_strconv_uint64pow10), ("loop.example/g00748/impl.tokenWords", Rows.laid_loop_example_g00748_impl_tokenWords)] W := h
  clear h
  rw [MakeChecks.laidMetH_plain _ _ _ (by kernel_rfl)] at h'
  obtain ⟨ps, ⟨_, _, _, _, _, _, _, _, _, _, ⟨_, _, _, _, _, _, _, _, _, _, ⟨g2, t2, cs2, f2, p2, q2, hg2, ht2, hv2, hd2, ⟨g3, t3, cs3, f3, p3, q3, hg3, ht3, hv3, hd3, _, _⟩, _⟩, _⟩, _⟩, _, _⟩ := h'
  obtain rfl := Option.some.inj (gPow.symm.trans hg2)
  obtain rfl := Option.some.inj (tPow.symm.trans ht2)
  obtain rfl := Option.some.inj (gTokW.symm.trans hg3)
  obtain rfl := Option.some.inj (tTokW.symm.trans ht3)
  refine ⟨?_, ?_⟩
  · rw [laid_tokW] at hd3
    have h1 := strTab Tryd.underlying100 Tryd.underlying9 (by kernel_rfl) _ hd3
    have hlen : cs3.size = 10 := by
      obtain ⟨_, _, _, _, hl, _⟩ := DataW.trod_array Tryd.underlying100 hd3
      have c10 : Tryd.prog.cellsOf 100 = 10 := by kernel_rfl
      rw [c10] at hl
      simpa using hl
    have hcs : cs3 = (tkWords.map Value.string).toArray := by
      apply Array.ext_getElem?
      intro k
      by_cases hk : k < 10
      · have h2 := h1 k hk
        rw [Array.getElem?_toList] at h2
        rw [h2]
        have hl : tkWords.length = 10 := rfl
        simp [List.getD, List.getElem?_eq_getElem (show k < tkWords.length by omega)]
      · rw [Array.getElem?_eq_none (by omega), Array.getElem?_eq_none (by show 10 ≤ k; omega)]
    rw [hv3, hcs]
  · rw [laid_pow] at hd2
    unfold Lib.TabIs
    rw [hv2, ← Lib.cells_of_tab Tryd.underlying161 Tryd.underlying153 (by kernel_rfl) (by kernel_rfl) hd2]

theorem toks_readable : ∀ n ∈ ["loop.example/g00748/impl.tokenWords"], ∀ g t, Tryd.prog.globalNamed n = some g → (Tryd.prog.globals[g]?).map (·.type) = some t → Tryd.prog.readableRec t = true ∧ t < Tryd.prog.types.size := by
  intro n hn g t hg ht
  obtain rfl : n = _ := List.mem_singleton.1 hn
  obtain rfl := Option.some.inj (gTokW.symm.trans hg)
  obtain rfl := Option.some.inj (tTokW.symm.trans ht)
  exact ⟨by kernel_rfl, of_decide_eq_true (by kernel_rfl)⟩

end Go.Proofs.YtjbikenhdgbacaaDoor
