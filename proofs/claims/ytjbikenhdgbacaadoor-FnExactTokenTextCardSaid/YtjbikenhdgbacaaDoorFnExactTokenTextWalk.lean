/- The walk of 'FnExactTokenText': the law returns true at every argument, where the tables read as their texts lay them. -/
import Derived.Test.YtjbikenhdgbacaaDoorTokG
import Derived.Test.YtjbikenhdgbacaaDoorTokI
import Derived.Test.YtjbikenhdgbacaaDoorTokLaid
namespace Go.Proofs.YtjbikenhdgbacaaDoor.fnExactTokenText
open Go.RowKit

set_option maxHeartbeats 1000000 in
theorem walk (k a b c p n : Int) (w : World) (_hw : ∀ z ∈ [k, a, b, c, p, n], (Lit.int .i64 z).wf = true) (ht : TabTok w) : Calls Tryd.prog 5 #[.agg #[.int .i64 k, .int .i64 a, .int .i64 b, .int .i64 c, .int .i64 p, .int .i64 n]] w fun e w' => e = .returned (.bool true) ∧ Below w.heap.size w w' := by
  have HT := Lib.hid ht
  clear ht
  have B0 := below_one w (.cells #[.int .i64 k, .int .i64 a, .int .i64 b, .int .i64 c, .int .i64 p, .int .i64 n] 49)
  have hblk := heap_alloc_new w (.cells #[.int .i64 k, .int .i64 a, .int .i64 b, .int .i64 c, .int .i64 p, .int .i64 n] 49)
  have HC : Hid (∀ w', Below (w.heap.size + 1) (w.alloc (.cells #[.int .i64 k, .int .i64 a, .int .i64 b, .int .i64 c, .int .i64 p, .int .i64 n] 49)) w' → w'.cell? ⟨w.heap.size, 0, none⟩ = some (.int .i64 k) ∧ w'.cell? ⟨w.heap.size, 1, none⟩ = some (.int .i64 a) ∧ w'.cell? ⟨w.heap.size, 2, none⟩ = some (.int .i64 b) ∧ w'.cell? ⟨w.heap.size, 3, none⟩ = some (.int .i64 c) ∧ w'.cell? ⟨w.heap.size, 4, none⟩ = some (.int .i64 p) ∧ w'.cell? ⟨w.heap.size, 5, none⟩ = some (.int .i64 n)) := Lib.hid (fun w' hb => by
    have h2 := (hb.block w.heap.size (by omega)).trans hblk
    refine ⟨?_, ?_, ?_, ?_, ?_, ?_⟩ <;> (rw [cell_of_row _ _ _ _ _ _ h2]; rfl))
  have hs0 : (w.alloc (.cells #[.int .i64 k, .int .i64 a, .int .i64 b, .int .i64 c, .int .i64 p, .int .i64 n] 49)).heap.size = w.heap.size + 1 := by simp
  clear hblk
  go_enter Tryd.func5, Tryd.ntmps5
  go_wp2_with fail
  refine (laws_toToken ⟨k, a, b, c, p, n⟩ _).mono ?_
  generalize w.alloc (.cells #[.int .i64 k, .int .i64 a, .int .i64 b, .int .i64 c, .int .i64 p, .int .i64 n] 49) = w0 at *
  rintro e w1 ⟨rfl, b1⟩
  rw [hs0] at b1
  have B1 : Below w.heap.size w w1 := B0.trans (b1.mono (by omega))
  have hs1 : w.heap.size + 1 ≤ w1.heap.size := by have := b1.size; omega
  go_wp2_with fail
  refine (spec_TokenText ⟨k, a, b, c, p, n⟩ w1).mono ?_
  rintro e w2 ⟨rfl, b2⟩
  have c2 : Below (w.heap.size + 1) w0 w2 := b1.trans (b2.mono hs1)
  have B2 : Below w.heap.size w w2 := B0.trans (c2.mono (by omega))
  have hs2 : w.heap.size + 1 ≤ w2.heap.size := by have := c2.size; omega
  clear b1 b2 B1
  unfold ttV
  have ⟨y0, y1, y2, y3, y4, y5⟩ := HC.out w2 c2
  go_wp2_with fail
  refine (laws_toToken ⟨k, a, b, c, p, n⟩ w2).mono ?_
  rintro e w3 ⟨rfl, b3⟩
  have B3 : Below w.heap.size w w3 := B2.trans (b3.mono B2.size)
  clear y0 y1 y2 y3 y4 y5 b3
  go_wp2_with fail
  refine (impl_TokenText ⟨k, a, b, c, p, n⟩ w3 (HT.out.keep B3)).mono ?_
  rintro e w4 ⟨rfl, b4⟩
  have B4 : Below w.heap.size w w4 := B3.trans (b4.mono B3.size)
  unfold ttV
  go_wp2
  go_ret
  exact ⟨rfl, B4⟩

theorem table {W : World} (h : laidMetH Tryd.prog Rows.fnExactTokenTextRow.laid W) : TabTok W := toks_of_laid h
theorem readable : ∀ n ∈ Rows.fnExactTokenTextSpec.vars, ∀ g t, Tryd.prog.globalNamed n = some g → (Tryd.prog.globals[g]?).map (·.type) = some t → Tryd.prog.readableRec t = true ∧ t < Tryd.prog.types.size := toks_readable

end Go.Proofs.YtjbikenhdgbacaaDoor.fnExactTokenText
