/- The program's table of the kinds' words and the library's table of powers of ten; strconv.Itoa over it. -/
import Derived.Test.YtjbikenhdgbacaaDoorTokF
import Derived.Test.YtjbikenhdgbacaaDoorItoaI
import Derived.Test.YtjbikenhdgbacaaDoorVars
import Derived.Lib.AppendIntMem
namespace Go.Proofs.YtjbikenhdgbacaaDoor
open Go.RowKit

def tkWords : List ByteArray := [⟨#[]⟩, kindW 1, kindW 2, kindW 3, kindW 4, kindW 5, kindW 6, kindW 7, kindW 8, kindW 9]
def TabTok (w : World) : Prop := w.var? Tryd.prog "loop.example/g00748/impl.tokenWords" = some (tkWords.map Value.string).toArray ∧ Lib.TabIs Tryd.prog w "internal/strconv.uint64pow10" .u64 Lib.pow10Tab
theorem gTokW : Tryd.prog.globalNamed "loop.example/g00748/impl.tokenWords" = some 1 := by kernel_rfl
theorem gPow : Tryd.prog.globalNamed "internal/strconv.uint64pow10" = some 2 := by kernel_rfl
theorem TabTok.keep {w w' : World} (h : TabTok w) (hb : Below w.heap.size w w') : TabTok w' := ⟨var?_below hb gTokW (var_lt gTokW h.1) h.1, var?_below hb gPow (var_lt gPow h.2) h.2⟩
theorem tkWords_at (k : Nat) (h0 : 1 ≤ k) (h9 : k ≤ 9) : (tkWords.map Value.string).toArray[k]? = some (.string (kindW (k : Int))) := by
  have : k = 1 ∨ k = 2 ∨ k = 3 ∨ k = 4 ∨ k = 5 ∨ k = 6 ∨ k = 7 ∨ k = 8 ∨ k = 9 := by omega
  rcases this with rfl | rfl | rfl | rfl | rfl | rfl | rfl | rfl | rfl <;> rfl
theorem TabTok.word {w : World} (h : TabTok w) (k : Nat) (h0 : 1 ≤ k) (h9 : k ≤ 9) : w.cell? ⟨1, k, none⟩ = some (.string (kindW (k : Int))) := by
  have := World.var?_cell gTokW h.1 k
  rw [this, tkWords_at k h0 h9]
theorem kindW_size (k : Int) : (kindW k).size ≤ 20 := by
  unfold kindW
  repeat' split
  all_goals decide

theorem impl_Itoa (m : Int) (w : World) (ht : TabTok w) (m0 : -9223372036854775808 ≤ m) (m1 : m ≤ 9223372036854775807) : Calls Tryd.prog 76 #[.int .i64 m] w fun e w' => e = .returned (.string (digV m)) ∧ Below w.heap.size w w' := by
  refine (Any.strconv_Itoa Tryd.laysItoa m m0 m1 w ht.2).mono ?_
  rintro e w' ⟨rfl, q, os, rfl⟩
  exact ⟨rfl, Lib.below_grow w.heap.size w (Nat.le_refl _) q os⟩

/-- The same, with a token's cells and the tables kept. -/
theorem itoa_box (g : Nat) (a b c p n : Int) (m : Int) (w : World) (hS : w.cell? ⟨g, 1, none⟩ = some (.int .i64 a) ∧ w.cell? ⟨g, 2, none⟩ = some (.int .i64 b) ∧ w.cell? ⟨g, 3, none⟩ = some (.int .i64 c) ∧ w.cell? ⟨g, 4, none⟩ = some (.int .i64 p) ∧ w.cell? ⟨g, 5, none⟩ = some (.int .i64 n) ∧ TabTok w)
    (m0 : -9223372036854775808 ≤ m) (m1 : m ≤ 9223372036854775807) :
    Calls Tryd.prog 76 #[.int .i64 m] w fun e w' => e = .returned (.string (digV m)) ∧ Below w.heap.size w w' ∧ w'.cell? ⟨g, 1, none⟩ = some (.int .i64 a) ∧ w'.cell? ⟨g, 2, none⟩ = some (.int .i64 b) ∧ w'.cell? ⟨g, 3, none⟩ = some (.int .i64 c) ∧ w'.cell? ⟨g, 4, none⟩ = some (.int .i64 p) ∧ w'.cell? ⟨g, 5, none⟩ = some (.int .i64 n) ∧ TabTok w' :=
  (impl_Itoa m w hS.2.2.2.2.2 m0 m1).mono fun _ _ ⟨he, hb⟩ =>
    have k : ∀ {q : Addr} {y : Value}, w.cell? q = some y → _ = some y := fun hq => (hb.cell (World.block_lt_of_cell? w _ hq)).trans hq
    ⟨he, hb, k hS.1, k hS.2.1, k hS.2.2.1, k hS.2.2.2.1, k hS.2.2.2.2.1, hS.2.2.2.2.2.keep hb⟩

end Go.Proofs.YtjbikenhdgbacaaDoor
