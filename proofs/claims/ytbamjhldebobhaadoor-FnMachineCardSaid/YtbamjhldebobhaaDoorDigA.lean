/- The specification's digits of a number. -/
import Derived.Test.YtbamjhldebobhaaDoorInts
import Derived.IntWalk
import Derived.Lib.ItoaNum
import Derived.Lib.ItoaLen
import Derived.Deep.RegionWith
namespace Go.Proofs.YtbamjhldebobhaaDoor
open Go.RowKit

/-- The decimal text of a number. -/
def digV (n : Int) : ByteArray := ⟨(Lib.itoa n).toArray⟩
theorem digV_size (n : Int) (h0 : -9223372036854775808 ≤ n) (h1 : n ≤ 9223372036854775807) : (digV n).size ≤ 21 := by
  have := Lib.itoa_length_le n (by omega) (by omega)
  simpa [digV, ByteArray.size] using this
theorem digV_one (k : Nat) (h : k < 10) : digV k = bs [48 + (k : Int)] := by
  have h2 : ¬ ((k : Int) < 0) := by omega
  have h3 : (48 + (k : Int)).toNat = 48 + k := by omega
  simp [digV, Lib.itoa, h2, Lib.decDigits_one h, bs, h3]
theorem digV_more (k : Nat) (h : ¬ k < 10) : digV k = digV ((k / 10 : Nat) : Int) ++ bs [48 + ((k % 10 : Nat) : Int)] := by
  have h2 : ¬ ((k : Int) < 0) := by omega
  have h4 : ¬ (((k / 10 : Nat) : Int) < 0) := by omega
  have h3 : (48 + ((k % 10 : Nat) : Int)).toNat = 48 + k % 10 := by omega
  apply ByteArray.ext
  simp only [digV, Lib.itoa, h2, h4, if_false, Int.toNat_natCast, ByteArray.data_append, bs, List.map_cons, List.map_nil, h3]
  rw [Lib.decDigits, dif_neg h]
  simp
theorem digV_neg (n : Int) (h : n < 0) : digV n = ⟨#[45]⟩ ++ digV (-n) := by
  have h2 : ¬ (-n < 0) := by omega
  have h3 : n.natAbs = (-n).toNat := by omega
  apply ByteArray.ext
  have h4 : n ≤ 0 := by omega
  simp [digV, Lib.itoa, h, h3, h4]

theorem calls_keep0 {P : Program} {f : FuncId} {args : Array Value} {w : World} {v : Ending} (h : Calls P f args w fun e w' => e = v ∧ Below w.heap.size w w') :
    Calls P f args w fun e w' => e = v ∧ Below w.heap.size w w' ∧ ∀ g, g < w.heap.size → w'.cell? ⟨g, 0, none⟩ = w.cell? ⟨g, 0, none⟩ :=
  h.mono fun _ _ ⟨h1, h2⟩ => ⟨h1, h2, fun _ hg => h2.cell hg⟩
theorem bel_drew {w w' : World} (h : Below w.drew.heap.size w.drew w') : Below w.heap.size w w' := (Below.refl w.heap.size w).drew.trans h
theorem bel_alloc {w w' : World} {o : Obj} (h : Below (w.alloc o).drew.heap.size (w.alloc o).drew w') : Below w.heap.size w w' := ((Below.refl w.heap.size w).alloc (Nat.le_refl _) o).drew.trans (h.mono (by show w.heap.size ≤ (w.alloc o).heap.size; simp))
theorem conv_one (w : World) (g : Nat) (x : Int) (h : w.cell? ⟨g, 0, none⟩ = some (.int .u8 x)) : (convert 22 9 (.slice (some ⟨g, 0, none⟩) 1 1)).run Tryd.prog w = .ok (.string (bs [x])) w :=
  conv_cells w ⟨g, 0, none⟩ 1 [x] (fun j hj => by
    obtain rfl : j = 0 := by simpa using hj
    simpa [Addr.add] using h)

theorem conv_lit1d (w : World) (x : Int) : (convert 22 9 (.slice (some ⟨w.heap.size, 0, none⟩) 1 1)).run Tryd.prog (w.alloc (.cells #[.int .u8 x] 5)).drew = .ok (.string (bs [x])) (w.alloc (.cells #[.int .u8 x] 5)).drew :=
  conv_one _ _ x (show (w.alloc (.cells #[.int .u8 x] 5)).cell? ⟨w.heap.size, 0, none⟩ = _ by rw [World.cell?_alloc_mark w #[.int .u8 x] 5 (0, 0) 0]; rfl)

theorem digV_min : digV (-9223372036854775808) = ⟨#[45, 57, 50, 50, 51, 51, 55, 50, 48, 51, 54, 56, 53, 52, 55, 55, 53, 56, 48, 56]⟩ := by
  have e : digV (-9223372036854775808) = ⟨#[45]⟩ ++ digV ((9223372036854775808 : Nat) : Int) := digV_neg _ (by decide)
  rw [e]
  apply ByteArray.ext
  simp only [digV, Lib.itoa, ByteArray.data_append]
  simp [Lib.decDigits]

end Go.Proofs.YtbamjhldebobhaaDoor
