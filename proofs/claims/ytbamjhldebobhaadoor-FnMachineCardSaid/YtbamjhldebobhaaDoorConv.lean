/- Small laws on bytes and strings that the walks of this seat use. No condition. -/
import Derived.Test.YtbamjhldebobhaaDoorRows
import Derived.WalkKit
import Derived.WalkLawsBesides
import Derived.WalkSpells
import Derived.Below
import Derived.Lib.Hide
import Derived.Laws.BytesArg
import Derived.Laws.IdiomStrings
namespace Go.Proofs.YtbamjhldebobhaaDoor
open Go.RowKit

/-- The bytes that a list of numbers stands for. -/
def bs (ns : List Int) : ByteArray := ⟨(ns.map fun n => UInt8.ofNat n.toNat).toArray⟩

theorem foldl_bs (ns : List Int) : ∀ s : ByteArray, ns.foldl (fun r n => r.push (UInt8.ofNat n.toNat)) s = ⟨s.data ++ (ns.map fun n => UInt8.ofNat n.toNat).toArray⟩ := by
  induction ns with
  | nil => intro s; simp
  | cons n ns ih =>
    intro s
    rw [List.foldl_cons, ih]
    simp [ByteArray.push]

/-- 'string(b)' where b's cells hold the numbers ns. -/
theorem conv_cells (w : World) (a : Addr) (cap : Nat) (ns : List Int) (hc : ∀ j, j < ns.length → w.cell? (a.add j) = some (.int .u8 (ns.getD j 0))) :
    (convert 22 9 (.slice (some a) ns.length cap)).run Tryd.prog w = .ok (.string (bs ns)) w := by
  rw [run_convert_bytes_string w 22 9 5 (some a) ns.length cap Tryd.underlying22 Tryd.underlying5 Tryd.underlying9]
  have hl := run_loadCells_list (P := Tryd.prog) w a (ns.map (Value.int .u8)) (fun j v hj => by
    have hj' : j < ns.length := by
      have := (List.getElem?_eq_some_iff.1 hj).1
      simpa using this
    rw [hc j hj']
    simp [List.getElem?_eq_getElem hj'] at hj
    rw [← hj]
    simp [List.getD, List.getElem?_eq_getElem hj'])
  simp only [List.length_map] at hl
  rw [run_bytesToString w a ns.length cap _ hl, foldl_bs]
  have he0 : ByteArray.empty.data = #[] := rfl
  rw [he0]
  simp [bs]

/-- 'string([]byte{x ..})': the literal's row has just been laid. -/
theorem conv_lit (w : World) (ns : List Int) :
    (convert 22 9 (.slice (some ⟨w.heap.size, 0, none⟩) ns.length ns.length)).run Tryd.prog (w.alloc (.cells (ns.map (Value.int .u8)).toArray 5)) = .ok (.string (bs ns)) (w.alloc (.cells (ns.map (Value.int .u8)).toArray 5)) := by
  apply conv_cells
  intro j hj
  have := World.cell?_alloc_mark w (ns.map (Value.int .u8)).toArray 5 (0, 0) j
  have ha : (⟨w.heap.size, 0, none⟩ : Addr).add j = ⟨w.heap.size, j, none⟩ := by
    unfold Addr.add
    split
    · next h => rw [h]
    · simp
  rw [ha, this]
  simp [List.getElem?_eq_getElem hj, List.getD]

theorem conv_lit1 (w : World) (x0 : Int) : (convert 22 9 (.slice (some ⟨w.heap.size, 0, none⟩) 1 1)).run Tryd.prog (w.alloc (.cells #[.int .u8 x0] 5)) = .ok (.string (bs [x0])) (w.alloc (.cells #[.int .u8 x0] 5)) := conv_lit w [x0]
theorem conv_lit2 (w : World) (x0 x1 : Int) : (convert 22 9 (.slice (some ⟨w.heap.size, 0, none⟩) 2 2)).run Tryd.prog (w.alloc (.cells #[.int .u8 x0, .int .u8 x1] 5)) = .ok (.string (bs [x0, x1])) (w.alloc (.cells #[.int .u8 x0, .int .u8 x1] 5)) := conv_lit w [x0, x1]
theorem conv_lit3 (w : World) (x0 x1 x2 : Int) : (convert 22 9 (.slice (some ⟨w.heap.size, 0, none⟩) 3 3)).run Tryd.prog (w.alloc (.cells #[.int .u8 x0, .int .u8 x1, .int .u8 x2] 5)) = .ok (.string (bs [x0, x1, x2])) (w.alloc (.cells #[.int .u8 x0, .int .u8 x1, .int .u8 x2] 5)) := conv_lit w [x0, x1, x2]
theorem conv_lit4 (w : World) (x0 x1 x2 x3 : Int) : (convert 22 9 (.slice (some ⟨w.heap.size, 0, none⟩) 4 4)).run Tryd.prog (w.alloc (.cells #[.int .u8 x0, .int .u8 x1, .int .u8 x2, .int .u8 x3] 5)) = .ok (.string (bs [x0, x1, x2, x3])) (w.alloc (.cells #[.int .u8 x0, .int .u8 x1, .int .u8 x2, .int .u8 x3] 5)) := conv_lit w [x0, x1, x2, x3]

end Go.Proofs.YtbamjhldebobhaaDoor
