/- The specification's escape sequences that designate. -/
import Derived.Test.YtdckjhobikfggaaDoorSetsB
import Derived.Test.YtdckjhobikfggaaDoorDraw
import Derived.Laws.DeepStrings4
namespace Go.Proofs.YtdckjhobikfggaaDoor
open Go.RowKit

def par94 : ByteArray := ⟨#[40, 41, 42, 43]⟩
def par96 : ByteArray := ⟨#[32, 45, 46, 47]⟩
/-- The sequence of a kind and a final byte at register g. -/
def escB (g : Nat) (kd fi : Int) : ByteArray :=
  if kd = 1 then bs [27] ++ par94.extract g (g + 1) ++ bs [fi] else if kd = 2 then bs [27] ++ par96.extract g (g + 1) ++ bs [fi]
  else if g = 0 ∧ fi ≤ 66 then bs [27] ++ ⟨#[36]⟩ ++ bs [fi] else bs [27] ++ ⟨#[36]⟩ ++ par94.extract g (g + 1) ++ bs [fi]
theorem setFinal_range (n : Int) : 65 ≤ setFinal n ∧ setFinal n ≤ 74 := by
  unfold setFinal
  repeat' split
  all_goals decide
theorem par94_ex (g : Nat) (h : g < 4) : (par94.extract g (g + 1)).size = 1 := by
  rw [ByteArray.size_extract]
  have : par94.size = 4 := rfl
  omega
theorem par96_ex (g : Nat) (h : g < 4) : (par96.extract g (g + 1)).size = 1 := by
  rw [ByteArray.size_extract]
  have : par96.size = 4 := rfl
  omega

theorem cat_esc (a b : ByteArray) (h : a.size + b.size ≤ 1048576) (w : World) : (Op.stringOp .add a b).run Tryd.prog w = .ok (.string (a ++ b)) w := by
  have h2 : ¬ (((a.size + b.size : Nat) : Int) > IntKind.i64.max) := by
    have : IntKind.i64.max = 9223372036854775807 := by decide
    omega
  simp only [Op.stringOp, if_neg h2]
  rfl
theorem slicePar (s : ByteArray) (hs : s.size = 4) (g : Nat) (hg : g < 4) (w : World) : (Instr.slice 9 (.string s) (some (.int .i64 (g : Int))) (some (.int .i64 ((g : Int) + 1))) none).run Tryd.prog w = .ok (.string (s.extract g (g + 1))) w := by
  have h : ((g : Int) + 1).toNat = g + 1 := by omega
  rw [run_slice_string_if w 9 s .i64 .i64 _ _ Tryd.underlying9, if_pos (by omega), if_pos (by omega), h, Int.toNat_natCast]
theorem slice94 (g : Nat) (hg : g < 4) (w : World) : (Instr.slice 9 (.string ⟨#[40, 41, 42, 43]⟩) (some (.int .i64 (g : Int))) (some (.int .i64 ((g : Int) + 1))) none).run Tryd.prog w = .ok (.string ((⟨#[40, 41, 42, 43]⟩ : ByteArray).extract g (g + 1))) w := slicePar _ rfl g hg w
theorem slice96 (g : Nat) (hg : g < 4) (w : World) : (Instr.slice 9 (.string ⟨#[32, 45, 46, 47]⟩) (some (.int .i64 (g : Int))) (some (.int .i64 ((g : Int) + 1))) none).run Tryd.prog w = .ok (.string ((⟨#[32, 45, 46, 47]⟩ : ByteArray).extract g (g + 1))) w := slicePar _ rfl g hg w
theorem cats3 (a b c : ByteArray) (ha : a.size ≤ 8) (hb : b.size ≤ 8) (hc : c.size ≤ 8) : (∀ w, (Op.stringOp .add a b).run Tryd.prog w = .ok (.string (a ++ b)) w) ∧ (∀ w, (Op.stringOp .add (a ++ b) c).run Tryd.prog w = .ok (.string (a ++ b ++ c)) w) := by
  refine ⟨fun w => cat_esc _ _ (by omega) w, fun w => cat_esc _ _ ?_ w⟩
  rw [ByteArray.size_append]
  omega
theorem conv_drew1 (w : World) (x : Int) : (convert 22 9 (.slice (some ⟨w.heap.size, 0, none⟩) 1 1)).run Tryd.prog (w.alloc (.cells #[.int .u8 x] 5)).drew = .ok (.string (bs [x])) (w.alloc (.cells #[.int .u8 x] 5)).drew :=
  conv_cells _ ⟨w.heap.size, 0, none⟩ 1 [x] (fun j hj => by
    obtain rfl : j = 0 := by simpa using hj
    show (w.alloc (.cells #[.int .u8 x] 5)).cell? _ = _
    simp [Addr.add])
theorem setKind_in (n : Int) : setKind n = 1 ∨ setKind n = 2 ∨ setKind n = 3 := by
  unfold setKind
  repeat' split
  all_goals simp
theorem conv_at1 (w : World) (o : Obj) (x : Int) : (convert 22 9 (.slice (some ⟨w.heap.size + 1, 0, none⟩) 1 1)).run Tryd.prog ((w.alloc o).alloc (.cells #[.int .u8 x] 5)) = .ok (.string (bs [x])) ((w.alloc o).alloc (.cells #[.int .u8 x] 5)) := by
  have := conv_lit1 (w.alloc o) x
  rwa [show (w.alloc o).heap.size = w.heap.size + 1 by simp] at this

theorem conv_at2 (w : World) (o o' : Obj) (x : Int) : (convert 22 9 (.slice (some ⟨w.heap.size + 1 + 1, 0, none⟩) 1 1)).run Tryd.prog (((w.alloc o).alloc o').alloc (.cells #[.int .u8 x] 5)) = .ok (.string (bs [x])) (((w.alloc o).alloc o').alloc (.cells #[.int .u8 x] 5)) := by
  have := conv_lit1 ((w.alloc o).alloc o') x
  rwa [show ((w.alloc o).alloc o').heap.size = w.heap.size + 1 + 1 by simp] at this

/-- EscapeOf: the code and the sequence. -/
def eoC (g n : Int) : Int := if setB n = true then (if inB g 0 3 = true ∧ ¬ (g = 0 ∧ setKind n = 2) then 0 else 4) else 5
def eoT (g n : Int) : ByteArray := if eoC g n = 0 then escB g.toNat (setKind n) (setFinal n) else ⟨#[]⟩
def eoV (g n : Int) : Value := .tuple #[.string (eoT g n), .int .i64 (eoC g n)]
theorem eoV_bad (g n c : Int) (h : eoC g n = c) (h0 : c ≠ 0) : eoV g n = .tuple #[.string ⟨#[]⟩, .int .i64 c] := by simp [eoV, eoT, h, h0]
theorem eoV_ok (g n : Int) (h : eoC g n = 0) : eoV g n = .tuple #[.string (escB g.toNat (setKind n) (setFinal n)), .int .i64 0] := by simp [eoV, eoT, h]

end Go.Proofs.YtdckjhobikfggaaDoor
