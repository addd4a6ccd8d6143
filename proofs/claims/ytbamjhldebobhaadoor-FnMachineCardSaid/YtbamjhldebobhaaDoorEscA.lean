/- The specification's escape sequences that designate. -/
import Derived.Test.YtbamjhldebobhaaDoorSetsB
import Derived.Test.YtbamjhldebobhaaDoorDraw
import Derived.Laws.DeepStrings4
namespace Go.Proofs.YtbamjhldebobhaaDoor
open Go.RowKit

def par94 : ByteArray := ⟨#[40, 41, 42, 43]⟩
def par96 : ByteArray := ⟨#[32, 45, 46, 47]⟩
/-- The sequence of a kind and a final byte at register g. -/
def escB (g : Nat) (kd fi : Int) : ByteArray :=
  if kd = 1 then bs [27] ++ par94.extract g (g + 1) ++ bs [fi] else if kd = 2 then bs [27] ++ par96.extract g (g + 1) ++ bs [fi]
  else if g = 0 ∧ fi ≤ 66 then bs [27] ++ ⟨#[36]⟩ ++ bs [fi] else bs [27] ++ ⟨#[36]⟩ ++ par94.extract g (g + 1) ++ bs [fi]
theorem setFinal_range (n : Int) : 65 ≤ setFinal n ∧ setFinal n ≤ 74 := by
  unfold setFinal
  repeat' split
  all_goals decide
theorem par94_ex (g : Nat) (h : g < 4) : (par94.extract g (g + 1)).size = 1 := by
  rw [ByteArray.size_extract]
  have : par94.size = 4 := rfl
  omega
theorem par96_ex (g : Nat) (h : g < 4) : (par96.extract g (g + 1)).size = 1 := by
  rw [ByteArray.size_extract]
  have : par96.size = 4 := rfl
  omega

theorem cat_esc (a b : ByteArray) (h : a.size + b.size ≤ 1048576) (w : World) : (Op.stringOp .add a b).run Tryd.prog w = .ok (.string (a ++ b)) w := by
  have h2 : ¬ (((a.size + b.size : Nat) : Int) > IntKind.i64.max) := by
    have : IntKind.i64.max = 9223372036854775807 := by decide
    omega
  simp only [Op.stringOp, if_neg h2]
  rfl
theorem slicePar (s : ByteArray) (hs : s.size = 4) (g : Nat) (hg : g < 4) (w : World) : (Instr.slice 9 (.string s) (some (.int .i64 (g : Int))) (some (.int .i64 ((g : Int) + 1))) none).run Tryd.prog w = .ok (.string (s.extract g (g + 1))) w := by
  have h : ((g : Int) + 1).toNat = g + 1 := by omega
  rw [run_slice_string_if w 9 s .i64 .i64 _ _ Tryd.underlying9, if_pos (by omega), if_pos (by omega), h, Int.toNat_natCast]
theorem slice94 (g : Nat) (hg : g < 4) (w : World) : (Instr.slice 9 (.string ⟨#[40, 41, 42, 43]⟩) (some (.int .i64 (g : Int))) (some (.int .i64 ((g : Int) + 1))) none).run Tryd.prog w = .ok (.string ((⟨#[40, 41, 42, 43]⟩ : ByteArray).extract g (g + 1))) w := slicePar _ rfl g hg w
theorem slice96 (g : Nat) (hg : g < 4) (w : World) : (Instr.slice 9 (.string ⟨#[32, 45, 46, 47]⟩) (some (.int .i64 (g : Int))) (some (.int .i64 ((g : Int) + 1))) none).run Tryd.prog w = .ok (.string ((⟨#[32, 45, 46, 47]⟩ : ByteArray).extract g (g + 1))) w := slicePar _ rfl g hg w
theorem cats3 (a b c : ByteArray) (ha : a.size ≤ 8) (hb : b.size ≤ 8) (hc : c.size ≤ 8) : (∀ w, (Op.stringOp .add a b).run Tryd.prog w = .ok (.string (a ++ b)) w) ∧ (∀ w, (Op.stringOp .add (a ++ b) c).run Tryd.prog w = .ok (.string (a ++ b ++ c)) w) := by
  refine ⟨fun w => cat_esc _ _ (by omega) w, fun w => cat_esc _ _ ?_ w⟩
  rw [ByteArray.size_append]
  omega
theorem conv_drew1 (w : World) (x : Int) : (convert 22 9 (.slice (some ⟨w.heap.size, 0, none⟩) 1 1)).run Tryd.prog (w.alloc (.cells #[.int .u8 x] 5)).drew = .ok (.string (bs [x])) (w.alloc (.cells #[.int .u8 x] 5)).drew :=
  conv_cells _ ⟨w.heap.size, 0, none⟩ 1 [x] (fun j hj => by
    obtain rfl : j = 0 := by simpa using hj
    show (w.alloc (.cells #[.int .u8 x] 5)).cell? _ = _
    simp [Addr.add])
theorem setKind_in (n : Int) : setKind n = 1 ∨ setKind n = 2 ∨ setKind n = 3 := by
  unfold setKind
  repeat' split
  all_goals simp
theorem conv_at1 (w : World) (o : Obj) (x : Int) : (convert 22 9 (.slice (some ⟨w.heap.size + 1, 0, none⟩) 1 1)).run Tryd.prog ((w.alloc o).alloc (.cells #[.int .u8 x] 5)) = .ok (.string (bs [x])) ((w.alloc o).alloc (.cells #[.int .u8 x] 5)) := by
  have := conv_lit1 (w.alloc o) x
  rwa [show (w.alloc o).heap.size = w.heap.size + 1 by simp] at this

theorem conv_at2 (w : World) (o o' : Obj) (x : Int) : (convert 22 9 (.slice (some ⟨w.heap.size + 1 + 1, 0, none⟩) 1 1)).run Tryd.prog (((w.alloc o).alloc o').alloc (.cells #[.int .u8 x] 5)) = .ok (.string (bs [x])) (((w.alloc o).alloc o').alloc (.cells #[.int .u8 x] 5)) := by
  have := conv_lit1 ((w.alloc o).alloc o') x
  rwa [show ((w.alloc o).alloc o').heap.size = w.heap.size + 1 + 1 by simp] at this

set_option maxHeartbeats 4000000 in
set_option maxRecDepth 100000 in
theorem spec_l03Names (g : Nat) (n : Int) (w : World) (hg : g < 4) : Calls Tryd.prog 67 #[.int .i64 (g : Int), .int .i64 n] w fun e w' => e = .returned (.string (escB g (setKind n) (setFinal n))) ∧ Below w.heap.size w w' := by
  have ⟨f0, f1⟩ := setFinal_range n
  have g0 : (0 : Int) ≤ (g : Int) := by omega
  have g1 : (g : Int) ≤ 4 := by omega
  have g2 : (g : Int) + 1 ≤ 4 := by omega
  have u2 : IntKind.i64.wrap ((g : Int) + 1) = (g : Int) + 1 := IntWalk.i64_in _ (by omega)
  have u1 : IntKind.u8.wrap (setFinal n) = setFinal n := by
    have : setFinal n = 65 ∨ setFinal n = 66 ∨ setFinal n = 67 ∨ setFinal n = 68 ∨ setFinal n = 69 ∨ setFinal n = 70 ∨ setFinal n = 71 ∨ setFinal n = 72 ∨ setFinal n = 73 ∨ setFinal n = 74 := by omega
    rcases this with h | h | h | h | h | h | h | h | h | h <;> rw [h] <;> rfl
  have cl := fun w' => conv_lit1 w' (27 : Int)
  have cf := fun w' => conv_lit1 w' (setFinal n)
  have cd := fun w' => conv_drew1 w' (setFinal n)
  go_enter Tryd.func67, Tryd.ntmps67
  go_wp2_with fail
  refine (spec_l02Set n w).mono ?_
  rintro e w1 ⟨yg, rfl, hyg, hblk, b1⟩
  clear hyg hblk
  unfold setV
  have hblk := heap_alloc_new w1 (.cells #[.string (setName n), .int .i64 (setKind n), .int .i64 (setFinal n), .slice (some ⟨yg, 0, none⟩) (setSpans n).length (setSpans n).length] 73)
  have cl1 := conv_at1 w1 (.cells #[.string (setName n), .int .i64 (setKind n), .int .i64 (setFinal n), .slice (some ⟨yg, 0, none⟩) (setSpans n).length (setSpans n).length] 73) 27
  have hV : ((w1.alloc (.cells #[.string (setName n), .int .i64 (setKind n), .int .i64 (setFinal n), .slice (some ⟨yg, 0, none⟩) (setSpans n).length (setSpans n).length] 73)).alloc (.cells #[.int .u8 27] 5)).heap[w1.heap.size]? = some (.cells #[.string (setName n), .int .i64 (setKind n), .int .i64 (setFinal n), .slice (some ⟨yg, 0, none⟩) (setSpans n).length (setSpans n).length] 73) := heap_alloc2_old _ _ _
  have x1 : ((w1.alloc (.cells #[.string (setName n), .int .i64 (setKind n), .int .i64 (setFinal n), .slice (some ⟨yg, 0, none⟩) (setSpans n).length (setSpans n).length] 73)).alloc (.cells #[.int .u8 27] 5)).cell? ⟨w1.heap.size, 1, none⟩ = some (.int .i64 (setKind n)) := by rw [cell_of_row _ _ _ _ _ _ hV]; rfl
  have x2 : ((w1.alloc (.cells #[.string (setName n), .int .i64 (setKind n), .int .i64 (setFinal n), .slice (some ⟨yg, 0, none⟩) (setSpans n).length (setSpans n).length] 73)).alloc (.cells #[.int .u8 27] 5)).cell? ⟨w1.heap.size, 2, none⟩ = some (.int .i64 (setFinal n)) := by rw [cell_of_row _ _ _ _ _ _ hV]; rfl
  have B : Below w.heap.size w ((w1.alloc (.cells #[.string (setName n), .int .i64 (setKind n), .int .i64 (setFinal n), .slice (some ⟨yg, 0, none⟩) (setSpans n).length (setSpans n).length] 73)).alloc (.cells #[.int .u8 27] 5)) := (b1.alloc b1.size _).alloc (by have := b1.size; simp; omega) _
  clear hV b1 hblk cl
  have hk := setKind_in n
  generalize hkd : setKind n = kd at *
  generalize hfi : setFinal n = fi at *
  have HKD := Lib.hid hkd
  have HFI := Lib.hid hfi
  clear hkd hfi
  have zf : (bs [fi]).size = 1 := rfl
  have z27 : (bs [27]).size = 1 := rfl
  rcases hk with rfl | rfl | rfl
  · have z1 := par94_ex g hg
    have HE : Hid (escB g 1 fi = bs [27] ++ par94.extract g (g + 1) ++ bs [fi]) := Lib.hid (by simp [escB])
    unfold par94 at z1 HE
    have ⟨k1, k2⟩ := cats3 (bs [27]) ((⟨#[40, 41, 42, 43]⟩ : ByteArray).extract g (g + 1)) (bs [fi]) (by omega) (by omega) (by omega)
    have sl := slice94 g hg
    go_wp2
    generalize ((w1.alloc (.cells #[.string (setName n), .int .i64 1, .int .i64 fi, .slice (some ⟨yg, 0, none⟩) (setSpans n).length (setSpans n).length] 73)).alloc (.cells #[.int .u8 27] 5)) = W2 at *
    have BD : Below w.heap.size w W2.drew := B.drew
    clear B cl1
    go_region
    all_goals (go_wp2; go_ret; exact ⟨ret_str (by rw [HKD.out, HFI.out]; exact HE.out.symm), (BD.alloc BD.size _)⟩)
  · have z1 := par96_ex g hg
    have HE : Hid (escB g 2 fi = bs [27] ++ par96.extract g (g + 1) ++ bs [fi]) := Lib.hid (by simp [escB])
    unfold par96 at z1 HE
    have ⟨k1, k2⟩ := cats3 (bs [27]) ((⟨#[32, 45, 46, 47]⟩ : ByteArray).extract g (g + 1)) (bs [fi]) (by omega) (by omega) (by omega)
    have sl := slice96 g hg
    go_wp2
    generalize ((w1.alloc (.cells #[.string (setName n), .int .i64 2, .int .i64 fi, .slice (some ⟨yg, 0, none⟩) (setSpans n).length (setSpans n).length] 73)).alloc (.cells #[.int .u8 27] 5)) = W2 at *
    have BD : Below w.heap.size w W2.drew := B.drew
    clear B cl1
    go_region
    all_goals (go_wp2; go_ret; exact ⟨ret_str (by rw [HKD.out, HFI.out]; exact HE.out.symm), (BD.alloc BD.size _)⟩)
  · by_cases h66 : g = 0 ∧ fi ≤ 66
    · obtain ⟨rfl, h66⟩ := h66
      have HE : Hid (escB 0 3 fi = bs [27] ++ ⟨#[36]⟩ ++ bs [fi]) := Lib.hid (by simp [escB, h66])
      have ⟨k1, k2⟩ := cats3 (bs [27]) ⟨#[36]⟩ (bs [fi]) (by omega) (by decide) (by omega)
      have cl2 := conv_at2 w1 (.cells #[.string (setName n), .int .i64 3, .int .i64 fi, .slice (some ⟨yg, 0, none⟩) (setSpans n).length (setSpans n).length] 73) (.cells #[.int .u8 27] 5) fi
      go_wp2
      go_ret
      exact ⟨ret_str (by rw [HKD.out, HFI.out]; exact HE.out.symm), B.alloc B.size _⟩
    · have z1 := par94_ex g hg
      have HE : Hid (escB g 3 fi = bs [27] ++ ⟨#[36]⟩ ++ par94.extract g (g + 1) ++ bs [fi]) := Lib.hid (by simp [escB, h66])
      unfold par94 at z1 HE
      have z36 : (⟨#[36]⟩ : ByteArray).size = 1 := rfl
      have z37 : (bs [27] ++ ⟨#[36]⟩).size = 2 := by rw [ByteArray.size_append]; omega
      have ⟨k1, _⟩ := cats3 (bs [27]) ⟨#[36]⟩ (bs [fi]) (by omega) (by omega) (by omega)
      have ⟨k2, k3⟩ := cats3 (bs [27] ++ ⟨#[36]⟩) ((⟨#[40, 41, 42, 43]⟩ : ByteArray).extract g (g + 1)) (bs [fi]) (by omega) (by omega) (by omega)
      have sl := slice94 g hg
      have hd : ∃ b, ((g : Int) == 0) = b ∧ (b = true → 66 < fi) := ⟨_, rfl, fun h => by simp at h; omega⟩
      obtain ⟨b, hb1, hb2⟩ := hd
      clear h66 z36 z37
      have key : b = false ∨ (b = true ∧ 66 < fi) := by cases b; exact .inl rfl; exact .inr ⟨rfl, hb2 rfl⟩
      clear hb2
      rcases key with rfl | ⟨rfl, h66⟩
      all_goals
        go_wp2
        generalize ((w1.alloc (.cells #[.string (setName n), .int .i64 3, .int .i64 fi, .slice (some ⟨yg, 0, none⟩) (setSpans n).length (setSpans n).length] 73)).alloc (.cells #[.int .u8 27] 5)) = W2 at *
        have BD : Below w.heap.size w W2.drew := B.drew
        clear B cl1
        go_region
        all_goals (go_wp2; go_ret; exact ⟨ret_str (by rw [HKD.out, HFI.out]; exact HE.out.symm), (BD.alloc BD.size _)⟩)

/-- EscapeOf: the code and the sequence. -/
def eoC (g n : Int) : Int := if setB n = true then (if inB g 0 3 = true ∧ ¬ (g = 0 ∧ setKind n = 2) then 0 else 4) else 5
def eoT (g n : Int) : ByteArray := if eoC g n = 0 then escB g.toNat (setKind n) (setFinal n) else ⟨#[]⟩
def eoV (g n : Int) : Value := .tuple #[.string (eoT g n), .int .i64 (eoC g n)]
theorem eoV_bad (g n c : Int) (h : eoC g n = c) (h0 : c ≠ 0) : eoV g n = .tuple #[.string ⟨#[]⟩, .int .i64 c] := by simp [eoV, eoT, h, h0]
theorem eoV_ok (g n : Int) (h : eoC g n = 0) : eoV g n = .tuple #[.string (escB g.toNat (setKind n) (setFinal n)), .int .i64 0] := by simp [eoV, eoT, h]

set_option maxHeartbeats 1000000 in
theorem spec_EscapeOf (g n : Int) (w : World) : Calls Tryd.prog 38 #[.int .i64 g, .int .i64 n] w fun e w' => e = .returned (eoV g n) ∧ Below w.heap.size w w' := by
  cases hn : setB n
  · have HE := Lib.hid (eoV_bad g n 5 (by simp [eoC, hn]) (by decide))
    go_enter Tryd.func38, Tryd.ntmps38
    go_wp2_with fail
    refine (spec_l01In n 1 8 w).mono ?_
    rintro e w1 ⟨rfl, rfl⟩
    rw [show inB n 1 8 = false from hn]
    go_wp2
    go_ret2
    exact ⟨ret_val HE.out.symm, Below.refl _ _⟩
  cases hg : inB g 0 3
  · have HE := Lib.hid (eoV_bad g n 4 (by simp [eoC, hn, hg]) (by decide))
    go_enter Tryd.func38, Tryd.ntmps38
    go_wp2_with fail
    refine (spec_l01In n 1 8 w).mono ?_
    rintro e w1 ⟨rfl, rfl⟩
    rw [show inB n 1 8 = true from hn]
    go_wp2_with fail
    refine (spec_l01In g 0 3 w).mono ?_
    rintro e w1 ⟨rfl, rfl⟩
    rw [hg]
    go_wp2
    go_ret2
    exact ⟨ret_val HE.out.symm, Below.refl _ _⟩
  have ⟨q0, q3⟩ := inB_true hg
  obtain ⟨k, rfl⟩ := Int.eq_ofNat_of_zero_le q0
  have hk4 : k < 4 := by omega
  by_cases h0 : k = 0
  · subst h0
    by_cases h2 : setKind n = 2
    · have HE := Lib.hid (eoV_bad ((0 : Nat) : Int) n 4 (by simp [eoC, hn, h2]) (by decide))
      go_enter Tryd.func38, Tryd.ntmps38
      go_wp2_with fail
      refine (spec_l01In n 1 8 w).mono ?_
      rintro e w1 ⟨rfl, rfl⟩
      rw [show inB n 1 8 = true from hn]
      go_wp2_with fail
      refine (spec_l01In _ 0 3 w).mono ?_
      rintro e w1 ⟨rfl, rfl⟩
      rw [show inB 0 0 3 = true from hg]
      go_wp2_with fail
      refine (spec_l02Set n w).mono ?_
      rintro e w2 ⟨yg, rfl, hyg, hblk, b2⟩
      clear hyg hblk
      unfold setV
      have F1 := setField1
      rw [h2]
      go_wp2
      go_ret2
      exact ⟨ret_val HE.out.symm, b2⟩
    · have HE := Lib.hid (eoV_ok ((0 : Nat) : Int) n (by
        have := setKind_in n
        simp only [eoC, hn, hg, if_true]
        rw [if_pos ⟨trivial, fun h => h2 h.2⟩]))
      have z2 : (setKind n == 2) = false := by simpa using h2
      go_enter Tryd.func38, Tryd.ntmps38
      go_wp2_with fail
      refine (spec_l01In n 1 8 w).mono ?_
      rintro e w1 ⟨rfl, rfl⟩
      rw [show inB n 1 8 = true from hn]
      go_wp2_with fail
      refine (spec_l01In _ 0 3 w).mono ?_
      rintro e w1 ⟨rfl, rfl⟩
      rw [show inB 0 0 3 = true from hg]
      go_wp2_with fail
      refine (spec_l02Set n w).mono ?_
      rintro e w2 ⟨yg, rfl, hyg, hblk, b2⟩
      clear hyg hblk
      unfold setV
      have F1 := setField1
      go_wp2_with fail
      refine (spec_l03Names 0 n w2 (by decide)).mono ?_
      rintro e w3 ⟨rfl, b3⟩
      have B3 : Below w.heap.size w w3 := b2.trans (b3.mono b2.size)
      go_wp2
      go_ret2
      exact ⟨ret_val HE.out.symm, B3⟩
  · have HE := Lib.hid (eoV_ok (k : Int) n (by
      simp only [eoC, hn, hg, if_true]
      rw [if_pos ⟨trivial, fun h => h0 (by omega)⟩]))
    have z0 : ((k : Int) == 0) = false := by simp; omega
    rw [Int.toNat_natCast] at HE
    go_enter Tryd.func38, Tryd.ntmps38
    go_wp2_with fail
    refine (spec_l01In n 1 8 w).mono ?_
    rintro e w1 ⟨rfl, rfl⟩
    rw [show inB n 1 8 = true from hn]
    go_wp2_with fail
    refine (spec_l01In (k : Int) 0 3 w).mono ?_
    rintro e w1 ⟨rfl, rfl⟩
    rw [hg]
    go_wp2_with fail
    refine (spec_l03Names k n w hk4).mono ?_
    rintro e w3 ⟨rfl, b3⟩
    go_wp2
    go_ret2
    exact ⟨ret_val HE.out.symm, b3⟩

end Go.Proofs.YtbamjhldebobhaaDoor
