/- A token's text, where it bears numbers. -/
import Derived.Test.YtjbikenhdgbacaaDoorTokE
namespace Go.Proofs.YtjbikenhdgbacaaDoor
open Go.RowKit

/-- A word and a number. -/
theorem one_cats (T A : ByteArray) (hT : T.size ≤ 20) (hA : A.size ≤ 21) :
    (∀ w, (Op.stringOp .add ⟨#[32]⟩ A).run Tryd.prog w = .ok (.string (⟨#[32]⟩ ++ A)) w) ∧ (∀ w, (Op.stringOp .add T (⟨#[32]⟩ ++ A)).run Tryd.prog w = .ok (.string (T ++ (⟨#[32]⟩ ++ A))) w) ∧ (T ++ (⟨#[32]⟩ ++ A)).size ≤ 200 := by
  have s1 : (⟨#[32]⟩ : ByteArray).size = 1 := rfl
  refine ⟨fun w => cat_run _ _ ?_ w, fun w => cat_run _ _ ?_ w, ?_⟩
  all_goals simp only [ByteArray.size_append, s1]
  all_goals omega
/-- A word and three numbers. -/
theorem three_cats (T A B C : ByteArray) (hT : T.size ≤ 20) (hA : A.size ≤ 21) (hB : B.size ≤ 21) (hC : C.size ≤ 21) :
    (∀ w, (Op.stringOp .add ⟨#[32]⟩ A).run Tryd.prog w = .ok (.string (⟨#[32]⟩ ++ A)) w) ∧ (∀ w, (Op.stringOp .add (⟨#[32]⟩ ++ A) ⟨#[32]⟩).run Tryd.prog w = .ok (.string (⟨#[32]⟩ ++ A ++ ⟨#[32]⟩)) w) ∧
    (∀ w, (Op.stringOp .add (⟨#[32]⟩ ++ A ++ ⟨#[32]⟩) B).run Tryd.prog w = .ok (.string (⟨#[32]⟩ ++ A ++ ⟨#[32]⟩ ++ B)) w) ∧ (∀ w, (Op.stringOp .add (⟨#[32]⟩ ++ A ++ ⟨#[32]⟩ ++ B) ⟨#[32]⟩).run Tryd.prog w = .ok (.string (⟨#[32]⟩ ++ A ++ ⟨#[32]⟩ ++ B ++ ⟨#[32]⟩)) w) ∧
    (∀ w, (Op.stringOp .add (⟨#[32]⟩ ++ A ++ ⟨#[32]⟩ ++ B ++ ⟨#[32]⟩) C).run Tryd.prog w = .ok (.string (⟨#[32]⟩ ++ A ++ ⟨#[32]⟩ ++ B ++ ⟨#[32]⟩ ++ C)) w) ∧
    (∀ w, (Op.stringOp .add T (⟨#[32]⟩ ++ A ++ ⟨#[32]⟩ ++ B ++ ⟨#[32]⟩ ++ C)).run Tryd.prog w = .ok (.string (T ++ (⟨#[32]⟩ ++ A ++ ⟨#[32]⟩ ++ B ++ ⟨#[32]⟩ ++ C))) w) ∧ (T ++ (⟨#[32]⟩ ++ A ++ ⟨#[32]⟩ ++ B ++ ⟨#[32]⟩ ++ C)).size ≤ 200 := by
  have s1 : (⟨#[32]⟩ : ByteArray).size = 1 := rfl
  refine ⟨fun w => cat_run _ _ ?_ w, fun w => cat_run _ _ ?_ w, fun w => cat_run _ _ ?_ w, fun w => cat_run _ _ ?_ w, fun w => cat_run _ _ ?_ w, fun w => cat_run _ _ ?_ w, ?_⟩
  all_goals simp only [ByteArray.size_append, s1]
  all_goals omega

set_option maxHeartbeats 4000000 in
set_option maxRecDepth 100000 in
theorem spec_Text1 (a b c p n : Int) (w : World) (ha : 0 ≤ a ∧ a ≤ 65536) (hp : 0 ≤ p ∧ p ≤ 65536) (hn : 0 ≤ n ∧ n ≤ 65536) :
    Calls Tryd.prog 75 #[tokV ⟨1, a, b, c, p, n⟩] w fun e w' => e = .returned (.string (tokTx ⟨1, a, b, c, p, n⟩)) ∧ Below w.heap.size w w' := by
  have z0 := digV_size a (by omega) (by omega)
  have z1 := digV_size p (by omega) (by omega)
  have z2 := digV_size n (by omega) (by omega)
  have HE : Hid (tokTx ⟨1, a, b, c, p, n⟩ = ⟨#[99, 111, 110, 116, 114, 111, 108]⟩ ++ (⟨#[32]⟩ ++ digV a) ++ ⟨#[32, 97, 116, 32]⟩ ++ digV p ++ ⟨#[32, 108, 111, 110, 103, 32]⟩ ++ digV n) := Lib.hid (by simp [tokTx, headTx, kindW])
  have a0 : -9223372036854775808 ≤ a := by omega
  have a1 : a ≤ 9223372036854775807 := by omega
  have p0 : -9223372036854775808 ≤ p := by omega
  have p1 : p ≤ 9223372036854775807 := by omega
  have n0 : -9223372036854775808 ≤ n := by omega
  have n1 : n ≤ 9223372036854775807 := by omega
  have hS := box_cells w 1 a b c p n
  have ⟨x1, x2, x3, x4, x5⟩ := hS
  have B0 := below_two w (.cells #[.int .i64 1, .int .i64 a, .int .i64 b, .int .i64 c, .int .i64 p, .int .i64 n] 38) (.cells #[.string ⟨#[99, 111, 110, 116, 114, 111, 108]⟩, .string ⟨#[115, 112, 97, 99, 101]⟩, .string ⟨#[108, 101, 102, 116]⟩, .string ⟨#[114, 105, 103, 104, 116]⟩, .string ⟨#[115, 104, 105, 102, 116]⟩, .string ⟨#[115, 105, 110, 103, 108, 101]⟩, .string ⟨#[110, 97, 109, 101]⟩, .string ⟨#[116, 97, 105, 108]⟩, .string ⟨#[111, 116, 104, 101, 114]⟩] 9)
  have ⟨g1, g2, hT⟩ := one_cats ⟨#[99, 111, 110, 116, 114, 111, 108]⟩ (digV a) (by decide) z0
  unfold tokV
  clear ha hp hn
  go_enter Tryd.func75, Tryd.ntmps75
  go_wp2_with fail
  clear x1 x2 x3 x4 x5
  refine (dig_box w.heap.size a b c p n a _ hS a0 a1).mono ?_
  generalize ((w.alloc (.cells #[.int .i64 1, .int .i64 a, .int .i64 b, .int .i64 c, .int .i64 p, .int .i64 n] 38)).alloc (.cells #[.string ⟨#[99, 111, 110, 116, 114, 111, 108]⟩, .string ⟨#[115, 112, 97, 99, 101]⟩, .string ⟨#[108, 101, 102, 116]⟩, .string ⟨#[114, 105, 103, 104, 116]⟩, .string ⟨#[115, 104, 105, 102, 116]⟩, .string ⟨#[115, 105, 110, 103, 108, 101]⟩, .string ⟨#[110, 97, 109, 101]⟩, .string ⟨#[116, 97, 105, 108]⟩, .string ⟨#[111, 116, 104, 101, 114]⟩] 9)) = W1 at *
  rintro e W2 ⟨rfl, b2, x1, x2, x3, x4, x5⟩
  have B : Below w.heap.size w W2 := B0.trans (b2.mono B0.size)
  clear hS B0 b2
  go_wp2_with fail
  clear g1 g2
  generalize ⟨#[99, 111, 110, 116, 114, 111, 108]⟩ ++ (⟨#[32]⟩ ++ digV a) = T at *
  have ⟨f1, f2, f3, f4⟩ := tail_cats T (digV p) (digV n) hT z1 z2
  go_region_held3 (fun wx => wx.cell? ⟨w.heap.size, 1, none⟩ = some (.int .i64 a) ∧ wx.cell? ⟨w.heap.size, 2, none⟩ = some (.int .i64 b) ∧ wx.cell? ⟨w.heap.size, 3, none⟩ = some (.int .i64 c) ∧ wx.cell? ⟨w.heap.size, 4, none⟩ = some (.int .i64 p) ∧ wx.cell? ⟨w.heap.size, 5, none⟩ = some (.int .i64 n)) (first | exact hS' | exact ⟨x1, x2, x3, x4, x5⟩) ((go_at_call 115; refine Calls.mono (dig_box w.heap.size a b c p n _ _ ?_ ?_ ?_) ?_; (iterate 3 assumption); rintro e w' ⟨rfl, hb', hS'⟩))
  clear f1 f2 f3 f4
  go_wp2_with fail
  go_ret
  exact ⟨ret_str HE.out.symm, text_below B (by assumption) (by assumption)⟩

set_option maxHeartbeats 4000000 in
set_option maxRecDepth 100000 in
theorem spec_Text3 (a b c p n : Int) (w : World) (ha : 0 ≤ a ∧ a ≤ 65536) (hp : 0 ≤ p ∧ p ≤ 65536) (hn : 0 ≤ n ∧ n ≤ 65536) :
    Calls Tryd.prog 75 #[tokV ⟨3, a, b, c, p, n⟩] w fun e w' => e = .returned (.string (tokTx ⟨3, a, b, c, p, n⟩)) ∧ Below w.heap.size w w' := by
  have z0 := digV_size a (by omega) (by omega)
  have z1 := digV_size p (by omega) (by omega)
  have z2 := digV_size n (by omega) (by omega)
  have HE : Hid (tokTx ⟨3, a, b, c, p, n⟩ = ⟨#[108, 101, 102, 116]⟩ ++ (⟨#[32]⟩ ++ digV a) ++ ⟨#[32, 97, 116, 32]⟩ ++ digV p ++ ⟨#[32, 108, 111, 110, 103, 32]⟩ ++ digV n) := Lib.hid (by simp [tokTx, headTx, kindW])
  have a0 : -9223372036854775808 ≤ a := by omega
  have a1 : a ≤ 9223372036854775807 := by omega
  have p0 : -9223372036854775808 ≤ p := by omega
  have p1 : p ≤ 9223372036854775807 := by omega
  have n0 : -9223372036854775808 ≤ n := by omega
  have n1 : n ≤ 9223372036854775807 := by omega
  have hS := box_cells w 3 a b c p n
  have ⟨x1, x2, x3, x4, x5⟩ := hS
  have B0 := below_two w (.cells #[.int .i64 3, .int .i64 a, .int .i64 b, .int .i64 c, .int .i64 p, .int .i64 n] 38) (.cells #[.string ⟨#[99, 111, 110, 116, 114, 111, 108]⟩, .string ⟨#[115, 112, 97, 99, 101]⟩, .string ⟨#[108, 101, 102, 116]⟩, .string ⟨#[114, 105, 103, 104, 116]⟩, .string ⟨#[115, 104, 105, 102, 116]⟩, .string ⟨#[115, 105, 110, 103, 108, 101]⟩, .string ⟨#[110, 97, 109, 101]⟩, .string ⟨#[116, 97, 105, 108]⟩, .string ⟨#[111, 116, 104, 101, 114]⟩] 9)
  have ⟨g1, g2, hT⟩ := one_cats ⟨#[108, 101, 102, 116]⟩ (digV a) (by decide) z0
  unfold tokV
  clear ha hp hn
  go_enter Tryd.func75, Tryd.ntmps75
  go_wp2_with fail
  clear x1 x2 x3 x4 x5
  refine (dig_box w.heap.size a b c p n a _ hS a0 a1).mono ?_
  generalize ((w.alloc (.cells #[.int .i64 3, .int .i64 a, .int .i64 b, .int .i64 c, .int .i64 p, .int .i64 n] 38)).alloc (.cells #[.string ⟨#[99, 111, 110, 116, 114, 111, 108]⟩, .string ⟨#[115, 112, 97, 99, 101]⟩, .string ⟨#[108, 101, 102, 116]⟩, .string ⟨#[114, 105, 103, 104, 116]⟩, .string ⟨#[115, 104, 105, 102, 116]⟩, .string ⟨#[115, 105, 110, 103, 108, 101]⟩, .string ⟨#[110, 97, 109, 101]⟩, .string ⟨#[116, 97, 105, 108]⟩, .string ⟨#[111, 116, 104, 101, 114]⟩] 9)) = W1 at *
  rintro e W2 ⟨rfl, b2, x1, x2, x3, x4, x5⟩
  have B : Below w.heap.size w W2 := B0.trans (b2.mono B0.size)
  clear hS B0 b2
  go_wp2_with fail
  clear g1 g2
  generalize ⟨#[108, 101, 102, 116]⟩ ++ (⟨#[32]⟩ ++ digV a) = T at *
  have ⟨f1, f2, f3, f4⟩ := tail_cats T (digV p) (digV n) hT z1 z2
  go_region_held3 (fun wx => wx.cell? ⟨w.heap.size, 1, none⟩ = some (.int .i64 a) ∧ wx.cell? ⟨w.heap.size, 2, none⟩ = some (.int .i64 b) ∧ wx.cell? ⟨w.heap.size, 3, none⟩ = some (.int .i64 c) ∧ wx.cell? ⟨w.heap.size, 4, none⟩ = some (.int .i64 p) ∧ wx.cell? ⟨w.heap.size, 5, none⟩ = some (.int .i64 n)) (first | exact hS' | exact ⟨x1, x2, x3, x4, x5⟩) ((go_at_call 115; refine Calls.mono (dig_box w.heap.size a b c p n _ _ ?_ ?_ ?_) ?_; (iterate 3 assumption); rintro e w' ⟨rfl, hb', hS'⟩))
  clear f1 f2 f3 f4
  go_wp2_with fail
  go_ret
  exact ⟨ret_str HE.out.symm, text_below B (by assumption) (by assumption)⟩

set_option maxHeartbeats 4000000 in
set_option maxRecDepth 100000 in
theorem spec_Text4 (a b c p n : Int) (w : World) (ha : 0 ≤ a ∧ a ≤ 65536) (hp : 0 ≤ p ∧ p ≤ 65536) (hn : 0 ≤ n ∧ n ≤ 65536) :
    Calls Tryd.prog 75 #[tokV ⟨4, a, b, c, p, n⟩] w fun e w' => e = .returned (.string (tokTx ⟨4, a, b, c, p, n⟩)) ∧ Below w.heap.size w w' := by
  have z0 := digV_size a (by omega) (by omega)
  have z1 := digV_size p (by omega) (by omega)
  have z2 := digV_size n (by omega) (by omega)
  have HE : Hid (tokTx ⟨4, a, b, c, p, n⟩ = ⟨#[114, 105, 103, 104, 116]⟩ ++ (⟨#[32]⟩ ++ digV a) ++ ⟨#[32, 97, 116, 32]⟩ ++ digV p ++ ⟨#[32, 108, 111, 110, 103, 32]⟩ ++ digV n) := Lib.hid (by simp [tokTx, headTx, kindW])
  have a0 : -9223372036854775808 ≤ a := by omega
  have a1 : a ≤ 9223372036854775807 := by omega
  have p0 : -9223372036854775808 ≤ p := by omega
  have p1 : p ≤ 9223372036854775807 := by omega
  have n0 : -9223372036854775808 ≤ n := by omega
  have n1 : n ≤ 9223372036854775807 := by omega
  have hS := box_cells w 4 a b c p n
  have ⟨x1, x2, x3, x4, x5⟩ := hS
  have B0 := below_two w (.cells #[.int .i64 4, .int .i64 a, .int .i64 b, .int .i64 c, .int .i64 p, .int .i64 n] 38) (.cells #[.string ⟨#[99, 111, 110, 116, 114, 111, 108]⟩, .string ⟨#[115, 112, 97, 99, 101]⟩, .string ⟨#[108, 101, 102, 116]⟩, .string ⟨#[114, 105, 103, 104, 116]⟩, .string ⟨#[115, 104, 105, 102, 116]⟩, .string ⟨#[115, 105, 110, 103, 108, 101]⟩, .string ⟨#[110, 97, 109, 101]⟩, .string ⟨#[116, 97, 105, 108]⟩, .string ⟨#[111, 116, 104, 101, 114]⟩] 9)
  have ⟨g1, g2, hT⟩ := one_cats ⟨#[114, 105, 103, 104, 116]⟩ (digV a) (by decide) z0
  unfold tokV
  clear ha hp hn
  go_enter Tryd.func75, Tryd.ntmps75
  go_wp2_with fail
  clear x1 x2 x3 x4 x5
  refine (dig_box w.heap.size a b c p n a _ hS a0 a1).mono ?_
  generalize ((w.alloc (.cells #[.int .i64 4, .int .i64 a, .int .i64 b, .int .i64 c, .int .i64 p, .int .i64 n] 38)).alloc (.cells #[.string ⟨#[99, 111, 110, 116, 114, 111, 108]⟩, .string ⟨#[115, 112, 97, 99, 101]⟩, .string ⟨#[108, 101, 102, 116]⟩, .string ⟨#[114, 105, 103, 104, 116]⟩, .string ⟨#[115, 104, 105, 102, 116]⟩, .string ⟨#[115, 105, 110, 103, 108, 101]⟩, .string ⟨#[110, 97, 109, 101]⟩, .string ⟨#[116, 97, 105, 108]⟩, .string ⟨#[111, 116, 104, 101, 114]⟩] 9)) = W1 at *
  rintro e W2 ⟨rfl, b2, x1, x2, x3, x4, x5⟩
  have B : Below w.heap.size w W2 := B0.trans (b2.mono B0.size)
  clear hS B0 b2
  go_wp2_with fail
  clear g1 g2
  generalize ⟨#[114, 105, 103, 104, 116]⟩ ++ (⟨#[32]⟩ ++ digV a) = T at *
  have ⟨f1, f2, f3, f4⟩ := tail_cats T (digV p) (digV n) hT z1 z2
  go_region_held3 (fun wx => wx.cell? ⟨w.heap.size, 1, none⟩ = some (.int .i64 a) ∧ wx.cell? ⟨w.heap.size, 2, none⟩ = some (.int .i64 b) ∧ wx.cell? ⟨w.heap.size, 3, none⟩ = some (.int .i64 c) ∧ wx.cell? ⟨w.heap.size, 4, none⟩ = some (.int .i64 p) ∧ wx.cell? ⟨w.heap.size, 5, none⟩ = some (.int .i64 n)) (first | exact hS' | exact ⟨x1, x2, x3, x4, x5⟩) ((go_at_call 115; refine Calls.mono (dig_box w.heap.size a b c p n _ _ ?_ ?_ ?_) ?_; (iterate 3 assumption); rintro e w' ⟨rfl, hb', hS'⟩))
  clear f1 f2 f3 f4
  go_wp2_with fail
  go_ret
  exact ⟨ret_str HE.out.symm, text_below B (by assumption) (by assumption)⟩

set_option maxHeartbeats 4000000 in
set_option maxRecDepth 100000 in
theorem spec_Text5 (a b c p n : Int) (w : World) (ha : 0 ≤ a ∧ a ≤ 65536) (hp : 0 ≤ p ∧ p ≤ 65536) (hn : 0 ≤ n ∧ n ≤ 65536) :
    Calls Tryd.prog 75 #[tokV ⟨5, a, b, c, p, n⟩] w fun e w' => e = .returned (.string (tokTx ⟨5, a, b, c, p, n⟩)) ∧ Below w.heap.size w w' := by
  have z0 := digV_size a (by omega) (by omega)
  have z1 := digV_size p (by omega) (by omega)
  have z2 := digV_size n (by omega) (by omega)
  have HE : Hid (tokTx ⟨5, a, b, c, p, n⟩ = ⟨#[115, 104, 105, 102, 116]⟩ ++ (⟨#[32]⟩ ++ digV a) ++ ⟨#[32, 97, 116, 32]⟩ ++ digV p ++ ⟨#[32, 108, 111, 110, 103, 32]⟩ ++ digV n) := Lib.hid (by simp [tokTx, headTx, kindW])
  have a0 : -9223372036854775808 ≤ a := by omega
  have a1 : a ≤ 9223372036854775807 := by omega
  have p0 : -9223372036854775808 ≤ p := by omega
  have p1 : p ≤ 9223372036854775807 := by omega
  have n0 : -9223372036854775808 ≤ n := by omega
  have n1 : n ≤ 9223372036854775807 := by omega
  have hS := box_cells w 5 a b c p n
  have ⟨x1, x2, x3, x4, x5⟩ := hS
  have B0 := below_two w (.cells #[.int .i64 5, .int .i64 a, .int .i64 b, .int .i64 c, .int .i64 p, .int .i64 n] 38) (.cells #[.string ⟨#[99, 111, 110, 116, 114, 111, 108]⟩, .string ⟨#[115, 112, 97, 99, 101]⟩, .string ⟨#[108, 101, 102, 116]⟩, .string ⟨#[114, 105, 103, 104, 116]⟩, .string ⟨#[115, 104, 105, 102, 116]⟩, .string ⟨#[115, 105, 110, 103, 108, 101]⟩, .string ⟨#[110, 97, 109, 101]⟩, .string ⟨#[116, 97, 105, 108]⟩, .string ⟨#[111, 116, 104, 101, 114]⟩] 9)
  have ⟨g1, g2, hT⟩ := one_cats ⟨#[115, 104, 105, 102, 116]⟩ (digV a) (by decide) z0
  unfold tokV
  clear ha hp hn
  go_enter Tryd.func75, Tryd.ntmps75
  go_wp2_with fail
  clear x1 x2 x3 x4 x5
  refine (dig_box w.heap.size a b c p n a _ hS a0 a1).mono ?_
  generalize ((w.alloc (.cells #[.int .i64 5, .int .i64 a, .int .i64 b, .int .i64 c, .int .i64 p, .int .i64 n] 38)).alloc (.cells #[.string ⟨#[99, 111, 110, 116, 114, 111, 108]⟩, .string ⟨#[115, 112, 97, 99, 101]⟩, .string ⟨#[108, 101, 102, 116]⟩, .string ⟨#[114, 105, 103, 104, 116]⟩, .string ⟨#[115, 104, 105, 102, 116]⟩, .string ⟨#[115, 105, 110, 103, 108, 101]⟩, .string ⟨#[110, 97, 109, 101]⟩, .string ⟨#[116, 97, 105, 108]⟩, .string ⟨#[111, 116, 104, 101, 114]⟩] 9)) = W1 at *
  rintro e W2 ⟨rfl, b2, x1, x2, x3, x4, x5⟩
  have B : Below w.heap.size w W2 := B0.trans (b2.mono B0.size)
  clear hS B0 b2
  go_wp2_with fail
  clear g1 g2
  generalize ⟨#[115, 104, 105, 102, 116]⟩ ++ (⟨#[32]⟩ ++ digV a) = T at *
  have ⟨f1, f2, f3, f4⟩ := tail_cats T (digV p) (digV n) hT z1 z2
  go_region_held3 (fun wx => wx.cell? ⟨w.heap.size, 1, none⟩ = some (.int .i64 a) ∧ wx.cell? ⟨w.heap.size, 2, none⟩ = some (.int .i64 b) ∧ wx.cell? ⟨w.heap.size, 3, none⟩ = some (.int .i64 c) ∧ wx.cell? ⟨w.heap.size, 4, none⟩ = some (.int .i64 p) ∧ wx.cell? ⟨w.heap.size, 5, none⟩ = some (.int .i64 n)) (first | exact hS' | exact ⟨x1, x2, x3, x4, x5⟩) ((go_at_call 115; refine Calls.mono (dig_box w.heap.size a b c p n _ _ ?_ ?_ ?_) ?_; (iterate 3 assumption); rintro e w' ⟨rfl, hb', hS'⟩))
  clear f1 f2 f3 f4
  go_wp2_with fail
  go_ret
  exact ⟨ret_str HE.out.symm, text_below B (by assumption) (by assumption)⟩

set_option maxHeartbeats 4000000 in
set_option maxRecDepth 100000 in
theorem spec_Text6 (a b c p n : Int) (w : World) (ha : 0 ≤ a ∧ a ≤ 65536) (hp : 0 ≤ p ∧ p ≤ 65536) (hn : 0 ≤ n ∧ n ≤ 65536) :
    Calls Tryd.prog 75 #[tokV ⟨6, a, b, c, p, n⟩] w fun e w' => e = .returned (.string (tokTx ⟨6, a, b, c, p, n⟩)) ∧ Below w.heap.size w w' := by
  have z0 := digV_size a (by omega) (by omega)
  have z1 := digV_size p (by omega) (by omega)
  have z2 := digV_size n (by omega) (by omega)
  have HE : Hid (tokTx ⟨6, a, b, c, p, n⟩ = ⟨#[115, 105, 110, 103, 108, 101]⟩ ++ (⟨#[32]⟩ ++ digV a) ++ ⟨#[32, 97, 116, 32]⟩ ++ digV p ++ ⟨#[32, 108, 111, 110, 103, 32]⟩ ++ digV n) := Lib.hid (by simp [tokTx, headTx, kindW])
  have a0 : -9223372036854775808 ≤ a := by omega
  have a1 : a ≤ 9223372036854775807 := by omega
  have p0 : -9223372036854775808 ≤ p := by omega
  have p1 : p ≤ 9223372036854775807 := by omega
  have n0 : -9223372036854775808 ≤ n := by omega
  have n1 : n ≤ 9223372036854775807 := by omega
  have hS := box_cells w 6 a b c p n
  have ⟨x1, x2, x3, x4, x5⟩ := hS
  have B0 := below_two w (.cells #[.int .i64 6, .int .i64 a, .int .i64 b, .int .i64 c, .int .i64 p, .int .i64 n] 38) (.cells #[.string ⟨#[99, 111, 110, 116, 114, 111, 108]⟩, .string ⟨#[115, 112, 97, 99, 101]⟩, .string ⟨#[108, 101, 102, 116]⟩, .string ⟨#[114, 105, 103, 104, 116]⟩, .string ⟨#[115, 104, 105, 102, 116]⟩, .string ⟨#[115, 105, 110, 103, 108, 101]⟩, .string ⟨#[110, 97, 109, 101]⟩, .string ⟨#[116, 97, 105, 108]⟩, .string ⟨#[111, 116, 104, 101, 114]⟩] 9)
  have ⟨g1, g2, hT⟩ := one_cats ⟨#[115, 105, 110, 103, 108, 101]⟩ (digV a) (by decide) z0
  unfold tokV
  clear ha hp hn
  go_enter Tryd.func75, Tryd.ntmps75
  go_wp2_with fail
  clear x1 x2 x3 x4 x5
  refine (dig_box w.heap.size a b c p n a _ hS a0 a1).mono ?_
  generalize ((w.alloc (.cells #[.int .i64 6, .int .i64 a, .int .i64 b, .int .i64 c, .int .i64 p, .int .i64 n] 38)).alloc (.cells #[.string ⟨#[99, 111, 110, 116, 114, 111, 108]⟩, .string ⟨#[115, 112, 97, 99, 101]⟩, .string ⟨#[108, 101, 102, 116]⟩, .string ⟨#[114, 105, 103, 104, 116]⟩, .string ⟨#[115, 104, 105, 102, 116]⟩, .string ⟨#[115, 105, 110, 103, 108, 101]⟩, .string ⟨#[110, 97, 109, 101]⟩, .string ⟨#[116, 97, 105, 108]⟩, .string ⟨#[111, 116, 104, 101, 114]⟩] 9)) = W1 at *
  rintro e W2 ⟨rfl, b2, x1, x2, x3, x4, x5⟩
  have B : Below w.heap.size w W2 := B0.trans (b2.mono B0.size)
  clear hS B0 b2
  go_wp2_with fail
  clear g1 g2
  generalize ⟨#[115, 105, 110, 103, 108, 101]⟩ ++ (⟨#[32]⟩ ++ digV a) = T at *
  have ⟨f1, f2, f3, f4⟩ := tail_cats T (digV p) (digV n) hT z1 z2
  go_region_held3 (fun wx => wx.cell? ⟨w.heap.size, 1, none⟩ = some (.int .i64 a) ∧ wx.cell? ⟨w.heap.size, 2, none⟩ = some (.int .i64 b) ∧ wx.cell? ⟨w.heap.size, 3, none⟩ = some (.int .i64 c) ∧ wx.cell? ⟨w.heap.size, 4, none⟩ = some (.int .i64 p) ∧ wx.cell? ⟨w.heap.size, 5, none⟩ = some (.int .i64 n)) (first | exact hS' | exact ⟨x1, x2, x3, x4, x5⟩) ((go_at_call 115; refine Calls.mono (dig_box w.heap.size a b c p n _ _ ?_ ?_ ?_) ?_; (iterate 3 assumption); rintro e w' ⟨rfl, hb', hS'⟩))
  clear f1 f2 f3 f4
  go_wp2_with fail
  go_ret
  exact ⟨ret_str HE.out.symm, text_below B (by assumption) (by assumption)⟩

set_option maxHeartbeats 4000000 in
set_option maxRecDepth 100000 in
theorem spec_Text7 (a b c p n : Int) (w : World) (ha : 0 ≤ a ∧ a ≤ 65536) (hb : 0 ≤ b ∧ b ≤ 65536) (hc : 0 ≤ c ∧ c ≤ 65536) (hp : 0 ≤ p ∧ p ≤ 65536) (hn : 0 ≤ n ∧ n ≤ 65536) :
    Calls Tryd.prog 75 #[tokV ⟨7, a, b, c, p, n⟩] w fun e w' => e = .returned (.string (tokTx ⟨7, a, b, c, p, n⟩)) ∧ Below w.heap.size w w' := by
  have z0 := digV_size a (by omega) (by omega)
  have z1 := digV_size p (by omega) (by omega)
  have z2 := digV_size n (by omega) (by omega)
  have z3 := digV_size b (by omega) (by omega)
  have z4 := digV_size c (by omega) (by omega)
  have HE : Hid (tokTx ⟨7, a, b, c, p, n⟩ = ⟨#[110, 97, 109, 101]⟩ ++ (⟨#[32]⟩ ++ digV a ++ ⟨#[32]⟩ ++ digV b ++ ⟨#[32]⟩ ++ digV c) ++ ⟨#[32, 97, 116, 32]⟩ ++ digV p ++ ⟨#[32, 108, 111, 110, 103, 32]⟩ ++ digV n) := Lib.hid (by simp [tokTx, headTx, kindW])
  have a0 : -9223372036854775808 ≤ a := by omega
  have a1 : a ≤ 9223372036854775807 := by omega
  have b0 : -9223372036854775808 ≤ b := by omega
  have b1 : b ≤ 9223372036854775807 := by omega
  have c0 : -9223372036854775808 ≤ c := by omega
  have c1 : c ≤ 9223372036854775807 := by omega
  have p0 : -9223372036854775808 ≤ p := by omega
  have p1 : p ≤ 9223372036854775807 := by omega
  have n0 : -9223372036854775808 ≤ n := by omega
  have n1 : n ≤ 9223372036854775807 := by omega
  have ⟨x1, x2, x3, x4, x5⟩ := box_cells w 7 a b c p n
  have B0 := below_two w (.cells #[.int .i64 7, .int .i64 a, .int .i64 b, .int .i64 c, .int .i64 p, .int .i64 n] 38) (.cells #[.string ⟨#[99, 111, 110, 116, 114, 111, 108]⟩, .string ⟨#[115, 112, 97, 99, 101]⟩, .string ⟨#[108, 101, 102, 116]⟩, .string ⟨#[114, 105, 103, 104, 116]⟩, .string ⟨#[115, 104, 105, 102, 116]⟩, .string ⟨#[115, 105, 110, 103, 108, 101]⟩, .string ⟨#[110, 97, 109, 101]⟩, .string ⟨#[116, 97, 105, 108]⟩, .string ⟨#[111, 116, 104, 101, 114]⟩] 9)
  have ⟨g1, g2, g3, g4, g5, g6, hT⟩ := three_cats ⟨#[110, 97, 109, 101]⟩ (digV a) (digV b) (digV c) (by decide) z0 z3 z4
  unfold tokV
  clear ha hb hc hp hn
  go_enter Tryd.func75, Tryd.ntmps75
  go_wp2_with fail
  generalize ((w.alloc (.cells #[.int .i64 7, .int .i64 a, .int .i64 b, .int .i64 c, .int .i64 p, .int .i64 n] 38)).alloc (.cells #[.string ⟨#[99, 111, 110, 116, 114, 111, 108]⟩, .string ⟨#[115, 112, 97, 99, 101]⟩, .string ⟨#[108, 101, 102, 116]⟩, .string ⟨#[114, 105, 103, 104, 116]⟩, .string ⟨#[115, 104, 105, 102, 116]⟩, .string ⟨#[115, 105, 110, 103, 108, 101]⟩, .string ⟨#[110, 97, 109, 101]⟩, .string ⟨#[116, 97, 105, 108]⟩, .string ⟨#[111, 116, 104, 101, 114]⟩] 9)) = W1 at *
  go_region_held3 (fun wx => wx.cell? ⟨w.heap.size, 1, none⟩ = some (.int .i64 a) ∧ wx.cell? ⟨w.heap.size, 2, none⟩ = some (.int .i64 b) ∧ wx.cell? ⟨w.heap.size, 3, none⟩ = some (.int .i64 c) ∧ wx.cell? ⟨w.heap.size, 4, none⟩ = some (.int .i64 p) ∧ wx.cell? ⟨w.heap.size, 5, none⟩ = some (.int .i64 n)) (first | exact hS' | exact ⟨x1, x2, x3, x4, x5⟩) ((go_at_call 115; refine Calls.mono (dig_box w.heap.size a b c p n _ _ ?_ ?_ ?_) ?_; (iterate 3 assumption); rintro e w' ⟨rfl, hb', hS'⟩))
  clear g1 g2 g3 g4 g5 g6 x1 x2 x3 x4 x5
  have BB : Below w.heap.size w w' := text_below3 B0 (by assumption) (by assumption) (by assumption)
  go_wp2_with fail
  clear B0
  obtain ⟨x1, x2, x3, x4, x5⟩ := hS'
  have B := BB
  clear BB
  generalize w' = W2 at *
  generalize ⟨#[110, 97, 109, 101]⟩ ++ (⟨#[32]⟩ ++ digV a ++ ⟨#[32]⟩ ++ digV b ++ ⟨#[32]⟩ ++ digV c) = T at *
  have ⟨f1, f2, f3, f4⟩ := tail_cats T (digV p) (digV n) hT z1 z2
  go_region_held3 (fun wx => wx.cell? ⟨w.heap.size, 1, none⟩ = some (.int .i64 a) ∧ wx.cell? ⟨w.heap.size, 2, none⟩ = some (.int .i64 b) ∧ wx.cell? ⟨w.heap.size, 3, none⟩ = some (.int .i64 c) ∧ wx.cell? ⟨w.heap.size, 4, none⟩ = some (.int .i64 p) ∧ wx.cell? ⟨w.heap.size, 5, none⟩ = some (.int .i64 n)) (first | exact hS' | exact ⟨x1, x2, x3, x4, x5⟩) ((go_at_call 115; refine Calls.mono (dig_box w.heap.size a b c p n _ _ ?_ ?_ ?_) ?_; (iterate 3 assumption); rintro e w' ⟨rfl, hb', hS'⟩))
  clear f1 f2 f3 f4
  go_wp2_with fail
  go_ret
  exact ⟨ret_str HE.out.symm, text_below B (by assumption) (by assumption)⟩

theorem tok_small {x : Tok} (h : tokOKB x = true) : (0 ≤ x.a ∧ x.a ≤ 65536) ∧ (0 ≤ x.b ∧ x.b ≤ 65536) ∧ (0 ≤ x.c ∧ x.c ≤ 65536) ∧ (0 ≤ x.p ∧ x.p ≤ 65536) ∧ (0 ≤ x.n ∧ x.n ≤ 65536) ∧ 1 ≤ x.k ∧ x.k ≤ 9 := by
  have := (tokOKB_iff x).1 h
  unfold tokOKP at this
  omega

theorem spec_l03Text (x : Tok) (w : World) (h : tokOKB x = true) : Calls Tryd.prog 75 #[tokV x] w fun e w' => e = .returned (.string (tokTx x)) ∧ Below w.heap.size w w' := by
  obtain ⟨ha, hb, hc, hp, hn, k1, k9⟩ := tok_small h
  obtain ⟨k, a, b, c, p, n⟩ := x
  dsimp only at ha hb hc hp hn k1 k9
  have : k = 1 ∨ k = 2 ∨ k = 3 ∨ k = 4 ∨ k = 5 ∨ k = 6 ∨ k = 7 ∨ k = 8 ∨ k = 9 := by omega
  rcases this with rfl | rfl | rfl | rfl | rfl | rfl | rfl | rfl | rfl
  · exact spec_Text1 a b c p n w ha hp hn
  · exact spec_Text2 a b c p n w hp hn
  · exact spec_Text3 a b c p n w ha hp hn
  · exact spec_Text4 a b c p n w ha hp hn
  · exact spec_Text5 a b c p n w ha hp hn
  · exact spec_Text6 a b c p n w ha hp hn
  · exact spec_Text7 a b c p n w ha hb hc hp hn
  · exact spec_Text8 a b c p n w hp hn
  · exact spec_Text9 a b c p n w hp hn

def ttC (x : Tok) : Int := if tokOKB x = true then 0 else 1
def ttT (x : Tok) : ByteArray := if tokOKB x = true then tokTx x else ⟨#[]⟩
def ttV (x : Tok) : Value := .tuple #[.string (ttT x), .int .i64 (ttC x)]

set_option maxHeartbeats 1000000 in
theorem spec_TokenText (x : Tok) (w : World) : Calls Tryd.prog 31 #[tokV x] w fun e w' => e = .returned (ttV x) ∧ Below w.heap.size w w' := by
  have B0 := below_one w (.cells #[.int .i64 x.k, .int .i64 x.a, .int .i64 x.b, .int .i64 x.c, .int .i64 x.p, .int .i64 x.n] 38)
  have hX := TokAt.new w x
  have OK := Lib.hid (spec_l03OK x)
  have TX := Lib.hid (fun h w => spec_l03Text x w h)
  unfold tokV at *
  cases hok : tokOKB x
  · have HE : Hid (ttV x = .tuple #[.string ⟨#[]⟩, .int .i64 1]) := Lib.hid (by simp [ttV, ttT, ttC, hok])
    go_enter Tryd.func31, Tryd.ntmps31
    go_wp2_with fail
    refine (OK.out _).mono ?_
    rintro e w2 ⟨rfl, b2⟩
    rw [hok]
    have B2 : Below w.heap.size w w2 := B0.trans (b2.mono B0.size)
    go_wp2
    go_ret2
    exact ⟨ret_val HE.out.symm, B2⟩
  · have HE : Hid (ttV x = .tuple #[.string (tokTx x), .int .i64 0]) := Lib.hid (by simp [ttV, ttT, ttC, hok])
    go_enter Tryd.func31, Tryd.ntmps31
    go_wp2_with fail
    refine (OK.out _).mono ?_
    rintro e w2 ⟨rfl, b2⟩
    rw [hok]
    have B2 : Below w.heap.size w w2 := B0.trans (b2.mono B0.size)
    have ⟨y0, y1, y2, y3, y4, y5⟩ := (hX.keep b2).cells
    go_wp2_with fail
    refine (TX.out hok _).mono ?_
    rintro e w3 ⟨rfl, b3⟩
    have B3 : Below w.heap.size w w3 := B2.trans (b3.mono B2.size)
    go_wp2
    go_ret2
    exact ⟨ret_val HE.out.symm, B3⟩

end Go.Proofs.YtjbikenhdgbacaaDoor
