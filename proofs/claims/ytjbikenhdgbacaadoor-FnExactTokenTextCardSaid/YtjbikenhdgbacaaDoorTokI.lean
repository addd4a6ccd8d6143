/- The program's TokenText over its own table. -/
import Derived.Test.YtjbikenhdgbacaaDoorTokH
import Derived.Test.YtjbikenhdgbacaaDoorTokTab
namespace Go.Proofs.YtjbikenhdgbacaaDoor
open Go.RowKit

theorem kindW_head (k a b c p n : Int) (hk : k = 2 ∨ k = 8 ∨ k = 9) : tokTx ⟨k, a, b, c, p, n⟩ = kindW k ++ ⟨#[32, 97, 116, 32]⟩ ++ digV p ++ ⟨#[32, 108, 111, 110, 103, 32]⟩ ++ digV n := by
  rcases hk with rfl | rfl | rfl <;> rfl

set_option maxHeartbeats 4000000 in
set_option maxRecDepth 100000 in
theorem impl_Text0 (k : Nat) (a b c p n : Int) (w : World) (ht : TabTok w) (ho : tokOKB ⟨k, a, b, c, p, n⟩ = true) (hk : k = 2 ∨ k = 8 ∨ k = 9) (hp : 0 ≤ p ∧ p ≤ 65536) (hn : 0 ≤ n ∧ n ≤ 65536) :
    Calls Tryd.prog 33 #[tokV ⟨k, a, b, c, p, n⟩] w fun e w' => e = .returned (.tuple #[.string (tokTx ⟨k, a, b, c, p, n⟩), .int .i64 0]) ∧ Below w.heap.size w w' := by
  have z1 := digV_size p (by omega) (by omega)
  have z2 := digV_size n (by omega) (by omega)
  have HE := Lib.hid (kindW_head (k : Int) a b c p n (by omega))
  have p0 : -9223372036854775808 ≤ p := by omega
  have p1 : p ≤ 9223372036854775807 := by omega
  have n0 : -9223372036854775808 ≤ n := by omega
  have n1 : n ≤ 9223372036854775807 := by omega
  have u1 : (0 : Int) ≤ (k : Int) := by omega
  have u2 : (k : Int) < 10 := by omega
  have e7 : ((k : Int) == 7) = false := by rw [beq_eq_false_iff_ne]; omega
  have e1 : ((k : Int) == 1) = false := by rw [beq_eq_false_iff_ne]; omega
  have e3 : ((k : Int) == 3) = false := by rw [beq_eq_false_iff_ne]; omega
  have e4 : ((k : Int) == 4) = false := by rw [beq_eq_false_iff_ne]; omega
  have e5 : ((k : Int) == 5) = false := by rw [beq_eq_false_iff_ne]; omega
  have e6 : ((k : Int) == 6) = false := by rw [beq_eq_false_iff_ne]; omega
  have k1 : 1 ≤ k := by omega
  have k9 : k ≤ 9 := by omega
  have B0 := below_one w (.cells #[.int .i64 k, .int .i64 a, .int .i64 b, .int .i64 c, .int .i64 p, .int .i64 n] 38)
  have hX := TokAt.new w ⟨k, a, b, c, p, n⟩
  have HT := Lib.hid (ht.keep B0)
  have HO := Lib.hid (impl_tokenOK ⟨k, a, b, c, p, n⟩)
  rw [ho] at HO
  unfold tokV at HO ⊢
  clear hp hn ht hk
  go_enter Tryd.func33, Tryd.ntmps33
  go_wp2_with fail
  refine (HO.out _).mono ?_
  generalize w.alloc (.cells #[.int .i64 k, .int .i64 a, .int .i64 b, .int .i64 c, .int .i64 p, .int .i64 n] 38) = w0 at *
  rintro e W2 ⟨rfl, b2⟩
  have B : Below w.heap.size w W2 := B0.trans (b2.mono B0.size)
  have HT2 := HT.out.keep b2
  have tw := HT2.word k k1 k9
  have ⟨x0, x1, x2, x3, x4, x5⟩ := (hX.keep b2).cells
  dsimp only at x0 x1 x2 x3 x4 x5
  clear HT hX B0 b2
  have hT : (kindW (k : Int)).size ≤ 200 := by have := kindW_size (k : Int); omega
  generalize kindW (k : Int) = T at *
  go_wp2_with fail
  have ⟨f1, f2, f3, f4⟩ := tail_cats T (digV p) (digV n) hT z1 z2
  clear x0 tw
  go_region_held3 (fun wx => wx.cell? ⟨w.heap.size, 1, none⟩ = some (.int .i64 a) ∧ wx.cell? ⟨w.heap.size, 2, none⟩ = some (.int .i64 b) ∧ wx.cell? ⟨w.heap.size, 3, none⟩ = some (.int .i64 c) ∧ wx.cell? ⟨w.heap.size, 4, none⟩ = some (.int .i64 p) ∧ wx.cell? ⟨w.heap.size, 5, none⟩ = some (.int .i64 n) ∧ TabTok wx) (first | exact hS' | exact ⟨x1, x2, x3, x4, x5, HT2⟩) ((go_at_call 76; refine Calls.mono (itoa_box w.heap.size a b c p n _ _ ?_ ?_ ?_) ?_; (iterate 3 assumption); rintro e w' ⟨rfl, hb', hS'⟩))
  clear f1 f2 f3 f4
  go_wp2_with fail
  go_ret2
  exact ⟨ret_val (by rw [HE.out]; rfl), text_below B (by assumption) (by assumption)⟩

set_option maxHeartbeats 4000000 in
set_option maxRecDepth 100000 in
theorem impl_Text1 (k : Nat) (a b c p n : Int) (w : World) (ht : TabTok w) (ho : tokOKB ⟨k, a, b, c, p, n⟩ = true) (hk : k = 1 ∨ k = 3 ∨ k = 4 ∨ k = 5 ∨ k = 6) (ha : 0 ≤ a ∧ a ≤ 65536) (hp : 0 ≤ p ∧ p ≤ 65536) (hn : 0 ≤ n ∧ n ≤ 65536) :
    Calls Tryd.prog 33 #[tokV ⟨k, a, b, c, p, n⟩] w fun e w' => e = .returned (.tuple #[.string (tokTx ⟨k, a, b, c, p, n⟩), .int .i64 0]) ∧ Below w.heap.size w w' := by
  have z0 := digV_size a (by omega) (by omega)
  have z1 := digV_size p (by omega) (by omega)
  have z2 := digV_size n (by omega) (by omega)
  have HE : Hid (tokTx ⟨k, a, b, c, p, n⟩ = kindW k ++ (⟨#[32]⟩ ++ digV a) ++ ⟨#[32, 97, 116, 32]⟩ ++ digV p ++ ⟨#[32, 108, 111, 110, 103, 32]⟩ ++ digV n) := Lib.hid (by
    rw [tokTx, headTx, if_pos (by dsimp only; omega)])
  have a0 : -9223372036854775808 ≤ a := by omega
  have a1 : a ≤ 9223372036854775807 := by omega
  have p0 : -9223372036854775808 ≤ p := by omega
  have p1 : p ≤ 9223372036854775807 := by omega
  have n0 : -9223372036854775808 ≤ n := by omega
  have n1 : n ≤ 9223372036854775807 := by omega
  have u1 : (0 : Int) ≤ (k : Int) := by omega
  have u2 : (k : Int) < 10 := by omega
  have e7 : ((k : Int) == 7) = false := by rw [beq_eq_false_iff_ne]; omega
  have hd : ((k : Int) == 1) = true ∨ (((k : Int) == 1) = false ∧ ((k : Int) == 3) = true) ∨ (((k : Int) == 1) = false ∧ ((k : Int) == 3) = false ∧ ((k : Int) == 4) = true) ∨ (((k : Int) == 1) = false ∧ ((k : Int) == 3) = false ∧ ((k : Int) == 4) = false ∧ ((k : Int) == 5) = true) ∨
      (((k : Int) == 1) = false ∧ ((k : Int) == 3) = false ∧ ((k : Int) == 4) = false ∧ ((k : Int) == 5) = false ∧ ((k : Int) == 6) = true) := by
    rcases hk with rfl | rfl | rfl | rfl | rfl <;> decide
  have k1 : 1 ≤ k := by omega
  have k9 : k ≤ 9 := by omega
  have B0 := below_one w (.cells #[.int .i64 k, .int .i64 a, .int .i64 b, .int .i64 c, .int .i64 p, .int .i64 n] 38)
  have hX := TokAt.new w ⟨k, a, b, c, p, n⟩
  have HT := Lib.hid (ht.keep B0)
  have HO := Lib.hid (impl_tokenOK ⟨k, a, b, c, p, n⟩)
  rw [ho] at HO
  unfold tokV at HO ⊢
  have ⟨g1, g2, hT⟩ := one_cats (kindW (k : Int)) (digV a) (kindW_size _) z0
  clear ha hp hn ht hk
  generalize hkw : kindW (k : Int) = T0 at *
  have HKW := Lib.hid hkw
  clear hkw
  rcases hd with e1 | ⟨e1, e3⟩ | ⟨e1, e3, e4⟩ | ⟨e1, e3, e4, e5⟩ | ⟨e1, e3, e4, e5, e6⟩
  all_goals
    go_enter Tryd.func33, Tryd.ntmps33
    go_wp2_with fail
    refine (HO.out _).mono ?_
    generalize w.alloc (.cells #[.int .i64 k, .int .i64 a, .int .i64 b, .int .i64 c, .int .i64 p, .int .i64 n] 38) = w0 at *
    rintro e W1 ⟨rfl, bw⟩
    have B1 : Below w.heap.size w W1 := B0.trans (bw.mono B0.size)
    have HT1 := HT.out.keep bw
    have tw := HT1.word k k1 k9
    have ⟨x0, x1, x2, x3, x4, x5⟩ := (hX.keep bw).cells
    dsimp only at x0 x1 x2 x3 x4 x5
    clear HT hX B0 bw
    rw [HKW.out] at tw
    go_wp2_with fail
    refine (itoa_box w.heap.size a b c p n a _ ⟨x1, x2, x3, x4, x5, HT1⟩ a0 a1).mono ?_
    clear x0 x1 x2 x3 x4 x5 tw HT1
    rintro e W2 ⟨rfl, b2, x1, x2, x3, x4, x5, HT2⟩
    have B : Below w.heap.size w W2 := B1.trans (b2.mono B1.size)
    clear B1 b2
    go_wp2_with fail
    clear g1 g2
    generalize T0 ++ (⟨#[32]⟩ ++ digV a) = T at *
    have ⟨f1, f2, f3, f4⟩ := tail_cats T (digV p) (digV n) hT z1 z2
    go_region_held3 (fun wx => wx.cell? ⟨w.heap.size, 1, none⟩ = some (.int .i64 a) ∧ wx.cell? ⟨w.heap.size, 2, none⟩ = some (.int .i64 b) ∧ wx.cell? ⟨w.heap.size, 3, none⟩ = some (.int .i64 c) ∧ wx.cell? ⟨w.heap.size, 4, none⟩ = some (.int .i64 p) ∧ wx.cell? ⟨w.heap.size, 5, none⟩ = some (.int .i64 n) ∧ TabTok wx) (first | exact hS' | exact ⟨x1, x2, x3, x4, x5, HT2⟩) ((go_at_call 76; refine Calls.mono (itoa_box w.heap.size a b c p n _ _ ?_ ?_ ?_) ?_; (iterate 3 assumption); rintro e w' ⟨rfl, hb', hS'⟩))
    clear f1 f2 f3 f4
    go_wp2_with fail
    go_ret2
    exact ⟨ret_val (by rw [HE.out]; rfl), text_below B (by assumption) (by assumption)⟩

set_option maxHeartbeats 4000000 in
set_option maxRecDepth 100000 in
theorem impl_Text7 (k : Nat) (a b c p n : Int) (w : World) (ht : TabTok w) (ho : tokOKB ⟨k, a, b, c, p, n⟩ = true) (hk : k = 7) (ha : 0 ≤ a ∧ a ≤ 65536) (hb : 0 ≤ b ∧ b ≤ 65536) (hc : 0 ≤ c ∧ c ≤ 65536) (hp : 0 ≤ p ∧ p ≤ 65536) (hn : 0 ≤ n ∧ n ≤ 65536) :
    Calls Tryd.prog 33 #[tokV ⟨k, a, b, c, p, n⟩] w fun e w' => e = .returned (.tuple #[.string (tokTx ⟨k, a, b, c, p, n⟩), .int .i64 0]) ∧ Below w.heap.size w w' := by
  have z0 := digV_size a (by omega) (by omega)
  have z3 := digV_size b (by omega) (by omega)
  have z4 := digV_size c (by omega) (by omega)
  have z1 := digV_size p (by omega) (by omega)
  have z2 := digV_size n (by omega) (by omega)
  have HE : Hid (tokTx ⟨k, a, b, c, p, n⟩ = kindW k ++ (⟨#[32]⟩ ++ digV a ++ ⟨#[32]⟩ ++ digV b ++ ⟨#[32]⟩ ++ digV c) ++ ⟨#[32, 97, 116, 32]⟩ ++ digV p ++ ⟨#[32, 108, 111, 110, 103, 32]⟩ ++ digV n) := Lib.hid (by
    rw [tokTx, headTx, if_neg (by dsimp only; omega), if_pos (by dsimp only; omega)])
  have a0 : -9223372036854775808 ≤ a := by omega
  have a1 : a ≤ 9223372036854775807 := by omega
  have b0 : -9223372036854775808 ≤ b := by omega
  have b1 : b ≤ 9223372036854775807 := by omega
  have c0 : -9223372036854775808 ≤ c := by omega
  have c1 : c ≤ 9223372036854775807 := by omega
  have p0 : -9223372036854775808 ≤ p := by omega
  have p1 : p ≤ 9223372036854775807 := by omega
  have n0 : -9223372036854775808 ≤ n := by omega
  have n1 : n ≤ 9223372036854775807 := by omega
  have u1 : (0 : Int) ≤ (k : Int) := by omega
  have u2 : (k : Int) < 10 := by omega
  have e7 : ((k : Int) == 7) = true := by rw [hk]; decide
  have k1 : 1 ≤ k := by omega
  have k9 : k ≤ 9 := by omega
  have B0 := below_one w (.cells #[.int .i64 k, .int .i64 a, .int .i64 b, .int .i64 c, .int .i64 p, .int .i64 n] 38)
  have hX := TokAt.new w ⟨k, a, b, c, p, n⟩
  have HT := Lib.hid (ht.keep B0)
  have HO := Lib.hid (impl_tokenOK ⟨k, a, b, c, p, n⟩)
  rw [ho] at HO
  unfold tokV at HO ⊢
  have ⟨g1, g2, g3, g4, g5, g6, hT⟩ := three_cats (kindW (k : Int)) (digV a) (digV b) (digV c) (kindW_size _) z0 z3 z4
  clear ha hb hc hp hn ht hk
  generalize hkw : kindW (k : Int) = T0 at *
  have HKW := Lib.hid hkw
  clear hkw
  go_enter Tryd.func33, Tryd.ntmps33
  go_wp2_with fail
  refine (HO.out _).mono ?_
  generalize w.alloc (.cells #[.int .i64 k, .int .i64 a, .int .i64 b, .int .i64 c, .int .i64 p, .int .i64 n] 38) = w0 at *
  rintro e W1 ⟨rfl, bw⟩
  have B1 : Below w.heap.size w W1 := B0.trans (bw.mono B0.size)
  have HT1 := HT.out.keep bw
  have tw := HT1.word k k1 k9
  have ⟨x0, x1, x2, x3, x4, x5⟩ := (hX.keep bw).cells
  dsimp only at x0 x1 x2 x3 x4 x5
  clear HT hX B0 bw
  rw [HKW.out] at tw
  go_wp2_with fail
  clear x0 tw
  go_region_held3 (fun wx => wx.cell? ⟨w.heap.size, 1, none⟩ = some (.int .i64 a) ∧ wx.cell? ⟨w.heap.size, 2, none⟩ = some (.int .i64 b) ∧ wx.cell? ⟨w.heap.size, 3, none⟩ = some (.int .i64 c) ∧ wx.cell? ⟨w.heap.size, 4, none⟩ = some (.int .i64 p) ∧ wx.cell? ⟨w.heap.size, 5, none⟩ = some (.int .i64 n) ∧ TabTok wx) (first | exact hS' | exact ⟨x1, x2, x3, x4, x5, HT1⟩) ((go_at_call 76; refine Calls.mono (itoa_box w.heap.size a b c p n _ _ ?_ ?_ ?_) ?_; (iterate 3 assumption); rintro e w' ⟨rfl, hb', hS'⟩))
  clear g1 g2 g3 g4 g5 g6 x1 x2 x3 x4 x5
  have B : Below w.heap.size w w' := text_below3 B1 (by assumption) (by assumption) (by assumption)
  go_wp2_with fail
  obtain ⟨x1, x2, x3, x4, x5, HT2⟩ := hS'
  clear B1 HT1
  generalize w' = W2 at *
  generalize T0 ++ (⟨#[32]⟩ ++ digV a ++ ⟨#[32]⟩ ++ digV b ++ ⟨#[32]⟩ ++ digV c) = T at *
  have ⟨f1, f2, f3, f4⟩ := tail_cats T (digV p) (digV n) hT z1 z2
  go_region_held3 (fun wx => wx.cell? ⟨w.heap.size, 1, none⟩ = some (.int .i64 a) ∧ wx.cell? ⟨w.heap.size, 2, none⟩ = some (.int .i64 b) ∧ wx.cell? ⟨w.heap.size, 3, none⟩ = some (.int .i64 c) ∧ wx.cell? ⟨w.heap.size, 4, none⟩ = some (.int .i64 p) ∧ wx.cell? ⟨w.heap.size, 5, none⟩ = some (.int .i64 n) ∧ TabTok wx) (first | exact hS' | exact ⟨x1, x2, x3, x4, x5, HT2⟩) ((go_at_call 76; refine Calls.mono (itoa_box w.heap.size a b c p n _ _ ?_ ?_ ?_) ?_; (iterate 3 assumption); rintro e w' ⟨rfl, hb', hS'⟩))
  clear f1 f2 f3 f4
  go_wp2_with fail
  go_ret2
  exact ⟨ret_val (by rw [HE.out]; rfl), text_below B (by assumption) (by assumption)⟩

set_option maxHeartbeats 1000000 in
theorem impl_TokenText (x : Tok) (w : World) (ht : TabTok w) : Calls Tryd.prog 33 #[tokV x] w fun e w' => e = .returned (ttV x) ∧ Below w.heap.size w w' := by
  cases ho : tokOKB x
  · have HE : Hid (ttV x = .tuple #[.string ⟨#[]⟩, .int .i64 1]) := Lib.hid (by simp [ttV, ttT, ttC, ho])
    have HO := Lib.hid (impl_tokenOK x)
    rw [ho] at HO
    obtain ⟨k, a, b, c, p, n⟩ := x
    have B0 := below_one w (.cells #[.int .i64 k, .int .i64 a, .int .i64 b, .int .i64 c, .int .i64 p, .int .i64 n] 38)
    unfold tokV at HO ⊢
    clear ht
    go_enter Tryd.func33, Tryd.ntmps33
    go_wp2_with fail
    refine (HO.out _).mono ?_
    rintro e W1 ⟨rfl, bw⟩
    have B1 : Below w.heap.size w W1 := B0.trans (bw.mono B0.size)
    go_wp2
    go_ret2
    exact ⟨ret_val HE.out.symm, B1⟩
  · have HE : Hid (ttV x = .tuple #[.string (tokTx x), .int .i64 0]) := Lib.hid (by simp [ttV, ttT, ttC, ho])
    rw [HE.out]
    obtain ⟨ha, hb, hc, hp, hn, h1, h9⟩ := tok_small ho
    obtain ⟨k, a, b, c, p, n⟩ := x
    dsimp only at ha hb hc hp hn h1 h9
    obtain ⟨m, rfl⟩ := Int.eq_ofNat_of_zero_le (show 0 ≤ k by omega)
    by_cases h7 : m = 7
    · exact impl_Text7 m a b c p n w ht ho h7 ha hb hc hp hn
    by_cases h2 : m = 2 ∨ m = 8 ∨ m = 9
    · exact impl_Text0 m a b c p n w ht ho h2 hp hn
    · exact impl_Text1 m a b c p n w ht ho (by omega) ha hp hn

end Go.Proofs.YtjbikenhdgbacaaDoor
