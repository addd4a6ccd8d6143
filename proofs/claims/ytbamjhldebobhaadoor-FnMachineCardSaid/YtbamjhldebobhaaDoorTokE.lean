/- The specification's valid tokens (all), and a token's text. -/
import Derived.Test.YtbamjhldebobhaaDoorTokD
import Derived.Test.YtbamjhldebobhaaDoorDigA
import Derived.Deep.RegionHeld3
namespace Go.Proofs.YtbamjhldebobhaaDoor
open Go.RowKit

set_option maxHeartbeats 4000000 in
set_option maxRecDepth 100000 in
theorem spec_OKother (k a b c p n : Int) (w : World) (hp0 : 0 ≤ p) (hp1 : p ≤ 65536) (hn0 : 1 ≤ n) (hn1 : n ≤ 65536) (hk : k < 1 ∨ 9 < k) : Calls Tryd.prog 33 #[tokV ⟨k, a, b, c, p, n⟩] w fun e w' => e = .returned (.bool (tokOKB ⟨k, a, b, c, p, n⟩)) ∧ Below w.heap.size w w' := by
  have HB := Lib.hid (fun o => (Below.refl w.heap.size w).alloc (Nat.le_refl _) o)
  have HE : Hid (false = tokOKB ⟨k, a, b, c, p, n⟩) := Lib.hid (tokOKB_false (by unfold tokOKP; dsimp only; omega))
  have e1 : (k == 1) = false := by rw [beq_eq_false_iff_ne]; omega
  have e2 : (k == 2) = false := by rw [beq_eq_false_iff_ne]; omega
  have e3 : (k == 3) = false := by rw [beq_eq_false_iff_ne]; omega
  have e4 : (k == 4) = false := by rw [beq_eq_false_iff_ne]; omega
  have e5 : (k == 5) = false := by rw [beq_eq_false_iff_ne]; omega
  have e6 : (k == 6) = false := by rw [beq_eq_false_iff_ne]; omega
  have e7 : (k == 7) = false := by rw [beq_eq_false_iff_ne]; omega
  have e8 : (k == 8) = false := by rw [beq_eq_false_iff_ne]; omega
  have e9 : (k == 9) = false := by rw [beq_eq_false_iff_ne]; omega
  clear hk
  unfold tokV
  go_enter Tryd.func33, Tryd.ntmps33
  go_wp2
  all_goals go_ret
  all_goals exact ⟨ret_bool HE.out, HB.out _⟩

set_option maxHeartbeats 4000000 in
set_option maxRecDepth 100000 in
theorem spec_OKbad (k a b c p n : Int) (w : World) (h : p < 0 ∨ 65536 < p ∨ n < 1 ∨ 65536 < n) : Calls Tryd.prog 33 #[tokV ⟨k, a, b, c, p, n⟩] w fun e w' => e = .returned (.bool (tokOKB ⟨k, a, b, c, p, n⟩)) ∧ Below w.heap.size w w' := by
  have HB := Lib.hid (fun o => (Below.refl w.heap.size w).alloc (Nat.le_refl _) o)
  have HE : Hid (false = tokOKB ⟨k, a, b, c, p, n⟩) := Lib.hid (tokOKB_false (by unfold tokOKP; dsimp only; omega))
  unfold tokV
  by_cases h1 : p < 0
  · clear h
    go_enter Tryd.func33, Tryd.ntmps33
    go_wp2
    go_ret
    exact ⟨ret_bool HE.out, HB.out _⟩
  by_cases h2 : 65536 < p
  · clear h
    go_enter Tryd.func33, Tryd.ntmps33
    go_wp2
    go_ret
    exact ⟨ret_bool HE.out, HB.out _⟩
  have hin : inB n 1 65536 = false := by simp [inB]; omega
  clear h
  go_enter Tryd.func33, Tryd.ntmps33
  go_wp2_with fail
  refine (spec_l01In n 1 65536 _).mono ?_
  rintro e w2 ⟨rfl, rfl⟩
  rw [hin]
  go_wp2
  go_ret
  exact ⟨ret_bool HE.out, HB.out _⟩

theorem spec_l03OK (x : Tok) (w : World) : Calls Tryd.prog 33 #[tokV x] w fun e w' => e = .returned (.bool (tokOKB x)) ∧ Below w.heap.size w w' := by
  obtain ⟨k, a, b, c, p, n⟩ := x
  by_cases h : p < 0 ∨ 65536 < p ∨ n < 1 ∨ 65536 < n
  · exact spec_OKbad k a b c p n w h
  have hp0 : 0 ≤ p := by omega
  have hp1 : p ≤ 65536 := by omega
  have hn0 : 1 ≤ n := by omega
  have hn1 : n ≤ 65536 := by omega
  by_cases hk : k < 1 ∨ 9 < k
  · exact spec_OKother k a b c p n w hp0 hp1 hn0 hn1 hk
  have : k = 1 ∨ k = 2 ∨ k = 3 ∨ k = 4 ∨ k = 5 ∨ k = 6 ∨ k = 7 ∨ k = 8 ∨ k = 9 := by omega
  rcases this with rfl | rfl | rfl | rfl | rfl | rfl | rfl | rfl | rfl
  · exact spec_OK1 a b c p n w hp0 hp1 hn0 hn1
  · exact spec_OK2 a b c p n w hp0 hp1 hn0 hn1
  · exact spec_OK3 a b c p n w hp0 hp1 hn0 hn1
  · exact spec_OK4 a b c p n w hp0 hp1 hn0 hn1
  · exact spec_OK5 a b c p n w hp0 hp1 hn0 hn1
  · exact spec_OK6 a b c p n w hp0 hp1 hn0 hn1
  · exact spec_OK7 a b c p n w hp0 hp1 hn0 hn1
  · exact spec_OK8 a b c p n w hp0 hp1 hn0 hn1
  · exact spec_OK9 a b c p n w hp0 hp1 hn0 hn1

def kindW (k : Int) : ByteArray :=
  if k = 1 then ⟨#[99, 111, 110, 116, 114, 111, 108]⟩ else if k = 2 then ⟨#[115, 112, 97, 99, 101]⟩ else if k = 3 then ⟨#[108, 101, 102, 116]⟩ else if k = 4 then ⟨#[114, 105, 103, 104, 116]⟩ else if k = 5 then ⟨#[115, 104, 105, 102, 116]⟩ else
  if k = 6 then ⟨#[115, 105, 110, 103, 108, 101]⟩ else if k = 7 then ⟨#[110, 97, 109, 101]⟩ else if k = 8 then ⟨#[116, 97, 105, 108]⟩ else ⟨#[111, 116, 104, 101, 114]⟩
/-- The text up to the offset. -/
def headTx (x : Tok) : ByteArray :=
  if x.k = 1 ∨ x.k = 3 ∨ x.k = 4 ∨ x.k = 5 ∨ x.k = 6 then kindW x.k ++ (⟨#[32]⟩ ++ digV x.a)
  else if x.k = 7 then kindW x.k ++ (⟨#[32]⟩ ++ digV x.a ++ ⟨#[32]⟩ ++ digV x.b ++ ⟨#[32]⟩ ++ digV x.c)
  else kindW x.k
def tokTx (x : Tok) : ByteArray := headTx x ++ ⟨#[32, 97, 116, 32]⟩ ++ digV x.p ++ ⟨#[32, 108, 111, 110, 103, 32]⟩ ++ digV x.n

/-- The box of a token, behind the words. -/
theorem box_cells (w : World) (k a b c p n : Int) : (((w.alloc (.cells #[.int .i64 k, .int .i64 a, .int .i64 b, .int .i64 c, .int .i64 p, .int .i64 n] 38)).alloc (.cells #[.string ⟨#[99, 111, 110, 116, 114, 111, 108]⟩, .string ⟨#[115, 112, 97, 99, 101]⟩, .string ⟨#[108, 101, 102, 116]⟩, .string ⟨#[114, 105, 103, 104, 116]⟩, .string ⟨#[115, 104, 105, 102, 116]⟩, .string ⟨#[115, 105, 110, 103, 108, 101]⟩, .string ⟨#[110, 97, 109, 101]⟩, .string ⟨#[116, 97, 105, 108]⟩, .string ⟨#[111, 116, 104, 101, 114]⟩] 9))).cell? ⟨w.heap.size, 1, none⟩ = some (.int .i64 a) ∧ (((w.alloc (.cells #[.int .i64 k, .int .i64 a, .int .i64 b, .int .i64 c, .int .i64 p, .int .i64 n] 38)).alloc (.cells #[.string ⟨#[99, 111, 110, 116, 114, 111, 108]⟩, .string ⟨#[115, 112, 97, 99, 101]⟩, .string ⟨#[108, 101, 102, 116]⟩, .string ⟨#[114, 105, 103, 104, 116]⟩, .string ⟨#[115, 104, 105, 102, 116]⟩, .string ⟨#[115, 105, 110, 103, 108, 101]⟩, .string ⟨#[110, 97, 109, 101]⟩, .string ⟨#[116, 97, 105, 108]⟩, .string ⟨#[111, 116, 104, 101, 114]⟩] 9))).cell? ⟨w.heap.size, 2, none⟩ = some (.int .i64 b) ∧ (((w.alloc (.cells #[.int .i64 k, .int .i64 a, .int .i64 b, .int .i64 c, .int .i64 p, .int .i64 n] 38)).alloc (.cells #[.string ⟨#[99, 111, 110, 116, 114, 111, 108]⟩, .string ⟨#[115, 112, 97, 99, 101]⟩, .string ⟨#[108, 101, 102, 116]⟩, .string ⟨#[114, 105, 103, 104, 116]⟩, .string ⟨#[115, 104, 105, 102, 116]⟩, .string ⟨#[115, 105, 110, 103, 108, 101]⟩, .string ⟨#[110, 97, 109, 101]⟩, .string ⟨#[116, 97, 105, 108]⟩, .string ⟨#[111, 116, 104, 101, 114]⟩] 9))).cell? ⟨w.heap.size, 3, none⟩ = some (.int .i64 c) ∧ (((w.alloc (.cells #[.int .i64 k, .int .i64 a, .int .i64 b, .int .i64 c, .int .i64 p, .int .i64 n] 38)).alloc (.cells #[.string ⟨#[99, 111, 110, 116, 114, 111, 108]⟩, .string ⟨#[115, 112, 97, 99, 101]⟩, .string ⟨#[108, 101, 102, 116]⟩, .string ⟨#[114, 105, 103, 104, 116]⟩, .string ⟨#[115, 104, 105, 102, 116]⟩, .string ⟨#[115, 105, 110, 103, 108, 101]⟩, .string ⟨#[110, 97, 109, 101]⟩, .string ⟨#[116, 97, 105, 108]⟩, .string ⟨#[111, 116, 104, 101, 114]⟩] 9))).cell? ⟨w.heap.size, 4, none⟩ = some (.int .i64 p) ∧ (((w.alloc (.cells #[.int .i64 k, .int .i64 a, .int .i64 b, .int .i64 c, .int .i64 p, .int .i64 n] 38)).alloc (.cells #[.string ⟨#[99, 111, 110, 116, 114, 111, 108]⟩, .string ⟨#[115, 112, 97, 99, 101]⟩, .string ⟨#[108, 101, 102, 116]⟩, .string ⟨#[114, 105, 103, 104, 116]⟩, .string ⟨#[115, 104, 105, 102, 116]⟩, .string ⟨#[115, 105, 110, 103, 108, 101]⟩, .string ⟨#[110, 97, 109, 101]⟩, .string ⟨#[116, 97, 105, 108]⟩, .string ⟨#[111, 116, 104, 101, 114]⟩] 9))).cell? ⟨w.heap.size, 5, none⟩ = some (.int .i64 n) := by
  have h : TokAt ((w.alloc (.cells #[.int .i64 k, .int .i64 a, .int .i64 b, .int .i64 c, .int .i64 p, .int .i64 n] 38)).alloc (.cells #[.string ⟨#[99, 111, 110, 116, 114, 111, 108]⟩, .string ⟨#[115, 112, 97, 99, 101]⟩, .string ⟨#[108, 101, 102, 116]⟩, .string ⟨#[114, 105, 103, 104, 116]⟩, .string ⟨#[115, 104, 105, 102, 116]⟩, .string ⟨#[115, 105, 110, 103, 108, 101]⟩, .string ⟨#[110, 97, 109, 101]⟩, .string ⟨#[116, 97, 105, 108]⟩, .string ⟨#[111, 116, 104, 101, 114]⟩] 9)) w.heap.size ⟨k, a, b, c, p, n⟩ := heap_alloc2_old _ _ _
  exact h.cells.2

theorem cat_run (a b : ByteArray) (h : a.size + b.size ≤ 1048576) (w : World) : (Op.stringOp .add a b).run Tryd.prog w = .ok (.string (a ++ b)) w := by
  have h2 : ¬ (((a.size + b.size : Nat) : Int) > IntKind.i64.max) := by
    have : IntKind.i64.max = 9223372036854775807 := by decide
    omega
  simp only [Op.stringOp, if_neg h2]
  rfl
/-- What the last statement joins. -/
theorem tail_cats (T P N : ByteArray) (hT : T.size ≤ 200) (hP : P.size ≤ 21) (hN : N.size ≤ 21) :
    (∀ w, (Op.stringOp .add T ⟨#[32, 97, 116, 32]⟩).run Tryd.prog w = .ok (.string (T ++ ⟨#[32, 97, 116, 32]⟩)) w) ∧
    (∀ w, (Op.stringOp .add (T ++ ⟨#[32, 97, 116, 32]⟩) P).run Tryd.prog w = .ok (.string (T ++ ⟨#[32, 97, 116, 32]⟩ ++ P)) w) ∧
    (∀ w, (Op.stringOp .add (T ++ ⟨#[32, 97, 116, 32]⟩ ++ P) ⟨#[32, 108, 111, 110, 103, 32]⟩).run Tryd.prog w = .ok (.string (T ++ ⟨#[32, 97, 116, 32]⟩ ++ P ++ ⟨#[32, 108, 111, 110, 103, 32]⟩)) w) ∧
    (∀ w, (Op.stringOp .add (T ++ ⟨#[32, 97, 116, 32]⟩ ++ P ++ ⟨#[32, 108, 111, 110, 103, 32]⟩) N).run Tryd.prog w = .ok (.string (T ++ ⟨#[32, 97, 116, 32]⟩ ++ P ++ ⟨#[32, 108, 111, 110, 103, 32]⟩ ++ N)) w) := by
  have s1 : (⟨#[32, 97, 116, 32]⟩ : ByteArray).size = 4 := rfl
  have s2 : (⟨#[32, 108, 111, 110, 103, 32]⟩ : ByteArray).size = 6 := rfl
  refine ⟨fun w => cat_run _ _ ?_ w, fun w => cat_run _ _ ?_ w, fun w => cat_run _ _ ?_ w, fun w => cat_run _ _ ?_ w⟩
  all_goals simp only [ByteArray.size_append, s1, s2]
  all_goals omega

theorem text_below {w W2 w1 w2 : World} (B : Below w.heap.size w W2) (h1 : Below W2.drew.heap.size W2.drew w1) (h2 : Below w1.heap.size w1 w2) : Below w.heap.size w w2 := by
  have b1 : Below w.heap.size w w1 := B.trans ((bel_drew h1).mono B.size)
  exact b1.trans (h2.mono b1.size)

theorem text_below3 {w W2 w1 w2 w3 : World} (B : Below w.heap.size w W2) (h1 : Below W2.drew.heap.size W2.drew w1) (h2 : Below w1.heap.size w1 w2) (h3 : Below w2.heap.size w2 w3) : Below w.heap.size w w3 := by
  have b2 := text_below B h1 h2
  exact b2.trans (h3.mono b2.size)

end Go.Proofs.YtbamjhldebobhaaDoor
