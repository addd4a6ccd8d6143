/- The specification's valid tokens. -/
import Derived.Test.YtbamjhldebobhaaDoorTokC
import Derived.Deep.Light
namespace Go.Proofs.YtbamjhldebobhaaDoor
open Go.RowKit

/-- A token is valid. -/
def tokOKP (x : Tok) : Prop := (0 ≤ x.p ∧ x.p ≤ 65536 ∧ 1 ≤ x.n ∧ x.n ≤ 65536) ∧
  ((x.k = 1 ∧ x.b = 0 ∧ x.c = 0 ∧ x.n = 1 ∧ ((0 ≤ x.a ∧ x.a ≤ 13) ∨ (16 ≤ x.a ∧ x.a ≤ 31 ∧ x.a ≠ 27) ∨ x.a = 127 ∨ (128 ≤ x.a ∧ x.a ≤ 159 ∧ x.a ≠ 142 ∧ x.a ≠ 143))) ∨
   (x.k = 2 ∧ x.b = 0 ∧ x.c = 0 ∧ x.a = 0 ∧ x.n = 1) ∨
   (x.k = 3 ∧ x.b = 0 ∧ x.c = 0 ∧ 33 ≤ x.a ∧ x.a ≤ 126 ∧ x.n = 1) ∨
   (x.k = 4 ∧ x.b = 0 ∧ x.c = 0 ∧ 32 ≤ x.a ∧ x.a ≤ 127 ∧ x.n = 1) ∨
   (x.k = 5 ∧ x.b = 0 ∧ x.c = 0 ∧ ((0 ≤ x.a ∧ x.a ≤ 1 ∧ x.n = 1) ∨ (2 ≤ x.a ∧ x.a ≤ 3 ∧ x.n = 2))) ∨
   (x.k = 6 ∧ x.b = 0 ∧ x.c = 0 ∧ 2 ≤ x.a ∧ x.a ≤ 3 ∧ 1 ≤ x.n ∧ x.n ≤ 2) ∨
   (x.k = 7 ∧ 0 ≤ x.a ∧ x.a ≤ 3 ∧ 1 ≤ x.b ∧ x.b ≤ 3 ∧ (x.b ≠ 2 ∨ 0 < x.a) ∧ 64 ≤ x.c ∧ x.c ≤ 126 ∧ 3 ≤ x.n ∧ x.n ≤ 4) ∨
   ((x.k = 8 ∨ x.k = 9) ∧ x.b = 0 ∧ x.c = 0 ∧ x.a = 0))
/-- The same, wherever it stands. -/
def tokLP (x : Tok) : Prop := (0 ≤ x.p ∧ x.p ≤ 1048576 ∧ 1 ≤ x.n ∧ x.n ≤ 1048576) ∧
  ((x.k = 1 ∧ x.b = 0 ∧ x.c = 0 ∧ x.n = 1 ∧ ((0 ≤ x.a ∧ x.a ≤ 13) ∨ (16 ≤ x.a ∧ x.a ≤ 31 ∧ x.a ≠ 27) ∨ x.a = 127 ∨ (128 ≤ x.a ∧ x.a ≤ 159 ∧ x.a ≠ 142 ∧ x.a ≠ 143))) ∨
   (x.k = 2 ∧ x.b = 0 ∧ x.c = 0 ∧ x.a = 0 ∧ x.n = 1) ∨
   (x.k = 3 ∧ x.b = 0 ∧ x.c = 0 ∧ 33 ≤ x.a ∧ x.a ≤ 126 ∧ x.n = 1) ∨
   (x.k = 4 ∧ x.b = 0 ∧ x.c = 0 ∧ 32 ≤ x.a ∧ x.a ≤ 127 ∧ x.n = 1) ∨
   (x.k = 5 ∧ x.b = 0 ∧ x.c = 0 ∧ ((0 ≤ x.a ∧ x.a ≤ 1 ∧ x.n = 1) ∨ (2 ≤ x.a ∧ x.a ≤ 3 ∧ x.n = 2))) ∨
   (x.k = 6 ∧ x.b = 0 ∧ x.c = 0 ∧ 2 ≤ x.a ∧ x.a ≤ 3 ∧ 1 ≤ x.n ∧ x.n ≤ 2) ∨
   (x.k = 7 ∧ 0 ≤ x.a ∧ x.a ≤ 3 ∧ 1 ≤ x.b ∧ x.b ≤ 3 ∧ (x.b ≠ 2 ∨ 0 < x.a) ∧ 64 ≤ x.c ∧ x.c ≤ 126 ∧ 3 ≤ x.n ∧ x.n ≤ 4) ∨
   ((x.k = 8 ∨ x.k = 9) ∧ x.b = 0 ∧ x.c = 0 ∧ x.a = 0))
theorem tokOKP.wide {x : Tok} (h : tokOKP x) : tokLP x := ⟨⟨h.1.1, by have := h.1.2.1; omega, h.1.2.2.1, by have := h.1.2.2.2; omega⟩, by have := h.2; omega⟩
def ok1 (x : Tok) : Bool := decide (x.k = 1 ∧ x.b = 0 ∧ x.c = 0 ∧ x.n = 1 ∧ ((0 ≤ x.a ∧ x.a ≤ 13) ∨ (16 ≤ x.a ∧ x.a ≤ 31 ∧ x.a ≠ 27) ∨ x.a = 127 ∨ (128 ≤ x.a ∧ x.a ≤ 159 ∧ x.a ≠ 142 ∧ x.a ≠ 143)))
def ok2 (x : Tok) : Bool := decide (x.k = 2 ∧ x.b = 0 ∧ x.c = 0 ∧ x.a = 0 ∧ x.n = 1)
def ok3 (x : Tok) : Bool := decide (x.k = 3 ∧ x.b = 0 ∧ x.c = 0 ∧ 33 ≤ x.a ∧ x.a ≤ 126 ∧ x.n = 1)
def ok4 (x : Tok) : Bool := decide (x.k = 4 ∧ x.b = 0 ∧ x.c = 0 ∧ 32 ≤ x.a ∧ x.a ≤ 127 ∧ x.n = 1)
def ok5 (x : Tok) : Bool := decide (x.k = 5 ∧ x.b = 0 ∧ x.c = 0 ∧ ((0 ≤ x.a ∧ x.a ≤ 1 ∧ x.n = 1) ∨ (2 ≤ x.a ∧ x.a ≤ 3 ∧ x.n = 2)))
def ok6 (x : Tok) : Bool := decide (x.k = 6 ∧ x.b = 0 ∧ x.c = 0 ∧ 2 ≤ x.a ∧ x.a ≤ 3 ∧ 1 ≤ x.n ∧ x.n ≤ 2)
def ok7 (x : Tok) : Bool := decide (x.k = 7 ∧ 0 ≤ x.a ∧ x.a ≤ 3 ∧ 1 ≤ x.b ∧ x.b ≤ 3 ∧ (x.b ≠ 2 ∨ 0 < x.a) ∧ 64 ≤ x.c ∧ x.c ≤ 126 ∧ 3 ≤ x.n ∧ x.n ≤ 4)
def ok8 (x : Tok) : Bool := decide ((x.k = 8 ∨ x.k = 9) ∧ x.b = 0 ∧ x.c = 0 ∧ x.a = 0)
def tokOKB (x : Tok) : Bool := decide (0 ≤ x.p ∧ x.p ≤ 65536 ∧ 1 ≤ x.n ∧ x.n ≤ 65536) && (ok1 x || (ok2 x || (ok3 x || (ok4 x || (ok5 x || (ok6 x || (ok7 x || ok8 x)))))))
theorem tokOKB_iff (x : Tok) : tokOKB x = true ↔ tokOKP x := by
  simp only [tokOKB, tokOKP, ok1, ok2, ok3, ok4, ok5, ok6, ok7, ok8, Bool.and_eq_true, Bool.or_eq_true, decide_eq_true_eq]
theorem tokOKB_true {x : Tok} (h : tokOKP x) : true = tokOKB x := ((tokOKB_iff x).2 h).symm
theorem tokOKB_of {x : Tok} {b : Bool} (h : b = true ↔ tokOKP x) : b = tokOKB x := by rw [Bool.eq_iff_iff, tokOKB_iff]; exact h
theorem tokOKB_false {x : Tok} (h : ¬ tokOKP x) : false = tokOKB x := by
  cases hb : tokOKB x
  · rfl
  · exact absurd ((tokOKB_iff x).1 hb) h

set_option maxHeartbeats 4000000 in
set_option maxRecDepth 100000 in
theorem spec_OK1 (a b c p n : Int) (w : World) (hp0 : 0 ≤ p) (hp1 : p ≤ 65536) (hn0 : 1 ≤ n) (hn1 : n ≤ 65536) : Calls Tryd.prog 33 #[tokV ⟨1, a, b, c, p, n⟩] w fun e w' => e = .returned (.bool (tokOKB ⟨1, a, b, c, p, n⟩)) ∧ Below w.heap.size w w' := by
  have HB := Lib.hid (fun o => (Below.refl w.heap.size w).alloc (Nat.le_refl _) o)
  unfold tokV
  go_enter Tryd.func33, Tryd.ntmps33
  go_wp2
  all_goals go_ret
  all_goals refine ⟨ret_bool ?_, HB.out _⟩
  all_goals go_light
  all_goals first | (refine tokOKB_false ?_; unfold tokOKP; dsimp only; omega) | (refine tokOKB_true ?_; unfold tokOKP; dsimp only; omega) | (refine tokOKB_of ?_; unfold tokOKP; dsimp only; simp; omega)

set_option maxHeartbeats 4000000 in
set_option maxRecDepth 100000 in
theorem spec_OK2 (a b c p n : Int) (w : World) (hp0 : 0 ≤ p) (hp1 : p ≤ 65536) (hn0 : 1 ≤ n) (hn1 : n ≤ 65536) : Calls Tryd.prog 33 #[tokV ⟨2, a, b, c, p, n⟩] w fun e w' => e = .returned (.bool (tokOKB ⟨2, a, b, c, p, n⟩)) ∧ Below w.heap.size w w' := by
  have HB := Lib.hid (fun o => (Below.refl w.heap.size w).alloc (Nat.le_refl _) o)
  unfold tokV
  go_enter Tryd.func33, Tryd.ntmps33
  go_wp2
  all_goals go_ret
  all_goals refine ⟨ret_bool ?_, HB.out _⟩
  all_goals go_light
  all_goals first | (refine tokOKB_false ?_; unfold tokOKP; dsimp only; omega) | (refine tokOKB_true ?_; unfold tokOKP; dsimp only; omega) | (refine tokOKB_of ?_; unfold tokOKP; dsimp only; simp; omega)

set_option maxHeartbeats 4000000 in
set_option maxRecDepth 100000 in
theorem spec_OK3 (a b c p n : Int) (w : World) (hp0 : 0 ≤ p) (hp1 : p ≤ 65536) (hn0 : 1 ≤ n) (hn1 : n ≤ 65536) : Calls Tryd.prog 33 #[tokV ⟨3, a, b, c, p, n⟩] w fun e w' => e = .returned (.bool (tokOKB ⟨3, a, b, c, p, n⟩)) ∧ Below w.heap.size w w' := by
  have HB := Lib.hid (fun o => (Below.refl w.heap.size w).alloc (Nat.le_refl _) o)
  unfold tokV
  go_enter Tryd.func33, Tryd.ntmps33
  go_wp2
  all_goals go_ret
  all_goals refine ⟨ret_bool ?_, HB.out _⟩
  all_goals go_light
  all_goals first | (refine tokOKB_false ?_; unfold tokOKP; dsimp only; omega) | (refine tokOKB_true ?_; unfold tokOKP; dsimp only; omega) | (refine tokOKB_of ?_; unfold tokOKP; dsimp only; simp; omega)

set_option maxHeartbeats 4000000 in
set_option maxRecDepth 100000 in
theorem spec_OK4 (a b c p n : Int) (w : World) (hp0 : 0 ≤ p) (hp1 : p ≤ 65536) (hn0 : 1 ≤ n) (hn1 : n ≤ 65536) : Calls Tryd.prog 33 #[tokV ⟨4, a, b, c, p, n⟩] w fun e w' => e = .returned (.bool (tokOKB ⟨4, a, b, c, p, n⟩)) ∧ Below w.heap.size w w' := by
  have HB := Lib.hid (fun o => (Below.refl w.heap.size w).alloc (Nat.le_refl _) o)
  unfold tokV
  go_enter Tryd.func33, Tryd.ntmps33
  go_wp2
  all_goals go_ret
  all_goals refine ⟨ret_bool ?_, HB.out _⟩
  all_goals go_light
  all_goals first | (refine tokOKB_false ?_; unfold tokOKP; dsimp only; omega) | (refine tokOKB_true ?_; unfold tokOKP; dsimp only; omega) | (refine tokOKB_of ?_; unfold tokOKP; dsimp only; simp; omega)

set_option maxHeartbeats 4000000 in
set_option maxRecDepth 100000 in
theorem spec_OK5 (a b c p n : Int) (w : World) (hp0 : 0 ≤ p) (hp1 : p ≤ 65536) (hn0 : 1 ≤ n) (hn1 : n ≤ 65536) : Calls Tryd.prog 33 #[tokV ⟨5, a, b, c, p, n⟩] w fun e w' => e = .returned (.bool (tokOKB ⟨5, a, b, c, p, n⟩)) ∧ Below w.heap.size w w' := by
  have HB := Lib.hid (fun o => (Below.refl w.heap.size w).alloc (Nat.le_refl _) o)
  unfold tokV
  go_enter Tryd.func33, Tryd.ntmps33
  go_wp2
  all_goals go_ret
  all_goals refine ⟨ret_bool ?_, HB.out _⟩
  all_goals go_light
  all_goals first | (refine tokOKB_false ?_; unfold tokOKP; dsimp only; omega) | (refine tokOKB_true ?_; unfold tokOKP; dsimp only; omega) | (refine tokOKB_of ?_; unfold tokOKP; dsimp only; simp; omega)

set_option maxHeartbeats 4000000 in
set_option maxRecDepth 100000 in
theorem spec_OK6 (a b c p n : Int) (w : World) (hp0 : 0 ≤ p) (hp1 : p ≤ 65536) (hn0 : 1 ≤ n) (hn1 : n ≤ 65536) : Calls Tryd.prog 33 #[tokV ⟨6, a, b, c, p, n⟩] w fun e w' => e = .returned (.bool (tokOKB ⟨6, a, b, c, p, n⟩)) ∧ Below w.heap.size w w' := by
  have HB := Lib.hid (fun o => (Below.refl w.heap.size w).alloc (Nat.le_refl _) o)
  unfold tokV
  go_enter Tryd.func33, Tryd.ntmps33
  go_wp2
  all_goals go_ret
  all_goals refine ⟨ret_bool ?_, HB.out _⟩
  all_goals go_light
  all_goals first | (refine tokOKB_false ?_; unfold tokOKP; dsimp only; omega) | (refine tokOKB_true ?_; unfold tokOKP; dsimp only; omega) | (refine tokOKB_of ?_; unfold tokOKP; dsimp only; simp; omega)

set_option maxHeartbeats 4000000 in
set_option maxRecDepth 100000 in
theorem spec_OK7 (a b c p n : Int) (w : World) (hp0 : 0 ≤ p) (hp1 : p ≤ 65536) (hn0 : 1 ≤ n) (hn1 : n ≤ 65536) : Calls Tryd.prog 33 #[tokV ⟨7, a, b, c, p, n⟩] w fun e w' => e = .returned (.bool (tokOKB ⟨7, a, b, c, p, n⟩)) ∧ Below w.heap.size w w' := by
  have HB := Lib.hid (fun o => (Below.refl w.heap.size w).alloc (Nat.le_refl _) o)
  unfold tokV
  go_enter Tryd.func33, Tryd.ntmps33
  go_wp2
  all_goals go_ret
  all_goals refine ⟨ret_bool ?_, HB.out _⟩
  all_goals go_light
  all_goals first | (refine tokOKB_false ?_; unfold tokOKP; dsimp only; omega) | (refine tokOKB_true ?_; unfold tokOKP; dsimp only; omega) | (refine tokOKB_of ?_; unfold tokOKP; dsimp only; simp; omega)

set_option maxHeartbeats 4000000 in
set_option maxRecDepth 100000 in
theorem spec_OK8 (a b c p n : Int) (w : World) (hp0 : 0 ≤ p) (hp1 : p ≤ 65536) (hn0 : 1 ≤ n) (hn1 : n ≤ 65536) : Calls Tryd.prog 33 #[tokV ⟨8, a, b, c, p, n⟩] w fun e w' => e = .returned (.bool (tokOKB ⟨8, a, b, c, p, n⟩)) ∧ Below w.heap.size w w' := by
  have HB := Lib.hid (fun o => (Below.refl w.heap.size w).alloc (Nat.le_refl _) o)
  unfold tokV
  go_enter Tryd.func33, Tryd.ntmps33
  go_wp2
  all_goals go_ret
  all_goals refine ⟨ret_bool ?_, HB.out _⟩
  all_goals go_light
  all_goals first | (refine tokOKB_false ?_; unfold tokOKP; dsimp only; omega) | (refine tokOKB_true ?_; unfold tokOKP; dsimp only; omega) | (refine tokOKB_of ?_; unfold tokOKP; dsimp only; simp; omega)

set_option maxHeartbeats 4000000 in
set_option maxRecDepth 100000 in
theorem spec_OK9 (a b c p n : Int) (w : World) (hp0 : 0 ≤ p) (hp1 : p ≤ 65536) (hn0 : 1 ≤ n) (hn1 : n ≤ 65536) : Calls Tryd.prog 33 #[tokV ⟨9, a, b, c, p, n⟩] w fun e w' => e = .returned (.bool (tokOKB ⟨9, a, b, c, p, n⟩)) ∧ Below w.heap.size w w' := by
  have HB := Lib.hid (fun o => (Below.refl w.heap.size w).alloc (Nat.le_refl _) o)
  unfold tokV
  go_enter Tryd.func33, Tryd.ntmps33
  go_wp2
  all_goals go_ret
  all_goals refine ⟨ret_bool ?_, HB.out _⟩
  all_goals go_light
  all_goals first | (refine tokOKB_false ?_; unfold tokOKP; dsimp only; omega) | (refine tokOKB_true ?_; unfold tokOKP; dsimp only; omega) | (refine tokOKB_of ?_; unfold tokOKP; dsimp only; simp; omega)

end Go.Proofs.YtbamjhldebobhaaDoor
