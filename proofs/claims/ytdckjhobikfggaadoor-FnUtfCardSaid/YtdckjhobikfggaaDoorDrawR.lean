/- A rune drawn. -/
import Derived.Test.YtdckjhobikfggaaDoorDrawN
import Derived.Test.YtdckjhobikfggaaDoorRunesA
namespace Go.Proofs.YtdckjhobikfggaaDoor
open Go.RowKit

theorem Src.alloc {w : World} {b : Nat} {zs : List Int} {m : Nat} (h : Src w b zs m) (o : Obj) : Src (w.alloc o) b zs m := by
  obtain ⟨cv, k, seed, h1, h2, h3⟩ := h
  refine ⟨cv, k, seed, ?_, h2.keep ((Below.refl _ _).alloc (Nat.le_refl _) o), h3⟩
  have hlt := (Array.getElem?_eq_some_iff.1 h1).1
  rw [← h1]; exact ((Below.refl w.heap.size w).alloc (Nat.le_refl _) o).block b hlt
theorem Src.lt {w : World} {b : Nat} {zs : List Int} {m : Nat} (h : Src w b zs m) : b < w.heap.size := by
  obtain ⟨cv, k, seed, h1, _⟩ := h
  exact (Array.getElem?_eq_some_iff.1 h1).1
def RuneDone (w : World) (b : Nat) (zs : List Int) (m : Nat) (e : Ending) (w' : World) : Prop := (∃ r : Int, e = .returned (.int .i64 r) ∧ 0 ≤ r ∧ r ≤ 2000000) ∧ Src w' b zs (m + 30) ∧ Only b w w'

set_option maxHeartbeats 1000000 in
theorem src_rune (b : Nat) (zs : List Int) (m : Nat) (w : World) (h : Src w b zs m) (hm : m ≤ 1048576) :
    Calls Tryd.prog 73 #[.pointer (some ⟨b, 0, none⟩)] w (RuneDone w b zs m) := by
  have s0 := h
  have B0 := Only.refl b w
  clear h
  have bl := s0.lt
  go_enter Tryd.func73, Tryd.ntmps73
  go_wp2_with fail
  refine (src_next b zs (m + 0) 128 _ s0 (by omega) (by omega)).mono ?_
  rintro e w1 ⟨⟨r0, rfl, r00, r01⟩, s1, b1⟩
  have B1 := B0.trans b1
  clear s0 b1 B0
  go_wp2_with fail
  refine (src_next b zs (m + 3) 96 _ s1 (by omega) (by omega)).mono ?_
  rintro e w2 ⟨⟨r1, rfl, r10, r11⟩, s2, b2⟩
  have B2 := B1.trans b2
  clear s1 b2 B1
  go_wp2_with fail
  refine (src_next b zs (m + 6) 60 _ s2 (by omega) (by omega)).mono ?_
  rintro e w3 ⟨⟨r2, rfl, r20, r21⟩, s3, b3⟩
  have B3 := B2.trans b3
  clear s2 b3 B2
  go_wp2_with fail
  refine (src_next b zs (m + 9) 90 _ s3 (by omega) (by omega)).mono ?_
  rintro e w4 ⟨⟨r3, rfl, r30, r31⟩, s4, b4⟩
  have B4 := B3.trans b4
  clear s3 b4 B3
  go_wp2_with fail
  refine (src_next b zs (m + 12) 63 _ s4 (by omega) (by omega)).mono ?_
  rintro e w5 ⟨⟨r4, rfl, r40, r41⟩, s5, b5⟩
  have B5 := B4.trans b5
  clear s4 b5 B4
  go_wp2_with fail
  refine (src_next b zs (m + 15) 120 _ s5 (by omega) (by omega)).mono ?_
  rintro e w6 ⟨⟨r5, rfl, r50, r51⟩, s6, b6⟩
  have B6 := B5.trans b6
  clear s5 b6 B5
  go_wp2_with fail
  refine (src_next b zs (m + 18) 12 _ s6 (by omega) (by omega)).mono ?_
  rintro e w7 ⟨⟨r6, rfl, r60, r61⟩, s7, b7⟩
  have B7 := B6.trans b7
  clear s6 b7 B6
  go_wp2_with fail
  refine (src_next b zs (m + 21) 12 _ s7 (by omega) (by omega)).mono ?_
  rintro e w8 ⟨⟨r7, rfl, r70, r71⟩, s8, b8⟩
  have B8 := B7.trans b8
  clear s7 b8 B7
  go_wp2_with fail
  refine (src_next b zs (m + 24) 70000 _ s8 (by omega) (by omega)).mono ?_
  rintro e w9 ⟨⟨r8, rfl, r80, r81⟩, s9, b9⟩
  have B9 := B8.trans b9
  clear s8 b9 B8
  go_wp2_with fail
  refine (src_next b zs (m + 27) 9 _ (s9.alloc _) (by omega) (by omega)).mono ?_
  rintro e w10 ⟨⟨r9, rfl, r90, r91⟩, s10, b10⟩
  have bl9 : b ≠ w9.heap.size := by have := s9.lt; omega
  have hblk := b10.2 w9.heap.size (Ne.symm bl9) (by simp)
  rw [heap_alloc_new] at hblk
  have B10 := (B9.alloc bl _).trans b10
  clear s9 b10 B9
  have hcase : r9 = 0 ∨ r9 = 1 ∨ r9 = 2 ∨ r9 = 3 ∨ r9 = 4 ∨ r9 = 5 ∨ r9 = 6 ∨ r9 = 7 ∨ r9 = 8 := by omega
  have hcell : ∀ j v, (#[Value.int IntKind.i64 r0, Value.int IntKind.i64 (160 + r1), Value.int IntKind.i64 (913 + r2),
          Value.int IntKind.i64 (12353 + r3), Value.int IntKind.i64 (65377 + r4), Value.int IntKind.i64 (19968 + r5),
          Value.int IntKind.i64 (55290 + r6), Value.int IntKind.i64 (1114100 + r7), Value.int IntKind.i64 r8])[j]? = some v → w10.cell? ⟨w9.heap.size, j, none⟩ = some v := fun j v hv => by rw [cell_of_row w10 _ j _ _ _ hblk]; exact hv
  clear hblk
  have HC := Lib.hid hcell
  clear hcell
  rcases hcase with rfl | rfl | rfl | rfl | rfl | rfl | rfl | rfl | rfl
  · have hx := HC.out 0 _ rfl
    go_wp2
    go_ret
    exact ⟨⟨_, rfl, by omega, by omega⟩, s10, B10⟩
  · have hx := HC.out 1 _ rfl
    go_wp2
    go_ret
    exact ⟨⟨_, rfl, by omega, by omega⟩, s10, B10⟩
  · have hx := HC.out 2 _ rfl
    go_wp2
    go_ret
    exact ⟨⟨_, rfl, by omega, by omega⟩, s10, B10⟩
  · have hx := HC.out 3 _ rfl
    go_wp2
    go_ret
    exact ⟨⟨_, rfl, by omega, by omega⟩, s10, B10⟩
  · have hx := HC.out 4 _ rfl
    go_wp2
    go_ret
    exact ⟨⟨_, rfl, by omega, by omega⟩, s10, B10⟩
  · have hx := HC.out 5 _ rfl
    go_wp2
    go_ret
    exact ⟨⟨_, rfl, by omega, by omega⟩, s10, B10⟩
  · have hx := HC.out 6 _ rfl
    go_wp2
    go_ret
    exact ⟨⟨_, rfl, by omega, by omega⟩, s10, B10⟩
  · have hx := HC.out 7 _ rfl
    go_wp2
    go_ret
    exact ⟨⟨_, rfl, by omega, by omega⟩, s10, B10⟩
  · have hx := HC.out 8 _ rfl
    go_wp2
    go_ret
    exact ⟨⟨_, rfl, by omega, by omega⟩, s10, B10⟩

end Go.Proofs.YtdckjhobikfggaaDoor
