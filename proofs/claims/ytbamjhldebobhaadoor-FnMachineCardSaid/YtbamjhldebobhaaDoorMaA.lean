/- The program's machine: a state in a block, its small methods. -/
import Derived.Test.YtbamjhldebobhaaDoorStC
import Derived.Test.YtbamjhldebobhaaDoorEscI
import Derived.Test.YtbamjhldebobhaaDoorDraw
namespace Go.Proofs.YtbamjhldebobhaaDoor
open Go.RowKit

/-- A machine in block b. -/
def MAt (w : World) (b : Nat) (x : St) : Prop := w.heap[b]? = some (.cells #[.int .i64 x.g0, .int .i64 x.g1, .int .i64 x.g2, .int .i64 x.g3, .int .i64 x.l, .int .i64 x.s, .int .i64 x.d] 52)
theorem MAt.lt {w : World} {g : Nat} {x : St} (h : MAt w g x) : g < w.heap.size := (Array.getElem?_eq_some_iff.1 h).1
theorem MAt.keep {w w' : World} {g : Nat} {x : St} (h : MAt w g x) (b : Below w.heap.size w w') : MAt w' g x := (b.block g h.lt).trans h
theorem MAt.below {w w' : World} {g B : Nat} {x : St} (h : MAt w g x) (b : Below B w w') (hB : g < B) : MAt w' g x := (b.block g hB).trans h
theorem MAt.cells {w : World} {g : Nat} {x : St} (h : MAt w g x) : w.cell? ⟨g, 0, none⟩ = some (.int .i64 x.g0) ∧ w.cell? ⟨g, 1, none⟩ = some (.int .i64 x.g1) ∧ w.cell? ⟨g, 2, none⟩ = some (.int .i64 x.g2) ∧ w.cell? ⟨g, 3, none⟩ = some (.int .i64 x.g3) ∧ w.cell? ⟨g, 4, none⟩ = some (.int .i64 x.l) ∧ w.cell? ⟨g, 5, none⟩ = some (.int .i64 x.s) ∧ w.cell? ⟨g, 6, none⟩ = some (.int .i64 x.d) := by
  refine ⟨?_, ?_, ?_, ?_, ?_, ?_, ?_⟩ <;> (rw [cell_of_row _ _ _ _ _ _ h]; rfl)
theorem MAt.thaw {w : World} {g : Nat} {x : St} (h : MAt w g x) : w.frozen? ⟨g, 0, none⟩ = false ∧ w.frozen? ⟨g, 1, none⟩ = false ∧ w.frozen? ⟨g, 2, none⟩ = false ∧ w.frozen? ⟨g, 3, none⟩ = false ∧ w.frozen? ⟨g, 4, none⟩ = false ∧ w.frozen? ⟨g, 5, none⟩ = false ∧ w.frozen? ⟨g, 6, none⟩ = false :=
  ⟨frozen_of_row w _ 0 _ _ h, frozen_of_row w _ 1 _ _ h, frozen_of_row w _ 2 _ _ h, frozen_of_row w _ 3 _ _ h, frozen_of_row w _ 4 _ _ h, frozen_of_row w _ 5 _ _ h, frozen_of_row w _ 6 _ _ h⟩

set_option maxHeartbeats 1000000 in
theorem impl_machineOf (x : St) (w : World) : Calls Tryd.prog 24 #[stV x] w (StDone x w) := by
  unfold stV
  go_enter Tryd.func24, Tryd.ntmps24
  go_wp2
  exact st_ret (y := x) rfl rfl rfl (heap_alloc2_new _ _ _) Tryd.underlying52 rfl (by kernel_rfl) rfl (below_two _ _ _)

set_option maxHeartbeats 1000000 in
set_option maxRecDepth 100000 in
theorem impl_state (x : St) (b : Nat) (w : World) (h : MAt w b x) : Calls Tryd.prog 28 #[.pointer (some ⟨b, 0, none⟩)] w (StDone x w) := by
  have B0 := below_drewN (below_one w (.cells #[.int .i64 0, .int .i64 0, .int .i64 0, .int .i64 0, .int .i64 0, .int .i64 0, .int .i64 0] 24)) 1
  have HM := Lib.hid (h.keep B0)
  have HS : Hid (StAt ((w.alloc (.cells #[.int .i64 0, .int .i64 0, .int .i64 0, .int .i64 0, .int .i64 0, .int .i64 0, .int .i64 0] 24)).drewN 1) w.heap.size zeroSt) := Lib.hid (stSlot0 w)
  clear h
  go_enter Tryd.func28, Tryd.ntmps28
  go_wp2
  refine still_tail_w 33 ((w.alloc (.cells #[.int .i64 0, .int .i64 0, .int .i64 0, .int .i64 0, .int .i64 0, .int .i64 0, .int .i64 0] 24)).drewN 1) rfl (by kernel_rfl) (by kernel_rfl) ?_
  generalize (w.alloc (.cells #[.int .i64 0, .int .i64 0, .int .i64 0, .int .i64 0, .int .i64 0, .int .i64 0, .int .i64 0] 24)).drewN 1 = W2 at *
  have ⟨y0, y1, y2, y3, y4, y5, y6⟩ := HM.out.cells
  have ⟨r0, r1, r2, r3, r4, r5, r6⟩ := HS.out.cells
  have ⟨z0, z1, z2, z3, z4, z5, z6⟩ := HS.out.thaw
  simp only [zeroSt] at r0 r1 r2 r3 r4 r5 r6
  have hl : w.heap.size < W2.heap.size := HS.out.lt
  simp only [List.take_succ_cons, List.take_zero, List.drop_succ_cons, List.drop_zero]
  repeat still_step
  refine wpStill_nil ?_
  go_wp2
  exact st_ret (y := x) rfl rfl rfl (HS.out.put x) Tryd.underlying24 rfl (by kernel_rfl) rfl (below_putSt B0 (Nat.le_refl _) x)

def halfN (n : Int) : Int := if 128 ≤ n then 128 else 0
theorem impl_halfOf (n : Int) (w : World) : Calls Tryd.prog 70 #[.int .i64 n] w fun e w' => e = .returned (.int .i64 (halfN n)) ∧ w = w' := by
  by_cases h : 128 ≤ n
  · have HE : Hid (halfN n = 128) := Lib.hid (by simp [halfN, h])
    go_enter Tryd.func70, Tryd.ntmps70
    go_wp2
    go_ret
    exact ⟨ret_int HE.out.symm, rfl⟩
  · have HE : Hid (halfN n = 0) := Lib.hid (by simp [halfN, h])
    go_enter Tryd.func70, Tryd.ntmps70
    go_wp2
    go_ret
    exact ⟨ret_int HE.out.symm, rfl⟩

def pendI (x : St) : Bool := x.s != 0 || x.d != 0
theorem impl_pending (x : St) (b : Nat) (w : World) (h : MAt w b x) : Calls Tryd.prog 35 #[.pointer (some ⟨b, 0, none⟩)] w fun e w' => e = .returned (.bool (pendI x)) ∧ w = w' := by
  have ⟨y0, y1, y2, y3, y4, y5, y6⟩ := h.cells
  clear h
  by_cases hs : x.s = 0
  · have HE : Hid (pendI x = (x.d != 0)) := Lib.hid (by simp [pendI, hs])
    have es : (x.s != 0) = false := by simp [hs]
    go_enter Tryd.func35, Tryd.ntmps35
    go_wp2
    go_ret
    exact ⟨ret_bool HE.out.symm, rfl⟩
  · have HE : Hid (pendI x = true) := Lib.hid (by simp [pendI, hs])
    have es : (x.s != 0) = true := by simpa using hs
    go_enter Tryd.func35, Tryd.ntmps35
    go_wp2
    go_ret
    exact ⟨ret_bool HE.out.symm, rfl⟩

/-- The set of the register to which a half refers. -/
def setAt (x : St) (r : Bool) : Int := stGet x (sideOf x r)

set_option maxHeartbeats 1000000 in
theorem impl_setFor (x : St) (b : Nat) (half : Int) (w : World) (h : MAt w b x) (hh : headOK x = true) : Calls Tryd.prog 72 #[.pointer (some ⟨b, 0, none⟩), .int .i64 half] w fun e w' => e = .returned (.int .i64 (setAt x (half == 128))) ∧ Below w.heap.size w w' := by
  have ⟨y0, y1, y2, y3, y4, y5, y6⟩ := h.cells
  clear h
  unfold headOK at hh
  rw [Bool.and_eq_true, Bool.or_eq_true, decide_eq_true_eq] at hh
  have ⟨l0, l3⟩ := inB_true hh.1
  have hs : x.s = 0 ∨ x.s = 2 ∨ x.s = 3 := by
    rcases hh.2 with h2 | h2
    · exact .inl h2
    · have := inB_true h2; omega
  have hl : x.l = 0 ∨ x.l = 1 ∨ x.l = 2 ∨ x.l = 3 := by omega
  clear hh l0 l3
  rcases hs with hs | hs | hs
  · rw [hs] at y5
    cases h8 : (half == 128)
    · rcases hl with hl | hl | hl | hl
      · rw [hl] at y4
        have HE : Hid (setAt x false = x.g0) := Lib.hid (by unfold setAt sideOf; rw [hs, hl, if_neg (by decide), if_neg (by decide)]; rfl)
        rw [HE.out]
        clear hs hl
        go_enter Tryd.func72, Tryd.ntmps72
        go_wp2
        go_quiet (fail)
        go_wp2
        go_ret
        exact ⟨rfl, below_drewN (Below.refl _ _) _⟩
      · rw [hl] at y4
        have HE : Hid (setAt x false = x.g1) := Lib.hid (by unfold setAt sideOf; rw [hs, hl, if_neg (by decide), if_neg (by decide)]; rfl)
        rw [HE.out]
        clear hs hl
        go_enter Tryd.func72, Tryd.ntmps72
        go_wp2
        go_quiet (fail)
        go_wp2
        go_ret
        exact ⟨rfl, below_drewN (Below.refl _ _) _⟩
      · rw [hl] at y4
        have HE : Hid (setAt x false = x.g2) := Lib.hid (by unfold setAt sideOf; rw [hs, hl, if_neg (by decide), if_neg (by decide)]; rfl)
        rw [HE.out]
        clear hs hl
        go_enter Tryd.func72, Tryd.ntmps72
        go_wp2
        go_quiet (fail)
        go_wp2
        go_ret
        exact ⟨rfl, below_drewN (Below.refl _ _) _⟩
      · rw [hl] at y4
        have HE : Hid (setAt x false = x.g3) := Lib.hid (by unfold setAt sideOf; rw [hs, hl, if_neg (by decide), if_neg (by decide)]; rfl)
        rw [HE.out]
        clear hs hl
        go_enter Tryd.func72, Tryd.ntmps72
        go_wp2
        go_quiet (fail)
        go_wp2
        go_ret
        exact ⟨rfl, below_drewN (Below.refl _ _) _⟩
    · have HE : Hid (setAt x true = x.g1) := Lib.hid (by unfold setAt sideOf; rw [hs, if_neg (by decide), if_pos rfl]; rfl)
      rw [HE.out]
      go_enter Tryd.func72, Tryd.ntmps72
      go_wp2
      go_ret
      exact ⟨rfl, Below.refl _ _⟩
  · rw [hs] at y5
    have HE : Hid (setAt x (half == 128) = x.g2) := Lib.hid (by unfold setAt sideOf; rw [hs, if_pos (by decide)]; rfl)
    rw [HE.out]
    go_enter Tryd.func72, Tryd.ntmps72
    go_wp2
    go_quiet (fail)
    go_wp2
    go_ret
    exact ⟨rfl, below_drewN (Below.refl _ _) _⟩
  · rw [hs] at y5
    have HE : Hid (setAt x (half == 128) = x.g3) := Lib.hid (by unfold setAt sideOf; rw [hs, if_pos (by decide)]; rfl)
    rw [HE.out]
    go_enter Tryd.func72, Tryd.ntmps72
    go_wp2
    go_quiet (fail)
    go_wp2
    go_ret
    exact ⟨rfl, below_drewN (Below.refl _ _) _⟩

end Go.Proofs.YtbamjhldebobhaaDoor
