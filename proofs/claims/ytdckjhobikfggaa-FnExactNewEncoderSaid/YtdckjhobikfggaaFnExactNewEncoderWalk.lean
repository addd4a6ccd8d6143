/- The walk of 'FnExactNewEncoder': the law returns true at every number. -/
import Derived.Test.YtdckjhobikfggaaLnN
namespace Go.Proofs.Ytdckjhobikfggaa.fnExactNewEncoder
open Go.RowKit

theorem neE_line (n : Int) : (neE n).z = [] := by unfold neE; split <;> rfl

set_option maxHeartbeats 2000000 in
set_option maxRecDepth 100000 in
theorem walk (n : Int) (w : World) (_hn : (Lit.int .i64 n).wf = true) : Calls Try.prog 3 #[.int .i64 n] w fun e w' => e = .returned (.bool true) ∧ Below w.heap.size w w' := by
  have HS := Lib.hid (fun w => spec_NewEncoder n w)
  have HI := Lib.hid (fun w => impl_NewEncoder n w)
  have HZ := neE_line n
  unfold NeDone at HS HI
  generalize neE n = d at *
  generalize neC n = c at *
  have HQ := Lib.hid (fun u v w (hu : Ints .i64 w u []) (hv : Ints .i64 w v []) => laws_eqEncoder d u v w (by rw [HZ]; exact hu) (by rw [HZ]; exact hv) (by rw [HZ]; decide))
  have HM := Lib.hid (fun v B w (h : Own .i64 3 w B v []) hB => laws_markEncoder0 d v 1 B w (by rw [HZ]; exact h) HZ (by decide) (by decide) hB)
  have HH := Lib.hid (fun v w (h : Ints .i64 w v []) => (laws_heldEncoder d v 1 0 w h (by decide) (by decide) (by decide) : Calls Try.prog 9 #[ecV d v, .int .i64 1] w fun x w' => x = .returned (.int .i64 1) ∧ Below w.heap.size w w'))
  clear HZ
  obtain ⟨n', c', k', r, z, b, o⟩ := d
  unfold ecV at *
  dsimp only at *
  go_enter Try.func3, Try.ntmps3
  go_wp2_with fail
  refine (HS.out _).mono ?_
  rintro e w1 ⟨v, rfl, o1, b1⟩
  obtain ⟨va, vc, rfl, _⟩ := o1.shape
  dsimp only [List.length_nil] at *
  have A1 : Hid (EcAt (w1.alloc (.cells #[.int .i64 n', .int .i64 c', .int .i64 k', .string r, (.slice va 0 vc), .bool b, .bool o] 24)) w1.heap.size ⟨n', c', k', r, z, b, o⟩ (.slice va 0 vc)) := Lib.hid (heap_alloc_new _ _)
  have O1 := Lib.hid ((o1.alloc (.cells #[.int .i64 n', .int .i64 c', .int .i64 k', .string r, (.slice va 0 vc), .bool b, .bool o] 24)).ints)
  have B1 := Lib.hid (b1.alloc b1.size (.cells #[.int .i64 n', .int .i64 c', .int .i64 k', .string r, (.slice va 0 vc), .bool b, .bool o] 24))
  clear o1 b1
  go_wp2_with fail
  refine (HI.out _).mono ?_
  generalize w1.alloc (.cells #[.int .i64 n', .int .i64 c', .int .i64 k', .string r, (.slice va 0 vc), .bool b, .bool o] 24) = W1 at *
  rintro e w2 ⟨u, rfl, o2, b2⟩
  obtain ⟨ua, uc, rfl, _⟩ := o2.shape
  dsimp only [List.length_nil] at *
  have A2 := Lib.hid ((A1.out.keep b2).keep (ecBelow1 w2 (.cells #[.int .i64 n', .int .i64 c', .int .i64 k', .string r, (.slice ua 0 uc), .bool b, .bool o] 24)))
  have O1b := Lib.hid ((O1.out.keep b2).keep (ecBelow1 w2 (.cells #[.int .i64 n', .int .i64 c', .int .i64 k', .string r, (.slice ua 0 uc), .bool b, .bool o] 24)))
  have B2 := Lib.hid ((B1.out.trans (b2.mono B1.out.size)).alloc (B1.out.trans (b2.mono B1.out.size)).size (.cells #[.int .i64 n', .int .i64 c', .int .i64 k', .string r, (.slice ua 0 uc), .bool b, .bool o] 24))
  have A3 : Hid (EcAt (w2.alloc (.cells #[.int .i64 n', .int .i64 c', .int .i64 k', .string r, (.slice ua 0 uc), .bool b, .bool o] 24)) w2.heap.size ⟨n', c', k', r, z, b, o⟩ (.slice ua 0 uc)) := Lib.hid (heap_alloc_new _ _)
  have O2 := Lib.hid (o2.alloc (.cells #[.int .i64 n', .int .i64 c', .int .i64 k', .string r, (.slice ua 0 uc), .bool b, .bool o] 24))
  have hoff2 : Hid ((Value.slice ua 0 uc).ownBlock ≠ some w2.heap.size) := Lib.hid (fun he => by have := (World.ownsRow.lt o2 _ he).2; omega)
  have hs1 : w1.heap.size < W1.heap.size := A1.out.lt
  have hs0 : w.heap.size ≤ W1.heap.size := B1.out.size
  have hs2 : W1.heap.size ≤ w2.heap.size := b2.size
  clear b2 o2 A1 O1 B1
  have ⟨x0, x1, x2, x3, x4, x5, x6⟩ := ecCells A2.out
  have ⟨y0, y1, y2, y3, y4, y5, y6⟩ := ecCells A3.out
  go_wp2_with fail
  refine (HQ.out _ _ _ O2.out.ints O1b.out).mono ?_
  clear x0 x1 x2 x3 x4 x5 x6 y0 y1 y2 y3 y4 y5 y6
  generalize hW2 : w2.alloc (.cells #[.int .i64 n', .int .i64 c', .int .i64 k', .string r, (.slice ua 0 uc), .bool b, .bool o] 24) = W2 at *
  rintro e w3 ⟨rfl, b3⟩
  have A4 := Lib.hid (A2.out.keep b3)
  have A5 := Lib.hid (A3.out.keep b3)
  have O3 := Lib.hid (O1b.out.keep b3)
  have O4 := Lib.hid (O2.out.all b3)
  have B3 := Lib.hid (B2.out.trans (b3.mono B2.out.size))
  have hs3 : W1.heap.size ≤ w3.heap.size := Nat.le_trans (by rw [← hW2]; simp; omega) b3.size
  clear b3 A2 A3 O1b O2 B2
  have ⟨y0, y1, y2, y3, y4, y5, y6⟩ := ecCells A5.out
  go_wp2_with fail
  refine (HM.out _ _ _ O4.out hs3).mono ?_
  clear y0 y1 y2 y3 y4 y5 y6
  rintro e w4 ⟨rfl, b4, o4, k4⟩
  have A6 : Hid (EcAt w4 w1.heap.size ⟨n', c', k', r, z, b, o⟩ (.slice va 0 vc)) := Lib.hid ((b4.block _ hs1).trans A4.out)
  have A7 : Hid (EcAt w4 w2.heap.size ⟨n', c', k', r, z, b, o⟩ (.slice ua 0 uc)) := Lib.hid ((k4 _ hoff2.out A5.out.lt).trans A5.out)
  have O5 := Lib.hid o4
  have O6 : Hid (Ints .i64 w4 (.slice va 0 vc) []) := Lib.hid (.inl ⟨rfl, _, _, rfl⟩)
  have B4 := Lib.hid (B3.out.trans (b4.mono hs0))
  clear b4 o4 k4 A4 A5 O3 O4 B3
  have hb0 : Hid (∀ a c, Ints .i64 w4 (.slice a 0 c) []) := Lib.hid (fun a c => .inl ⟨rfl, a, c, rfl⟩)
  have ⟨y0, y1, y2, y3, y4, y5, y6⟩ := ecCells A7.out
  go_wp2_with fail
  refine (HH.out _ _ (hb0.out _ _)).mono ?_
  clear y0 y1 y2 y3 y4 y5 y6
  rintro e w5 ⟨rfl, b5⟩
  have A8 := Lib.hid (A6.out.keep b5)
  have A9 := Lib.hid (A7.out.keep b5)
  have B5 := Lib.hid (B4.out.trans (b5.mono B4.out.size))
  clear b5 A6 A7 O5 O6 B4 hb0
  go_wp2_with fail
  refine (HI.out _).mono ?_
  rintro e w6 ⟨u2, rfl, o6, b6⟩
  obtain ⟨ua2, uc2, rfl, _⟩ := o6.shape
  dsimp only [List.length_nil] at *
  have A10 := Lib.hid ((A8.out.keep b6).keep (ecBelow1 w6 (.cells #[.int .i64 n', .int .i64 c', .int .i64 k', .string r, (.slice ua2 0 uc2), .bool b, .bool o] 24)))
  have A11 := Lib.hid ((A9.out.keep b6).keep (ecBelow1 w6 (.cells #[.int .i64 n', .int .i64 c', .int .i64 k', .string r, (.slice ua2 0 uc2), .bool b, .bool o] 24)))
  have A12 : Hid (EcAt (w6.alloc (.cells #[.int .i64 n', .int .i64 c', .int .i64 k', .string r, (.slice ua2 0 uc2), .bool b, .bool o] 24)) w6.heap.size ⟨n', c', k', r, z, b, o⟩ (.slice ua2 0 uc2)) := Lib.hid (heap_alloc_new _ _)
  have B6 := Lib.hid ((B5.out.trans (b6.mono B5.out.size)).alloc (B5.out.trans (b6.mono B5.out.size)).size (.cells #[.int .i64 n', .int .i64 c', .int .i64 k', .string r, (.slice ua2 0 uc2), .bool b, .bool o] 24))
  clear b6 o6 A8 A9 B5
  have hb1 : Hid (∀ W a c, Ints .i64 W (.slice a 0 c) []) := Lib.hid (fun W a c => .inl ⟨rfl, a, c, rfl⟩)
  have ⟨x0, x1, x2, x3, x4, x5, x6⟩ := ecCells A10.out
  have ⟨y0, y1, y2, y3, y4, y5, y6⟩ := ecCells A12.out
  go_wp2_with fail
  refine (HQ.out _ _ _ (hb1.out _ _ _) (hb1.out _ _ _)).mono ?_
  clear x0 x1 x2 x3 x4 x5 x6 y0 y1 y2 y3 y4 y5 y6
  generalize w6.alloc (.cells #[.int .i64 n', .int .i64 c', .int .i64 k', .string r, (.slice ua2 0 uc2), .bool b, .bool o] 24) = W6 at *
  rintro e w7 ⟨rfl, b7⟩
  have A13 := Lib.hid (A11.out.keep b7)
  have B7 := Lib.hid (B6.out.trans (b7.mono B6.out.size))
  clear b7 A10 A11 A12 B6
  have ⟨y0, y1, y2, y3, y4, y5, y6⟩ := ecCells A13.out
  go_wp2_with fail
  refine (HH.out _ _ (hb1.out _ _ _)).mono ?_
  clear y0 y1 y2 y3 y4 y5 y6
  rintro e w8 ⟨rfl, b8⟩
  have B8 := Lib.hid (B7.out.trans (b8.mono B7.out.size))
  go_wp2
  go_ret
  exact ⟨rfl, B8.out⟩

end Go.Proofs.Ytdckjhobikfggaa.fnExactNewEncoder
