/- The tied card of 'FnMachine': from the walk to the given statement. The listed package-level variables start as the program's text lays them (the given tie). Joined of: FnMachineWalk, FnMachineCard. -/
import Derived.Test.YtbamjhldebobhaaDoorRowsU
import Derived.Test.YtbamjhldebobhaaDoorLawsAt
import Derived.Test.YtbamjhldebobhaaDoorLawsSame
import Derived.Test.YtbamjhldebobhaaDoorDrawT
import Derived.Test.YtbamjhldebobhaaDoorFnMachineV1
import Derived.Laws.StructEq
import Derived.Deep.CutBlock
import Derived.Deep.RegionWith
import Derived.Deep.DeepCutAuto
import Derived.Test.YtbamjhldebobhaaDoorCards
import Derived.Test.YtbamjhldebobhaaDoorTie
import Derived.Test.YtbamjhldebobhaaDoorVars
import Derived.Lib.Hide

namespace Go.Proofs.YtbamjhldebobhaaDoor.fnMachine
open Go.RowKit Go.Sort
set_option linter.unusedVariables false

theorem stateFields : Tryd.prog.underlying 24 = some (.struct (Tryd.prog.fieldsOf 24)) := by kernel_rfl
theorem stateHeld : Tryd.prog.stoodInHeld 24 = false := by kernel_rfl
theorem stPart0 (a b c d e f g : Value) (w : World) : (part 3 #[a, b, c, d, e, f, g] 0).run Tryd.prog w = .ok a w := by kernel_rfl
theorem stPart1 (a b c d e f g : Value) (w : World) : (part 3 #[a, b, c, d, e, f, g] 1).run Tryd.prog w = .ok b w := by kernel_rfl
theorem stPart2 (a b c d e f g : Value) (w : World) : (part 3 #[a, b, c, d, e, f, g] 2).run Tryd.prog w = .ok c w := by kernel_rfl
theorem stPart3 (a b c d e f g : Value) (w : World) : (part 3 #[a, b, c, d, e, f, g] 3).run Tryd.prog w = .ok d w := by kernel_rfl
theorem stPart4 (a b c d e f g : Value) (w : World) : (part 3 #[a, b, c, d, e, f, g] 4).run Tryd.prog w = .ok e w := by kernel_rfl
theorem stPart5 (a b c d e f g : Value) (w : World) : (part 3 #[a, b, c, d, e, f, g] 5).run Tryd.prog w = .ok f w := by kernel_rfl
theorem stPart6 (a b c d e f g : Value) (w : World) : (part 3 #[a, b, c, d, e, f, g] 6).run Tryd.prog w = .ok g w := by kernel_rfl
theorem stInt (a b : Int) (w : World) : (Op.equalIn 9999 3 (.int .i64 a) (.int .i64 b)).run Tryd.prog w = .ok (a == b) w := run_equalIn_int w 9998 _ _ _ a b Tryd.underlying3
theorem state_neq (y : St) (w : World) : (binOp .neq 24 (.agg #[.int .i64 y.g0, .int .i64 y.g1, .int .i64 y.g2, .int .i64 y.g3, .int .i64 y.l, .int .i64 y.s, .int .i64 y.d]) (.agg #[.int .i64 y.g0, .int .i64 y.g1, .int .i64 y.g2, .int .i64 y.g3, .int .i64 y.l, .int .i64 y.s, .int .i64 y.d])).run Tryd.prog w = .ok (.bool false) w := by
  rw [run_neq_struct, run_equalIn_struct w 9999 _ _ _ stateFields stateHeld]
  simp [Program.fieldsOf, Tryd.underlying24, Op.eqFields, stPart0, stPart1, stPart2, stPart3, stPart4, stPart5, stPart6, stInt, Result.andThen]
theorem state_guardN (x y : Operand) (xs ys : Array Value) (w : World) : (eqGuard .neq 24 x y (.agg xs) (.agg ys)).run Tryd.prog w = .ok () w := run_eqGuard_agg w .neq _ x y xs ys (by kernel_rfl)

theorem runT_ok (s : ByteArray) (hs : s.size ≤ 65536) : ∀ f k x z, stOKB x = true → stOKB (runT s f k x z).y = true
  | 0, _, _, _, h => h
  | f + 1, k, x, z, h => by
    unfold runT
    split
    · next hk =>
      split
      · exact runT_ok s hs f _ _ _ (stepT_ok h (nextTok_ok s k hk (Nat.le_trans hs (by decide))))
      · exact h
    · exact h
theorem addR_len (z : List Int) (r : Int) : (addR z r).length ≤ z.length + 1 := by
  unfold addR
  split <;> simp
theorem runT_len (s : ByteArray) : ∀ f k x z, (runT s f k x z).z.length ≤ z.length + f
  | 0, _, _, _ => by simp [runT]
  | f + 1, k, x, z => by
    unfold runT
    split
    · split
      · have := runT_len s f (k + (nextTok s k).n.toNat) (stepT x (nextTok s k)).y (addR z (stepT x (nextTok s k)).r)
        have := addR_len z (stepT x (nextTok s k)).r
        omega
      · dsimp only; omega
    · dsimp only; omega
theorem rsR_len (x : St) (s : ByteArray) : (rsR x s).z.length ≤ 65536 := by
  unfold rsR
  split
  · simp
  · split
    · have := runT_len s s.size 0 x []
      simp at this
      omega
    · simp
theorem rsR_ok {x : St} {t : ByteArray} (hx : stOKB x = true) (ht : t.size ≤ 65536) : stOKB (rsR x t).y = true ∧ Wide64 (rsR x t).y := by
  have h : stOKB (rsR x t).y = true := by
    unfold rsR
    rw [if_neg (by omega), if_pos hx]
    exact runT_ok t ht _ _ _ _ hx
  have := lead_range (stOK_parts h).2.2
  exact ⟨h, by omega, by omega⟩

/-- The state y in its block and one token in its row, as they came. -/
def Im (w0 W : World) (yb : Nat) (y : St) (g o : Nat) (tk : Tok) : Prop := StAt W yb y ∧ (W.cell? ⟨g, o, none⟩ = some (.int .i64 tk.k) ∧ W.cell? ⟨g, o + 1, none⟩ = some (.int .i64 tk.a) ∧ W.cell? ⟨g, o + 2, none⟩ = some (.int .i64 tk.b) ∧ W.cell? ⟨g, o + 3, none⟩ = some (.int .i64 tk.c) ∧ W.cell? ⟨g, o + 4, none⟩ = some (.int .i64 tk.p) ∧ W.cell? ⟨g, o + 5, none⟩ = some (.int .i64 tk.n)) ∧ Below w0.heap.size w0 W
theorem Im.keep {w0 W W' : World} {yb g o : Nat} {y : St} {tk : Tok} (h : Im w0 W yb y g o tk) (b : Below W.heap.size W W') : Im w0 W' yb y g o tk :=
  ⟨h.1.keep b, ⟨cell_since b h.2.1.1, cell_since b h.2.1.2.1, cell_since b h.2.1.2.2.1, cell_since b h.2.1.2.2.2.1, cell_since b h.2.1.2.2.2.2.1, cell_since b h.2.1.2.2.2.2.2⟩, h.2.2.trans (b.mono h.2.2.size)⟩
theorem Im.drew {w0 W : World} {yb g o : Nat} {y : St} {tk : Tok} (h : Im w0 W yb y g o tk) : Im w0 W.drew yb y g o tk := h.keep (below_drewN (Below.refl _ _) 1)
theorem Im.alloc {w0 W : World} {yb g o : Nat} {y : St} {tk : Tok} (h : Im w0 W yb y g o tk) (ob : Obj) : Im w0 (W.alloc ob) yb y g o tk := h.keep (below_one _ _)
/-- What a call of StepState leaves. -/
def CutM (w0 : World) (yb g o : Nat) (y : St) (tk : Tok) (p : Stp) (tr : Int) (tb : Bool) (v5 v6 v7 v8 : Value) (wx : World) : Prop := ∃ gz, v5 = .pointer (some ⟨gz, 0, none⟩) ∧ v6 = .int .i64 tr ∧ v7 = .bool tb ∧ v8 = .int .i64 p.c ∧ StAt wx gz p.y ∧ w0.heap.size ≤ gz ∧ Im w0 wx yb y g o tk
/-- Behind the loop: the run's state and characters. -/
def CutL (W7 : World) (yb : Nat) (q : Rn) (v : Value) (wx : World) : Prop := Own .i64 3 wx (yb + 1) v q.z ∧ StAt wx yb q.y ∧ Only yb W7 wx

theorem put_ok {x : St} {g n : Int} (h : stOKB x = true) (hp : pendB x = false) (g1 : 1 ≤ g) (g3 : g ≤ 3) (n1 : 1 ≤ n) (n8 : n ≤ 8) : stOKB (stPut x g n) = true := by
  have ⟨hs, hd⟩ := calm_parts h hp
  obtain ⟨a0, a1, a2, a3, l, s, d⟩ := x
  dsimp only at hs hd
  subst hs
  subst hd
  have : g = 1 ∨ g = 2 ∨ g = 3 := by omega
  rcases this with rfl | rfl | rfl <;> (simp [stOKB, regsOK, regOK, headOK, leadOK, stGet, stPut, inB] at h ⊢; omega)
theorem start_impl (w : World) : Calls Tryd.prog 20 #[] w (StDone startSt w) := by
  go_enter Tryd.func20, Tryd.ntmps20
  go_wp2
  exact st_ret (y := startSt) rfl rfl rfl (heap_alloc_new _ _) Tryd.underlying24 rfl (by kernel_rfl) rfl (below_one _ _)

theorem cell_put {w : World} {g j i : Nat} {y : St} {u : Value} (hg : g ≠ j) (h : w.cell? ⟨g, i, none⟩ = some u) : (putSt w j y).cell? ⟨g, i, none⟩ = some u := by
  rw [← h]
  unfold World.cell?
  rw [heap_putSt y hg]

/-- What a call of StepState leaves in its variables. -/
def CutS (W : World) (y : St) (tr : Int) (tb : Bool) (c : Int) (v1 v2 v3 v4 : Value) (wx : World) : Prop := ∃ j, v1 = .pointer (some ⟨j, 0, none⟩) ∧ v2 = .int .i64 tr ∧ v3 = .bool tb ∧ v4 = .int .i64 c ∧ W.heap.size ≤ j ∧ StAt wx j y ∧ Below W.heap.size W wx

theorem only_put (b : Nat) (w : World) (y : St) : Only b w (putSt w b y) := ((((((Only.set b 0 w _).trans (Only.set b 1 _ _)).trans (Only.set b 2 _ _)).trans (Only.set b 3 _ _)).trans (Only.set b 4 _ _)).trans (Only.set b 5 _ _)).trans (Only.set b 6 _ _)
theorem only_grown {b : Nat} {w w1 w2 : World} {row : Option Nat} (h : Only b w w1) (g : w1.grownBy w2 row) (hb : b ≤ w.heap.size) (hr : ∀ j, row = some j → w.heap.size ≤ j) : Only b w w2 :=
  ⟨h.1.grown g (Nat.le_trans hb h.1.size) (fun j hj => Nat.le_trans hb (hr j hj)), fun i hi hl => (g.block i (Nat.lt_of_lt_of_le hl h.1.size) (fun he => by have := hr i he.symm; omega)).trans (h.2 i hi hl)⟩

set_option maxHeartbeats 16000000 in
set_option maxRecDepth 100000 in
theorem walk (a : Option Addr) (len cap : Nat) (zs : List Int) (a' : Option Addr) (len' cap' : Nat) (zs' : List Int) (w : World)
    (hr : IsRow .u8 w a len cap zs) (hr' : IsRow .u8 w a' len' cap' zs') (ht : TabM w) :
    Calls Tryd.prog 3 #[.slice a len cap, .slice a' len' cap'] w fun e w' => e = .returned (.bool true) ∧ Below w.heap.size w w' := by
  have HT := Lib.hid ht
  have hi := hr.ints
  have ⟨hl, hm⟩ := hr.length
  have hi' := hr'.ints
  have ⟨hl', hm'⟩ := hr'.length
  have hb := hr.bytes
  have hb' := hr'.bytes
  clear ht hr hr'
  unfold maxLen at hm hm'
  generalize zs.take len = ys at *
  generalize zs'.take len' = ys' at *
  have HI := Lib.hid hi
  have HI' := Lib.hid hi'
  have HB := Lib.hid hb
  have HB' := Lib.hid hb'
  have HL := Lib.hid hl
  have HL' := Lib.hid hl'
  clear hi hi' hb hb' hl hl'
  by_cases h1 : 1048576 < len
  · go_enter Tryd.func3, Tryd.ntmps3
    go_wp2
    go_ret
    exact ⟨rfl, Below.refl _ _⟩
  by_cases h2 : 1048576 < len'
  · go_enter Tryd.func3, Tryd.ntmps3
    go_wp2
    go_ret
    exact ⟨rfl, Below.refl _ _⟩
  go_enter Tryd.func3, Tryd.ntmps3
  go_wp2_with fail
  refine (spec_StateDrawn _ ys _ HI.out HB.out (by have := HL.out; omega)).mono ?_
  rintro e w1 ⟨⟨x, rfl, hx⟩, b1⟩
  have X1 := Lib.hid (StAt.new w1 x)
  unfold stV
  have B1 := Lib.hid (b1.alloc b1.size (.cells #[.int .i64 x.g0, .int .i64 x.g1, .int .i64 x.g2, .int .i64 x.g3, .int .i64 x.l, .int .i64 x.s, .int .i64 x.d] 24))
  have HI1 := Lib.hid (HI'.out.keep B1.out)
  clear b1
  go_wp2_with fail
  refine (spec_RawDrawn _ ys' _ HI1.out HB'.out (by have := HL'.out; omega)).mono ?_
  generalize w1.alloc (.cells #[.int .i64 x.g0, .int .i64 x.g1, .int .i64 x.g2, .int .i64 x.g3, .int .i64 x.l, .int .i64 x.s, .int .i64 x.d] 24) = W1 at *
  rintro e w2 ⟨⟨t, rfl, ht⟩, b2⟩
  have X2 := Lib.hid (X1.out.keep b2)
  have B2 := Lib.hid (B1.out.trans (b2.mono B1.out.size))
  have hw : Wide64 x := by have := lead_range (stOK_parts hx).2.2; exact ⟨by omega, by omega⟩
  have HRI := Lib.hid (fun w ht => impl_RunState x t w ht hw (by omega))
  have HRS := Lib.hid (fun w => spec_RunState x t w (by omega))
  unfold RunDone stV at HRI HRS
  have hq := rsR_ok (t := t) hx (by omega)
  have hzq := rsR_len x t
  have HQ0 : Hid (runT t t.size 0 x [] = rsR x t) := Lib.hid (by rw [rsR, if_neg (by omega), if_pos hx])
  generalize rsR x t = q at *
  clear b2 X1 B1
  have ⟨y0, y1, y2, y3, y4, y5, y6⟩ := X2.out.cells
  go_wp2_with fail
  refine (HRI.out _ (HT.out.keep B2.out)).mono ?_
  clear y0 y1 y2 y3 y4 y5 y6
  rintro e w3 ⟨v1, rfl, o1, b3⟩
  have B3 := Lib.hid (B2.out.trans (b3.mono B2.out.size))
  have X3 := Lib.hid ((X2.out.keep b3).keep (below_one w3 (.cells #[.int .i64 q.y.g0, .int .i64 q.y.g1, .int .i64 q.y.g2, .int .i64 q.y.g3, .int .i64 q.y.l, .int .i64 q.y.s, .int .i64 q.y.d] 24)))
  have V3 := Lib.hid (StAt.new w3 q.y)
  have O3 := Lib.hid (o1.alloc (.cells #[.int .i64 q.y.g0, .int .i64 q.y.g1, .int .i64 q.y.g2, .int .i64 q.y.g3, .int .i64 q.y.l, .int .i64 q.y.s, .int .i64 q.y.d] 24))
  have B3b := Lib.hid (B3.out.alloc B3.out.size (.cells #[.int .i64 q.y.g0, .int .i64 q.y.g1, .int .i64 q.y.g2, .int .i64 q.y.g3, .int .i64 q.y.l, .int .i64 q.y.s, .int .i64 q.y.d] 24))
  clear b3 o1 X2 B2 B3
  have ⟨y0, y1, y2, y3, y4, y5, y6⟩ := X3.out.cells
  go_wp2_with fail
  refine (HRS.out _).mono ?_
  clear y0 y1 y2 y3 y4 y5 y6
  generalize w3.alloc (.cells #[.int .i64 q.y.g0, .int .i64 q.y.g1, .int .i64 q.y.g2, .int .i64 q.y.g3, .int .i64 q.y.l, .int .i64 q.y.s, .int .i64 q.y.d] 24) = W3 at *
  rintro e w4 ⟨v2, rfl, o2, b4⟩
  have B4 := Lib.hid (B3b.out.trans (b4.mono B3b.out.size))
  have X4 := Lib.hid ((X3.out.keep b4).keep (below_one w4 (.cells #[.int .i64 q.y.g0, .int .i64 q.y.g1, .int .i64 q.y.g2, .int .i64 q.y.g3, .int .i64 q.y.l, .int .i64 q.y.s, .int .i64 q.y.d] 24)))
  have V4 := Lib.hid ((V3.out.keep b4).keep (below_one w4 (.cells #[.int .i64 q.y.g0, .int .i64 q.y.g1, .int .i64 q.y.g2, .int .i64 q.y.g3, .int .i64 q.y.l, .int .i64 q.y.s, .int .i64 q.y.d] 24)))
  have U4 := Lib.hid (StAt.new w4 q.y)
  have O4 := Lib.hid ((O3.out.all b4).alloc (.cells #[.int .i64 q.y.g0, .int .i64 q.y.g1, .int .i64 q.y.g2, .int .i64 q.y.g3, .int .i64 q.y.l, .int .i64 q.y.s, .int .i64 q.y.d] 24))
  have P4 := Lib.hid (o2.alloc (.cells #[.int .i64 q.y.g0, .int .i64 q.y.g1, .int .i64 q.y.g2, .int .i64 q.y.g3, .int .i64 q.y.l, .int .i64 q.y.s, .int .i64 q.y.d] 24))
  have B4b := Lib.hid (B4.out.alloc B4.out.size (.cells #[.int .i64 q.y.g0, .int .i64 q.y.g1, .int .i64 q.y.g2, .int .i64 q.y.g3, .int .i64 q.y.l, .int .i64 q.y.s, .int .i64 q.y.d] 24))
  clear b4 o2 X3 V3 O3 B3b B4
  have SN := fun w => state_neq q.y w
  have SG := state_guardN
  have ⟨y0, y1, y2, y3, y4, y5, y6⟩ := V4.out.cells
  have ⟨z0, z1, z2, z3, z4, z5, z6⟩ := U4.out.cells
  go_wp2_with fail
  refine (laws_sameInts _ _ _ _ _ O4.out.ints P4.out.ints (by omega) (by omega)).mono ?_
  clear y0 y1 y2 y3 y4 y5 y6 z0 z1 z2 z3 z4 z5 z6
  generalize w4.alloc (.cells #[.int .i64 q.y.g0, .int .i64 q.y.g1, .int .i64 q.y.g2, .int .i64 q.y.g3, .int .i64 q.y.l, .int .i64 q.y.s, .int .i64 q.y.d] 24) = W4 at *
  rintro e w5 ⟨rfl, q1, rfl⟩
  rw [show decide (q.z = q.z) = true from decide_eq_true rfl]
  have BD := below_drewN (Below.refl W4.heap.size W4) q1
  have X5 := Lib.hid (X4.out.keep BD)
  have V5 := Lib.hid (V4.out.keep BD)
  have U5 := Lib.hid (U4.out.keep BD)
  have P5 := Lib.hid (P4.out.all BD)
  have B5 := Lib.hid (below_drewN B4b.out q1)
  clear BD X4 V4 U4 O4 P4 B4b
  generalize W4.drewN q1 = W5 at *
  have ⟨y0, y1, y2, y3, y4, y5, y6⟩ := V5.out.cells
  go_wp2_with fail
  refine (impl_StateOK q.y _ (HT.out.keep B5.out) hq.2).mono ?_
  clear y0 y1 y2 y3 y4 y5 y6
  rintro e w6 ⟨rfl, b6⟩
  rw [hq.1]
  have X6 := Lib.hid (X5.out.keep b6)
  have U6 := Lib.hid (U5.out.keep b6)
  have P6 := Lib.hid (P5.out.all b6)
  have B6 := Lib.hid (B5.out.trans (b6.mono B5.out.size))
  clear b6 X5 V5 U5 P5 B5
  go_wp2_with fail
  refine (spec_TokensOf t _ (by omega)).mono ?_
  rintro e w7 ⟨v7, rfl, o7, b7⟩
  have X7 := Lib.hid (X6.out.keep b7)
  have U7 := Lib.hid (U6.out.keep b7)
  have P7 := Lib.hid (P6.out.all b7)
  have B7 := Lib.hid (B6.out.trans (b7.mono B6.out.size))
  have ⟨y0, y1, y2, y3, y4, y5, y6⟩ := X7.out.cells
  obtain ⟨va, vc, rfl⟩ := o7.form
  have ⟨hc0, ht0⟩ := tks_all (s := t) (by omega)
  rw [hc0, ht0]
  rw [ht0] at o7
  have K7 := Lib.hid o7.tkAt
  have O7k := Lib.hid o7
  have hkl := toksOf_le t
  clear o7 hc0 ht0
  go_upto_block 0 with fail
  have S7 : Hid (StAt ((w7.alloc (.cells #[.int .i64 x.g0, .int .i64 x.g1, .int .i64 x.g2, .int .i64 x.g3, .int .i64 x.l, .int .i64 x.s, .int .i64 x.d] 24)).alloc (.cells #[] 3)) w7.heap.size x) := Lib.hid (heap_alloc2_old _ _ _)
  have O7 : Hid (Own .i64 3 ((w7.alloc (.cells #[.int .i64 x.g0, .int .i64 x.g1, .int .i64 x.g2, .int .i64 x.g3, .int .i64 x.l, .int .i64 x.s, .int .i64 x.d] 24)).alloc (.cells #[] 3)) (w7.heap.size + 1) (.slice (some ⟨w7.heap.size + 1, 0, none⟩) 0 0) []) := Lib.hid (by
    have := Own.lit .i64 3 (w7.alloc (.cells #[.int .i64 x.g0, .int .i64 x.g1, .int .i64 x.g2, .int .i64 x.g3, .int .i64 x.l, .int .i64 x.s, .int .i64 x.d] 24)) (w7.heap.size + 1) [] (by simp) (by decide)
    simpa using this)
  have bb := below_one w7 (.cells #[.int .i64 x.g0, .int .i64 x.g1, .int .i64 x.g2, .int .i64 x.g3, .int .i64 x.l, .int .i64 x.s, .int .i64 x.d] 24)
  have K8 := Lib.hid (K7.out.keep bb)
  have HGk : Hid (∀ g off, va = some ⟨g, off, none⟩ → g ≠ w7.heap.size) := Lib.hid (fun g off hv => by
    have := (World.ownsRow.lt O7k.out g (by rw [hv]; rfl)).2
    omega)
  have B8 := Lib.hid (B7.out.trans (bb.mono B7.out.size))
  have U8 := Lib.hid (U7.out.keep bb)
  have P8 := Lib.hid (P7.out.all bb)
  have X8 := Lib.hid (X7.out.keep bb)
  have hs8 : (w7.alloc (.cells #[.int .i64 x.g0, .int .i64 x.g1, .int .i64 x.g2, .int .i64 x.g3, .int .i64 x.l, .int .i64 x.s, .int .i64 x.d] 24)).heap.size = w7.heap.size + 1 := by simp
  have hw7 : w.heap.size ≤ w7.heap.size := B7.out.size
  have OnE : Hid (Only w7.heap.size (w7.alloc (.cells #[.int .i64 x.g0, .int .i64 x.g1, .int .i64 x.g2, .int .i64 x.g3, .int .i64 x.l, .int .i64 x.s, .int .i64 x.d] 24)) ((w7.alloc (.cells #[.int .i64 x.g0, .int .i64 x.g1, .int .i64 x.g2, .int .i64 x.g3, .int .i64 x.l, .int .i64 x.s, .int .i64 x.d] 24)).alloc (.cells #[] 3))) := Lib.hid (only_below (by simp) (below_one _ _))
  have HPl := Lib.hid (fun g hg => (World.ownsRow.lt P7.out g hg).2)
  have hX7l : w1.heap.size < w7.heap.size := X7.out.lt
  have hU7l : w4.heap.size < w7.heap.size := U7.out.lt
  clear bb K7 B7 U7 P7 X7 y0 y1 y2 y3 y4 y5 y6
  generalize (w7.alloc (.cells #[.int .i64 x.g0, .int .i64 x.g1, .int .i64 x.g2, .int .i64 x.g3, .int .i64 x.l, .int .i64 x.s, .int .i64 x.d] 24)).alloc (.cells #[] 3) = WE at *
  generalize w7.alloc (.cells #[.int .i64 x.g0, .int .i64 x.g1, .int .i64 x.g2, .int .i64 x.g3, .int .i64 x.l, .int .i64 x.s, .int .i64 x.d] 24) = W7 at *
  have HRun := Lib.hid (show Runs t (runT t t.size 0 x []) 0 x [] from Runs.start hx)
  rw [HQ0.out] at HRun
  go_cut [18] (fun v wx => CutL W7 w7.heap.size q v wx)
  case first =>
    go_wp2_with fail
    go_loopw [18, 19] (fun lv i wr => ∃ k : Nat, k ≤ (toksOf t).length ∧ i = .int .i64 k ∧ Hid (∃ y z, Runs t q k y z ∧ StAt wr w7.heap.size y ∧ Own .i64 3 wr (w7.heap.size + 1) lv z ∧ z.length ≤ k) ∧ Hid (Only w7.heap.size W7 wr)) (fun _ i _ => (toksOf t).length - (intOf i).toNat)
    case atStart => exact ⟨0, Nat.zero_le _, rfl, Lib.hid ⟨x, [], HRun.out, S7.out, O7.out, Nat.le_refl _⟩, OnE⟩
    case round =>
      obtain ⟨k, hk, rfl, HA, HOn⟩ := hrel
      obtain ⟨y, z, hrun, hy, hz, hzl⟩ := HA.out
      by_cases hlt : k < (toksOf t).length
      · have ⟨htk, hst⟩ := hrun.step (by omega) hlt
        obtain ⟨g, off, hva, tcells⟩ : ∃ g off, va = some ⟨g, off, none⟩ ∧ (wr.cell? ⟨g, off + k * 6, none⟩ = some (.int .i64 ((toksOf t)[k]).k) ∧ wr.cell? ⟨g, off + k * 6 + 1, none⟩ = some (.int .i64 ((toksOf t)[k]).a) ∧ wr.cell? ⟨g, off + k * 6 + 2, none⟩ = some (.int .i64 ((toksOf t)[k]).b) ∧ wr.cell? ⟨g, off + k * 6 + 3, none⟩ = some (.int .i64 ((toksOf t)[k]).c) ∧ wr.cell? ⟨g, off + k * 6 + 4, none⟩ = some (.int .i64 ((toksOf t)[k]).p) ∧ wr.cell? ⟨g, off + k * 6 + 5, none⟩ = some (.int .i64 ((toksOf t)[k]).n)) := by
          rcases K8.out with ⟨h0, _⟩ | ⟨g, off, c2, hv, hc⟩
          · rw [h0] at hlt; simp at hlt
          · injection hv with h1 h2 h3
            have hgl := HGk.out g off h1
            have mv : ∀ j u, W7.cell? ⟨g, j, none⟩ = some u → wr.cell? ⟨g, j, none⟩ = some u := fun j u hj => by
              rw [← hj]
              unfold World.cell?
              rw [HOn.out.2 g hgl (World.block_lt_of_cell? W7 _ hj)]
            obtain ⟨c0, c1, c2, c3, c4, c5⟩ := hc k hlt
            exact ⟨g, off, h1, mv _ _ c0, mv _ _ c1, mv _ _ c2, mv _ _ c3, mv _ _ c4, mv _ _ c5⟩
        generalize (toksOf t)[k] = tk at *
        subst hva
        have hss : ssP y tk = stepT y tk := by rw [ssP, if_pos ⟨hrun.1, (tokOKB_iff tk).2 htk⟩]
        have hwy : Wide64 y := by have := lead_range (stOK_parts hrun.1).2.2; exact ⟨by omega, by omega⟩
        have HIm := Lib.hid (fun w ht => impl_StepState y tk w ht hwy)
        have HSp := Lib.hid (fun w => spec_StepState y tk w)
        unfold SsDone at HIm HSp
        rw [hss] at HIm HSp
        have hpok := stepT_ok hrun.1 htk.wide
        have hpc := fun h => stepT_code (x := y) (t := tk) h
        have hpr := stepT_r (x := y) htk.wide
        clear hss
        generalize stepT y tk = p at *
        have HV : Hid (toldV p = .tuple #[stV p.y, .int .i64 (if 0 ≤ p.r then p.r else 0), .bool (decide (0 ≤ p.r)), .int .i64 p.c]) := Lib.hid rfl
        rw [HV.out] at HIm HSp
        have HTR : Hid ((if 0 ≤ p.r then p.r else 0) = (if 0 ≤ p.r then p.r else 0) ∧ True) := Lib.hid ⟨rfl, trivial⟩
        obtain ⟨tr, htr⟩ : ∃ tr, (if 0 ≤ p.r then p.r else 0) = tr := ⟨_, rfl⟩
        obtain ⟨tb, htb⟩ : ∃ tb, decide (0 ≤ p.r) = tb := ⟨_, rfl⟩
        rw [htr, htb] at HIm HSp
        have HTr := Lib.hid htr
        have HTb := Lib.hid htb
        have HPok := Lib.hid hpok
        have HPc := Lib.hid hpc
        have HPr := Lib.hid hpr
        have HSt := Lib.hid hst
        have HRn := Lib.hid hrun
        have HYb := Lib.hid hy
        have HZr := Lib.hid hz
        have HT8 := Lib.hid (fun W (b : Below wr.heap.size wr W) => HT.out.keep ((B8.out.trans (HOn.out.1.mono hw7)).trans (b.mono (by have := HOn.out.1.size; omega))))
        clear HV HTR htr htb hpok hpc hpr hst hrun hwy htk
        unfold stV tokV at HIm HSp
        have h0 : Im wr wr w7.heap.size y g (off + k * 6) tk := ⟨hy, tcells, Below.refl _ _⟩
        have hI := h0
        clear hy hz tcells
        have uk1 : (0 : Int) ≤ (k : Int) := by omega
        have uk2 : (k : Int) < ((toksOf t).length : Int) := by omega
        clear hI
        have HTC := Lib.hid h0.2.1
        clear h0
        go_upto_region 15 with fail
        go_cut [20, 21, 22, 23] (fun v5 v6 v7 v8 wx => CutS wr p.y tr tb p.c v5 v6 v7 v8 wx)
        case first =>
          have hSr : (fun W' : World => StAt W' w7.heap.size y ∧ (W'.cell? ⟨g, off + k * 6, none⟩ = some (.int .i64 tk.k) ∧ W'.cell? ⟨g, off + k * 6 + 1, none⟩ = some (.int .i64 tk.a) ∧ W'.cell? ⟨g, off + k * 6 + 2, none⟩ = some (.int .i64 tk.b) ∧ W'.cell? ⟨g, off + k * 6 + 3, none⟩ = some (.int .i64 tk.c) ∧ W'.cell? ⟨g, off + k * 6 + 4, none⟩ = some (.int .i64 tk.p) ∧ W'.cell? ⟨g, off + k * 6 + 5, none⟩ = some (.int .i64 tk.n))) wr := ⟨HYb.out, HTC.out⟩
          have HSr := Lib.hid hSr
          have HBr := Lib.hid (Below.refl wr.heap.size wr)
          clear hSr
          obtain ⟨w6a, hw6⟩ : ∃ w6a, wr.drew = w6a := ⟨_, rfl⟩
          have bd : Below wr.heap.size wr w6a := by rw [← hw6]; exact below_drewN (Below.refl _ _) 1
          have HBW := Lib.hid bd
          have HBR := Lib.hid (HBr.out.trans (bd.mono HBr.out.size))
          have hgl : g < wr.heap.size := World.block_lt_of_cell? wr _ HSr.out.2.1
          have hyl : w7.heap.size < wr.heap.size := HSr.out.1.lt
          have hS : (fun W' : World => StAt W' w7.heap.size y ∧ (W'.cell? ⟨g, off + k * 6, none⟩ = some (.int .i64 tk.k) ∧ W'.cell? ⟨g, off + k * 6 + 1, none⟩ = some (.int .i64 tk.a) ∧ W'.cell? ⟨g, off + k * 6 + 2, none⟩ = some (.int .i64 tk.b) ∧ W'.cell? ⟨g, off + k * 6 + 3, none⟩ = some (.int .i64 tk.c) ∧ W'.cell? ⟨g, off + k * 6 + 4, none⟩ = some (.int .i64 tk.p) ∧ W'.cell? ⟨g, off + k * 6 + 5, none⟩ = some (.int .i64 tk.n))) w6a := ⟨(HSr.out).1.keep bd, cell_since bd (HSr.out).2.1, cell_since bd (HSr.out).2.2.1, cell_since bd (HSr.out).2.2.2.1, cell_since bd (HSr.out).2.2.2.2.1, cell_since bd (HSr.out).2.2.2.2.2.1, cell_since bd (HSr.out).2.2.2.2.2.2⟩
          have HS6 := Lib.hid hS
          refine region_held_w (S := (fun W' : World => StAt W' w7.heap.size y ∧ (W'.cell? ⟨g, off + k * 6, none⟩ = some (.int .i64 tk.k) ∧ W'.cell? ⟨g, off + k * 6 + 1, none⟩ = some (.int .i64 tk.a) ∧ W'.cell? ⟨g, off + k * 6 + 2, none⟩ = some (.int .i64 tk.b) ∧ W'.cell? ⟨g, off + k * 6 + 3, none⟩ = some (.int .i64 tk.c) ∧ W'.cell? ⟨g, off + k * 6 + 4, none⟩ = some (.int .i64 tk.p) ∧ W'.cell? ⟨g, off + k * 6 + 5, none⟩ = some (.int .i64 tk.n)))) w6a hw6 (by kernel_rfl) ?_
          clear hw6 bd
          refine wpAnyH_take (i := 0) (v := .agg #[.int .i64 y.g0, .int .i64 y.g1, .int .i64 y.g2, .int .i64 y.g3, .int .i64 y.l, .int .i64 y.s, .int .i64 y.d]) rfl (by as_aux_lemma => kernel_rfl) (by as_aux_lemma => kernel_rfl) (by as_aux_lemma => kernel_rfl) (fun _ _ _ h => h) (.inl ⟨by kernel_rfl, fun w' hS' => by have ⟨e0, e1, e2, e3, e4, e5, e6⟩ := hS'.1.cells; go_simp⟩) hS ?_
          refine wpAnyH_take (i := 1) (v := .slice (some ⟨g, off, none⟩) (toksOf t).length vc) rfl (by as_aux_lemma => kernel_rfl) (by as_aux_lemma => kernel_rfl) (by as_aux_lemma => kernel_rfl) (fun _ _ _ h => h) (.inl ⟨by kernel_rfl, fun w' hS' => by go_simp⟩) hS ?_
          refine wpAnyH_take (i := 2) (v := .int .i64 (k : Int)) rfl (by as_aux_lemma => kernel_rfl) (by as_aux_lemma => kernel_rfl) (by as_aux_lemma => kernel_rfl) (fun _ _ _ h => h) (.inl ⟨by kernel_rfl, fun w' hS' => by go_simp⟩) hS ?_
          refine wpAnyH_take (i := 3) (v := .pointer (some ⟨g, off + k * 6, none⟩)) rfl (by as_aux_lemma => kernel_rfl) (by as_aux_lemma => kernel_rfl) (by as_aux_lemma => kernel_rfl) (fun _ _ _ h => h) (.inl ⟨by kernel_rfl, fun w' hS' => by go_simp⟩) hS ?_
          refine wpAnyH_take (i := 4) (v := .agg #[.int .i64 tk.k, .int .i64 tk.a, .int .i64 tk.b, .int .i64 tk.c, .int .i64 tk.p, .int .i64 tk.n]) rfl (by as_aux_lemma => kernel_rfl) (by as_aux_lemma => kernel_rfl) (by as_aux_lemma => kernel_rfl) (fun _ _ _ h => h) (.inl ⟨by kernel_rfl, fun w' hS' => by have ⟨f0, f1, f2, f3, f4, f5⟩ := hS'.2; go_simp⟩) hS ?_
          clear hS
          refine wpAnyH_ready (rs := [5, 11]) (by kernel_rfl) (by simp) (AllReadyH.cons rfl (fun K hK => ?a5) (AllReadyH.cons rfl (fun K hK => ?a11) AllReadyH.nil))
          case a5 =>
            go_simp
            refine (HIm.out _ (HT8.out _ HBR.out)).mono ?_
            rintro e w7a ⟨rfl, b7⟩
            have hS7 : (fun W' : World => StAt W' w7.heap.size y ∧ (W'.cell? ⟨g, off + k * 6, none⟩ = some (.int .i64 tk.k) ∧ W'.cell? ⟨g, off + k * 6 + 1, none⟩ = some (.int .i64 tk.a) ∧ W'.cell? ⟨g, off + k * 6 + 2, none⟩ = some (.int .i64 tk.b) ∧ W'.cell? ⟨g, off + k * 6 + 3, none⟩ = some (.int .i64 tk.c) ∧ W'.cell? ⟨g, off + k * 6 + 4, none⟩ = some (.int .i64 tk.p) ∧ W'.cell? ⟨g, off + k * 6 + 5, none⟩ = some (.int .i64 tk.n))) w7a := ⟨(HS6.out).1.keep b7, cell_since b7 (HS6.out).2.1, cell_since b7 (HS6.out).2.2.1, cell_since b7 (HS6.out).2.2.2.1, cell_since b7 (HS6.out).2.2.2.2.1, cell_since b7 (HS6.out).2.2.2.2.2.1, cell_since b7 (HS6.out).2.2.2.2.2.2⟩
            have HS7 := Lib.hid hS7
            have B7 := HBW.out.trans (b7.mono HBW.out.size)
            refine hK.out _ _ hS7 (fun _ => ?_)
            clear hK K
            have hS := hS7
            clear hS7
            refine wpAnyH_take (i := 6) (v := .tuple #[.agg #[.int .i64 p.y.g0, .int .i64 p.y.g1, .int .i64 p.y.g2, .int .i64 p.y.g3, .int .i64 p.y.l, .int .i64 p.y.s, .int .i64 p.y.d], .int .i64 tr, .bool tb, .int .i64 p.c]) rfl (by as_aux_lemma => kernel_rfl) (by as_aux_lemma => kernel_rfl) (by as_aux_lemma => kernel_rfl) (fun _ _ _ h => h) (.inl ⟨by kernel_rfl, fun w' hS' => by go_simp⟩) hS ?_
            refine wpAnyH_take (i := 7) (v := .agg #[.int .i64 p.y.g0, .int .i64 p.y.g1, .int .i64 p.y.g2, .int .i64 p.y.g3, .int .i64 p.y.l, .int .i64 p.y.s, .int .i64 p.y.d]) rfl (by as_aux_lemma => kernel_rfl) (by as_aux_lemma => kernel_rfl) (by as_aux_lemma => kernel_rfl) (fun _ _ _ h => h) (.inl ⟨by kernel_rfl, fun w' hS' => by go_simp⟩) hS ?_
            refine wpAnyH_take (i := 8) (v := .int .i64 tr) rfl (by as_aux_lemma => kernel_rfl) (by as_aux_lemma => kernel_rfl) (by as_aux_lemma => kernel_rfl) (fun _ _ _ h => h) (.inl ⟨by kernel_rfl, fun w' hS' => by go_simp⟩) hS ?_
            refine wpAnyH_take (i := 9) (v := .bool tb) rfl (by as_aux_lemma => kernel_rfl) (by as_aux_lemma => kernel_rfl) (by as_aux_lemma => kernel_rfl) (fun _ _ _ h => h) (.inl ⟨by kernel_rfl, fun w' hS' => by go_simp⟩) hS ?_
            refine wpAnyH_take (i := 10) (v := .int .i64 p.c) rfl (by as_aux_lemma => kernel_rfl) (by as_aux_lemma => kernel_rfl) (by as_aux_lemma => kernel_rfl) (fun _ _ _ h => h) (.inl ⟨by kernel_rfl, fun w' hS' => by go_simp⟩) hS ?_
            clear hS
            refine wpAnyH_ready (rs := [11]) (by kernel_rfl) (by simp) (AllReadyH.cons rfl (fun K hK => ?_) AllReadyH.nil)
            go_simp
            have Z8 := Lib.hid (stSlot0 w7a)
            have hS8 : (fun W' : World => StAt W' w7.heap.size y ∧ (W'.cell? ⟨g, off + k * 6, none⟩ = some (.int .i64 tk.k) ∧ W'.cell? ⟨g, off + k * 6 + 1, none⟩ = some (.int .i64 tk.a) ∧ W'.cell? ⟨g, off + k * 6 + 2, none⟩ = some (.int .i64 tk.b) ∧ W'.cell? ⟨g, off + k * 6 + 3, none⟩ = some (.int .i64 tk.c) ∧ W'.cell? ⟨g, off + k * 6 + 4, none⟩ = some (.int .i64 tk.p) ∧ W'.cell? ⟨g, off + k * 6 + 5, none⟩ = some (.int .i64 tk.n))) (w7a.alloc (.cells #[.int .i64 0, .int .i64 0, .int .i64 0, .int .i64 0, .int .i64 0, .int .i64 0, .int .i64 0] 24)) := ⟨(HS7.out).1.keep (below_one w7a (.cells #[.int .i64 0, .int .i64 0, .int .i64 0, .int .i64 0, .int .i64 0, .int .i64 0, .int .i64 0] 24)), cell_since (below_one w7a (.cells #[.int .i64 0, .int .i64 0, .int .i64 0, .int .i64 0, .int .i64 0, .int .i64 0, .int .i64 0] 24)) (HS7.out).2.1, cell_since (below_one w7a (.cells #[.int .i64 0, .int .i64 0, .int .i64 0, .int .i64 0, .int .i64 0, .int .i64 0, .int .i64 0] 24)) (HS7.out).2.2.1, cell_since (below_one w7a (.cells #[.int .i64 0, .int .i64 0, .int .i64 0, .int .i64 0, .int .i64 0, .int .i64 0, .int .i64 0] 24)) (HS7.out).2.2.2.1, cell_since (below_one w7a (.cells #[.int .i64 0, .int .i64 0, .int .i64 0, .int .i64 0, .int .i64 0, .int .i64 0, .int .i64 0] 24)) (HS7.out).2.2.2.2.1, cell_since (below_one w7a (.cells #[.int .i64 0, .int .i64 0, .int .i64 0, .int .i64 0, .int .i64 0, .int .i64 0, .int .i64 0] 24)) (HS7.out).2.2.2.2.2.1, cell_since (below_one w7a (.cells #[.int .i64 0, .int .i64 0, .int .i64 0, .int .i64 0, .int .i64 0, .int .i64 0, .int .i64 0] 24)) (HS7.out).2.2.2.2.2.2⟩
            have HS8 := Lib.hid hS8
            have B8 := Lib.hid (B7.alloc B7.size (.cells #[.int .i64 0, .int .i64 0, .int .i64 0, .int .i64 0, .int .i64 0, .int .i64 0, .int .i64 0] 24))
            have hj8 : wr.heap.size ≤ w7a.heap.size := B7.size
            refine hK.out _ _ hS8 (fun _ => ?_)
            clear hK K b7 B7 hS8 HS7
            generalize hj : w7a.heap.size = j at *
            generalize w7a.alloc (.cells #[.int .i64 0, .int .i64 0, .int .i64 0, .int .i64 0, .int .i64 0, .int .i64 0, .int .i64 0] 24) = W8 at *
            refine wpAnyH_ready (rs := [12]) (by kernel_rfl) (by simp) (AllReadyH.cons rfl (fun K hK => ?_) AllReadyH.nil)
            have ⟨r0, r1, r2, r3, r4, r5, r6⟩ := Z8.out.cells
            have ⟨s0, s1, s2, s3, s4, s5, s6⟩ := Z8.out.thaw
            have hlr := Z8.out.lt
            simp only [zeroSt] at r0 r1 r2 r3 r4 r5 r6
            go_simp
            have hS9 : (fun W' : World => StAt W' w7.heap.size y ∧ (W'.cell? ⟨g, off + k * 6, none⟩ = some (.int .i64 tk.k) ∧ W'.cell? ⟨g, off + k * 6 + 1, none⟩ = some (.int .i64 tk.a) ∧ W'.cell? ⟨g, off + k * 6 + 2, none⟩ = some (.int .i64 tk.b) ∧ W'.cell? ⟨g, off + k * 6 + 3, none⟩ = some (.int .i64 tk.c) ∧ W'.cell? ⟨g, off + k * 6 + 4, none⟩ = some (.int .i64 tk.p) ∧ W'.cell? ⟨g, off + k * 6 + 5, none⟩ = some (.int .i64 tk.n))) (putSt W8 j p.y) := ⟨(heap_putSt p.y (by omega)).trans HS8.out.1, cell_put (by omega) HS8.out.2.1, cell_put (by omega) HS8.out.2.2.1, cell_put (by omega) HS8.out.2.2.2.1, cell_put (by omega) HS8.out.2.2.2.2.1, cell_put (by omega) HS8.out.2.2.2.2.2.1, cell_put (by omega) HS8.out.2.2.2.2.2.2⟩
            have HS9 := Lib.hid hS9
            have D9 := Lib.hid (Z8.out.put p.y)
            have B9 := Lib.hid (below_putSt B8.out hj8 p.y)
            refine hK.out _ (putSt W8 j p.y) hS9 (fun _ => ?_)
            clear hK K r0 r1 r2 r3 r4 r5 r6 s0 s1 s2 s3 s4 s5 s6 B8 HS8
            generalize putSt W8 j p.y = W9 at *
            have hS := hS9
            clear hS9
            refine wpAnyH_take (i := 13) (v := .int .i64 tr) rfl (by as_aux_lemma => kernel_rfl) (by as_aux_lemma => kernel_rfl) (by as_aux_lemma => kernel_rfl) (fun _ _ _ h => h) (.inl ⟨by kernel_rfl, fun w' hS' => by go_simp⟩) hS ?_
            refine wpAnyH_take (i := 14) (v := .bool tb) rfl (by as_aux_lemma => kernel_rfl) (by as_aux_lemma => kernel_rfl) (by as_aux_lemma => kernel_rfl) (fun _ _ _ h => h) (.inl ⟨by kernel_rfl, fun w' hS' => by go_simp⟩) hS ?_
            refine wpAnyH_take (i := 15) (v := .int .i64 p.c) rfl (by as_aux_lemma => kernel_rfl) (by as_aux_lemma => kernel_rfl) (by as_aux_lemma => kernel_rfl) (fun _ _ _ h => h) (.inl ⟨by kernel_rfl, fun w' hS' => by go_simp⟩) hS ?_
            refine wpAnyH_done (by kernel_rfl) ?_ _
            clear hS
            go_simp
            go_wp2_with fail
            go_meet
            exact ⟨j, rfl, rfl, rfl, rfl, hj8, D9.out, B9.out⟩
          case a11 =>
            go_simp
            have hS7 : (fun W' : World => StAt W' w7.heap.size y ∧ (W'.cell? ⟨g, off + k * 6, none⟩ = some (.int .i64 tk.k) ∧ W'.cell? ⟨g, off + k * 6 + 1, none⟩ = some (.int .i64 tk.a) ∧ W'.cell? ⟨g, off + k * 6 + 2, none⟩ = some (.int .i64 tk.b) ∧ W'.cell? ⟨g, off + k * 6 + 3, none⟩ = some (.int .i64 tk.c) ∧ W'.cell? ⟨g, off + k * 6 + 4, none⟩ = some (.int .i64 tk.p) ∧ W'.cell? ⟨g, off + k * 6 + 5, none⟩ = some (.int .i64 tk.n))) (w6a.alloc (.cells #[.int .i64 0, .int .i64 0, .int .i64 0, .int .i64 0, .int .i64 0, .int .i64 0, .int .i64 0] 24)) := ⟨(HS6.out).1.keep (below_one w6a (.cells #[.int .i64 0, .int .i64 0, .int .i64 0, .int .i64 0, .int .i64 0, .int .i64 0, .int .i64 0] 24)), cell_since (below_one w6a (.cells #[.int .i64 0, .int .i64 0, .int .i64 0, .int .i64 0, .int .i64 0, .int .i64 0, .int .i64 0] 24)) (HS6.out).2.1, cell_since (below_one w6a (.cells #[.int .i64 0, .int .i64 0, .int .i64 0, .int .i64 0, .int .i64 0, .int .i64 0, .int .i64 0] 24)) (HS6.out).2.2.1, cell_since (below_one w6a (.cells #[.int .i64 0, .int .i64 0, .int .i64 0, .int .i64 0, .int .i64 0, .int .i64 0, .int .i64 0] 24)) (HS6.out).2.2.2.1, cell_since (below_one w6a (.cells #[.int .i64 0, .int .i64 0, .int .i64 0, .int .i64 0, .int .i64 0, .int .i64 0, .int .i64 0] 24)) (HS6.out).2.2.2.2.1, cell_since (below_one w6a (.cells #[.int .i64 0, .int .i64 0, .int .i64 0, .int .i64 0, .int .i64 0, .int .i64 0, .int .i64 0] 24)) (HS6.out).2.2.2.2.2.1, cell_since (below_one w6a (.cells #[.int .i64 0, .int .i64 0, .int .i64 0, .int .i64 0, .int .i64 0, .int .i64 0, .int .i64 0] 24)) (HS6.out).2.2.2.2.2.2⟩
            have HS7 := Lib.hid hS7
            have Z7 := Lib.hid (stSlot0 w6a)
            have B7 := Lib.hid (HBR.out.alloc HBR.out.size (.cells #[.int .i64 0, .int .i64 0, .int .i64 0, .int .i64 0, .int .i64 0, .int .i64 0, .int .i64 0] 24))
            have BW7 := Lib.hid (HBW.out.alloc HBW.out.size (.cells #[.int .i64 0, .int .i64 0, .int .i64 0, .int .i64 0, .int .i64 0, .int .i64 0, .int .i64 0] 24))
            have hj8 : wr.heap.size ≤ w6a.heap.size := HBW.out.size
            refine hK.out _ _ hS7 (fun _ => ?_)
            clear hK K hS7
            generalize hj : w6a.heap.size = j at *
            generalize w6a.alloc (.cells #[.int .i64 0, .int .i64 0, .int .i64 0, .int .i64 0, .int .i64 0, .int .i64 0, .int .i64 0] 24) = W7a at *
            refine wpAnyH_ready (rs := [5]) (by kernel_rfl) (by simp) (AllReadyH.cons rfl (fun K hK => ?_) AllReadyH.nil)
            go_simp
            refine (HIm.out _ (HT8.out _ B7.out)).mono ?_
            rintro e W8 ⟨rfl, b7⟩
            have hS8 : (fun W' : World => StAt W' w7.heap.size y ∧ (W'.cell? ⟨g, off + k * 6, none⟩ = some (.int .i64 tk.k) ∧ W'.cell? ⟨g, off + k * 6 + 1, none⟩ = some (.int .i64 tk.a) ∧ W'.cell? ⟨g, off + k * 6 + 2, none⟩ = some (.int .i64 tk.b) ∧ W'.cell? ⟨g, off + k * 6 + 3, none⟩ = some (.int .i64 tk.c) ∧ W'.cell? ⟨g, off + k * 6 + 4, none⟩ = some (.int .i64 tk.p) ∧ W'.cell? ⟨g, off + k * 6 + 5, none⟩ = some (.int .i64 tk.n))) W8 := ⟨(HS7.out).1.keep b7, cell_since b7 (HS7.out).2.1, cell_since b7 (HS7.out).2.2.1, cell_since b7 (HS7.out).2.2.2.1, cell_since b7 (HS7.out).2.2.2.2.1, cell_since b7 (HS7.out).2.2.2.2.2.1, cell_since b7 (HS7.out).2.2.2.2.2.2⟩
            have HS8 := Lib.hid hS8
            have Z8 := Lib.hid (Z7.out.keep b7)
            have B8 := Lib.hid (BW7.out.trans (b7.mono BW7.out.size))
            refine hK.out _ _ hS8 (fun _ => ?_)
            clear hK K b7 HS7 Z7 B7 BW7
            have hS := hS8
            clear hS8
            refine wpAnyH_take (i := 6) (v := .tuple #[.agg #[.int .i64 p.y.g0, .int .i64 p.y.g1, .int .i64 p.y.g2, .int .i64 p.y.g3, .int .i64 p.y.l, .int .i64 p.y.s, .int .i64 p.y.d], .int .i64 tr, .bool tb, .int .i64 p.c]) rfl (by as_aux_lemma => kernel_rfl) (by as_aux_lemma => kernel_rfl) (by as_aux_lemma => kernel_rfl) (fun _ _ _ h => h) (.inl ⟨by kernel_rfl, fun w' hS' => by go_simp⟩) hS ?_
            refine wpAnyH_take (i := 7) (v := .agg #[.int .i64 p.y.g0, .int .i64 p.y.g1, .int .i64 p.y.g2, .int .i64 p.y.g3, .int .i64 p.y.l, .int .i64 p.y.s, .int .i64 p.y.d]) rfl (by as_aux_lemma => kernel_rfl) (by as_aux_lemma => kernel_rfl) (by as_aux_lemma => kernel_rfl) (fun _ _ _ h => h) (.inl ⟨by kernel_rfl, fun w' hS' => by go_simp⟩) hS ?_
            refine wpAnyH_take (i := 8) (v := .int .i64 tr) rfl (by as_aux_lemma => kernel_rfl) (by as_aux_lemma => kernel_rfl) (by as_aux_lemma => kernel_rfl) (fun _ _ _ h => h) (.inl ⟨by kernel_rfl, fun w' hS' => by go_simp⟩) hS ?_
            refine wpAnyH_take (i := 9) (v := .bool tb) rfl (by as_aux_lemma => kernel_rfl) (by as_aux_lemma => kernel_rfl) (by as_aux_lemma => kernel_rfl) (fun _ _ _ h => h) (.inl ⟨by kernel_rfl, fun w' hS' => by go_simp⟩) hS ?_
            refine wpAnyH_take (i := 10) (v := .int .i64 p.c) rfl (by as_aux_lemma => kernel_rfl) (by as_aux_lemma => kernel_rfl) (by as_aux_lemma => kernel_rfl) (fun _ _ _ h => h) (.inl ⟨by kernel_rfl, fun w' hS' => by go_simp⟩) hS ?_
            clear hS
            refine wpAnyH_ready (rs := [12]) (by kernel_rfl) (by simp) (AllReadyH.cons rfl (fun K hK => ?_) AllReadyH.nil)
            have ⟨r0, r1, r2, r3, r4, r5, r6⟩ := Z8.out.cells
            have ⟨s0, s1, s2, s3, s4, s5, s6⟩ := Z8.out.thaw
            have hlr := Z8.out.lt
            simp only [zeroSt] at r0 r1 r2 r3 r4 r5 r6
            go_simp
            have hS9 : (fun W' : World => StAt W' w7.heap.size y ∧ (W'.cell? ⟨g, off + k * 6, none⟩ = some (.int .i64 tk.k) ∧ W'.cell? ⟨g, off + k * 6 + 1, none⟩ = some (.int .i64 tk.a) ∧ W'.cell? ⟨g, off + k * 6 + 2, none⟩ = some (.int .i64 tk.b) ∧ W'.cell? ⟨g, off + k * 6 + 3, none⟩ = some (.int .i64 tk.c) ∧ W'.cell? ⟨g, off + k * 6 + 4, none⟩ = some (.int .i64 tk.p) ∧ W'.cell? ⟨g, off + k * 6 + 5, none⟩ = some (.int .i64 tk.n))) (putSt W8 j p.y) := ⟨(heap_putSt p.y (by omega)).trans HS8.out.1, cell_put (by omega) HS8.out.2.1, cell_put (by omega) HS8.out.2.2.1, cell_put (by omega) HS8.out.2.2.2.1, cell_put (by omega) HS8.out.2.2.2.2.1, cell_put (by omega) HS8.out.2.2.2.2.2.1, cell_put (by omega) HS8.out.2.2.2.2.2.2⟩
            have HS9 := Lib.hid hS9
            have D9 := Lib.hid (Z8.out.put p.y)
            have B9 := Lib.hid (below_putSt B8.out hj8 p.y)
            refine hK.out _ (putSt W8 j p.y) hS9 (fun _ => ?_)
            clear hK K r0 r1 r2 r3 r4 r5 r6 s0 s1 s2 s3 s4 s5 s6 B8 HS8
            generalize putSt W8 j p.y = W9 at *
            have hS := hS9
            clear hS9
            refine wpAnyH_take (i := 13) (v := .int .i64 tr) rfl (by as_aux_lemma => kernel_rfl) (by as_aux_lemma => kernel_rfl) (by as_aux_lemma => kernel_rfl) (fun _ _ _ h => h) (.inl ⟨by kernel_rfl, fun w' hS' => by go_simp⟩) hS ?_
            refine wpAnyH_take (i := 14) (v := .bool tb) rfl (by as_aux_lemma => kernel_rfl) (by as_aux_lemma => kernel_rfl) (by as_aux_lemma => kernel_rfl) (fun _ _ _ h => h) (.inl ⟨by kernel_rfl, fun w' hS' => by go_simp⟩) hS ?_
            refine wpAnyH_take (i := 15) (v := .int .i64 p.c) rfl (by as_aux_lemma => kernel_rfl) (by as_aux_lemma => kernel_rfl) (by as_aux_lemma => kernel_rfl) (fun _ _ _ h => h) (.inl ⟨by kernel_rfl, fun w' hS' => by go_simp⟩) hS ?_
            refine wpAnyH_done (by kernel_rfl) ?_ _
            clear hS
            go_simp
            go_wp2_with fail
            go_meet
            exact ⟨j, rfl, rfl, rfl, rfl, hj8, D9.out, B9.out⟩
        case rest =>
        obtain ⟨gz, rfl, rfl, rfl, rfl, hgz, hZ, hB⟩ := hcut
        have HZ1 := Lib.hid hZ
        have HY1 := Lib.hid (HYb.out.keep hB)
        have HS1 : Hid ((fun W' : World => StAt W' w7.heap.size y ∧ (W'.cell? ⟨g, off + k * 6, none⟩ = some (.int .i64 tk.k) ∧ W'.cell? ⟨g, off + k * 6 + 1, none⟩ = some (.int .i64 tk.a) ∧ W'.cell? ⟨g, off + k * 6 + 2, none⟩ = some (.int .i64 tk.b) ∧ W'.cell? ⟨g, off + k * 6 + 3, none⟩ = some (.int .i64 tk.c) ∧ W'.cell? ⟨g, off + k * 6 + 4, none⟩ = some (.int .i64 tk.p) ∧ W'.cell? ⟨g, off + k * 6 + 5, none⟩ = some (.int .i64 tk.n))) wc) := Lib.hid ⟨HYb.out.keep hB, cell_since hB HTC.out.1, cell_since hB HTC.out.2.1, cell_since hB HTC.out.2.2.1, cell_since hB HTC.out.2.2.2.1, cell_since hB HTC.out.2.2.2.2.1, cell_since hB HTC.out.2.2.2.2.2⟩
        have Bc1 := Lib.hid hB
        clear hZ hB HIm
        generalize wc = wA at *
        go_upto_region 16 with fail
        go_cut [24, 25, 26, 27] (fun v5 v6 v7 v8 wx => CutS wA p.y tr tb p.c v5 v6 v7 v8 wx)
        case first =>
          obtain ⟨w6a, hw6⟩ : ∃ w6a, wA.drew = w6a := ⟨_, rfl⟩
          have bd : Below wA.heap.size wA w6a := by rw [← hw6]; exact below_drewN (Below.refl _ _) 1
          have HBW := Lib.hid bd
          have HBR := Lib.hid (Bc1.out.trans (bd.mono Bc1.out.size))
          have hgl : g < wA.heap.size := World.block_lt_of_cell? wA _ HS1.out.2.1
          have hyl : w7.heap.size < wA.heap.size := HS1.out.1.lt
          have hS : (fun W' : World => StAt W' w7.heap.size y ∧ (W'.cell? ⟨g, off + k * 6, none⟩ = some (.int .i64 tk.k) ∧ W'.cell? ⟨g, off + k * 6 + 1, none⟩ = some (.int .i64 tk.a) ∧ W'.cell? ⟨g, off + k * 6 + 2, none⟩ = some (.int .i64 tk.b) ∧ W'.cell? ⟨g, off + k * 6 + 3, none⟩ = some (.int .i64 tk.c) ∧ W'.cell? ⟨g, off + k * 6 + 4, none⟩ = some (.int .i64 tk.p) ∧ W'.cell? ⟨g, off + k * 6 + 5, none⟩ = some (.int .i64 tk.n))) w6a := ⟨(HS1.out).1.keep bd, cell_since bd (HS1.out).2.1, cell_since bd (HS1.out).2.2.1, cell_since bd (HS1.out).2.2.2.1, cell_since bd (HS1.out).2.2.2.2.1, cell_since bd (HS1.out).2.2.2.2.2.1, cell_since bd (HS1.out).2.2.2.2.2.2⟩
          have HS6 := Lib.hid hS
          refine region_held_w (S := (fun W' : World => StAt W' w7.heap.size y ∧ (W'.cell? ⟨g, off + k * 6, none⟩ = some (.int .i64 tk.k) ∧ W'.cell? ⟨g, off + k * 6 + 1, none⟩ = some (.int .i64 tk.a) ∧ W'.cell? ⟨g, off + k * 6 + 2, none⟩ = some (.int .i64 tk.b) ∧ W'.cell? ⟨g, off + k * 6 + 3, none⟩ = some (.int .i64 tk.c) ∧ W'.cell? ⟨g, off + k * 6 + 4, none⟩ = some (.int .i64 tk.p) ∧ W'.cell? ⟨g, off + k * 6 + 5, none⟩ = some (.int .i64 tk.n)))) w6a hw6 (by kernel_rfl) ?_
          clear hw6 bd
          refine wpAnyH_take (i := 0) (v := .agg #[.int .i64 y.g0, .int .i64 y.g1, .int .i64 y.g2, .int .i64 y.g3, .int .i64 y.l, .int .i64 y.s, .int .i64 y.d]) rfl (by as_aux_lemma => kernel_rfl) (by as_aux_lemma => kernel_rfl) (by as_aux_lemma => kernel_rfl) (fun _ _ _ h => h) (.inl ⟨by kernel_rfl, fun w' hS' => by have ⟨e0, e1, e2, e3, e4, e5, e6⟩ := hS'.1.cells; go_simp⟩) hS ?_
          refine wpAnyH_take (i := 1) (v := .slice (some ⟨g, off, none⟩) (toksOf t).length vc) rfl (by as_aux_lemma => kernel_rfl) (by as_aux_lemma => kernel_rfl) (by as_aux_lemma => kernel_rfl) (fun _ _ _ h => h) (.inl ⟨by kernel_rfl, fun w' hS' => by go_simp⟩) hS ?_
          refine wpAnyH_take (i := 2) (v := .int .i64 (k : Int)) rfl (by as_aux_lemma => kernel_rfl) (by as_aux_lemma => kernel_rfl) (by as_aux_lemma => kernel_rfl) (fun _ _ _ h => h) (.inl ⟨by kernel_rfl, fun w' hS' => by go_simp⟩) hS ?_
          refine wpAnyH_take (i := 3) (v := .pointer (some ⟨g, off + k * 6, none⟩)) rfl (by as_aux_lemma => kernel_rfl) (by as_aux_lemma => kernel_rfl) (by as_aux_lemma => kernel_rfl) (fun _ _ _ h => h) (.inl ⟨by kernel_rfl, fun w' hS' => by go_simp⟩) hS ?_
          refine wpAnyH_take (i := 4) (v := .agg #[.int .i64 tk.k, .int .i64 tk.a, .int .i64 tk.b, .int .i64 tk.c, .int .i64 tk.p, .int .i64 tk.n]) rfl (by as_aux_lemma => kernel_rfl) (by as_aux_lemma => kernel_rfl) (by as_aux_lemma => kernel_rfl) (fun _ _ _ h => h) (.inl ⟨by kernel_rfl, fun w' hS' => by have ⟨f0, f1, f2, f3, f4, f5⟩ := hS'.2; go_simp⟩) hS ?_
          clear hS
          refine wpAnyH_ready (rs := [5, 11]) (by kernel_rfl) (by simp) (AllReadyH.cons rfl (fun K hK => ?a5) (AllReadyH.cons rfl (fun K hK => ?a11) AllReadyH.nil))
          case a5 =>
            go_simp
            refine (HSp.out _).mono ?_
            rintro e w7a ⟨rfl, b7⟩
            have hS7 : (fun W' : World => StAt W' w7.heap.size y ∧ (W'.cell? ⟨g, off + k * 6, none⟩ = some (.int .i64 tk.k) ∧ W'.cell? ⟨g, off + k * 6 + 1, none⟩ = some (.int .i64 tk.a) ∧ W'.cell? ⟨g, off + k * 6 + 2, none⟩ = some (.int .i64 tk.b) ∧ W'.cell? ⟨g, off + k * 6 + 3, none⟩ = some (.int .i64 tk.c) ∧ W'.cell? ⟨g, off + k * 6 + 4, none⟩ = some (.int .i64 tk.p) ∧ W'.cell? ⟨g, off + k * 6 + 5, none⟩ = some (.int .i64 tk.n))) w7a := ⟨(HS6.out).1.keep b7, cell_since b7 (HS6.out).2.1, cell_since b7 (HS6.out).2.2.1, cell_since b7 (HS6.out).2.2.2.1, cell_since b7 (HS6.out).2.2.2.2.1, cell_since b7 (HS6.out).2.2.2.2.2.1, cell_since b7 (HS6.out).2.2.2.2.2.2⟩
            have HS7 := Lib.hid hS7
            have B7 := HBW.out.trans (b7.mono HBW.out.size)
            refine hK.out _ _ hS7 (fun _ => ?_)
            clear hK K
            have hS := hS7
            clear hS7
            refine wpAnyH_take (i := 6) (v := .tuple #[.agg #[.int .i64 p.y.g0, .int .i64 p.y.g1, .int .i64 p.y.g2, .int .i64 p.y.g3, .int .i64 p.y.l, .int .i64 p.y.s, .int .i64 p.y.d], .int .i64 tr, .bool tb, .int .i64 p.c]) rfl (by as_aux_lemma => kernel_rfl) (by as_aux_lemma => kernel_rfl) (by as_aux_lemma => kernel_rfl) (fun _ _ _ h => h) (.inl ⟨by kernel_rfl, fun w' hS' => by go_simp⟩) hS ?_
            refine wpAnyH_take (i := 7) (v := .agg #[.int .i64 p.y.g0, .int .i64 p.y.g1, .int .i64 p.y.g2, .int .i64 p.y.g3, .int .i64 p.y.l, .int .i64 p.y.s, .int .i64 p.y.d]) rfl (by as_aux_lemma => kernel_rfl) (by as_aux_lemma => kernel_rfl) (by as_aux_lemma => kernel_rfl) (fun _ _ _ h => h) (.inl ⟨by kernel_rfl, fun w' hS' => by go_simp⟩) hS ?_
            refine wpAnyH_take (i := 8) (v := .int .i64 tr) rfl (by as_aux_lemma => kernel_rfl) (by as_aux_lemma => kernel_rfl) (by as_aux_lemma => kernel_rfl) (fun _ _ _ h => h) (.inl ⟨by kernel_rfl, fun w' hS' => by go_simp⟩) hS ?_
            refine wpAnyH_take (i := 9) (v := .bool tb) rfl (by as_aux_lemma => kernel_rfl) (by as_aux_lemma => kernel_rfl) (by as_aux_lemma => kernel_rfl) (fun _ _ _ h => h) (.inl ⟨by kernel_rfl, fun w' hS' => by go_simp⟩) hS ?_
            refine wpAnyH_take (i := 10) (v := .int .i64 p.c) rfl (by as_aux_lemma => kernel_rfl) (by as_aux_lemma => kernel_rfl) (by as_aux_lemma => kernel_rfl) (fun _ _ _ h => h) (.inl ⟨by kernel_rfl, fun w' hS' => by go_simp⟩) hS ?_
            clear hS
            refine wpAnyH_ready (rs := [11]) (by kernel_rfl) (by simp) (AllReadyH.cons rfl (fun K hK => ?_) AllReadyH.nil)
            go_simp
            have Z8 := Lib.hid (stSlot0 w7a)
            have hS8 : (fun W' : World => StAt W' w7.heap.size y ∧ (W'.cell? ⟨g, off + k * 6, none⟩ = some (.int .i64 tk.k) ∧ W'.cell? ⟨g, off + k * 6 + 1, none⟩ = some (.int .i64 tk.a) ∧ W'.cell? ⟨g, off + k * 6 + 2, none⟩ = some (.int .i64 tk.b) ∧ W'.cell? ⟨g, off + k * 6 + 3, none⟩ = some (.int .i64 tk.c) ∧ W'.cell? ⟨g, off + k * 6 + 4, none⟩ = some (.int .i64 tk.p) ∧ W'.cell? ⟨g, off + k * 6 + 5, none⟩ = some (.int .i64 tk.n))) (w7a.alloc (.cells #[.int .i64 0, .int .i64 0, .int .i64 0, .int .i64 0, .int .i64 0, .int .i64 0, .int .i64 0] 24)) := ⟨(HS7.out).1.keep (below_one w7a (.cells #[.int .i64 0, .int .i64 0, .int .i64 0, .int .i64 0, .int .i64 0, .int .i64 0, .int .i64 0] 24)), cell_since (below_one w7a (.cells #[.int .i64 0, .int .i64 0, .int .i64 0, .int .i64 0, .int .i64 0, .int .i64 0, .int .i64 0] 24)) (HS7.out).2.1, cell_since (below_one w7a (.cells #[.int .i64 0, .int .i64 0, .int .i64 0, .int .i64 0, .int .i64 0, .int .i64 0, .int .i64 0] 24)) (HS7.out).2.2.1, cell_since (below_one w7a (.cells #[.int .i64 0, .int .i64 0, .int .i64 0, .int .i64 0, .int .i64 0, .int .i64 0, .int .i64 0] 24)) (HS7.out).2.2.2.1, cell_since (below_one w7a (.cells #[.int .i64 0, .int .i64 0, .int .i64 0, .int .i64 0, .int .i64 0, .int .i64 0, .int .i64 0] 24)) (HS7.out).2.2.2.2.1, cell_since (below_one w7a (.cells #[.int .i64 0, .int .i64 0, .int .i64 0, .int .i64 0, .int .i64 0, .int .i64 0, .int .i64 0] 24)) (HS7.out).2.2.2.2.2.1, cell_since (below_one w7a (.cells #[.int .i64 0, .int .i64 0, .int .i64 0, .int .i64 0, .int .i64 0, .int .i64 0, .int .i64 0] 24)) (HS7.out).2.2.2.2.2.2⟩
            have HS8 := Lib.hid hS8
            have B8 := Lib.hid (B7.alloc B7.size (.cells #[.int .i64 0, .int .i64 0, .int .i64 0, .int .i64 0, .int .i64 0, .int .i64 0, .int .i64 0] 24))
            have hj8 : wA.heap.size ≤ w7a.heap.size := B7.size
            refine hK.out _ _ hS8 (fun _ => ?_)
            clear hK K b7 B7 hS8 HS7
            generalize hj : w7a.heap.size = j at *
            generalize w7a.alloc (.cells #[.int .i64 0, .int .i64 0, .int .i64 0, .int .i64 0, .int .i64 0, .int .i64 0, .int .i64 0] 24) = W8 at *
            refine wpAnyH_ready (rs := [12]) (by kernel_rfl) (by simp) (AllReadyH.cons rfl (fun K hK => ?_) AllReadyH.nil)
            have ⟨r0, r1, r2, r3, r4, r5, r6⟩ := Z8.out.cells
            have ⟨s0, s1, s2, s3, s4, s5, s6⟩ := Z8.out.thaw
            have hlr := Z8.out.lt
            simp only [zeroSt] at r0 r1 r2 r3 r4 r5 r6
            go_simp
            have hS9 : (fun W' : World => StAt W' w7.heap.size y ∧ (W'.cell? ⟨g, off + k * 6, none⟩ = some (.int .i64 tk.k) ∧ W'.cell? ⟨g, off + k * 6 + 1, none⟩ = some (.int .i64 tk.a) ∧ W'.cell? ⟨g, off + k * 6 + 2, none⟩ = some (.int .i64 tk.b) ∧ W'.cell? ⟨g, off + k * 6 + 3, none⟩ = some (.int .i64 tk.c) ∧ W'.cell? ⟨g, off + k * 6 + 4, none⟩ = some (.int .i64 tk.p) ∧ W'.cell? ⟨g, off + k * 6 + 5, none⟩ = some (.int .i64 tk.n))) (putSt W8 j p.y) := ⟨(heap_putSt p.y (by omega)).trans HS8.out.1, cell_put (by omega) HS8.out.2.1, cell_put (by omega) HS8.out.2.2.1, cell_put (by omega) HS8.out.2.2.2.1, cell_put (by omega) HS8.out.2.2.2.2.1, cell_put (by omega) HS8.out.2.2.2.2.2.1, cell_put (by omega) HS8.out.2.2.2.2.2.2⟩
            have HS9 := Lib.hid hS9
            have D9 := Lib.hid (Z8.out.put p.y)
            have B9 := Lib.hid (below_putSt B8.out hj8 p.y)
            refine hK.out _ (putSt W8 j p.y) hS9 (fun _ => ?_)
            clear hK K r0 r1 r2 r3 r4 r5 r6 s0 s1 s2 s3 s4 s5 s6 B8 HS8
            generalize putSt W8 j p.y = W9 at *
            have hS := hS9
            clear hS9
            refine wpAnyH_take (i := 13) (v := .int .i64 tr) rfl (by as_aux_lemma => kernel_rfl) (by as_aux_lemma => kernel_rfl) (by as_aux_lemma => kernel_rfl) (fun _ _ _ h => h) (.inl ⟨by kernel_rfl, fun w' hS' => by go_simp⟩) hS ?_
            refine wpAnyH_take (i := 14) (v := .bool tb) rfl (by as_aux_lemma => kernel_rfl) (by as_aux_lemma => kernel_rfl) (by as_aux_lemma => kernel_rfl) (fun _ _ _ h => h) (.inl ⟨by kernel_rfl, fun w' hS' => by go_simp⟩) hS ?_
            refine wpAnyH_take (i := 15) (v := .int .i64 p.c) rfl (by as_aux_lemma => kernel_rfl) (by as_aux_lemma => kernel_rfl) (by as_aux_lemma => kernel_rfl) (fun _ _ _ h => h) (.inl ⟨by kernel_rfl, fun w' hS' => by go_simp⟩) hS ?_
            refine wpAnyH_done (by kernel_rfl) ?_ _
            clear hS
            go_simp
            go_wp2_with fail
            go_meet
            exact ⟨j, rfl, rfl, rfl, rfl, hj8, D9.out, B9.out⟩
          case a11 =>
            go_simp
            have hS7 : (fun W' : World => StAt W' w7.heap.size y ∧ (W'.cell? ⟨g, off + k * 6, none⟩ = some (.int .i64 tk.k) ∧ W'.cell? ⟨g, off + k * 6 + 1, none⟩ = some (.int .i64 tk.a) ∧ W'.cell? ⟨g, off + k * 6 + 2, none⟩ = some (.int .i64 tk.b) ∧ W'.cell? ⟨g, off + k * 6 + 3, none⟩ = some (.int .i64 tk.c) ∧ W'.cell? ⟨g, off + k * 6 + 4, none⟩ = some (.int .i64 tk.p) ∧ W'.cell? ⟨g, off + k * 6 + 5, none⟩ = some (.int .i64 tk.n))) (w6a.alloc (.cells #[.int .i64 0, .int .i64 0, .int .i64 0, .int .i64 0, .int .i64 0, .int .i64 0, .int .i64 0] 24)) := ⟨(HS6.out).1.keep (below_one w6a (.cells #[.int .i64 0, .int .i64 0, .int .i64 0, .int .i64 0, .int .i64 0, .int .i64 0, .int .i64 0] 24)), cell_since (below_one w6a (.cells #[.int .i64 0, .int .i64 0, .int .i64 0, .int .i64 0, .int .i64 0, .int .i64 0, .int .i64 0] 24)) (HS6.out).2.1, cell_since (below_one w6a (.cells #[.int .i64 0, .int .i64 0, .int .i64 0, .int .i64 0, .int .i64 0, .int .i64 0, .int .i64 0] 24)) (HS6.out).2.2.1, cell_since (below_one w6a (.cells #[.int .i64 0, .int .i64 0, .int .i64 0, .int .i64 0, .int .i64 0, .int .i64 0, .int .i64 0] 24)) (HS6.out).2.2.2.1, cell_since (below_one w6a (.cells #[.int .i64 0, .int .i64 0, .int .i64 0, .int .i64 0, .int .i64 0, .int .i64 0, .int .i64 0] 24)) (HS6.out).2.2.2.2.1, cell_since (below_one w6a (.cells #[.int .i64 0, .int .i64 0, .int .i64 0, .int .i64 0, .int .i64 0, .int .i64 0, .int .i64 0] 24)) (HS6.out).2.2.2.2.2.1, cell_since (below_one w6a (.cells #[.int .i64 0, .int .i64 0, .int .i64 0, .int .i64 0, .int .i64 0, .int .i64 0, .int .i64 0] 24)) (HS6.out).2.2.2.2.2.2⟩
            have HS7 := Lib.hid hS7
            have Z7 := Lib.hid (stSlot0 w6a)
            have B7 := Lib.hid (HBR.out.alloc HBR.out.size (.cells #[.int .i64 0, .int .i64 0, .int .i64 0, .int .i64 0, .int .i64 0, .int .i64 0, .int .i64 0] 24))
            have BW7 := Lib.hid (HBW.out.alloc HBW.out.size (.cells #[.int .i64 0, .int .i64 0, .int .i64 0, .int .i64 0, .int .i64 0, .int .i64 0, .int .i64 0] 24))
            have hj8 : wA.heap.size ≤ w6a.heap.size := HBW.out.size
            refine hK.out _ _ hS7 (fun _ => ?_)
            clear hK K hS7
            generalize hj : w6a.heap.size = j at *
            generalize w6a.alloc (.cells #[.int .i64 0, .int .i64 0, .int .i64 0, .int .i64 0, .int .i64 0, .int .i64 0, .int .i64 0] 24) = W7a at *
            refine wpAnyH_ready (rs := [5]) (by kernel_rfl) (by simp) (AllReadyH.cons rfl (fun K hK => ?_) AllReadyH.nil)
            go_simp
            refine (HSp.out _).mono ?_
            rintro e W8 ⟨rfl, b7⟩
            have hS8 : (fun W' : World => StAt W' w7.heap.size y ∧ (W'.cell? ⟨g, off + k * 6, none⟩ = some (.int .i64 tk.k) ∧ W'.cell? ⟨g, off + k * 6 + 1, none⟩ = some (.int .i64 tk.a) ∧ W'.cell? ⟨g, off + k * 6 + 2, none⟩ = some (.int .i64 tk.b) ∧ W'.cell? ⟨g, off + k * 6 + 3, none⟩ = some (.int .i64 tk.c) ∧ W'.cell? ⟨g, off + k * 6 + 4, none⟩ = some (.int .i64 tk.p) ∧ W'.cell? ⟨g, off + k * 6 + 5, none⟩ = some (.int .i64 tk.n))) W8 := ⟨(HS7.out).1.keep b7, cell_since b7 (HS7.out).2.1, cell_since b7 (HS7.out).2.2.1, cell_since b7 (HS7.out).2.2.2.1, cell_since b7 (HS7.out).2.2.2.2.1, cell_since b7 (HS7.out).2.2.2.2.2.1, cell_since b7 (HS7.out).2.2.2.2.2.2⟩
            have HS8 := Lib.hid hS8
            have Z8 := Lib.hid (Z7.out.keep b7)
            have B8 := Lib.hid (BW7.out.trans (b7.mono BW7.out.size))
            refine hK.out _ _ hS8 (fun _ => ?_)
            clear hK K b7 HS7 Z7 B7 BW7
            have hS := hS8
            clear hS8
            refine wpAnyH_take (i := 6) (v := .tuple #[.agg #[.int .i64 p.y.g0, .int .i64 p.y.g1, .int .i64 p.y.g2, .int .i64 p.y.g3, .int .i64 p.y.l, .int .i64 p.y.s, .int .i64 p.y.d], .int .i64 tr, .bool tb, .int .i64 p.c]) rfl (by as_aux_lemma => kernel_rfl) (by as_aux_lemma => kernel_rfl) (by as_aux_lemma => kernel_rfl) (fun _ _ _ h => h) (.inl ⟨by kernel_rfl, fun w' hS' => by go_simp⟩) hS ?_
            refine wpAnyH_take (i := 7) (v := .agg #[.int .i64 p.y.g0, .int .i64 p.y.g1, .int .i64 p.y.g2, .int .i64 p.y.g3, .int .i64 p.y.l, .int .i64 p.y.s, .int .i64 p.y.d]) rfl (by as_aux_lemma => kernel_rfl) (by as_aux_lemma => kernel_rfl) (by as_aux_lemma => kernel_rfl) (fun _ _ _ h => h) (.inl ⟨by kernel_rfl, fun w' hS' => by go_simp⟩) hS ?_
            refine wpAnyH_take (i := 8) (v := .int .i64 tr) rfl (by as_aux_lemma => kernel_rfl) (by as_aux_lemma => kernel_rfl) (by as_aux_lemma => kernel_rfl) (fun _ _ _ h => h) (.inl ⟨by kernel_rfl, fun w' hS' => by go_simp⟩) hS ?_
            refine wpAnyH_take (i := 9) (v := .bool tb) rfl (by as_aux_lemma => kernel_rfl) (by as_aux_lemma => kernel_rfl) (by as_aux_lemma => kernel_rfl) (fun _ _ _ h => h) (.inl ⟨by kernel_rfl, fun w' hS' => by go_simp⟩) hS ?_
            refine wpAnyH_take (i := 10) (v := .int .i64 p.c) rfl (by as_aux_lemma => kernel_rfl) (by as_aux_lemma => kernel_rfl) (by as_aux_lemma => kernel_rfl) (fun _ _ _ h => h) (.inl ⟨by kernel_rfl, fun w' hS' => by go_simp⟩) hS ?_
            clear hS
            refine wpAnyH_ready (rs := [12]) (by kernel_rfl) (by simp) (AllReadyH.cons rfl (fun K hK => ?_) AllReadyH.nil)
            have ⟨r0, r1, r2, r3, r4, r5, r6⟩ := Z8.out.cells
            have ⟨s0, s1, s2, s3, s4, s5, s6⟩ := Z8.out.thaw
            have hlr := Z8.out.lt
            simp only [zeroSt] at r0 r1 r2 r3 r4 r5 r6
            go_simp
            have hS9 : (fun W' : World => StAt W' w7.heap.size y ∧ (W'.cell? ⟨g, off + k * 6, none⟩ = some (.int .i64 tk.k) ∧ W'.cell? ⟨g, off + k * 6 + 1, none⟩ = some (.int .i64 tk.a) ∧ W'.cell? ⟨g, off + k * 6 + 2, none⟩ = some (.int .i64 tk.b) ∧ W'.cell? ⟨g, off + k * 6 + 3, none⟩ = some (.int .i64 tk.c) ∧ W'.cell? ⟨g, off + k * 6 + 4, none⟩ = some (.int .i64 tk.p) ∧ W'.cell? ⟨g, off + k * 6 + 5, none⟩ = some (.int .i64 tk.n))) (putSt W8 j p.y) := ⟨(heap_putSt p.y (by omega)).trans HS8.out.1, cell_put (by omega) HS8.out.2.1, cell_put (by omega) HS8.out.2.2.1, cell_put (by omega) HS8.out.2.2.2.1, cell_put (by omega) HS8.out.2.2.2.2.1, cell_put (by omega) HS8.out.2.2.2.2.2.1, cell_put (by omega) HS8.out.2.2.2.2.2.2⟩
            have HS9 := Lib.hid hS9
            have D9 := Lib.hid (Z8.out.put p.y)
            have B9 := Lib.hid (below_putSt B8.out hj8 p.y)
            refine hK.out _ (putSt W8 j p.y) hS9 (fun _ => ?_)
            clear hK K r0 r1 r2 r3 r4 r5 r6 s0 s1 s2 s3 s4 s5 s6 B8 HS8
            generalize putSt W8 j p.y = W9 at *
            have hS := hS9
            clear hS9
            refine wpAnyH_take (i := 13) (v := .int .i64 tr) rfl (by as_aux_lemma => kernel_rfl) (by as_aux_lemma => kernel_rfl) (by as_aux_lemma => kernel_rfl) (fun _ _ _ h => h) (.inl ⟨by kernel_rfl, fun w' hS' => by go_simp⟩) hS ?_
            refine wpAnyH_take (i := 14) (v := .bool tb) rfl (by as_aux_lemma => kernel_rfl) (by as_aux_lemma => kernel_rfl) (by as_aux_lemma => kernel_rfl) (fun _ _ _ h => h) (.inl ⟨by kernel_rfl, fun w' hS' => by go_simp⟩) hS ?_
            refine wpAnyH_take (i := 15) (v := .int .i64 p.c) rfl (by as_aux_lemma => kernel_rfl) (by as_aux_lemma => kernel_rfl) (by as_aux_lemma => kernel_rfl) (fun _ _ _ h => h) (.inl ⟨by kernel_rfl, fun w' hS' => by go_simp⟩) hS ?_
            refine wpAnyH_done (by kernel_rfl) ?_ _
            clear hS
            go_simp
            go_wp2_with fail
            go_meet
            exact ⟨j, rfl, rfl, rfl, rfl, hj8, D9.out, B9.out⟩
        case rest =>
        obtain ⟨gw, rfl, rfl, rfl, rfl, hgw, hW, hB⟩ := hcut
        have HZ2 := Lib.hid (HZ1.out.keep hB)
        have HW2 := Lib.hid hW
        have HY2 := Lib.hid (HY1.out.keep hB)
        have HTC2 : Hid ((fun W' : World => StAt W' w7.heap.size y ∧ (W'.cell? ⟨g, off + k * 6, none⟩ = some (.int .i64 tk.k) ∧ W'.cell? ⟨g, off + k * 6 + 1, none⟩ = some (.int .i64 tk.a) ∧ W'.cell? ⟨g, off + k * 6 + 2, none⟩ = some (.int .i64 tk.b) ∧ W'.cell? ⟨g, off + k * 6 + 3, none⟩ = some (.int .i64 tk.c) ∧ W'.cell? ⟨g, off + k * 6 + 4, none⟩ = some (.int .i64 tk.p) ∧ W'.cell? ⟨g, off + k * 6 + 5, none⟩ = some (.int .i64 tk.n))) wc) := Lib.hid ⟨(HS1.out).1.keep hB, cell_since hB (HS1.out).2.1, cell_since hB (HS1.out).2.2.1, cell_since hB (HS1.out).2.2.2.1, cell_since hB (HS1.out).2.2.2.2.1, cell_since hB (HS1.out).2.2.2.2.2.1, cell_since hB (HS1.out).2.2.2.2.2.2⟩
        have Bc := Lib.hid (Bc1.out.trans (hB.mono Bc1.out.size))
        have hgw2 : wr.heap.size ≤ gw := Nat.le_trans Bc1.out.size hgw
        clear hW hB HSp HZ1 HY1 HS1 Bc1
        generalize wc = wB at *
        have hwp : Wide64 p.y := by have := lead_range (stOK_parts HPok.out).2.2; exact ⟨by omega, by omega⟩
        go_upto_region 17 with fail
        go_cut [166] (fun v wx => v = .bool false ∧ Below wB.heap.size wB wx)
        case first =>
          have HO := Lib.hid (fun w b => impl_StateOK p.y w (HT8.out w b) hwp)
          have HP := Lib.hid (fun w b => impl_Pending p.y w (HT8.out w b) hwp)
          have HQ := Lib.hid (fun w => spec_Pending p.y w)
          rw [HPok.out] at HO
          unfold stV at HO HP HQ
          generalize peB p.y = pe at *
          have SN2 := fun w => state_neq p.y w
          have SG2 := state_guardN
          have HPc2 := Lib.hid (fun h => (HPc.out h).1)
          obtain ⟨w6a, hw6⟩ : ∃ w6a, wB.drew = w6a := ⟨_, rfl⟩
          have bd : Below wB.heap.size wB w6a := by rw [← hw6]; exact below_drewN (Below.refl _ _) 1
          have hS : (fun W' : World => StAt W' w7.heap.size y ∧ StAt W' gz p.y ∧ StAt W' gw p.y) w6a := ⟨HY2.out.keep bd, HZ2.out.keep bd, HW2.out.keep bd⟩
          have B6 := Lib.hid bd
          refine region_held_w (S := (fun W' : World => StAt W' w7.heap.size y ∧ StAt W' gz p.y ∧ StAt W' gw p.y)) w6a hw6 (by kernel_rfl) ?_
          clear hw6 bd HTC HTC2 HRn HSt HA HOn HZr SN SG
          refine wpAnyH_take (i := 0) (v := .int .i64 p.c) rfl (by as_aux_lemma => kernel_rfl) (by as_aux_lemma => kernel_rfl) (by as_aux_lemma => kernel_rfl) (fun _ _ _ h => h) (.inl ⟨by kernel_rfl, fun w' hS' => by go_simp⟩) hS ?_
          refine wpAnyH_take (i := 1) (v := .int .i64 p.c) rfl (by as_aux_lemma => kernel_rfl) (by as_aux_lemma => kernel_rfl) (by as_aux_lemma => kernel_rfl) (fun _ _ _ h => h) (.inl ⟨by kernel_rfl, fun w' hS' => by go_simp⟩) hS ?_
          refine wpAnyH_take (i := 2) (v := .bool false) rfl (by as_aux_lemma => kernel_rfl) (by as_aux_lemma => kernel_rfl) (by as_aux_lemma => kernel_rfl) (fun _ _ _ h => h) (.inl ⟨by kernel_rfl, fun w' hS' => by go_simp⟩) hS ?_
          refine wpAnyH_take (i := 3) (v := .bool false) rfl (by as_aux_lemma => kernel_rfl) (by as_aux_lemma => kernel_rfl) (by as_aux_lemma => kernel_rfl) (fun _ _ _ h => h) (.inl ⟨by kernel_rfl, fun w' hS' => by go_simp⟩) hS ?_
          refine wpAnyH_take (i := 4) (v := .agg #[.int .i64 p.y.g0, .int .i64 p.y.g1, .int .i64 p.y.g2, .int .i64 p.y.g3, .int .i64 p.y.l, .int .i64 p.y.s, .int .i64 p.y.d]) rfl (by as_aux_lemma => kernel_rfl) (by as_aux_lemma => kernel_rfl) (by as_aux_lemma => kernel_rfl) (fun _ _ _ h => h) (.inl ⟨by kernel_rfl, fun w' hS' => by have ⟨e0, e1, e2, e3, e4, e5, e6⟩ := hS'.2.1.cells; go_simp⟩) hS ?_
          refine wpAnyH_take (i := 5) (v := .agg #[.int .i64 p.y.g0, .int .i64 p.y.g1, .int .i64 p.y.g2, .int .i64 p.y.g3, .int .i64 p.y.l, .int .i64 p.y.s, .int .i64 p.y.d]) rfl (by as_aux_lemma => kernel_rfl) (by as_aux_lemma => kernel_rfl) (by as_aux_lemma => kernel_rfl) (fun _ _ _ h => h) (.inl ⟨by kernel_rfl, fun w' hS' => by have ⟨e0, e1, e2, e3, e4, e5, e6⟩ := hS'.2.2.cells; go_simp⟩) hS ?_
          refine wpAnyH_take (i := 6) (v := .bool false) rfl (by as_aux_lemma => kernel_rfl) (by as_aux_lemma => kernel_rfl) (by as_aux_lemma => kernel_rfl) (fun _ _ _ h => h) (.inl ⟨by kernel_rfl, fun w' hS' => by have y9 := SN2 w'; go_simp⟩) hS ?_
          refine wpAnyH_take (i := 7) (v := .bool false) rfl (by as_aux_lemma => kernel_rfl) (by as_aux_lemma => kernel_rfl) (by as_aux_lemma => kernel_rfl) (fun _ _ _ h => h) (.inl ⟨by kernel_rfl, fun w' hS' => by go_simp⟩) hS ?_
          refine wpAnyH_take (i := 8) (v := .bool false) rfl (by as_aux_lemma => kernel_rfl) (by as_aux_lemma => kernel_rfl) (by as_aux_lemma => kernel_rfl) (fun _ _ _ h => h) (.inl ⟨by kernel_rfl, fun w' hS' => by go_simp⟩) hS ?_
          refine wpAnyH_take (i := 9) (v := .int .i64 tr) rfl (by as_aux_lemma => kernel_rfl) (by as_aux_lemma => kernel_rfl) (by as_aux_lemma => kernel_rfl) (fun _ _ _ h => h) (.inl ⟨by kernel_rfl, fun w' hS' => by go_simp⟩) hS ?_
          refine wpAnyH_take (i := 10) (v := .int .i64 tr) rfl (by as_aux_lemma => kernel_rfl) (by as_aux_lemma => kernel_rfl) (by as_aux_lemma => kernel_rfl) (fun _ _ _ h => h) (.inl ⟨by kernel_rfl, fun w' hS' => by go_simp⟩) hS ?_
          refine wpAnyH_take (i := 11) (v := .bool false) rfl (by as_aux_lemma => kernel_rfl) (by as_aux_lemma => kernel_rfl) (by as_aux_lemma => kernel_rfl) (fun _ _ _ h => h) (.inl ⟨by kernel_rfl, fun w' hS' => by go_simp⟩) hS ?_
          refine wpAnyH_take (i := 12) (v := .bool false) rfl (by as_aux_lemma => kernel_rfl) (by as_aux_lemma => kernel_rfl) (by as_aux_lemma => kernel_rfl) (fun _ _ _ h => h) (.inl ⟨by kernel_rfl, fun w' hS' => by go_simp⟩) hS ?_
          refine wpAnyH_take (i := 13) (v := .bool false) rfl (by as_aux_lemma => kernel_rfl) (by as_aux_lemma => kernel_rfl) (by as_aux_lemma => kernel_rfl) (fun _ _ _ h => h) (.inl ⟨by kernel_rfl, fun w' hS' => by go_simp⟩) hS ?_
          refine wpAnyH_take (i := 14) (v := .bool tb) rfl (by as_aux_lemma => kernel_rfl) (by as_aux_lemma => kernel_rfl) (by as_aux_lemma => kernel_rfl) (fun _ _ _ h => h) (.inl ⟨by kernel_rfl, fun w' hS' => by go_simp⟩) hS ?_
          refine wpAnyH_take (i := 15) (v := .bool tb) rfl (by as_aux_lemma => kernel_rfl) (by as_aux_lemma => kernel_rfl) (by as_aux_lemma => kernel_rfl) (fun _ _ _ h => h) (.inl ⟨by kernel_rfl, fun w' hS' => by go_simp⟩) hS ?_
          refine wpAnyH_take (i := 16) (v := .bool false) rfl (by as_aux_lemma => kernel_rfl) (by as_aux_lemma => kernel_rfl) (by as_aux_lemma => kernel_rfl) (fun _ _ _ h => h) (.inl ⟨by kernel_rfl, fun w' hS' => by go_simp⟩) hS ?_
          refine wpAnyH_take (i := 17) (v := .bool false) rfl (by as_aux_lemma => kernel_rfl) (by as_aux_lemma => kernel_rfl) (by as_aux_lemma => kernel_rfl) (fun _ _ _ h => h) (.inl ⟨by kernel_rfl, fun w' hS' => by go_simp⟩) hS ?_
          refine wpAnyH_take (i := 18) (v := .bool false) rfl (by as_aux_lemma => kernel_rfl) (by as_aux_lemma => kernel_rfl) (by as_aux_lemma => kernel_rfl) (fun _ _ _ h => h) (.inl ⟨by kernel_rfl, fun w' hS' => by go_simp⟩) hS ?_
          refine wpAnyH_take (i := 19) (v := .int .i64 p.c) rfl (by as_aux_lemma => kernel_rfl) (by as_aux_lemma => kernel_rfl) (by as_aux_lemma => kernel_rfl) (fun _ _ _ h => h) (.inl ⟨by kernel_rfl, fun w' hS' => by go_simp⟩) hS ?_
          refine wpAnyH_take (i := 20) (v := .bool (p.c != 0)) rfl (by as_aux_lemma => kernel_rfl) (by as_aux_lemma => kernel_rfl) (by as_aux_lemma => kernel_rfl) (fun _ _ _ h => h) (.inl ⟨by kernel_rfl, fun w' hS' => by go_simp⟩) hS ?_
          refine wpAnyH_take (i := 21) (v := .bool (p.c != 0)) rfl (by as_aux_lemma => kernel_rfl) (by as_aux_lemma => kernel_rfl) (by as_aux_lemma => kernel_rfl) (fun _ _ _ h => h) (.inl ⟨by kernel_rfl, fun w' hS' => by go_simp⟩) hS ?_
          have hmid : ∃ _u : Unit, True := ⟨(), trivial⟩
          clear hmid
          by_cases hc0 : p.c = 0
          · have ec : (p.c != 0) = false := by simp [hc0]
            clear hc0
            rw [ec]
            refine wpAnyH_take (i := 22) (v := undef) rfl (by as_aux_lemma => kernel_rfl) (by as_aux_lemma => kernel_rfl) (by as_aux_lemma => kernel_rfl) (fun _ _ _ h => h) (.inr ⟨by kernel_rfl, rfl⟩) hS ?_
            refine wpAnyH_take (i := 23) (v := undef) rfl (by as_aux_lemma => kernel_rfl) (by as_aux_lemma => kernel_rfl) (by as_aux_lemma => kernel_rfl) (fun _ _ _ h => h) (.inr ⟨by kernel_rfl, rfl⟩) hS ?_
            refine wpAnyH_take (i := 24) (v := undef) rfl (by as_aux_lemma => kernel_rfl) (by as_aux_lemma => kernel_rfl) (by as_aux_lemma => kernel_rfl) (fun _ _ _ h => h) (.inr ⟨by kernel_rfl, rfl⟩) hS ?_
            refine wpAnyH_take (i := 25) (v := .bool false) rfl (by as_aux_lemma => kernel_rfl) (by as_aux_lemma => kernel_rfl) (by as_aux_lemma => kernel_rfl) (fun _ _ _ h => h) (.inl ⟨by kernel_rfl, fun w' hS' => by go_simp⟩) hS ?_
            refine wpAnyH_take (i := 26) (v := .bool false) rfl (by as_aux_lemma => kernel_rfl) (by as_aux_lemma => kernel_rfl) (by as_aux_lemma => kernel_rfl) (fun _ _ _ h => h) (.inl ⟨by kernel_rfl, fun w' hS' => by go_simp⟩) hS ?_
            refine wpAnyH_take (i := 27) (v := .bool false) rfl (by as_aux_lemma => kernel_rfl) (by as_aux_lemma => kernel_rfl) (by as_aux_lemma => kernel_rfl) (fun _ _ _ h => h) (.inl ⟨by kernel_rfl, fun w' hS' => by go_simp⟩) hS ?_
            refine wpAnyH_take (i := 28) (v := .agg #[.int .i64 p.y.g0, .int .i64 p.y.g1, .int .i64 p.y.g2, .int .i64 p.y.g3, .int .i64 p.y.l, .int .i64 p.y.s, .int .i64 p.y.d]) rfl (by as_aux_lemma => kernel_rfl) (by as_aux_lemma => kernel_rfl) (by as_aux_lemma => kernel_rfl) (fun _ _ _ h => h) (.inl ⟨by kernel_rfl, fun w' hS' => by have ⟨e0, e1, e2, e3, e4, e5, e6⟩ := hS'.2.1.cells; go_simp⟩) hS ?_
            have HS6 := Lib.hid hS
            clear hS
            refine wpAnyH_ready (rs := [29]) (by kernel_rfl) (by simp) (AllReadyH.cons rfl (fun K hK => ?_) AllReadyH.nil)
            go_simp
            refine (HO.out _ (Bc.out.trans (B6.out.mono Bc.out.size))).mono ?_
            rintro e w7a ⟨rfl, bO⟩
            have HS7 : Hid ((fun W' : World => StAt W' w7.heap.size y ∧ StAt W' gz p.y ∧ StAt W' gw p.y) w7a) := Lib.hid ⟨HS6.out.1.keep bO, HS6.out.2.1.keep bO, HS6.out.2.2.keep bO⟩
            have B7 := Lib.hid (B6.out.trans (bO.mono B6.out.size))
            refine hK.out _ _ HS7.out (fun _ => ?_)
            clear hK K bO
            have hS := HS7.out
            refine wpAnyH_take (i := 30) (v := .bool false) rfl (by as_aux_lemma => kernel_rfl) (by as_aux_lemma => kernel_rfl) (by as_aux_lemma => kernel_rfl) (fun _ _ _ h => h) (.inl ⟨by kernel_rfl, fun w' hS' => by go_simp⟩) hS ?_
            refine wpAnyH_take (i := 31) (v := .bool false) rfl (by as_aux_lemma => kernel_rfl) (by as_aux_lemma => kernel_rfl) (by as_aux_lemma => kernel_rfl) (fun _ _ _ h => h) (.inl ⟨by kernel_rfl, fun w' hS' => by go_simp⟩) hS ?_
            refine wpAnyH_take (i := 32) (v := .bool false) rfl (by as_aux_lemma => kernel_rfl) (by as_aux_lemma => kernel_rfl) (by as_aux_lemma => kernel_rfl) (fun _ _ _ h => h) (.inl ⟨by kernel_rfl, fun w' hS' => by go_simp⟩) hS ?_
            refine wpAnyH_take (i := 33) (v := .agg #[.int .i64 p.y.g0, .int .i64 p.y.g1, .int .i64 p.y.g2, .int .i64 p.y.g3, .int .i64 p.y.l, .int .i64 p.y.s, .int .i64 p.y.d]) rfl (by as_aux_lemma => kernel_rfl) (by as_aux_lemma => kernel_rfl) (by as_aux_lemma => kernel_rfl) (fun _ _ _ h => h) (.inl ⟨by kernel_rfl, fun w' hS' => by have ⟨e0, e1, e2, e3, e4, e5, e6⟩ := hS'.2.1.cells; go_simp⟩) hS ?_
            refine wpAnyH_take (i := 35) (v := .agg #[.int .i64 p.y.g0, .int .i64 p.y.g1, .int .i64 p.y.g2, .int .i64 p.y.g3, .int .i64 p.y.l, .int .i64 p.y.s, .int .i64 p.y.d]) rfl (by as_aux_lemma => kernel_rfl) (by as_aux_lemma => kernel_rfl) (by as_aux_lemma => kernel_rfl) (fun _ _ _ h => h) (.inl ⟨by kernel_rfl, fun w' hS' => by have ⟨e0, e1, e2, e3, e4, e5, e6⟩ := hS'.2.2.cells; go_simp⟩) hS ?_
            clear hS
            refine wpAnyH_ready (rs := [34]) (by kernel_rfl) (by simp) (AllReadyH.cons rfl (fun K hK => ?_) AllReadyH.nil)
            go_simp
            refine (HP.out _ (Bc.out.trans (B7.out.mono Bc.out.size))).mono ?_
            rintro e w8a ⟨rfl, bP⟩
            have HS8 : Hid ((fun W' : World => StAt W' w7.heap.size y ∧ StAt W' gz p.y ∧ StAt W' gw p.y) w8a) := Lib.hid ⟨HS7.out.1.keep bP, HS7.out.2.1.keep bP, HS7.out.2.2.keep bP⟩
            have B8 := Lib.hid (B7.out.trans (bP.mono B7.out.size))
            refine hK.out _ _ HS8.out (fun _ => ?_)
            clear hK K bP
            refine wpAnyH_ready (rs := [36]) (by kernel_rfl) (by simp) (AllReadyH.cons rfl (fun K hK => ?_) AllReadyH.nil)
            go_simp
            refine (HQ.out _).mono ?_
            rintro e w9a ⟨rfl, bP⟩
            have HS9 : Hid ((fun W' : World => StAt W' w7.heap.size y ∧ StAt W' gz p.y ∧ StAt W' gw p.y) w9a) := Lib.hid ⟨HS8.out.1.keep bP, HS8.out.2.1.keep bP, HS8.out.2.2.keep bP⟩
            have B9 := Lib.hid (B8.out.trans (bP.mono B8.out.size))
            refine hK.out _ _ HS9.out (fun _ => ?_)
            clear hK K bP
            have hS := HS9.out
            refine wpAnyH_take (i := 37) (v := .bool false) rfl (by as_aux_lemma => kernel_rfl) (by as_aux_lemma => kernel_rfl) (by as_aux_lemma => kernel_rfl) (fun _ _ _ h => h) (.inl ⟨by kernel_rfl, fun w' hS' => by go_simp⟩) hS ?_
            refine wpAnyH_take (i := 38) (v := .bool false) rfl (by as_aux_lemma => kernel_rfl) (by as_aux_lemma => kernel_rfl) (by as_aux_lemma => kernel_rfl) (fun _ _ _ h => h) (.inl ⟨by kernel_rfl, fun w' hS' => by go_simp⟩) hS ?_
            refine wpAnyH_done (by kernel_rfl) ?_ _
            clear hS
            go_simp
            go_wp2_with fail
            go_meet
            exact ⟨rfl, B9.out⟩
          · have ec : (p.c != 0) = true := by simp [hc0]
            have hpy := HPc2.out hc0
            have SN3 : ∀ w : World, (binOp .neq 24 (.agg #[.int .i64 p.y.g0, .int .i64 p.y.g1, .int .i64 p.y.g2, .int .i64 p.y.g3, .int .i64 p.y.l, .int .i64 p.y.s, .int .i64 p.y.d]) (.agg #[.int .i64 y.g0, .int .i64 y.g1, .int .i64 y.g2, .int .i64 y.g3, .int .i64 y.l, .int .i64 y.s, .int .i64 y.d])).run Tryd.prog w = .ok (.bool false) w := fun w => by rw [← hpy]; exact SN2 w
            clear hc0
            rw [ec]
            refine wpAnyH_take (i := 22) (v := .agg #[.int .i64 p.y.g0, .int .i64 p.y.g1, .int .i64 p.y.g2, .int .i64 p.y.g3, .int .i64 p.y.l, .int .i64 p.y.s, .int .i64 p.y.d]) rfl (by as_aux_lemma => kernel_rfl) (by as_aux_lemma => kernel_rfl) (by as_aux_lemma => kernel_rfl) (fun _ _ _ h => h) (.inl ⟨by kernel_rfl, fun w' hS' => by have ⟨e0, e1, e2, e3, e4, e5, e6⟩ := hS'.2.1.cells; go_simp⟩) hS ?_
            refine wpAnyH_take (i := 23) (v := .agg #[.int .i64 y.g0, .int .i64 y.g1, .int .i64 y.g2, .int .i64 y.g3, .int .i64 y.l, .int .i64 y.s, .int .i64 y.d]) rfl (by as_aux_lemma => kernel_rfl) (by as_aux_lemma => kernel_rfl) (by as_aux_lemma => kernel_rfl) (fun _ _ _ h => h) (.inl ⟨by kernel_rfl, fun w' hS' => by have ⟨e0, e1, e2, e3, e4, e5, e6⟩ := hS'.1.cells; go_simp⟩) hS ?_
            refine wpAnyH_take (i := 24) (v := .bool false) rfl (by as_aux_lemma => kernel_rfl) (by as_aux_lemma => kernel_rfl) (by as_aux_lemma => kernel_rfl) (fun _ _ _ h => h) (.inl ⟨by kernel_rfl, fun w' hS' => by have y9 := SN3 w'; go_simp⟩) hS ?_
            refine wpAnyH_take (i := 25) (v := .bool false) rfl (by as_aux_lemma => kernel_rfl) (by as_aux_lemma => kernel_rfl) (by as_aux_lemma => kernel_rfl) (fun _ _ _ h => h) (.inl ⟨by kernel_rfl, fun w' hS' => by go_simp⟩) hS ?_
            clear hpy SN3
            refine wpAnyH_take (i := 26) (v := .bool false) rfl (by as_aux_lemma => kernel_rfl) (by as_aux_lemma => kernel_rfl) (by as_aux_lemma => kernel_rfl) (fun _ _ _ h => h) (.inl ⟨by kernel_rfl, fun w' hS' => by go_simp⟩) hS ?_
            refine wpAnyH_take (i := 27) (v := .bool false) rfl (by as_aux_lemma => kernel_rfl) (by as_aux_lemma => kernel_rfl) (by as_aux_lemma => kernel_rfl) (fun _ _ _ h => h) (.inl ⟨by kernel_rfl, fun w' hS' => by go_simp⟩) hS ?_
            refine wpAnyH_take (i := 28) (v := .agg #[.int .i64 p.y.g0, .int .i64 p.y.g1, .int .i64 p.y.g2, .int .i64 p.y.g3, .int .i64 p.y.l, .int .i64 p.y.s, .int .i64 p.y.d]) rfl (by as_aux_lemma => kernel_rfl) (by as_aux_lemma => kernel_rfl) (by as_aux_lemma => kernel_rfl) (fun _ _ _ h => h) (.inl ⟨by kernel_rfl, fun w' hS' => by have ⟨e0, e1, e2, e3, e4, e5, e6⟩ := hS'.2.1.cells; go_simp⟩) hS ?_
            have HS6 := Lib.hid hS
            clear hS
            refine wpAnyH_ready (rs := [29]) (by kernel_rfl) (by simp) (AllReadyH.cons rfl (fun K hK => ?_) AllReadyH.nil)
            go_simp
            refine (HO.out _ (Bc.out.trans (B6.out.mono Bc.out.size))).mono ?_
            rintro e w7a ⟨rfl, bO⟩
            have HS7 : Hid ((fun W' : World => StAt W' w7.heap.size y ∧ StAt W' gz p.y ∧ StAt W' gw p.y) w7a) := Lib.hid ⟨HS6.out.1.keep bO, HS6.out.2.1.keep bO, HS6.out.2.2.keep bO⟩
            have B7 := Lib.hid (B6.out.trans (bO.mono B6.out.size))
            refine hK.out _ _ HS7.out (fun _ => ?_)
            clear hK K bO
            have hS := HS7.out
            refine wpAnyH_take (i := 30) (v := .bool false) rfl (by as_aux_lemma => kernel_rfl) (by as_aux_lemma => kernel_rfl) (by as_aux_lemma => kernel_rfl) (fun _ _ _ h => h) (.inl ⟨by kernel_rfl, fun w' hS' => by go_simp⟩) hS ?_
            refine wpAnyH_take (i := 31) (v := .bool false) rfl (by as_aux_lemma => kernel_rfl) (by as_aux_lemma => kernel_rfl) (by as_aux_lemma => kernel_rfl) (fun _ _ _ h => h) (.inl ⟨by kernel_rfl, fun w' hS' => by go_simp⟩) hS ?_
            refine wpAnyH_take (i := 32) (v := .bool false) rfl (by as_aux_lemma => kernel_rfl) (by as_aux_lemma => kernel_rfl) (by as_aux_lemma => kernel_rfl) (fun _ _ _ h => h) (.inl ⟨by kernel_rfl, fun w' hS' => by go_simp⟩) hS ?_
            refine wpAnyH_take (i := 33) (v := .agg #[.int .i64 p.y.g0, .int .i64 p.y.g1, .int .i64 p.y.g2, .int .i64 p.y.g3, .int .i64 p.y.l, .int .i64 p.y.s, .int .i64 p.y.d]) rfl (by as_aux_lemma => kernel_rfl) (by as_aux_lemma => kernel_rfl) (by as_aux_lemma => kernel_rfl) (fun _ _ _ h => h) (.inl ⟨by kernel_rfl, fun w' hS' => by have ⟨e0, e1, e2, e3, e4, e5, e6⟩ := hS'.2.1.cells; go_simp⟩) hS ?_
            refine wpAnyH_take (i := 35) (v := .agg #[.int .i64 p.y.g0, .int .i64 p.y.g1, .int .i64 p.y.g2, .int .i64 p.y.g3, .int .i64 p.y.l, .int .i64 p.y.s, .int .i64 p.y.d]) rfl (by as_aux_lemma => kernel_rfl) (by as_aux_lemma => kernel_rfl) (by as_aux_lemma => kernel_rfl) (fun _ _ _ h => h) (.inl ⟨by kernel_rfl, fun w' hS' => by have ⟨e0, e1, e2, e3, e4, e5, e6⟩ := hS'.2.2.cells; go_simp⟩) hS ?_
            clear hS
            refine wpAnyH_ready (rs := [34]) (by kernel_rfl) (by simp) (AllReadyH.cons rfl (fun K hK => ?_) AllReadyH.nil)
            go_simp
            refine (HP.out _ (Bc.out.trans (B7.out.mono Bc.out.size))).mono ?_
            rintro e w8a ⟨rfl, bP⟩
            have HS8 : Hid ((fun W' : World => StAt W' w7.heap.size y ∧ StAt W' gz p.y ∧ StAt W' gw p.y) w8a) := Lib.hid ⟨HS7.out.1.keep bP, HS7.out.2.1.keep bP, HS7.out.2.2.keep bP⟩
            have B8 := Lib.hid (B7.out.trans (bP.mono B7.out.size))
            refine hK.out _ _ HS8.out (fun _ => ?_)
            clear hK K bP
            refine wpAnyH_ready (rs := [36]) (by kernel_rfl) (by simp) (AllReadyH.cons rfl (fun K hK => ?_) AllReadyH.nil)
            go_simp
            refine (HQ.out _).mono ?_
            rintro e w9a ⟨rfl, bP⟩
            have HS9 : Hid ((fun W' : World => StAt W' w7.heap.size y ∧ StAt W' gz p.y ∧ StAt W' gw p.y) w9a) := Lib.hid ⟨HS8.out.1.keep bP, HS8.out.2.1.keep bP, HS8.out.2.2.keep bP⟩
            have B9 := Lib.hid (B8.out.trans (bP.mono B8.out.size))
            refine hK.out _ _ HS9.out (fun _ => ?_)
            clear hK K bP
            have hS := HS9.out
            refine wpAnyH_take (i := 37) (v := .bool false) rfl (by as_aux_lemma => kernel_rfl) (by as_aux_lemma => kernel_rfl) (by as_aux_lemma => kernel_rfl) (fun _ _ _ h => h) (.inl ⟨by kernel_rfl, fun w' hS' => by go_simp⟩) hS ?_
            refine wpAnyH_take (i := 38) (v := .bool false) rfl (by as_aux_lemma => kernel_rfl) (by as_aux_lemma => kernel_rfl) (by as_aux_lemma => kernel_rfl) (fun _ _ _ h => h) (.inl ⟨by kernel_rfl, fun w' hS' => by go_simp⟩) hS ?_
            refine wpAnyH_done (by kernel_rfl) ?_ _
            clear hS
            go_simp
            go_wp2_with fail
            go_meet
            exact ⟨rfl, B9.out⟩
        case rest =>
        obtain ⟨rfl, hB3⟩ := hcut
        generalize wc = w' at *
        have B10 : Hid (Below wr.heap.size wr w') := Lib.hid (Bc.out.trans (hB3.mono Bc.out.size))
        have hyl : w7.heap.size < wr.heap.size := HYb.out.lt
        have On9 : Hid (Only w7.heap.size W7 w') := Lib.hid (HOn.out.trans (only_below hyl B10.out))
        have Hz9 := Lib.hid (HZr.out.all B10.out)
        have HW9 := Lib.hid (HW2.out.keep hB3)
        have HY9 := Lib.hid (HY2.out.keep hB3)
        have HT9 : Hid ((fun W' : World => StAt W' w7.heap.size y ∧ (W'.cell? ⟨g, off + k * 6, none⟩ = some (.int .i64 tk.k) ∧ W'.cell? ⟨g, off + k * 6 + 1, none⟩ = some (.int .i64 tk.a) ∧ W'.cell? ⟨g, off + k * 6 + 2, none⟩ = some (.int .i64 tk.b) ∧ W'.cell? ⟨g, off + k * 6 + 3, none⟩ = some (.int .i64 tk.c) ∧ W'.cell? ⟨g, off + k * 6 + 4, none⟩ = some (.int .i64 tk.p) ∧ W'.cell? ⟨g, off + k * 6 + 5, none⟩ = some (.int .i64 tk.n))) w') := Lib.hid ⟨(HTC2.out).1.keep hB3, cell_since hB3 (HTC2.out).2.1, cell_since hB3 (HTC2.out).2.2.1, cell_since hB3 (HTC2.out).2.2.2.1, cell_since hB3 (HTC2.out).2.2.2.2.1, cell_since hB3 (HTC2.out).2.2.2.2.2.1, cell_since hB3 (HTC2.out).2.2.2.2.2.2⟩
        have hyl9 : w7.heap.size < w'.heap.size := HY9.out.lt
        clear hB3 Bc HZ2 HW2 HY2 HTC HTC2
        rcases HSt.out with ⟨hc0, hnext⟩ | ⟨hc0, hend⟩
        · have ec : (p.c != 0) = false := by simp [hc0]
          cases tb
          · have hpr1 : p.r = -1 := by
              have h1 := HTb.out
              have h2 := of_decide_eq_false h1
              rcases HPr.out with h | h
              · exact h
              · exact absurd h h2
            have HNx : Hid (Runs t q (k + 1) p.y z) := Lib.hid (by have := hnext; rw [addR_none hpr1] at this; exact this)
            have ⟨d0, d1, d2, d3, d4, d5, d6⟩ := HW9.out.cells
            have ⟨y0, y1, y2, y3, y4, y5, y6⟩ := HY9.out.cells
            have ⟨q0, q1, q2, q3, q4, q5, q6⟩ := HY9.out.thaw
            have HY5 := Lib.hid (HY9.out.put p.y)
            have HZ5 : Hid (Own .i64 3 (putSt w' w7.heap.size p.y) (w7.heap.size + 1) u18 z) := Lib.hid (Hz9.out.putSt (by omega) p.y)
            have On5 : Hid (Only w7.heap.size W7 (putSt w' w7.heap.size p.y)) := Lib.hid (On9.out.trans (only_put w7.heap.size w' p.y))
            clear hnext hpr1 HRn HSt HA HTr HTb HPr HPok HT8 HZr HYb hgz hgw hgw2 SN SG
            go_wp2
            go_roundw
            case rel => exact ⟨k + 1, by omega, by go_num, Lib.hid ⟨p.y, z, HNx.out, HY5.out, HZ5.out, by omega⟩, On5⟩
            case measure => simp [intOf]; omega
          · have hpr1 : 0 ≤ p.r := of_decide_eq_true HTb.out
            have htr1 : tr = p.r := by have := HTr.out; rw [if_pos hpr1] at this; exact this.symm
            have HNx : Hid (Runs t q (k + 1) p.y (z ++ [tr])) := Lib.hid (by have := hnext; rw [addR_some hpr1, ← htr1] at this; exact this)
            have hown : ∀ j, u18.ownBlock = some j → w7.heap.size + 1 ≤ j := fun j hj => (World.ownsRow.lt Hz9.out j hj).1
            have hzl2 : z.length ≤ 200 := by omega
            have hW7s := On9.out.1.size
            have hown2 : ∀ j, u18.ownBlock = some j → j < wr.heap.size := fun j hj => (World.ownsRow.lt HZr.out j hj).2
            have Hown := Lib.hid hown
            have Hown2 := Lib.hid hown2
            clear hnext hpr1 HRn HSt htr1 HA HTr HTb HPr HPok HT8 HZr HYb SN SG hown hown2 hgz hgw
            go_wp2_with (at_builtin; refine app_i64 _ rfl _ _ rfl (w7.heap.size + 1) _ z rfl (Hz9.out.alloc (.cells #[.int .i64 tr] 3)) ⟨w'.heap.size, 0, none⟩ 1 1 [tr] rfl rfl (by decide) (World.news_of_block (heap_alloc_new _ _)) (by simp; omega) (by simp; omega) ?_)
            intro g8 c8 w8 o8 gr8 lt8
            have hown := Hown.out
            have hown2 := Hown2.out
            have HW8 : Hid (StAt w8 gw p.y) := Lib.hid ((gr8.block gw (by have := HW9.out.lt; simp; omega) (fun h => by have h1 := hown2 _ h.symm; omega)).trans (HW9.out.keep (below_one _ _)))
            have HY8 : Hid (StAt w8 w7.heap.size y) := Lib.hid ((gr8.block _ (by simp; omega) (fun h => by have h1 := hown _ h.symm; omega)).trans (HY9.out.keep (below_one _ _)))
            have HN8 : Hid (Own .i64 3 (putSt w8 w7.heap.size p.y) (w7.heap.size + 1) (.slice (some ⟨g8, 0, none⟩) (z.length + 1) c8) (z ++ [tr])) := Lib.hid (o8.putSt (by omega) p.y)
            have On8 : Hid (Only w7.heap.size W7 (putSt w8 w7.heap.size p.y)) := Lib.hid (by
              refine Only.trans (only_grown (On9.out.trans (only_below hyl9 (below_one _ _))) gr8 (by omega) ?_) (only_put w7.heap.size w8 p.y)
              intro j hj
              have h9 := hown j hj
              omega)
            have hyl8 : w7.heap.size < w8.heap.size := HY8.out.lt
            have HY5 := Lib.hid (HY8.out.put p.y)
            have ⟨d0, d1, d2, d3, d4, d5, d6⟩ := HW8.out.cells
            have ⟨y0, y1, y2, y3, y4, y5, y6⟩ := HY8.out.cells
            have ⟨q0, q1, q2, q3, q4, q5, q6⟩ := HY8.out.thaw
            have hlz : Hid ((z ++ [tr]).length ≤ k + 1) := Lib.hid (by simp; omega)
            clear o8 gr8 hown hown2 Hown Hown2 hgw2
            go_wp2
            go_roundw
            case rel => exact ⟨k + 1, by omega, by go_num, Lib.hid ⟨p.y, z ++ [tr], HNx.out, HY5.out, HN8.out, hlz.out⟩, On8⟩
            case measure => simp [intOf]; omega
        · have ec : (p.c != 0) = true := by simp [hc0]
          have hq1 : q.y = y := by rw [hend]
          have hq2 : q.z = z := by rw [hend]
          have hq3 : q.p = tk.p := by rw [hend]
          have hq4 : q.c = p.c := by rw [hend]
          have f1 : (p.c != q.c) = false := by rw [hq4]; simp
          have f2 : (tk.p != q.p) = false := by rw [hq3]; simp
          have ⟨t0, t1, t2, t3, t4, t5⟩ := HT9.out.2
          have HQ1 := Lib.hid hq1
          have HQ2 := Lib.hid hq2
          clear hend hq1 hq2 hq3 hq4 HSt HRn HA HTr HTb HPr HPok HPc HT8 HZr HYb HQ0 SN SG
          go_wp2_with fail
          go_meet
          exact ⟨by rw [HQ2.out]; exact Hz9.out, by rw [HQ1.out]; exact HY9.out, On9.out⟩
      · obtain rfl : k = (toksOf t).length := by omega
        have ⟨e1, e2⟩ := hrun.stop
        go_wp2_with fail
        go_meet
        exact ⟨by rw [e2]; exact hz, by rw [e1]; exact hy, HOn.out⟩
  case rest =>
  obtain ⟨hO, hY, hOn⟩ := hcut
  have U9 : Hid (StAt wc w4.heap.size q.y) := Lib.hid ((hOn.2 _ (by omega) U8.out.lt).trans U8.out)
  have X9 : Hid (StAt wc w1.heap.size x) := Lib.hid ((hOn.2 _ (by omega) X8.out.lt).trans X8.out)
  have P9 := Lib.hid (P8.out.below hOn.1 HPl.out)
  have B9 := Lib.hid (B8.out.trans (hOn.1.mono hw7))
  have O9 := Lib.hid hO
  have Y9 := Lib.hid hY
  clear hO hY hOn U8 X8 P8 B8 HRun S7 O7 OnE K8 HGk HPl O7k
  generalize wc = W9 at *
  have ⟨y0, y1, y2, y3, y4, y5, y6⟩ := Y9.out.cells
  have ⟨z0, z1, z2, z3, z4, z5, z6⟩ := U9.out.cells
  go_wp2_with fail
  refine (laws_sameInts _ _ _ _ _ O9.out.ints P9.out.ints (by omega) (by omega)).mono ?_
  clear y0 y1 y2 y3 y4 y5 y6 z0 z1 z2 z3 z4 z5 z6
  rintro e w10 ⟨rfl, qa, rfl⟩
  rw [show decide (q.z = q.z) = true from decide_eq_true rfl]
  have bq : Below W9.heap.size W9 (W9.drewN qa) := below_drewN (Below.refl _ _) qa
  have X10 := Lib.hid (X9.out.keep bq)
  have B10 := Lib.hid (B9.out.trans (bq.mono B9.out.size))
  clear bq X9 B9 U9 P9 O9 Y9 SN SG
  generalize W9.drewN qa = w10 at *
  go_wp2_with fail
  refine (laws_at _ ys' 0 3 w10 (HI'.out.keep B10.out) HB'.out (by have := HL'.out; omega) (by omega) (by omega)).mono ?_
  rintro e w11 ⟨r0, qb, rfl, r00, r01, rfl⟩
  have bq : Below w10.heap.size w10 (w10.drewN qb) := below_drewN (Below.refl _ _) qb
  have X11 := Lib.hid (X10.out.keep bq)
  have B11 := Lib.hid (B10.out.trans (bq.mono B10.out.size))
  clear bq X10 B10
  generalize w10.drewN qb = w11 at *
  have u0 : IntKind.i64.wrap (1 + r0) = 1 + r0 := IntWalk.i64_in _ (by omega)
  go_wp2_with fail
  refine (laws_at _ ys' 1 8 w11 (HI'.out.keep B11.out) HB'.out (by have := HL'.out; omega) (by omega) (by omega)).mono ?_
  rintro e w12 ⟨r1, qc, rfl, r10, r11, rfl⟩
  have bq : Below w11.heap.size w11 (w11.drewN qc) := below_drewN (Below.refl _ _) qc
  have X12 := Lib.hid (X11.out.keep bq)
  have B12 := Lib.hid (B11.out.trans (bq.mono B11.out.size))
  clear bq X11 B11
  generalize w11.drewN qc = w12 at *
  have u1 : IntKind.i64.wrap (1 + r1) = 1 + r1 := IntWalk.i64_in _ (by omega)
  have HN := Lib.hid (fun w ht => impl_NameSet x (1 + r0) (1 + r1) w ht hw)
  have HM := Lib.hid (fun w => spec_NameSet x (1 + r0) (1 + r1) w)
  have heo : eoC (1 + r0) (1 + r1) = 0 := by rw [eoC, if_pos (by simp [setB, inB]; omega), if_pos ⟨by simp [inB]; omega, by rintro ⟨h, _⟩; omega⟩]
  have hcase : (nsC x (1 + r0) (1 + r1) = 13 ∧ nsX x (1 + r0) (1 + r1) = x) ∨ (nsC x (1 + r0) (1 + r1) = 0 ∧ nsX x (1 + r0) (1 + r1) = stPut x (1 + r0) (1 + r1)) := by
    cases hp : pendB x
    · have hC : nsC x (1 + r0) (1 + r1) = 0 := by rw [nsC, if_pos hx, if_pos heo, hp]; rfl
      exact .inr ⟨hC, by rw [nsX, if_pos hC]⟩
    · have hC : nsC x (1 + r0) (1 + r1) = 13 := by rw [nsC, if_pos hx, if_pos heo, if_pos hp]
      exact .inl ⟨hC, by rw [nsX, hC]; rfl⟩
  have huok : stOKB (nsX x (1 + r0) (1 + r1)) = true := by
    rcases hcase with ⟨_, h⟩ | ⟨hC, h⟩
    · rw [h]; exact hx
    · rw [h]
      refine put_ok hx ?_ (by omega) (by omega) (by omega) (by omega)
      cases hp : pendB x
      · rfl
      · rw [nsC, if_pos hx, if_pos heo, if_pos hp] at hC; cases hC
  unfold NsDone stV at HN HM
  have ⟨y0, y1, y2, y3, y4, y5, y6⟩ := X12.out.cells
  go_wp2_with fail
  refine (HN.out _ (HT.out.keep B12.out)).mono ?_
  clear y0 y1 y2 y3 y4 y5 y6 u0 u1
  generalize nsX x (1 + r0) (1 + r1) = u at *
  generalize nsC x (1 + r0) (1 + r1) = c at *
  have hwu : Wide64 u := by have := lead_range (stOK_parts huok).2.2; exact ⟨by omega, by omega⟩
  rintro e w13 ⟨rfl, b13⟩
  have V13 := Lib.hid (StAt.new w13 u)
  have X13 := Lib.hid ((X12.out.keep b13).keep (below_one w13 (.cells #[.int .i64 u.g0, .int .i64 u.g1, .int .i64 u.g2, .int .i64 u.g3, .int .i64 u.l, .int .i64 u.s, .int .i64 u.d] 24)))
  have B13 := Lib.hid ((B12.out.trans (b13.mono B12.out.size)).alloc (B12.out.trans (b13.mono B12.out.size)).size (.cells #[.int .i64 u.g0, .int .i64 u.g1, .int .i64 u.g2, .int .i64 u.g3, .int .i64 u.l, .int .i64 u.s, .int .i64 u.d] 24))
  clear b13 X12 B12
  have ⟨y0, y1, y2, y3, y4, y5, y6⟩ := X13.out.cells
  go_wp2_with fail
  refine (HM.out _).mono ?_
  clear y0 y1 y2 y3 y4 y5 y6
  generalize hub : w13.heap.size = ub at *
  generalize w13.alloc (.cells #[.int .i64 u.g0, .int .i64 u.g1, .int .i64 u.g2, .int .i64 u.g3, .int .i64 u.l, .int .i64 u.s, .int .i64 u.d] 24) = W13 at *
  rintro e w14 ⟨rfl, b14⟩
  have V14 := Lib.hid ((V13.out.keep b14).keep (below_one w14 (.cells #[.int .i64 u.g0, .int .i64 u.g1, .int .i64 u.g2, .int .i64 u.g3, .int .i64 u.l, .int .i64 u.s, .int .i64 u.d] 24)))
  have X14 := Lib.hid ((X13.out.keep b14).keep (below_one w14 (.cells #[.int .i64 u.g0, .int .i64 u.g1, .int .i64 u.g2, .int .i64 u.g3, .int .i64 u.l, .int .i64 u.s, .int .i64 u.d] 24)))
  have Z14 := Lib.hid (StAt.new w14 u)
  have B14 := Lib.hid ((B13.out.trans (b14.mono B13.out.size)).alloc (B13.out.trans (b14.mono B13.out.size)).size (.cells #[.int .i64 u.g0, .int .i64 u.g1, .int .i64 u.g2, .int .i64 u.g3, .int .i64 u.l, .int .i64 u.s, .int .i64 u.d] 24))
  clear b14 X13 B13 V13
  go_upto_region 31 with fail
  generalize w14.heap.size = vb at *
  generalize w14.alloc (.cells #[.int .i64 u.g0, .int .i64 u.g1, .int .i64 u.g2, .int .i64 u.g3, .int .i64 u.l, .int .i64 u.s, .int .i64 u.d] 24) = W14 at *
  have SNu := fun w => state_neq u w
  have SGu := state_guardN
  have f1 : (c != c) = false := by simp
  have ⟨y0, y1, y2, y3, y4, y5, y6⟩ := V14.out.cells
  have ⟨z0, z1, z2, z3, z4, z5, z6⟩ := Z14.out.cells
  go_upto_region 33 with fail
  clear y0 y1 y2 y3 y4 y5 y6 z0 z1 z2 z3 z4 z5 z6 f1 SNu SGu Z14
  go_wp2
  go_loopw [34] (fun iv wr => ∃ i : Nat, i ≤ 4 ∧ iv = .int .i64 i ∧ Hid (StAt wr ub u) ∧ Hid (StAt wr w1.heap.size x) ∧ Hid (Below w.heap.size w wr)) (fun iv _ => 4 - (intOf iv).toNat)
  case atStart => exact ⟨0, by omega, rfl, V14, X14, B14⟩
  case round =>
    obtain ⟨i, hi, rfl, HV, HX, HBw⟩ := hrel
    clear V14 X14 B14
    by_cases hi4 : i < 4
    · have v1 : (i : Int) < 4 := by omega
      have HRi := Lib.hid (fun w ht => impl_RegisterOf u (i : Int) w ht hwu)
      have HRs := Lib.hid (fun w => spec_RegisterOf x (i : Int) w)
      rw [rgoV_ok (by rw [rgoC, if_pos huok, if_pos (by simp [inB]; omega)])] at HRi
      rw [rgoV_ok (by rw [rgoC, if_pos hx, if_pos (by simp [inB]; omega)])] at HRs
      unfold stV at HRi HRs
      have hgets : c = 13 ∧ stGet u i = stGet x i ∨ c = 0 ∧ ((i : Int) = 1 + r0 ∧ stGet u i = 1 + r1 ∨ (i : Int) ≠ 1 + r0 ∧ stGet u i = stGet x i) := by
        rcases hcase with ⟨h1, h2⟩ | ⟨h1, h2⟩
        · exact .inl ⟨h1, by rw [h2]⟩
        · refine .inr ⟨h1, ?_⟩
          rw [h2, stGet_put (by omega) (by omega) (by omega) (by omega)]
          by_cases hg : (i : Int) = 1 + r0
          · exact .inl ⟨hg, if_pos hg⟩
          · exact .inr ⟨hg, if_neg hg⟩
      generalize stGet u i = pu at *
      generalize stGet x i = px at *
      have ⟨y0, y1, y2, y3, y4, y5, y6⟩ := HV.out.cells
      go_wp2_with fail
      refine (HRi.out _ (HT.out.keep HBw.out)).mono ?_
      clear y0 y1 y2 y3 y4 y5 y6
      rintro e w15 ⟨rfl, b15⟩
      have HV2 := Lib.hid (HV.out.keep b15)
      have HX2 := Lib.hid (HX.out.keep b15)
      have HB2 := Lib.hid (HBw.out.trans (b15.mono HBw.out.size))
      clear b15 HV HX HBw HRi
      have ⟨y0, y1, y2, y3, y4, y5, y6⟩ := HX2.out.cells
      go_wp2_with fail
      refine (HRs.out _).mono ?_
      clear y0 y1 y2 y3 y4 y5 y6
      rintro e w16 ⟨rfl, b16⟩
      have HV3 := Lib.hid (HV2.out.keep b16)
      have HX3 := Lib.hid (HX2.out.keep b16)
      have HB3 := Lib.hid (HB2.out.trans (b16.mono HB2.out.size))
      clear b16 HV2 HX2 HB2 HRs hcase HN HM
      have ui : IntKind.i64.wrap ((i : Int) + 1) = (i : Int) + 1 := IntWalk.i64_in _ (by omega)
      rcases hgets with ⟨hc, hp⟩ | ⟨hc, ⟨hg, hp⟩ | ⟨hg, hp⟩⟩
      · have d1 : (c == 0) = false := by rw [beq_eq_false_iff_ne]; omega
        have d2 : (c != 0) = true := by rw [bne, d1]; rfl
        have d3 : (pu != px) = false := by rw [hp]; simp
        clear hc hp
        go_wp2
        go_roundw
        case rel => exact ⟨i + 1, by omega, by go_num, HV3, HX3, HB3⟩
        case measure => simp [intOf]; omega
      · have d1 : (c == 0) = true := by simpa using hc
        have d2 : (c != 0) = false := by simpa using hc
        have d3 : (pu != 1 + r1) = false := by rw [hp]; simp
        have d4 : ((i : Int) == 1 + r0) = true := by simpa using hg
        have d5 : ((i : Int) != 1 + r0) = false := by simpa using hg
        clear hc hp hg
        go_wp2
        go_roundw
        case rel => exact ⟨i + 1, by omega, by go_num, HV3, HX3, HB3⟩
        case measure => simp [intOf]; omega
      · have d1 : (c == 0) = true := by simpa using hc
        have d2 : (c != 0) = false := by simpa using hc
        have d3 : (pu != px) = false := by rw [hp]; simp
        have d4 : ((i : Int) == 1 + r0) = false := by rw [beq_eq_false_iff_ne]; exact hg
        have d5 : ((i : Int) != 1 + r0) = true := by rw [bne, d4]; rfl
        clear hc hp hg
        go_wp2
        go_roundw
        case rel => exact ⟨i + 1, by omega, by go_num, HV3, HX3, HB3⟩
        case measure => simp [intOf]; omega
    · have v1 : ¬ (i : Int) < 4 := by omega
      have HSt0 := Lib.hid (fun w => start_impl w)
      have HRi := Lib.hid (fun w ht => impl_RegisterOf startSt 0 w ht (by unfold startSt Wide64; dsimp only; omega))
      rw [rgoV_ok (by decide), show stGet startSt 0 = 1 from rfl] at HRi
      unfold StDone at HSt0
      unfold stV startSt at HSt0 HRi
      go_wp2_with fail
      refine (HSt0.out _).mono ?_
      rintro e w15 ⟨rfl, b15⟩
      have HB2 := Lib.hid (HBw.out.trans (b15.mono HBw.out.size))
      clear b15
      go_wp2_with fail
      refine (HRi.out _ (HT.out.keep HB2.out)).mono ?_
      rintro e w16 ⟨rfl, b16⟩
      have HB3 := Lib.hid (HB2.out.trans (b16.mono HB2.out.size))
      go_wp2
      go_ret
      exact ⟨rfl, HB3.out⟩

theorem table {W : World} (h : laidMetH Tryd.prog Rows.fnMachineRow.laid W) : TabM W := tabM_of_laid h
theorem readable : ∀ n ∈ Rows.fnMachineSpec.vars, ∀ g t, Tryd.prog.globalNamed n = some g → (Tryd.prog.globals[g]?).map (·.type) = some t → Tryd.prog.readableRec t = true ∧ t < Tryd.prog.types.size := sets_readable

end Go.Proofs.YtbamjhldebobhaaDoor.fnMachine

namespace Go.Proofs.YtbamjhldebobhaaDoor.fnMachine
open Go.ChangeShapes Go.WideShapes Go.ChangeAt Go.RowKit
open Go.ChangeMaps (open_string shut_string)
set_option linter.unusedVariables false

set_option maxRecDepth 100000 in
theorem contract (H : Type) (enc : TypeId × Value → H) (W : World) (base : Nat) (args : Array Value) (ds gs : List (DataW H)) (before : List MemPlace)
    (hval : ∀ (j : Nat) t v, Tryd.f3.params[j]? = some t → args[j]? = some v → Value.okWide Tryd.prog W .any base t v)
    (hW : DataW.Whole enc Tryd.prog Tryd.f3.params.toList Rows.fnMachineSpec.vars false W args.toList ds gs before) (hL : laidMetH Tryd.prog Rows.fnMachineRow.laid W) :
    Calls Tryd.prog 3 args W fun e W' => ∃ v, e = .returned v ∧ Rows.fnMachineSpec.post enc Tryd.prog Tryd.f3 false true false false W args v W' := by
  have HT := Lib.hid (table hL)
  clear hL
  have hW' := hW
  obtain ⟨p, q, hA0, hV0, rfl, hfz, hnd⟩ := hW
  have hV : DataW.TrodVars enc Tryd.prog W (fun _ => true) ["loop.example/g00748/impl.registry"] gs q := hV0
  clear hV0
  have hA : DataW.TrodAll enc Tryd.prog W 0 (fun _ => true) true Tryd.f3.params.toList args.toList ds p := hA0
  rw [Tryd.params3] at hA hval
  obtain ⟨v0, vs0, d0, ds0, p0, q0, hargs, rfl, rfl, h0, r0⟩ := trodAll_cons hA
  obtain ⟨v1, vs1, d1, ds1, p1, q1, rfl, rfl, rfl, h1, r1⟩ := trodAll_cons r0
  obtain ⟨rfl, rfl, rfl⟩ := trodAll_nil r1
  obtain rfl : args = #[v0, v1] := by cases args; simp_all
  have hgs : ∃ d, gs = [d] := by obtain ⟨_, _, _, _, d, _, hgs, _⟩ := trodVars_one hV; exact ⟨d, hgs⟩
  obtain ⟨g1, rfl⟩ := hgs
  obtain ⟨a0, len0, cap0, rfl⟩ := okWide_slice Tryd.underlying22 (hval 0 22 v0 rfl rfl)
  have k0 := h0
  have lt0 : ∀ x ∈ p0, x.block < W.heap.size := by obtain ⟨m, hm⟩ := k0; exact DataW.trod_lt m _ _ _ hm
  obtain ⟨z0, w0⟩ : ∃ zs, IsRow .u8 W a0 len0 cap0 zs := by
    obtain ⟨fuel, hf⟩ := h0
    rcases open_ints Tryd.underlying22 Tryd.underlying5 (by kernel_rfl) hf with ⟨hcs, _⟩ | ⟨x, l, c, zs, hcs, _, hl, hm, hz, _, hcell, hwz⟩
    · simp [Value.cells] at hcs
      obtain ⟨rfl, rfl, rfl⟩ := hcs
      exact ⟨[], .inl ⟨rfl, rfl, rfl, rfl⟩⟩
    · simp [Value.cells] at hcs
      obtain ⟨rfl, rfl, rfl⟩ := hcs
      exact ⟨zs, .inr ⟨_, rfl, hl, hm, by simpa using hz, hcell, hwz⟩⟩
  obtain ⟨a1, len1, cap1, rfl⟩ := okWide_slice Tryd.underlying22 (hval 1 22 v1 rfl rfl)
  have k1 := h1
  have lt1 : ∀ x ∈ p1, x.block < W.heap.size := by obtain ⟨m, hm⟩ := k1; exact DataW.trod_lt m _ _ _ hm
  obtain ⟨z1, w1⟩ : ∃ zs, IsRow .u8 W a1 len1 cap1 zs := by
    obtain ⟨fuel, hf⟩ := h1
    rcases open_ints Tryd.underlying22 Tryd.underlying5 (by kernel_rfl) hf with ⟨hcs, _⟩ | ⟨x, l, c, zs, hcs, _, hl, hm, hz, _, hcell, hwz⟩
    · simp [Value.cells] at hcs
      obtain ⟨rfl, rfl, rfl⟩ := hcs
      exact ⟨[], .inl ⟨rfl, rfl, rfl, rfl⟩⟩
    · simp [Value.cells] at hcs
      obtain ⟨rfl, rfl, rfl⟩ := hcs
      exact ⟨zs, .inr ⟨_, rfl, hl, hm, by simpa using hz, hcell, hwz⟩⟩
  clear hA0
  refine (walk a0 len0 cap0 z0 a1 len1 cap1 z1 W w0 w1 HT.out).mono fun e W' ⟨he, bel⟩ => ?_
  subst he
  exact ⟨_, rfl, _, _, _, [], _, q, hW', trodAll_mk1 (shut_bool Tryd.underlying4 _), (trodAll_cons_mk (Below.trod laidOut (by kernel_rfl) (of_decide_eq_true (by kernel_rfl)) k0 bel lt0) (trodAll_cons_mk (Below.trod laidOut (by kernel_rfl) (of_decide_eq_true (by kernel_rfl)) k1 bel lt1) trodAll_mk0)), trodVars_below laidOut bel readable hV, bel.frame _, fun h => by cases h⟩

theorem laid_met (os : Os) : laidMetH Tryd.prog Rows.fnMachineRow.laid ((World.doorLaid Tryd.prog 400 os).forCall (fun _ _ => 0) ⟨#[], #[.slice none 0 0, .slice none 0 0], []⟩).memory :=
  laidMetH_of_parts3 (fuel := 8) (laidMet_of_run' 8 (by kernel_rfl) (by kernel_rfl)) (by kernel_rfl) (by kernel_rfl)
theorem reads (os : Os) {H : Type} (enc : TypeId × Value → H) : ∃ x, DataW.whole enc Tryd.prog ((World.doorLaid Tryd.prog 400 os).forCall (fun _ _ => 0) ⟨#[], #[.slice none 0 0, .slice none 0 0], []⟩).memory Tryd.f3.params.toList Rows.fnMachineSpec.vars false #[.slice none 0 0, .slice none 0 0].toList 8 = some x :=
  Option.isSome_iff_exists.1 (by kernel_rfl)

set_option maxRecDepth 100000 in
theorem lifted (os : Os) (started : os.Started) (H : Type) (enc : TypeId × Value → H) (F : Stop.Interp) :
    ReturnsInHanded {} Tryd.checked os 3 .any ((OpenSpec.ofChange Rows.fnMachineSpec).preRow enc Tryd.prog Tryd.f3 Rows.fnMachineRow.domain false Rows.fnMachineRow.laid) (((OpenSpec.ofChange Rows.fnMachineSpec).at F).post enc Tryd.prog Tryd.f3 false true false false) := by
  obtain ⟨x, hx⟩ := reads os enc
  refine returnsInHanded_of_row (C := Tryd.checked) (s := OpenSpec.ofChange Rows.fnMachineSpec) own started (by kernel_rfl) Tryd.func3
    (witness_row_atRef (enc := enc) (C := Tryd.checked) false (World.doorLaid Tryd.prog 400 os) #[.slice none 0 0, .slice none 0 0] rfl (by kernel_rfl) (by kernel_rfl) (by kernel_rfl)
      (OpenSpec.preRow_of_cond 8 hx rfl (fun k hk => by cases hk) (by kernel_rfl) (laid_met os))) ?_
  intro W base args ds gs before hval hW _ _ _ hL _ _
  exact contract H enc W base args ds gs before hval hW hL

theorem said : Rows.FnMachineSaid :=
  OpenClaim.holds_of_cond 3 Tryd.f3 rfl rfl rfl rfl rfl rfl rfl ⟨rfl, rfl, rfl, rfl, rfl⟩ rfl rfl rfl rfl rfl (by kernel_rfl) Tryd.func3 (by kernel_rfl)
    (of_decide_eq_true (by kernel_rfl)) (by unfold Func.isWrapper; first | (rw [if_pos (by decide +kernel)]; kernel_rfl) | (rw [if_neg (by decide +kernel)]; exact ⟨rfl, rfl⟩))
    (fun os started H enc _ F => by rw [OpenClaim.pre_eq_preRow]; exact lifted os started H enc F)

theorem plain (f : FuncId) (fn : Func) (hf : Tryd.pinned.checked.prog.funcNamed "loop.example/g00748/laws.FnMachine" = some f) (hfn : Tryd.pinned.checked.prog.funcs[f]? = some fn) :
    Rows.fnMachineCard.stood.looks = Tryd.pinned.checked.prog.looks [] ∧ ∀ (j : Nat) t, fn.params[j]? = some t → Tryd.pinned.checked.prog.wantsStandIn t = false := by
  obtain rfl : f = 3 := Option.some.inj ((show Tryd.prog.funcNamed "loop.example/g00748/laws.FnMachine" = some 3 by kernel_rfl).symm.trans hf) |>.symm
  obtain rfl : fn = Tryd.f3 := (Option.some.inj (Tryd.func3.symm.trans hfn)).symm
  refine ⟨by kernel_rfl, fun j t ht => ?_⟩
  rw [Tryd.params3] at ht
  have hm := Array.mem_of_getElem? ht
  simp at hm
  subst hm
  exact (show Tryd.prog.wantsStandIn 22 = false by kernel_rfl)

theorem card : Rows.FnMachineCardSaid :=
  Claim7.holds_tied_plain_at .later [] _ _ _ _ said (fun _ h => by cases h) (by kernel_rfl) (fun _ h => by cases h) fnMachine_row_tie rfl ⟨rfl, rfl⟩ (by kernel_rfl) rfl plain (by kernel_rfl)
end Go.Proofs.YtbamjhldebobhaaDoor.fnMachine

namespace Go.Proofs.YtbamjhldebobhaaDoor
theorem fnMachine_holds : Rows.FnMachineCardSaid := fnMachine.card
end Go.Proofs.YtbamjhldebobhaaDoor
