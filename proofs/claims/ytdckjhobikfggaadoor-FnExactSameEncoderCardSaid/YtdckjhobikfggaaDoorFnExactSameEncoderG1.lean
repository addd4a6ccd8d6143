/- SameEncoder: the specification's and the program's. Joined of: PrB, PrC, EnA, MaD, PrI, SetsJ, MaF, PrJ, PlA, PlB, PlC, PrK, ByteI, TokH, EnB, TakeA, ErrIs, TakeB, TakeC, Words, LnP, MarkB, LnL, LnT, EnW, LnS, LnU, LnQ, LnE, LnR. -/
import Derived.Test.YtdckjhobikfggaaDoorPrA
import Derived.Test.YtdckjhobikfggaaDoorStL
import Derived.Test.YtdckjhobikfggaaDoorTokG
import Derived.Test.YtdckjhobikfggaaDoorEnM
import Derived.Test.YtdckjhobikfggaaDoorSetsC
import Derived.Test.YtdckjhobikfggaaDoorStD
import Derived.Test.YtdckjhobikfggaaDoorMaC
import Derived.Test.YtdckjhobikfggaaDoorStN
import Derived.Test.YtdckjhobikfggaaDoorEscI
import Derived.Test.YtdckjhobikfggaaDoorSetsT
import Derived.Maps.OwnSet
import Derived.Laws.StructEq
import Derived.Great.Frames
import Derived.Test.YtdckjhobikfggaaDoorTokB
import Derived.Test.YtdckjhobikfggaaDoorTokD
import Derived.Test.YtdckjhobikfggaaDoorTakeM
import Derived.Test.YtdckjhobikfggaaDoorRunesA
import Derived.LaidEql
import Derived.Stop.Asserts
import Derived.RowKitTokens
import Derived.Deep.QuietTactic
import Derived.BigQuiet
import Derived.Laws.Rows
import Derived.Test.YtdckjhobikfggaaDoorLnM
import Derived.Lib.Strings
import Derived.Test.YtdckjhobikfggaaDoorMarks
import Derived.Test.YtdckjhobikfggaaDoorLnA
import Derived.Test.YtdckjhobikfggaaDoorConv
import Derived.OrdersHeld
import Derived.RegionTactic
import Derived.Deep.RegionHeld
import Derived.Test.YtdckjhobikfggaaDoorPrS
import Derived.Test.YtdckjhobikfggaaDoorInts

namespace Go.Proofs.YtdckjhobikfggaaDoor
open Go.RowKit

theorem prField0 : ∀ (a b c d e f g h : Value) (w : World), (Instr.field 109 (.agg #[a, b, c, d, e, f, g, h]) 0).run Tryd.prog w = .ok a w := fun _ _ _ _ _ _ _ _ _ => by kernel_rfl
theorem prField7 : ∀ (a b c d e f g h : Value) (w : World), (Instr.field 109 (.agg #[a, b, c, d, e, f, g, h]) 7).run Tryd.prog w = .ok h w := fun _ _ _ _ _ _ _ _ _ => by kernel_rfl

/-- A profile in a block. -/
def PrAt (w : World) (g : Nat) (n : Int) (v : Value) : Prop := w.heap[g]? = some (.cells #[.string (prName n), .string (prHead n), v, .bool (prRight n), .bool (prShifts n), .bool (prSingle n), .bool (prReset n), .bool (prClear n)] 109)
theorem PrAt.lt {w : World} {g : Nat} {n : Int} {v : Value} (h : PrAt w g n v) : g < w.heap.size := (Array.getElem?_eq_some_iff.1 h).1
theorem PrAt.keep {w w' : World} {g : Nat} {n : Int} {v : Value} (h : PrAt w g n v) (b : Below w.heap.size w w') : PrAt w' g n v := (b.block g h.lt).trans h
theorem PrAt.cells {w : World} {g : Nat} {n : Int} {v : Value} (h : PrAt w g n v) : w.cell? ⟨g, 2, none⟩ = some v ∧ w.cell? ⟨g, 3, none⟩ = some (.bool (prRight n)) ∧ w.cell? ⟨g, 4, none⟩ = some (.bool (prShifts n)) ∧ w.cell? ⟨g, 5, none⟩ = some (.bool (prSingle n)) ∧ w.cell? ⟨g, 6, none⟩ = some (.bool (prReset n)) ∧ w.cell? ⟨g, 7, none⟩ = some (.bool (prClear n)) := by
  refine ⟨?_, ?_, ?_, ?_, ?_, ?_⟩ <;> (rw [cell_of_row _ _ _ _ _ _ h]; rfl)

set_option maxHeartbeats 400000 in
theorem spec_l05Rest (n : Int) (v : Value) (x : St) (w : World) : Calls Tryd.prog 114 #[prV n v, stV x] w fun e w' => e = .returned (.bool (restB n x)) ∧ Below w.heap.size w w' := by
  have HP := Lib.hid (spec_l04Pending x)
  have HR : Hid (restB n x = (!pendB x && (!prReset n || (decide (x.l = 0) && decide (x.g0 = 1))))) := Lib.hid rfl
  have B0 := Lib.hid (below_two w (.cells #[.string (prName n), .string (prHead n), v, .bool (prRight n), .bool (prShifts n), .bool (prSingle n), .bool (prReset n), .bool (prClear n)] 109) (.cells #[.int .i64 x.g0, .int .i64 x.g1, .int .i64 x.g2, .int .i64 x.g3, .int .i64 x.l, .int .i64 x.s, .int .i64 x.d] 45))
  have A0 : Hid (PrAt ((w.alloc (.cells #[.string (prName n), .string (prHead n), v, .bool (prRight n), .bool (prShifts n), .bool (prSingle n), .bool (prReset n), .bool (prClear n)] 109)).alloc (.cells #[.int .i64 x.g0, .int .i64 x.g1, .int .i64 x.g2, .int .i64 x.g3, .int .i64 x.l, .int .i64 x.s, .int .i64 x.d] 45)) w.heap.size n v) := Lib.hid (heap_alloc2_old _ _ _)
  have S0 : Hid (StAt ((w.alloc (.cells #[.string (prName n), .string (prHead n), v, .bool (prRight n), .bool (prShifts n), .bool (prSingle n), .bool (prReset n), .bool (prClear n)] 109)).alloc (.cells #[.int .i64 x.g0, .int .i64 x.g1, .int .i64 x.g2, .int .i64 x.g3, .int .i64 x.l, .int .i64 x.s, .int .i64 x.d] 45)) (w.heap.size + 1) x) := Lib.hid (heap_alloc2_new _ _ _)
  unfold prV stV
  unfold stV at HP
  generalize restB n x = q at *
  cases hp : pendB x
  · rw [hp] at HP HR
    go_enter Tryd.func114, Tryd.ntmps114
    go_wp2_with fail
    refine (HP.out _).mono ?_
    generalize (w.alloc (.cells #[.string (prName n), .string (prHead n), v, .bool (prRight n), .bool (prShifts n), .bool (prSingle n), .bool (prReset n), .bool (prClear n)] 109)).alloc (.cells #[.int .i64 x.g0, .int .i64 x.g1, .int .i64 x.g2, .int .i64 x.g3, .int .i64 x.l, .int .i64 x.s, .int .i64 x.d] 45) = W0 at *
    rintro e w1 ⟨rfl, b1⟩
    have ⟨_, _, _, _, p6, _⟩ := (A0.out.keep b1).cells
    have ⟨y0, _, _, _, y4, _, _⟩ := (S0.out.keep b1).cells
    have B1 : Hid (Below w.heap.size w w1) := Lib.hid (B0.out.trans (b1.mono B0.out.size))
    clear b1 A0 S0
    cases hr : prReset n
    · have HE : Hid (q = true) := Lib.hid (by rw [HR.out, hr]; rfl)
      rw [hr] at p6
      go_wp2
      go_ret
      exact ⟨ret_bool HE.out.symm, B1.out⟩
    · rw [hr] at p6
      by_cases hl : x.l = 0
      · have HE : Hid (q = (x.g0 == 1)) := Lib.hid (by rw [HR.out, hr, show decide (x.l = 0) = true by simpa using hl]; rfl)
        have el : (x.l == 0) = true := by simp [hl]
        clear hl
        go_wp2
        go_ret
        exact ⟨ret_bool HE.out.symm, B1.out⟩
      · have HE : Hid (q = false) := Lib.hid (by rw [HR.out, hr, show decide (x.l = 0) = false by simpa using hl]; rfl)
        have el : (x.l == 0) = false := by simp [hl]
        go_wp2
        go_ret
        exact ⟨ret_bool HE.out.symm, B1.out⟩
  · have HE : Hid (q = false) := Lib.hid (by rw [HR.out, hp]; rfl)
    rw [hp] at HP
    go_enter Tryd.func114, Tryd.ntmps114
    go_wp2_with fail
    refine (HP.out _).mono ?_
    generalize (w.alloc (.cells #[.string (prName n), .string (prHead n), v, .bool (prRight n), .bool (prShifts n), .bool (prSingle n), .bool (prReset n), .bool (prClear n)] 109)).alloc (.cells #[.int .i64 x.g0, .int .i64 x.g1, .int .i64 x.g2, .int .i64 x.g3, .int .i64 x.l, .int .i64 x.s, .int .i64 x.d] 45) = W0 at *
    rintro e w1 ⟨rfl, b1⟩
    have B1 : Hid (Below w.heap.size w w1) := Lib.hid (B0.out.trans (b1.mono B0.out.size))
    clear b1 A0 S0
    go_wp2
    go_ret
    exact ⟨ret_bool HE.out.symm, B1.out⟩

/-- The first number with that name; 0 of none. -/
def prNo (s : ByteArray) : Int := firstNo (fun k => decide (prName k = s)) 5 1
def pnC (s : ByteArray) : Int := if 65536 < s.size then 2 else if prNo s = 0 then 5 else 0
def pnR (s : ByteArray) : Int := if pnC s = 0 then prNo s else 0
def pnV (s : ByteArray) : Value := .tuple #[.int .i64 (pnR s), .int .i64 (pnC s)]
theorem pnV_bad (s : ByteArray) (c : Int) (h : pnC s = c) (h0 : c ≠ 0) : pnV s = .tuple #[.int .i64 0, .int .i64 c] := by simp [pnV, pnR, h, h0]
theorem pnV_ok (s : ByteArray) (h : pnC s = 0) : pnV s = .tuple #[.int .i64 (prNo s), .int .i64 0] := by simp [pnV, pnR, h]
theorem PrDone.part {n : Int} {w : World} {e : Ending} {w' : World} (h : PrDone n w e w') : ∃ v, e = .returned (prV n v) ∧ Below w.heap.size w w' := by
  obtain ⟨v, h1, _, h3⟩ := h
  exact ⟨v, h1, h3⟩

/-- AtRest and LineEnd: what they answer. -/
def arC (n : Int) (x : St) : Int := if proB n = true then (if stOKB x = true then 0 else 1) else 5
def arB (n : Int) (x : St) : Bool := proB n && (stOKB x && restB n x)
def leC (n : Int) (x : St) : Int := if proB n = true then (if stOKB x = true then (if restB n x = true then 0 else 14) else 1) else 5
def leX (n : Int) (x : St) : St := if leC n x = 0 then lineX n x else if leC n x = 14 then x else zeroSt
def ArDone (n : Int) (x : St) (w : World) (e : Ending) (w' : World) : Prop := e = .returned (.tuple #[.bool (arB n x), .int .i64 (arC n x)]) ∧ Below w.heap.size w w'
def LeDone (n : Int) (x : St) (w : World) (e : Ending) (w' : World) : Prop := e = .returned (.tuple #[stV (leX n x), .int .i64 (leC n x)]) ∧ Below w.heap.size w w'
theorem arDone_bad {n : Int} {x : St} {w w' : World} {c : Int} (h : arC n x = c) (h0 : c ≠ 0) (hb : Below w.heap.size w w') : ArDone n x w (.returned (.tuple #[.bool false, .int .i64 c])) w' := by
  refine ⟨?_, hb⟩
  have : arB n x = false := by
    unfold arC at h
    unfold arB
    cases h1 : proB n <;> cases h2 : stOKB x <;> simp_all
  rw [this, h]
theorem arDone_ok {n : Int} {x : St} {w w' : World} {b : Bool} (h1 : proB n = true) (h2 : stOKB x = true) (h3 : restB n x = b) (hb : Below w.heap.size w w') : ArDone n x w (.returned (.tuple #[.bool b, .int .i64 0])) w' := by
  refine ⟨?_, hb⟩
  rw [arB, arC, h1, h2, h3]
  simp


theorem leX_bad {n : Int} {x : St} {c : Int} (h : leC n x = c) (h0 : c ≠ 0) (h1 : c ≠ 14) : leX n x = zeroSt := by simp [leX, h, h0, h1]
theorem leX_14 {n : Int} {x : St} (h : leC n x = 14) : leX n x = x := by simp [leX, h]
theorem leX_ok {n : Int} {x : St} (h : leC n x = 0) : leX n x = lineX n x := by simp [leX, h]

end Go.Proofs.YtdckjhobikfggaaDoor

namespace Go.Proofs.YtdckjhobikfggaaDoor
open Go.RowKit Go.Sort

/-- A list holds a number. -/
def hasB (zs : List Int) (n : Int) : Bool := zs.contains n
theorem hasB_iff (zs : List Int) (n : Int) : hasB zs n = true ↔ n ∈ zs := by simp [hasB]
theorem hasB_take (zs : List Int) (k : Nat) (n : Int) (h : k < zs.length) : hasB (zs.take (k + 1)) n = (hasB (zs.take k) n || decide (zs.getD k 0 = n)) := by
  rw [Bool.eq_iff_iff, hasB_iff, Bool.or_eq_true, hasB_iff, decide_eq_true_eq, List.take_succ_eq_append_getElem h, List.mem_append, List.mem_singleton]
  simp only [List.getD, List.getElem?_eq_getElem h, Option.getD_some]
  constructor
  · rintro (h | h)
    · exact .inl h
    · exact .inr h.symm
  · rintro (h | h)
    · exact .inl h
    · exact .inr h.symm

theorem l05_blocks (w : World) (n : Int) (v : Value) (t : Tok) : PrAt ((w.alloc (.cells #[.string (prName n), .string (prHead n), v, .bool (prRight n), .bool (prShifts n), .bool (prSingle n), .bool (prReset n), .bool (prClear n)] 109)).alloc (.cells #[.int .i64 t.k, .int .i64 t.a, .int .i64 t.b, .int .i64 t.c, .int .i64 t.p, .int .i64 t.n] 155)) w.heap.size n v ∧ TokAt ((w.alloc (.cells #[.string (prName n), .string (prHead n), v, .bool (prRight n), .bool (prShifts n), .bool (prSingle n), .bool (prReset n), .bool (prClear n)] 109)).alloc (.cells #[.int .i64 t.k, .int .i64 t.a, .int .i64 t.b, .int .i64 t.c, .int .i64 t.p, .int .i64 t.n] 155)) (w.heap.size + 1) t ∧
    Below w.heap.size w ((w.alloc (.cells #[.string (prName n), .string (prHead n), v, .bool (prRight n), .bool (prShifts n), .bool (prSingle n), .bool (prReset n), .bool (prClear n)] 109)).alloc (.cells #[.int .i64 t.k, .int .i64 t.a, .int .i64 t.b, .int .i64 t.c, .int .i64 t.p, .int .i64 t.n] 155)) :=
  ⟨heap_alloc2_old _ _ _, heap_alloc2_new _ _ _, below_two _ _ _⟩
theorem SetsAt.pick {w : World} {v : Value} {n : Int} (h : SetsAt w v n) (a : Int) (a0 : 0 ≤ a) (a3 : a ≤ 3) : ∃ g c u, v = .slice (some ⟨g, 0, none⟩) 4 c ∧ w.cell? ⟨g, a.toNat, none⟩ = some u ∧ Ints .i64 w u (prSets n a) := by
  obtain ⟨g, c, v0, v1, v2, v3, rfl, c0, c1, c2, c3, i0, i1, i2, i3⟩ := h
  rcases (show a = 0 ∨ a = 1 ∨ a = 2 ∨ a = 3 by omega) with rfl | rfl | rfl | rfl
  · exact ⟨g, c, v0, rfl, c0, i0⟩
  · exact ⟨g, c, v1, rfl, c1, i1⟩
  · exact ⟨g, c, v2, rfl, c2, i2⟩
  · exact ⟨g, c, v3, rfl, c3, i3⟩
theorem prSets_few (n a : Int) : (prSets n a).length ≤ 1048576 := by
  unfold prSets prSet0 prSet1 prSet2
  repeat' split
  all_goals decide

end Go.Proofs.YtdckjhobikfggaaDoor

namespace Go.Proofs.YtdckjhobikfggaaDoor
open Go.RowKit

theorem SetsAt.shape {w : World} {v : Value} {n : Int} (h : SetsAt w v n) : ∃ g c, v = .slice (some ⟨g, 0, none⟩) 4 c := by
  obtain ⟨g, c, _, _, _, _, rfl, _⟩ := h
  exact ⟨g, c, rfl⟩
theorem canG_take (g r : Int) (qs : List Int) (k : Nat) (h : k < qs.length) (h0 : canG g r (qs.take k) = false) (c : Int) (hc : codeS (setSpans (qs.getD k 0)) r = c) : canG g r (qs.take (k + 1)) = (decide (0 < c) && (decide (g ≠ 2) || decide (c ≠ 127))) := by
  subst hc
  rw [List.take_succ_eq_append_getElem h]
  unfold canG at h0 ⊢
  rw [List.any_append, h0]
  simp [List.getD, List.getElem?_eq_getElem h]
theorem Ints.pick {w : World} {a : Option Addr} {n c : Nat} {zs : List Int} (h : Ints .i64 w (.slice a n c) zs) (j : Nat) (hj : j < zs.length) : ∃ b off, a = some ⟨b, off, none⟩ ∧ w.cell? ⟨b, off + j, none⟩ = some (.int .i64 (zs.getD j 0)) := by
  rcases h with ⟨rfl, _⟩ | ⟨b, off, c2, hv, hc⟩
  · simp at hj
  · injection hv with h1 h2 h3
    exact ⟨b, off, h1, hc j hj⟩
theorem canG_some {g r : Int} {qs : List Int} {k : Nat} (h : canG g r (qs.take k) = true) : canG g r qs = true := by
  unfold canG at h ⊢
  rw [List.any_eq_true] at h ⊢
  obtain ⟨q, h1, h2⟩ := h
  exact ⟨q, List.mem_of_mem_take h1, h2⟩
theorem canB_yes {n r : Int} {g : Nat} (ho : ownR r = false) (hg : g < 4) (h : canG g r (prSets n g) = true) : canB n r = true := by
  unfold canB
  rw [if_neg (by rw [ho]; decide)]
  rcases (show g = 0 ∨ g = 1 ∨ g = 2 ∨ g = 3 by omega) with rfl | rfl | rfl | rfl
  · simp [show canG 0 r (prSet0 n) = true from h]
  · simp [show canG 1 r (prSet1 n) = true from h]
  · simp [show canG 2 r (prSet2 n) = true from h]
  · simp [canG, prSets] at h
theorem canB_no {n r : Int} (ho : ownR r = false) (h : ∀ g : Nat, g < 4 → canG g r (prSets n g) = false) : canB n r = false := by
  unfold canB
  rw [if_neg (by rw [ho]; decide)]
  simp [show canG 0 r (prSet0 n) = false from h 0 (by decide), show canG 1 r (prSet1 n) = false from h 1 (by decide), show canG 2 r (prSet2 n) = false from h 2 (by decide)]

set_option maxHeartbeats 1000000 in
theorem spec_l07Can (n r : Int) (w : World) : Calls Tryd.prog 122 #[.int .i64 n, .int .i64 r] w fun e w' => e = .returned (.bool (canB n r)) ∧ Below w.heap.size w w' := by
  by_cases ho : r < 33 ∨ r = 127
  · have HO : Hid (ownR r = true) := Lib.hid (by simpa [ownR] using ho)
    have HE : Hid (canB n r = (decide (r ≠ 14) && (decide (r ≠ 15) && decide (r ≠ 27)))) := Lib.hid (by unfold canB; rw [if_pos HO.out])
    by_cases h14 : r = 14
    · subst h14
      go_enter Tryd.func122, Tryd.ntmps122
      go_wp2
      go_ret
      exact ⟨ret_bool (by rw [HE.out]; decide), Below.refl _ _⟩
    by_cases h15 : r = 15
    · subst h15
      go_enter Tryd.func122, Tryd.ntmps122
      go_wp2
      go_ret
      exact ⟨ret_bool (by rw [HE.out]; decide), Below.refl _ _⟩
    by_cases h27 : r = 27
    · subst h27
      go_enter Tryd.func122, Tryd.ntmps122
      go_wp2
      go_ret
      exact ⟨ret_bool (by rw [HE.out]; decide), Below.refl _ _⟩
    have HF : Hid (canB n r = true) := Lib.hid (by rw [HE.out]; simp [h14, h15, h27])
    have e14 : (r != 14) = true := by simp [h14]
    have e15 : (r != 15) = true := by simp [h15]
    have e27 : (r != 27) = true := by simp [h27]
    clear h14 h15 h27 HE
    rcases ho with ho | ho
    · have e33 : decide (r < 33) = true := by simp [ho]
      clear ho
      go_enter Tryd.func122, Tryd.ntmps122
      go_wp2
      go_ret
      exact ⟨ret_bool HF.out.symm, Below.refl _ _⟩
    · subst ho
      go_enter Tryd.func122, Tryd.ntmps122
      go_wp2
      go_ret
      exact ⟨ret_bool HF.out.symm, Below.refl _ _⟩
  · have HO : Hid (ownR r = false) := Lib.hid (by simpa [ownR] using ho)
    have e33 : decide (r < 33) = false := by simp; omega
    have e127 : (r == 127) = false := by simp; omega
    clear ho
    have HP := Lib.hid (fun w => spec_l05Profile n w)
    unfold PrDone prV at HP
    go_enter Tryd.func122, Tryd.ntmps122
    go_wp2_with fail
    refine (HP.out _).mono ?_
    rintro e w1 ⟨v, rfl, hS, b1⟩
    obtain ⟨vg, vc, rfl⟩ := hS.shape
    have B0 := Lib.hid (b1.trans ((below_one w1 (.cells #[.string (prName n), .string (prHead n), .slice (some ⟨vg, 0, none⟩) 4 vc, .bool (prRight n), .bool (prShifts n), .bool (prSingle n), .bool (prReset n), .bool (prClear n)] 109)).mono b1.size))
    have HS := Lib.hid (hS.keep (below_one w1 (.cells #[.string (prName n), .string (prHead n), .slice (some ⟨vg, 0, none⟩) 4 vc, .bool (prRight n), .bool (prShifts n), .bool (prSingle n), .bool (prReset n), .bool (prClear n)] 109)))
    have HA : Hid (PrAt (w1.alloc (.cells #[.string (prName n), .string (prHead n), .slice (some ⟨vg, 0, none⟩) 4 vc, .bool (prRight n), .bool (prShifts n), .bool (prSingle n), .bool (prReset n), .bool (prClear n)] 109)) w1.heap.size n (.slice (some ⟨vg, 0, none⟩) 4 vc)) := Lib.hid (heap_alloc_new _ _)
    clear hS b1
    go_wp2
    generalize hg : w1.heap.size = g at *
    generalize w1.alloc (.cells #[.string (prName n), .string (prHead n), .slice (some ⟨vg, 0, none⟩) 4 vc, .bool (prRight n), .bool (prShifts n), .bool (prSingle n), .bool (prReset n), .bool (prClear n)] 109) = W at *
    clear hg
    go_loopw [6] (fun i wr => ∃ k : Nat, k ≤ 4 ∧ i = .int .i64 k ∧ Hid (∀ g : Nat, g < k → canG g r (prSets n g) = false) ∧ Below W.heap.size W wr) (fun i _ => 4 - (intOf i).toNat)
    case atStart => exact ⟨0, by omega, rfl, Lib.hid (fun g hg => absurd hg (by omega)), Below.refl _ _⟩
    case round =>
      obtain ⟨k, hk, rfl, HC, hb⟩ := hrel
      by_cases hk4 : k < 4
      · have hk4' : (k : Int) < 4 := by omega
        have hk0' : (0 : Int) ≤ (k : Int) := by omega
        go_wp2
        go_loopw [7, 8] (fun i _ wq => ∃ j : Nat, j ≤ (prSets n k).length ∧ i = .int .i64 j ∧ Hid (canG k r ((prSets n k).take j) = false) ∧ Below W.heap.size W wq) (fun i _ _ => (prSets n k).length - (intOf i).toNat)
        case atStart => exact ⟨0, by omega, rfl, Lib.hid rfl, hb⟩
        case round =>
          clear hb
          obtain ⟨j, hj, rfl, HJ, hq⟩ := hrel
          obtain ⟨gs, cs, u, hv, hu, hI⟩ := (HS.out.keep hq).pick k (by omega) (by omega)
          rw [Int.toNat_natCast] at hu
          have ⟨p2, _, _, _, _, _⟩ := (HA.out.keep hq).cells
          injection hv with v1 v2 v3
          injection v1 with v1
          injection v1 with v1 _ _
          subst v1 v3
          obtain ⟨ua, uc, rfl⟩ := hI.form
          have hfew := prSets_few n k
          have HY := Lib.hid (fun (h : canG k r (prSets n k) = true) => canB_yes (n := n) HO.out hk4 h)
          have HCk : Hid (∀ c, j < (prSets n k).length → codeS (setSpans ((prSets n k).getD j 0)) r = c → canG k r ((prSets n k).take (j + 1)) = (decide (0 < c) && (decide ((k : Int) ≠ 2) || decide (c ≠ 127)))) := Lib.hid (fun c h1 h2 => canG_take k r _ j h1 HJ.out c h2)
          have HNx : Hid (canG k r (prSets n k) = false → ∀ g : Nat, g < k + 1 → canG g r (prSets n g) = false) := Lib.hid (fun h g hg => by
            by_cases hgk : g = k
            · subst hgk; exact h
            · exact HC.out g (by omega))
          generalize prSets n k = zs at *
          by_cases hjl : j < zs.length
          · have hjl' : (j : Int) < (zs.length : Int) := by omega
            have hj0' : (0 : Int) ≤ (j : Int) := by omega
            obtain ⟨b, off, rfl, c1⟩ := hI.pick j hjl
            have HCj := Lib.hid (fun c => HCk.out c hjl)
            clear hI HCk HJ
            generalize zs.getD j 0 = z at *
            go_wp2_with fail
            refine (spec_l02For _ _ _).mono ?_
            rintro e w2 ⟨rfl, b2⟩
            have hb2 : Below W.heap.size W w2 := hq.trans (b2.mono hq.size)
            have HCc := Lib.hid (HCj.out _ rfl)
            generalize codeS (setSpans z) r = c at *
            clear c1 p2 hu hq b2 HCj
            by_cases hc : 0 < c
            · have ec : decide (0 < c) = true := by simp [hc]
              by_cases hk2 : k = 2
              · have ek : ((k : Int) != 2) = false := by simp [hk2]
                by_cases hc7 : c = 127
                · have ecc : (c != 127) = false := by simp [hc7]
                  have HN : Hid (canG k r (zs.take (j + 1)) = false) := Lib.hid (by rw [HCc.out]; simp [hk2, hc7])
                  clear hc hk2 hc7
                  go_wp2
                  go_roundw
                  case rel => exact ⟨j + 1, by omega, by go_num, HN, hb2⟩
                  case measure => simp [intOf]; omega
                · have ecc : (c != 127) = true := by simp [hc7]
                  have HN : Hid (canB n r = true) := Lib.hid (HY.out (canG_some (k := j + 1) (by rw [HCc.out]; simp [hc, hc7])))
                  clear hc hk2 hc7
                  go_wp2
                  go_ret
                  exact ⟨ret_bool HN.out.symm, B0.out.trans (hb2.mono B0.out.size)⟩
              · have ek : ((k : Int) != 2) = true := by simp; omega
                have HN : Hid (canB n r = true) := Lib.hid (HY.out (canG_some (k := j + 1) (by rw [HCc.out]; simp [hc]; omega)))
                clear hc hk2
                go_wp2
                go_ret
                exact ⟨ret_bool HN.out.symm, B0.out.trans (hb2.mono B0.out.size)⟩
            · have ec : decide (0 < c) = false := by simp; omega
              have HN : Hid (canG k r (zs.take (j + 1)) = false) := Lib.hid (by rw [HCc.out]; simp [hc])
              clear hc
              go_wp2
              go_roundw
              case rel => exact ⟨j + 1, by omega, by go_num, HN, hb2⟩
              case measure => simp [intOf]; omega
          · have HN : Hid (∀ g : Nat, g < k + 1 → canG g r (prSets n g) = false) := Lib.hid (HNx.out (by
              have := HJ.out
              rw [List.take_of_length_le (by omega)] at this
              exact this))
            go_wp2
            go_roundw
            case rel => exact ⟨k + 1, by omega, by go_num, HN, hq⟩
            case measure => simp [intOf]; omega
      · have HE : Hid (canB n r = false) := Lib.hid (canB_no HO.out fun g hg => HC.out g (by omega))
        go_wp2
        go_ret
        exact ⟨ret_bool HE.out.symm, B0.out.trans (hb.mono B0.out.size)⟩

end Go.Proofs.YtdckjhobikfggaaDoor

namespace Go.Proofs.YtdckjhobikfggaaDoor
open Go.RowKit Go.Sort

theorem pend_eq {x : St} (h : stOKB x = true) : pendI x = pendB x := by
  obtain ⟨_, h2, h3⟩ := stOK_parts h
  have a := (head_parts h2).2
  have b := lead_range h3
  unfold pendI pendB
  have e1 : (x.s != 0) = decide (0 < x.s) := by
    rw [Bool.eq_iff_iff]; simp; omega
  have e2 : (x.d != 0) = decide (0 < x.d) := by
    rw [Bool.eq_iff_iff]; simp; omega
  rw [e1, e2]

end Go.Proofs.YtdckjhobikfggaaDoor

namespace Go.Proofs.YtdckjhobikfggaaDoor
open Go.RowKit

theorem pro_cases {n : Int} (h : proB n = true) : n = 1 ∨ n = 2 ∨ n = 3 ∨ n = 4 ∨ n = 5 := by have := inB_true h; omega
theorem head_kr : eoV 1 7 = .tuple #[.string ⟨#[27, 36, 41, 67]⟩, .int .i64 0] := by kernel_rfl
theorem row8_cells {w : World} {g : Nat} {a0 a1 a2 a3 a4 a5 a6 a7 : Value} {t : TypeId} {fr : Nat × Nat} (h : w.heap[g]? = some (.cells #[a0, a1, a2, a3, a4, a5, a6, a7] t fr)) : w.cell? ⟨g, 0, none⟩ = some a0 ∧ w.cell? ⟨g, 1, none⟩ = some a1 ∧ w.cell? ⟨g, 2, none⟩ = some a2 ∧ w.cell? ⟨g, 3, none⟩ = some a3 ∧ w.cell? ⟨g, 4, none⟩ = some a4 ∧ w.cell? ⟨g, 5, none⟩ = some a5 ∧ w.cell? ⟨g, 6, none⟩ = some a6 ∧ w.cell? ⟨g, 7, none⟩ = some a7 :=
  ⟨by rw [cell_of_row _ _ _ _ _ _ h]; rfl, by rw [cell_of_row _ _ _ _ _ _ h]; rfl, by rw [cell_of_row _ _ _ _ _ _ h]; rfl, by rw [cell_of_row _ _ _ _ _ _ h]; rfl, by rw [cell_of_row _ _ _ _ _ _ h]; rfl, by rw [cell_of_row _ _ _ _ _ _ h]; rfl, by rw [cell_of_row _ _ _ _ _ _ h]; rfl, by rw [cell_of_row _ _ _ _ _ _ h]; rfl⟩
theorem row8_thaw {w : World} {g : Nat} {a0 a1 a2 a3 a4 a5 a6 a7 : Value} {t : TypeId} (h : w.heap[g]? = some (.cells #[a0, a1, a2, a3, a4, a5, a6, a7] t)) : w.frozen? ⟨g, 0, none⟩ = false ∧ w.frozen? ⟨g, 1, none⟩ = false ∧ w.frozen? ⟨g, 2, none⟩ = false ∧ w.frozen? ⟨g, 3, none⟩ = false ∧ w.frozen? ⟨g, 4, none⟩ = false ∧ w.frozen? ⟨g, 5, none⟩ = false ∧ w.frozen? ⟨g, 6, none⟩ = false ∧ w.frozen? ⟨g, 7, none⟩ = false :=
  ⟨frozen_of_row w _ 0 _ _ h, frozen_of_row w _ 1 _ _ h, frozen_of_row w _ 2 _ _ h, frozen_of_row w _ 3 _ _ h, frozen_of_row w _ 4 _ _ h, frozen_of_row w _ 5 _ _ h, frozen_of_row w _ 6 _ _ h, frozen_of_row w _ 7 _ _ h⟩
def put8 (w : World) (g : Nat) (v0 v1 v2 v3 v4 v5 v6 v7 : Value) : World := ((((((((w.setCell ⟨g, 0, none⟩ v0).setCell ⟨g, 1, none⟩ v1).setCell ⟨g, 2, none⟩ v2).setCell ⟨g, 3, none⟩ v3).setCell ⟨g, 4, none⟩ v4).setCell ⟨g, 5, none⟩ v5).setCell ⟨g, 6, none⟩ v6).setCell ⟨g, 7, none⟩ v7)
theorem put8_row {w : World} {g : Nat} {a0 a1 a2 a3 a4 a5 a6 a7 : Value} {t : TypeId} (h : w.heap[g]? = some (.cells #[a0, a1, a2, a3, a4, a5, a6, a7] t)) (v0 v1 v2 v3 v4 v5 v6 v7 : Value) : (put8 w g v0 v1 v2 v3 v4 v5 v6 v7).heap[g]? = some (.cells #[v0, v1, v2, v3, v4, v5, v6, v7] t) := by
  have k0 : (w.setCell ⟨g, 0, none⟩ v0).heap[g]? = some (.cells #[v0, a1, a2, a3, a4, a5, a6, a7] t) := heap_setCell_same _ _ 0 _ _ v0 h
  have k1 : ((w.setCell ⟨g, 0, none⟩ v0).setCell ⟨g, 1, none⟩ v1).heap[g]? = some (.cells #[v0, v1, a2, a3, a4, a5, a6, a7] t) := heap_setCell_same _ _ 1 _ _ v1 k0
  have k2 : (((w.setCell ⟨g, 0, none⟩ v0).setCell ⟨g, 1, none⟩ v1).setCell ⟨g, 2, none⟩ v2).heap[g]? = some (.cells #[v0, v1, v2, a3, a4, a5, a6, a7] t) := heap_setCell_same _ _ 2 _ _ v2 k1
  have k3 : ((((w.setCell ⟨g, 0, none⟩ v0).setCell ⟨g, 1, none⟩ v1).setCell ⟨g, 2, none⟩ v2).setCell ⟨g, 3, none⟩ v3).heap[g]? = some (.cells #[v0, v1, v2, v3, a4, a5, a6, a7] t) := heap_setCell_same _ _ 3 _ _ v3 k2
  have k4 : (((((w.setCell ⟨g, 0, none⟩ v0).setCell ⟨g, 1, none⟩ v1).setCell ⟨g, 2, none⟩ v2).setCell ⟨g, 3, none⟩ v3).setCell ⟨g, 4, none⟩ v4).heap[g]? = some (.cells #[v0, v1, v2, v3, v4, a5, a6, a7] t) := heap_setCell_same _ _ 4 _ _ v4 k3
  have k5 : ((((((w.setCell ⟨g, 0, none⟩ v0).setCell ⟨g, 1, none⟩ v1).setCell ⟨g, 2, none⟩ v2).setCell ⟨g, 3, none⟩ v3).setCell ⟨g, 4, none⟩ v4).setCell ⟨g, 5, none⟩ v5).heap[g]? = some (.cells #[v0, v1, v2, v3, v4, v5, a6, a7] t) := heap_setCell_same _ _ 5 _ _ v5 k4
  have k6 : (((((((w.setCell ⟨g, 0, none⟩ v0).setCell ⟨g, 1, none⟩ v1).setCell ⟨g, 2, none⟩ v2).setCell ⟨g, 3, none⟩ v3).setCell ⟨g, 4, none⟩ v4).setCell ⟨g, 5, none⟩ v5).setCell ⟨g, 6, none⟩ v6).heap[g]? = some (.cells #[v0, v1, v2, v3, v4, v5, v6, a7] t) := heap_setCell_same _ _ 6 _ _ v6 k5
  have k7 : ((((((((w.setCell ⟨g, 0, none⟩ v0).setCell ⟨g, 1, none⟩ v1).setCell ⟨g, 2, none⟩ v2).setCell ⟨g, 3, none⟩ v3).setCell ⟨g, 4, none⟩ v4).setCell ⟨g, 5, none⟩ v5).setCell ⟨g, 6, none⟩ v6).setCell ⟨g, 7, none⟩ v7).heap[g]? = some (.cells #[v0, v1, v2, v3, v4, v5, v6, v7] t) := heap_setCell_same _ _ 7 _ _ v7 k6
  exact k7
theorem put8_below {B : Nat} {u w : World} {g : Nat} (h : Below B u w) (hg : B ≤ g) (v0 v1 v2 v3 v4 v5 v6 v7 : Value) : Below B u (put8 w g v0 v1 v2 v3 v4 v5 v6 v7) := ((((((((h.setCell hg _).setCell hg _).setCell hg _).setCell hg _).setCell hg _).setCell hg _).setCell hg _).setCell hg _)

theorem row10_cells {w : World} {g : Nat} {a0 a1 a2 a3 a4 a5 a6 a7 a8 a9 : Value} {t : TypeId} {fr : Nat × Nat} (h : w.heap[g]? = some (.cells #[a0, a1, a2, a3, a4, a5, a6, a7, a8, a9] t fr)) : w.cell? ⟨g, 0, none⟩ = some a0 ∧ w.cell? ⟨g, 1, none⟩ = some a1 ∧ w.cell? ⟨g, 2, none⟩ = some a2 ∧ w.cell? ⟨g, 3, none⟩ = some a3 ∧ w.cell? ⟨g, 4, none⟩ = some a4 ∧ w.cell? ⟨g, 5, none⟩ = some a5 ∧ w.cell? ⟨g, 6, none⟩ = some a6 ∧ w.cell? ⟨g, 7, none⟩ = some a7 ∧ w.cell? ⟨g, 8, none⟩ = some a8 ∧ w.cell? ⟨g, 9, none⟩ = some a9 :=
  ⟨by rw [cell_of_row _ _ _ _ _ _ h]; rfl, by rw [cell_of_row _ _ _ _ _ _ h]; rfl, by rw [cell_of_row _ _ _ _ _ _ h]; rfl, by rw [cell_of_row _ _ _ _ _ _ h]; rfl, by rw [cell_of_row _ _ _ _ _ _ h]; rfl, by rw [cell_of_row _ _ _ _ _ _ h]; rfl, by rw [cell_of_row _ _ _ _ _ _ h]; rfl, by rw [cell_of_row _ _ _ _ _ _ h]; rfl, by rw [cell_of_row _ _ _ _ _ _ h]; rfl, by rw [cell_of_row _ _ _ _ _ _ h]; rfl⟩
theorem row10_thaw {w : World} {g : Nat} {a0 a1 a2 a3 a4 a5 a6 a7 a8 a9 : Value} {t : TypeId} (h : w.heap[g]? = some (.cells #[a0, a1, a2, a3, a4, a5, a6, a7, a8, a9] t)) : w.frozen? ⟨g, 0, none⟩ = false ∧ w.frozen? ⟨g, 1, none⟩ = false ∧ w.frozen? ⟨g, 2, none⟩ = false ∧ w.frozen? ⟨g, 3, none⟩ = false ∧ w.frozen? ⟨g, 4, none⟩ = false ∧ w.frozen? ⟨g, 5, none⟩ = false ∧ w.frozen? ⟨g, 6, none⟩ = false ∧ w.frozen? ⟨g, 7, none⟩ = false ∧ w.frozen? ⟨g, 8, none⟩ = false ∧ w.frozen? ⟨g, 9, none⟩ = false :=
  ⟨frozen_of_row w _ 0 _ _ h, frozen_of_row w _ 1 _ _ h, frozen_of_row w _ 2 _ _ h, frozen_of_row w _ 3 _ _ h, frozen_of_row w _ 4 _ _ h, frozen_of_row w _ 5 _ _ h, frozen_of_row w _ 6 _ _ h, frozen_of_row w _ 7 _ _ h, frozen_of_row w _ 8 _ _ h, frozen_of_row w _ 9 _ _ h⟩
def put10 (w : World) (g : Nat) (v0 v1 v2 v3 v4 v5 v6 v7 v8 v9 : Value) : World := ((((((((((w.setCell ⟨g, 0, none⟩ v0).setCell ⟨g, 1, none⟩ v1).setCell ⟨g, 2, none⟩ v2).setCell ⟨g, 3, none⟩ v3).setCell ⟨g, 4, none⟩ v4).setCell ⟨g, 5, none⟩ v5).setCell ⟨g, 6, none⟩ v6).setCell ⟨g, 7, none⟩ v7).setCell ⟨g, 8, none⟩ v8).setCell ⟨g, 9, none⟩ v9)
theorem put10_row {w : World} {g : Nat} {a0 a1 a2 a3 a4 a5 a6 a7 a8 a9 : Value} {t : TypeId} (h : w.heap[g]? = some (.cells #[a0, a1, a2, a3, a4, a5, a6, a7, a8, a9] t)) (v0 v1 v2 v3 v4 v5 v6 v7 v8 v9 : Value) : (put10 w g v0 v1 v2 v3 v4 v5 v6 v7 v8 v9).heap[g]? = some (.cells #[v0, v1, v2, v3, v4, v5, v6, v7, v8, v9] t) := by
  have k0 : (w.setCell ⟨g, 0, none⟩ v0).heap[g]? = some (.cells #[v0, a1, a2, a3, a4, a5, a6, a7, a8, a9] t) := heap_setCell_same _ _ 0 _ _ v0 h
  have k1 : ((w.setCell ⟨g, 0, none⟩ v0).setCell ⟨g, 1, none⟩ v1).heap[g]? = some (.cells #[v0, v1, a2, a3, a4, a5, a6, a7, a8, a9] t) := heap_setCell_same _ _ 1 _ _ v1 k0
  have k2 : (((w.setCell ⟨g, 0, none⟩ v0).setCell ⟨g, 1, none⟩ v1).setCell ⟨g, 2, none⟩ v2).heap[g]? = some (.cells #[v0, v1, v2, a3, a4, a5, a6, a7, a8, a9] t) := heap_setCell_same _ _ 2 _ _ v2 k1
  have k3 : ((((w.setCell ⟨g, 0, none⟩ v0).setCell ⟨g, 1, none⟩ v1).setCell ⟨g, 2, none⟩ v2).setCell ⟨g, 3, none⟩ v3).heap[g]? = some (.cells #[v0, v1, v2, v3, a4, a5, a6, a7, a8, a9] t) := heap_setCell_same _ _ 3 _ _ v3 k2
  have k4 : (((((w.setCell ⟨g, 0, none⟩ v0).setCell ⟨g, 1, none⟩ v1).setCell ⟨g, 2, none⟩ v2).setCell ⟨g, 3, none⟩ v3).setCell ⟨g, 4, none⟩ v4).heap[g]? = some (.cells #[v0, v1, v2, v3, v4, a5, a6, a7, a8, a9] t) := heap_setCell_same _ _ 4 _ _ v4 k3
  have k5 : ((((((w.setCell ⟨g, 0, none⟩ v0).setCell ⟨g, 1, none⟩ v1).setCell ⟨g, 2, none⟩ v2).setCell ⟨g, 3, none⟩ v3).setCell ⟨g, 4, none⟩ v4).setCell ⟨g, 5, none⟩ v5).heap[g]? = some (.cells #[v0, v1, v2, v3, v4, v5, a6, a7, a8, a9] t) := heap_setCell_same _ _ 5 _ _ v5 k4
  have k6 : (((((((w.setCell ⟨g, 0, none⟩ v0).setCell ⟨g, 1, none⟩ v1).setCell ⟨g, 2, none⟩ v2).setCell ⟨g, 3, none⟩ v3).setCell ⟨g, 4, none⟩ v4).setCell ⟨g, 5, none⟩ v5).setCell ⟨g, 6, none⟩ v6).heap[g]? = some (.cells #[v0, v1, v2, v3, v4, v5, v6, a7, a8, a9] t) := heap_setCell_same _ _ 6 _ _ v6 k5
  have k7 : ((((((((w.setCell ⟨g, 0, none⟩ v0).setCell ⟨g, 1, none⟩ v1).setCell ⟨g, 2, none⟩ v2).setCell ⟨g, 3, none⟩ v3).setCell ⟨g, 4, none⟩ v4).setCell ⟨g, 5, none⟩ v5).setCell ⟨g, 6, none⟩ v6).setCell ⟨g, 7, none⟩ v7).heap[g]? = some (.cells #[v0, v1, v2, v3, v4, v5, v6, v7, a8, a9] t) := heap_setCell_same _ _ 7 _ _ v7 k6
  have k8 : (((((((((w.setCell ⟨g, 0, none⟩ v0).setCell ⟨g, 1, none⟩ v1).setCell ⟨g, 2, none⟩ v2).setCell ⟨g, 3, none⟩ v3).setCell ⟨g, 4, none⟩ v4).setCell ⟨g, 5, none⟩ v5).setCell ⟨g, 6, none⟩ v6).setCell ⟨g, 7, none⟩ v7).setCell ⟨g, 8, none⟩ v8).heap[g]? = some (.cells #[v0, v1, v2, v3, v4, v5, v6, v7, v8, a9] t) := heap_setCell_same _ _ 8 _ _ v8 k7
  have k9 : ((((((((((w.setCell ⟨g, 0, none⟩ v0).setCell ⟨g, 1, none⟩ v1).setCell ⟨g, 2, none⟩ v2).setCell ⟨g, 3, none⟩ v3).setCell ⟨g, 4, none⟩ v4).setCell ⟨g, 5, none⟩ v5).setCell ⟨g, 6, none⟩ v6).setCell ⟨g, 7, none⟩ v7).setCell ⟨g, 8, none⟩ v8).setCell ⟨g, 9, none⟩ v9).heap[g]? = some (.cells #[v0, v1, v2, v3, v4, v5, v6, v7, v8, v9] t) := heap_setCell_same _ _ 9 _ _ v9 k8
  exact k9
theorem put10_below {B : Nat} {u w : World} {g : Nat} (h : Below B u w) (hg : B ≤ g) (v0 v1 v2 v3 v4 v5 v6 v7 v8 v9 : Value) : Below B u (put10 w g v0 v1 v2 v3 v4 v5 v6 v7 v8 v9) := ((((((((((h.setCell hg _).setCell hg _).setCell hg _).setCell hg _).setCell hg _).setCell hg _).setCell hg _).setCell hg _).setCell hg _).setCell hg _)

theorem prof_ret' {fn : Func} {p : Tmp} {a : Act} {w w1 : World} {g : Nat} {n : Int} {v : Value} {nm hd : ByteArray} {b3 b4 b5 b6 b7 : Bool} (h : fn.results = #[.cell p 109])
    (hp : a.tmps.getD p undef = .pointer (some ⟨g, 0, none⟩)) (hg : w1.heap[g]? = some (.cells #[.string nm, .string hd, v, .bool b3, .bool b4, .bool b5, .bool b6, .bool b7] 109))
    (hv : prV n v = .agg #[.string nm, .string hd, v, .bool b3, .bool b4, .bool b5, .bool b6, .bool b7]) (hdef : a.defers = []) (hb : Below w.heap.size w w1) :
    bodyPost Tryd.prog fn (fun e w' => e = .returned (prV n v) ∧ Below w.heap.size w w') .ret a w1 :=
  bodyPost_ret (results_cell_row h _ _ g _ _ _ _ hp hg Tryd.underlying109 rfl (by kernel_rfl)) hdef ⟨by rw [hv], hb⟩

set_option maxHeartbeats 1000000 in
theorem impl_profileWithoutSets (n : Int) (w : World) (ht : TabSets w) (hn : proB n = true) : Calls Tryd.prog 118 #[.int .i64 n] w fun e w' => e = .returned (prV n (.slice none 0 0)) ∧ Below w.heap.size w w' := by
  have HT := Lib.hid ht
  have HE := Lib.hid (fun w ht => impl_EscapeOf 1 7 w ht)
  rw [head_kr] at HE
  clear ht
  rcases pro_cases hn with rfl | rfl | rfl | rfl | rfl
  · clear hn
    go_enter Tryd.func118, Tryd.ntmps118
    go_wp2
    exact prof_ret' (g := w.heap.size) rfl rfl (heap_alloc_new _ _) rfl rfl (below_one _ _)
  · clear hn
    go_enter Tryd.func118, Tryd.ntmps118
    go_wp2
    exact prof_ret' (g := w.heap.size) rfl rfl (heap_alloc_new _ _) rfl rfl (below_one _ _)
  · clear hn
    have B0 := Lib.hid (below_one w (.cells #[.string ⟨#[]⟩, .string ⟨#[]⟩, .slice none 0 0, .bool false, .bool false, .bool false, .bool false, .bool false] 109))
    have HT0 := Lib.hid (HT.out.keep B0.out)
    have S0 : Hid ((w.alloc (.cells #[.string ⟨#[]⟩, .string ⟨#[]⟩, .slice none 0 0, .bool false, .bool false, .bool false, .bool false, .bool false] 109)).heap[w.heap.size]? = some (.cells #[.string ⟨#[]⟩, .string ⟨#[]⟩, .slice none 0 0, .bool false, .bool false, .bool false, .bool false, .bool false] 109)) := Lib.hid (heap_alloc_new _ _)
    go_enter Tryd.func118, Tryd.ntmps118
    go_wp2_with fail
    refine (HE.out _ HT0.out).mono ?_
    generalize w.alloc (.cells #[.string ⟨#[]⟩, .string ⟨#[]⟩, .slice none 0 0, .bool false, .bool false, .bool false, .bool false, .bool false] 109) = W0 at *
    rintro e w1 ⟨rfl, b1⟩
    have hl := (Array.getElem?_eq_some_iff.1 S0.out).1
    have S1 := (b1.block _ hl).trans S0.out
    have ⟨c0, c1, c2, c3, c4, c5, c6, c7⟩ := row8_cells S1
    have ⟨f0, f1, f2, f3, f4, f5, f6, f7⟩ := row8_thaw S1
    have B1 : Hid (Below w.heap.size w w1) := Lib.hid (B0.out.trans (b1.mono B0.out.size))
    have HS1 := Lib.hid S1
    have hl1 : w.heap.size < w1.heap.size := (Array.getElem?_eq_some_iff.1 S1).1
    clear S1 S0 b1 hl
    go_wp2
    exact prof_ret' (g := w.heap.size) rfl rfl (put8_row HS1.out (.string ⟨#[107, 114]⟩) (.string ⟨#[27, 36, 41, 67]⟩) (.slice none 0 0) (.bool false) (.bool true) (.bool false) (.bool true) (.bool false)) rfl rfl (put8_below B1.out (Nat.le_refl _) _ _ _ _ _ _ _ _)
  · clear hn
    go_enter Tryd.func118, Tryd.ntmps118
    go_wp2
    exact prof_ret' (g := w.heap.size) rfl rfl (heap_alloc_new _ _) rfl rfl (below_one _ _)
  · clear hn
    go_enter Tryd.func118, Tryd.ntmps118
    go_wp2
    exact prof_ret' (g := w.heap.size) rfl rfl (heap_alloc_new _ _) rfl rfl (below_one _ _)

/-- A guide's cells. -/
def guV (n : Int) (m : Value) : Value := .agg #[.int .i64 n, .string (prName n), .string (prHead n), .slice none 0 0, .bool (prRight n), .bool (prShifts n), .bool (prSingle n), .bool (prReset n), .bool (prClear n), m]
set_option maxHeartbeats 1000000 in
theorem impl_guideOf (n : Int) (w : World) (ht : TabSets w) (hn : proB n = true) : Calls Tryd.prog 93 #[.int .i64 n] w fun e w' => e = .returned (guV n (.map none)) ∧ Below w.heap.size w w' := by
  have HP := Lib.hid (fun w ht => impl_profileWithoutSets n w ht hn)
  have HT := Lib.hid ht
  clear ht
  unfold prV at HP
  have B0 := Lib.hid (below_one w (.cells #[.int .i64 0, .string ⟨#[]⟩, .string ⟨#[]⟩, .slice none 0 0, .bool false, .bool false, .bool false, .bool false, .bool false, .map none] 116))
  have HT0 := Lib.hid (HT.out.keep B0.out)
  have S0 : Hid ((w.alloc (.cells #[.int .i64 0, .string ⟨#[]⟩, .string ⟨#[]⟩, .slice none 0 0, .bool false, .bool false, .bool false, .bool false, .bool false, .map none] 116)).heap[w.heap.size]? = some (.cells #[.int .i64 0, .string ⟨#[]⟩, .string ⟨#[]⟩, .slice none 0 0, .bool false, .bool false, .bool false, .bool false, .bool false, .map none] 116)) := Lib.hid (heap_alloc_new _ _)
  go_enter Tryd.func93, Tryd.ntmps93
  go_wp2_with fail
  refine (HP.out _ HT0.out).mono ?_
  generalize w.alloc (.cells #[.int .i64 0, .string ⟨#[]⟩, .string ⟨#[]⟩, .slice none 0 0, .bool false, .bool false, .bool false, .bool false, .bool false, .map none] 116) = W0 at *
  rintro e w1 ⟨rfl, b1⟩
  have hl := (Array.getElem?_eq_some_iff.1 S0.out).1
  have S1 := (b1.block _ hl).trans S0.out
  have ⟨c0, c1, c2, c3, c4, c5, c6, c7, c8, c9⟩ := row10_cells S1
  have ⟨f0, f1, f2, f3, f4, f5, f6, f7, f8, f9⟩ := row10_thaw S1
  have B1 : Hid (Below w.heap.size w w1) := Lib.hid (B0.out.trans (b1.mono B0.out.size))
  have HS1 := Lib.hid S1
  have hl1 : w.heap.size < w1.heap.size := (Array.getElem?_eq_some_iff.1 S1).1
  clear S1 S0 b1 hl
  go_wp2
  exact bodyPost_ret (results_cell_row rfl _ _ w.heap.size _ _ _ _ rfl (put10_row HS1.out (.int .i64 n) (.string (prName n)) (.string (prHead n)) (.slice none 0 0) (.bool (prRight n)) (.bool (prShifts n)) (.bool (prSingle n)) (.bool (prReset n)) (.bool (prClear n)) (.map none)) Tryd.underlying116 rfl (by kernel_rfl)) rfl ⟨rfl, put10_below B1.out (Nat.le_refl _) _ _ _ _ _ _ _ _ _ _⟩

/-- A guide in a block, with what stands in its last cell. -/
def GuAt (w : World) (g : Nat) (n : Int) (m : Value) : Prop := w.heap[g]? = some (.cells #[.int .i64 n, .string (prName n), .string (prHead n), .slice none 0 0, .bool (prRight n), .bool (prShifts n), .bool (prSingle n), .bool (prReset n), .bool (prClear n), m] 116)
theorem GuAt.lt {w : World} {g : Nat} {n : Int} {m : Value} (h : GuAt w g n m) : g < w.heap.size := (Array.getElem?_eq_some_iff.1 h).1
theorem GuAt.keep {w w' : World} {g : Nat} {n : Int} {m : Value} (h : GuAt w g n m) (b : Below w.heap.size w w') : GuAt w' g n m := (b.block g h.lt).trans h

set_option maxHeartbeats 1000000 in
theorem impl_atRest (n : Int) (x : St) (m : Value) (g b : Nat) (w : World) (hg : GuAt w g n m) (hm : MAt w b x) (hx : stOKB x = true) : Calls Tryd.prog 121 #[.pointer (some ⟨g, 0, none⟩), .pointer (some ⟨b, 0, none⟩)] w fun e w' => e = .returned (.bool (restB n x)) ∧ w = w' := by
  have HP := Lib.hid (fun w h => impl_pending x b w h)
  rw [pend_eq hx] at HP
  have HR : Hid (restB n x = (!pendB x && (!prReset n || (decide (x.l = 0) && decide (x.g0 = 1))))) := Lib.hid rfl
  have HM := Lib.hid hm
  have ⟨c0, c1, c2, c3, c4, c5, c6, c7, c8, c9⟩ := row10_cells hg
  have ⟨y0, y1, y2, y3, y4, y5, y6⟩ := hm.cells
  clear c0 c1 c2 c3 c4 c5 c6 c8 c9 hg hm hx y1 y2 y3 y5 y6
  generalize restB n x = q at *
  cases hp : pendB x
  · rw [hp] at HP HR
    cases hr : prReset n
    · have HE : Hid (q = true) := Lib.hid (by rw [HR.out, hr]; rfl)
      rw [hr] at c7
      clear hr hp
      go_enter Tryd.func121, Tryd.ntmps121
      go_wp2_with fail
      refine (HP.out _ HM.out).mono ?_
      rintro e w1 ⟨rfl, rfl⟩
      go_wp2
      go_ret
      exact ⟨ret_bool HE.out.symm, rfl⟩
    · rw [hr] at c7
      by_cases hl : x.l = 0
      · have HE : Hid (q = (x.g0 == 1)) := Lib.hid (by rw [HR.out, hr, show decide (x.l = 0) = true by simpa using hl]; rfl)
        have el : (x.l == 0) = true := by simp [hl]
        clear hl hr hp
        go_enter Tryd.func121, Tryd.ntmps121
        go_wp2_with fail
        refine (HP.out _ HM.out).mono ?_
        rintro e w1 ⟨rfl, rfl⟩
        go_wp2
        go_ret
        exact ⟨ret_bool HE.out.symm, rfl⟩
      · have HE : Hid (q = false) := Lib.hid (by rw [HR.out, hr, show decide (x.l = 0) = false by simpa using hl]; rfl)
        have el : (x.l == 0) = false := by simp [hl]
        clear hr hp
        go_enter Tryd.func121, Tryd.ntmps121
        go_wp2_with fail
        refine (HP.out _ HM.out).mono ?_
        rintro e w1 ⟨rfl, rfl⟩
        go_wp2
        go_ret
        exact ⟨ret_bool HE.out.symm, rfl⟩
  · have HE : Hid (q = false) := Lib.hid (by rw [HR.out, hp]; rfl)
    rw [hp] at HP
    clear hp
    go_enter Tryd.func121, Tryd.ntmps121
    go_wp2_with fail
    refine (HP.out _ HM.out).mono ?_
    rintro e w1 ⟨rfl, rfl⟩
    go_wp2
    go_ret
    exact ⟨ret_bool HE.out.symm, rfl⟩

end Go.Proofs.YtdckjhobikfggaaDoor

namespace Go.Proofs.YtdckjhobikfggaaDoor
open Go.RowKit

/-- The place of n among count numbers from first on. -/
def placeV (first count n : Int) : Value := if inB n first (first + count - 1) = true then .tuple #[.int .i64 (n - first), .bool true] else .tuple #[.int .i64 0, .bool false]
theorem impl_placeIn (first count n : Int) (w : World) (h1 : 0 ≤ first) (h2 : first ≤ 2000000) (_h3 : 0 ≤ count) (_h4 : count ≤ 2000000) (hu : n ≤ 9223372036854775807) :
    Calls Tryd.prog 143 #[.int .i64 first, .int .i64 count, .int .i64 n] w fun e w' => e = .returned (placeV first count n) ∧ w = w' := by
  by_cases a1 : n < first
  · have HE : Hid (placeV first count n = .tuple #[.int .i64 0, .bool false]) := Lib.hid (by rw [placeV, inB_false_of (by omega)]; simp)
    go_enter Tryd.func143, Tryd.ntmps143
    go_wp2
    go_ret2
    exact ⟨ret_val HE.out.symm, rfl⟩
  · have u1 : IntKind.i64.wrap (n - first) = n - first := IntWalk.i64_in _ (by omega)
    by_cases a2 : count ≤ n - first
    · have HE : Hid (placeV first count n = .tuple #[.int .i64 0, .bool false]) := Lib.hid (by rw [placeV, inB_false_of (by omega)]; simp)
      go_enter Tryd.func143, Tryd.ntmps143
      go_wp2
      go_ret2
      exact ⟨ret_val HE.out.symm, rfl⟩
    · have HE : Hid (placeV first count n = .tuple #[.int .i64 (n - first), .bool true]) := Lib.hid (by
        have : inB n first (first + count - 1) = true := by simp [inB]; omega
        rw [placeV, this]; simp)
      go_enter Tryd.func143, Tryd.ntmps143
      go_wp2
      go_ret2
      exact ⟨ret_val HE.out.symm, rfl⟩

theorem SpAt.open {w : World} {v : Value} {n : Int} (h : SpAt w v (setSpans n)) : ∃ g off c, v = .slice (some ⟨g, off, none⟩) (setSpans n).length c ∧ ∀ i (h : i < (setSpans n).length),
    w.cell? ⟨g, off + i * 3, none⟩ = some (.int .i64 ((setSpans n)[i]).1) ∧ w.cell? ⟨g, off + i * 3 + 1, none⟩ = some (.int .i64 ((setSpans n)[i]).2.1) ∧ w.cell? ⟨g, off + i * 3 + 2, none⟩ = some (.int .i64 ((setSpans n)[i]).2.2) := by
  rcases h with ⟨h0, _⟩ | h
  · have := (set_few n).1
    rw [h0] at this
    simp at this
  · exact h

/-- Each span begins above nought. -/
theorem set_pos (n : Int) : ∀ s ∈ setSpans n, 0 < s.1 := by
  unfold setSpans
  repeat' split
  all_goals (intro s hs; simp only [List.mem_cons, List.not_mem_nil, or_false] at hs; rcases hs with rfl | rfl | rfl | rfl <;> simp)

set_option maxHeartbeats 1000000 in
set_option maxRecDepth 100000 in
theorem impl_CodeFor (n r : Int) (w : World) (ht : TabSets w) (hu : r ≤ 9223372036854775807) : Calls Tryd.prog 125 #[.int .i64 n, .int .i64 r] w fun e w' => e = .returned (cfV n r) ∧ Below w.heap.size w w' := by
  cases hn : setB n
  · have HE := Lib.hid (cfV_bad n r 5 (by simp [cfC, hn]) (by decide))
    clear ht
    go_enter Tryd.func125, Tryd.ntmps125
    go_wp2_with fail
    refine (impl_isSet n w).mono ?_
    rintro e w1 ⟨rfl, rfl⟩
    rw [hn]
    go_wp2
    go_ret2
    exact ⟨ret_val HE.out.symm, Below.refl _ _⟩
  · obtain ⟨k, rfl, k1, k8⟩ := setB_nat hn
    obtain ⟨_, _, _, v, c3, hs⟩ := ht k k1 k8
    clear ht
    have u1 : (0 : Int) ≤ (k : Int) := by omega
    have u2 : (k : Int) < 9 := by omega
    have HB : Hid (codeS (setSpans (k : Int)) r = 0 → cfV (k : Int) r = .tuple #[.int .i64 0, .int .i64 12]) := Lib.hid (fun h => cfV_bad (k : Int) r 12 (by simp [cfC, hn, h]) (by decide))
    have HG : Hid (codeS (setSpans (k : Int)) r ≠ 0 → cfV (k : Int) r = .tuple #[.int .i64 (codeS (setSpans (k : Int)) r), .int .i64 0]) := Lib.hid (fun h => cfV_ok (k : Int) r (by simp [cfC, hn, h]))
    obtain ⟨g, off, c, rfl, hcs⟩ := hs.open
    have HC := Lib.hid hcs
    have HS := Lib.hid (set_small (k : Int))
    have HP := Lib.hid (set_pos (k : Int))
    have f2 := (set_few (k : Int)).2
    clear hs hcs
    generalize setSpans (k : Int) = sp at *
    go_enter Tryd.func125, Tryd.ntmps125
    go_wp2_with fail
    refine (impl_isSet (k : Int) w).mono ?_
    rintro e w1 ⟨rfl, rfl⟩
    rw [hn]
    go_wp2
    go_loopw [18] (fun i wr => ∃ j : Nat, j ≤ sp.length ∧ i = .int .i64 j ∧ Hid (codeS sp r = codeS (sp.drop j) r) ∧ Below w.heap.size w wr) (fun i _ => sp.length - (intOf i).toNat)
    case atStart => exact ⟨0, Nat.zero_le _, rfl, Lib.hid rfl, Below.refl _ _⟩
    case round =>
      obtain ⟨j, hj, rfl, HR, b⟩ := hrel
      by_cases hlt : j < sp.length
      · have ⟨x0, x1, x2⟩ := HC.out j hlt
        have hsm := HS.out _ (List.getElem_mem hlt)
        have hps := HP.out _ (List.getElem_mem hlt)
        have HD := Lib.hid (codeS_drop sp r j hlt)
        have y0 := (b.cell (World.block_lt_of_cell? w _ x0)).trans x0
        have y1 := (b.cell (World.block_lt_of_cell? w _ x1)).trans x1
        have y2 := (b.cell (World.block_lt_of_cell? w _ x2)).trans x2
        generalize sp[j] = s at *
        obtain ⟨sc, sr, sn⟩ := s
        obtain ⟨⟨a1, a2⟩, ⟨a3, a4⟩, a5, a6⟩ := hsm
        simp only at a1 a2 a3 a4 a5 a6 y0 y1 y2 hps
        clear x0 x1 x2
        have v1 : (0 : Int) ≤ (j : Int) := by omega
        have v2 : (j : Int) < (sp.length : Int) := by omega
        go_wp2_with fail
        refine (impl_placeIn sr sn r _ a3 a4 a5 a6 hu).mono ?_
        rintro e w2 ⟨rfl, rfl⟩
        unfold placeV
        have B := b.alloc b.size (.cells #[.int .i64 sc, .int .i64 sr, .int .i64 sn] 184)
        cases hin : inB r sr (sr + sn - 1)
        · have HX : Hid (codeS sp r = codeS (sp.drop (j + 1)) r) := Lib.hid (by rw [HR.out, HD.out, hin]; simp)
          go_wp2
          go_roundw
          case rel => exact ⟨j + 1, by omega, by go_num, HX, B⟩
          case measure => simp [intOf]; omega
        · have ⟨i1, i2⟩ := inB_true hin
          have v5 : IntKind.i64.wrap (sc + (r - sr)) = sc + (r - sr) := IntWalk.i64_in _ (by omega)
          have HX : Hid (codeS sp r = sc + (r - sr)) := Lib.hid (by rw [HR.out, HD.out, hin]; simp; omega)
          go_wp2
          go_ret2
          refine ⟨ret_val ?_, B⟩
          rw [HG.out (by rw [HX.out]; omega), HX.out]
          rfl
      · go_wp2
        go_ret2
        refine ⟨ret_val ?_, b⟩
        have hjn : sp.length ≤ j := by omega
        rw [HB.out (by rw [HR.out, List.drop_eq_nil_of_le hjn]; rfl)]
        rfl

end Go.Proofs.YtdckjhobikfggaaDoor

namespace Go.Proofs.YtdckjhobikfggaaDoor
open Go.RowKit Go.Sort

/-- What the machine's methods tell of a step. -/
def toldR (p : Stp) : Int := if 0 ≤ p.r then p.r else 0
def toldB (p : Stp) : Bool := decide (0 ≤ p.r)
def mvV (p : Stp) : Value := .tuple #[.int .i64 (toldR p), .bool (toldB p), .int .i64 p.c]
def MvDone (p : Stp) (b : Nat) (w : World) (e : Ending) (w' : World) : Prop := e = .returned (mvV p) ∧ MAt w' b p.y ∧ Only b w w'
theorem mv_none {p : Stp} {y : St} {c : Int} (h : p = ⟨y, -1, c⟩) : mvV p = .tuple #[.int .i64 0, .bool false, .int .i64 c] := by rw [h]; rfl
theorem mv_some {p : Stp} {y : St} {r c : Int} (h : p = ⟨y, r, c⟩) (hr : 0 ≤ r) : mvV p = .tuple #[.int .i64 r, .bool true, .int .i64 c] := by
  rw [h]; unfold mvV toldR toldB; dsimp only; rw [if_pos hr, decide_eq_true hr]
theorem only_below {b : Nat} {w w' : World} (hb : b < w.heap.size) (h : Below w.heap.size w w') : Only b w w' := ⟨h.mono (by omega), fun g _ hg => h.block g hg⟩
theorem mvDone_none {x : St} {p : Stp} {b : Nat} {w w' : World} {c : Int} (h : p = ⟨x, -1, c⟩) (hm : MAt w b x) (hb : Below w.heap.size w w') : MvDone p b w (.returned (.tuple #[.int .i64 0, .bool false, .int .i64 c])) w' :=
  ⟨by rw [mv_none h], by rw [h]; exact hm.keep hb, only_below hm.lt hb⟩

theorem mvDone_gone {x : St} {p : Stp} {b : Nat} {w w' : World} {rr : Int} (h : p = ⟨⟨x.g0, x.g1, x.g2, x.g3, x.l, 0, 0⟩, rr, 0⟩) (hr : 0 ≤ rr) (hm : MAt w b x) (hb : Below w.heap.size w w') : MvDone p b w (.returned (.tuple #[.int .i64 rr, .bool true, .int .i64 0])) ((w'.setCell ⟨b, 5, none⟩ (.int .i64 0)).setCell ⟨b, 6, none⟩ (.int .i64 0)) :=
  ⟨by rw [mv_some h hr], by rw [h]; exact heap_setCell_same _ _ 6 _ _ (.int .i64 0) (heap_setCell_same _ _ 5 _ _ (.int .i64 0) (hm.keep hb)), ((only_below hm.lt hb).trans (Only.set b 5 _ _)).trans (Only.set b 6 _ _)⟩
theorem mvDone_lead {x : St} {p : Stp} {b : Nat} {w w' : World} {v : Int} (h : p = ⟨⟨x.g0, x.g1, x.g2, x.g3, x.l, x.s, v⟩, -1, 0⟩) (hm : MAt w b x) (hb : Below w.heap.size w w') : MvDone p b w (.returned (.tuple #[.int .i64 0, .bool false, .int .i64 0])) (w'.setCell ⟨b, 6, none⟩ (.int .i64 v)) :=
  ⟨by rw [mv_none h], by rw [h]; exact heap_setCell_same _ _ 6 _ _ (.int .i64 v) (hm.keep hb), (only_below hm.lt hb).trans (Only.set b 6 _ _)⟩

/-- The lead's half. -/
theorem half_lead {x : St} (h : leadOK x = true) (h0 : x.d ≠ 0) : halfN x.d = sideNo (decide (128 < x.d)) := by
  unfold leadOK at h
  rw [Bool.or_eq_true, decide_eq_true_eq, Bool.and_eq_true, Bool.and_eq_true] at h
  rcases h with h | ⟨h1, h2, _⟩
  · exact absurd h h0
  have ⟨a, b⟩ := inB_true h1
  have ⟨c, d⟩ := inB_true h2
  rw [Int.tmod_eq_emod_of_nonneg (by omega)] at a b
  unfold halfN sideNo
  by_cases h3 : 128 < x.d
  · rw [if_pos (by omega), if_pos (by simpa using h3)]
  · rw [if_neg (by omega), if_neg (by simpa using h3)]

/-- RuneFor's code, where the set is one and the code no negative number. -/
theorem rf_told {q A : Int} (hq : setB q = true) (hA : 0 ≤ A) (x : St) : (rfC q A = 0 → gLast x q A = ⟨⟨x.g0, x.g1, x.g2, x.g3, x.l, 0, 0⟩, rfR q A, 0⟩ ∧ 0 ≤ rfR q A) ∧ (rfC q A ≠ 0 → gLast x q A = ⟨x, -1, 12⟩) := by
  have hk : codeOKB q A = kindB (setKind q) A := by unfold codeOKB; rw [hq, decide_eq_true hA]; rfl
  constructor
  · intro h
    have hr : rfR q A = runeS (setSpans q) A := by rw [rfR, if_pos h]
    unfold rfC at h
    rw [if_pos hq, hk] at h
    split at h
    · split at h
      · cases h
      · next h1 h2 =>
        rw [hr]
        exact ⟨by rw [gLast, if_pos ⟨h1, by omega⟩], by omega⟩
    · cases h
  · intro h
    unfold rfC at h
    rw [if_pos hq, hk] at h
    unfold gLast
    split
    · next h1 => rw [if_pos h1.1, if_neg (by omega)] at h; exact absurd rfl h
    · rfl

end Go.Proofs.YtdckjhobikfggaaDoor

namespace Go.Proofs.YtdckjhobikfggaaDoor
open Go.RowKit

theorem GuAt.new (w : World) (n : Int) (m : Value) : GuAt (w.alloc (.cells #[.int .i64 n, .string (prName n), .string (prHead n), .slice none 0 0, .bool (prRight n), .bool (prShifts n), .bool (prSingle n), .bool (prReset n), .bool (prClear n), m] 116)) w.heap.size n m := heap_alloc_new _ _

/-- What endLine leaves: the code, the machine. -/
def elC (n : Int) (x : St) : Int := if restB n x = true then 0 else 14
def elX (n : Int) (x : St) : St := if restB n x = true then lineX n x else x
def ElDone (n : Int) (x : St) (b : Nat) (w : World) (e : Ending) (w' : World) : Prop := e = .returned (.int .i64 (elC n x)) ∧ MAt w' b (elX n x) ∧ Only b w w'
theorem elDone {n : Int} {x y : St} {b : Nat} {w w' : World} {c : Int} (hc : elC n x = c) (hy : elX n x = y) (hm : MAt w' b y) (ho : Only b w w') : ElDone n x b w (.returned (.int .i64 c)) w' := ⟨by rw [hc], by rw [hy]; exact hm, ho⟩
theorem putM_row {w : World} {g : Nat} {x : St} (h : MAt w g x) (y : St) : MAt (putSt w g y) g y := by
  have k0 : (w.setCell ⟨g, 0, none⟩ (.int .i64 y.g0)).heap[g]? = some (.cells #[.int .i64 y.g0, .int .i64 x.g1, .int .i64 x.g2, .int .i64 x.g3, .int .i64 x.l, .int .i64 x.s, .int .i64 x.d] 120) := heap_setCell_same _ g 0 _ _ (.int .i64 y.g0) h
  have k1 : ((w.setCell ⟨g, 0, none⟩ (.int .i64 y.g0)).setCell ⟨g, 1, none⟩ (.int .i64 y.g1)).heap[g]? = some (.cells #[.int .i64 y.g0, .int .i64 y.g1, .int .i64 x.g2, .int .i64 x.g3, .int .i64 x.l, .int .i64 x.s, .int .i64 x.d] 120) := heap_setCell_same _ g 1 _ _ (.int .i64 y.g1) k0
  have k2 : (((w.setCell ⟨g, 0, none⟩ (.int .i64 y.g0)).setCell ⟨g, 1, none⟩ (.int .i64 y.g1)).setCell ⟨g, 2, none⟩ (.int .i64 y.g2)).heap[g]? = some (.cells #[.int .i64 y.g0, .int .i64 y.g1, .int .i64 y.g2, .int .i64 x.g3, .int .i64 x.l, .int .i64 x.s, .int .i64 x.d] 120) := heap_setCell_same _ g 2 _ _ (.int .i64 y.g2) k1
  have k3 : ((((w.setCell ⟨g, 0, none⟩ (.int .i64 y.g0)).setCell ⟨g, 1, none⟩ (.int .i64 y.g1)).setCell ⟨g, 2, none⟩ (.int .i64 y.g2)).setCell ⟨g, 3, none⟩ (.int .i64 y.g3)).heap[g]? = some (.cells #[.int .i64 y.g0, .int .i64 y.g1, .int .i64 y.g2, .int .i64 y.g3, .int .i64 x.l, .int .i64 x.s, .int .i64 x.d] 120) := heap_setCell_same _ g 3 _ _ (.int .i64 y.g3) k2
  have k4 : (((((w.setCell ⟨g, 0, none⟩ (.int .i64 y.g0)).setCell ⟨g, 1, none⟩ (.int .i64 y.g1)).setCell ⟨g, 2, none⟩ (.int .i64 y.g2)).setCell ⟨g, 3, none⟩ (.int .i64 y.g3)).setCell ⟨g, 4, none⟩ (.int .i64 y.l)).heap[g]? = some (.cells #[.int .i64 y.g0, .int .i64 y.g1, .int .i64 y.g2, .int .i64 y.g3, .int .i64 y.l, .int .i64 x.s, .int .i64 x.d] 120) := heap_setCell_same _ g 4 _ _ (.int .i64 y.l) k3
  have k5 : ((((((w.setCell ⟨g, 0, none⟩ (.int .i64 y.g0)).setCell ⟨g, 1, none⟩ (.int .i64 y.g1)).setCell ⟨g, 2, none⟩ (.int .i64 y.g2)).setCell ⟨g, 3, none⟩ (.int .i64 y.g3)).setCell ⟨g, 4, none⟩ (.int .i64 y.l)).setCell ⟨g, 5, none⟩ (.int .i64 y.s)).heap[g]? = some (.cells #[.int .i64 y.g0, .int .i64 y.g1, .int .i64 y.g2, .int .i64 y.g3, .int .i64 y.l, .int .i64 y.s, .int .i64 x.d] 120) := heap_setCell_same _ g 5 _ _ (.int .i64 y.s) k4
  have k6 : (((((((w.setCell ⟨g, 0, none⟩ (.int .i64 y.g0)).setCell ⟨g, 1, none⟩ (.int .i64 y.g1)).setCell ⟨g, 2, none⟩ (.int .i64 y.g2)).setCell ⟨g, 3, none⟩ (.int .i64 y.g3)).setCell ⟨g, 4, none⟩ (.int .i64 y.l)).setCell ⟨g, 5, none⟩ (.int .i64 y.s)).setCell ⟨g, 6, none⟩ (.int .i64 y.d)).heap[g]? = some (.cells #[.int .i64 y.g0, .int .i64 y.g1, .int .i64 y.g2, .int .i64 y.g3, .int .i64 y.l, .int .i64 y.s, .int .i64 y.d] 120) := heap_setCell_same _ g 6 _ _ (.int .i64 y.d) k5
  exact k6
theorem only_putSt (b : Nat) (w : World) (y : St) : Only b w (putSt w b y) := ((((((Only.set b 0 w _).trans (Only.set b 1 _ _)).trans (Only.set b 2 _ _)).trans (Only.set b 3 _ _)).trans (Only.set b 4 _ _)).trans (Only.set b 5 _ _)).trans (Only.set b 6 _ _)

theorem elC_le {n : Int} {x : St} (h1 : proB n = true) (h2 : stOKB x = true) : leC n x = elC n x ∧ leX n x = elX n x := by
  unfold leX leC elC elX
  rw [h1, h2]
  cases restB n x <;> simp

end Go.Proofs.YtdckjhobikfggaaDoor

namespace Go.Proofs.YtdckjhobikfggaaDoor
open Go.RowKit Go.MapKept Go.ChangeMaps

/-- A place as a key. -/
def plK (p r : Int) : Value := .agg #[.int .i64 p, .int .i64 r]

theorem equal_place (p r p' r' : Int) (w : World) : (Op.equal 190 (plK p r) (plK p' r')).run Tryd.prog w = .ok ((p == p') && (r == r')) w := by
  have he := Tryd.underlying3
  have q : ∀ (d : Nat) (x y : Int), (Op.equalIn (d + 1) 3 (.int .i64 x) (.int .i64 y)).run Tryd.prog w = .ok (x == y) w := fun d x y => run_equalIn_int w d 3 .i64 .i64 x y he
  unfold Op.equal plK
  rw [show Op.maxDepth = 9998 + 1 + 1 from rfl]
  go_simp
  by_cases h1 : p = p'
  · by_cases h2 : r = r'
    · simp [h1, h2]
    · simp [h1, h2]
  · simp [h1]

theorem check_place (e : Bool) (p r : Int) (w : World) : (Instr.checkKey e 10000 190 (plK p r)).run Tryd.prog w = .ok () w := by
  kernel_rfl

/-- The entries of a map of places, from number k on. -/
def plE : Nat → List ((Int × Int) × Value) → List MapEntry
  | _, [] => []
  | k, e :: t => ⟨plK e.1.1 e.1.2, e.2, k⟩ :: plE (k + 1) t
/-- Where a place's entry stands, and its value. -/
def plIdx (p r : Int) : Nat → List ((Int × Int) × Value) → Option (Nat × Value)
  | _, [] => none
  | i, e :: t => if ((p == e.1.1) && (r == e.1.2)) = true then some (i, e.2) else plIdx p r (i + 1) t
theorem plE_snoc (p r : Int) (v : Value) : ∀ (es : List ((Int × Int) × Value)) (k : Nat), plE k (es ++ [((p, r), v)]) = plE k es ++ [⟨plK p r, v, k + es.length⟩]
  | [], k => by simp [plE]
  | e :: t, k => by simp [plE, plE_snoc p r v t (k + 1)]; omega

theorem find_asking (p r : Int) (w : World) : ∀ (es : List ((Int × Int) × Value)) (k i : Nat), (Instr.findAsking 190 (plK p r) (plE k es) i).run Tryd.prog w = .ok (plIdx p r i es) w
  | [], k, i => rfl
  | e :: t, k, i => by
    have h := equal_place p r e.1.1 e.1.2 w
    unfold plE Instr.findAsking plIdx
    simp only [Sem.run_bind, h, Result.andThen_ok]
    split
    · rfl
    · exact find_asking p r w t (k + 1) (i + 1)

theorem find_key (p r : Int) (w : World) (es : List ((Int × Int) × Value)) : (Instr.findKey 190 (plK p r) (plE 0 es)).run Tryd.prog w = .ok (plIdx p r 0 es) w := by
  have hu := run_underlying Tryd.underlying190 w
  unfold Instr.findKey
  simp only [Sem.run_bind, hu, Result.andThen_ok]
  cases es with
  | nil => rfl
  | cons e t => exact find_asking p r w (e :: t) 0 0

/-- The map's block. -/
def plO (es : List ((Int × Int) × Value)) : Obj := .map (plE 0 es).toArray es.length

theorem insert_place {w : World} {b : Nat} {es : List ((Int × Int) × Value)} (p r : Int) (v : Value) (hb : w.heap[b]? = some (plO es)) (hn : plIdx p r 0 es = none) :
    (Instr.mapUpdate 114 (.map (some b)) (plK p r) v).run Tryd.prog w = .ok () (setBlock w b (plO (es ++ [((p, r), v)]))) := by
  have hu := run_underlying Tryd.underlying114 w
  have hg := MapKept.run_getObj_map (P := Tryd.prog) hb
  have hc := check_place false p r w
  have hf := find_key p r w es
  rw [hn] at hf
  have hs := MapKept.run_setObj_map (P := Tryd.prog) (plO (es ++ [((p, r), v)])) hb
  have e1 : plO (es ++ [((p, r), v)]) = .map ((plE 0 es).toArray.push ⟨plK p r, v, es.length⟩) (es.length + 1) := by
    unfold plO
    rw [plE_snoc]
    simp
  rw [e1] at hs ⊢
  unfold Instr.mapUpdate
  simp only [Sem.run_bind, hu, Result.andThen_ok, hg, hc, hf]
  exact hs

theorem lookup_place {w : World} {b : Nat} {es : List ((Int × Int) × Value)} (p r : Int) (hb : w.heap[b]? = some (plO es)) :
    (Instr.lookup 114 (.map (some b)) (plK p r) false).run Tryd.prog w = .ok (match plIdx p r 0 es with | some q => q.2 | none => .slice none 0 0) w := by
  have hu := run_underlying Tryd.underlying114 w
  have hg := MapKept.run_getObj_map (P := Tryd.prog) hb
  have hc := fun e => check_place e p r w
  have hf := find_key p r w es
  have hz : (zeroValue 23).run Tryd.prog w = .ok (.slice none 0 0) w := by kernel_rfl
  unfold Instr.lookup
  simp only [Sem.run_bind, hu, Result.andThen_ok, hg, Sem.run_pure, hc, hf]
  cases plIdx p r 0 es with
  | none => simp only [Sem.run_bind, hz, Result.andThen_ok, Sem.run_pure]; rfl
  | some q => rfl

/-- 'map[place][]int{k: v}' at a new key. -/
theorem wpList_insert_place (w : World) {ops : Array Oper} {rest : List Oper} {o : Oper} {a : Act} {Q : Exit → Act → World → Prop} (hg : o.guard = none) (m x v : Operand) (hop : o.op = Op.insert 114 m x v)
    (b : Nat) (es : List ((Int × Int) × Value)) (hm : a.eval m = .map (some b)) (hb : w.heap[b]? = some (plO es)) (p r : Int) (val : Value) (hx : a.eval x = plK p r) (hv : a.eval v = val) (hn : plIdx p r 0 es = none)
    (hK : ∀ w', w'.heap[b]? = some (plO (es ++ [((p, r), val)])) → w.grownBy w' (some b) → wpList Tryd.prog ops Q rest (a.put o.dst undef) w') : wpList Tryd.prog ops Q (o :: rest) a w := by
  refine wpList_plain hg fun K' hK' => ?_
  have hrun := insert_place p r val hb hn
  unfold Oper.wp
  simp [execOp, hop, hm, hx, hv, hrun, Result.andThen]
  refine hK' _ _ (hK _ (heap_setBlock_same hb _) ?_)
  exact ⟨rfl, rfl, rfl, by simp [setBlock], fun i _ hi => heap_setBlock_other hb _ (fun e => hi (by rw [e]))⟩

end Go.Proofs.YtdckjhobikfggaaDoor

namespace Go.Proofs.YtdckjhobikfggaaDoor
open Go.RowKit Go.MapKept Go.ChangeMaps

/-- How many operations have not come up. -/
def unl (l : Array Bool) : Nat := (l.toList.filter (fun b => !b)).length
theorem unl_list_set : ∀ (l : List Bool) (i : Nat), l[i]? = some false → ((l.set i true).filter (fun b => !b)).length + 1 = (l.filter (fun b => !b)).length
  | [], i, h => by simp at h
  | b :: t, 0, h => by
    simp at h
    subst h
    simp
  | b :: t, i + 1, h => by
    have := unl_list_set t i (by simpa using h)
    cases b <;> simp <;> omega
theorem getD_true {l : Array Bool} {i : Nat} (h : l.getD i true = false) : l[i]? = some false := by
  rw [Array.getD_eq_getD_getElem?] at h
  cases hl : l[i]? with
  | none => rw [hl] at h; simp at h
  | some b => rw [hl] at h; simp at h; rw [h]
theorem unl_set {l : Array Bool} {i : Nat} (h : l.getD i true = false) : unl (l.setIfInBounds i true) + 1 = unl l := by
  have := unl_list_set l.toList i (by simpa using getD_true h)
  unfold unl
  rw [Array.toList_setIfInBounds]
  exact this
theorem unl_zero {l : Array Bool} (h : unl l = 0) (i : Nat) : l.getD i true = true := by
  cases hb : l.getD i true with
  | true => rfl
  | false => have := unl_set hb; omega

theorem wpAny_inv {P : Program} {ops : Array Oper} {Q : Exit → Act → World → Prop} (I : Array Bool → Act → World → Prop)
    (hstep : ∀ l a w, I l a w → ∀ i ∈ Region.ready .any ops l, wpOp P ops Q i (fun a' w' => I (l.setIfInBounds i true) a' w') a w)
    (hend : ∀ l a w, I l a w → Region.ready .any ops l = [] → Q .normal a w) : ∀ (fuel : Nat) (l : Array Bool) (a : Act) (w : World), unl l ≤ fuel → I l a w → wpAny P .any ops Q fuel l a w
  | 0, l, a, w, hf, hI => by
    have hr : Region.ready .any ops l = [] := by
      cases hr : Region.ready .any ops l with
      | nil => rfl
      | cons j t =>
        have hj : j ∈ Region.ready .any ops l := by rw [hr]; simp
        have h1 := (mem_ready.1 hj).1
        have h2 := unl_zero (by omega : unl l = 0) j
        rw [h1] at h2
        cases h2
    exact ⟨hr, hend l a w hI hr⟩
  | fuel + 1, l, a, w, hf, hI => by
    refine ⟨hend l a w hI, fun i hi => wpOp_mono (fun a' w' h => ?_) (hstep l a w hI i hi)⟩
    refine wpAny_inv I hstep hend fuel _ a' w' ?_ h
    have := unl_set (mem_ready.1 hi).1
    omega

/-- Every operation waits only for earlier ones. -/
def earlierB (ops : Array Oper) : Bool := (List.range ops.size).all fun i => match ops[i]? with | some o => o.after.all (fun e => decide (e.on < i)) | none => true
theorem all_listed {ops : Array Oper} {l : Array Bool} (hb : earlierB ops = true) (hs : l.size = ops.size) (hr : Region.ready .any ops l = []) : ∀ (n i : Nat), i < n → i < ops.size → l.getD i false = true
  | 0, i, h, _ => absurd h (Nat.not_lt_zero i)
  | n + 1, i, h, hi => by
    cases hl : l.getD i false with
    | true => rfl
    | false =>
      have h0 : l[i]? = some false := by
        rw [Array.getD_eq_getD_getElem?] at hl
        rw [Array.getElem?_eq_getElem (by omega : i < l.size)] at hl ⊢
        simpa using hl
      have h1 : l.getD i true = false := by rw [Array.getD_eq_getD_getElem?, h0]; rfl
      have hm : i ∈ Region.ready .any ops l := by
        refine mem_ready.2 ⟨h1, ops[i], Array.getElem?_eq_getElem hi, fun e he _ => ?_⟩
        have hall := List.all_eq_true.1 hb i (List.mem_range.2 hi)
        rw [Array.getElem?_eq_getElem hi] at hall
        have hlt := of_decide_eq_true (Array.all_eq_true_iff_forall_mem.1 hall e he)
        exact all_listed hb hs hr n e.on (by omega) (by omega)
      rw [hr] at hm
      cases hm

/-- The places, and the sets of each. -/
def plKeys : List (Int × Int) := [(1, 0), (2, 0), (2, 2), (3, 0), (3, 1), (4, 0), (4, 1), (4, 2), (5, 0), (5, 1)]
def plLists : List (List Int) := [[1, 2, 6], [1, 2, 6, 7, 8], [4, 5], [1], [7], [1], [7, 8], [3, 6], [1, 2, 6, 7, 8], [3, 4, 5, 6, 7, 8]]
def plKey (k : Nat) : Int × Int := plKeys.getD k (0, 0)
def plList (k : Nat) : List Int := plLists.getD k []
def plSl (b k : Nat) : Value := .slice (some ⟨b, 0, none⟩) (plList k).length (plList k).length
def plC (k : Nat) : Obj := .cells ((plList k).map (Value.int .i64)).toArray 3

/-- The map of places in block mb: the entry of place k is the row in block blk k; everything from block C on. -/
def PlMap (w : World) (C mb : Nat) (blk : Nat → Nat) (has : Nat → Bool) : Prop := C ≤ mb ∧ ∃ es, w.heap[mb]? = some (plO es) ∧ (∀ k, k < 10 → (has k = true → (∃ i, plIdx (plKey k).1 (plKey k).2 0 es = some (i, plSl (blk k) k))) ∧ (has k = false → plIdx (plKey k).1 (plKey k).2 0 es = none)) ∧
  ∀ p r, (∀ k, k < 10 → plKey k ≠ (p, r)) → plIdx p r 0 es = none

theorem plIdx_snoc (p r p' r' : Int) (v : Value) : ∀ (es : List ((Int × Int) × Value)) (i : Nat), plIdx p r i (es ++ [((p', r'), v)]) = match plIdx p r i es with | some q => some q | none => if ((p == p') && (r == r')) = true then some (i + es.length, v) else none
  | [], i => by simp [plIdx]
  | e :: t, i => by
    simp only [List.cons_append, plIdx]
    split
    · rfl
    · rw [plIdx_snoc p r p' r' v t (i + 1)]
      cases plIdx p r (i + 1) t with
      | some q => rfl
      | none => simp only [List.length_cons]; split <;> simp; omega

theorem plKey_inj : ∀ j, j < 10 → ∀ k, k < 10 → plKey j = plKey k → j = k := by decide +kernel

end Go.Proofs.YtdckjhobikfggaaDoor

namespace Go.Proofs.YtdckjhobikfggaaDoor
open Go.RowKit Go.MapKept Go.ChangeMaps

theorem set_same {l : Array Bool} {i : Nat} (h : i < l.size) : (l.setIfInBounds i true).getD i false = true := by simp [Array.getD_eq_getD_getElem?, h]
theorem set_other {l : Array Bool} {i j : Nat} (h : i ≠ j) (b : Bool) : (l.setIfInBounds i true).getD j b = l.getD j b := by simp [Array.getD_eq_getD_getElem?, Array.getElem?_setIfInBounds_ne h]
theorem unlisted {l : Array Bool} {i : Nat} (h : l.getD i true = false) : l.getD i false = false ∧ i < l.size := by
  have h1 := getD_true h
  exact ⟨by rw [Array.getD_eq_getD_getElem?, h1]; rfl, (Array.getElem?_eq_some_iff.1 h1).1⟩

structure PlInv (w0 : World) (l : Array Bool) (a : Act) (w : World) : Prop where
  size : l.size = 33
  tm : a.tmps.size = 23
  df : a.defers = []
  bel : Below w0.heap.size w0 w
  ks : ∀ k, k < 10 → l.getD (3 * k + 1) false = true → a.eval (.tmp (2 * k + 2)) = plK (plKey k).1 (plKey k).2
  all : ∃ blk : Nat → Nat, (∀ k, k < 10 → l.getD (3 * k + 2) false = true → a.eval (.tmp (2 * k + 3)) = plSl (blk k) k ∧ w0.heap.size ≤ blk k ∧ w.heap[blk k]? = some (plC k)) ∧
    (∀ j k, j < 10 → k < 10 → l.getD (3 * j + 2) false = true → l.getD (3 * k + 2) false = true → blk j = blk k → j = k) ∧
    (l.getD 0 false = true → ∃ mb, a.eval (.tmp 1) = .map (some mb) ∧ PlMap w w0.heap.size mb blk (fun k => l.getD (3 * k + 3) false))
  ins : ∀ k, k < 10 → l.getD (3 * k + 3) false = true → l.getD 0 false = true ∧ l.getD (3 * k + 2) false = true
  fin : l.getD 31 false = true → l.getD 0 false = true ∧ a.eval (.tmp 22) = a.eval (.tmp 1)
  fin2 : l.getD 32 false = true → l.getD 31 false = true ∧ a.eval (.tmp 0) = a.eval (.tmp 22)

theorem tm_put {a : Act} {d : Option Tmp} {v : Value} : (a.put d v).tmps.size = a.tmps.size ∧ (a.put d v).defers = a.defers := by
  cases d with
  | none => exact ⟨rfl, rfl⟩
  | some d => exact ⟨by simp [Act.put], rfl⟩

theorem PlInv.build {w0 w : World} {l : Array Bool} {a : Act} (h : PlInv w0 l a w) (k : Nat) (hk : k < 10) (hu : l.getD (3 * k + 1) true = false) : PlInv w0 (l.setIfInBounds (3 * k + 1) true) (a.put (some (2 * k + 2)) (plK (plKey k).1 (plKey k).2)) w := by
  have ⟨hu0, hul⟩ := unlisted hu
  have hne : ∀ j : Nat, 2 * k + 2 ≠ j → (a.put (some (2 * k + 2)) (plK (plKey k).1 (plKey k).2)).eval (.tmp j) = a.eval (.tmp j) := fun j hj => Act.eval_put_ne a _ j _ hj
  obtain ⟨blk, a1, a2, a3⟩ := h.all
  refine ⟨by simpa using h.size, tm_put.1.trans h.tm, tm_put.2.trans h.df, h.bel, ?_, ⟨blk, ?_, ?_, ?_⟩, ?_, ?_, ?_⟩
  · intro j hj hl
    by_cases hjk : j = k
    · subst hjk
      exact Act.eval_put_same a _ _ (by rw [h.tm]; omega)
    · rw [set_other (by omega)] at hl
      rw [hne _ (by omega)]
      exact h.ks j hj hl
  · intro j hj hl
    rw [set_other (by omega)] at hl
    rw [hne _ (by omega)]
    exact a1 j hj hl
  · intro i j hi hj h1 h2
    rw [set_other (by omega)] at h1 h2
    exact a2 i j hi hj h1 h2
  · intro h0
    rw [set_other (by omega)] at h0
    obtain ⟨mb, m1, m2⟩ := a3 h0
    refine ⟨mb, by rw [hne _ (by omega)]; exact m1, ?_⟩
    have : (fun j => (l.setIfInBounds (3 * k + 1) true).getD (3 * j + 3) false) = fun j => l.getD (3 * j + 3) false := funext fun j => set_other (by omega) _
    rw [this]
    exact m2
  · intro j hj hl
    rw [set_other (by omega)] at hl ⊢
    rw [set_other (by omega)]
    exact h.ins j hj hl
  · intro hl
    rw [set_other (by omega)] at hl ⊢
    rw [hne _ (by omega), hne _ (by omega)]
    exact h.fin hl
  · intro hl
    rw [set_other (by omega)] at hl ⊢
    rw [hne _ (by omega), hne _ (by omega)]
    exact h.fin2 hl

theorem PlInv.slice {w0 w : World} {l : Array Bool} {a : Act} (h : PlInv w0 l a w) (k : Nat) (hk : k < 10) (hu : l.getD (3 * k + 2) true = false) : PlInv w0 (l.setIfInBounds (3 * k + 2) true) (a.put (some (2 * k + 3)) (plSl w.heap.size k)) (w.alloc (plC k)) := by
  have ⟨hu0, hul⟩ := unlisted hu
  have hne : ∀ j : Nat, 2 * k + 3 ≠ j → (a.put (some (2 * k + 3)) (plSl w.heap.size k)).eval (.tmp j) = a.eval (.tmp j) := fun j hj => Act.eval_put_ne a _ j _ hj
  obtain ⟨blk, a1, a2, a3⟩ := h.all
  have hlt : ∀ j, j < 10 → l.getD (3 * j + 2) false = true → blk j < w.heap.size := fun j hj hl => (Array.getElem?_eq_some_iff.1 (a1 j hj hl).2.2).1
  refine ⟨by simpa using h.size, tm_put.1.trans h.tm, tm_put.2.trans h.df, h.bel.alloc h.bel.size _, ?_, ⟨fun j => if j = k then w.heap.size else blk j, ?_, ?_, ?_⟩, ?_, ?_, ?_⟩
  · intro j hj hl
    rw [set_other (by omega)] at hl
    rw [hne _ (by omega)]
    exact h.ks j hj hl
  · intro j hj hl
    by_cases hjk : j = k
    · subst hjk
      dsimp only
      rw [if_pos rfl]
      exact ⟨Act.eval_put_same a _ _ (by rw [h.tm]; omega), h.bel.size, at_new _ _ rfl⟩
    · rw [set_other (by omega)] at hl
      dsimp only
      rw [if_neg hjk, hne _ (by omega)]
      have := a1 j hj hl
      exact ⟨this.1, this.2.1, at_old _ this.2.2⟩
  · intro i j hi hj h1 h2
    dsimp only
    by_cases hik : i = k
    · by_cases hjk : j = k
      · intro _; omega
      · rw [set_other (by omega)] at h2
        rw [if_pos hik, if_neg hjk]
        have := hlt j hj h2
        intro he
        omega
    · rw [set_other (by omega)] at h1
      by_cases hjk : j = k
      · rw [if_neg hik, if_pos hjk]
        have := hlt i hi h1
        intro he
        omega
      · rw [set_other (by omega)] at h2
        rw [if_neg hik, if_neg hjk]
        exact a2 i j hi hj h1 h2
  · intro h0
    rw [set_other (by omega)] at h0
    obtain ⟨mb, m1, hmb, es, e1, e2, e3⟩ := a3 h0
    refine ⟨mb, by rw [hne _ (by omega)]; exact m1, hmb, es, at_old _ e1, ?_, e3⟩
    intro j hj
    dsimp only
    rw [set_other (by omega)]
    refine ⟨fun hl => ?_, (e2 j hj).2⟩
    have hjk : j ≠ k := by
      intro he
      subst he
      have := (h.ins j hj hl).2
      rw [hu0] at this
      cases this
    rw [if_neg hjk]
    exact (e2 j hj).1 hl
  · intro j hj hl
    rw [set_other (by omega)] at hl ⊢
    have := h.ins j hj hl
    refine ⟨this.1, ?_⟩
    by_cases hjk : j = k
    · subst hjk; exact set_same hul
    · rw [set_other (by omega)]; exact this.2
  · intro hl
    rw [set_other (by omega)] at hl ⊢
    rw [hne _ (by omega), hne _ (by omega)]
    exact h.fin hl
  · intro hl
    rw [set_other (by omega)] at hl ⊢
    rw [hne _ (by omega), hne _ (by omega)]
    exact h.fin2 hl

theorem PlInv.make {w0 w : World} {l : Array Bool} {a : Act} (h : PlInv w0 l a w) (hu : l.getD 0 true = false) : PlInv w0 (l.setIfInBounds 0 true) (a.put (some 1) (.map (some w.heap.size))) (w.alloc (.map #[] 0)) := by
  have ⟨hu0, hul⟩ := unlisted hu
  have hne : ∀ j : Nat, 1 ≠ j → (a.put (some 1) (.map (some w.heap.size))).eval (.tmp j) = a.eval (.tmp j) := fun j hj => Act.eval_put_ne a _ j _ hj
  obtain ⟨blk, a1, a2, a3⟩ := h.all
  refine ⟨by simpa using h.size, tm_put.1.trans h.tm, tm_put.2.trans h.df, h.bel.alloc h.bel.size _, ?_, ⟨blk, ?_, ?_, ?_⟩, ?_, ?_, ?_⟩
  · intro j hj hl
    rw [set_other (by omega)] at hl
    rw [hne _ (by omega)]
    exact h.ks j hj hl
  · intro j hj hl
    rw [set_other (by omega)] at hl
    rw [hne _ (by omega)]
    have := a1 j hj hl
    exact ⟨this.1, this.2.1, at_old _ this.2.2⟩
  · intro i j hi hj h1 h2
    rw [set_other (by omega)] at h1 h2
    exact a2 i j hi hj h1 h2
  · intro _
    refine ⟨w.heap.size, Act.eval_put_same a _ _ (by rw [h.tm]; omega), h.bel.size, [], at_new _ _ rfl, ?_, fun _ _ _ => rfl⟩
    intro j hj
    dsimp only
    rw [set_other (by omega)]
    refine ⟨fun hl => ?_, fun _ => rfl⟩
    have := (h.ins j hj hl).1
    rw [hu0] at this
    cases this
  · intro j hj hl
    rw [set_other (by omega)] at hl
    rw [set_other (by omega : 0 ≠ 3 * j + 2)]
    exact ⟨set_same hul, (h.ins j hj hl).2⟩
  · intro hl
    rw [set_other (by omega)] at hl
    have := (h.fin hl).1
    rw [hu0] at this
    cases this
  · intro hl
    rw [set_other (by omega)] at hl
    have := (h.fin (h.fin2 hl).1).1
    rw [hu0] at this
    cases this

theorem PlInv.insert {w0 w : World} {l : Array Bool} {a : Act} (h : PlInv w0 l a w) (k : Nat) (hk : k < 10) (hu : l.getD (3 * k + 3) true = false) (d0 : l.getD 0 false = true) (d1 : l.getD (3 * k + 1) false = true) (d2 : l.getD (3 * k + 2) false = true) :
    ∃ w', (Instr.mapUpdate 114 (a.eval (.tmp 1)) (a.eval (.tmp (2 * k + 2))) (a.eval (.tmp (2 * k + 3)))).run Tryd.prog w = .ok () w' ∧ PlInv w0 (l.setIfInBounds (3 * k + 3) true) a w' := by
  have ⟨hu0, hul⟩ := unlisted hu
  obtain ⟨blk, a1, a2, a3⟩ := h.all
  obtain ⟨mb, m1, hmb, es, e1, e2, e3⟩ := a3 d0
  have e1' : w.heap[mb]? = some (.map (plE 0 es).toArray es.length) := e1
  have hno := (e2 k hk).2 hu0
  refine ⟨setBlock w mb (plO (es ++ [(((plKey k).1, (plKey k).2), plSl (blk k) k)])), ?_, ?_⟩
  · rw [m1, h.ks k hk d1, (a1 k hk d2).1]
    exact insert_place (plKey k).1 (plKey k).2 (plSl (blk k) k) e1 hno
  · have hother : ∀ i, i ≠ mb → (setBlock w mb (plO (es ++ [(((plKey k).1, (plKey k).2), plSl (blk k) k)]))).heap[i]? = w.heap[i]? := fun i hi => heap_setBlock_other e1' _ hi
    refine ⟨by simpa using h.size, h.tm, h.df, ?_, ?_, ⟨blk, ?_, ?_, ?_⟩, ?_, ?_, ?_⟩
    · exact h.bel.grown (row := some mb) ⟨rfl, rfl, rfl, by simp [setBlock], fun i _ hi => heap_setBlock_other e1' _ (fun e => hi (by rw [e]))⟩ h.bel.size (fun i hi => by cases hi; exact hmb)
    · intro j hj hl
      rw [set_other (by omega)] at hl
      exact h.ks j hj hl
    · intro j hj hl
      rw [set_other (by omega)] at hl
      have := a1 j hj hl
      refine ⟨this.1, this.2.1, (hother _ ?_).trans this.2.2⟩
      intro he
      have h3 := this.2.2
      rw [he, e1] at h3
      unfold plO plC at h3
      simp at h3
    · intro i j hi hj h1 h2
      rw [set_other (by omega)] at h1 h2
      exact a2 i j hi hj h1 h2
    · intro _
      refine ⟨mb, m1, hmb, _, heap_setBlock_same e1' _, ?_, ?_⟩
      · intro j hj
        rw [plIdx_snoc]
        by_cases hjk : j = k
        · subst hjk
          refine ⟨fun _ => ?_, fun hl => ?_⟩
          · rw [hno]
            exact ⟨0 + es.length, by simp⟩
          · dsimp only at hl
            rw [set_same hul] at hl
            cases hl
        · dsimp only
          rw [set_other (by omega)]
          refine ⟨fun hl => ?_, fun hl => ?_⟩
          · obtain ⟨i, hi⟩ := (e2 j hj).1 hl
            rw [hi]
            exact ⟨i, rfl⟩
          · rw [(e2 j hj).2 hl]
            have hkk : plKey j ≠ plKey k := fun he => hjk (plKey_inj j hj k hk he)
            have : ((((plKey j).1 == (plKey k).1) && ((plKey j).2 == (plKey k).2)) = true) → False := by
              intro hb
              simp only [Bool.and_eq_true, beq_iff_eq] at hb
              exact hkk (Prod.ext hb.1 hb.2)
            simp only
            rw [if_neg this]
      · intro p r hpr
        rw [plIdx_snoc, e3 p r hpr]
        have : (((p == (plKey k).1) && (r == (plKey k).2)) = true) → False := by
          intro hb
          simp only [Bool.and_eq_true, beq_iff_eq] at hb
          exact hpr k hk (Prod.ext hb.1.symm hb.2.symm)
        simp only
        rw [if_neg this]
    · intro j hj hl
      rw [set_other (by omega : 3 * k + 3 ≠ 0), set_other (by omega : 3 * k + 3 ≠ 3 * j + 2)]
      by_cases hjk : j = k
      · subst hjk; exact ⟨d0, d2⟩
      · rw [set_other (by omega)] at hl
        exact h.ins j hj hl
    · intro hl
      rw [set_other (by omega)] at hl ⊢
      exact h.fin hl
    · intro hl
      rw [set_other (by omega)] at hl ⊢
      exact h.fin2 hl

theorem PlInv.move {w0 w : World} {l : Array Bool} {a : Act} (h : PlInv w0 l a w) (hu : l.getD 31 true = false) (d0 : l.getD 0 false = true) : PlInv w0 (l.setIfInBounds 31 true) (a.put (some 22) (a.eval (.tmp 1))) w := by
  have ⟨hu0, hul⟩ := unlisted hu
  have hne : ∀ j : Nat, 22 ≠ j → (a.put (some 22) (a.eval (.tmp 1))).eval (.tmp j) = a.eval (.tmp j) := fun j hj => Act.eval_put_ne a _ j _ hj
  obtain ⟨blk, a1, a2, a3⟩ := h.all
  refine ⟨by simpa using h.size, tm_put.1.trans h.tm, tm_put.2.trans h.df, h.bel, ?_, ⟨blk, ?_, ?_, ?_⟩, ?_, ?_, ?_⟩
  · intro j hj hl
    rw [set_other (by omega)] at hl
    rw [hne _ (by omega)]
    exact h.ks j hj hl
  · intro j hj hl
    rw [set_other (by omega)] at hl
    rw [hne _ (by omega)]
    exact a1 j hj hl
  · intro i j hi hj h1 h2
    rw [set_other (by omega)] at h1 h2
    exact a2 i j hi hj h1 h2
  · intro h0
    obtain ⟨mb, m1, m2⟩ := a3 d0
    refine ⟨mb, by rw [hne _ (by omega)]; exact m1, ?_⟩
    obtain ⟨hmb, es, e1, e2, e3⟩ := m2
    refine ⟨hmb, es, e1, fun j hj => ?_, e3⟩
    dsimp only
    rw [set_other (by omega)]
    exact e2 j hj
  · intro j hj hl
    rw [set_other (by omega)] at hl
    rw [set_other (by omega : 31 ≠ 0), set_other (by omega : 31 ≠ 3 * j + 2)]
    exact h.ins j hj hl
  · intro _
    rw [set_other (by omega : 31 ≠ 0), hne _ (by omega : 22 ≠ 1)]
    exact ⟨d0, Act.eval_put_same a _ _ (by rw [h.tm]; omega)⟩
  · intro hl
    rw [set_other (by omega)] at hl
    have := (h.fin2 hl).1
    rw [hu0] at this
    cases this

theorem PlInv.assign {w0 w : World} {l : Array Bool} {a : Act} (h : PlInv w0 l a w) (hu : l.getD 32 true = false) (d31 : l.getD 31 false = true) : PlInv w0 (l.setIfInBounds 32 true) (a.put (some 0) (a.eval (.tmp 22))) w := by
  have ⟨hu0, hul⟩ := unlisted hu
  have hne : ∀ j : Nat, 0 ≠ j → (a.put (some 0) (a.eval (.tmp 22))).eval (.tmp j) = a.eval (.tmp j) := fun j hj => Act.eval_put_ne a _ j _ hj
  obtain ⟨blk, a1, a2, a3⟩ := h.all
  refine ⟨by simpa using h.size, tm_put.1.trans h.tm, tm_put.2.trans h.df, h.bel, ?_, ⟨blk, ?_, ?_, ?_⟩, ?_, ?_, ?_⟩
  · intro j hj hl
    rw [set_other (by omega)] at hl
    rw [hne _ (by omega)]
    exact h.ks j hj hl
  · intro j hj hl
    rw [set_other (by omega)] at hl
    rw [hne _ (by omega)]
    exact a1 j hj hl
  · intro i j hi hj h1 h2
    rw [set_other (by omega)] at h1 h2
    exact a2 i j hi hj h1 h2
  · intro h0
    rw [set_other (by omega)] at h0
    obtain ⟨mb, m1, m2⟩ := a3 h0
    refine ⟨mb, by rw [hne _ (by omega)]; exact m1, ?_⟩
    obtain ⟨hmb, es, e1, e2, e3⟩ := m2
    refine ⟨hmb, es, e1, fun j hj => ?_, e3⟩
    dsimp only
    rw [set_other (by omega)]
    exact e2 j hj
  · intro j hj hl
    rw [set_other (by omega)] at hl
    rw [set_other (by omega : 32 ≠ 0), set_other (by omega : 32 ≠ 3 * j + 2)]
    exact h.ins j hj hl
  · intro hl
    rw [set_other (by omega)] at hl ⊢
    rw [hne _ (by omega), hne _ (by omega)]
    exact h.fin hl
  · intro _
    rw [set_other (by omega : 32 ≠ 31), hne _ (by omega : 0 ≠ 22)]
    exact ⟨d31, Act.eval_put_same a _ _ (by rw [h.tm]; omega)⟩

/-- One operation that comes up, by its run. -/
theorem op_value {P : Program} {ops : Array Oper} {Q : Exit → Act → World → Prop} {i : Nat} {o : Oper} {a : Act} {w w' : World} {v : Value} {K : Act → World → Prop} (ho : ops[i]? = some o) (hg : o.guard = none) (hr : (execOp a.eval o).run P w = .ok (.value v) w') (hK : K (a.put o.dst v) w') : wpOp P ops Q i K a w := by
  unfold wpOp
  rw [ho]
  have : Region.wanted o (yielded ops a.tmps) = true := by simp [Region.wanted, hg]
  simp only [this, if_true]
  exact .inl (by unfold Oper.wp; rw [hr]; exact hK)
theorem op_skip {P : Program} {ops : Array Oper} {Q : Exit → Act → World → Prop} {i : Nat} {o : Oper} {a : Act} {w w' : World} {K : Act → World → Prop} (ho : ops[i]? = some o) (hg : o.guard = none) (hr : (execOp a.eval o).run P w = .ok .skip w') (hK : K (a.put o.dst undef) w') : wpOp P ops Q i K a w := by
  unfold wpOp
  rw [ho]
  have : Region.wanted o (yielded ops a.tmps) = true := by simp [Region.wanted, hg]
  simp only [this, if_true]
  exact .inl (by unfold Oper.wp; rw [hr]; exact hK)

/-- The map of all places. -/
def PlacesAt (w : World) (C mb : Nat) : Prop := ∃ blk : Nat → Nat, (∀ k, k < 10 → C ≤ blk k ∧ w.heap[blk k]? = some (plC k)) ∧ (∀ j k, j < 10 → k < 10 → blk j = blk k → j = k) ∧ PlMap w C mb blk (fun _ => true)

theorem PlInv.last {w0 w : World} {l : Array Bool} {a : Act} (h : PlInv w0 l a w) (hl : ∀ i, i < 33 → l.getD i false = true) : ∃ mb, a.eval (.tmp 0) = .map (some mb) ∧ PlacesAt w w0.heap.size mb := by
  obtain ⟨blk, a1, a2, a3⟩ := h.all
  obtain ⟨mb, m1, hmb, es, e1, e2, e3⟩ := a3 (hl 0 (by omega))
  refine ⟨mb, ?_, blk, fun k hk => (a1 k hk (hl _ (by omega))).2, fun j k hj hk => a2 j k hj hk (hl _ (by omega)) (hl _ (by omega)), hmb, es, e1, fun k hk => ⟨fun _ => (e2 k hk).1 (hl _ (by omega)), fun hf => by cases hf⟩, e3⟩
  rw [(h.fin2 (hl 32 (by omega))).2, (h.fin (hl 31 (by omega))).2, m1]

set_option maxHeartbeats 4000000 in
set_option maxRecDepth 100000 in
theorem impl_setsOfPlaces (w : World) : Calls Tryd.prog 141 #[] w fun e w' => ∃ mb, e = .returned (.map (some mb)) ∧ PlacesAt w' w.heap.size mb ∧ Below w.heap.size w w' := by
  have hmm := @run_makeMap Tryd.prog
  go_enter Tryd.func141, Tryd.ntmps141
  go_wp2_with fail
  rename_i K hK
  refine wp_region_any (by kernel_rfl) ?_
  refine wpAny_inv (PlInv w) ?_ ?_ _ _ _ _ (by decide +kernel) ?_
  · intro l a w1 hI i hi
    obtain ⟨hu, o, ho, hd⟩ := mem_ready.1 hi
    have hi33 : i < 33 := by have := (Array.getElem?_eq_some_iff.1 ho).1; simpa using this
    rcases (show i = 0 ∨ i = 1 ∨ i = 2 ∨ i = 3 ∨ i = 4 ∨ i = 5 ∨ i = 6 ∨ i = 7 ∨ i = 8 ∨ i = 9 ∨ i = 10 ∨ i = 11 ∨ i = 12 ∨ i = 13 ∨ i = 14 ∨ i = 15 ∨ i = 16 ∨ i = 17 ∨ i = 18 ∨ i = 19 ∨ i = 20 ∨ i = 21 ∨ i = 22 ∨ i = 23 ∨ i = 24 ∨ i = 25 ∨ i = 26 ∨ i = 27 ∨ i = 28 ∨ i = 29 ∨ i = 30 ∨ i = 31 ∨ i = 32 by omega) with rfl | rfl | rfl | rfl | rfl | rfl | rfl | rfl | rfl | rfl | rfl | rfl | rfl | rfl | rfl | rfl | rfl | rfl | rfl | rfl | rfl | rfl | rfl | rfl | rfl | rfl | rfl | rfl | rfl | rfl | rfl | rfl | rfl
    · exact op_value rfl rfl (by simp [execOp, hmm]) (hI.make hu)
    · exact op_value rfl rfl (by go_simp; rfl) (hI.build 0 (by decide) hu)
    · exact op_value rfl rfl (by go_simp; exact ⟨rfl, rfl⟩) (hI.slice 0 (by decide) hu)
    · obtain rfl := Option.some.inj ho
      obtain ⟨w2, hr, hI2⟩ := hI.insert 0 (by decide) hu (hd ⟨0, .data⟩ (by simp) rfl) (hd ⟨1, .data⟩ (by simp) rfl) (hd ⟨2, .data⟩ (by simp) rfl)
      exact op_skip rfl rfl (by simp [execOp, hr, Result.andThen]) hI2
    · exact op_value rfl rfl (by go_simp; rfl) (hI.build 1 (by decide) hu)
    · exact op_value rfl rfl (by go_simp; exact ⟨rfl, rfl⟩) (hI.slice 1 (by decide) hu)
    · obtain rfl := Option.some.inj ho
      obtain ⟨w2, hr, hI2⟩ := hI.insert 1 (by decide) hu (hd ⟨0, .data⟩ (by simp) rfl) (hd ⟨4, .data⟩ (by simp) rfl) (hd ⟨5, .data⟩ (by simp) rfl)
      exact op_skip rfl rfl (by simp [execOp, hr, Result.andThen]) hI2
    · exact op_value rfl rfl (by go_simp; rfl) (hI.build 2 (by decide) hu)
    · exact op_value rfl rfl (by go_simp; exact ⟨rfl, rfl⟩) (hI.slice 2 (by decide) hu)
    · obtain rfl := Option.some.inj ho
      obtain ⟨w2, hr, hI2⟩ := hI.insert 2 (by decide) hu (hd ⟨0, .data⟩ (by simp) rfl) (hd ⟨7, .data⟩ (by simp) rfl) (hd ⟨8, .data⟩ (by simp) rfl)
      exact op_skip rfl rfl (by simp [execOp, hr, Result.andThen]) hI2
    · exact op_value rfl rfl (by go_simp; rfl) (hI.build 3 (by decide) hu)
    · exact op_value rfl rfl (by go_simp; exact ⟨rfl, rfl⟩) (hI.slice 3 (by decide) hu)
    · obtain rfl := Option.some.inj ho
      obtain ⟨w2, hr, hI2⟩ := hI.insert 3 (by decide) hu (hd ⟨0, .data⟩ (by simp) rfl) (hd ⟨10, .data⟩ (by simp) rfl) (hd ⟨11, .data⟩ (by simp) rfl)
      exact op_skip rfl rfl (by simp [execOp, hr, Result.andThen]) hI2
    · exact op_value rfl rfl (by go_simp; rfl) (hI.build 4 (by decide) hu)
    · exact op_value rfl rfl (by go_simp; exact ⟨rfl, rfl⟩) (hI.slice 4 (by decide) hu)
    · obtain rfl := Option.some.inj ho
      obtain ⟨w2, hr, hI2⟩ := hI.insert 4 (by decide) hu (hd ⟨0, .data⟩ (by simp) rfl) (hd ⟨13, .data⟩ (by simp) rfl) (hd ⟨14, .data⟩ (by simp) rfl)
      exact op_skip rfl rfl (by simp [execOp, hr, Result.andThen]) hI2
    · exact op_value rfl rfl (by go_simp; rfl) (hI.build 5 (by decide) hu)
    · exact op_value rfl rfl (by go_simp; exact ⟨rfl, rfl⟩) (hI.slice 5 (by decide) hu)
    · obtain rfl := Option.some.inj ho
      obtain ⟨w2, hr, hI2⟩ := hI.insert 5 (by decide) hu (hd ⟨0, .data⟩ (by simp) rfl) (hd ⟨16, .data⟩ (by simp) rfl) (hd ⟨17, .data⟩ (by simp) rfl)
      exact op_skip rfl rfl (by simp [execOp, hr, Result.andThen]) hI2
    · exact op_value rfl rfl (by go_simp; rfl) (hI.build 6 (by decide) hu)
    · exact op_value rfl rfl (by go_simp; exact ⟨rfl, rfl⟩) (hI.slice 6 (by decide) hu)
    · obtain rfl := Option.some.inj ho
      obtain ⟨w2, hr, hI2⟩ := hI.insert 6 (by decide) hu (hd ⟨0, .data⟩ (by simp) rfl) (hd ⟨19, .data⟩ (by simp) rfl) (hd ⟨20, .data⟩ (by simp) rfl)
      exact op_skip rfl rfl (by simp [execOp, hr, Result.andThen]) hI2
    · exact op_value rfl rfl (by go_simp; rfl) (hI.build 7 (by decide) hu)
    · exact op_value rfl rfl (by go_simp; exact ⟨rfl, rfl⟩) (hI.slice 7 (by decide) hu)
    · obtain rfl := Option.some.inj ho
      obtain ⟨w2, hr, hI2⟩ := hI.insert 7 (by decide) hu (hd ⟨0, .data⟩ (by simp) rfl) (hd ⟨22, .data⟩ (by simp) rfl) (hd ⟨23, .data⟩ (by simp) rfl)
      exact op_skip rfl rfl (by simp [execOp, hr, Result.andThen]) hI2
    · exact op_value rfl rfl (by go_simp; rfl) (hI.build 8 (by decide) hu)
    · exact op_value rfl rfl (by go_simp; exact ⟨rfl, rfl⟩) (hI.slice 8 (by decide) hu)
    · obtain rfl := Option.some.inj ho
      obtain ⟨w2, hr, hI2⟩ := hI.insert 8 (by decide) hu (hd ⟨0, .data⟩ (by simp) rfl) (hd ⟨25, .data⟩ (by simp) rfl) (hd ⟨26, .data⟩ (by simp) rfl)
      exact op_skip rfl rfl (by simp [execOp, hr, Result.andThen]) hI2
    · exact op_value rfl rfl (by go_simp; rfl) (hI.build 9 (by decide) hu)
    · exact op_value rfl rfl (by go_simp; exact ⟨rfl, rfl⟩) (hI.slice 9 (by decide) hu)
    · obtain rfl := Option.some.inj ho
      obtain ⟨w2, hr, hI2⟩ := hI.insert 9 (by decide) hu (hd ⟨0, .data⟩ (by simp) rfl) (hd ⟨28, .data⟩ (by simp) rfl) (hd ⟨29, .data⟩ (by simp) rfl)
      exact op_skip rfl rfl (by simp [execOp, hr, Result.andThen]) hI2
    · obtain rfl := Option.some.inj ho
      exact op_value rfl rfl (by simp [execOp]) (hI.move hu (hd ⟨0, .data⟩ (by simp) rfl))
    · obtain rfl := Option.some.inj ho
      exact op_value rfl rfl (by simp [execOp]) (hI.assign hu (hd ⟨31, .data⟩ (by simp) rfl))
  · intro l a w1 hI hr
    have hl := fun i hi => all_listed (by decide +kernel) (by rw [hI.size]; rfl) hr 33 i hi (by simpa using hi)
    obtain ⟨mb, h0, hp⟩ := hI.last hl
    refine hK _ _ ?_
    go_wp2
    exact bodyPost_ret (results_tmp rfl _ _ _) hI.df ⟨mb, congrArg Ending.returned h0, hp, hI.bel⟩
  · have hf : ∀ i, (Array.replicate 33 false).getD i false = false := fun i => by
      rw [Array.getD_eq_getD_getElem?, Array.getElem?_replicate]
      split <;> rfl
    have no : ∀ {i : Nat}, (Array.replicate 33 false).getD i false = true → False := fun h => by rw [hf] at h; cases h
    exact ⟨rfl, rfl, rfl, (Below.refl w.heap.size w).drew, fun k _ h => (no h).elim, ⟨fun _ => 0, fun k _ h => (no h).elim, fun j k _ _ h => (no h).elim, fun h => (no h).elim⟩, fun k _ h => (no h).elim, fun h => (no h).elim, fun h => (no h).elim⟩

end Go.Proofs.YtdckjhobikfggaaDoor

namespace Go.Proofs.YtdckjhobikfggaaDoor
open Go.RowKit

theorem PlacesAt.move {w w' : World} {C mb : Nat} (h : PlacesAt w C mb) (hk : ∀ i, C ≤ i → i < w.heap.size → w'.heap[i]? = w.heap[i]?) : PlacesAt w' C mb := by
  obtain ⟨blk, h1, h2, hC, es, h3, h4⟩ := h
  exact ⟨blk, fun k hk10 => ⟨(h1 k hk10).1, (hk _ (h1 k hk10).1 (Array.getElem?_eq_some_iff.1 (h1 k hk10).2).1).trans (h1 k hk10).2⟩, h2, hC, es, (hk _ hC (Array.getElem?_eq_some_iff.1 h3).1).trans h3, h4⟩
theorem PlacesAt.keep {w w' : World} {C mb : Nat} (h : PlacesAt w C mb) (b : Below w.heap.size w w') : PlacesAt w' C mb := h.move fun i _ hi => b.block i hi
theorem PlacesAt.only {w w' : World} {C mb b : Nat} (h : PlacesAt w C mb) (o : Only b w w') (hb : b < C) : PlacesAt w' C mb := h.move fun i hi hl => o.2 i (by omega) hl
theorem PlacesAt.low {w : World} {C C' mb : Nat} (h : PlacesAt w C mb) (hC : C' ≤ C) : PlacesAt w C' mb := by
  obtain ⟨blk, h1, h2, h3, h4⟩ := h
  exact ⟨blk, fun k hk => ⟨Nat.le_trans hC (h1 k hk).1, (h1 k hk).2⟩, h2, Nat.le_trans hC h3, h4⟩

/-- The number of a profile's register among the places; 10 of none. -/
def plNo (n a : Int) : Nat := if n = 1 ∧ a = 0 then 0 else if n = 2 ∧ a = 0 then 1 else if n = 2 ∧ a = 2 then 2 else if n = 3 ∧ a = 0 then 3 else if n = 3 ∧ a = 1 then 4 else if n = 4 ∧ a = 0 then 5 else if n = 4 ∧ a = 1 then 6 else if n = 4 ∧ a = 2 then 7 else if n = 5 ∧ a = 0 then 8 else if n = 5 ∧ a = 1 then 9 else 10
theorem plNo_spec {n a : Int} (hn : proB n = true) (a0 : 0 ≤ a) (a3 : a ≤ 3) : (plNo n a < 10 ∧ plKey (plNo n a) = (n, a) ∧ plList (plNo n a) = prSets n a) ∨ ((∀ k, k < 10 → plKey k ≠ (n, a)) ∧ prSets n a = []) := by
  rcases pro_cases hn with rfl | rfl | rfl | rfl | rfl <;> rcases (show a = 0 ∨ a = 1 ∨ a = 2 ∨ a = 3 by omega) with rfl | rfl | rfl | rfl <;> decide +kernel
theorem plList_few : ∀ k, (plList k).length ≤ 6 := by
  intro k
  by_cases h : k < 10
  · exact (show ∀ k, k < 10 → (plList k).length ≤ 6 by decide +kernel) k h
  · have : plList k = [] := by
      unfold plList
      rw [List.getD_eq_getElem?_getD, List.getElem?_eq_none (by simp [plLists]; omega)]
      rfl
    rw [this]
    decide
theorem own_row {w : World} {C b k : Nat} (hC : C ≤ b) (h : w.heap[b]? = some (plC k)) : Own .i64 3 w C (plSl b k) (plList k) := by
  refine ⟨by simp, .inr ⟨b, (plList k).length, _, rfl, hC, h, Nat.le_refl _, ?_, by simp, List.take_of_length_le (by simp)⟩⟩
  have := plList_few k
  unfold maxLen
  omega

/-- The value of a register's sets: a row of the map's own, or nil. -/
theorem PlacesAt.look {w : World} {C mb : Nat} (h : PlacesAt w C mb) {n a : Int} (hn : proB n = true) (a0 : 0 ≤ a) (a3 : a ≤ 3) : ∃ s l c, (∀ q, (Instr.lookup 114 (.map (some mb)) (.agg #[.int .i64 n, .int .i64 a]) false).run Tryd.prog (w.drewN q) = .ok (.slice s l c) (w.drewN q)) ∧ Own .i64 3 w C (.slice s l c) (prSets n a) := by
  obtain ⟨blk, h1, h2, hC, es, h3, h4, h5⟩ := h
  have hl := fun q => lookup_place (w := w.drewN q) n a h3
  rcases plNo_spec hn a0 a3 with ⟨k1, k2, k3⟩ | ⟨k1, k2⟩
  · obtain ⟨i, hi⟩ := (h4 _ k1).1 rfl
    rw [k2] at hi
    rw [hi] at hl
    refine ⟨_, _, _, hl, ?_⟩
    rw [← k3]
    exact own_row (h1 _ k1).1 (h1 _ k1).2
  · rw [h5 n a k1] at hl
    refine ⟨_, _, _, hl, ?_⟩
    rw [k2]
    exact Own.nil _ _ _ _

/-- A guide with its map, made or not yet. -/
def GuOK (w : World) (g : Nat) (n : Int) (C : Nat) : Prop := ∃ m, GuAt w g n m ∧ (m = .map none ∨ ∃ mb, m = .map (some mb) ∧ PlacesAt w C mb)
theorem GuOK.keep {w w' : World} {g C : Nat} {n : Int} (h : GuOK w g n C) (b : Below w.heap.size w w') : GuOK w' g n C := by
  obtain ⟨m, h1, h2⟩ := h
  refine ⟨m, h1.keep b, h2.imp id ?_⟩
  rintro ⟨mb, h3, h4⟩
  exact ⟨mb, h3, h4.keep b⟩
theorem GuOK.only {w w' : World} {g C b : Nat} {n : Int} (h : GuOK w g n C) (o : Only b w w') (hb : b < C) (hg : g ≠ b) : GuOK w' g n C := by
  obtain ⟨m, h1, h2⟩ := h
  refine ⟨m, (o.2 g hg h1.lt).trans h1, h2.imp id ?_⟩
  rintro ⟨mb, h3, h4⟩
  exact ⟨mb, h3, h4.only o hb⟩
theorem GuAt.put {w : World} {g : Nat} {n : Int} {m : Value} (h : GuAt w g n m) (m' : Value) : GuAt (w.setCell ⟨g, 9, none⟩ m') g n m' := heap_setCell_same _ _ 9 _ _ m' h

def SfDone (n a : Int) (g C : Nat) (w : World) (e : Ending) (w' : World) : Prop := ∃ s l c mb, e = .returned (.slice s l c) ∧ GuAt w' g n (.map (some mb)) ∧ PlacesAt w' C mb ∧ Own .i64 3 w' C (.slice s l c) (prSets n a) ∧ Only g w w'

set_option maxHeartbeats 1000000 in
theorem impl_setsFor (n : Int) (a : Int) (g C : Nat) (w : World) (h : GuOK w g n C) (hg : g < C) (hC : C ≤ w.heap.size) (hn : proB n = true) (a0 : 0 ≤ a) (a3 : a ≤ 3) : Calls Tryd.prog 124 #[.pointer (some ⟨g, 0, none⟩), .int .i64 a] w (SfDone n a g C w) := by
  obtain ⟨m, hm, h2⟩ := h
  have q1 : ∀ (x y : Operand) (m : Option Nat) (w : World), (eqGuard .eql 114 x y (.map m) (.map none)).run Tryd.prog w = .ok () w := fun _ _ _ _ => by kernel_rfl
  have q2 : ∀ (w : World), (binOp .eql 114 (.map none) (.map none)).run Tryd.prog w = .ok (.bool true) w := fun _ => by kernel_rfl
  have q3 : ∀ (mb : Nat) (w : World), (binOp .eql 114 (.map (some mb)) (.map none)).run Tryd.prog w = .ok (.bool false) w := fun _ _ => by kernel_rfl
  rcases h2 with rfl | ⟨mb, rfl, hp⟩
  · have HS := Lib.hid (fun w => impl_setsOfPlaces w)
    have HM := Lib.hid hm
    have ⟨c0, c1, c2, c3, c4, c5, c6, c7, c8, c9⟩ := row10_cells hm
    clear c1 c2 c3 c4 c5 c6 c7 c8 hm
    go_enter Tryd.func124, Tryd.ntmps124
    go_wp2_with fail
    refine (HS.out _).mono ?_
    rintro e w1 ⟨mb, rfl, hp, b1⟩
    have HM1 := Lib.hid (HM.out.keep b1)
    have ⟨d0, d1, d2, d3, d4, d5, d6, d7, d8, d9⟩ := row10_cells HM1.out
    have ⟨_, _, _, _, _, _, _, _, _, f9⟩ := row10_thaw HM1.out
    have HM2 := Lib.hid (HM1.out.put (.map (some mb)))
    have hgl : g < w1.heap.size := HM1.out.lt
    have O2 : Hid (Only g w (w1.setCell ⟨g, 9, none⟩ (.map (some mb)))) := Lib.hid ((only_below HM.out.lt b1).trans (Only.set g 9 w1 _))
    have HP2 : Hid (PlacesAt (w1.setCell ⟨g, 9, none⟩ (.map (some mb))) C mb) := Lib.hid ((hp.low hC).only (Only.set g 9 w1 _) hg)
    obtain ⟨s, l, c, hl, ho⟩ := HP2.out.look hn a0 a3
    have HL := Lib.hid (fun q => show SfDone n a g C w (.returned (.slice s l c)) ((w1.setCell ⟨g, 9, none⟩ (.map (some mb))).drewN q) from ⟨s, l, c, mb, rfl, HM2.out, HP2.out.move (fun _ _ _ => rfl), ho, O2.out.drewN q⟩)
    clear d1 d2 d3 d4 d5 d6 d7 d8 b1 hp ho c0 c9
    have ⟨x0, x1, x2, x3, x4, x5, x6, x7, x8, x9⟩ := row10_cells HM2.out
    clear x1 x2 x3 x4 x5 x6 x7 x8
    go_wp2
    generalize w1.setCell ⟨g, 9, none⟩ (.map (some mb)) = W2 at *
    go_quiet (fail)
    go_wp2
    go_ret
    exact HL.out _
  · obtain ⟨s, l, c, hl, ho⟩ := hp.look hn a0 a3
    have HL := Lib.hid (fun q => show SfDone n a g C w (.returned (.slice s l c)) (w.drewN q) from ⟨s, l, c, mb, rfl, hm, hp.move (fun _ _ _ => rfl), ho, (Only.refl _ _).drewN q⟩)
    have ⟨c0, c1, c2, c3, c4, c5, c6, c7, c8, c9⟩ := row10_cells hm
    clear c1 c2 c3 c4 c5 c6 c7 c8 hp ho hm
    go_enter Tryd.func124, Tryd.ntmps124
    go_wp2_with fail
    go_quiet (fail)
    go_wp2
    go_ret
    exact HL.out _

/-- A set is no set 0. -/
theorem prSets_pos (n a : Int) : hasB (prSets n a) 0 = false := by
  unfold prSets prSet0 prSet1 prSet2
  repeat' split
  all_goals rfl
theorem allow7_bad {n a b c p m : Int} (h : fsC b c ≠ 0) (hb : 1 ≤ b) (hb3 : b ≤ 3) : allowB n ⟨7, a, b, c, p, m⟩ = false := by
  have hf : findNo b c = 0 := by
    unfold fsC at h
    rw [if_pos (by simp [inB]; omega)] at h
    by_cases h0 : findNo b c = 0
    · exact h0
    · rw [if_neg h0] at h
      exact absurd rfl h
  have := prSets_pos n a
  unfold hasB at this
  simp only [allowB, hf]
  exact this
theorem allow7_ok {n a b c p m : Int} : allowB n ⟨7, a, b, c, p, m⟩ = hasB (prSets n a) (findNo b c) := by simp only [allowB, hasB]; rfl

/-- What the guide's methods that may make its map leave. -/
def GaDone (q : Bool) (g : Nat) (n : Int) (C : Nat) (w : World) (e : Ending) (w' : World) : Prop := e = .returned (.bool q) ∧ GuOK w' g n C ∧ Only g w w'

end Go.Proofs.YtdckjhobikfggaaDoor

namespace Go.Proofs.YtdckjhobikfggaaDoor
open Go.RowKit

/-- The token, without its place, of a byte other than ESC. -/
def byteTok (b : Int) : Tok :=
  if b = 15 then ⟨5, 0, 0, 0, 0, 0⟩ else if b = 14 then ⟨5, 1, 0, 0, 0, 0⟩ else if b = 142 then ⟨6, 2, 0, 0, 0, 0⟩ else if b = 143 then ⟨6, 3, 0, 0, 0, 0⟩
  else if b = 32 then ⟨2, 0, 0, 0, 0, 0⟩ else if 33 ≤ b ∧ b ≤ 126 then ⟨3, b, 0, 0, 0, 0⟩ else if 160 ≤ b then ⟨4, b - 128, 0, 0, 0, 0⟩ else ⟨1, b, 0, 0, 0, 0⟩

set_option maxHeartbeats 2000000 in
theorem impl_byteToken (b : Int) (w : World) (h0 : 0 ≤ b) (h1 : b ≤ 65536) : Calls Tryd.prog 138 #[.int .i64 b] w (TokDone (byteTok b) w) := by
  by_cases c1 : b = 15
  · subst c1
    go_enter Tryd.func138, Tryd.ntmps138
    go_wp2
    exact tok_ret (y := ⟨5, 0, 0, 0, 0, 0⟩) rfl rfl rfl (heap_alloc_new _ _) Tryd.underlying155 rfl (by kernel_rfl) rfl (below_one _ _)
  by_cases c2 : b = 14
  · subst c2
    clear c1
    go_enter Tryd.func138, Tryd.ntmps138
    go_wp2
    exact tok_ret (y := ⟨5, 1, 0, 0, 0, 0⟩) rfl rfl rfl (heap_alloc_new _ _) Tryd.underlying155 rfl (by kernel_rfl) rfl (below_one _ _)
  by_cases c3 : b = 142
  · subst c3
    clear c1 c2
    go_enter Tryd.func138, Tryd.ntmps138
    go_wp2
    exact tok_ret (y := ⟨6, 2, 0, 0, 0, 0⟩) rfl rfl rfl (heap_alloc_new _ _) Tryd.underlying155 rfl (by kernel_rfl) rfl (below_one _ _)
  by_cases c4 : b = 143
  · subst c4
    clear c1 c2 c3
    go_enter Tryd.func138, Tryd.ntmps138
    go_wp2
    exact tok_ret (y := ⟨6, 3, 0, 0, 0, 0⟩) rfl rfl rfl (heap_alloc_new _ _) Tryd.underlying155 rfl (by kernel_rfl) rfl (below_one _ _)
  by_cases c5 : b = 32
  · subst c5
    clear c1 c2 c3 c4
    go_enter Tryd.func138, Tryd.ntmps138
    go_wp2
    exact tok_ret (y := ⟨2, 0, 0, 0, 0, 0⟩) rfl rfl rfl (heap_alloc_new _ _) Tryd.underlying155 rfl (by kernel_rfl) rfl (below_one _ _)
  have e1 : (b == 15) = false := by rw [beq_eq_false_iff_ne]; exact c1
  have e2 : (b == 14) = false := by rw [beq_eq_false_iff_ne]; exact c2
  have e3 : (b == 142) = false := by rw [beq_eq_false_iff_ne]; exact c3
  have e4 : (b == 143) = false := by rw [beq_eq_false_iff_ne]; exact c4
  have e5 : (b == 32) = false := by rw [beq_eq_false_iff_ne]; exact c5
  by_cases c6 : 33 ≤ b
  · by_cases c7 : b ≤ 126
    · have HE : Hid (byteTok b = ⟨3, b, 0, 0, 0, 0⟩) := Lib.hid (by rw [byteTok, if_neg c1, if_neg c2, if_neg c3, if_neg c4, if_neg c5, if_pos ⟨c6, c7⟩])
      clear c1 c2 c3 c4 c5
      go_enter Tryd.func138, Tryd.ntmps138
      go_wp2
      exact tok_ret HE.out rfl rfl (heap_alloc_new _ _) Tryd.underlying155 rfl (by kernel_rfl) rfl (below_one _ _)
    · have c8 : 126 < b := by omega
      by_cases c9 : 160 ≤ b
      · have HE : Hid (byteTok b = ⟨4, b - 128, 0, 0, 0, 0⟩) := Lib.hid (by rw [byteTok, if_neg c1, if_neg c2, if_neg c3, if_neg c4, if_neg c5, if_neg (by omega), if_pos c9])
        have u1 : IntKind.i64.wrap (b - 128) = b - 128 := IntWalk.i64_in _ (by omega)
        clear c1 c2 c3 c4 c5 c7
        go_enter Tryd.func138, Tryd.ntmps138
        go_wp2
        exact tok_ret HE.out rfl rfl (heap_alloc_new _ _) Tryd.underlying155 rfl (by kernel_rfl) rfl (below_one _ _)
      · have HE : Hid (byteTok b = ⟨1, b, 0, 0, 0, 0⟩) := Lib.hid (by rw [byteTok, if_neg c1, if_neg c2, if_neg c3, if_neg c4, if_neg c5, if_neg (by omega), if_neg c9])
        have c10 : b < 160 := by omega
        clear c1 c2 c3 c4 c5 c7 c9
        go_enter Tryd.func138, Tryd.ntmps138
        go_wp2
        exact tok_ret HE.out rfl rfl (heap_alloc_new _ _) Tryd.underlying155 rfl (by kernel_rfl) rfl (below_one _ _)
  · have HE : Hid (byteTok b = ⟨1, b, 0, 0, 0, 0⟩) := Lib.hid (by rw [byteTok, if_neg c1, if_neg c2, if_neg c3, if_neg c4, if_neg c5, if_neg (by omega), if_neg (by omega)])
    have c10 : b < 33 := by omega
    clear c1 c2 c3 c4 c5 c6
    go_enter Tryd.func138, Tryd.ntmps138
    go_wp2
    exact tok_ret HE.out rfl rfl (heap_alloc_new _ _) Tryd.underlying155 rfl (by kernel_rfl) rfl (below_one _ _)

end Go.Proofs.YtdckjhobikfggaaDoor

namespace Go.Proofs.YtdckjhobikfggaaDoor
open Go.RowKit

theorem tokField0 (y : Tok) (w : World) : (Instr.field 155 (.agg #[.int .i64 y.k, .int .i64 y.a, .int .i64 y.b, .int .i64 y.c, .int .i64 y.p, .int .i64 y.n]) 0).run Tryd.prog w = .ok (.int .i64 y.k) w := by kernel_rfl

def ctlB (a : Int) : Bool := decide (0 ≤ a) && decide (a < 160) && decide (a ≠ 27) && decide ((byteTok a).k = 1)
theorem ctlB_iff (a : Int) : ctlB a = true ↔ ((0 ≤ a ∧ a ≤ 13) ∨ (16 ≤ a ∧ a ≤ 31 ∧ a ≠ 27) ∨ a = 127 ∨ (128 ≤ a ∧ a ≤ 159 ∧ a ≠ 142 ∧ a ≠ 143)) := by
  simp only [ctlB, Bool.and_eq_true, decide_eq_true_eq]
  unfold byteTok
  repeat' split
  all_goals dsimp only
  all_goals omega

set_option maxHeartbeats 1000000 in
theorem impl_isControl (a : Int) (w : World) : Calls Tryd.prog 140 #[.int .i64 a] w fun e w' => e = .returned (.bool (ctlB a)) ∧ Below w.heap.size w w' := by
  by_cases h0 : a < 0
  · have HE : Hid (ctlB a = false) := Lib.hid (by simp [ctlB]; omega)
    go_enter Tryd.func140, Tryd.ntmps140
    go_wp2
    go_ret
    exact ⟨ret_bool HE.out.symm, Below.refl _ _⟩
  have h0' : 0 ≤ a := by omega
  by_cases h1 : 160 ≤ a
  · have HE : Hid (ctlB a = false) := Lib.hid (by simp [ctlB]; omega)
    clear h0
    go_enter Tryd.func140, Tryd.ntmps140
    go_wp2
    go_ret
    exact ⟨ret_bool HE.out.symm, Below.refl _ _⟩
  have h1' : a < 160 := by omega
  by_cases h2 : a = 27
  · subst h2
    clear h0 h1 h0' h1'
    go_enter Tryd.func140, Tryd.ntmps140
    go_wp2
    go_ret
    exact ⟨ret_bool (by decide), Below.refl _ _⟩
  have HE : Hid (ctlB a = ((byteTok a).k == 1)) := Lib.hid (by
    have q0 : decide (0 ≤ a) = true := by simpa using h0'
    have q1 : decide (a < 160) = true := by simpa using h1'
    have q2 : decide (a ≠ 27) = true := by simpa using h2
    rw [ctlB, q0, q1, q2]
    rfl)
  have e2 : (a != 27) = true := by simpa using h2
  have HF := Lib.hid (tokField0 (byteTok a))
  clear h0 h1 h2
  generalize hy : byteTok a = y at *
  have HY := Lib.hid hy
  clear hy
  have fy := HF.out
  go_enter Tryd.func140, Tryd.ntmps140
  go_wp2_with fail
  refine (impl_byteToken a w h0' (by omega)).mono ?_
  rintro e w1 ⟨rfl, b1⟩
  rw [HY.out]
  unfold tokV
  go_wp2
  go_ret
  exact ⟨ret_bool HE.out.symm, b1⟩

def valB (k a : Int) : Bool :=
  if k = 1 then ctlB a else if k = 3 then inB a 33 126 else if k = 4 then inB a 32 127 else if k = 5 then inB a 0 3 else if k = 6 then decide (a = 2 ∨ a = 3)
  else if k = 2 ∨ k = 8 ∨ k = 9 then decide (a = 0) else false

def fldB (x : Tok) : Bool := if x.k = 7 then inB x.b 1 3 && (regB x.b x.a && (decide (64 ≤ x.c) && decide (x.c ≤ 126))) else valB x.k x.a && (decide (x.b = 0) && decide (x.c = 0))

def lenB (x : Tok) : Bool :=
  if x.k = 5 ∧ 2 ≤ x.a then decide (x.n = 2) else if x.k = 6 then decide (x.n = 1 ∨ x.n = 2) else if x.k = 7 then decide (x.n = 3 ∨ x.n = 4) else if x.k = 8 ∨ x.k = 9 then decide (1 ≤ x.n) && decide (x.n ≤ 65536) else decide (x.n = 1)

def tokOKI (x : Tok) : Bool := decide (0 ≤ x.p) && (decide (x.p ≤ 65536) && (fldB x && lenB x))
theorem regB_iff (kd g : Int) : regB kd g = true ↔ (0 ≤ g ∧ g ≤ 3) ∧ ¬ (kd = 2 ∧ g = 0) := by
  unfold regB inB
  rw [Bool.and_eq_true, Bool.and_eq_true, decide_eq_true_eq, decide_eq_true_eq, Bool.not_eq_true', Bool.and_eq_false_iff, decide_eq_false_iff_not, decide_eq_false_iff_not]
  omega
theorem okI1 (a b c p n : Int) : tokOKI ⟨1, a, b, c, p, n⟩ = true ↔ tokOKP ⟨1, a, b, c, p, n⟩ := by
  show (decide (0 ≤ p) && (decide (p ≤ 65536) && ((ctlB a && (decide (b = 0) && decide (c = 0))) && decide (n = 1)))) = true ↔ _
  unfold tokOKP
  simp only [Bool.and_eq_true, decide_eq_true_eq, ctlB_iff, Int.reduceEq, false_and, true_and, or_false]
  omega
theorem okI2 (a b c p n : Int) : tokOKI ⟨2, a, b, c, p, n⟩ = true ↔ tokOKP ⟨2, a, b, c, p, n⟩ := by
  show (decide (0 ≤ p) && (decide (p ≤ 65536) && ((decide (a = 0) && (decide (b = 0) && decide (c = 0))) && decide (n = 1)))) = true ↔ _
  unfold tokOKP
  simp only [Bool.and_eq_true, decide_eq_true_eq, Int.reduceEq, false_and, true_and, false_or, or_false]
  omega
theorem okI3 (a b c p n : Int) : tokOKI ⟨3, a, b, c, p, n⟩ = true ↔ tokOKP ⟨3, a, b, c, p, n⟩ := by
  show (decide (0 ≤ p) && (decide (p ≤ 65536) && ((inB a 33 126 && (decide (b = 0) && decide (c = 0))) && decide (n = 1)))) = true ↔ _
  unfold tokOKP
  simp only [Bool.and_eq_true, decide_eq_true_eq, inB, Int.reduceEq, false_and, true_and, false_or, or_false]
  omega
theorem okI4 (a b c p n : Int) : tokOKI ⟨4, a, b, c, p, n⟩ = true ↔ tokOKP ⟨4, a, b, c, p, n⟩ := by
  show (decide (0 ≤ p) && (decide (p ≤ 65536) && ((inB a 32 127 && (decide (b = 0) && decide (c = 0))) && decide (n = 1)))) = true ↔ _
  unfold tokOKP
  simp only [Bool.and_eq_true, decide_eq_true_eq, inB, Int.reduceEq, false_and, true_and, false_or, or_false]
  omega
theorem okI6 (a b c p n : Int) : tokOKI ⟨6, a, b, c, p, n⟩ = true ↔ tokOKP ⟨6, a, b, c, p, n⟩ := by
  show (decide (0 ≤ p) && (decide (p ≤ 65536) && ((decide (a = 2 ∨ a = 3) && (decide (b = 0) && decide (c = 0))) && decide (n = 1 ∨ n = 2)))) = true ↔ _
  unfold tokOKP
  simp only [Bool.and_eq_true, decide_eq_true_eq, Int.reduceEq, false_and, true_and, false_or, or_false]
  omega
theorem okI7 (a b c p n : Int) : tokOKI ⟨7, a, b, c, p, n⟩ = true ↔ tokOKP ⟨7, a, b, c, p, n⟩ := by
  show (decide (0 ≤ p) && (decide (p ≤ 65536) && ((inB b 1 3 && (regB b a && (decide (64 ≤ c) && decide (c ≤ 126)))) && decide (n = 3 ∨ n = 4)))) = true ↔ _
  unfold tokOKP
  simp only [Bool.and_eq_true, decide_eq_true_eq, inB, regB_iff, Int.reduceEq, false_and, true_and, false_or, or_false]
  omega
theorem okI8 (a b c p n : Int) : tokOKI ⟨8, a, b, c, p, n⟩ = true ↔ tokOKP ⟨8, a, b, c, p, n⟩ := by
  show (decide (0 ≤ p) && (decide (p ≤ 65536) && ((decide (a = 0) && (decide (b = 0) && decide (c = 0))) && (decide (1 ≤ n) && decide (n ≤ 65536))))) = true ↔ _
  unfold tokOKP
  simp only [Bool.and_eq_true, decide_eq_true_eq, Int.reduceEq, false_and, true_and, false_or, or_false]
  omega
theorem okI9 (a b c p n : Int) : tokOKI ⟨9, a, b, c, p, n⟩ = true ↔ tokOKP ⟨9, a, b, c, p, n⟩ := by
  show (decide (0 ≤ p) && (decide (p ≤ 65536) && ((decide (a = 0) && (decide (b = 0) && decide (c = 0))) && (decide (1 ≤ n) && decide (n ≤ 65536))))) = true ↔ _
  unfold tokOKP
  simp only [Bool.and_eq_true, decide_eq_true_eq, Int.reduceEq, false_and, true_and, false_or]
  omega
theorem okI5 (a b c p n : Int) : tokOKI ⟨5, a, b, c, p, n⟩ = true ↔ tokOKP ⟨5, a, b, c, p, n⟩ := by
  by_cases a2 : 2 ≤ a
  · have hl : lenB ⟨5, a, b, c, p, n⟩ = decide (n = 2) := by rw [lenB, if_pos ⟨rfl, a2⟩]
    show (decide (0 ≤ p) && (decide (p ≤ 65536) && ((inB a 0 3 && (decide (b = 0) && decide (c = 0))) && lenB ⟨5, a, b, c, p, n⟩))) = true ↔ _
    rw [hl]
    unfold tokOKP
    simp only [Bool.and_eq_true, decide_eq_true_eq, inB, Int.reduceEq, false_and, true_and, false_or, or_false]
    omega
  · have hl : lenB ⟨5, a, b, c, p, n⟩ = decide (n = 1) := by rw [lenB, if_neg (fun h => a2 h.2)]; rfl
    show (decide (0 ≤ p) && (decide (p ≤ 65536) && ((inB a 0 3 && (decide (b = 0) && decide (c = 0))) && lenB ⟨5, a, b, c, p, n⟩))) = true ↔ _
    rw [hl]
    unfold tokOKP
    simp only [Bool.and_eq_true, decide_eq_true_eq, inB, Int.reduceEq, false_and, true_and, false_or, or_false]
    omega
theorem tokOKI_eq (x : Tok) : tokOKI x = tokOKB x := by
  refine tokOKB_of ?_
  obtain ⟨k, a, b, c, p, n⟩ := x
  by_cases hk : k < 1 ∨ 9 < k
  · have h1 : valB k a = false := by
      rw [valB, if_neg (by omega), if_neg (by omega), if_neg (by omega), if_neg (by omega), if_neg (by omega), if_neg (by omega)]
    have h2 : fldB ⟨k, a, b, c, p, n⟩ = false := by
      rw [fldB, if_neg (by dsimp only; omega)]
      dsimp only
      rw [h1]
      rfl
    unfold tokOKI
    rw [h2]
    unfold tokOKP
    constructor
    · intro h; simp at h
    · intro h; exfalso; dsimp only at h; omega
  · have : k = 1 ∨ k = 2 ∨ k = 3 ∨ k = 4 ∨ k = 5 ∨ k = 6 ∨ k = 7 ∨ k = 8 ∨ k = 9 := by omega
    rcases this with rfl | rfl | rfl | rfl | rfl | rfl | rfl | rfl | rfl
    · exact okI1 a b c p n
    · exact okI2 a b c p n
    · exact okI3 a b c p n
    · exact okI4 a b c p n
    · exact okI5 a b c p n
    · exact okI6 a b c p n
    · exact okI7 a b c p n
    · exact okI8 a b c p n
    · exact okI9 a b c p n

end Go.Proofs.YtdckjhobikfggaaDoor

namespace Go.Proofs.YtdckjhobikfggaaDoor
open Go.RowKit

def ownI (r : Int) : Bool := (r == 32) || (decide (r < 128) && ctlB r)
theorem ownI_iff {r : Int} (h : okB r = true) : ownI r = (ownR r && (decide (r ≠ 14) && (decide (r ≠ 15) && decide (r ≠ 27)))) := by
  have ⟨h0, _, _⟩ := okB_true h
  have hc := ctlB_iff r
  rw [Bool.eq_iff_iff]
  simp only [ownI, ownR, Bool.or_eq_true, Bool.and_eq_true, decide_eq_true_eq, beq_iff_eq, hc]
  omega

theorem impl_isOwnByte (r : Int) (w : World) : Calls Tryd.prog 123 #[.int .i64 r] w fun e w' => e = .returned (.bool (ownI r)) ∧ Below w.heap.size w w' := by
  by_cases h32 : r = 32
  · have HE : Hid (ownI r = true) := Lib.hid (by simp [ownI, h32])
    have e32 : (r == 32) = true := by simp [h32]
    clear h32
    go_enter Tryd.func123, Tryd.ntmps123
    go_wp2
    go_ret
    exact ⟨ret_bool HE.out.symm, Below.refl _ _⟩
  have e32 : (r == 32) = false := by simp [h32]
  by_cases h128 : r < 128
  · have HE : Hid (ownI r = ctlB r) := Lib.hid (by simp [ownI, h32, h128])
    have e128 : decide (r < 128) = true := by simp [h128]
    clear h32 h128
    go_enter Tryd.func123, Tryd.ntmps123
    go_wp2_with fail
    refine (impl_isControl r _).mono ?_
    rintro e w1 ⟨rfl, b1⟩
    generalize ctlB r = q at *
    go_wp2
    go_ret
    exact ⟨ret_bool HE.out.symm, b1⟩
  · have HE : Hid (ownI r = false) := Lib.hid (by simp [ownI, h32, h128])
    have e128 : decide (r < 128) = false := by simp [h128]
    clear h32 h128
    go_enter Tryd.func123, Tryd.ntmps123
    go_wp2
    go_ret
    exact ⟨ret_bool HE.out.symm, Below.refl _ _⟩

theorem codeS_none (q r : Int) (h : r = 14 ∨ r = 15 ∨ r = 27) : codeS (setSpans q) r = 0 := by
  unfold setSpans
  repeat' split
  all_goals rcases h with rfl | rfl | rfl <;> rfl
theorem canG_none (g r : Int) (h : r = 14 ∨ r = 15 ∨ r = 27) (qs : List Int) : canG g r qs = false := by
  unfold canG
  rw [List.any_eq_false]
  intro q _
  simp [codeS_none q r h]
/-- What the program asks. -/
theorem canB_own {n r : Int} (hr : okB r = true) (h : ownI r = true) : canB n r = true := by
  rw [ownI_iff hr, Bool.and_eq_true] at h
  unfold canB
  rw [if_pos h.1]
  exact h.2
theorem canB_other {n r : Int} (hr : okB r = true) (h : ownI r = false) (b : Bool) (hb : (canG 0 r (prSet0 n) || (canG 1 r (prSet1 n) || canG 2 r (prSet2 n))) = b) : canB n r = b := by
  unfold canB
  split
  · next ho =>
    rw [ownI_iff hr, ho, Bool.true_and] at h
    have hx : r = 14 ∨ r = 15 ∨ r = 27 := by
      simp only [Bool.and_eq_false_iff, decide_eq_false_iff_not, Decidable.not_not] at h
      exact h
    rw [canG_none 0 r hx, canG_none 1 r hx, canG_none 2 r hx] at hb
    rw [h, ← hb]
    rfl
  · exact hb
theorem canI_yes {n r : Int} {g : Nat} (hr : okB r = true) (ho : ownI r = false) (hg : g < 4) (h : canG g r (prSets n g) = true) : canB n r = true := by
  refine canB_other hr ho true ?_
  rcases (show g = 0 ∨ g = 1 ∨ g = 2 ∨ g = 3 by omega) with rfl | rfl | rfl | rfl
  · simp [show canG 0 r (prSet0 n) = true from h]
  · simp [show canG 1 r (prSet1 n) = true from h]
  · simp [show canG 2 r (prSet2 n) = true from h]
  · simp [canG, prSets] at h
theorem canI_no {n r : Int} (hr : okB r = true) (ho : ownI r = false) (h : ∀ g : Nat, g < 4 → canG g r (prSets n g) = false) : canB n r = false := by
  refine canB_other hr ho false ?_
  simp [show canG 0 r (prSet0 n) = false from h 0 (by decide), show canG 1 r (prSet1 n) = false from h 1 (by decide), show canG 2 r (prSet2 n) = false from h 2 (by decide)]
/-- A world that comes of a first one with the table, a block g made since being written. -/
theorem TabSets.since {w0 w w' : World} {g : Nat} (ht : TabSets w0) (b0 : Below w0.heap.size w0 w) (hg : w0.heap.size ≤ g) (o : Only g w w') : TabSets w' := ht.keep (b0.trans (o.1.mono hg))
theorem cf_none {q r : Int} (h : setB q = true) (hc : codeS (setSpans q) r = 0) : cfV q r = .tuple #[.int .i64 0, .int .i64 12] := cfV_bad q r 12 (by simp [cfC, h, hc]) (by decide)
theorem cf_some {q r : Int} (h : setB q = true) (hc : 0 < codeS (setSpans q) r) : cfV q r = .tuple #[.int .i64 (codeS (setSpans q) r), .int .i64 0] := cfV_ok q r (by simp [cfC, h]; omega)
theorem set_mem {n : Int} {k j : Nat} (hj : j < (prSets n k).length) (_hk : k < 4) : setB ((prSets n k).getD j 0) = true := by
  have hm : (prSets n k).getD j 0 ∈ prSets n k := by simp [List.getD, List.getElem?_eq_getElem hj]
  revert hm
  generalize (prSets n k).getD j 0 = q
  unfold prSets prSet0 prSet1 prSet2
  repeat' split
  all_goals (intro hm; first | (cases hm; done) | (simp only [List.mem_cons, List.not_mem_nil, or_false] at hm; rcases hm with rfl | rfl | rfl | rfl | rfl | rfl <;> decide))
theorem codeS_pos (q r : Int) : 0 ≤ codeS (setSpans q) r := by
  have : ∀ sp : List Sp, (∀ s ∈ sp, smallSp s) → 0 ≤ codeS sp r := by
    intro sp
    induction sp with
    | nil => intro _; simp [codeS]
    | cons s t ih =>
      intro h
      unfold codeS
      split
      · next hb =>
        have := inB_true hb
        have ⟨⟨a1, a2⟩, ⟨a3, a4⟩, a5, a6⟩ := h s (by simp)
        omega
      · exact ih fun x hx => h x (List.mem_cons_of_mem _ hx)
  exact this _ (set_small q)

/-- The characters of a span are characters. -/
def okSp (s : Sp) : Prop := 0 ≤ s.2.1 ∧ (s.2.1 + s.2.2 - 1 < 55296 ∨ (57343 < s.2.1 ∧ s.2.1 + s.2.2 - 1 ≤ 1114111))
theorem set_ok (n : Int) : ∀ s ∈ setSpans n, okSp s := by
  unfold setSpans okSp
  repeat' split
  all_goals (intro s hs; simp only [List.mem_cons, List.not_mem_nil, or_false] at hs; rcases hs with rfl | rfl | rfl | rfl <;> decide)
theorem codeS_bad (q : Int) {r : Int} (h : okB r = false) : codeS (setSpans q) r = 0 := by
  have : ∀ sp : List Sp, (∀ s ∈ sp, okSp s) → codeS sp r = 0 := by
    intro sp
    induction sp with
    | nil => intro _; rfl
    | cons s t ih =>
      intro hs
      unfold codeS
      split
      · next hb =>
        have hb := inB_true hb
        have ⟨h1, h2⟩ := hs s (by simp)
        have : okB r = true := by
          rcases h2 with h2 | ⟨h2, h3⟩
          · exact okB_mk (by omega) (by omega) (.inl (by omega))
          · exact okB_mk (by omega) (by omega) (.inr (by omega))
        rw [this] at h; cases h
      · exact ih fun x hx => hs x (List.mem_cons_of_mem _ hx)
  exact this _ (set_ok q)
theorem canG_bad (g : Int) {r : Int} (h : okB r = false) (qs : List Int) : canG g r qs = false := by
  unfold canG
  rw [List.any_eq_false]
  intro q _
  simp [codeS_bad q h]
/-- What the program answers of any number. -/
def canX (n r : Int) : Bool := okB r && canB n r
theorem ownI_ok {r : Int} (h : ownI r = true) : okB r = true := by
  have hc := ctlB_iff r
  simp only [ownI, Bool.or_eq_true, Bool.and_eq_true, decide_eq_true_eq, beq_iff_eq, hc] at h
  exact okB_mk (by omega) (by omega) (.inl (by omega))
theorem canX_own {n r : Int} (h : ownI r = true) : canX n r = true := by
  rw [canX, ownI_ok h, canB_own (ownI_ok h) h]; rfl
theorem canX_yes {n r : Int} {g : Nat} (ho : ownI r = false) (hg : g < 4) (h : canG g r (prSets n g) = true) : canX n r = true := by
  cases hr : okB r
  · rw [canG_bad _ hr] at h; cases h
  · rw [canX, hr, canI_yes hr ho hg h]; rfl
theorem canX_no {n r : Int} (ho : ownI r = false) (h : ∀ g : Nat, g < 4 → canG g r (prSets n g) = false) : canX n r = false := by
  cases hr : okB r
  · rw [canX, hr]; rfl
  · rw [canX, hr, canI_no hr ho h]; rfl

set_option maxHeartbeats 1000000 in
theorem impl_canX (n r : Int) (g C : Nat) (w0 w : World) (h : GuOK w g n C) (hg : g < C) (hC : C ≤ w.heap.size) (ht : TabSets w0) (b0 : Below w0.heap.size w0 w) (hg0 : w0.heap.size ≤ g) (hn : proB n = true) (hr : r ≤ 9223372036854775807) :
    Calls Tryd.prog 94 #[.pointer (some ⟨g, 0, none⟩), .int .i64 r] w (GaDone (canX n r) g n C w) := by
  have HO := Lib.hid (fun w => impl_isOwnByte r w)
  cases ho : ownI r
  · rw [ho] at HO
    have HS := Lib.hid (fun (k : Nat) w h hC (hk : k < 4) => impl_setsFor n k g C w h hg hC hn (by omega) (by omega))
    have HY := Lib.hid (fun (k : Nat) (hk : k < 4) (h : canG k r (prSets n k) = true) => canX_yes (n := n) ho hk h)
    have HNo := Lib.hid (fun (h : ∀ g : Nat, g < 4 → canG g r (prSets n g) = false) => canX_no (n := n) ho h)
    have hr1 := hr
    have HF := Lib.hid (fun q w ht => impl_CodeFor q r w ht hr1)
    have HT := Lib.hid (fun w' (o : Only g w w') => ht.since b0 hg0 o)
    have hgl : g < w.heap.size := by omega
    have HG := Lib.hid h
    clear ho hn hr hr1 ht b0 h
    go_enter Tryd.func94, Tryd.ntmps94
    go_wp2_with fail
    refine (HO.out _).mono ?_
    rintro e w1 ⟨rfl, b1⟩
    have HG1 := Lib.hid (HG.out.keep b1)
    have O1 := Lib.hid (only_below hgl b1)
    have hs1 := b1.size
    clear b1 HG
    go_wp2
    go_loopw [5, 12] (fun _ i wr => ∃ k : Nat, k ≤ 4 ∧ i = .int .i64 k ∧ Hid (∀ g : Nat, g < k → canG g r (prSets n g) = false) ∧ Hid (GuOK wr g n C) ∧ Hid (Only g w wr) ∧ w.heap.size ≤ wr.heap.size) (fun _ i _ => 4 - (intOf i).toNat)
    case atStart => exact ⟨0, by omega, rfl, Lib.hid (fun g hg => absurd hg (by omega)), HG1, O1, hs1⟩
    case round =>
      clear HG1 O1 hs1
      obtain ⟨k, hk, rfl, HC, HGr, HOr, hsr⟩ := hrel
      by_cases hk4 : k < 4
      · have hk4' : (k : Int) < 4 := by omega
        have hk0' : (0 : Int) ≤ (k : Int) := by omega
        go_wp2_with fail
        refine (HS.out k _ HGr.out (by omega) hk4).mono ?_
        rintro e w2 ⟨s, l, c, mb, rfl, hG, hP, hOw, o2⟩
        have HG2 : Hid (GuOK w2 g n C) := Lib.hid ⟨_, hG, .inr ⟨mb, rfl, hP⟩⟩
        have HO2 := Lib.hid (HOr.out.trans o2)
        have hs2 : w.heap.size ≤ w2.heap.size := Nat.le_trans hsr o2.1.size
        have HI := Lib.hid hOw.ints
        obtain ⟨a', c', hv⟩ := hOw.ints.form
        injection hv with e1 e2 e3
        subst e2
        have hfew := prSets_few n k
        have HSet := Lib.hid (fun j hj => set_mem (n := n) (k := k) (j := j) hj hk4)
        clear hG hP hOw o2 HGr HOr hsr e1 e3 a' c' mb
        have HYk := Lib.hid (fun h => HY.out k hk4 h)
        have HNx : Hid (canG k r (prSets n k) = false → ∀ g : Nat, g < k + 1 → canG g r (prSets n g) = false) := Lib.hid (fun h g hg => by
          by_cases hgk : g = k
          · subst hgk; exact h
          · exact HC.out g (by omega))
        have HCk : Hid (∀ j c, j < (prSets n k).length → canG k r ((prSets n k).take j) = false → codeS (setSpans ((prSets n k).getD j 0)) r = c → canG k r ((prSets n k).take (j + 1)) = (decide (0 < c) && (decide ((k : Int) ≠ 2) || decide (c ≠ 127)))) := Lib.hid (fun j c h1 h3 h2 => canG_take k r _ j h1 h3 c h2)
        generalize prSets n k = zs at *
        go_wp2
        go_loopw [7, 8, 9, 19] (fun _ _ _ i wq => ∃ j : Nat, j ≤ zs.length ∧ i = .int .i64 j ∧ Hid (canG k r (zs.take j) = false) ∧ Hid (GuOK wq g n C) ∧ Hid (Only g w wq) ∧ Below w2.heap.size w2 wq) (fun _ _ _ i _ => zs.length - (intOf i).toNat)
        case atStart => exact ⟨0, by omega, rfl, Lib.hid rfl, HG2, HO2, Below.refl _ _⟩
        case round =>
          clear HG2 HO2
          obtain ⟨j, hj, rfl, HJ, HGq, HOq, hq⟩ := hrel
          by_cases hjl : j < zs.length
          · have hjl' : (j : Int) < (zs.length : Int) := by omega
            have hj0' : (0 : Int) ≤ (j : Int) := by omega
            obtain ⟨b, off, rfl, c1⟩ := (HI.out.keep hq).pick j hjl
            have hset := HSet.out j hjl
            have HCj := Lib.hid (fun c => HCk.out j c hjl HJ.out)
            generalize zs.getD j 0 = z at *
            have hz64 := inB_true hset
            have hcs := codeS_pos z r
            go_wp2_with fail
            refine (HF.out z _ (HT.out _ HOq.out)).mono ?_
            rintro e w3 ⟨rfl, b3⟩
            have hgl3 : g < wr.heap.size := Nat.lt_of_lt_of_le hgl HOq.out.1.size
            have HG3 := Lib.hid (HGq.out.keep b3)
            have HO3 := Lib.hid (HOq.out.trans (only_below hgl3 b3))
            have hq3 : Below w2.heap.size w2 w3 := hq.trans (b3.mono hq.size)
            have HCc := Lib.hid (HCj.out _ rfl)
            clear c1 hq b3 HCj HGq HOq
            by_cases hc : codeS (setSpans z) r = 0
            · rw [cf_none hset hc]
              rw [hc] at HCc
              have HN : Hid (canG k r (zs.take (j + 1)) = false) := Lib.hid (by rw [HCc.out]; simp)
              clear hc hcs HCc hset
              go_wp2
              go_roundw
              case rel => exact ⟨j + 1, by omega, by go_num, HN, HG3, HO3, hq3⟩
              case measure => simp [intOf]; omega
            · rw [cf_some hset (by omega)]
              generalize codeS (setSpans z) r = c at *
              by_cases hk2 : k = 2
              · have ek : ((k : Int) != 2) = false := by simp [hk2]
                by_cases hc7 : c = 127
                · have ecc : (c != 127) = false := by simp [hc7]
                  have HN : Hid (canG k r (zs.take (j + 1)) = false) := Lib.hid (by rw [HCc.out]; simp [hk2, hc7])
                  clear hc hk2 hc7 hcs HCc hset
                  go_wp2
                  go_roundw
                  case rel => exact ⟨j + 1, by omega, by go_num, HN, HG3, HO3, hq3⟩
                  case measure => simp [intOf]; omega
                · have ecc : (c != 127) = true := by simp [hc7]
                  have HN : Hid (canX n r = true) := Lib.hid (HYk.out (canG_some (k := j + 1) (by rw [HCc.out]; simp [hc7]; omega)))
                  clear hc hk2 hc7 hcs HCc hset
                  go_wp2
                  go_ret
                  exact ⟨ret_bool HN.out.symm, HG3.out, HO3.out⟩
              · have ek : ((k : Int) != 2) = true := by simp; omega
                have HN : Hid (canX n r = true) := Lib.hid (HYk.out (canG_some (k := j + 1) (by rw [HCc.out]; simp; omega)))
                clear hc hk2 hcs HCc hset
                go_wp2
                go_ret
                exact ⟨ret_bool HN.out.symm, HG3.out, HO3.out⟩
          · have HN : Hid (∀ g : Nat, g < k + 1 → canG g r (prSets n g) = false) := Lib.hid (HNx.out (by
              have := HJ.out
              rw [List.take_of_length_le (by omega)] at this
              exact this))
            have hsq : w.heap.size ≤ wr.heap.size := Nat.le_trans hs2 hq.size
            go_wp2
            go_roundw
            case rel => exact ⟨k + 1, by omega, by go_num, HN, HGq, HOq, hsq⟩
            case measure => simp [intOf]; omega
      · have HE : Hid (canX n r = false) := Lib.hid (HNo.out fun g hg => HC.out g (by omega))
        go_wp2
        go_ret
        exact ⟨ret_bool HE.out.symm, HGr.out, HOr.out⟩
  · rw [ho] at HO
    have HE := Lib.hid (canX_own (n := n) ho)
    have HG := Lib.hid h
    have hgl : g < w.heap.size := by omega
    clear ho hn hr ht b0 h
    go_enter Tryd.func94, Tryd.ntmps94
    go_wp2_with fail
    refine (HO.out _).mono ?_
    rintro e w1 ⟨rfl, b1⟩
    go_wp2
    go_ret
    exact ⟨ret_bool HE.out.symm, HG.out.keep b1, only_below hgl b1⟩

theorem impl_canEncode (n r : Int) (g C : Nat) (w0 w : World) (h : GuOK w g n C) (hg : g < C) (hC : C ≤ w.heap.size) (ht : TabSets w0) (b0 : Below w0.heap.size w0 w) (hg0 : w0.heap.size ≤ g) (hn : proB n = true) (hr : okB r = true) :
    Calls Tryd.prog 94 #[.pointer (some ⟨g, 0, none⟩), .int .i64 r] w (GaDone (canB n r) g n C w) := by
  have h1 : r ≤ 9223372036854775807 := by have := okB_true hr; omega
  have := impl_canX n r g C w0 w h hg hC ht b0 hg0 hn h1
  rw [canX, hr, Bool.true_and] at this
  exact this

end Go.Proofs.YtdckjhobikfggaaDoor

namespace Go.Proofs.YtdckjhobikfggaaDoor
open Go.RowKit

theorem spec_l01Long (b : Int) (w : World) (h0 : 0 ≤ b) (h1 : b < 256) : Calls Tryd.prog 80 #[.int .i64 b] w fun e w' => e = .returned (.tuple #[.int .i64 (leadM b + 1), .int .i64 (leadR b)]) ∧ w = w' := by
  have key : (b < 128 ∧ leadM b = 0 ∧ leadR b = b) ∨ (128 ≤ b ∧ inB b 192 223 = true ∧ leadM b = 1 ∧ leadR b = b - 192) ∨ (128 ≤ b ∧ inB b 192 223 = false ∧ inB b 224 239 = true ∧ leadM b = 2 ∧ leadR b = b - 224) ∨
      (128 ≤ b ∧ inB b 192 223 = false ∧ inB b 224 239 = false ∧ inB b 240 247 = true ∧ leadM b = 3 ∧ leadR b = b - 240) ∨ (128 ≤ b ∧ inB b 192 223 = false ∧ inB b 224 239 = false ∧ inB b 240 247 = false ∧ leadM b = -1 ∧ leadR b = 0) := by
    simp only [inB, leadM, leadR, Bool.and_eq_true, Bool.and_eq_false_iff, decide_eq_true_eq, decide_eq_false_iff_not]
    repeat' split
    all_goals omega
  rcases key with ⟨k1, e1, e2⟩ | ⟨k1, k2, e1, e2⟩ | ⟨k1, k2, k3, e1, e2⟩ | ⟨k1, k2, k3, k4, e1, e2⟩ | ⟨k1, k2, k3, k4, e1, e2⟩
  all_goals
    have E1 := Lib.hid e1
    have E2 := Lib.hid e2
    clear e1 e2
    go_enter Tryd.func80, Tryd.ntmps80
    go_wp2_with (go_at_call 52; refine (spec_l01In _ _ _ _).mono ?_; rintro e w' ⟨rfl, rfl⟩)
    go_ret2
    rw [E1.out, E2.out]
    exact ⟨rfl, rfl⟩

set_option maxHeartbeats 1000000 in
theorem spec_l01Take (s : ByteArray) (k : Nat) (w : World) (hk : k < s.size) (hs : s.size ≤ 1048576) : Calls Tryd.prog 53 #[.string s, .int .i64 k] w fun e w' => e = .returned (.tuple #[.int .i64 (takeR s k), .int .i64 (takeN s k), .int .i64 (takeC s k)]) ∧ Below w.heap.size w w' := by
  have hb := byteAt_le s k
  have he := byteAt_eq s k hk
  have hm := leadM_le (byteAt s k)
  have hr := leadR_le (byteAt s k) hb.1
  have hk0 : (0 : Int) ≤ (k : Int) := by omega
  have hk1 : (k : Int) < (s.size : Int) := by omega
  have HE := Lib.hid he
  rw [he] at hb
  by_cases hl : leadM (byteAt s k) < 0
  · have HC := Lib.hid (takeC_lead s k hl)
    have HR : Hid (takeR s k = 0) := Lib.hid (by simp [takeR, HC.out])
    have HN : Hid (takeN s k = 0) := Lib.hid (by simp [takeN, HC.out])
    have e0 : ((leadM (s[k].toNat : Int) + 1) == 0) = true := by rw [← he]; exact beq_iff_eq.2 (by omega)
    clear he hl hm hr
    go_enter Tryd.func53, Tryd.ntmps53
    go_wp2_with fail
    refine (spec_l01Long _ _ (by omega) (by omega)).mono ?_
    rintro e w' ⟨rfl, rfl⟩
    go_wp2
    go_ret3
    rw [HC.out, HR.out, HN.out]
    exact ⟨rfl, Below.refl _ _⟩
  · obtain ⟨m, hm'⟩ := Int.eq_ofNat_of_zero_le (show 0 ≤ leadM (byteAt s k) by omega)
    have hm3 : m ≤ 3 := by omega
    have hTM : takeM s k = m := by simp [takeM, hm']
    have HTM := Lib.hid hTM
    have HL : Hid (0 ≤ leadM (byteAt s k)) := Lib.hid (by omega)
    have HM := Lib.hid hm'
    have HM2 : Hid (leadM (s[k].toNat : Int) = (m : Int)) := Lib.hid (by rw [← he]; exact hm')
    obtain ⟨L, hL⟩ : ∃ L, leadR (byteAt s k) = L := ⟨_, rfl⟩
    have hL0 : 0 ≤ L ∧ L ≤ 127 := by omega
    have HLR : Hid (leadR (s[k].toNat : Int) = L) := Lib.hid (by rw [← he]; exact hL)
    have HLV : Hid (takeV s k = contR s m (k + 1) L) := Lib.hid (by simp [takeV, hTM, hL])
    have e0 : (((m : Int) + 1) == 0) = false := beq_eq_false_iff_ne.2 (by omega)
    clear he hl hm hr hm' hTM hL
    go_enter Tryd.func53, Tryd.ntmps53
    go_wp2_with fail
    refine (spec_l01Long _ _ (by omega) (by omega)).mono ?_
    rintro e w' ⟨rfl, rfl⟩
    rw [HM2.out, HLR.out]
    go_wp2
    go_loop [8, 9] (fun r i => ∃ (j rem : Nat) (R : Int), 1 ≤ j ∧ j ≤ m + 1 ∧ k + j ≤ s.size ∧ r = .int .i64 R ∧ i = .int .i64 j ∧ 0 ≤ R ∧ R ≤ topR (j - 1) ∧ Hid (j + rem = m + 1) ∧ Hid (takeV s k = contR s rem (k + j) R) ∧ Hid (contC s m (k + 1) = contC s rem (k + j))) (fun _ i => m + 1 - (intOf i).toNat)
    case atStart => exact ⟨1, m, L, Nat.le_refl _, by omega, by omega, rfl, rfl, hL0.1, hL0.2, Lib.hid (by omega), HLV, Lib.hid rfl⟩
    case round =>
      obtain ⟨j, rem, R, hj1, hjm, hjs, rfl, rfl, hR0, hR1, HJ, HV, HC⟩ := hrel
      have ht := topR_le (j - 1)
      by_cases hlt : j ≤ m
      · obtain ⟨rem, rfl⟩ : ∃ q, rem = q + 1 := ⟨rem - 1, by have := HJ.out; omega⟩
        have hj2 : (j : Int) < (m : Int) + 1 := by omega
        by_cases hend : k + j = s.size
        · have e1 : (((k : Int) + (j : Int)) == (s.size : Int)) = true := beq_iff_eq.2 (by omega)
          have HT : Hid (takeC s k = 13) := Lib.hid (takeC_cont s k HL.out 13 (by rw [HTM.out, HC.out, contC_end s rem _ (by omega)]) (by decide))
          have HR : Hid (takeR s k = 0) := Lib.hid (by simp [takeR, HT.out])
          have HN : Hid (takeN s k = 0) := Lib.hid (by simp [takeN, HT.out])
          clear hend
          go_wp2
          go_ret3
          rw [HT.out, HR.out, HN.out]
          exact ⟨rfl, Below.refl _ _⟩
        · have e1 : (((k : Int) + (j : Int)) == (s.size : Int)) = false := beq_eq_false_iff_ne.2 (by omega)
          have hkj : k + j < s.size := by omega
          have hkj2 : (k : Int) + (j : Int) < (s.size : Int) := by omega
          have hkj3 : (0 : Int) ≤ (k : Int) + (j : Int) := by omega
          have hby := byteAt_eq s (k + j) hkj
          have hbl := byteAt_le s (k + j)
          rw [hby] at hbl
          by_cases hin : inB (s[k + j].toNat : Int) 128 191 = true
          · have ⟨i1, i2⟩ := inB_true hin
            have HV2 : Hid (takeV s k = contR s rem (k + (j + 1)) (R * 64 + s[k + j].toNat - 128)) := Lib.hid (by
              rw [HV.out, contR, hby, show k + j + 1 = k + (j + 1) by omega, show R * 64 + (s[k + j].toNat : Int) - 128 = R * 64 + ((s[k + j].toNat : Int) - 128) by omega])
            have HC2 : Hid (contC s m (k + 1) = contC s rem (k + (j + 1))) := Lib.hid (by
              rw [HC.out, contC_step s rem (k + j) hkj (by rw [hby]; exact ⟨i1, i2⟩), show k + j + 1 = k + (j + 1) by omega])
            have hR2 : R * 64 + (s[k + j].toNat : Int) - 128 ≤ topR (j + 1 - 1) := by
              have := topR_succ (j - 1) (by omega) R (s[k + j].toNat - 128) hR1 (by omega)
              rw [show j - 1 + 1 = j + 1 - 1 by omega] at this
              omega
            clear hby HV HC hend
            go_wp2_with (go_at_call 52; refine (spec_l01In _ _ _ _).mono ?_; rintro e w' ⟨rfl, rfl⟩)
            go_round
            case rel => exact ⟨j + 1, rem, _, by omega, by omega, by omega, rfl, by go_num, by omega, hR2, Lib.hid (by have := HJ.out; omega), HV2, HC2⟩
            case measure => simp [intOf]; omega
          · have hin' : inB (s[k + j].toNat : Int) 128 191 = false := by simpa using hin
            have HT : Hid (takeC s k = 16) := Lib.hid (takeC_cont s k HL.out 16 (by rw [HTM.out, HC.out, contC_bad s rem _ hkj (by rw [hby]; intro h; exact hin (by simpa [inB] using h))]) (by decide))
            have HR : Hid (takeR s k = 0) := Lib.hid (by simp [takeR, HT.out])
            have HN : Hid (takeN s k = 0) := Lib.hid (by simp [takeN, HT.out])
            clear hby HV HC hend hin
            go_wp2_with (go_at_call 52; refine (spec_l01In _ _ _ _).mono ?_; rintro e w' ⟨rfl, rfl⟩)
            go_ret3
            rw [HT.out, HR.out, HN.out]
            exact ⟨rfl, Below.refl _ _⟩
      · have hr0 : rem = 0 := by have := HJ.out; omega
        have hj3 : ¬ (j : Int) < (m : Int) + 1 := by omega
        have HV2 : Hid (takeV s k = R) := Lib.hid (by rw [HV.out, hr0]; rfl)
        have HC2 : Hid (takeC s k = if takeOK s k = true then 0 else 16) := Lib.hid (takeC_end s k HL.out (by rw [HTM.out, HC.out, hr0]; rfl))
        clear hr0 HV HC
        by_cases hok : okB R = true
        · have hsz := encLen_size R hok
          have HSZ := Lib.hid hsz
          by_cases hn : encLen R = (m : Int) + 1
          · have HT : Hid (takeC s k = 0) := Lib.hid (by rw [HC2.out, if_pos (by simp [takeOK, HV2.out, hok, HM.out, hn])])
            have HR : Hid (takeR s k = R) := Lib.hid (by simp [takeR, HT.out, HV2.out])
            have HN : Hid (takeN s k = (m : Int) + 1) := Lib.hid (by simp [takeN, HT.out, HM.out])
            have e2 : (((Utf8.encode R).size : Int) != (m : Int) + 1) = false := by rw [hsz, hn]; simp
            clear hsz hn
            go_wp2_with fail
            refine (spec_l01OK _ _).mono ?_
            rintro e w' ⟨rfl, rfl⟩
            go_wp2_with fail
            refine (spec_l01Put _ hok _).mono ?_
            rintro e w1 ⟨rfl, b1⟩
            go_wp2
            go_ret3
            rw [HT.out, HR.out, HN.out]
            exact ⟨rfl, b1⟩
          · have HT : Hid (takeC s k = 16) := Lib.hid (by rw [HC2.out, if_neg (by simp [takeOK, HV2.out, hok, HM.out, hn])])
            have HR : Hid (takeR s k = 0) := Lib.hid (by simp [takeR, HT.out])
            have HN : Hid (takeN s k = 0) := Lib.hid (by simp [takeN, HT.out])
            have e2 : (((Utf8.encode R).size : Int) != (m : Int) + 1) = true := by rw [hsz]; simpa using hn
            clear hsz hn
            go_wp2_with fail
            refine (spec_l01OK _ _).mono ?_
            rintro e w' ⟨rfl, rfl⟩
            go_wp2_with fail
            refine (spec_l01Put _ hok _).mono ?_
            rintro e w1 ⟨rfl, b1⟩
            go_wp2
            go_ret3
            rw [HT.out, HR.out, HN.out]
            exact ⟨rfl, b1⟩
        · have hok' : okB R = false := by simpa using hok
          have HT : Hid (takeC s k = 16) := Lib.hid (by rw [HC2.out, if_neg (by simp [takeOK, HV2.out, hok'])])
          have HR : Hid (takeR s k = 0) := Lib.hid (by simp [takeR, HT.out])
          have HN : Hid (takeN s k = 0) := Lib.hid (by simp [takeN, HT.out])
          clear hok
          go_wp2_with fail
          refine (spec_l01OK _ _).mono ?_
          rintro e w' ⟨rfl, rfl⟩
          go_wp2
          go_ret3
          rw [HT.out, HR.out, HN.out]
          exact ⟨rfl, Below.refl _ _⟩

end Go.Proofs.YtdckjhobikfggaaDoor

namespace Go.Proofs.YtdckjhobikfggaaDoor
open Go.RowKit Go.Extern.Stop Go.Stop Go.Extern

theorem isTypeOf (v : Value) (w : World) : (callFunc 106 #[.iface 199 v]).run Tryd.prog w = .ok (.value (.iface 168 (.agg #[.pointer (some ⟨6, 199, none⟩)]))) w := by kernel_rfl
theorem isComparable (w : World) : (callFunc 181 #[.agg #[.pointer (some ⟨6, 199, none⟩)]]).run Tryd.prog w = .ok (.value (.bool true)) w := by kernel_rfl
theorem isMethodComparable (v : Value) (w : World) : (Go.method 329 168 v "Comparable").run Tryd.prog w = .ok (181, v) w := by kernel_rfl
theorem methodUnwrap (v : Value) (w : World) : (Go.method 329 99 v "Unwrap").run Tryd.prog w = .ok (173, v) w := by kernel_rfl
theorem isComp : (Tryd.prog.info? 199).map (·.comparable) = some true := by kernel_rfl
theorem isSize : (Tryd.prog.info? 217).map (·.size) = some 1 := by kernel_rfl

theorem noIsE (v : Value) (xT : TypeId) (w : World) : (Instr.typeAssert (.iface 199 v) xT 180 true).run Tryd.prog w = .ok (.tuple #[.nilIface, .bool false]) w := run_typeAssert_lacksB Tryd.underlying180 (by kernel_rfl) (by kernel_rfl) v xT w
theorem noUnwrapE (v : Value) (xT : TypeId) (w : World) : (Instr.typeAssert (.iface 199 v) xT 175 true).run Tryd.prog w = .ok (.tuple #[.nilIface, .bool false]) w := run_typeAssert_lacksB Tryd.underlying175 (by kernel_rfl) (by kernel_rfl) v xT w
theorem noUnwrapsE (v : Value) (xT : TypeId) (w : World) : (Instr.typeAssert (.iface 199 v) xT 177 true).run Tryd.prog w = .ok (.tuple #[.nilIface, .bool false]) w := run_typeAssert_lacksB Tryd.underlying177 (by kernel_rfl) (by kernel_rfl) v xT w
theorem noIsW (v : Value) (xT : TypeId) (w : World) : (Instr.typeAssert (.iface 99 v) xT 180 true).run Tryd.prog w = .ok (.tuple #[.nilIface, .bool false]) w := run_typeAssert_lacksB Tryd.underlying180 (by kernel_rfl) (by kernel_rfl) v xT w
theorem hasUnwrapW (v : Value) (xT : TypeId) (w : World) : (Instr.typeAssert (.iface 99 v) xT 175 true).run Tryd.prog w = .ok (.tuple #[.iface 99 v, .bool true]) w := run_typeAssert_hasB Tryd.underlying175 (by kernel_rfl) v xT w

/-- The value of a fault at a place. -/
def faultV (at' : Int) (a : Addr) : Value := .iface 99 (.agg #[.int .i64 at', .iface 199 (.pointer (some a))])

theorem fault_Unwrap (at' : Int) (a : Addr) (w : World) :
    Calls Tryd.prog 173 #[.agg #[.int .i64 at', .iface 199 (.pointer (some a))]] w fun e w' => e = .returned (.iface 199 (.pointer (some a))) ∧ Below w.heap.size w w' := by
  go_enter Tryd.func173, Tryd.ntmps173
  go_wp2
  go_ret
  exact ⟨rfl, (Below.refl _ _).alloc (Nat.le_refl _) _⟩

set_option maxHeartbeats 1000000 in
set_option maxRecDepth 100000 in
theorem isl_same (at' : Int) (b : Addr) (w : World) :
    Calls Tryd.prog 107 #[faultV at' b, .iface 199 (.pointer (some b)), .bool true] w fun e w' => e = .returned (.bool true) ∧ Below w.heap.size w w' := by
  obtain ⟨i, hi, hcmp⟩ := Option.map_eq_some_iff.1 isComp
  obtain ⟨j, hj, hjs⟩ := Option.map_eq_some_iff.1 isSize
  have nW := noIsW
  have uW := hasUnwrapW
  have mU := methodUnwrap
  have heq := fun w => run_eql_iface_ptr_same (P := Tryd.prog) w b Tryd.underlying69 Tryd.underlying199 hi hcmp hj
  have hty := fun v => run_eql_iface_types (P := Tryd.prog) 99 199 v (.pointer (some b)) Tryd.underlying69 (by decide) w
  unfold faultV
  go_enter Tryd.func107, Tryd.ntmps107
  go_wp2
  refine wp_loop_rounds 2 ?_
  rw [rounds_succ]
  go_wp2_with (go_at_call 173; refine (fault_Unwrap _ _ _).mono ?_; rintro e w1 ⟨rfl, b1⟩)
  rw [rounds_succ]
  go_wp2
  go_ret
  exact ⟨rfl, b1⟩

/-- A block of cells that may be compared by its address. -/
def Row (w : World) (a : Addr) : Prop := ∃ ca ta, w.heap[a.block]? = some (.cells ca ta (0, 0))
theorem Row.keep {w w' : World} {a : Addr} (h : Row w a) (hb : Below w.heap.size w w') : Row w' a := by
  obtain ⟨ca, ta, h⟩ := h
  exact ⟨ca, ta, by rw [hb.block _ (Array.getElem?_eq_some_iff.1 h).1]; exact h⟩

set_option maxHeartbeats 1000000 in
set_option maxRecDepth 100000 in
theorem isl_other (at' : Int) (a b : Addr) (w : World) (hne : a ≠ b) (ha : Row w a) (hb : Row w b) :
    Calls Tryd.prog 107 #[faultV at' a, .iface 199 (.pointer (some b)), .bool true] w fun e w' => e = .returned (.bool false) ∧ Below w.heap.size w w' := by
  obtain ⟨i, hi, hcmp⟩ := Option.map_eq_some_iff.1 isComp
  obtain ⟨j, hj, hjs⟩ := Option.map_eq_some_iff.1 isSize
  have nW := noIsW
  have uW := hasUnwrapW
  have mU := methodUnwrap
  have nE := noIsE
  have uE := noUnwrapE
  have vE := noUnwrapsE
  have hty := fun v => run_eql_iface_types (P := Tryd.prog) 99 199 v (.pointer (some b)) Tryd.underlying69 (by decide) w
  have HA := Lib.hid ha
  have HB := Lib.hid hb
  have HNE := Lib.hid hne
  clear ha hb hne
  unfold faultV
  go_enter Tryd.func107, Tryd.ntmps107
  go_wp2
  refine wp_loop_rounds 2 ?_
  rw [rounds_succ]
  go_wp2_with (go_at_call 173; refine (fault_Unwrap _ _ _).mono ?_; rintro e w1 ⟨rfl, b1⟩)
  clear hty
  obtain ⟨ca, ta, ha⟩ := HA.out.keep b1
  obtain ⟨cb, tb, hb⟩ := HB.out.keep b1
  have heq := run_eql_iface_ptr_other (P := Tryd.prog) w1 Tryd.underlying69 Tryd.underlying199 hi hcmp hj (by rw [hjs]; decide) HNE.out ha hb
  clear ha hb
  rw [rounds_succ]
  go_wp2
  go_ret
  exact ⟨rfl, b1⟩

set_option maxHeartbeats 1000000 in
set_option maxRecDepth 100000 in
theorem is_same (at' : Int) (b : Addr) (w : World) :
    Calls Tryd.prog 78 #[faultV at' b, .iface 199 (.pointer (some b))] w fun e w' => e = .returned (.bool true) ∧ Below w.heap.size w w' := by
  have tT := isTypeOf
  have cT := isComparable
  have mR := isMethodComparable
  have hI := Lib.hid (isl_same at' b)
  unfold faultV at *
  go_enter Tryd.func78, Tryd.ntmps78
  go_wp2_with fail
  refine (hI.out _).mono ?_
  rintro e w1 ⟨rfl, b1⟩
  go_wp2
  go_ret
  exact ⟨rfl, b1⟩

set_option maxHeartbeats 1000000 in
set_option maxRecDepth 100000 in
theorem is_other (at' : Int) (a b : Addr) (w : World) (hne : a ≠ b) (ha : Row w a) (hb : Row w b) :
    Calls Tryd.prog 78 #[faultV at' a, .iface 199 (.pointer (some b))] w fun e w' => e = .returned (.bool false) ∧ Below w.heap.size w w' := by
  have tT := isTypeOf
  have cT := isComparable
  have mR := isMethodComparable
  have hI := Lib.hid (isl_other at' a b w hne ha hb)
  clear hne ha hb
  unfold faultV at *
  go_enter Tryd.func78, Tryd.ntmps78
  go_wp2_with fail
  refine hI.out.mono ?_
  rintro e w1 ⟨rfl, b1⟩
  go_wp2
  go_ret
  exact ⟨rfl, b1⟩

/-- The two sentinels, where the program's text lays them: a: truncated, b: invalid. -/
def Sents (w : World) (a b : Addr) : Prop :=
  w.cell? ⟨0, 0, none⟩ = some (.iface 199 (.pointer (some a))) ∧ w.cell? ⟨2, 0, none⟩ = some (.iface 199 (.pointer (some b))) ∧ a ≠ b ∧ Row w a ∧ Row w b
theorem Sents.keep {w w' : World} {a b : Addr} (h : Sents w a b) (hb : Below w.heap.size w w') : Sents w' a b := by
  obtain ⟨h1, h2, h3, h4, h5⟩ := h
  exact ⟨by rw [hb.cell (World.block_lt_of_cell? w _ h1)]; exact h1, by rw [hb.cell (World.block_lt_of_cell? w _ h2)]; exact h2, h3, h4.keep hb, h5.keep hb⟩

theorem faultCode_short (at' : Int) (a b : Addr) (w : World) (hs : Sents w a b) : Calls Tryd.prog 44 #[faultV at' a] w fun e w' => e = .returned (.int .i64 13) ∧ Below w.heap.size w w' := by
  obtain ⟨h1, _, _, _, _⟩ := hs
  have hI := Lib.hid (is_same at' a)
  unfold faultV at *
  go_enter Tryd.func44, Tryd.ntmps44
  go_wp2_with fail
  refine (hI.out _).mono ?_
  rintro e w1 ⟨rfl, b1⟩
  go_wp2
  go_ret
  exact ⟨rfl, b1⟩

theorem faultCode_utf (at' : Int) (a b : Addr) (w : World) (hs : Sents w a b) : Calls Tryd.prog 44 #[faultV at' b] w fun e w' => e = .returned (.int .i64 16) ∧ Below w.heap.size w w' := by
  obtain ⟨h1, _, h3, h4, h5⟩ := hs
  have hI := Lib.hid (is_other at' b a w h3.symm h5 h4)
  clear h3 h4 h5
  unfold faultV at *
  go_enter Tryd.func44, Tryd.ntmps44
  go_wp2_with fail
  refine hI.out.mono ?_
  rintro e w1 ⟨rfl, b1⟩
  go_wp2
  go_ret
  exact ⟨rfl, b1⟩

end Go.Proofs.YtdckjhobikfggaaDoor

namespace Go.Proofs.YtdckjhobikfggaaDoor
open Go.RowKit

def leadK (b : Int) : Int := if leadM b < 0 then 0 else leadM b
def leadTB (b : Int) : Bool := decide (0 ≤ leadM b)
theorem impl_leadByte (b : Int) (w : World) (h0 : 0 ≤ b) (h1 : b < 256) : Calls Tryd.prog 100 #[.int .u8 b] w fun e w' => e = .returned (.tuple #[.int .i32 (leadR b), .int .i64 (leadK b), .bool (leadTB b)]) ∧ w = w' := by
  have key : (b < 128 ∧ leadM b = 0 ∧ leadR b = b) ∨ (128 ≤ b ∧ b < 192 ∧ leadM b = -1 ∧ leadR b = 0) ∨ (192 ≤ b ∧ b < 224 ∧ leadM b = 1 ∧ leadR b = b - 192) ∨ (224 ≤ b ∧ b < 240 ∧ leadM b = 2 ∧ leadR b = b - 224) ∨
      (240 ≤ b ∧ b < 248 ∧ leadM b = 3 ∧ leadR b = b - 240) ∨ (248 ≤ b ∧ leadM b = -1 ∧ leadR b = 0) := by
    simp only [leadM, leadR]
    repeat' split
    all_goals omega
  rcases key with ⟨k1, e1, e2⟩ | ⟨k1, k2, e1, e2⟩ | ⟨k1, k2, e1, e2⟩ | ⟨k1, k2, e1, e2⟩ | ⟨k1, k2, e1, e2⟩ | ⟨k1, e1, e2⟩
  all_goals
    have E1 := Lib.hid e1
    have E2 := Lib.hid e2
    clear e1 e2
    go_enter Tryd.func100, Tryd.ntmps100
    go_wp2
    go_ret3
    rw [E2.out, leadK, leadTB, E1.out]
    exact ⟨by simp, rfl⟩

def runeLen (r : Int) : Int := if okB r = true then encLen r else -1
theorem utf8_RuneLen (r : Int) (w : World) : Calls Tryd.prog 101 #[.int .i32 r] w fun e w' => e = .returned (.int .i64 (runeLen r)) ∧ w = w' := by
  have key : (r < 0 ∧ runeLen r = -1) ∨ (0 ≤ r ∧ r ≤ 127 ∧ runeLen r = 1) ∨ (127 < r ∧ r ≤ 2047 ∧ runeLen r = 2) ∨ (2047 < r ∧ r < 55296 ∧ runeLen r = 3) ∨ (55296 ≤ r ∧ r ≤ 57343 ∧ runeLen r = -1) ∨ (57343 < r ∧ r ≤ 65535 ∧ runeLen r = 3) ∨ (65535 < r ∧ r ≤ 1114111 ∧ runeLen r = 4) ∨ (1114111 < r ∧ runeLen r = -1) := by
    by_cases h : okB r = true
    · have ⟨h0, h1, h2⟩ := okB_true h
      simp only [runeLen, h, if_true, encLen]
      repeat' split
      all_goals omega
    · have hn : ¬ (0 ≤ r ∧ r ≤ 1114111 ∧ (r < 55296 ∨ 57343 < r)) := fun ⟨a, b, c⟩ => h (okB_mk a b c)
      have hv : runeLen r = -1 := by rw [runeLen, if_neg h]
      rw [hv]
      omega
  rcases key with ⟨k1, e1⟩ | ⟨k1, k2, e1⟩ | ⟨k1, k2, e1⟩ | ⟨k1, k2, e1⟩ | ⟨k1, k2, e1⟩ | ⟨k1, k2, e1⟩ | ⟨k1, k2, e1⟩ | ⟨k1, e1⟩
  all_goals
    have E1 := Lib.hid e1
    clear e1
    go_enter Tryd.func101, Tryd.ntmps101
    go_wp2
    go_ret
    rw [E1.out]
    exact ⟨rfl, rfl⟩

/-- The place behind the character, or 0. -/
def takeNext (s : ByteArray) (k : Nat) : Int := if takeC s k = 0 then k + takeN s k else 0
/-- The error beside a code. -/
def errV (k : Nat) (a b : Addr) (c : Int) : Value := if c = 0 then .nilIface else if c = 13 then faultV k a else faultV k b

set_option maxHeartbeats 1000000 in
theorem impl_runeAt (s : ByteArray) (k : Nat) (a b : Addr) (w : World) (hk : k < s.size) (hs : s.size ≤ 1048576) (hS : Sents w a b) : Calls Tryd.prog 76 #[.string s, .int .i64 k] w fun e w' => e = .returned (.tuple #[.int .i32 (takeR s k), .int .i64 (takeNext s k), errV k a b (takeC s k)]) ∧ Below w.heap.size w w' := by
  have hb := byteAt_le s k
  have he := byteAt_eq s k hk
  have hm := leadM_le (byteAt s k)
  have hr := leadR_le (byteAt s k) hb.1
  have hk0 : (0 : Int) ≤ (k : Int) := by omega
  have hk1 : (k : Int) < (s.size : Int) := by omega
  obtain ⟨c1, c2, _, _, _⟩ := hS
  rw [he] at hb
  have fin16 : Hid (∀ h : takeC s k = 16, Value.tuple #[.int .i32 (takeR s k), .int .i64 (takeNext s k), errV k a b (takeC s k)] = .tuple #[.int .i32 0, .int .i64 0, faultV k b]) := Lib.hid (fun h => by simp [takeR, takeNext, errV, h])
  have fin13 : Hid (∀ h : takeC s k = 13, Value.tuple #[.int .i32 (takeR s k), .int .i64 (takeNext s k), errV k a b (takeC s k)] = .tuple #[.int .i32 0, .int .i64 0, faultV k a]) := Lib.hid (fun h => by simp [takeR, takeNext, errV, h])
  by_cases hl : leadM (byteAt s k) < 0
  · have HC := Lib.hid (takeC_lead s k hl)
    have e0 : leadTB (s[k].toNat : Int) = false := by rw [← he]; simp [leadTB]; omega
    clear he hl hm hr
    go_enter Tryd.func76, Tryd.ntmps76
    go_wp2_with fail
    refine (impl_leadByte _ _ (by omega) (by omega)).mono ?_
    rintro e w' ⟨rfl, rfl⟩
    go_wp2_with fail
    go_quiet (fail)
    go_wp2
    go_ret3
    rw [fin16.out HC.out]
    exact ⟨rfl, below_drewN (Below.refl _ _) _⟩
  · obtain ⟨m, hm'⟩ := Int.eq_ofNat_of_zero_le (show 0 ≤ leadM (byteAt s k) by omega)
    have hm3 : m ≤ 3 := by omega
    have hTM : takeM s k = m := by simp [takeM, hm']
    have HTM := Lib.hid hTM
    have HL : Hid (0 ≤ leadM (byteAt s k)) := Lib.hid (by omega)
    have HM := Lib.hid hm'
    have HM2 : Hid (leadK (s[k].toNat : Int) = (m : Int)) := Lib.hid (by rw [← he]; simp [leadK, hm']; omega)
    have e0 : leadTB (s[k].toNat : Int) = true := by rw [← he]; simp [leadTB]; omega
    obtain ⟨L, hL⟩ : ∃ L, leadR (byteAt s k) = L := ⟨_, rfl⟩
    have hL0 : 0 ≤ L ∧ L ≤ 127 := by omega
    have HLR : Hid (leadR (s[k].toNat : Int) = L) := Lib.hid (by rw [← he]; exact hL)
    have HLV : Hid (takeV s k = contR s m (k + 1) L) := Lib.hid (by simp [takeV, hTM, hL])
    clear he hl hm hr hm' hTM hL
    go_enter Tryd.func76, Tryd.ntmps76
    go_wp2_with fail
    refine (impl_leadByte _ _ (by omega) (by omega)).mono ?_
    rintro e w' ⟨rfl, rfl⟩
    rw [HM2.out, HLR.out]
    go_wp2
    go_loop [7, 10, 29] (fun r p i => ∃ (j rem : Nat) (R : Int), j ≤ m ∧ k + 1 + j ≤ s.size ∧ r = .int .i32 R ∧ p = .int .i64 ((k + 1 + j : Nat) : Int) ∧ i = .int .i64 j ∧ 0 ≤ R ∧ R ≤ topR j ∧ Hid (j + rem = m) ∧ Hid (takeV s k = contR s rem (k + 1 + j) R) ∧ Hid (contC s m (k + 1) = contC s rem (k + 1 + j))) (fun _ _ i => m - (intOf i).toNat)
    case atStart => exact ⟨0, m, L, Nat.zero_le _, by omega, rfl, by go_num, rfl, hL0.1, hL0.2, Lib.hid (by omega), HLV, Lib.hid rfl⟩
    case round =>
      obtain ⟨j, rem, R, hjm, hjs, rfl, rfl, rfl, hR0, hR1, HJ, HV, HC⟩ := hrel
      have ht := topR_le j
      generalize hp : k + 1 + j = p at *
      have HP := Lib.hid hp
      have hp1 : p ≤ k + 4 := by omega
      have hp0 : k + 1 ≤ p := by omega
      clear hp
      by_cases hlt : j < m
      · obtain ⟨rem, rfl⟩ : ∃ q, rem = q + 1 := ⟨rem - 1, by have := HJ.out; omega⟩
        have hj2 : (j : Int) < (m : Int) := by omega
        by_cases hend : p = s.size
        · have e1 : ((p : Int) == (s.size : Int)) = true := beq_iff_eq.2 (by omega)
          have HT : Hid (takeC s k = 13) := Lib.hid (takeC_cont s k HL.out 13 (by rw [HTM.out, HC.out, contC_end s rem _ (by omega)]) (by decide))
          clear hend
          go_wp2_with fail
          go_quiet (fail)
          go_wp2
          go_ret3
          rw [fin13.out HT.out]
          exact ⟨rfl, below_drewN (Below.refl _ _) _⟩
        · have e1 : ((p : Int) == (s.size : Int)) = false := beq_eq_false_iff_ne.2 (by omega)
          have hkj : p < s.size := by omega
          have hkj2 : (p : Int) < (s.size : Int) := by omega
          have hby := byteAt_eq s p hkj
          have hbl := byteAt_le s p
          rw [hby] at hbl
          by_cases hin : 128 ≤ (s[p].toNat : Int) ∧ (s[p].toNat : Int) ≤ 191
          · obtain ⟨i1, i2⟩ := hin
            have HV2 : Hid (takeV s k = contR s rem (k + 1 + (j + 1)) (R * 64 + ((s[p].toNat : Int) - 128))) := Lib.hid (by
              rw [HV.out, contR, hby, show k + 1 + (j + 1) = p + 1 by have := HP.out; omega])
            have HC2 : Hid (contC s m (k + 1) = contC s rem (k + 1 + (j + 1))) := Lib.hid (by
              rw [HC.out, contC_step s rem p hkj (by rw [hby]; exact ⟨i1, i2⟩), show k + 1 + (j + 1) = p + 1 by have := HP.out; omega])
            have hR2 := topR_succ j (by omega) R (s[p].toNat - 128) hR1 (by omega)
            have hpp : Hid (p + 1 = k + 1 + (j + 1)) := Lib.hid (by have := HP.out; omega)
            have d1 : decide ((s[p].toNat : Int) < 128) = false := by simp; omega
            have d2 : decide (191 < (s[p].toNat : Int)) = false := by simp; omega
            clear hby HV HC hend
            go_wp2
            go_round
            case rel => exact ⟨j + 1, rem, _, by omega, by have := HP.out; omega, rfl, by rw [← hpp.out]; go_num, by go_num, by omega, hR2, Lib.hid (by have := HJ.out; omega), HV2, HC2⟩
            case measure => simp [intOf]; omega
          · have HT : Hid (takeC s k = 16) := Lib.hid (takeC_cont s k HL.out 16 (by rw [HTM.out, HC.out, contC_bad s rem _ hkj (by rw [hby]; exact hin)]) (by decide))
            clear hby HV HC hend
            by_cases d0 : (s[p].toNat : Int) < 128
            · clear hin
              go_wp2_with fail
              go_quiet (fail)
              go_wp2
              go_ret3
              rw [fin16.out HT.out]
              exact ⟨rfl, below_drewN (Below.refl _ _) _⟩
            · have d1 : decide ((s[p].toNat : Int) < 128) = false := by simp; omega
              have d2 : (191 : Int) < (s[p].toNat : Int) := by omega
              clear hin
              go_wp2_with fail
              go_quiet (fail)
              go_wp2
              go_ret3
              rw [fin16.out HT.out]
              exact ⟨rfl, below_drewN (Below.refl _ _) _⟩
      · have hr0 : rem = 0 := by have := HJ.out; omega
        have hjm2 : j = m := by omega
        have hj3 : ¬ (j : Int) < (m : Int) := by omega
        have HV2 : Hid (takeV s k = R) := Lib.hid (by rw [HV.out, hr0]; rfl)
        have HC2 : Hid (takeC s k = if takeOK s k = true then 0 else 16) := Lib.hid (takeC_end s k HL.out (by rw [HTM.out, HC.out, hr0]; rfl))
        have HPM : Hid ((p : Int) - (k : Int) = (m : Int) + 1) := Lib.hid (by have := HP.out; omega)
        clear hr0 HV HC hjm2
        by_cases hn : runeLen R = (m : Int) + 1
        · have hok : okB R = true := by
            by_cases h : okB R = true
            · exact h
            · simp [runeLen, h] at hn; omega
          have hn2 : encLen R = (m : Int) + 1 := by simpa [runeLen, hok] using hn
          have HT : Hid (takeC s k = 0) := Lib.hid (by rw [HC2.out, if_pos (by simp [takeOK, HV2.out, hok, HM.out, hn2])])
          have HF : Hid (Value.tuple #[.int .i32 (takeR s k), .int .i64 (takeNext s k), errV k a b (takeC s k)] = .tuple #[.int .i32 R, .int .i64 (p : Int), .nilIface]) := Lib.hid (by
            have : takeNext s k = (p : Int) := by simp [takeNext, takeN, HT.out, HM.out]; have := HPM.out; omega
            rw [this]; simp [takeR, errV, HT.out, HV2.out])
          have e2 : (runeLen R != (p : Int) - (k : Int)) = false := by rw [HPM.out, hn]; simp
          clear hn hn2
          go_wp2_with fail
          refine (utf8_RuneLen _ _).mono ?_
          rintro e w' ⟨rfl, rfl⟩
          go_wp2
          go_ret3
          rw [HF.out]
          exact ⟨rfl, Below.refl _ _⟩
        · have HT : Hid (takeC s k = 16) := Lib.hid (by
            rw [HC2.out, if_neg]
            intro h
            simp only [takeOK, HV2.out, HM.out, Bool.and_eq_true, decide_eq_true_eq] at h
            exact hn (by simp [runeLen, h.1, h.2]))
          have e2 : (runeLen R != (p : Int) - (k : Int)) = true := by rw [HPM.out]; simpa using hn
          clear hn
          go_wp2_with fail
          refine (utf8_RuneLen _ _).mono ?_
          rintro e w' ⟨rfl, rfl⟩
          go_wp2_with fail
          go_quiet (fail)
          go_wp2
          go_ret3
          rw [fin16.out HT.out]
          exact ⟨rfl, below_drewN (Below.refl _ _) _⟩

end Go.Proofs.YtdckjhobikfggaaDoor

namespace Go.Proofs.YtdckjhobikfggaaDoor
open Go.RowKit

/-- What TakeRune returns. -/
def trC (s : ByteArray) (at' : Int) : Int := if 65536 < s.size then 2 else if 0 ≤ at' ∧ at' < s.size then takeC s at'.toNat else 8
def trR (s : ByteArray) (at' : Int) : Int := if trC s at' = 0 then takeR s at'.toNat else 0
def trN (s : ByteArray) (at' : Int) : Int := if trC s at' = 0 then takeNext s at'.toNat else 0
def trV (s : ByteArray) (at' : Int) : Value := .tuple #[.int .i64 (trR s at'), .int .i64 (trN s at'), .int .i64 (trC s at')]

theorem trV_bad (s : ByteArray) (at' c : Int) (h : trC s at' = c) (h0 : c ≠ 0) : trV s at' = .tuple #[.int .i64 0, .int .i64 0, .int .i64 c] := by
  simp [trV, trR, trN, h, h0]
theorem trC_in (s : ByteArray) (k : Nat) (h : ¬ 65536 < s.size) (hk : k < s.size) : trC s (k : Int) = takeC s k := by
  simp [trC, h, hk]
theorem trV_in (s : ByteArray) (k : Nat) (h : ¬ 65536 < s.size) (hk : k < s.size) (hc : takeC s k = 0) : trV s (k : Int) = .tuple #[.int .i64 (takeR s k), .int .i64 (k + takeN s k), .int .i64 0] := by
  have := trC_in s k h hk
  simp [trV, trR, trN, takeNext, this, hc]
theorem spec_TakeRune (s : ByteArray) (at' : Int) (w : World) (hs : s.size ≤ 1048576) : Calls Tryd.prog 23 #[.string s, .int .i64 at'] w fun e w' => e = .returned (trV s at') ∧ Below w.heap.size w w' := by
  by_cases h1 : 65536 < s.size
  · have HV := Lib.hid (trV_bad s at' 2 (by simp [trC, h1]) (by decide))
    go_enter Tryd.func23, Tryd.ntmps23
    go_wp2
    go_ret3
    rw [HV.out]
    exact ⟨rfl, Below.refl _ _⟩
  · have h1' : ¬ (65536 : Int) < (s.size : Int) := by omega
    by_cases h2 : inB at' 0 ((s.size : Int) - 1) = true
    · have ⟨i0, i1⟩ := inB_true h2
      obtain ⟨k, rfl⟩ := Int.eq_ofNat_of_zero_le i0
      have hk : k < s.size := by omega
      have hN := takeN_le s k
      rcases takeC_cases s k with hc | hc | hc
      · have HV := Lib.hid (trV_in s k h1 hk hc)
        have HC := Lib.hid hc
        clear hc
        go_enter Tryd.func23, Tryd.ntmps23
        go_wp2_with fail
        refine (spec_l01In _ _ _ _).mono ?_
        rintro e w' ⟨rfl, rfl⟩
        go_wp2_with fail
        refine (spec_l01Take s k _ hk hs).mono ?_
        rintro e w1 ⟨rfl, b1⟩
        rw [HC.out]
        go_wp2
        go_ret3
        rw [HV.out]
        exact ⟨rfl, b1⟩
      all_goals
        have HV := Lib.hid (trV_bad s k _ ((trC_in s k h1 hk).trans hc) (by decide))
        have HC := Lib.hid hc
        clear hc
        go_enter Tryd.func23, Tryd.ntmps23
        go_wp2_with fail
        refine (spec_l01In _ _ _ _).mono ?_
        rintro e w' ⟨rfl, rfl⟩
        go_wp2_with fail
        refine (spec_l01Take s k _ hk hs).mono ?_
        rintro e w1 ⟨rfl, b1⟩
        rw [HC.out]
        go_wp2
        go_ret3
        rw [HV.out]
        exact ⟨rfl, b1⟩
    · have h2' : inB at' 0 ((s.size : Int) - 1) = false := by simpa using h2
      have hn : ¬ (0 ≤ at' ∧ at' < s.size) := by intro h; exact h2 (by simp [inB]; omega)
      have HV := Lib.hid (trV_bad s at' 8 (by simp only [trC, h1, if_false, hn]) (by decide))
      clear h2 hn
      go_enter Tryd.func23, Tryd.ntmps23
      go_wp2_with fail
      refine (spec_l01In _ _ _ _).mono ?_
      rintro e w' ⟨rfl, rfl⟩
      go_wp2
      go_ret3
      rw [HV.out]
      exact ⟨rfl, Below.refl _ _⟩

/-- What the program's runeOf returns at an offset inside. -/
def roV (s : ByteArray) (k : Nat) : Value := .tuple #[.int .i64 (takeR s k), .int .i64 (if takeC s k = 0 then takeNext s k else 0), .int .i64 (takeC s k)]
theorem roV_ok (s : ByteArray) (k : Nat) (h : takeC s k = 0) : roV s k = .tuple #[.int .i64 (takeR s k), .int .i64 (takeNext s k), .int .i64 0] := by simp [roV, h]
theorem roV_bad (s : ByteArray) (k : Nat) (c : Int) (h : takeC s k = c) (h0 : c ≠ 0) : roV s k = .tuple #[.int .i64 0, .int .i64 0, .int .i64 c] := by simp [roV, takeR, h, h0]

set_option maxRecDepth 100000 in
theorem impl_runeOf (s : ByteArray) (k : Nat) (a b : Addr) (w : World) (hk : k < s.size) (hs : s.size ≤ 1048576) (hS : Sents w a b) : Calls Tryd.prog 47 #[.string s, .int .i64 k] w fun e w' => e = .returned (roV s k) ∧ Below w.heap.size w w' := by
  have HS := Lib.hid hS
  clear hS
  have hN := takeN_le s k
  have hR := takeR_le s k
  rcases takeC_cases s k with hc | hc | hc
  · have HV := Lib.hid (roV_ok s k hc)
    have HE : Hid (errV k a b (takeC s k) = .nilIface) := Lib.hid (by rw [hc]; rfl)
    have HX : Hid (takeNext s k = k + takeN s k) := Lib.hid (by simp [takeNext, hc])
    clear hc
    go_enter Tryd.func47, Tryd.ntmps47
    go_wp2_with fail
    refine (impl_runeAt s k a b _ hk hs HS.out).mono ?_
    rintro e w1 ⟨rfl, b1⟩
    rw [HE.out, HX.out]
    rw [HX.out] at HV
    go_wp2
    go_ret3
    rw [HV.out]
    exact ⟨rfl, b1⟩
  · have HV := Lib.hid (roV_bad s k _ hc (by decide))
    have HE : Hid (errV k a b (takeC s k) = faultV k a) := Lib.hid (by rw [hc]; rfl)
    clear hc
    go_enter Tryd.func47, Tryd.ntmps47
    go_wp2_with fail
    refine (impl_runeAt s k a b _ hk hs HS.out).mono ?_
    rintro e w1 ⟨rfl, b1⟩
    rw [HE.out]
    have hF := Lib.hid (faultCode_short k a b w1 (HS.out.keep b1))
    unfold faultV at *
    go_wp2_with fail
    refine hF.out.mono ?_
    rintro e w2 ⟨rfl, b2⟩
    go_wp2
    go_ret3
    rw [HV.out]
    exact ⟨rfl, b1.trans (b2.mono b1.size)⟩
  · have HV := Lib.hid (roV_bad s k _ hc (by decide))
    have HE : Hid (errV k a b (takeC s k) = faultV k b) := Lib.hid (by rw [hc]; rfl)
    clear hc
    go_enter Tryd.func47, Tryd.ntmps47
    go_wp2_with fail
    refine (impl_runeAt s k a b _ hk hs HS.out).mono ?_
    rintro e w1 ⟨rfl, b1⟩
    rw [HE.out]
    have hF := Lib.hid (faultCode_utf k a b w1 (HS.out.keep b1))
    unfold faultV at *
    go_wp2_with fail
    refine hF.out.mono ?_
    rintro e w2 ⟨rfl, b2⟩
    go_wp2
    go_ret3
    rw [HV.out]
    exact ⟨rfl, b1.trans (b2.mono b1.size)⟩

set_option maxRecDepth 100000 in
theorem impl_TakeRune (s : ByteArray) (at' : Int) (a b : Addr) (w : World) (hs : s.size ≤ 1048576) (hS : Sents w a b) : Calls Tryd.prog 16 #[.string s, .int .i64 at'] w fun e w' => e = .returned (trV s at') ∧ Below w.heap.size w w' := by
  have HS := Lib.hid hS
  clear hS
  by_cases h1 : 65536 < s.size
  · have HV := Lib.hid (trV_bad s at' 2 (by simp [trC, h1]) (by decide))
    go_enter Tryd.func16, Tryd.ntmps16
    go_wp2
    go_ret3
    rw [HV.out]
    exact ⟨rfl, Below.refl _ _⟩
  · have h1' : ¬ (65536 : Int) < (s.size : Int) := by omega
    by_cases i0 : 0 ≤ at'
    · by_cases i1 : at' < s.size
      · obtain ⟨k, rfl⟩ := Int.eq_ofNat_of_zero_le i0
        have hk : k < s.size := by omega
        have d0 : decide ((k : Int) < 0) = false := by simp
        have d1 : decide ((s.size : Int) ≤ (k : Int)) = false := by simp; omega
        have HV : Hid (roV s k = trV s (k : Int)) := Lib.hid (by
          rcases takeC_cases s k with hc | hc | hc
          · rw [roV_ok s k hc, trV_in s k h1 hk hc, takeNext, takeN, hc]; simp
          · rw [roV_bad s k _ hc (by decide), trV_bad s k _ ((trC_in s k h1 hk).trans hc) (by decide)]
          · rw [roV_bad s k _ hc (by decide), trV_bad s k _ ((trC_in s k h1 hk).trans hc) (by decide)])
        have HR := Lib.hid (fun w h => impl_runeOf s k a b w hk hs h)
        rw [HV.out] at HR
        unfold trV at HR ⊢
        clear HV
        go_enter Tryd.func16, Tryd.ntmps16
        go_wp2_with fail
        refine (HR.out _ HS.out).mono ?_
        rintro e w1 ⟨rfl, b1⟩
        go_wp2
        go_ret3
        exact ⟨rfl, b1⟩
      · have HV := Lib.hid (trV_bad s at' 8 (by simp only [trC, h1, if_false, i1, and_false]) (by decide))
        have d0 : decide (at' < 0) = false := by simp; omega
        go_enter Tryd.func16, Tryd.ntmps16
        go_wp2
        go_ret3
        rw [HV.out]
        exact ⟨rfl, Below.refl _ _⟩
    · have HV := Lib.hid (trV_bad s at' 8 (by simp only [trC, h1, if_false, i0, false_and]) (by decide))
      go_enter Tryd.func16, Tryd.ntmps16
      go_wp2
      go_ret3
      rw [HV.out]
      exact ⟨rfl, Below.refl _ _⟩

end Go.Proofs.YtdckjhobikfggaaDoor

namespace Go.Proofs.YtdckjhobikfggaaDoor
open Go.RowKit

def words : List ByteArray := [⟨#[111, 107]⟩, ⟨#[98, 97, 100]⟩, ⟨#[108, 111, 110, 103]⟩, ⟨#[102, 111, 114, 109]⟩, ⟨#[114, 97, 110, 103, 101]⟩, ⟨#[110, 111, 110, 101]⟩, ⟨#[109, 97, 110, 121]⟩, ⟨#[102, 117, 108, 108]⟩, ⟨#[115, 105, 122, 101]⟩, ⟨#[107, 105, 110, 100]⟩, ⟨#[101, 115, 99, 97, 112, 101]⟩, ⟨#[102, 111, 114, 98, 105, 100, 100, 101, 110]⟩, ⟨#[117, 110, 109, 97, 112, 112, 101, 100]⟩, ⟨#[115, 104, 111, 114, 116]⟩, ⟨#[114, 101, 115, 101, 116]⟩, ⟨#[104, 101, 97, 100, 101, 114]⟩, ⟨#[117, 116, 102]⟩, ⟨#[115, 116, 97, 116, 101]⟩, ⟨#[115, 97, 109, 101]⟩]
def wd (k : Nat) : ByteArray := words.getD k ⟨#[]⟩
/-- The program's own table, as its text lays it. -/
def TabWords (w : World) : Prop := ∃ t fr, w.heap[1]? = some (.cells (words.map Value.string).toArray t fr)
theorem TabWords.cell {w : World} (h : TabWords w) (k : Nat) (hk : k < 19) : w.cell? ⟨1, k, none⟩ = some (.string (wd k)) := by
  obtain ⟨t, fr, h⟩ := h
  rw [cell_of_row w _ k _ t fr h]
  have hl : words.length = 19 := rfl
  simp [wd, List.getD, List.getElem?_eq_getElem (show k < words.length by omega)]
theorem TabWords.keep {w w' : World} (h : TabWords w) (hb : Below w.heap.size w w') : TabWords w' := by
  obtain ⟨t, fr, h⟩ := h
  refine ⟨t, fr, ?_⟩
  rw [hb.block _ (Array.getElem?_eq_some_iff.1 h).1]; exact h
def wordV (c : Int) : ByteArray := if 0 ≤ c ∧ c < 19 then wd c.toNat else ⟨#[]⟩

theorem words_at (k : Nat) (h : k < (words.map Value.string).length) : (words.map Value.string)[k] = .string (wd k) := by
  rw [List.getElem_map]
  have h' : k < words.length := by simpa using h
  simp [wd, List.getD, List.getElem?_eq_getElem h']

theorem impl_CodeWord (c : Int) (w : World) (ht : TabWords w) : Calls Tryd.prog 67 #[.int .i64 c] w fun e w' => e = .returned (.string (wordV c)) ∧ w = w' := by
  by_cases h0 : 0 ≤ c
  · by_cases h1 : c < 19
    · have HV : Hid (wordV c = wd c.toNat) := Lib.hid (by simp [wordV, h0, h1])
      obtain ⟨k, rfl⟩ := Int.eq_ofNat_of_zero_le h0
      rw [Int.toNat_natCast] at HV
      have hc := ht.cell k (by omega)
      clear ht
      go_enter Tryd.func67, Tryd.ntmps67
      go_wp2
      go_ret
      exact ⟨ret_str HV.out.symm, rfl⟩
    · have HV : Hid (wordV c = ⟨#[]⟩) := Lib.hid (by simp [wordV, h1])
      go_enter Tryd.func67, Tryd.ntmps67
      go_wp2
      go_ret
      exact ⟨ret_str HV.out.symm, rfl⟩
  · have HV : Hid (wordV c = ⟨#[]⟩) := Lib.hid (by simp [wordV, h0])
    go_enter Tryd.func67, Tryd.ntmps67
    go_wp2
    go_ret
    exact ⟨ret_str HV.out.symm, rfl⟩

end Go.Proofs.YtdckjhobikfggaaDoor

namespace Go.Proofs.YtdckjhobikfggaaDoor
open Go.RowKit

theorem eEmpty {r : ByteArray} (h : r.size = 0) : r.toList.isEmpty = true := by
  rw [Lib.toList_data, List.isEmpty_iff_length_eq_zero, Array.length_toList]
  exact h
theorem eSome {r : ByteArray} (h : 0 < r.size) : r.toList.isEmpty = false := by
  rw [Lib.toList_data]
  have : r.data.toList.length = r.size := Array.length_toList
  cases hl : r.data.toList with
  | nil => rw [hl] at this; simp at this; omega
  | cons _ _ => rfl

set_option maxHeartbeats 1000000 in
theorem impl_eRestOK (e : Ec) (v : Value) (g : Nat) (sa sb : Addr) (w : World) (h : EcAt w g e v) (hS : Sents w sa sb) (hr : e.r.size ≤ 1048576) : Calls Tryd.prog 68 #[.pointer (some ⟨g, 0, none⟩)] w fun x w' => x = .returned (.bool (restE e.r)) ∧ Below w.heap.size w w' := by
  have HS := Lib.hid hS
  have ⟨y0, y1, y2, y3, y4, y5, y6⟩ := h.cells
  have hlt := h.lt
  clear h hS
  obtain ⟨n, c, k, r, z, b, o⟩ := e
  dsimp only at *
  by_cases h0 : r.size = 0
  · have e0 := eEmpty h0
    have HE : Hid (restE r = true) := Lib.hid (by simp [restE, h0])
    rw [HE.out]
    clear h0
    go_enter Tryd.func68, Tryd.ntmps68
    go_wp2
    go_ret
    exact ⟨rfl, Below.refl _ _⟩
  have h1 : 0 < r.size := by omega
  have e0 := eSome h1
  have HT : Hid (∀ w, Sents w sa sb → Calls Tryd.prog 47 #[.string r, .int .i64 0] w fun e w' => e = .returned (.tuple #[.int .i64 (takeR r 0), .int .i64 (if takeC r 0 = 0 then takeNext r 0 else 0), .int .i64 (takeC r 0)]) ∧ Below w.heap.size w w') := Lib.hid (fun w h => impl_runeOf r 0 sa sb w h1 hr h)
  have HE : Hid (restE r = decide (takeC r 0 = 13)) := Lib.hid (by unfold restE; rw [decide_eq_false h0, Bool.false_or])
  rw [HE.out]
  generalize (if takeC r 0 = 0 then takeNext r 0 else 0) = nx at *
  by_cases h13 : takeC r 0 = 13
  · rw [h13] at HT ⊢
    clear h0 h1 h13 hr
    go_enter Tryd.func68, Tryd.ntmps68
    go_wp2_with fail
    refine (HT.out _ HS.out).mono ?_
    rintro e w1 ⟨rfl, b1⟩
    go_wp2
    go_ret
    exact ⟨rfl, b1⟩
  · have v13 : (takeC r 0 == 13) = false := by simpa using h13
    rw [decide_eq_false h13]
    generalize takeC r 0 = tc at *
    clear h0 h1 h13 hr
    go_enter Tryd.func68, Tryd.ntmps68
    go_wp2_with fail
    refine (HT.out _ HS.out).mono ?_
    rintro e w1 ⟨rfl, b1⟩
    go_wp2
    go_ret
    exact ⟨rfl, b1⟩

theorem impl_writesBehind (n r : Int) (g : Nat) (m : Value) (w : World) (h : GuAt w g n m) : Calls Tryd.prog 95 #[.pointer (some ⟨g, 0, none⟩), .int .i64 r] w fun e w' => e = .returned (.bool (decide (r = 10) && prReset n)) ∧ w = w' := by
  have ⟨_, _, _, _, _, _, _, y7, _, _⟩ := row10_cells h
  have hlt := h.lt
  clear h
  cases hp : prReset n
  · rw [hp] at y7
    rw [Bool.and_false]
    go_enter Tryd.func95, Tryd.ntmps95
    go_wp2
    go_ret
    exact ⟨rfl, rfl⟩
  · rw [hp] at y7
    rw [Bool.and_true]
    by_cases hr : r = 10
    · have er : (r == 10) = true := by simpa using hr
      rw [decide_eq_true hr]
      clear hr
      go_enter Tryd.func95, Tryd.ntmps95
      go_wp2
      go_ret
      exact ⟨rfl, rfl⟩
    · have er : (r == 10) = false := by simpa using hr
      rw [decide_eq_false hr]
      clear hr
      go_enter Tryd.func95, Tryd.ntmps95
      go_wp2
      go_ret
      exact ⟨rfl, rfl⟩

/-- What the program asks of each character. -/
def waitX (n r : Int) : Bool := canX n r && !(decide (r = 10) && prReset n)
theorem waitX_all (n : Int) (z : List Int) : (okAll z && z.all (waitR n)) = z.all (waitX n) := by
  induction z with
  | nil => rfl
  | cons r t ih =>
    have : waitX n r = (okB r && waitR n r) := by unfold waitX waitR canX; rw [Bool.and_assoc]
    show ((okB r && okAll t) && (waitR n r && t.all (waitR n))) = (waitX n r && t.all (waitX n))
    rw [← ih, this]
    cases okB r <;> cases okAll t <;> cases waitR n r <;> cases t.all (waitR n) <;> rfl

set_option maxHeartbeats 2000000 in
set_option maxRecDepth 100000 in
theorem impl_lineOK (e : Ec) (v : Value) (g : Nat) (w : World) (h : EcAt w g e v) (hv : Ints .i64 w v e.z) (hz : ∀ r ∈ e.z, r ≤ 9223372036854775807) (ht : TabSets w) (hn : proB e.n = true) : Calls Tryd.prog 69 #[.pointer (some ⟨g, 0, none⟩)] w fun x w' => x = .returned (.bool (lineE e.n e.z)) ∧ Below w.heap.size w w' := by
  have hform : ∃ a c, v = .slice a e.z.length c := by
    rcases hv with ⟨h0, a, c, rfl⟩ | ⟨b, off, c, rfl, _⟩
    · exact ⟨a, c, by rw [h0]; rfl⟩
    · exact ⟨_, c, rfl⟩
  obtain ⟨a, cp, rfl⟩ := hform
  have ⟨y0, y1, y2, y3, y4, y5, y6⟩ := h.cells
  have hlt := h.lt
  have D0 := Lib.hid h
  have I0 := Lib.hid hv
  have HZ := Lib.hid hz
  have HGu := Lib.hid (fun w' (b : Below w.heap.size w w') => impl_guideOf e.n w' (ht.keep b) hn)
  have HCan := Lib.hid (fun q g C W' hq h hg hC b0 hg0 => impl_canX e.n q g C w W' h hg hC ht b0 hg0 hn hq)
  have HWb := Lib.hid (fun q g m W h => impl_writesBehind e.n q g m W h)
  unfold GaDone at HCan
  clear h hv hz ht hn
  obtain ⟨n, c, k, r, z, b, o⟩ := e
  dsimp only at *
  by_cases hlong : 60 < z.length
  · rw [lineE_long hlong]
    have hl2 : (60 : Int) < (z.length : Int) := by omega
    clear hlong
    go_enter Tryd.func69, Tryd.ntmps69
    go_wp2
    go_ret
    exact ⟨rfl, Below.refl _ _⟩
  have hl2 : ¬ (60 : Int) < (z.length : Int) := by omega
  have hl3 : z.length ≤ 60 := by omega
  rw [lineE_short hl3, waitX_all]
  clear hlong
  go_enter Tryd.func69, Tryd.ntmps69
  go_wp2_with fail
  refine (HGu.out _ (Below.refl _ _)).mono ?_
  rintro _ w1 ⟨rfl, b1⟩
  clear y0 y1 y2 y3 y4 y5 y6
  unfold guV
  have B1 : Hid (Below w.heap.size w (w1.alloc (.cells #[.int .i64 n, .string (prName n), .string (prHead n), .slice none 0 0, .bool (prRight n), .bool (prShifts n), .bool (prSingle n), .bool (prReset n), .bool (prClear n), (.map none)] 116))) := Lib.hid (b1.alloc b1.size _)
  have D1 := Lib.hid ((D0.out.keep b1).keep (ecBelow1 w1 (.cells #[.int .i64 n, .string (prName n), .string (prHead n), .slice none 0 0, .bool (prRight n), .bool (prShifts n), .bool (prSingle n), .bool (prReset n), .bool (prClear n), (.map none)] 116)))
  have G1 : Hid (GuOK (w1.alloc (.cells #[.int .i64 n, .string (prName n), .string (prHead n), .slice none 0 0, .bool (prRight n), .bool (prShifts n), .bool (prSingle n), .bool (prReset n), .bool (prClear n), (.map none)] 116)) w1.heap.size n (w1.heap.size + 1)) := Lib.hid ⟨_, GuAt.new w1 n (.map none), .inl rfl⟩
  have hw1 : w.heap.size ≤ w1.heap.size := b1.size
  have hC1 : w1.heap.size + 1 ≤ (w1.alloc (.cells #[.int .i64 n, .string (prName n), .string (prHead n), .slice none 0 0, .bool (prRight n), .bool (prShifts n), .bool (prSingle n), .bool (prReset n), .bool (prClear n), (.map none)] 116)).heap.size := by simp
  have ⟨y0, y1, y2, y3, y4, y5, y6⟩ := D1.out.cells
  have hlt1 := D1.out.lt
  clear b1
  go_wp2
  clear y0 y1 y2 y3 y4 y5 y6
  generalize w1.alloc (.cells #[.int .i64 n, .string (prName n), .string (prHead n), .slice none 0 0, .bool (prRight n), .bool (prShifts n), .bool (prSingle n), .bool (prReset n), .bool (prClear n), (.map none)] 116) = W1 at *
  go_loopw [5, 22] (fun _ i wr => ∃ j : Nat, j ≤ z.length ∧ i = .int .i64 j ∧ Hid ((z.take j).all (waitX n) = true) ∧ Hid (GuOK wr w1.heap.size n (w1.heap.size + 1)) ∧ Hid (Below w.heap.size w wr) ∧ w1.heap.size + 1 ≤ wr.heap.size) (fun _ i _ => z.length - (intOf i).toNat)
  case atStart => exact ⟨0, Nat.zero_le _, rfl, Lib.hid rfl, G1, B1, hC1⟩
  case round =>
    obtain ⟨j, hj, rfl, HJ, HG, HB, hC⟩ := hrel
    clear G1 B1 D1 hC1 hlt1
    by_cases hjl : j < z.length
    · have hpick : ∃ bb off, a = some ⟨bb, off, none⟩ ∧ wr.cell? ⟨bb, off + j, none⟩ = some (.int .i64 (z.getD j 0)) := by
        rcases I0.out.keep HB.out with ⟨h0, _⟩ | ⟨bb, off, c', hv, hc⟩
        · rw [h0] at hjl; exact absurd hjl (by simp)
        · injection hv with h1
          exact ⟨bb, off, h1, hc j hjl⟩
      obtain ⟨bb, off, rfl, c1⟩ := hpick
      have HNx := Lib.hid (all_take (p := waitX n) hjl HJ.out)
      have v1 : (0 : Int) ≤ (j : Int) := by omega
      have v2 : (j : Int) < (z.length : Int) := by omega
      have hq : z.getD j 0 ≤ 9223372036854775807 := HZ.out _ (by simp [List.getD, hjl])
      generalize z.getD j 0 = q at *
      have HCq := Lib.hid (HCan.out q w1.heap.size (w1.heap.size + 1) wr hq HG.out (by omega) hC HB.out hw1)
      cases hcan : canX n q
      · have HF : Hid (z.all (waitX n) = false) := Lib.hid (all_false (k := j + 1) (by rw [HNx.out, waitX, hcan]; rfl))
        rw [hcan] at HCq
        clear hcan
        go_wp2_with fail
        refine HCq.out.mono ?_
        rintro _ w2 ⟨rfl, g2, o2⟩
        have B2 := Lib.hid (HB.out.trans (o2.1.mono hw1))
        go_wp2
        go_ret
        exact ⟨ret_bool HF.out.symm, B2.out⟩
      · rw [hcan] at HCq
        go_wp2_with fail
        refine HCq.out.mono ?_
        rintro _ w2 ⟨rfl, g2, o2⟩
        have B2 := Lib.hid (HB.out.trans (o2.1.mono hw1))
        have G2 := Lib.hid g2
        have hC2 : w1.heap.size + 1 ≤ w2.heap.size := Nat.le_trans hC o2.1.size
        obtain ⟨m2, gm2, _⟩ := g2
        have HW2 := Lib.hid (HWb.out q w1.heap.size m2 w2 gm2)
        clear gm2 o2 c1
        cases hwb : (decide (q = 10) && prReset n)
        · have HWt : Hid ((z.take (j + 1)).all (waitX n) = true) := Lib.hid (by rw [HNx.out, waitX, hcan, hwb]; rfl)
          rw [hwb] at HW2
          clear hcan hwb
          go_wp2_with fail
          refine HW2.out.mono ?_
          rintro _ w3 ⟨rfl, rfl⟩
          go_wp2
          go_roundw
          case rel => exact ⟨j + 1, by omega, by go_num, HWt, G2, B2, hC2⟩
          case measure => simp [intOf]; omega
        · have HF : Hid (z.all (waitX n) = false) := Lib.hid (all_false (k := j + 1) (by rw [HNx.out, waitX, hcan, hwb]; rfl))
          rw [hwb] at HW2
          clear hcan hwb
          go_wp2_with fail
          refine HW2.out.mono ?_
          rintro _ w3 ⟨rfl, rfl⟩
          go_wp2
          go_ret
          exact ⟨ret_bool HF.out.symm, B2.out⟩
    · have HE : Hid (z.all (waitX n) = true) := Lib.hid (by have := HJ.out; rwa [List.take_of_length_le (by omega)] at this)
      have v2 : ¬ (j : Int) < (z.length : Int) := by omega
      go_wp2
      go_ret
      exact ⟨ret_bool HE.out.symm, HB.out⟩

end Go.Proofs.YtdckjhobikfggaaDoor

namespace Go.Proofs.YtdckjhobikfggaaDoor
open Go.RowKit

end Go.Proofs.YtdckjhobikfggaaDoor

namespace Go.Proofs.YtdckjhobikfggaaDoor
open Go.RowKit

set_option maxHeartbeats 1000000 in
theorem laws_eqEncoder (e : Ec) (v u : Value) (w : World) (hv : Ints .i64 w v e.z) (hu : Ints .i64 w u e.z) (hl : e.z.length ≤ 1048576) : Calls Tryd.prog 33 #[ecV e v, ecV e u] w fun x w' => x = .returned (.bool true) ∧ Below w.heap.size w w' := by
  have B0 := Lib.hid (ecBelow2 w (.cells #[.int .i64 e.n, .int .i64 e.c, .int .i64 e.k, .string e.r, v, .bool e.b, .bool e.o] 57) (.cells #[.int .i64 e.n, .int .i64 e.c, .int .i64 e.k, .string e.r, u, .bool e.b, .bool e.o] 57))
  have HQ := Lib.hid (laws_eqIntS v u e.z e.z ((w.alloc (.cells #[.int .i64 e.n, .int .i64 e.c, .int .i64 e.k, .string e.r, v, .bool e.b, .bool e.o] 57)).alloc (.cells #[.int .i64 e.n, .int .i64 e.c, .int .i64 e.k, .string e.r, u, .bool e.b, .bool e.o] 57)) (hv.keep B0.out) (hu.keep B0.out) (by omega) (by omega))
  rw [decide_eq_true rfl] at HQ
  have A0 : Hid (EcAt ((w.alloc (.cells #[.int .i64 e.n, .int .i64 e.c, .int .i64 e.k, .string e.r, v, .bool e.b, .bool e.o] 57)).alloc (.cells #[.int .i64 e.n, .int .i64 e.c, .int .i64 e.k, .string e.r, u, .bool e.b, .bool e.o] 57)) w.heap.size e v) := Lib.hid (heap_alloc2_old _ _ _)
  have A1 : Hid (EcAt ((w.alloc (.cells #[.int .i64 e.n, .int .i64 e.c, .int .i64 e.k, .string e.r, v, .bool e.b, .bool e.o] 57)).alloc (.cells #[.int .i64 e.n, .int .i64 e.c, .int .i64 e.k, .string e.r, u, .bool e.b, .bool e.o] 57)) (w.heap.size + 1) e u) := Lib.hid (heap_alloc2_new _ _ _)
  clear hv hu hl
  obtain ⟨n, c, k, r, z, b, o⟩ := e
  unfold ecV
  dsimp only at *
  have s1 : (r.toList != r.toList) = false := by simp
  have f5 : (b != b) = false := by simp
  have f6 : (o != o) = false := by simp
  have f0 : (n != n) = false := by simp
  have f1 : (c != c) = false := by simp
  have f2 : (k != k) = false := by simp
  go_enter Tryd.func33, Tryd.ntmps33
  go_wp2_with fail
  refine HQ.out.mono ?_
  generalize (w.alloc (.cells #[.int .i64 n, .int .i64 c, .int .i64 k, .string r, v, .bool b, .bool o] 57)).alloc (.cells #[.int .i64 n, .int .i64 c, .int .i64 k, .string r, u, .bool b, .bool o] 57) = W0 at *
  rintro x w1 ⟨rfl, q, rfl⟩
  have ⟨x0, x1, x2, x3, x4, x5, x6⟩ := ecCells A0.out
  have ⟨y0, y1, y2, y3, y4, y5, y6⟩ := ecCells A1.out
  have B9 : Hid (Below w.heap.size w (W0.drewN q)) := Lib.hid (below_drewN B0.out q)
  go_wp2
  go_ret
  exact ⟨rfl, B9.out⟩

/-- What remains of a measure. -/
def leftE (e : Ec) (m : Int) : Int := if (e.r.size : Int) ≤ m then (if (e.z.length : Int) ≤ m - e.r.size then m - e.r.size - e.z.length else -1) else -1

set_option maxHeartbeats 1000000 in
theorem laws_szEncoder (e : Ec) (a : Option Addr) (cap : Nat) (m : Int) (w : World) (hr : e.r.size ≤ maxLen) (hl : e.z.length ≤ maxLen) (h0 : 0 ≤ m) (h1 : m ≤ 1048576) : Calls Tryd.prog 29 #[ecV e (.slice a e.z.length cap), .int .i64 m] w fun x w' => x = .returned (.int .i64 (leftE e m)) ∧ Below w.heap.size w w' := by
  have hr' : e.r.size ≤ 9223372036854775807 := hr
  have hl' : e.z.length ≤ 9223372036854775807 := hl
  have B0 := Lib.hid (ecBelow1 w (.cells #[.int .i64 e.n, .int .i64 e.c, .int .i64 e.k, .string e.r, (.slice a e.z.length cap), .bool e.b, .bool e.o] 54))
  unfold leftE ecV
  generalize e.z.length = l at *
  have u1 : IntKind.i64.wrap (m - (e.r.size : Int)) = m - (e.r.size : Int) := IntWalk.i64_in _ (by omega)
  by_cases h : (e.r.size : Int) ≤ m
  · rw [if_pos h]
    have h2 : ¬ m - (e.r.size : Int) < 0 := by omega
    have u2 : IntKind.i64.wrap (m - (e.r.size : Int) - (l : Int)) = m - (e.r.size : Int) - (l : Int) := IntWalk.i64_in _ (by omega)
    by_cases h3 : (l : Int) ≤ m - (e.r.size : Int)
    · rw [if_pos h3]
      have h4 : ¬ m - (e.r.size : Int) - (l : Int) < 0 := by omega
      clear h h3 hr hr' hl hl'
      go_enter Tryd.func29, Tryd.ntmps29
      go_wp2
      go_ret
      exact ⟨rfl, B0.out⟩
    · rw [if_neg h3]
      have h4 : m - (e.r.size : Int) - (l : Int) < 0 := by omega
      clear h h3 hr hr' hl hl'
      go_enter Tryd.func29, Tryd.ntmps29
      go_wp2
      go_ret
      exact ⟨rfl, B0.out⟩
  · rw [if_neg h]
    have h2 : m - (e.r.size : Int) < 0 := by omega
    clear h hr hr' hl hl'
    go_enter Tryd.func29, Tryd.ntmps29
    go_wp2
    go_ret
    exact ⟨rfl, B0.out⟩

end Go.Proofs.YtdckjhobikfggaaDoor

namespace Go.Proofs.YtdckjhobikfggaaDoor
open Go.RowKit

/-- An encoder of the laws in a block. -/
def LEcAt (w : World) (g : Nat) (e : Ec) (v : Value) : Prop := w.heap[g]? = some (.cells #[.int .i64 e.n, .int .i64 e.c, .int .i64 e.k, .string e.r, v, .bool e.b, .bool e.o] 54)
theorem LEcAt.lt {w : World} {g : Nat} {e : Ec} {v : Value} (h : LEcAt w g e v) : g < w.heap.size := (Array.getElem?_eq_some_iff.1 h).1
theorem LEcAt.keep {w w' : World} {g : Nat} {e : Ec} {v : Value} (h : LEcAt w g e v) (b : Below w.heap.size w w') : LEcAt w' g e v := (b.block g h.lt).trans h
theorem LEcAt.new (w : World) (e : Ec) (v : Value) : LEcAt (w.alloc (.cells #[.int .i64 e.n, .int .i64 e.c, .int .i64 e.k, .string e.r, v, .bool e.b, .bool e.o] 54)) w.heap.size e v := heap_alloc_new _ _
theorem lecCells {w : World} {g : Nat} {n c k : Int} {r : ByteArray} {z : List Int} {b o : Bool} {v : Value} (h : LEcAt w g ⟨n, c, k, r, z, b, o⟩ v) : w.cell? ⟨g, 0, none⟩ = some (.int .i64 n) ∧ w.cell? ⟨g, 1, none⟩ = some (.int .i64 c) ∧ w.cell? ⟨g, 2, none⟩ = some (.int .i64 k) ∧ w.cell? ⟨g, 3, none⟩ = some (.string r) ∧ w.cell? ⟨g, 4, none⟩ = some v ∧ w.cell? ⟨g, 5, none⟩ = some (.bool b) ∧ w.cell? ⟨g, 6, none⟩ = some (.bool o) := by
  refine ⟨?_, ?_, ?_, ?_, ?_, ?_, ?_⟩ <;> (rw [cell_of_row _ _ _ _ _ _ h]; rfl)

set_option maxHeartbeats 1000000 in
set_option maxRecDepth 100000 in
theorem laws_toEncoder (e : Ec) (v : Value) (w : World) (hv : Ints .i64 w v e.z) (hl : e.z.length ≤ 1048576) : Calls Tryd.prog 31 #[ecV e v] w fun x w' => ∃ u, x = .returned (ecV e u) ∧ Own .i64 3 w' w.heap.size u e.z ∧ Below w.heap.size w w' := by
  obtain ⟨n, c, k, r, z, b, o⟩ := e
  have B0 := Lib.hid (ecBelow3 w (.cells #[.int .i64 n, .int .i64 c, .int .i64 k, .string r, v, .bool b, .bool o] 54) (.cells #[.int .i64 0, .int .i64 0, .int .i64 0, .string ⟨#[]⟩, .slice none 0 0, .bool false, .bool false] 57) (.cells #[.int .i64 n, .int .i64 c, .int .i64 k, .string r, (.slice none 0 0), .bool false, .bool false] 57))
  have L0 : Hid (LEcAt (((w.alloc (.cells #[.int .i64 n, .int .i64 c, .int .i64 k, .string r, v, .bool b, .bool o] 54)).alloc (.cells #[.int .i64 0, .int .i64 0, .int .i64 0, .string ⟨#[]⟩, .slice none 0 0, .bool false, .bool false] 57)).alloc (.cells #[.int .i64 n, .int .i64 c, .int .i64 k, .string r, (.slice none 0 0), .bool false, .bool false] 57)) w.heap.size ⟨n, c, k, r, z, b, o⟩ v) := Lib.hid ((LEcAt.new w ⟨n, c, k, r, z, b, o⟩ v).keep (ecBelow2 _ _ _))
  have R0 : Hid (EcAt (((w.alloc (.cells #[.int .i64 n, .int .i64 c, .int .i64 k, .string r, v, .bool b, .bool o] 54)).alloc (.cells #[.int .i64 0, .int .i64 0, .int .i64 0, .string ⟨#[]⟩, .slice none 0 0, .bool false, .bool false] 57)).alloc (.cells #[.int .i64 n, .int .i64 c, .int .i64 k, .string r, (.slice none 0 0), .bool false, .bool false] 57)) (w.heap.size + 1) zeroEc (.slice none 0 0)) := Lib.hid (by
    have h := (ecSlot0 (w.alloc (.cells #[.int .i64 n, .int .i64 c, .int .i64 k, .string r, v, .bool b, .bool o] 54))).keep (ecBelow1 _ (.cells #[.int .i64 n, .int .i64 c, .int .i64 k, .string r, (.slice none 0 0), .bool false, .bool false] 57))
    rw [World.size_alloc] at h
    exact h)
  have D0 : Hid (EcAt (((w.alloc (.cells #[.int .i64 n, .int .i64 c, .int .i64 k, .string r, v, .bool b, .bool o] 54)).alloc (.cells #[.int .i64 0, .int .i64 0, .int .i64 0, .string ⟨#[]⟩, .slice none 0 0, .bool false, .bool false] 57)).alloc (.cells #[.int .i64 n, .int .i64 c, .int .i64 k, .string r, (.slice none 0 0), .bool false, .bool false] 57)) (w.heap.size + 1 + 1) ⟨n, c, k, r, [], false, false⟩ (.slice none 0 0)) := Lib.hid (by
    have h := EcAt.new ((w.alloc (.cells #[.int .i64 n, .int .i64 c, .int .i64 k, .string r, v, .bool b, .bool o] 54)).alloc (.cells #[.int .i64 0, .int .i64 0, .int .i64 0, .string ⟨#[]⟩, .slice none 0 0, .bool false, .bool false] 57)) ⟨n, c, k, r, [], false, false⟩ (.slice none 0 0)
    rw [World.size_alloc, World.size_alloc] at h
    exact h)
  have HT := Lib.hid (laws_toIntS v z _ (hv.keep B0.out) hl)
  clear hv hl
  unfold ecV
  dsimp only
  go_enter Tryd.func31, Tryd.ntmps31
  have ⟨x0, x1, x2, x3, x4, x5, x6⟩ := lecCells L0.out
  go_wp2_with fail
  refine HT.out.mono ?_
  clear x0 x1 x2 x3 x4 x5 x6
  generalize ((w.alloc (.cells #[.int .i64 n, .int .i64 c, .int .i64 k, .string r, v, .bool b, .bool o] 54)).alloc (.cells #[.int .i64 0, .int .i64 0, .int .i64 0, .string ⟨#[]⟩, .slice none 0 0, .bool false, .bool false] 57)).alloc (.cells #[.int .i64 n, .int .i64 c, .int .i64 k, .string r, (.slice none 0 0), .bool false, .bool false] 57) = W at *
  rintro _ w1 ⟨u, rfl, o1, b1⟩
  have hs := D0.out.lt
  obtain ⟨ua, uc, rfl, _⟩ := o1.shape
  have D1 := Lib.hid (D0.out.keep b1)
  have R1 := Lib.hid (R0.out.keep b1)
  have B1 := Lib.hid (B0.out.trans (b1.mono B0.out.size))
  have ⟨l0, l1, l2, l3, l4, l5, l6⟩ := lecCells (L0.out.keep b1)
  have ⟨d0, d1, d2, d3, d4, d5, d6⟩ := ecCells D1.out
  have ⟨z0, z1, z2, z3, z4, z5, z6⟩ := D1.out.thaw
  have ⟨r0, r1, r2, r3, r4, r5, r6⟩ := R1.out.cells
  have ⟨s0, s1, s2, s3, s4, s5, s6⟩ := R1.out.thaw
  simp only [zeroEc] at r0 r1 r2 r3 r4 r5 r6
  have hl0 := D1.out.lt
  have hl1 := R1.out.lt
  have hl2 := (L0.out.keep b1).lt
  have hu1 : (Value.slice ua z.length uc).ownBlock ≠ some (w.heap.size + 1 + 1) := o1.off D0.out.lt
  have hu2 : (Value.slice ua z.length uc).ownBlock ≠ some (w.heap.size + 1) := o1.off R0.out.lt
  have hs0 := B0.out.size
  have B2 := Lib.hid (((B1.out.setCell (p := ⟨w.heap.size + 1 + 1, 4, none⟩) (show w.heap.size ≤ w.heap.size + 1 + 1 by omega) (.slice ua z.length uc)).setCell (p := ⟨w.heap.size + 1 + 1, 5, none⟩) (show w.heap.size ≤ w.heap.size + 1 + 1 by omega) (.bool b)).setCell (p := ⟨w.heap.size + 1 + 1, 6, none⟩) (show w.heap.size ≤ w.heap.size + 1 + 1 by omega) (.bool o))
  have R2 : Hid (EcAt (((w1.setCell ⟨w.heap.size + 1 + 1, 4, none⟩ (.slice ua z.length uc)).setCell ⟨w.heap.size + 1 + 1, 5, none⟩ (.bool b)).setCell ⟨w.heap.size + 1 + 1, 6, none⟩ (.bool o)) (w.heap.size + 1) zeroEc (.slice none 0 0)) := Lib.hid (by
    unfold EcAt
    rw [Below.heap_setCell _ _ _ _ (by simp), Below.heap_setCell _ _ _ _ (by simp), Below.heap_setCell _ _ _ _ (by simp)]
    exact R1.out)
  have O2 := Lib.hid ((((o1.low hs0).setAt (i := 4) (u := .slice ua z.length uc) hu1).setAt (i := 5) (u := .bool b) hu1).setAt (i := 6) (u := .bool o) hu1)
  have R3 := Lib.hid (R2.out.put ⟨n, c, k, r, z, b, o⟩ (.slice ua z.length uc))
  have B3 := Lib.hid (below_putEc B2.out (show w.heap.size ≤ w.heap.size + 1 by omega) ⟨n, c, k, r, z, b, o⟩ (.slice ua z.length uc))
  have O3 := Lib.hid (O2.out.putEc (u := .slice ua z.length uc) hu2 ⟨n, c, k, r, z, b, o⟩)
  clear b1 o1 L0 R0 D0 B0 HT
  go_wp2
  exact ec_ret1 (y := ⟨n, c, k, r, z, b, o⟩) rfl rfl R3.out Tryd.underlying57 rfl (by kernel_rfl) rfl ⟨_, rfl, O3.out, B3.out⟩

end Go.Proofs.YtdckjhobikfggaaDoor

namespace Go.Proofs.YtdckjhobikfggaaDoor
open Go Go.RowKit

variable {P : Program} {ops : Array Oper} {Q : Exit → Act → World → Prop} {md : Region.Mode} {S : World → Prop}

/-- The one operation that may come up comes up. -/
theorem wpAnyH_one {i : Nat} {o : Oper} {fuel : Nat} {listed : Array Bool} {a : Act} {w : World} (hr : Region.ready md ops listed = [i]) (ho : ops[i]? = some o)
    (h : ∀ K' : Act → World → Prop, Shut (∀ a w, S w → (S w → wpAnyH P md ops Q S fuel (listed.setIfInBounds i true) a w) → K' a w) → if Region.wanted o (yielded ops a.tmps) = true then Oper.wp P o a w K' Q else K' (a.put o.dst undef) w) :
    wpAnyH P md ops Q S (fuel + 1) listed a w :=
  ⟨fun h0 => (by rw [hr] at h0; cases h0), fun j hj => (by
    rw [hr] at hj
    obtain rfl : j = i := by simpa using hj
    exact wpOp_step ho (fun K' hK => h K' (fun a w hS hW => hK a w ⟨hS, hW hS⟩)))⟩
theorem region_held_w {id : Nat} {a : Act} {w : World} (w2 : World) (hw : { w with drawn := w.drawn + 1 } = w2) (hm : P.follows .mixedOrders = true)
    (h : wpAnyH P .any ops Q S ops.size (Array.replicate ops.size false) a w2) : (Code.region id ops true).wp P Q a w := by
  subst hw
  exact wp_region_held hm h

end Go.Proofs.YtdckjhobikfggaaDoor

namespace Go.Proofs.YtdckjhobikfggaaDoor
open Go.RowKit

theorem ecEmpty {r : ByteArray} (h : r.size = 0) : r.toList.isEmpty = true := by
  rw [Lib.toList_data, List.isEmpty_iff_length_eq_zero, Array.length_toList]
  exact h
theorem ecSome {r : ByteArray} (h : 0 < r.size) : r.toList.isEmpty = false := by
  rw [Lib.toList_data]
  have : r.data.toList.length = r.size := Array.length_toList
  cases hl : r.data.toList with
  | nil => rw [hl] at this; simp at this; omega
  | cons _ _ => rfl
theorem restE_some {r : ByteArray} (h : 0 < r.size) : restE r = decide (takeC r 0 = 13) := by
  unfold restE
  rw [decide_eq_false (by omega), Bool.false_or]

set_option maxHeartbeats 1000000 in
theorem spec_l09Rest (r : ByteArray) (w : World) (hr : r.size ≤ 1048576) : Calls Tryd.prog 91 #[.string r] w fun e w' => e = .returned (.bool (restE r)) ∧ Below w.heap.size w w' := by
  by_cases h0 : r.size = 0
  · have e0 := ecEmpty h0
    have HE : Hid (restE r = true) := Lib.hid (by simp [restE, h0])
    rw [HE.out]
    clear h0
    go_enter Tryd.func91, Tryd.ntmps91
    go_wp2
    go_ret
    exact ⟨rfl, Below.refl _ _⟩
  have h1 : 0 < r.size := by omega
  have e0 := ecSome h1
  have HT : Hid (∀ w, Calls Tryd.prog 53 #[.string r, .int .i64 0] w fun e w' => e = .returned (.tuple #[.int .i64 (takeR r 0), .int .i64 (takeN r 0), .int .i64 (takeC r 0)]) ∧ Below w.heap.size w w') := Lib.hid (fun w => spec_l01Take r 0 w h1 hr)
  rw [restE_some h1]
  by_cases h13 : takeC r 0 = 13
  · have h3 := takeC_short h13
    have v3 : (r.size : Int) ≤ 3 := by omega
    rw [h13] at HT ⊢
    clear h0 h1 h13
    go_enter Tryd.func91, Tryd.ntmps91
    go_wp2_with fail
    refine (HT.out _).mono ?_
    rintro e w1 ⟨rfl, b1⟩
    go_wp2
    go_ret
    exact ⟨rfl, b1⟩
  · have v13 : (takeC r 0 == 13) = false := by simpa using h13
    rw [decide_eq_false h13]
    generalize takeC r 0 = tc at *
    by_cases h3 : (r.size : Int) ≤ 3
    · clear h0 h1 h13
      go_enter Tryd.func91, Tryd.ntmps91
      go_wp2_with fail
      refine (HT.out _).mono ?_
      rintro e w1 ⟨rfl, b1⟩
      go_wp2
      go_ret
      exact ⟨rfl, b1⟩
    · clear h0 h1 h13
      go_enter Tryd.func91, Tryd.ntmps91
      go_wp2_with fail
      refine (HT.out _).mono ?_
      rintro e w1 ⟨rfl, b1⟩
      go_wp2
      go_ret
      exact ⟨rfl, b1⟩

/-- What holds while the line is looked through. -/
def LineIn (w : World) (e : Ec) (v : Value) (W : World) : Prop := EcAt W w.heap.size e v ∧ Ints .i64 W v e.z ∧ Below w.heap.size w W
theorem LineIn.keep {w W W' : World} {e : Ec} {v : Value} (h : LineIn w e v W) (b : Below W.heap.size W W') : LineIn w e v W' := ⟨h.1.keep b, h.2.1.keep b, h.2.2.trans (b.mono h.2.2.size)⟩
theorem LineIn.cell {w W : World} {e : Ec} {a : Option Addr} {n c : Nat} (h : LineIn w e (.slice a n c) W) (k : Nat) (hk : k < e.z.length) : ∃ b off, a = some ⟨b, off, none⟩ ∧ W.cell? ⟨b, off + k, none⟩ = some (.int .i64 (e.z.getD k 0)) := by
  rcases h.2.1 with ⟨h0, _⟩ | ⟨b, off, c', hv, hc⟩
  · rw [h0] at hk; exact absurd hk (by simp)
  · injection hv with h1
    exact ⟨b, off, h1, hc k hk⟩

set_option maxHeartbeats 2000000 in
set_option maxRecDepth 100000 in
theorem spec_l09Line (e : Ec) (v : Value) (w : World) (hv : Ints .i64 w v e.z) (hl : e.z.length ≤ 1048576) : Calls Tryd.prog 92 #[ecV e v] w fun x w' => x = .returned (.bool (lineE e.n e.z)) ∧ Below w.heap.size w w' := by
  have hform : ∃ a c, v = .slice a e.z.length c := by
    rcases hv with ⟨h, a, c, rfl⟩ | ⟨b, off, c, rfl, _⟩
    · exact ⟨a, c, by rw [h]; rfl⟩
    · exact ⟨_, c, rfl⟩
  obtain ⟨a, cp, rfl⟩ := hform
  have L0 : Hid (LineIn w e (.slice a e.z.length cp) (w.alloc (.cells #[.int .i64 e.n, .int .i64 e.c, .int .i64 e.k, .string e.r, (.slice a e.z.length cp), .bool e.b, .bool e.o] 57))) := Lib.hid ⟨EcAt.new _ _ _, hv.keep (ecBelow1 _ _), ecBelow1 _ _⟩
  have HA := Lib.hid (fun w h => spec_l01All (.slice a e.z.length cp) e.z w h hl)
  have HC := Lib.hid (fun r w => spec_l07Can e.n r w)
  have HP := Lib.hid (fun w => spec_l05Profile e.n w)
  clear hv
  obtain ⟨n, c, k, r, z, b, o⟩ := e
  unfold ecV
  dsimp only at *
  by_cases hlong : 60 < z.length
  · rw [lineE_long hlong]
    have hl2 : (60 : Int) < (z.length : Int) := by omega
    clear hlong HA HC HP hl
    go_enter Tryd.func92, Tryd.ntmps92
    go_wp2
    go_ret
    exact ⟨rfl, L0.out.2.2⟩
  have hl2 : ¬ (60 : Int) < (z.length : Int) := by omega
  have hl3 : z.length ≤ 60 := by omega
  rw [lineE_short hl3]
  cases hok : okAll z
  · rw [Bool.false_and]
    rw [hok] at HA
    clear hlong hok HC HP hl hl3
    go_enter Tryd.func92, Tryd.ntmps92
    have ⟨x0, x1, x2, x3, x4, x5, x6⟩ := ecCells L0.out.1
    go_wp2_with fail
    refine (HA.out _ L0.out.2.1).mono ?_
    rintro _ w1 ⟨rfl, rfl⟩
    go_wp2
    go_ret
    exact ⟨rfl, L0.out.2.2⟩
  · rw [Bool.true_and]
    rw [hok] at HA
    clear hlong hok hl
    go_enter Tryd.func92, Tryd.ntmps92
    have ⟨x0, x1, x2, x3, x4, x5, x6⟩ := ecCells L0.out.1
    go_wp2_with fail
    refine (HA.out _ L0.out.2.1).mono ?_
    rintro _ w1 ⟨rfl, rfl⟩
    clear x0 x1 x2 x3 x4 x5 x6
    go_wp2
    generalize w.alloc (.cells #[.int .i64 n, .int .i64 c, .int .i64 k, .string r, (.slice a z.length cp), .bool b, .bool o] 57) = W0 at *
    go_loopw [3] (fun i wr => ∃ j : Nat, j ≤ z.length ∧ i = .int .i64 j ∧ Hid ((z.take j).all (waitR n) = true) ∧ Hid (LineIn w ⟨n, c, k, r, z, b, o⟩ (.slice a z.length cp) wr)) (fun i _ => z.length - (intOf i).toNat)
    case atStart => exact ⟨0, Nat.zero_le _, rfl, Lib.hid rfl, L0⟩
    case round =>
      obtain ⟨j, hj, rfl, HJ, HI⟩ := hrel
      clear L0
      by_cases hlt : j < z.length
      · obtain ⟨bb, off, ha, c1⟩ := HI.out.cell j hlt
        have hz : z.getD j 0 = z.getD j 0 := rfl
        have HNx := Lib.hid (all_take (p := waitR n) hlt HJ.out)
        have v1 : (0 : Int) ≤ (j : Int) := by omega
        have v2 : (j : Int) < (z.length : Int) := by omega
        have HCj := Lib.hid (HC.out (z.getD j 0))
        dsimp only at c1
        generalize z.getD j 0 = q at *
        subst ha
        have hfd : ∀ v w, (Instr.field 109 (prV n v) 6).run Tryd.prog w = .ok (.bool (prReset n)) w := fun _ _ => by kernel_rfl
        have HI0 : Hid (LineIn w ⟨n, c, k, r, z, b, o⟩ (.slice (some ⟨bb, off, none⟩) z.length cp) wr.drew ∧ wr.drew.cell? ⟨bb, off + j, none⟩ = some (.int .i64 q)) := Lib.hid ⟨HI.out.keep (below_drewN (Below.refl _ _) 1), cell_since (below_drewN (Below.refl _ _) 1) c1⟩
        have HSt : Hid (∀ W W', (LineIn w ⟨n, c, k, r, z, b, o⟩ (.slice (some ⟨bb, off, none⟩) z.length cp) W ∧ W.cell? ⟨bb, off + j, none⟩ = some (.int .i64 q)) → Below W.heap.size W W' → (LineIn w ⟨n, c, k, r, z, b, o⟩ (.slice (some ⟨bb, off, none⟩) z.length cp) W' ∧ W'.cell? ⟨bb, off + j, none⟩ = some (.int .i64 q))) := Lib.hid (fun W W' h bl => ⟨h.1.keep bl, cell_since bl h.2⟩)
        have ⟨x0, _, _, _, x4, _, _⟩ := ecCells HI.out.1
        clear HC HA HI
        cases hcan : canB n q
        · have HF : Hid (z.all (waitR n) = false) := Lib.hid (all_false (k := j + 1) (by rw [HNx.out, waitR, hcan]; rfl))
          rw [hcan] at HCj
          clear hcan HP
          go_wp2_with fail
          have hS : (fun W' : World => LineIn w ⟨n, c, k, r, z, b, o⟩ (.slice (some ⟨bb, off, none⟩) z.length cp) W' ∧ W'.cell? ⟨bb, off + j, none⟩ = some (.int .i64 q)) wr.drew := HI0.out
          refine wp_region_held (S := (fun W' : World => LineIn w ⟨n, c, k, r, z, b, o⟩ (.slice (some ⟨bb, off, none⟩) z.length cp) W' ∧ W'.cell? ⟨bb, off + j, none⟩ = some (.int .i64 q))) (by kernel_rfl) ?_
          refine wpAnyH_take (i := 0) (v := .pointer (some ⟨w.heap.size, 0, none⟩)) rfl (by kernel_rfl) (by kernel_rfl) (by kernel_rfl) (fun _ _ _ h => h) (.inl ⟨by kernel_rfl, fun w' hS' => by go_simp⟩) hS ?_
          refine wpAnyH_take (i := 1) (v := .int .i64 n) rfl (by kernel_rfl) (by kernel_rfl) (by kernel_rfl) (fun _ _ _ h => h) (.inl ⟨by kernel_rfl, fun w' hS' => by have y0 := (ecCells hS'.1.1).1; go_simp⟩) hS ?_
          refine wpAnyH_take (i := 2) (v := .pointer (some ⟨w.heap.size, 4, none⟩)) rfl (by kernel_rfl) (by kernel_rfl) (by kernel_rfl) (fun _ _ _ h => h) (.inl ⟨by kernel_rfl, fun w' hS' => by go_simp⟩) hS ?_
          refine wpAnyH_take (i := 3) (v := .slice (some ⟨bb, off, none⟩) z.length cp) rfl (by kernel_rfl) (by kernel_rfl) (by kernel_rfl) (fun _ _ _ h => h) (.inl ⟨by kernel_rfl, fun w' hS' => by have y4 := (ecCells hS'.1.1).2.2.2.2.1; go_simp⟩) hS ?_
          refine wpAnyH_take (i := 4) (v := .int .i64 j) rfl (by kernel_rfl) (by kernel_rfl) (by kernel_rfl) (fun _ _ _ h => h) (.inl ⟨by kernel_rfl, fun w' hS' => by go_simp⟩) hS ?_
          refine wpAnyH_take (i := 5) (v := .pointer (some ⟨bb, off + j, none⟩)) rfl (by kernel_rfl) (by kernel_rfl) (by kernel_rfl) (fun _ _ _ h => h) (.inl ⟨by kernel_rfl, fun w' hS' => by go_simp⟩) hS ?_
          refine wpAnyH_take (i := 6) (v := .int .i64 q) rfl (by kernel_rfl) (by kernel_rfl) (by kernel_rfl) (fun _ _ _ h => h) (.inl ⟨by kernel_rfl, fun w' hS' => by have y := hS'.2; go_simp⟩) hS ?_
          refine wpAnyH_ready (rs := [7]) (by kernel_rfl) (by simp) (AllReadyH.cons rfl (fun K hK => ?_) AllReadyH.nil)
          clear hS
          go_simp
          refine (HCj.out _).mono ?_
          rintro _ w1 ⟨rfl, b1⟩
          have H1 := Lib.hid (HSt.out _ _ HI0.out b1)
          refine hK.out _ _ H1.out (fun _ => ?_)
          clear hK K b1 HI0 x0 x4
          have hS : (fun W' : World => LineIn w ⟨n, c, k, r, z, b, o⟩ (.slice (some ⟨bb, off, none⟩) z.length cp) W' ∧ W'.cell? ⟨bb, off + j, none⟩ = some (.int .i64 q)) w1 := H1.out
          refine wpAnyH_take (i := 8) (v := .bool true) rfl (by kernel_rfl) (by kernel_rfl) (by kernel_rfl) (fun _ _ _ h => h) (.inl ⟨by kernel_rfl, fun w' hS' => by go_simp⟩) hS ?_
          refine wpAnyH_take (i := 9) (v := .bool true) rfl (by kernel_rfl) (by kernel_rfl) (by kernel_rfl) (fun _ _ _ h => h) (.inl ⟨by kernel_rfl, fun w' hS' => by go_simp⟩) hS ?_
          refine wpAnyH_take (i := 10) (v := undef) rfl (by kernel_rfl) (by kernel_rfl) (by kernel_rfl) (fun _ _ _ h => h) (.inr ⟨by kernel_rfl, rfl⟩) hS ?_
          refine wpAnyH_take (i := 11) (v := undef) rfl (by kernel_rfl) (by kernel_rfl) (by kernel_rfl) (fun _ _ _ h => h) (.inr ⟨by kernel_rfl, rfl⟩) hS ?_
          refine wpAnyH_take (i := 12) (v := undef) rfl (by kernel_rfl) (by kernel_rfl) (by kernel_rfl) (fun _ _ _ h => h) (.inr ⟨by kernel_rfl, rfl⟩) hS ?_
          refine wpAnyH_take (i := 13) (v := undef) rfl (by kernel_rfl) (by kernel_rfl) (by kernel_rfl) (fun _ _ _ h => h) (.inr ⟨by kernel_rfl, rfl⟩) hS ?_
          refine wpAnyH_take (i := 14) (v := undef) rfl (by kernel_rfl) (by kernel_rfl) (by kernel_rfl) (fun _ _ _ h => h) (.inr ⟨by kernel_rfl, rfl⟩) hS ?_
          refine wpAnyH_take (i := 15) (v := undef) rfl (by kernel_rfl) (by kernel_rfl) (by kernel_rfl) (fun _ _ _ h => h) (.inr ⟨by kernel_rfl, rfl⟩) hS ?_
          refine wpAnyH_take (i := 16) (v := undef) rfl (by kernel_rfl) (by kernel_rfl) (by kernel_rfl) (fun _ _ _ h => h) (.inr ⟨by kernel_rfl, rfl⟩) hS ?_
          refine wpAnyH_take (i := 17) (v := undef) rfl (by kernel_rfl) (by kernel_rfl) (by kernel_rfl) (fun _ _ _ h => h) (.inr ⟨by kernel_rfl, rfl⟩) hS ?_
          refine wpAnyH_take (i := 18) (v := undef) rfl (by kernel_rfl) (by kernel_rfl) (by kernel_rfl) (fun _ _ _ h => h) (.inr ⟨by kernel_rfl, rfl⟩) hS ?_
          refine wpAnyH_take (i := 19) (v := undef) rfl (by kernel_rfl) (by kernel_rfl) (by kernel_rfl) (fun _ _ _ h => h) (.inr ⟨by kernel_rfl, rfl⟩) hS ?_
          refine wpAnyH_take (i := 20) (v := undef) rfl (by kernel_rfl) (by kernel_rfl) (by kernel_rfl) (fun _ _ _ h => h) (.inr ⟨by kernel_rfl, rfl⟩) hS ?_
          refine wpAnyH_take (i := 21) (v := undef) rfl (by kernel_rfl) (by kernel_rfl) (by kernel_rfl) (fun _ _ _ h => h) (.inr ⟨by kernel_rfl, rfl⟩) hS ?_
          refine wpAnyH_take (i := 22) (v := .bool true) rfl (by kernel_rfl) (by kernel_rfl) (by kernel_rfl) (fun _ _ _ h => h) (.inl ⟨by kernel_rfl, fun w' hS' => by go_simp⟩) hS ?_
          refine wpAnyH_done (by kernel_rfl) ?_ _
          clear hS
          go_simp
          go_wp2
          go_ret
          exact ⟨ret_bool HF.out.symm, H1.out.1.2.2⟩
        · rw [hcan] at HCj
          by_cases hq : q = 10
          · have eq : (q == 10) = true := by simpa using hq
            have HPv : Hid (∀ v, prV n v = .agg #[.string (prName n), .string (prHead n), v, .bool (prRight n), .bool (prShifts n), .bool (prSingle n), .bool (prReset n), .bool (prClear n)]) := Lib.hid (fun _ => rfl)
            cases hre : prReset n
            · have HW : Hid ((z.take (j + 1)).all (waitR n) = true) := Lib.hid (by rw [HNx.out, waitR, hcan, hre]; simp)
              rw [hre] at hfd
              clear hcan hre hq
              go_wp2_with fail
              have hS : (fun W' : World => LineIn w ⟨n, c, k, r, z, b, o⟩ (.slice (some ⟨bb, off, none⟩) z.length cp) W' ∧ W'.cell? ⟨bb, off + j, none⟩ = some (.int .i64 q)) wr.drew := HI0.out
              refine wp_region_held (S := (fun W' : World => LineIn w ⟨n, c, k, r, z, b, o⟩ (.slice (some ⟨bb, off, none⟩) z.length cp) W' ∧ W'.cell? ⟨bb, off + j, none⟩ = some (.int .i64 q))) (by kernel_rfl) ?_
              refine wpAnyH_take (i := 0) (v := .pointer (some ⟨w.heap.size, 0, none⟩)) rfl (by kernel_rfl) (by kernel_rfl) (by kernel_rfl) (fun _ _ _ h => h) (.inl ⟨by kernel_rfl, fun w' hS' => by go_simp⟩) hS ?_
              refine wpAnyH_take (i := 1) (v := .int .i64 n) rfl (by kernel_rfl) (by kernel_rfl) (by kernel_rfl) (fun _ _ _ h => h) (.inl ⟨by kernel_rfl, fun w' hS' => by have y0 := (ecCells hS'.1.1).1; go_simp⟩) hS ?_
              refine wpAnyH_take (i := 2) (v := .pointer (some ⟨w.heap.size, 4, none⟩)) rfl (by kernel_rfl) (by kernel_rfl) (by kernel_rfl) (fun _ _ _ h => h) (.inl ⟨by kernel_rfl, fun w' hS' => by go_simp⟩) hS ?_
              refine wpAnyH_take (i := 3) (v := .slice (some ⟨bb, off, none⟩) z.length cp) rfl (by kernel_rfl) (by kernel_rfl) (by kernel_rfl) (fun _ _ _ h => h) (.inl ⟨by kernel_rfl, fun w' hS' => by have y4 := (ecCells hS'.1.1).2.2.2.2.1; go_simp⟩) hS ?_
              refine wpAnyH_take (i := 4) (v := .int .i64 j) rfl (by kernel_rfl) (by kernel_rfl) (by kernel_rfl) (fun _ _ _ h => h) (.inl ⟨by kernel_rfl, fun w' hS' => by go_simp⟩) hS ?_
              refine wpAnyH_take (i := 5) (v := .pointer (some ⟨bb, off + j, none⟩)) rfl (by kernel_rfl) (by kernel_rfl) (by kernel_rfl) (fun _ _ _ h => h) (.inl ⟨by kernel_rfl, fun w' hS' => by go_simp⟩) hS ?_
              refine wpAnyH_take (i := 6) (v := .int .i64 q) rfl (by kernel_rfl) (by kernel_rfl) (by kernel_rfl) (fun _ _ _ h => h) (.inl ⟨by kernel_rfl, fun w' hS' => by have y := hS'.2; go_simp⟩) hS ?_
              refine wpAnyH_ready (rs := [7]) (by kernel_rfl) (by simp) (AllReadyH.cons rfl (fun K hK => ?_) AllReadyH.nil)
              clear hS
              go_simp
              refine (HCj.out _).mono ?_
              rintro _ w1 ⟨rfl, b1⟩
              have H1 := Lib.hid (HSt.out _ _ HI0.out b1)
              refine hK.out _ _ H1.out (fun _ => ?_)
              clear hK K b1 HI0 x0 x4
              have hS : (fun W' : World => LineIn w ⟨n, c, k, r, z, b, o⟩ (.slice (some ⟨bb, off, none⟩) z.length cp) W' ∧ W'.cell? ⟨bb, off + j, none⟩ = some (.int .i64 q)) w1 := H1.out
              refine wpAnyH_take (i := 8) (v := .bool false) rfl (by kernel_rfl) (by kernel_rfl) (by kernel_rfl) (fun _ _ _ h => h) (.inl ⟨by kernel_rfl, fun w' hS' => by go_simp⟩) hS ?_
              refine wpAnyH_take (i := 9) (v := .bool false) rfl (by kernel_rfl) (by kernel_rfl) (by kernel_rfl) (fun _ _ _ h => h) (.inl ⟨by kernel_rfl, fun w' hS' => by go_simp⟩) hS ?_
              refine wpAnyH_take (i := 10) (v := .pointer (some ⟨w.heap.size, 4, none⟩)) rfl (by kernel_rfl) (by kernel_rfl) (by kernel_rfl) (fun _ _ _ h => h) (.inl ⟨by kernel_rfl, fun w' hS' => by go_simp⟩) hS ?_
              refine wpAnyH_take (i := 11) (v := .slice (some ⟨bb, off, none⟩) z.length cp) rfl (by kernel_rfl) (by kernel_rfl) (by kernel_rfl) (fun _ _ _ h => h) (.inl ⟨by kernel_rfl, fun w' hS' => by have y4 := (ecCells hS'.1.1).2.2.2.2.1; go_simp⟩) hS ?_
              refine wpAnyH_take (i := 12) (v := .int .i64 j) rfl (by kernel_rfl) (by kernel_rfl) (by kernel_rfl) (fun _ _ _ h => h) (.inl ⟨by kernel_rfl, fun w' hS' => by go_simp⟩) hS ?_
              refine wpAnyH_take (i := 13) (v := .pointer (some ⟨bb, off + j, none⟩)) rfl (by kernel_rfl) (by kernel_rfl) (by kernel_rfl) (fun _ _ _ h => h) (.inl ⟨by kernel_rfl, fun w' hS' => by go_simp⟩) hS ?_
              refine wpAnyH_take (i := 14) (v := .int .i64 q) rfl (by kernel_rfl) (by kernel_rfl) (by kernel_rfl) (fun _ _ _ h => h) (.inl ⟨by kernel_rfl, fun w' hS' => by have y := hS'.2; go_simp⟩) hS ?_
              refine wpAnyH_take (i := 15) (v := .bool true) rfl (by kernel_rfl) (by kernel_rfl) (by kernel_rfl) (fun _ _ _ h => h) (.inl ⟨by kernel_rfl, fun w' hS' => by go_simp⟩) hS ?_
              refine wpAnyH_take (i := 16) (v := .bool true) rfl (by kernel_rfl) (by kernel_rfl) (by kernel_rfl) (fun _ _ _ h => h) (.inl ⟨by kernel_rfl, fun w' hS' => by go_simp⟩) hS ?_
              refine wpAnyH_take (i := 17) (v := .pointer (some ⟨w.heap.size, 0, none⟩)) rfl (by kernel_rfl) (by kernel_rfl) (by kernel_rfl) (fun _ _ _ h => h) (.inl ⟨by kernel_rfl, fun w' hS' => by go_simp⟩) hS ?_
              refine wpAnyH_take (i := 18) (v := .int .i64 n) rfl (by kernel_rfl) (by kernel_rfl) (by kernel_rfl) (fun _ _ _ h => h) (.inl ⟨by kernel_rfl, fun w' hS' => by have y0 := (ecCells hS'.1.1).1; go_simp⟩) hS ?_
              refine wpAnyH_ready (rs := [19]) (by kernel_rfl) (by simp) (AllReadyH.cons rfl (fun K hK => ?_) AllReadyH.nil)
              clear hS
              go_simp
              refine (HP.out _).mono ?_
              rintro _ w2 ⟨pv, rfl, _, b2⟩
              have H2 := Lib.hid (HSt.out _ _ H1.out b2)
              refine hK.out _ _ H2.out (fun _ => ?_)
              clear hK K b2
              have hS : (fun W' : World => LineIn w ⟨n, c, k, r, z, b, o⟩ (.slice (some ⟨bb, off, none⟩) z.length cp) W' ∧ W'.cell? ⟨bb, off + j, none⟩ = some (.int .i64 q)) w2 := H2.out
              refine wpAnyH_take (i := 20) (v := .bool false) rfl (by kernel_rfl) (by kernel_rfl) (by kernel_rfl) (fun _ _ _ h => h) (.inl ⟨by kernel_rfl, fun w' hS' => by have y := hfd pv w'; go_simp⟩) hS ?_
              refine wpAnyH_take (i := 21) (v := .bool false) rfl (by kernel_rfl) (by kernel_rfl) (by kernel_rfl) (fun _ _ _ h => h) (.inl ⟨by kernel_rfl, fun w' hS' => by go_simp⟩) hS ?_
              refine wpAnyH_take (i := 22) (v := .bool false) rfl (by kernel_rfl) (by kernel_rfl) (by kernel_rfl) (fun _ _ _ h => h) (.inl ⟨by kernel_rfl, fun w' hS' => by go_simp⟩) hS ?_
              refine wpAnyH_done (by kernel_rfl) ?_ _
              clear hS
              go_simp
              go_wp2
              go_roundw
              case rel => exact ⟨j + 1, by omega, by go_num, HW, Lib.hid H2.out.1⟩
              case measure => simp [intOf]; omega
            · have HF : Hid (z.all (waitR n) = false) := Lib.hid (all_false (k := j + 1) (by rw [HNx.out, waitR, hcan, hre, hq]; rfl))
              rw [hre] at hfd
              clear hcan hre hq
              go_wp2_with fail
              have hS : (fun W' : World => LineIn w ⟨n, c, k, r, z, b, o⟩ (.slice (some ⟨bb, off, none⟩) z.length cp) W' ∧ W'.cell? ⟨bb, off + j, none⟩ = some (.int .i64 q)) wr.drew := HI0.out
              refine wp_region_held (S := (fun W' : World => LineIn w ⟨n, c, k, r, z, b, o⟩ (.slice (some ⟨bb, off, none⟩) z.length cp) W' ∧ W'.cell? ⟨bb, off + j, none⟩ = some (.int .i64 q))) (by kernel_rfl) ?_
              refine wpAnyH_take (i := 0) (v := .pointer (some ⟨w.heap.size, 0, none⟩)) rfl (by kernel_rfl) (by kernel_rfl) (by kernel_rfl) (fun _ _ _ h => h) (.inl ⟨by kernel_rfl, fun w' hS' => by go_simp⟩) hS ?_
              refine wpAnyH_take (i := 1) (v := .int .i64 n) rfl (by kernel_rfl) (by kernel_rfl) (by kernel_rfl) (fun _ _ _ h => h) (.inl ⟨by kernel_rfl, fun w' hS' => by have y0 := (ecCells hS'.1.1).1; go_simp⟩) hS ?_
              refine wpAnyH_take (i := 2) (v := .pointer (some ⟨w.heap.size, 4, none⟩)) rfl (by kernel_rfl) (by kernel_rfl) (by kernel_rfl) (fun _ _ _ h => h) (.inl ⟨by kernel_rfl, fun w' hS' => by go_simp⟩) hS ?_
              refine wpAnyH_take (i := 3) (v := .slice (some ⟨bb, off, none⟩) z.length cp) rfl (by kernel_rfl) (by kernel_rfl) (by kernel_rfl) (fun _ _ _ h => h) (.inl ⟨by kernel_rfl, fun w' hS' => by have y4 := (ecCells hS'.1.1).2.2.2.2.1; go_simp⟩) hS ?_
              refine wpAnyH_take (i := 4) (v := .int .i64 j) rfl (by kernel_rfl) (by kernel_rfl) (by kernel_rfl) (fun _ _ _ h => h) (.inl ⟨by kernel_rfl, fun w' hS' => by go_simp⟩) hS ?_
              refine wpAnyH_take (i := 5) (v := .pointer (some ⟨bb, off + j, none⟩)) rfl (by kernel_rfl) (by kernel_rfl) (by kernel_rfl) (fun _ _ _ h => h) (.inl ⟨by kernel_rfl, fun w' hS' => by go_simp⟩) hS ?_
              refine wpAnyH_take (i := 6) (v := .int .i64 q) rfl (by kernel_rfl) (by kernel_rfl) (by kernel_rfl) (fun _ _ _ h => h) (.inl ⟨by kernel_rfl, fun w' hS' => by have y := hS'.2; go_simp⟩) hS ?_
              refine wpAnyH_ready (rs := [7]) (by kernel_rfl) (by simp) (AllReadyH.cons rfl (fun K hK => ?_) AllReadyH.nil)
              clear hS
              go_simp
              refine (HCj.out _).mono ?_
              rintro _ w1 ⟨rfl, b1⟩
              have H1 := Lib.hid (HSt.out _ _ HI0.out b1)
              refine hK.out _ _ H1.out (fun _ => ?_)
              clear hK K b1 HI0 x0 x4
              have hS : (fun W' : World => LineIn w ⟨n, c, k, r, z, b, o⟩ (.slice (some ⟨bb, off, none⟩) z.length cp) W' ∧ W'.cell? ⟨bb, off + j, none⟩ = some (.int .i64 q)) w1 := H1.out
              refine wpAnyH_take (i := 8) (v := .bool false) rfl (by kernel_rfl) (by kernel_rfl) (by kernel_rfl) (fun _ _ _ h => h) (.inl ⟨by kernel_rfl, fun w' hS' => by go_simp⟩) hS ?_
              refine wpAnyH_take (i := 9) (v := .bool false) rfl (by kernel_rfl) (by kernel_rfl) (by kernel_rfl) (fun _ _ _ h => h) (.inl ⟨by kernel_rfl, fun w' hS' => by go_simp⟩) hS ?_
              refine wpAnyH_take (i := 10) (v := .pointer (some ⟨w.heap.size, 4, none⟩)) rfl (by kernel_rfl) (by kernel_rfl) (by kernel_rfl) (fun _ _ _ h => h) (.inl ⟨by kernel_rfl, fun w' hS' => by go_simp⟩) hS ?_
              refine wpAnyH_take (i := 11) (v := .slice (some ⟨bb, off, none⟩) z.length cp) rfl (by kernel_rfl) (by kernel_rfl) (by kernel_rfl) (fun _ _ _ h => h) (.inl ⟨by kernel_rfl, fun w' hS' => by have y4 := (ecCells hS'.1.1).2.2.2.2.1; go_simp⟩) hS ?_
              refine wpAnyH_take (i := 12) (v := .int .i64 j) rfl (by kernel_rfl) (by kernel_rfl) (by kernel_rfl) (fun _ _ _ h => h) (.inl ⟨by kernel_rfl, fun w' hS' => by go_simp⟩) hS ?_
              refine wpAnyH_take (i := 13) (v := .pointer (some ⟨bb, off + j, none⟩)) rfl (by kernel_rfl) (by kernel_rfl) (by kernel_rfl) (fun _ _ _ h => h) (.inl ⟨by kernel_rfl, fun w' hS' => by go_simp⟩) hS ?_
              refine wpAnyH_take (i := 14) (v := .int .i64 q) rfl (by kernel_rfl) (by kernel_rfl) (by kernel_rfl) (fun _ _ _ h => h) (.inl ⟨by kernel_rfl, fun w' hS' => by have y := hS'.2; go_simp⟩) hS ?_
              refine wpAnyH_take (i := 15) (v := .bool true) rfl (by kernel_rfl) (by kernel_rfl) (by kernel_rfl) (fun _ _ _ h => h) (.inl ⟨by kernel_rfl, fun w' hS' => by go_simp⟩) hS ?_
              refine wpAnyH_take (i := 16) (v := .bool true) rfl (by kernel_rfl) (by kernel_rfl) (by kernel_rfl) (fun _ _ _ h => h) (.inl ⟨by kernel_rfl, fun w' hS' => by go_simp⟩) hS ?_
              refine wpAnyH_take (i := 17) (v := .pointer (some ⟨w.heap.size, 0, none⟩)) rfl (by kernel_rfl) (by kernel_rfl) (by kernel_rfl) (fun _ _ _ h => h) (.inl ⟨by kernel_rfl, fun w' hS' => by go_simp⟩) hS ?_
              refine wpAnyH_take (i := 18) (v := .int .i64 n) rfl (by kernel_rfl) (by kernel_rfl) (by kernel_rfl) (fun _ _ _ h => h) (.inl ⟨by kernel_rfl, fun w' hS' => by have y0 := (ecCells hS'.1.1).1; go_simp⟩) hS ?_
              refine wpAnyH_ready (rs := [19]) (by kernel_rfl) (by simp) (AllReadyH.cons rfl (fun K hK => ?_) AllReadyH.nil)
              clear hS
              go_simp
              refine (HP.out _).mono ?_
              rintro _ w2 ⟨pv, rfl, _, b2⟩
              have H2 := Lib.hid (HSt.out _ _ H1.out b2)
              refine hK.out _ _ H2.out (fun _ => ?_)
              clear hK K b2
              have hS : (fun W' : World => LineIn w ⟨n, c, k, r, z, b, o⟩ (.slice (some ⟨bb, off, none⟩) z.length cp) W' ∧ W'.cell? ⟨bb, off + j, none⟩ = some (.int .i64 q)) w2 := H2.out
              refine wpAnyH_take (i := 20) (v := .bool true) rfl (by kernel_rfl) (by kernel_rfl) (by kernel_rfl) (fun _ _ _ h => h) (.inl ⟨by kernel_rfl, fun w' hS' => by have y := hfd pv w'; go_simp⟩) hS ?_
              refine wpAnyH_take (i := 21) (v := .bool true) rfl (by kernel_rfl) (by kernel_rfl) (by kernel_rfl) (fun _ _ _ h => h) (.inl ⟨by kernel_rfl, fun w' hS' => by go_simp⟩) hS ?_
              refine wpAnyH_take (i := 22) (v := .bool true) rfl (by kernel_rfl) (by kernel_rfl) (by kernel_rfl) (fun _ _ _ h => h) (.inl ⟨by kernel_rfl, fun w' hS' => by go_simp⟩) hS ?_
              refine wpAnyH_done (by kernel_rfl) ?_ _
              clear hS
              go_simp
              go_wp2
              go_ret
              exact ⟨ret_bool HF.out.symm, H2.out.1.2.2⟩
          · have eq : (q == 10) = false := by simpa using hq
            have HW : Hid ((z.take (j + 1)).all (waitR n) = true) := Lib.hid (by rw [HNx.out, waitR, hcan, decide_eq_false hq]; rfl)
            clear hcan HP hq
            go_wp2_with fail
            have hS : (fun W' : World => LineIn w ⟨n, c, k, r, z, b, o⟩ (.slice (some ⟨bb, off, none⟩) z.length cp) W' ∧ W'.cell? ⟨bb, off + j, none⟩ = some (.int .i64 q)) wr.drew := HI0.out
            refine wp_region_held (S := (fun W' : World => LineIn w ⟨n, c, k, r, z, b, o⟩ (.slice (some ⟨bb, off, none⟩) z.length cp) W' ∧ W'.cell? ⟨bb, off + j, none⟩ = some (.int .i64 q))) (by kernel_rfl) ?_
            refine wpAnyH_take (i := 0) (v := .pointer (some ⟨w.heap.size, 0, none⟩)) rfl (by kernel_rfl) (by kernel_rfl) (by kernel_rfl) (fun _ _ _ h => h) (.inl ⟨by kernel_rfl, fun w' hS' => by go_simp⟩) hS ?_
            refine wpAnyH_take (i := 1) (v := .int .i64 n) rfl (by kernel_rfl) (by kernel_rfl) (by kernel_rfl) (fun _ _ _ h => h) (.inl ⟨by kernel_rfl, fun w' hS' => by have y0 := (ecCells hS'.1.1).1; go_simp⟩) hS ?_
            refine wpAnyH_take (i := 2) (v := .pointer (some ⟨w.heap.size, 4, none⟩)) rfl (by kernel_rfl) (by kernel_rfl) (by kernel_rfl) (fun _ _ _ h => h) (.inl ⟨by kernel_rfl, fun w' hS' => by go_simp⟩) hS ?_
            refine wpAnyH_take (i := 3) (v := .slice (some ⟨bb, off, none⟩) z.length cp) rfl (by kernel_rfl) (by kernel_rfl) (by kernel_rfl) (fun _ _ _ h => h) (.inl ⟨by kernel_rfl, fun w' hS' => by have y4 := (ecCells hS'.1.1).2.2.2.2.1; go_simp⟩) hS ?_
            refine wpAnyH_take (i := 4) (v := .int .i64 j) rfl (by kernel_rfl) (by kernel_rfl) (by kernel_rfl) (fun _ _ _ h => h) (.inl ⟨by kernel_rfl, fun w' hS' => by go_simp⟩) hS ?_
            refine wpAnyH_take (i := 5) (v := .pointer (some ⟨bb, off + j, none⟩)) rfl (by kernel_rfl) (by kernel_rfl) (by kernel_rfl) (fun _ _ _ h => h) (.inl ⟨by kernel_rfl, fun w' hS' => by go_simp⟩) hS ?_
            refine wpAnyH_take (i := 6) (v := .int .i64 q) rfl (by kernel_rfl) (by kernel_rfl) (by kernel_rfl) (fun _ _ _ h => h) (.inl ⟨by kernel_rfl, fun w' hS' => by have y := hS'.2; go_simp⟩) hS ?_
            refine wpAnyH_ready (rs := [7]) (by kernel_rfl) (by simp) (AllReadyH.cons rfl (fun K hK => ?_) AllReadyH.nil)
            clear hS
            go_simp
            refine (HCj.out _).mono ?_
            rintro _ w1 ⟨rfl, b1⟩
            have H1 := Lib.hid (HSt.out _ _ HI0.out b1)
            refine hK.out _ _ H1.out (fun _ => ?_)
            clear hK K b1 HI0 x0 x4
            have hS : (fun W' : World => LineIn w ⟨n, c, k, r, z, b, o⟩ (.slice (some ⟨bb, off, none⟩) z.length cp) W' ∧ W'.cell? ⟨bb, off + j, none⟩ = some (.int .i64 q)) w1 := H1.out
            refine wpAnyH_take (i := 8) (v := .bool false) rfl (by kernel_rfl) (by kernel_rfl) (by kernel_rfl) (fun _ _ _ h => h) (.inl ⟨by kernel_rfl, fun w' hS' => by go_simp⟩) hS ?_
            refine wpAnyH_take (i := 9) (v := .bool false) rfl (by kernel_rfl) (by kernel_rfl) (by kernel_rfl) (fun _ _ _ h => h) (.inl ⟨by kernel_rfl, fun w' hS' => by go_simp⟩) hS ?_
            refine wpAnyH_take (i := 10) (v := .pointer (some ⟨w.heap.size, 4, none⟩)) rfl (by kernel_rfl) (by kernel_rfl) (by kernel_rfl) (fun _ _ _ h => h) (.inl ⟨by kernel_rfl, fun w' hS' => by go_simp⟩) hS ?_
            refine wpAnyH_take (i := 11) (v := .slice (some ⟨bb, off, none⟩) z.length cp) rfl (by kernel_rfl) (by kernel_rfl) (by kernel_rfl) (fun _ _ _ h => h) (.inl ⟨by kernel_rfl, fun w' hS' => by have y4 := (ecCells hS'.1.1).2.2.2.2.1; go_simp⟩) hS ?_
            refine wpAnyH_take (i := 12) (v := .int .i64 j) rfl (by kernel_rfl) (by kernel_rfl) (by kernel_rfl) (fun _ _ _ h => h) (.inl ⟨by kernel_rfl, fun w' hS' => by go_simp⟩) hS ?_
            refine wpAnyH_take (i := 13) (v := .pointer (some ⟨bb, off + j, none⟩)) rfl (by kernel_rfl) (by kernel_rfl) (by kernel_rfl) (fun _ _ _ h => h) (.inl ⟨by kernel_rfl, fun w' hS' => by go_simp⟩) hS ?_
            refine wpAnyH_take (i := 14) (v := .int .i64 q) rfl (by kernel_rfl) (by kernel_rfl) (by kernel_rfl) (fun _ _ _ h => h) (.inl ⟨by kernel_rfl, fun w' hS' => by have y := hS'.2; go_simp⟩) hS ?_
            refine wpAnyH_take (i := 15) (v := .bool false) rfl (by kernel_rfl) (by kernel_rfl) (by kernel_rfl) (fun _ _ _ h => h) (.inl ⟨by kernel_rfl, fun w' hS' => by go_simp⟩) hS ?_
            refine wpAnyH_take (i := 16) (v := .bool false) rfl (by kernel_rfl) (by kernel_rfl) (by kernel_rfl) (fun _ _ _ h => h) (.inl ⟨by kernel_rfl, fun w' hS' => by go_simp⟩) hS ?_
            refine wpAnyH_take (i := 17) (v := undef) rfl (by kernel_rfl) (by kernel_rfl) (by kernel_rfl) (fun _ _ _ h => h) (.inr ⟨by kernel_rfl, rfl⟩) hS ?_
            refine wpAnyH_take (i := 18) (v := undef) rfl (by kernel_rfl) (by kernel_rfl) (by kernel_rfl) (fun _ _ _ h => h) (.inr ⟨by kernel_rfl, rfl⟩) hS ?_
            refine wpAnyH_take (i := 19) (v := undef) rfl (by kernel_rfl) (by kernel_rfl) (by kernel_rfl) (fun _ _ _ h => h) (.inr ⟨by kernel_rfl, rfl⟩) hS ?_
            refine wpAnyH_take (i := 20) (v := undef) rfl (by kernel_rfl) (by kernel_rfl) (by kernel_rfl) (fun _ _ _ h => h) (.inr ⟨by kernel_rfl, rfl⟩) hS ?_
            refine wpAnyH_take (i := 21) (v := .bool false) rfl (by kernel_rfl) (by kernel_rfl) (by kernel_rfl) (fun _ _ _ h => h) (.inl ⟨by kernel_rfl, fun w' hS' => by go_simp⟩) hS ?_
            refine wpAnyH_take (i := 22) (v := .bool false) rfl (by kernel_rfl) (by kernel_rfl) (by kernel_rfl) (fun _ _ _ h => h) (.inl ⟨by kernel_rfl, fun w' hS' => by go_simp⟩) hS ?_
            refine wpAnyH_done (by kernel_rfl) ?_ _
            clear hS
            go_simp
            go_wp2
            go_roundw
            case rel => exact ⟨j + 1, by omega, by go_num, HW, Lib.hid H1.out.1⟩
            case measure => simp [intOf]; omega
      · have HE : Hid (z.all (waitR n) = true) := Lib.hid (by have := HJ.out; rwa [List.take_of_length_le (by omega)] at this)
        have v2 : ¬ (j : Int) < (z.length : Int) := by omega
        have ⟨x0, _, _, _, x4, _, _⟩ := ecCells HI.out.1
        go_wp2
        go_ret
        exact ⟨ret_bool HE.out.symm, HI.out.2.2⟩

end Go.Proofs.YtdckjhobikfggaaDoor

namespace Go.Proofs.YtdckjhobikfggaaDoor
open Go.RowKit

theorem ecOK_n {e : Ec} (h : proB e.n = false) : ecOK e = false := by unfold ecOK; rw [h, Bool.false_and]
theorem ecOK_c {e : Ec} (h : inB e.c e.z.length 1000000000 = false) : ecOK e = false := by unfold ecOK; rw [h, Bool.false_and, Bool.and_false]
theorem ecOK_k {e : Ec} (h : inB e.k 0 18 = false) : ecOK e = false := by unfold ecOK; rw [h]; simp
theorem ecOK_r {e : Ec} (h : restE e.r = false) : ecOK e = false := by unfold ecOK; rw [h]; simp
theorem ecOK_l {e : Ec} (h : lineE e.n e.z = false) : ecOK e = false := by unfold ecOK; rw [h]; simp
theorem ecOK_end {e : Ec} (h1 : proB e.n = true) (h2 : inB e.c e.z.length 1000000000 = true) (h3 : inB e.k 0 18 = true) (h4 : restE e.r = true) (h5 : lineE e.n e.z = true) :
    ecOK e = ((!e.o || (decide (e.r.size = 0) && decide (e.z.length = 0))) && (decide (e.k = 0) || e.o)) := by
  unfold ecOK
  rw [h1, h2, h3, h4, h5, Bool.true_and, Bool.true_and, Bool.true_and, Bool.true_and, Bool.true_and]

set_option maxHeartbeats 4000000 in
set_option maxRecDepth 100000 in
theorem spec_l09OK (e : Ec) (v : Value) (w : World) (hv : Ints .i64 w v e.z) (hl : e.z.length ≤ 1048576) (hr : e.r.size ≤ 1048576) : Calls Tryd.prog 64 #[ecV e v] w fun x w' => x = .returned (.bool (ecOK e)) ∧ Below w.heap.size w w' := by
  have hform : ∃ a c, v = .slice a e.z.length c := by
    rcases hv with ⟨h, a, c, rfl⟩ | ⟨b, off, c, rfl, _⟩
    · exact ⟨a, c, by rw [h]; rfl⟩
    · exact ⟨_, c, rfl⟩
  obtain ⟨a, cp, rfl⟩ := hform
  have HN := Lib.hid (fun w => spec_l05No e.n w)
  have HC := Lib.hid (fun w => spec_l01In e.c e.z.length 1000000000 w)
  have HK := Lib.hid (fun w => spec_l01In e.k 0 18 w)
  have HR := Lib.hid (fun w => spec_l09Rest e.r w hr)
  have HL := Lib.hid (fun w h => spec_l09Line e (.slice a e.z.length cp) w h hl)
  have D0 := Lib.hid (EcAt.new w e (.slice a e.z.length cp))
  have B0 := Lib.hid (ecBelow1 w (.cells #[.int .i64 e.n, .int .i64 e.c, .int .i64 e.k, .string e.r, (.slice a e.z.length cp), .bool e.b, .bool e.o] 57))
  have I0 := Lib.hid (hv.keep (ecBelow1 w (.cells #[.int .i64 e.n, .int .i64 e.c, .int .i64 e.k, .string e.r, (.slice a e.z.length cp), .bool e.b, .bool e.o] 57)))
  clear hv hl hr
  cases h1 : proB e.n
  · rw [ecOK_n h1]
    rw [h1] at HN
    obtain ⟨n, c, k, r, z, b, o⟩ := e
    unfold ecV
    dsimp only at *
    clear h1
    go_enter Tryd.func64, Tryd.ntmps64
    go_wp2_with fail
    refine (HN.out _).mono ?_
    rintro _ w1 ⟨rfl, rfl⟩
    go_wp2
    go_ret
    exact ⟨rfl, B0.out⟩
  rw [h1] at HN
  cases h2 : inB e.c e.z.length 1000000000
  · rw [ecOK_c h2]
    rw [h2] at HC
    obtain ⟨n, c, k, r, z, b, o⟩ := e
    unfold ecV at *
    dsimp only at *
    clear h1 h2
    go_enter Tryd.func64, Tryd.ntmps64
    go_wp2_with fail
    refine (HN.out _).mono ?_
    rintro _ w1 ⟨rfl, rfl⟩
    go_wp2_with fail
    refine (HC.out _).mono ?_
    rintro _ w1 ⟨rfl, rfl⟩
    go_wp2
    go_ret
    exact ⟨rfl, B0.out⟩
  rw [h2] at HC
  cases h3 : inB e.k 0 18
  · rw [ecOK_k h3]
    rw [h3] at HK
    obtain ⟨n, c, k, r, z, b, o⟩ := e
    unfold ecV at *
    dsimp only at *
    clear h1 h2 h3
    go_enter Tryd.func64, Tryd.ntmps64
    go_wp2_with fail
    refine (HN.out _).mono ?_
    rintro _ w1 ⟨rfl, rfl⟩
    go_wp2_with fail
    refine (HC.out _).mono ?_
    rintro _ w1 ⟨rfl, rfl⟩
    go_wp2_with fail
    refine (HK.out _).mono ?_
    rintro _ w1 ⟨rfl, rfl⟩
    go_wp2
    go_ret
    exact ⟨rfl, B0.out⟩
  rw [h3] at HK
  cases h4 : restE e.r
  · rw [ecOK_r h4]
    rw [h4] at HR
    obtain ⟨n, c, k, r, z, b, o⟩ := e
    unfold ecV at *
    dsimp only at *
    clear h1 h2 h3 h4
    go_enter Tryd.func64, Tryd.ntmps64
    go_wp2_with fail
    refine (HN.out _).mono ?_
    rintro _ w1 ⟨rfl, rfl⟩
    go_wp2_with fail
    refine (HC.out _).mono ?_
    rintro _ w1 ⟨rfl, rfl⟩
    go_wp2_with fail
    refine (HK.out _).mono ?_
    rintro _ w1 ⟨rfl, rfl⟩
    go_wp2_with fail
    refine (HR.out _).mono ?_
    generalize w.alloc (.cells #[.int .i64 n, .int .i64 c, .int .i64 k, .string r, (.slice a z.length cp), .bool b, .bool o] 57) = W0 at *
    rintro _ w1 ⟨rfl, b1⟩
    have D1 := Lib.hid (D0.out.keep b1)
    have B1 := Lib.hid (B0.out.trans (b1.mono B0.out.size))
    have I1 := Lib.hid (I0.out.keep b1)
    have ⟨y0, y1, y2, y3, y4, y5, y6⟩ := ecCells D1.out
    clear b1 D0 B0 I0
    go_wp2
    go_ret
    exact ⟨rfl, B1.out⟩
  rw [h4] at HR
  cases h5 : lineE e.n e.z
  · rw [ecOK_l h5]
    rw [h5] at HL
    obtain ⟨n, c, k, r, z, b, o⟩ := e
    unfold ecV at *
    dsimp only at *
    clear h1 h2 h3 h4 h5
    go_enter Tryd.func64, Tryd.ntmps64
    go_wp2_with fail
    refine (HN.out _).mono ?_
    rintro _ w1 ⟨rfl, rfl⟩
    go_wp2_with fail
    refine (HC.out _).mono ?_
    rintro _ w1 ⟨rfl, rfl⟩
    go_wp2_with fail
    refine (HK.out _).mono ?_
    rintro _ w1 ⟨rfl, rfl⟩
    go_wp2_with fail
    refine (HR.out _).mono ?_
    generalize w.alloc (.cells #[.int .i64 n, .int .i64 c, .int .i64 k, .string r, (.slice a z.length cp), .bool b, .bool o] 57) = W0 at *
    rintro _ w1 ⟨rfl, b1⟩
    have D1 := Lib.hid (D0.out.keep b1)
    have B1 := Lib.hid (B0.out.trans (b1.mono B0.out.size))
    have I1 := Lib.hid (I0.out.keep b1)
    have ⟨y0, y1, y2, y3, y4, y5, y6⟩ := ecCells D1.out
    clear b1 D0 B0 I0
    go_wp2_with fail
    refine (HL.out _ I1.out).mono ?_
    clear y0 y1 y2 y3 y4 y5 y6
    rintro _ w2 ⟨rfl, b2⟩
    have D2 := Lib.hid (D1.out.keep b2)
    have B2 := Lib.hid (B1.out.trans (b2.mono B1.out.size))
    have ⟨z0, z1, z2, z3, z4, z5, z6⟩ := ecCells D2.out
    clear b2 D1 B1 I1
    go_wp2
    go_ret
    exact ⟨rfl, B2.out⟩
  rw [h5] at HL
  rw [ecOK_end h1 h2 h3 h4 h5]
  clear h1 h2 h3 h4 h5
  obtain ⟨n, c, k, r, z, b, o⟩ := e
  unfold ecV at *
  dsimp only at *
  cases o
  · by_cases hk : k = 0
    · have ek : (k == 0) = true := by simpa using hk
      rw [decide_eq_true hk]
      clear hk
      go_enter Tryd.func64, Tryd.ntmps64
      go_wp2_with fail
      refine (HN.out _).mono ?_
      rintro _ w1 ⟨rfl, rfl⟩
      go_wp2_with fail
      refine (HC.out _).mono ?_
      rintro _ w1 ⟨rfl, rfl⟩
      go_wp2_with fail
      refine (HK.out _).mono ?_
      rintro _ w1 ⟨rfl, rfl⟩
      go_wp2_with fail
      refine (HR.out _).mono ?_
      generalize w.alloc (.cells #[.int .i64 n, .int .i64 c, .int .i64 k, .string r, (.slice a z.length cp), .bool b, .bool false] 57) = W0 at *
      rintro _ w1 ⟨rfl, b1⟩
      have D1 := Lib.hid (D0.out.keep b1)
      have B1 := Lib.hid (B0.out.trans (b1.mono B0.out.size))
      have I1 := Lib.hid (I0.out.keep b1)
      have ⟨y0, y1, y2, y3, y4, y5, y6⟩ := ecCells D1.out
      clear b1 D0 B0 I0
      go_wp2_with fail
      refine (HL.out _ I1.out).mono ?_
      clear y0 y1 y2 y3 y4 y5 y6
      rintro _ w2 ⟨rfl, b2⟩
      have D2 := Lib.hid (D1.out.keep b2)
      have B2 := Lib.hid (B1.out.trans (b2.mono B1.out.size))
      have ⟨z0, z1, z2, z3, z4, z5, z6⟩ := ecCells D2.out
      clear b2 D1 B1 I1
      go_wp2
      go_ret
      exact ⟨rfl, B2.out⟩
    · have ek : (k == 0) = false := by rw [beq_eq_false_iff_ne]; exact hk
      rw [decide_eq_false hk]
      clear hk
      go_enter Tryd.func64, Tryd.ntmps64
      go_wp2_with fail
      refine (HN.out _).mono ?_
      rintro _ w1 ⟨rfl, rfl⟩
      go_wp2_with fail
      refine (HC.out _).mono ?_
      rintro _ w1 ⟨rfl, rfl⟩
      go_wp2_with fail
      refine (HK.out _).mono ?_
      rintro _ w1 ⟨rfl, rfl⟩
      go_wp2_with fail
      refine (HR.out _).mono ?_
      generalize w.alloc (.cells #[.int .i64 n, .int .i64 c, .int .i64 k, .string r, (.slice a z.length cp), .bool b, .bool false] 57) = W0 at *
      rintro _ w1 ⟨rfl, b1⟩
      have D1 := Lib.hid (D0.out.keep b1)
      have B1 := Lib.hid (B0.out.trans (b1.mono B0.out.size))
      have I1 := Lib.hid (I0.out.keep b1)
      have ⟨y0, y1, y2, y3, y4, y5, y6⟩ := ecCells D1.out
      clear b1 D0 B0 I0
      go_wp2_with fail
      refine (HL.out _ I1.out).mono ?_
      clear y0 y1 y2 y3 y4 y5 y6
      rintro _ w2 ⟨rfl, b2⟩
      have D2 := Lib.hid (D1.out.keep b2)
      have B2 := Lib.hid (B1.out.trans (b2.mono B1.out.size))
      have ⟨z0, z1, z2, z3, z4, z5, z6⟩ := ecCells D2.out
      clear b2 D1 B1 I1
      go_wp2
      go_ret
      exact ⟨rfl, B2.out⟩
  · by_cases h0 : r.size = 0
    · have er := ecEmpty h0
      rw [decide_eq_true h0]
      clear h0
      by_cases hz : z.length = 0
      · have ez : ((z.length : Int) == 0) = true := by rw [beq_iff_eq]; omega
        rw [decide_eq_true hz]
        clear hz
        by_cases hk : k = 0
        · have ek : (k == 0) = true := by simpa using hk
          rw [decide_eq_true hk]
          clear hk
          go_enter Tryd.func64, Tryd.ntmps64
          go_wp2_with fail
          refine (HN.out _).mono ?_
          rintro _ w1 ⟨rfl, rfl⟩
          go_wp2_with fail
          refine (HC.out _).mono ?_
          rintro _ w1 ⟨rfl, rfl⟩
          go_wp2_with fail
          refine (HK.out _).mono ?_
          rintro _ w1 ⟨rfl, rfl⟩
          go_wp2_with fail
          refine (HR.out _).mono ?_
          generalize w.alloc (.cells #[.int .i64 n, .int .i64 c, .int .i64 k, .string r, (.slice a z.length cp), .bool b, .bool true] 57) = W0 at *
          rintro _ w1 ⟨rfl, b1⟩
          have D1 := Lib.hid (D0.out.keep b1)
          have B1 := Lib.hid (B0.out.trans (b1.mono B0.out.size))
          have I1 := Lib.hid (I0.out.keep b1)
          have ⟨y0, y1, y2, y3, y4, y5, y6⟩ := ecCells D1.out
          clear b1 D0 B0 I0
          go_wp2_with fail
          refine (HL.out _ I1.out).mono ?_
          clear y0 y1 y2 y3 y4 y5 y6
          rintro _ w2 ⟨rfl, b2⟩
          have D2 := Lib.hid (D1.out.keep b2)
          have B2 := Lib.hid (B1.out.trans (b2.mono B1.out.size))
          have ⟨z0, z1, z2, z3, z4, z5, z6⟩ := ecCells D2.out
          clear b2 D1 B1 I1
          go_wp2
          go_ret
          exact ⟨rfl, B2.out⟩
        · have ek : (k == 0) = false := by rw [beq_eq_false_iff_ne]; exact hk
          rw [decide_eq_false hk]
          clear hk
          go_enter Tryd.func64, Tryd.ntmps64
          go_wp2_with fail
          refine (HN.out _).mono ?_
          rintro _ w1 ⟨rfl, rfl⟩
          go_wp2_with fail
          refine (HC.out _).mono ?_
          rintro _ w1 ⟨rfl, rfl⟩
          go_wp2_with fail
          refine (HK.out _).mono ?_
          rintro _ w1 ⟨rfl, rfl⟩
          go_wp2_with fail
          refine (HR.out _).mono ?_
          generalize w.alloc (.cells #[.int .i64 n, .int .i64 c, .int .i64 k, .string r, (.slice a z.length cp), .bool b, .bool true] 57) = W0 at *
          rintro _ w1 ⟨rfl, b1⟩
          have D1 := Lib.hid (D0.out.keep b1)
          have B1 := Lib.hid (B0.out.trans (b1.mono B0.out.size))
          have I1 := Lib.hid (I0.out.keep b1)
          have ⟨y0, y1, y2, y3, y4, y5, y6⟩ := ecCells D1.out
          clear b1 D0 B0 I0
          go_wp2_with fail
          refine (HL.out _ I1.out).mono ?_
          clear y0 y1 y2 y3 y4 y5 y6
          rintro _ w2 ⟨rfl, b2⟩
          have D2 := Lib.hid (D1.out.keep b2)
          have B2 := Lib.hid (B1.out.trans (b2.mono B1.out.size))
          have ⟨z0, z1, z2, z3, z4, z5, z6⟩ := ecCells D2.out
          clear b2 D1 B1 I1
          go_wp2
          go_ret
          exact ⟨rfl, B2.out⟩
      · have ez : ((z.length : Int) == 0) = false := by rw [beq_eq_false_iff_ne]; omega
        rw [decide_eq_false hz]
        clear hz
        go_enter Tryd.func64, Tryd.ntmps64
        go_wp2_with fail
        refine (HN.out _).mono ?_
        rintro _ w1 ⟨rfl, rfl⟩
        go_wp2_with fail
        refine (HC.out _).mono ?_
        rintro _ w1 ⟨rfl, rfl⟩
        go_wp2_with fail
        refine (HK.out _).mono ?_
        rintro _ w1 ⟨rfl, rfl⟩
        go_wp2_with fail
        refine (HR.out _).mono ?_
        generalize w.alloc (.cells #[.int .i64 n, .int .i64 c, .int .i64 k, .string r, (.slice a z.length cp), .bool b, .bool true] 57) = W0 at *
        rintro _ w1 ⟨rfl, b1⟩
        have D1 := Lib.hid (D0.out.keep b1)
        have B1 := Lib.hid (B0.out.trans (b1.mono B0.out.size))
        have I1 := Lib.hid (I0.out.keep b1)
        have ⟨y0, y1, y2, y3, y4, y5, y6⟩ := ecCells D1.out
        clear b1 D0 B0 I0
        go_wp2_with fail
        refine (HL.out _ I1.out).mono ?_
        clear y0 y1 y2 y3 y4 y5 y6
        rintro _ w2 ⟨rfl, b2⟩
        have D2 := Lib.hid (D1.out.keep b2)
        have B2 := Lib.hid (B1.out.trans (b2.mono B1.out.size))
        have ⟨z0, z1, z2, z3, z4, z5, z6⟩ := ecCells D2.out
        clear b2 D1 B1 I1
        go_wp2
        go_ret
        exact ⟨rfl, B2.out⟩
    · have er := ecSome (show 0 < r.size by omega)
      rw [decide_eq_false h0]
      clear h0
      go_enter Tryd.func64, Tryd.ntmps64
      go_wp2_with fail
      refine (HN.out _).mono ?_
      rintro _ w1 ⟨rfl, rfl⟩
      go_wp2_with fail
      refine (HC.out _).mono ?_
      rintro _ w1 ⟨rfl, rfl⟩
      go_wp2_with fail
      refine (HK.out _).mono ?_
      rintro _ w1 ⟨rfl, rfl⟩
      go_wp2_with fail
      refine (HR.out _).mono ?_
      generalize w.alloc (.cells #[.int .i64 n, .int .i64 c, .int .i64 k, .string r, (.slice a z.length cp), .bool b, .bool true] 57) = W0 at *
      rintro _ w1 ⟨rfl, b1⟩
      have D1 := Lib.hid (D0.out.keep b1)
      have B1 := Lib.hid (B0.out.trans (b1.mono B0.out.size))
      have I1 := Lib.hid (I0.out.keep b1)
      have ⟨y0, y1, y2, y3, y4, y5, y6⟩ := ecCells D1.out
      clear b1 D0 B0 I0
      go_wp2_with fail
      refine (HL.out _ I1.out).mono ?_
      clear y0 y1 y2 y3 y4 y5 y6
      rintro _ w2 ⟨rfl, b2⟩
      have D2 := Lib.hid (D1.out.keep b2)
      have B2 := Lib.hid (B1.out.trans (b2.mono B1.out.size))
      have ⟨z0, z1, z2, z3, z4, z5, z6⟩ := ecCells D2.out
      clear b2 D1 B1 I1
      go_wp2
      go_ret
      exact ⟨rfl, B2.out⟩

set_option maxHeartbeats 1000000 in
theorem spec_EncoderOK (e : Ec) (v : Value) (w : World) (hv : Ints .i64 w v e.z) (hl : e.z.length ≤ 1048576) (hr : e.r.size ≤ 1048576) : Calls Tryd.prog 30 #[ecV e v] w fun x w' => x = .returned (.bool (ecOK e)) ∧ Below w.heap.size w w' := by
  have B0 := Lib.hid (ecBelow1 w (.cells #[.int .i64 e.n, .int .i64 e.c, .int .i64 e.k, .string e.r, v, .bool e.b, .bool e.o] 57))
  have HO := Lib.hid (fun w (h : Ints .i64 w v e.z) => spec_l09OK e v w h hl hr)
  have I0 := Lib.hid (hv.keep (ecBelow1 w (.cells #[.int .i64 e.n, .int .i64 e.c, .int .i64 e.k, .string e.r, v, .bool e.b, .bool e.o] 57)))
  generalize ecOK e = q at *
  clear hv hl hr
  unfold ecV at *
  go_enter Tryd.func30, Tryd.ntmps30
  go_wp2_with fail
  refine (HO.out _ I0.out).mono ?_
  rintro _ w1 ⟨rfl, b1⟩
  have B1 := Lib.hid (B0.out.trans (b1.mono B0.out.size))
  go_wp2
  go_ret
  exact ⟨rfl, B1.out⟩

end Go.Proofs.YtdckjhobikfggaaDoor

namespace Go.Proofs.YtdckjhobikfggaaDoor
open Go.RowKit

theorem eWd_some : ∀ k : Fin 19, (wd k).data.toList.isEmpty = false := by decide
theorem eWord_some (c : Int) (h : inB c 0 18 = true) : (wordV c).toList.isEmpty = false := by
  have ⟨h1, h2⟩ := inB_true h
  obtain ⟨k, rfl⟩ := Int.eq_ofNat_of_zero_le h1
  rw [wordV, if_pos ⟨h1, by omega⟩, Lib.toList_data]
  exact eWd_some ⟨k, by omega⟩
theorem eWord_none (c : Int) (h : inB c 0 18 = false) : (wordV c).toList.isEmpty = true := by
  have h1 : ¬ (0 ≤ c ∧ c < 19) := fun h' => by
    have : inB c 0 18 = true := by simp [inB]; omega
    rw [this] at h; cases h
  rw [wordV, if_neg h1, Lib.toList_data]
  rfl
theorem lineE_nil (n : Int) : lineE n [] = true := rfl
theorem restE_nil {r : ByteArray} (h : r.size = 0) : restE r = true := by unfold restE; rw [decide_eq_true h, Bool.true_or]
theorem ecOK_over {e : Ec} (h1 : proB e.n = true) (h2 : inB e.c e.z.length 1000000000 = true) (h3 : inB e.k 0 18 = true) (ho : e.o = true) : ecOK e = (decide (e.r.size = 0) && decide (e.z.length = 0)) := by
  unfold ecOK
  rw [h1, h2, h3, ho]
  by_cases hr : e.r.size = 0
  · by_cases hz : e.z.length = 0
    · rw [restE_nil hr, List.length_eq_zero_iff.1 hz, lineE_nil]; simp [hr]
    · simp [hz]
  · simp [hr]
theorem ecOK_live {e : Ec} (h1 : proB e.n = true) (h2 : inB e.c e.z.length 1000000000 = true) (h3 : inB e.k 0 18 = true) (ho : e.o = false) : ecOK e = (decide (e.k = 0) && (restE e.r && lineE e.n e.z)) := by
  unfold ecOK
  rw [h1, h2, h3, ho]
  cases restE e.r <;> cases lineE e.n e.z <;> cases decide (e.k = 0) <;> rfl

set_option maxHeartbeats 4000000 in
set_option maxRecDepth 100000 in
theorem impl_EncoderOK (e : Ec) (v : Value) (sa sb : Addr) (w : World) (hv : Ints .i64 w v e.z) (hr : e.r.size ≤ 1048576) (hz : ∀ r ∈ e.z, r ≤ 9223372036854775807) (ht : TabSets w) (hw : TabWords w) (hS : Sents w sa sb) : Calls Tryd.prog 32 #[ecV e v] w fun x w' => x = .returned (.bool (ecOK e)) ∧ Below w.heap.size w w' := by
  have hform : ∃ a c, v = .slice a e.z.length c := by
    rcases hv with ⟨h0, a, c, rfl⟩ | ⟨b, off, c, rfl, _⟩
    · exact ⟨a, c, by rw [h0]; rfl⟩
    · exact ⟨_, c, rfl⟩
  obtain ⟨a, cp, rfl⟩ := hform
  have HN := Lib.hid (fun w => impl_isProfile e.n w)
  have HC := Lib.hid (fun w h => impl_CodeWord e.k w h)
  have HR := Lib.hid (fun g w h hS => impl_eRestOK e (.slice a e.z.length cp) g sa sb w h hS hr)
  have HL := Lib.hid (fun g w h hv ht hn => impl_lineOK e (.slice a e.z.length cp) g w h hv hz ht hn)
  have B0 := Lib.hid (ecBelow1 w (.cells #[.int .i64 e.n, .int .i64 e.c, .int .i64 e.k, .string e.r, (.slice a e.z.length cp), .bool e.b, .bool e.o] 57))
  have D0 := Lib.hid (EcAt.new w e (.slice a e.z.length cp))
  have I0 := Lib.hid (hv.keep B0.out)
  have T0 := Lib.hid (ht.keep B0.out)
  have W0 := Lib.hid (hw.keep B0.out)
  have S0 := Lib.hid (hS.keep B0.out)
  clear hv hr hz ht hw hS
  cases h1 : proB e.n
  · rw [ecOK_n h1]
    rw [h1] at HN
    clear h1
    obtain ⟨n, c, k, r, z, b, o⟩ := e
    unfold ecV
    dsimp only at *
    go_enter Tryd.func32, Tryd.ntmps32
    go_wp2_with fail
    refine (HN.out _).mono ?_
    rintro _ w1 ⟨rfl, rfl⟩
    go_wp2
    go_ret
    exact ⟨rfl, B0.out⟩
  have HNp := Lib.hid h1
  rw [h1] at HN
  by_cases hc1 : e.c < (e.z.length : Int)
  · rw [ecOK_c (by simp [inB]; omega)]
    clear h1
    obtain ⟨n, c, k, r, z, b, o⟩ := e
    unfold ecV
    dsimp only at *
    go_enter Tryd.func32, Tryd.ntmps32
    go_wp2_with fail
    refine (HN.out _).mono ?_
    rintro _ w1 ⟨rfl, rfl⟩
    go_wp2
    go_ret
    exact ⟨rfl, B0.out⟩
  by_cases hc2 : 1000000000 < e.c
  · rw [ecOK_c (by simp [inB]; omega)]
    clear h1
    obtain ⟨n, c, k, r, z, b, o⟩ := e
    unfold ecV
    dsimp only at *
    go_enter Tryd.func32, Tryd.ntmps32
    go_wp2_with fail
    refine (HN.out _).mono ?_
    rintro _ w1 ⟨rfl, rfl⟩
    go_wp2
    go_ret
    exact ⟨rfl, B0.out⟩
  have h2 : inB e.c e.z.length 1000000000 = true := by simp [inB]; omega
  cases h3 : inB e.k 0 18
  · rw [ecOK_k h3]
    have hE := eWord_none e.k h3
    clear h1 h2 h3
    obtain ⟨n, c, k, r, z, b, o⟩ := e
    unfold ecV
    dsimp only at *
    generalize wordV k = wv at *
    go_enter Tryd.func32, Tryd.ntmps32
    go_wp2_with fail
    refine (HN.out _).mono ?_
    rintro _ w1 ⟨rfl, rfl⟩
    go_wp2_with fail
    refine (HC.out _ W0.out).mono ?_
    rintro _ w1 ⟨rfl, rfl⟩
    go_wp2
    go_ret
    exact ⟨rfl, B0.out⟩
  have hE := eWord_some e.k h3
  generalize wordV e.k = wv at *
  cases ho : e.o
  · rw [ecOK_live h1 h2 h3 ho]
    clear h1 h2 h3
    obtain ⟨n, c, k, r, z, b, o⟩ := e
    unfold ecV
    dsimp only at *
    subst ho
    by_cases hk : k = 0
    · have ek : (k == 0) = true := by simpa using hk
      rw [decide_eq_true hk, Bool.true_and]
      clear hk
      cases hre : restE r
      · rw [Bool.false_and]
        rw [hre] at HR
        clear hre
        go_enter Tryd.func32, Tryd.ntmps32
        go_wp2_with fail
        refine (HN.out _).mono ?_
        rintro _ w1 ⟨rfl, rfl⟩
        go_wp2_with fail
        refine (HC.out _ W0.out).mono ?_
        rintro _ w1 ⟨rfl, rfl⟩
        go_wp2_with fail
        refine (HR.out _ _ D0.out S0.out).mono ?_
        generalize w.alloc (.cells #[.int .i64 n, .int .i64 c, .int .i64 k, .string r, (.slice a z.length cp), .bool b, .bool false] 57) = WW at *
        rintro _ w1 ⟨rfl, b1⟩
        have B1 := Lib.hid (B0.out.trans (b1.mono B0.out.size))
        go_wp2
        go_ret
        exact ⟨rfl, B1.out⟩
      · rw [Bool.true_and]
        rw [hre] at HR
        clear hre
        generalize lineE n z = lq at *
        go_enter Tryd.func32, Tryd.ntmps32
        go_wp2_with fail
        refine (HN.out _).mono ?_
        rintro _ w1 ⟨rfl, rfl⟩
        go_wp2_with fail
        refine (HC.out _ W0.out).mono ?_
        rintro _ w1 ⟨rfl, rfl⟩
        go_wp2_with fail
        refine (HR.out _ _ D0.out S0.out).mono ?_
        generalize w.alloc (.cells #[.int .i64 n, .int .i64 c, .int .i64 k, .string r, (.slice a z.length cp), .bool b, .bool false] 57) = WW at *
        rintro _ w1 ⟨rfl, b1⟩
        have B1 := Lib.hid (B0.out.trans (b1.mono B0.out.size))
        have D1 := Lib.hid (D0.out.keep b1)
        have I1 := Lib.hid (I0.out.keep b1)
        have T1 := Lib.hid (T0.out.keep b1)
        clear b1 D0 I0 T0 B0
        go_wp2_with fail
        refine (HL.out _ _ D1.out I1.out T1.out HNp.out).mono ?_
        rintro _ w2 ⟨rfl, b2⟩
        have B2 := Lib.hid (B1.out.trans (b2.mono B1.out.size))
        go_wp2
        go_ret
        exact ⟨rfl, B2.out⟩
    · have ek : (k == 0) = false := by rw [beq_eq_false_iff_ne]; exact hk
      rw [decide_eq_false hk, Bool.false_and]
      clear hk
      go_enter Tryd.func32, Tryd.ntmps32
      go_wp2_with fail
      refine (HN.out _).mono ?_
      rintro _ w1 ⟨rfl, rfl⟩
      go_wp2_with fail
      refine (HC.out _ W0.out).mono ?_
      rintro _ w1 ⟨rfl, rfl⟩
      go_wp2
      go_ret
      exact ⟨rfl, B0.out⟩
  · rw [ecOK_over h1 h2 h3 ho]
    clear h1 h2 h3
    obtain ⟨n, c, k, r, z, b, o⟩ := e
    unfold ecV
    dsimp only at *
    subst ho
    by_cases hr0 : r.size = 0
    · have er := eEmpty hr0
      rw [decide_eq_true hr0, Bool.true_and]
      clear hr0
      by_cases hz0 : z.length = 0
      · have ez : ((z.length : Int) == 0) = true := by rw [beq_iff_eq]; omega
        rw [decide_eq_true hz0]
        clear hz0
        go_enter Tryd.func32, Tryd.ntmps32
        go_wp2_with fail
        refine (HN.out _).mono ?_
        rintro _ w1 ⟨rfl, rfl⟩
        go_wp2_with fail
        refine (HC.out _ W0.out).mono ?_
        rintro _ w1 ⟨rfl, rfl⟩
        go_wp2
        go_ret
        exact ⟨rfl, B0.out⟩
      · have ez : ((z.length : Int) == 0) = false := by rw [beq_eq_false_iff_ne]; omega
        rw [decide_eq_false hz0]
        clear hz0
        go_enter Tryd.func32, Tryd.ntmps32
        go_wp2_with fail
        refine (HN.out _).mono ?_
        rintro _ w1 ⟨rfl, rfl⟩
        go_wp2_with fail
        refine (HC.out _ W0.out).mono ?_
        rintro _ w1 ⟨rfl, rfl⟩
        go_wp2
        go_ret
        exact ⟨rfl, B0.out⟩
    · have er := eSome (show 0 < r.size by omega)
      rw [decide_eq_false hr0, Bool.false_and]
      clear hr0
      go_enter Tryd.func32, Tryd.ntmps32
      go_wp2_with fail
      refine (HN.out _).mono ?_
      rintro _ w1 ⟨rfl, rfl⟩
      go_wp2_with fail
      refine (HC.out _ W0.out).mono ?_
      rintro _ w1 ⟨rfl, rfl⟩
      go_wp2
      go_ret
      exact ⟨rfl, B0.out⟩

end Go.Proofs.YtdckjhobikfggaaDoor

namespace Go.Proofs.YtdckjhobikfggaaDoor
open Go.RowKit

set_option maxHeartbeats 400000 in
theorem spec_l00Same (v u : Value) (zs ys : List Int) (w : World) (hv : Ints .i64 w v zs) (hu : Ints .i64 w u ys) (hl : zs.length ≤ 1099511627776) (hl2 : ys.length ≤ 1099511627776) : Calls Tryd.prog 96 #[v, u] w fun e w' => e = .returned (.bool (decide (zs = ys))) ∧ ∃ n, w' = w.drewN n := by
  have hv2 : ∃ a c, v = .slice a zs.length c := by
    rcases hv with ⟨rfl, a, c, rfl⟩ | ⟨b, off, c, rfl, _⟩
    · exact ⟨_, _, rfl⟩
    · exact ⟨_, _, rfl⟩
  have hu2 : ∃ a c, u = .slice a ys.length c := by
    rcases hu with ⟨rfl, a, c, rfl⟩ | ⟨b, off, c, rfl, _⟩
    · exact ⟨_, _, rfl⟩
    · exact ⟨_, _, rfl⟩
  by_cases hne : zs.length = ys.length
  · by_cases h0 : zs.length = 0
    · obtain ⟨a, c, rfl⟩ := hv2
      obtain ⟨a2, c2, rfl⟩ := hu2
      have e1 : zs = [] := List.length_eq_zero_iff.1 h0
      have e2 : ys = [] := List.length_eq_zero_iff.1 (by omega)
      subst e1; subst e2
      clear hv hu h0 hne
      go_enter Tryd.func96, Tryd.ntmps96
      go_wp2
      go_loop [5] (fun i => i = .int .i64 0) (fun _ => 0)
      case atStart => rfl
      case round =>
        subst hrel
        go_wp2
        go_ret
        exact ⟨rfl, 0, rfl⟩
    · clear hv2 hu2
      rcases hv with ⟨rfl, a, c, rfl⟩ | ⟨b, off, c, rfl, hcell⟩
      · exact absurd rfl h0
      · rcases hu with ⟨rfl, a, c, rfl⟩ | ⟨b2, off2, cc, rfl, hcell2⟩
        · exact absurd hne h0
        · generalize hn : zs.length = n at *
          have HN := Lib.hid hn
          have HM := Lib.hid hne
          rw [← hne]
          rw [← hne] at hcell2
          clear hn hne
          have e0 : ((n : Int) != (n : Int)) = false := by simp
          go_enter Tryd.func96, Tryd.ntmps96
          go_wp2
          go_loopw [5] (fun i wr => ∃ k q : Nat, k ≤ n ∧ i = .int .i64 k ∧ Hid (zs.take k = ys.take k) ∧ wr = w.drewN q) (fun i _ => n - (intOf i).toNat)
          case atStart => exact ⟨0, 0, Nat.zero_le _, rfl, Lib.hid rfl, rfl⟩
          case round =>
            obtain ⟨k, q, hk, rfl, HT, rfl⟩ := hrel
            by_cases hlt : k < n
            · have c1 := hcell k hlt
              have c2 := hcell2 k hlt
              have h1 : (0 : Int) ≤ (k : Int) := by omega
              have h2 : (k : Int) < (n : Int) := by omega
              generalize hx : zs.getD k 0 = x at c1
              generalize hy : ys.getD k 0 = y at c2
              have HX := Lib.hid hx
              have HY := Lib.hid hy
              clear hcell hcell2 hx hy
              by_cases hxy : x = y
              · have hz : (x != y) = false := by simp [hxy]
                have HXY := Lib.hid hxy
                clear hxy
                go_wp2_with fail
                go_quiet (fail)
                go_wp2
                go_roundw
                case rel =>
                  refine ⟨k + 1, _, by omega, by go_num, Lib.hid (take_same (by have := HN.out; omega) (by have := HM.out; omega) HT.out (by rw [HX.out, HY.out, HXY.out])), rfl⟩
                case measure => simp [intOf]; omega
              · have hz : (x != y) = true := by simp [hxy]
                have HF : Hid (decide (zs = ys) = false) := Lib.hid (decide_eq_false (fun h => hxy (by rw [← HX.out, ← HY.out, h])))
                go_wp2_with fail
                go_quiet (fail)
                go_wp2
                go_ret
                exact ⟨ret_bool HF.out.symm, _, World.drewN_drewN ..⟩
            · have hkn : k = n := by omega
              have HF : Hid (decide (zs = ys) = true) := Lib.hid (decide_eq_true (by
                have := HT.out
                rw [List.take_of_length_le (by have := HN.out; omega), List.take_of_length_le (by have := HM.out; omega)] at this
                exact this))
              clear hkn
              go_wp2
              go_ret
              exact ⟨ret_bool HF.out.symm, _, rfl⟩
  · obtain ⟨a, c, rfl⟩ := hv2
    obtain ⟨a2, c2, rfl⟩ := hu2
    have hz : ((zs.length : Int) != (ys.length : Int)) = true := by simp; omega
    have HF : Hid (decide (zs = ys) = false) := Lib.hid (decide_eq_false (fun h => hne (by rw [h])))
    clear hv hu
    go_enter Tryd.func96, Tryd.ntmps96
    go_wp2
    go_ret
    exact ⟨ret_bool HF.out.symm, 0, rfl⟩

set_option maxHeartbeats 400000 in
theorem sl_Equal (v u : Value) (zs ys : List Int) (w : World) (hv : Ints .i64 w v zs) (hu : Ints .i64 w u ys) (hl : zs.length ≤ 1099511627776) (hl2 : ys.length ≤ 1099511627776) : Calls Tryd.prog 72 #[v, u] w fun e w' => e = .returned (.bool (decide (zs = ys))) ∧ ∃ n, w' = w.drewN n := by
  have hv2 : ∃ a c, v = .slice a zs.length c := by
    rcases hv with ⟨rfl, a, c, rfl⟩ | ⟨b, off, c, rfl, _⟩
    · exact ⟨_, _, rfl⟩
    · exact ⟨_, _, rfl⟩
  have hu2 : ∃ a c, u = .slice a ys.length c := by
    rcases hu with ⟨rfl, a, c, rfl⟩ | ⟨b, off, c, rfl, _⟩
    · exact ⟨_, _, rfl⟩
    · exact ⟨_, _, rfl⟩
  by_cases hne : zs.length = ys.length
  · by_cases h0 : zs.length = 0
    · obtain ⟨a, c, rfl⟩ := hv2
      obtain ⟨a2, c2, rfl⟩ := hu2
      have e1 : zs = [] := List.length_eq_zero_iff.1 h0
      have e2 : ys = [] := List.length_eq_zero_iff.1 (by omega)
      subst e1; subst e2
      clear hv hu h0 hne
      go_enter Tryd.func72, Tryd.ntmps72
      go_wp2
      go_loop [5, 13] (fun _ i => i = .int .i64 0) (fun _ _ => 0)
      case atStart => rfl
      case round =>
        subst hrel
        go_wp2
        go_ret
        exact ⟨rfl, 0, rfl⟩
    · clear hv2 hu2
      rcases hv with ⟨rfl, a, c, rfl⟩ | ⟨b, off, c, rfl, hcell⟩
      · exact absurd rfl h0
      · rcases hu with ⟨rfl, a, c, rfl⟩ | ⟨b2, off2, cc, rfl, hcell2⟩
        · exact absurd hne h0
        · generalize hn : zs.length = n at *
          have HN := Lib.hid hn
          have HM := Lib.hid hne
          rw [← hne]
          rw [← hne] at hcell2
          clear hn hne
          have e0 : ((n : Int) != (n : Int)) = false := by simp
          go_enter Tryd.func72, Tryd.ntmps72
          go_wp2
          go_loopw [5, 13] (fun _ i wr => ∃ k q : Nat, k ≤ n ∧ i = .int .i64 k ∧ Hid (zs.take k = ys.take k) ∧ wr = w.drewN q) (fun _ i _ => n - (intOf i).toNat)
          case atStart => exact ⟨0, 0, Nat.zero_le _, rfl, Lib.hid rfl, rfl⟩
          case round =>
            obtain ⟨k, q, hk, rfl, HT, rfl⟩ := hrel
            by_cases hlt : k < n
            · have c1 := hcell k hlt
              have c2 := hcell2 k hlt
              have h1 : (0 : Int) ≤ (k : Int) := by omega
              have h2 : (k : Int) < (n : Int) := by omega
              generalize hx : zs.getD k 0 = x at c1
              generalize hy : ys.getD k 0 = y at c2
              have HX := Lib.hid hx
              have HY := Lib.hid hy
              clear hcell hcell2 hx hy
              by_cases hxy : x = y
              · have hz : (x != y) = false := by simp [hxy]
                have HXY := Lib.hid hxy
                clear hxy
                go_wp2_with fail
                go_quiet (fail)
                go_wp2
                go_roundw
                case rel =>
                  refine ⟨k + 1, _, by omega, by go_num, Lib.hid (take_same (by have := HN.out; omega) (by have := HM.out; omega) HT.out (by rw [HX.out, HY.out, HXY.out])), rfl⟩
                case measure => simp [intOf]; omega
              · have hz : (x != y) = true := by simp [hxy]
                have HF : Hid (decide (zs = ys) = false) := Lib.hid (decide_eq_false (fun h => hxy (by rw [← HX.out, ← HY.out, h])))
                go_wp2_with fail
                go_quiet (fail)
                go_wp2
                go_ret
                exact ⟨ret_bool HF.out.symm, _, World.drewN_drewN ..⟩
            · have hkn : k = n := by omega
              have HF : Hid (decide (zs = ys) = true) := Lib.hid (decide_eq_true (by
                have := HT.out
                rw [List.take_of_length_le (by have := HN.out; omega), List.take_of_length_le (by have := HM.out; omega)] at this
                exact this))
              clear hkn
              go_wp2
              go_ret
              exact ⟨ret_bool HF.out.symm, _, rfl⟩
  · obtain ⟨a, c, rfl⟩ := hv2
    obtain ⟨a2, c2, rfl⟩ := hu2
    have hz : ((zs.length : Int) != (ys.length : Int)) = true := by simp; omega
    have HF : Hid (decide (zs = ys) = false) := Lib.hid (decide_eq_false (fun h => hne (by rw [h])))
    clear hv hu
    go_enter Tryd.func72, Tryd.ntmps72
    go_wp2
    go_ret
    exact ⟨ret_bool HF.out.symm, 0, rfl⟩

end Go.Proofs.YtdckjhobikfggaaDoor

namespace Go.Proofs.YtdckjhobikfggaaDoor
open Go.RowKit

theorem ba_ne {a b : ByteArray} (h : ¬ a = b) : (a.toList == b.toList) = false := by
  rw [Lib.toList_data, Lib.toList_data, beq_eq_false_iff_ne]
  intro he
  apply h
  apply ByteArray.ext
  exact Array.toList_inj.1 he
def sameE (e f : Ec) : Bool := decide (e.n = f.n) && (decide (e.c = f.c) && (decide (e.k = f.k) && (decide (e.r = f.r) && (decide (e.z = f.z) && (decide (e.b = f.b) && decide (e.o = f.o))))))
def seB (e f : Ec) : Bool := ecOK e && (ecOK f && sameE e f)

set_option maxHeartbeats 4000000 in
set_option maxRecDepth 100000 in
theorem spec_l09Same (e f : Ec) (v u : Value) (w : World) (hv : Ints .i64 w v e.z) (hu : Ints .i64 w u f.z) (hl : e.z.length ≤ 1048576) (hl2 : f.z.length ≤ 1048576) : Calls Tryd.prog 71 #[ecV e v, ecV f u] w fun x w' => x = .returned (.bool (sameE e f)) ∧ Below w.heap.size w w' := by
  have hform : ∃ a c, v = .slice a e.z.length c := by
    rcases hv with ⟨h0, a, c, rfl⟩ | ⟨b, off, c, rfl, _⟩
    · exact ⟨a, c, by rw [h0]; rfl⟩
    · exact ⟨_, c, rfl⟩
  have hform2 : ∃ a c, u = .slice a f.z.length c := by
    rcases hu with ⟨h0, a, c, rfl⟩ | ⟨b, off, c, rfl, _⟩
    · exact ⟨a, c, by rw [h0]; rfl⟩
    · exact ⟨_, c, rfl⟩
  obtain ⟨a, cp, rfl⟩ := hform
  obtain ⟨a2, cp2, rfl⟩ := hform2
  have HQ := Lib.hid (fun w h1 h2 => spec_l00Same (.slice a e.z.length cp) (.slice a2 f.z.length cp2) e.z f.z w h1 h2 (by omega) (by omega))
  have IV := Lib.hid hv
  have IU := Lib.hid hu
  clear hv hu hl hl2
  obtain ⟨n, c, k, r, z, b, o⟩ := e
  obtain ⟨n2, c2, k2, r2, z2, b2, o2⟩ := f
  unfold ecV
  dsimp only at *
  by_cases h_n : n = n2
  case neg =>
    have HE : Hid (sameE ⟨n, c, k, r, z, b, o⟩ ⟨n2, c2, k2, r2, z2, b2, o2⟩ = false) := Lib.hid (by simp [sameE, h_n])
    rw [HE.out]
    have e_n : (n == n2) = false := by rw [beq_eq_false_iff_ne]; exact h_n
    have B0 := Lib.hid (ecBelow2 w (.cells #[.int .i64 n, .int .i64 c, .int .i64 k, .string r, (.slice a z.length cp), .bool b, .bool o] 57) (.cells #[.int .i64 n2, .int .i64 c2, .int .i64 k2, .string r2, (.slice a2 z2.length cp2), .bool b2, .bool o2] 57))
    clear h_n HQ
    go_enter Tryd.func71, Tryd.ntmps71
    go_wp2
    go_ret
    exact ⟨rfl, B0.out⟩
  subst h_n
  by_cases h_c : c = c2
  case neg =>
    have HE : Hid (sameE ⟨n, c, k, r, z, b, o⟩ ⟨n, c2, k2, r2, z2, b2, o2⟩ = false) := Lib.hid (by simp [sameE, h_c])
    rw [HE.out]
    have e_c : (c == c2) = false := by rw [beq_eq_false_iff_ne]; exact h_c
    have B0 := Lib.hid (ecBelow2 w (.cells #[.int .i64 n, .int .i64 c, .int .i64 k, .string r, (.slice a z.length cp), .bool b, .bool o] 57) (.cells #[.int .i64 n, .int .i64 c2, .int .i64 k2, .string r2, (.slice a2 z2.length cp2), .bool b2, .bool o2] 57))
    clear h_c HQ
    go_enter Tryd.func71, Tryd.ntmps71
    go_wp2
    go_ret
    exact ⟨rfl, B0.out⟩
  subst h_c
  by_cases h_k : k = k2
  case neg =>
    have HE : Hid (sameE ⟨n, c, k, r, z, b, o⟩ ⟨n, c, k2, r2, z2, b2, o2⟩ = false) := Lib.hid (by simp [sameE, h_k])
    rw [HE.out]
    have e_k : (k == k2) = false := by rw [beq_eq_false_iff_ne]; exact h_k
    have B0 := Lib.hid (ecBelow2 w (.cells #[.int .i64 n, .int .i64 c, .int .i64 k, .string r, (.slice a z.length cp), .bool b, .bool o] 57) (.cells #[.int .i64 n, .int .i64 c, .int .i64 k2, .string r2, (.slice a2 z2.length cp2), .bool b2, .bool o2] 57))
    clear h_k HQ
    go_enter Tryd.func71, Tryd.ntmps71
    go_wp2
    go_ret
    exact ⟨rfl, B0.out⟩
  subst h_k
  by_cases h_r : r = r2
  case neg =>
    have HE : Hid (sameE ⟨n, c, k, r, z, b, o⟩ ⟨n, c, k, r2, z2, b2, o2⟩ = false) := Lib.hid (by simp [sameE, h_r])
    rw [HE.out]
    have e_r : (r.toList == r2.toList) = false := ba_ne h_r
    have B0 := Lib.hid (ecBelow2 w (.cells #[.int .i64 n, .int .i64 c, .int .i64 k, .string r, (.slice a z.length cp), .bool b, .bool o] 57) (.cells #[.int .i64 n, .int .i64 c, .int .i64 k, .string r2, (.slice a2 z2.length cp2), .bool b2, .bool o2] 57))
    clear h_r HQ
    go_enter Tryd.func71, Tryd.ntmps71
    go_wp2
    go_ret
    exact ⟨rfl, B0.out⟩
  subst h_r
  have B0 := Lib.hid (ecBelow2 w (.cells #[.int .i64 n, .int .i64 c, .int .i64 k, .string r, (.slice a z.length cp), .bool b, .bool o] 57) (.cells #[.int .i64 n, .int .i64 c, .int .i64 k, .string r, (.slice a2 z2.length cp2), .bool b2, .bool o2] 57))
  have D0 : Hid (EcAt ((w.alloc (.cells #[.int .i64 n, .int .i64 c, .int .i64 k, .string r, (.slice a z.length cp), .bool b, .bool o] 57)).alloc (.cells #[.int .i64 n, .int .i64 c, .int .i64 k, .string r, (.slice a2 z2.length cp2), .bool b2, .bool o2] 57)) w.heap.size ⟨n, c, k, r, z, b, o⟩ (.slice a z.length cp)) := Lib.hid (heap_alloc2_old _ _ _)
  have F0 : Hid (EcAt ((w.alloc (.cells #[.int .i64 n, .int .i64 c, .int .i64 k, .string r, (.slice a z.length cp), .bool b, .bool o] 57)).alloc (.cells #[.int .i64 n, .int .i64 c, .int .i64 k, .string r, (.slice a2 z2.length cp2), .bool b2, .bool o2] 57)) (w.heap.size + 1) ⟨n, c, k, r, z2, b2, o2⟩ (.slice a2 z2.length cp2)) := Lib.hid (heap_alloc2_new _ _ _)
  have HQ2 := Lib.hid (HQ.out _ (IV.out.keep B0.out) (IU.out.keep B0.out))
  clear HQ
  by_cases h_z : z = z2
  case neg =>
    have HE : Hid (sameE ⟨n, c, k, r, z, b, o⟩ ⟨n, c, k, r, z2, b2, o2⟩ = false) := Lib.hid (by simp [sameE, h_z])
    rw [HE.out]
    rw [decide_eq_false h_z] at HQ2
    clear h_z
    go_enter Tryd.func71, Tryd.ntmps71
    go_wp2_with fail
    refine HQ2.out.mono ?_
    generalize ((w.alloc (.cells #[.int .i64 n, .int .i64 c, .int .i64 k, .string r, (.slice a z.length cp), .bool b, .bool o] 57)).alloc (.cells #[.int .i64 n, .int .i64 c, .int .i64 k, .string r, (.slice a2 z2.length cp2), .bool b2, .bool o2] 57)) = W at *
    rintro _ w1 ⟨rfl, q, rfl⟩
    have D1 := Lib.hid (D0.out.keep (below_drewN (Below.refl _ _) q))
    have F1 := Lib.hid (F0.out.keep (below_drewN (Below.refl _ _) q))
    have B1 := Lib.hid (below_drewN B0.out q)
    have ⟨x0, x1, x2, x3, x4, x5, x6⟩ := ecCells D1.out
    have ⟨y0, y1, y2, y3, y4, y5, y6⟩ := ecCells F1.out
    clear D0 F0 B0
    go_wp2
    go_ret
    exact ⟨rfl, B1.out⟩
  rw [decide_eq_true h_z] at HQ2
  by_cases h_b : b = b2
  case neg =>
    have HE : Hid (sameE ⟨n, c, k, r, z, b, o⟩ ⟨n, c, k, r, z2, b2, o2⟩ = false) := Lib.hid (by simp [sameE, h_b])
    rw [HE.out]
    have e_b : (b == b2) = false := by rw [beq_eq_false_iff_ne]; exact h_b
    clear h_b h_z
    go_enter Tryd.func71, Tryd.ntmps71
    go_wp2_with fail
    refine HQ2.out.mono ?_
    generalize ((w.alloc (.cells #[.int .i64 n, .int .i64 c, .int .i64 k, .string r, (.slice a z.length cp), .bool b, .bool o] 57)).alloc (.cells #[.int .i64 n, .int .i64 c, .int .i64 k, .string r, (.slice a2 z2.length cp2), .bool b2, .bool o2] 57)) = W at *
    rintro _ w1 ⟨rfl, q, rfl⟩
    have D1 := Lib.hid (D0.out.keep (below_drewN (Below.refl _ _) q))
    have F1 := Lib.hid (F0.out.keep (below_drewN (Below.refl _ _) q))
    have B1 := Lib.hid (below_drewN B0.out q)
    have ⟨x0, x1, x2, x3, x4, x5, x6⟩ := ecCells D1.out
    have ⟨y0, y1, y2, y3, y4, y5, y6⟩ := ecCells F1.out
    clear D0 F0 B0
    go_wp2
    go_ret
    exact ⟨rfl, B1.out⟩
  subst h_b
  by_cases h_o : o = o2
  case neg =>
    have HE : Hid (sameE ⟨n, c, k, r, z, b, o⟩ ⟨n, c, k, r, z2, b, o2⟩ = false) := Lib.hid (by simp [sameE, h_o])
    rw [HE.out]
    have e_o : (o == o2) = false := by rw [beq_eq_false_iff_ne]; exact h_o
    clear h_o h_z
    go_enter Tryd.func71, Tryd.ntmps71
    go_wp2_with fail
    refine HQ2.out.mono ?_
    generalize ((w.alloc (.cells #[.int .i64 n, .int .i64 c, .int .i64 k, .string r, (.slice a z.length cp), .bool b, .bool o] 57)).alloc (.cells #[.int .i64 n, .int .i64 c, .int .i64 k, .string r, (.slice a2 z2.length cp2), .bool b, .bool o2] 57)) = W at *
    rintro _ w1 ⟨rfl, q, rfl⟩
    have D1 := Lib.hid (D0.out.keep (below_drewN (Below.refl _ _) q))
    have F1 := Lib.hid (F0.out.keep (below_drewN (Below.refl _ _) q))
    have B1 := Lib.hid (below_drewN B0.out q)
    have ⟨x0, x1, x2, x3, x4, x5, x6⟩ := ecCells D1.out
    have ⟨y0, y1, y2, y3, y4, y5, y6⟩ := ecCells F1.out
    clear D0 F0 B0
    go_wp2
    go_ret
    exact ⟨rfl, B1.out⟩
  subst h_o
  have HE : Hid (sameE ⟨n, c, k, r, z, b, o⟩ ⟨n, c, k, r, z2, b, o⟩ = true) := Lib.hid (by simp [sameE, h_z])
  rw [HE.out]
  clear h_z
  go_enter Tryd.func71, Tryd.ntmps71
  go_wp2_with fail
  refine HQ2.out.mono ?_
  generalize ((w.alloc (.cells #[.int .i64 n, .int .i64 c, .int .i64 k, .string r, (.slice a z.length cp), .bool b, .bool o] 57)).alloc (.cells #[.int .i64 n, .int .i64 c, .int .i64 k, .string r, (.slice a2 z2.length cp2), .bool b, .bool o] 57)) = W at *
  rintro _ w1 ⟨rfl, q, rfl⟩
  have D1 := Lib.hid (D0.out.keep (below_drewN (Below.refl _ _) q))
  have F1 := Lib.hid (F0.out.keep (below_drewN (Below.refl _ _) q))
  have B1 := Lib.hid (below_drewN B0.out q)
  have ⟨x0, x1, x2, x3, x4, x5, x6⟩ := ecCells D1.out
  have ⟨y0, y1, y2, y3, y4, y5, y6⟩ := ecCells F1.out
  clear D0 F0 B0
  go_wp2
  go_ret
  exact ⟨rfl, B1.out⟩

set_option maxHeartbeats 1000000 in
theorem spec_SameEncoder (e f : Ec) (v u : Value) (w : World) (hv : Ints .i64 w v e.z) (hu : Ints .i64 w u f.z) (hl : e.z.length ≤ 1048576) (hl2 : f.z.length ≤ 1048576) (hr : e.r.size ≤ 1048576) (hr2 : f.r.size ≤ 1048576) : Calls Tryd.prog 34 #[ecV e v, ecV f u] w fun x w' => x = .returned (.bool (seB e f)) ∧ Below w.heap.size w w' := by
  have HO := Lib.hid (fun w h => spec_l09OK e v w h hl hr)
  have HO2 := Lib.hid (fun w h => spec_l09OK f u w h hl2 hr2)
  have HQ := Lib.hid (fun w h1 h2 => spec_l09Same e f v u w h1 h2 hl hl2)
  have B0 := Lib.hid (ecBelow2 w (.cells #[.int .i64 e.n, .int .i64 e.c, .int .i64 e.k, .string e.r, v, .bool e.b, .bool e.o] 57) (.cells #[.int .i64 f.n, .int .i64 f.c, .int .i64 f.k, .string f.r, u, .bool f.b, .bool f.o] 57))
  have D0 : Hid (EcAt ((w.alloc (.cells #[.int .i64 e.n, .int .i64 e.c, .int .i64 e.k, .string e.r, v, .bool e.b, .bool e.o] 57)).alloc (.cells #[.int .i64 f.n, .int .i64 f.c, .int .i64 f.k, .string f.r, u, .bool f.b, .bool f.o] 57)) w.heap.size e v) := Lib.hid (heap_alloc2_old _ _ _)
  have F0 : Hid (EcAt ((w.alloc (.cells #[.int .i64 e.n, .int .i64 e.c, .int .i64 e.k, .string e.r, v, .bool e.b, .bool e.o] 57)).alloc (.cells #[.int .i64 f.n, .int .i64 f.c, .int .i64 f.k, .string f.r, u, .bool f.b, .bool f.o] 57)) (w.heap.size + 1) f u) := Lib.hid (heap_alloc2_new _ _ _)
  have IV := Lib.hid (hv.keep B0.out)
  have IU := Lib.hid (hu.keep B0.out)
  unfold seB
  clear hv hu hl hl2 hr hr2
  generalize sameE e f = qs at *
  generalize ecOK e = q1 at *
  generalize ecOK f = q2 at *
  obtain ⟨n, c, k, r, z, b, o⟩ := e
  obtain ⟨n2, c2, k2, r2, z2, b2, o2⟩ := f
  unfold ecV at *
  dsimp only at *
  cases q1
  · rw [Bool.false_and]
    go_enter Tryd.func34, Tryd.ntmps34
    go_wp2_with fail
    refine (HO.out _ IV.out).mono ?_
    generalize (w.alloc (.cells #[.int .i64 n, .int .i64 c, .int .i64 k, .string r, v, .bool b, .bool o] 57)).alloc (.cells #[.int .i64 n2, .int .i64 c2, .int .i64 k2, .string r2, u, .bool b2, .bool o2] 57) = W at *
    rintro _ w1 ⟨rfl, b1⟩
    have D1 := Lib.hid (D0.out.keep b1)
    have F1 := Lib.hid (F0.out.keep b1)
    have B1 := Lib.hid (B0.out.trans (b1.mono B0.out.size))
    have IV1 := Lib.hid (IV.out.keep b1)
    have IU1 := Lib.hid (IU.out.keep b1)
    clear b1 D0 F0 B0 IV IU
    have ⟨x0, x1, x2, x3, x4, x5, x6⟩ := ecCells D1.out
    have ⟨y0, y1, y2, y3, y4, y5, y6⟩ := ecCells F1.out
    go_wp2
    go_ret
    exact ⟨rfl, B1.out⟩
  rw [Bool.true_and]
  cases q2
  · rw [Bool.false_and]
    go_enter Tryd.func34, Tryd.ntmps34
    go_wp2_with fail
    refine (HO.out _ IV.out).mono ?_
    generalize (w.alloc (.cells #[.int .i64 n, .int .i64 c, .int .i64 k, .string r, v, .bool b, .bool o] 57)).alloc (.cells #[.int .i64 n2, .int .i64 c2, .int .i64 k2, .string r2, u, .bool b2, .bool o2] 57) = W at *
    rintro _ w1 ⟨rfl, b1⟩
    have D1 := Lib.hid (D0.out.keep b1)
    have F1 := Lib.hid (F0.out.keep b1)
    have B1 := Lib.hid (B0.out.trans (b1.mono B0.out.size))
    have IV1 := Lib.hid (IV.out.keep b1)
    have IU1 := Lib.hid (IU.out.keep b1)
    clear b1 D0 F0 B0 IV IU
    have ⟨x0, x1, x2, x3, x4, x5, x6⟩ := ecCells D1.out
    have ⟨y0, y1, y2, y3, y4, y5, y6⟩ := ecCells F1.out
    go_wp2_with fail
    refine (HO2.out _ IU1.out).mono ?_
    clear x0 x1 x2 x3 x4 x5 x6 y0 y1 y2 y3 y4 y5 y6
    rintro _ w2 ⟨rfl, b2'⟩
    have D2 := Lib.hid (D1.out.keep b2')
    have F2 := Lib.hid (F1.out.keep b2')
    have B2 := Lib.hid (B1.out.trans (b2'.mono B1.out.size))
    have IV2 := Lib.hid (IV1.out.keep b2')
    have IU2 := Lib.hid (IU1.out.keep b2')
    clear b2' D1 F1 B1 IV1 IU1
    have ⟨x0, x1, x2, x3, x4, x5, x6⟩ := ecCells D2.out
    have ⟨y0, y1, y2, y3, y4, y5, y6⟩ := ecCells F2.out
    go_wp2
    go_ret
    exact ⟨rfl, B2.out⟩
  rw [Bool.true_and]
  go_enter Tryd.func34, Tryd.ntmps34
  go_wp2_with fail
  refine (HO.out _ IV.out).mono ?_
  generalize (w.alloc (.cells #[.int .i64 n, .int .i64 c, .int .i64 k, .string r, v, .bool b, .bool o] 57)).alloc (.cells #[.int .i64 n2, .int .i64 c2, .int .i64 k2, .string r2, u, .bool b2, .bool o2] 57) = W at *
  rintro _ w1 ⟨rfl, b1⟩
  have D1 := Lib.hid (D0.out.keep b1)
  have F1 := Lib.hid (F0.out.keep b1)
  have B1 := Lib.hid (B0.out.trans (b1.mono B0.out.size))
  have IV1 := Lib.hid (IV.out.keep b1)
  have IU1 := Lib.hid (IU.out.keep b1)
  clear b1 D0 F0 B0 IV IU
  have ⟨x0, x1, x2, x3, x4, x5, x6⟩ := ecCells D1.out
  have ⟨y0, y1, y2, y3, y4, y5, y6⟩ := ecCells F1.out
  go_wp2_with fail
  refine (HO2.out _ IU1.out).mono ?_
  clear x0 x1 x2 x3 x4 x5 x6 y0 y1 y2 y3 y4 y5 y6
  rintro _ w2 ⟨rfl, b2'⟩
  have D2 := Lib.hid (D1.out.keep b2')
  have F2 := Lib.hid (F1.out.keep b2')
  have B2 := Lib.hid (B1.out.trans (b2'.mono B1.out.size))
  have IV2 := Lib.hid (IV1.out.keep b2')
  have IU2 := Lib.hid (IU1.out.keep b2')
  clear b2' D1 F1 B1 IV1 IU1
  have ⟨x0, x1, x2, x3, x4, x5, x6⟩ := ecCells D2.out
  have ⟨y0, y1, y2, y3, y4, y5, y6⟩ := ecCells F2.out
  go_wp2_with fail
  refine (HQ.out _ IV2.out IU2.out).mono ?_
  clear x0 x1 x2 x3 x4 x5 x6 y0 y1 y2 y3 y4 y5 y6
  rintro _ w3 ⟨rfl, b3⟩
  have B3 := Lib.hid (B2.out.trans (b3.mono B2.out.size))
  go_wp2
  go_ret
  exact ⟨rfl, B3.out⟩

end Go.Proofs.YtdckjhobikfggaaDoor
