/- The specification's CloseDecoder. Joined of: RdS, PcB, PcC, PcS, PcL, RfA, RfB, RfC, RdR, RdD, PcD, RfD, RdU, RdT, RfE, RdTB, PcQ, EnW, PcP, PcR, TkA, PcT, PcU, PcV. -/
import Derived.Test.YtbamjhldebobhaaGreatDoorFnExactWritePieceG2
import Derived.Test.YtbamjhldebobhaaGreatDoorDcM
import Derived.Laws.IdiomCopy
import Derived.Test.YtbamjhldebobhaaGreatDoorFnExactWritePieceG1
import Derived.Test.YtbamjhldebobhaaGreatDoorMaC
import Derived.Test.YtbamjhldebobhaaGreatDoorStC
import Derived.Test.YtbamjhldebobhaaGreatDoorStL
import Derived.RangeFuncNested
import Derived.RangeFuncBound
import Derived.RangeFuncCalls
import Derived.RangeFuncLeaves
import Derived.Shelf.Abstract
import Derived.WalkKit
import Derived.Below
import Derived.OrdersHeld
import Derived.OrdersIn
import Derived.TacticsIn
import Derived.StillTail
import Derived.Deep.RegionHeld
import Derived.Deep.RegionLaw
import Derived.Test.YtbamjhldebobhaaGreatDoorOwn
import Derived.Shelf.RegionOpen
import Derived.OwnWalkIn
import Derived.TacticsInMore
import Derived.LoopNIn
import Derived.LoopIn
import Derived.RangeFuncIn
import Derived.Test.YtbamjhldebobhaaGreatDoorConv
import Derived.RegionTactic
import Derived.Test.YtbamjhldebobhaaGreatDoorMaB

namespace Go.Proofs.YtbamjhldebobhaaGreatDoor
open Go.RowKit Go.Sort

/-- The panic of a fault. -/
def faultP (p c : Int) : List PanicEntry := [{ v := .iface 111 (.agg #[.int .i64 p, .int .i64 c]), recovered := false }]

set_option maxHeartbeats 1000000 in
theorem impl_stop (t : Tok) (c : Int) (w : World) : Calls Tryz.prog 73 #[tokV t, .int .i64 c] w fun e w' => e = .panicked (faultP t.p c) ∧ Below w.heap.size w w' := by
  have B0 := Lib.hid (below_one w (.cells #[.int .i64 t.k, .int .i64 t.a, .int .i64 t.b, .int .i64 t.c, .int .i64 t.p, .int .i64 t.n] 102))
  unfold tokV
  go_enter Tryz.func73, Tryz.ntmps73
  go_wp2
  exact ⟨rfl, rfl, B0.out⟩

theorem impl_textCode (s : ByteArray) (w : World) : Calls Tryz.prog 69 #[.string s] w fun e w' => e = .returned (.int .i64 (if 65536 < s.size then 2 else if 4096 < s.size then 8 else 0)) ∧ w = w' := by
  by_cases h1 : 65536 < s.size
  · have h1' : (65536 : Int) < (s.size : Int) := by omega
    rw [if_pos h1]
    go_enter Tryz.func69, Tryz.ntmps69
    go_wp2
    go_ret
    exact ⟨rfl, rfl⟩
  have h1' : ¬ (65536 : Int) < (s.size : Int) := by omega
  rw [if_neg h1]
  by_cases h2 : 4096 < s.size
  · have h2' : (4096 : Int) < (s.size : Int) := by omega
    rw [if_pos h2]
    go_enter Tryz.func69, Tryz.ntmps69
    go_wp2
    go_ret
    exact ⟨rfl, rfl⟩
  · have h2' : ¬ (4096 : Int) < (s.size : Int) := by omega
    rw [if_neg h2]
    go_enter Tryz.func69, Tryz.ntmps69
    go_wp2
    go_ret
    exact ⟨rfl, rfl⟩

set_option maxHeartbeats 1000000 in
theorem impl_readingCode (n : Int) (s : ByteArray) (w : World) : Calls Tryz.prog 35 #[.int .i64 n, .string s] w fun e w' => e = .returned (.int .i64 (askC n s)) ∧ w = w' := by
  have HN := Lib.hid (fun w => impl_isProfile n w)
  have HC := Lib.hid (fun w => impl_textCode s w)
  by_cases h1 : 65536 < s.size
  · have h1' : ¬ (s.size : Int) ≤ (65536 : Int) := by omega
    have HE : Hid (2 = askC n s) := Lib.hid (by rw [askC, if_pos h1])
    rw [if_pos h1] at HC
    go_enter Tryz.func35, Tryz.ntmps35
    go_wp2_with fail
    refine (HC.out _).mono ?_
    rintro e w1 ⟨rfl, rfl⟩
    go_wp2
    go_ret
    exact ⟨ret_int HE.out, rfl⟩
  have h1' : (s.size : Int) ≤ (65536 : Int) := by omega
  rw [if_neg h1] at HC
  cases hn : proB n
  · have HE : Hid (5 = askC n s) := Lib.hid (by rw [askC, if_neg h1, hn]; rfl)
    rw [hn] at HN
    go_enter Tryz.func35, Tryz.ntmps35
    go_wp2_with fail
    refine (HN.out _).mono ?_
    rintro e w1 ⟨rfl, rfl⟩
    go_wp2
    go_ret
    exact ⟨ret_int HE.out, rfl⟩
  rw [hn] at HN
  have HE : Hid ((if 4096 < s.size then 8 else 0) = askC n s) := Lib.hid (by rw [askC, if_neg h1, hn, if_pos rfl])
  generalize (if 4096 < s.size then (8 : Int) else 0) = c at *
  go_enter Tryz.func35, Tryz.ntmps35
  go_wp2_with fail
  refine (HN.out _).mono ?_
  rintro e w1 ⟨rfl, rfl⟩
  go_wp2_with fail
  refine (HC.out _).mono ?_
  rintro e w2 ⟨rfl, rfl⟩
  go_wp2
  go_ret
  exact ⟨ret_int HE.out, rfl⟩

set_option maxHeartbeats 1000000 in
theorem impl_endCode (n : Int) (x : St) (m l : Value) (b : Nat) (w : World) (h : RdAt w b n m x l) (hx : stOKB x = true) : Calls Tryz.prog 74 #[.pointer (some ⟨b, 0, none⟩)] w fun e w' => e = .returned (.int .i64 (endC n x)) ∧ ∃ q, w' = w.drewN q := by
  have HP := Lib.hid (fun w h => impl_pendingR (κ := ⟨n, m, l⟩) x b w h)
  rw [pend_eq hx] at HP
  have HA := Lib.hid (fun q => impl_atRestR n x m l b (w.drewN q) (show RdAt (w.drewN q) b n m x l from h) hx)
  have HM := Lib.hid h
  have HE : Hid (endC n x = if pendB x = true then 13 else if restB n x = true then 0 else 14) := Lib.hid rfl
  clear h hx
  cases hp : pendB x
  · rw [hp] at HP HE
    cases hr : restB n x
    · have HE2 : Hid (14 = endC n x) := Lib.hid (by rw [HE.out, hr]; rfl)
      rw [hr] at HA
      go_enter Tryz.func74, Tryz.ntmps74
      go_wp2_with fail
      refine (HP.out _ HM.out).mono ?_
      rintro e w1 ⟨rfl, rfl⟩
      go_wp2_with fail
      go_quiet ((go_at_call 117; exact Calls.quiet_of_same ((HA.out _).mono fun _ _ ⟨he, hw⟩ => ⟨he, hw.symm⟩)))
      go_wp2
      go_ret
      exact ⟨ret_int HE2.out, _, rfl⟩
    · have HE2 : Hid (0 = endC n x) := Lib.hid (by rw [HE.out, hr]; rfl)
      rw [hr] at HA
      go_enter Tryz.func74, Tryz.ntmps74
      go_wp2_with fail
      refine (HP.out _ HM.out).mono ?_
      rintro e w1 ⟨rfl, rfl⟩
      go_wp2_with fail
      go_quiet ((go_at_call 117; exact Calls.quiet_of_same ((HA.out _).mono fun _ _ ⟨he, hw⟩ => ⟨he, hw.symm⟩)))
      go_wp2
      go_ret
      exact ⟨ret_int HE2.out, _, rfl⟩
  · have HE2 : Hid (13 = endC n x) := Lib.hid (by rw [HE.out, hp]; rfl)
    rw [hp] at HP
    go_enter Tryz.func74, Tryz.ntmps74
    go_wp2_with fail
    refine (HP.out _ HM.out).mono ?_
    rintro e w1 ⟨rfl, rfl⟩
    go_wp2
    go_ret
    exact ⟨ret_int HE2.out, 0, rfl⟩

set_option maxHeartbeats 1000000 in
set_option maxRecDepth 100000 in
theorem impl_startLine (n : Int) (x : St) (m l : Value) (b : Nat) (w : World) (h : RdAt w b n m x l) : Calls Tryz.prog 81 #[.pointer (some ⟨b, 0, none⟩)] w fun e w' => e = .returned (.tuple #[]) ∧ RdAt w' b n m (anewX n x) l ∧ Only b w w' := by
  have HS := Lib.hid (fun w => impl_startOf n w)
  have HF := Lib.hid (fun y w => impl_machineOf y w)
  unfold StDone stV at HS HF
  have HM := Lib.hid h
  have HC1 := Lib.hid (fun h => anewX_clear (n := n) (x := x) h)
  have HC2 := Lib.hid (fun h => anewX_keep (n := n) (x := x) h)
  have ⟨c0, c1, c2, c3, c4, c5, c6, c7, c8, c9⟩ := grt_cells h.gr
  have ⟨y0, y1, y2, y3, y4, y5, y6⟩ := h.mr.cells
  have hl : b < w.heap.size := h.lt
  clear h c1 c2 c3 c4 c5 c6 c7 c9 y4 y5 y6
  go_enter Tryz.func81, Tryz.ntmps81
  go_wp2_with fail
  refine (HS.out _).mono ?_
  have F0 : Hid ((w.alloc (.cells #[.int .i64 x.g0, .int .i64 x.g1, .int .i64 x.g2, .int .i64 x.g3] 65)).heap[w.heap.size]? = some (.cells #[.int .i64 x.g0, .int .i64 x.g1, .int .i64 x.g2, .int .i64 x.g3] 65)) := Lib.hid (heap_alloc_new _ _)
  have M0 := Lib.hid (HM.out.keep (below_one w (.cells #[.int .i64 x.g0, .int .i64 x.g1, .int .i64 x.g2, .int .i64 x.g3] 65)))
  have O0 := Lib.hid (only_below hl (below_one w (.cells #[.int .i64 x.g0, .int .i64 x.g1, .int .i64 x.g2, .int .i64 x.g3] 65)))
  clear c0 c8 y0 y1 y2 y3 HM
  generalize w.alloc (.cells #[.int .i64 x.g0, .int .i64 x.g1, .int .i64 x.g2, .int .i64 x.g3] 65) = W0 at *
  rintro e w1 ⟨rfl, b1⟩
  go_wp2_with fail
  refine (HF.out (startP n) _).mono ?_
  rintro e w2 ⟨rfl, b2⟩
  have b12 := b1.trans (b2.mono b1.size)
  have F2 := Lib.hid ((b12.block _ (Array.getElem?_eq_some_iff.1 F0.out).1).trans F0.out)
  have M2 := Lib.hid (M0.out.keep b12)
  have O2 := Lib.hid (O0.out.trans (only_below M0.out.lt b12))
  clear b1 b2 b12 F0 M0 O0
  have M3 := Lib.hid (putR_row M2.out (startP n))
  have O3 := Lib.hid (O2.out.trans (only_putStR b w2 (startP n)))
  have ⟨r0, r1, r2, r3, r4, r5, r6⟩ := M2.out.mr.cells
  have ⟨z0, z1, z2, z3, z4, z5, z6⟩ := M2.out.mr.thaw
  have ⟨_, _, _, _, _, _, _, _, c8, _⟩ := grt_cells M2.out.gr
  have hl2 : b < w2.heap.size := M2.out.lt
  generalize startP n = y at *
  cases hc : prClear n
  · have HE := Lib.hid (HC2.out hc)
    rw [hc] at c8
    have hlw : b ≠ w.heap.size := by omega
    have F3 : Hid ((putStR w2 b y).heap[w.heap.size]? = some (.cells #[.int .i64 x.g0, .int .i64 x.g1, .int .i64 x.g2, .int .i64 x.g3] 65)) := Lib.hid ((((only_putStR b w2 y).2 _ (fun e => hlw e.symm) (Array.getElem?_eq_some_iff.1 F2.out).1)).trans F2.out)
    go_wp2
    clear r0 r1 r2 r3 r4 r5 r6 z0 z1 z2 z3 z4 z5 z6 c8
    refine still_tail_w 6 ((putStR w2 b y).drewN 1) (by unfold putStR; rfl) (by kernel_rfl) (by kernel_rfl) ?_
    generalize putStR w2 b y = WP at *
    have M4 : Hid (RdAt (WP.drewN 1) b n m y l) := Lib.hid M3.out
    have F4 : Hid ((WP.drewN 1).heap[w.heap.size]? = some (.cells #[.int .i64 x.g0, .int .i64 x.g1, .int .i64 x.g2, .int .i64 x.g3] 65)) := Lib.hid F3.out
    have O4 : Hid (Only b w (WP.drewN 1)) := Lib.hid (O3.out.drewN 1)
    clear F2 F3 M2 M3 O2 O3
    generalize WP.drewN 1 = W3 at *
    have hcp : ∀ ty, (Builtin.copy_ #[22, 22] ty #[.slice (some ⟨b, 11, none⟩) 3 3, .slice (some ⟨w.heap.size, 1, none⟩) 3 3]).run Tryz.prog W3 = .ok (goInt 3) (((W3.setCell ⟨b, 11, none⟩ (.int .i64 x.g1)).setCell ⟨b, 12, none⟩ (.int .i64 x.g2)).setCell ⟨b, 13, none⟩ (.int .i64 x.g3)) := fun ty =>
      run_copy_cells W3 22 22 ty 3 b 11 3 3 ⟨w.heap.size, 1, none⟩ 3 3 [.int .i64 x.g1, .int .i64 x.g2, .int .i64 x.g3] Tryz.underlying22 (by kernel_rfl) rfl
        (by
          intro j v hj
          match j with
          | 0 => cases hj; rw [show (⟨w.heap.size, 1, none⟩ : Addr).add 0 = ⟨w.heap.size, 1, none⟩ from rfl, cell_of_row _ _ _ _ _ _ F4.out]; rfl
          | 1 => cases hj; rw [show (⟨w.heap.size, 1, none⟩ : Addr).add 1 = ⟨w.heap.size, 2, none⟩ from rfl, cell_of_row _ _ _ _ _ _ F4.out]; rfl
          | 2 => cases hj; rw [show (⟨w.heap.size, 1, none⟩ : Addr).add 2 = ⟨w.heap.size, 3, none⟩ from rfl, cell_of_row _ _ _ _ _ _ F4.out]; rfl
          | j + 3 => cases hj)
        (by
          have ⟨_, q1, q2, q3, _, _, _⟩ := M4.out.mr.cells
          intro j hj
          match j with
          | 0 => rw [q1]; rfl
          | 1 => rw [q2]; rfl
          | 2 => rw [q3]; rfl
          | j + 3 => exact absurd hj (by simp only [List.length_cons, List.length_nil]; omega))
        (by
          have ⟨_, q1, q2, q3, _, _, _⟩ := M4.out.mr.thaw
          intro j hj
          match j with
          | 0 => exact q1
          | 1 => exact q2
          | 2 => exact q3
          | j + 3 => exact absurd hj (by simp only [List.length_cons, List.length_nil]; omega))
        (by intro v hv; simp only [List.mem_cons, List.not_mem_nil, or_false] at hv; rcases hv with rfl | rfl | rfl <;> rfl)
    have M5 : Hid (RdAt (((W3.setCell ⟨b, 11, none⟩ (.int .i64 x.g1)).setCell ⟨b, 12, none⟩ (.int .i64 x.g2)).setCell ⟨b, 13, none⟩ (.int .i64 x.g3)) b n m ⟨y.g0, x.g1, x.g2, x.g3, y.l, y.s, y.d⟩ l) := Lib.hid (heap_setCell_same _ _ 13 _ _ (.int .i64 x.g3) (heap_setCell_same _ _ 12 _ _ (.int .i64 x.g2) (heap_setCell_same _ _ 11 _ _ (.int .i64 x.g1) M4.out)))
    have O5 : Hid (Only b w (((W3.setCell ⟨b, 11, none⟩ (.int .i64 x.g1)).setCell ⟨b, 12, none⟩ (.int .i64 x.g2)).setCell ⟨b, 13, none⟩ (.int .i64 x.g3))) := Lib.hid (((O4.out.trans (Only.set b 11 _ _)).trans (Only.set b 12 _ _)).trans (Only.set b 13 _ _))
    simp only [List.take_succ_cons, List.take_zero, List.drop_succ_cons, List.drop_zero]
    repeat still_step
    refine wpStill_nil ?_
    go_wp2
    go_end0
    exact ⟨rfl, by rw [HE.out]; exact M5.out, O5.out⟩
  · have HE := Lib.hid (HC1.out hc)
    rw [hc] at c8
    go_wp2
    go_end0
    exact ⟨rfl, by rw [HE.out]; exact M3.out, O3.out⟩

end Go.Proofs.YtbamjhldebobhaaGreatDoor

namespace Go.Proofs.YtbamjhldebobhaaGreatDoor
open Go.RowKit Go.Sort

theorem empty_size {r : ByteArray} (h : r.size = 0) : r.toList.isEmpty = true := by
  rw [Lib.toList_data, List.isEmpty_iff_length_eq_zero, Array.length_toList]
  exact h
theorem some_size {r : ByteArray} (h : 0 < r.size) : r.toList.isEmpty = false := by
  rw [Lib.toList_data]
  have : r.data.toList.length = r.size := Array.length_toList
  cases hl : r.data.toList with
  | nil => rw [hl] at this; simp at this; omega
  | cons _ _ => rfl
theorem size_zero {r : ByteArray} (h : r.size = 0) : r = ⟨#[]⟩ := by
  apply ByteArray.ext
  exact Array.eq_empty_of_size_eq_zero h

theorem impl_isProperPrefix (t h : ByteArray) (w : World) : Calls Tryz.prog 89 #[.string t, .string h] w fun e w' => e = .returned (.bool (decide (t.size < h.size) && hasPre h t)) ∧ w = w' := by
  have HP := Lib.hid (fun w => str_HasPrefix h t w)
  by_cases hl : t.size < h.size
  · have hl2 : (t.size : Int) < (h.size : Int) := by omega
    have HE : Hid ((decide (t.size < h.size) && hasPre h t) = hasPre h t) := Lib.hid (by rw [decide_eq_true hl, Bool.true_and])
    generalize hasPre h t = q at *
    go_enter Tryz.func89, Tryz.ntmps89
    go_wp2_with fail
    refine (HP.out _).mono ?_
    rintro e w1 ⟨rfl, rfl⟩
    go_wp2
    go_ret
    exact ⟨ret_bool HE.out.symm, rfl⟩
  · have hl2 : ¬ (t.size : Int) < (h.size : Int) := by omega
    rw [show (decide (t.size < h.size) && hasPre h t) = false by rw [decide_eq_false hl, Bool.false_and]]
    go_enter Tryz.func89, Tryz.ntmps89
    go_wp2
    go_ret
    exact ⟨rfl, rfl⟩

set_option maxHeartbeats 1000000 in
set_option maxRecDepth 100000 in
theorem impl_restOK (d : De) (g : Nat) (w : World) (h : DeAt w g d) (ht : TabM w) (hn : proB d.n = true) (hr : d.r.size ≤ 1048576) :
    Calls Tryz.prog 87 #[.pointer (some ⟨g, 0, none⟩)] w fun e w' => e = .returned (.bool (!(d.o && decide (0 < d.r.size)) && waitB d.n d.b d.r)) ∧ Below w.heap.size w w' := by
  have ⟨y0, _, _, _, _, _, _, _, _, _, y10, y11, y12⟩ := h.cells
  have hl := h.lt
  by_cases h0 : d.r.size = 0
  · have he := empty_size h0
    have HE : Hid ((!(d.o && decide (0 < d.r.size)) && waitB d.n d.b d.r) = true) := Lib.hid (by rw [wait_empty h0, decide_eq_false (by omega), Bool.and_false]; rfl)
    clear h0 ht hn h hr
    go_enter Tryz.func87, Tryz.ntmps87
    go_wp2
    go_ret
    exact ⟨ret_bool HE.out.symm, Below.refl _ _⟩
  have h1 : 0 < d.r.size := by omega
  have he := some_size h1
  cases ho : d.o
  · rw [ho] at y12
    cases hb : d.b
    · rw [hb] at y11
      have HE : Hid ((!(false && decide (0 < d.r.size)) && waitB d.n false d.r) = (decide (d.r.size < (prHead d.n).size) && hasPre (prHead d.n) d.r)) := Lib.hid (by rw [wait_ahead h1]; rfl)
      have HP := Lib.hid (fun w ht => impl_profileWithoutSets d.n w ht hn)
      have HX := Lib.hid (fun w => impl_isProperPrefix d.r (prHead d.n) w)
      have HT := Lib.hid ht.1
      have HD := Lib.hid h
      have hfd : ∀ w, (Instr.field 60 (prV d.n (.slice none 0 0)) 1).run Tryz.prog w = .ok (.string (prHead d.n)) w := fun _ => by kernel_rfl
      unfold prV at HP hfd
      rw [HE.out]
      generalize (decide (d.r.size < (prHead d.n).size) && hasPre (prHead d.n) d.r) = q at *
      clear h0 ht hn h hr h1 HE
      go_enter Tryz.func87, Tryz.ntmps87
      go_wp2_with fail
      have HS : (fun W' : World => DeAt W' g d ∧ TabSets W' ∧ Below w.heap.size w W') w.drew := ⟨HD.out, HT.out, below_drewN (Below.refl _ _) 1⟩
      have hS := HS
      refine wp_region_held (S := (fun W' : World => DeAt W' g d ∧ TabSets W' ∧ Below w.heap.size w W')) (by kernel_rfl) ?_
      refine wpAnyH_take (i := 0) (v := .pointer (some ⟨g, 0, none⟩)) rfl (by kernel_rfl) (by kernel_rfl) (by kernel_rfl) (fun _ _ _ h => h) (.inl ⟨by rfl, fun w' hS' => by go_simp⟩) hS ?_
      refine wpAnyH_take (i := 1) (v := .pointer (some ⟨g, 0, none⟩)) rfl (by kernel_rfl) (by kernel_rfl) (by kernel_rfl) (fun _ _ _ h => h) (.inl ⟨by rfl, fun w' hS' => by go_simp⟩) hS ?_
      refine wpAnyH_take (i := 2) (v := .pointer (some ⟨g, 10, none⟩)) rfl (by kernel_rfl) (by kernel_rfl) (by kernel_rfl) (fun _ _ _ h => h) (.inl ⟨by rfl, fun w' hS' => by go_simp⟩) hS ?_
      refine wpAnyH_take (i := 3) (v := .string d.r) rfl (by kernel_rfl) (by kernel_rfl) (by kernel_rfl) (fun _ _ _ h => h) (.inl ⟨by rfl, fun w' hS' => by have ⟨_, _, _, _, _, _, _, _, _, _, s10, _, _⟩ := hS'.1.cells; go_simp⟩) hS ?_
      refine wpAnyH_take (i := 4) (v := .pointer (some ⟨g, 0, none⟩)) rfl (by kernel_rfl) (by kernel_rfl) (by kernel_rfl) (fun _ _ _ h => h) (.inl ⟨by rfl, fun w' hS' => by go_simp⟩) hS ?_
      refine wpAnyH_take (i := 5) (v := .pointer (some ⟨g, 0, none⟩)) rfl (by kernel_rfl) (by kernel_rfl) (by kernel_rfl) (fun _ _ _ h => h) (.inl ⟨by rfl, fun w' hS' => by go_simp⟩) hS ?_
      refine wpAnyH_take (i := 6) (v := .pointer (some ⟨g, 0, none⟩)) rfl (by kernel_rfl) (by kernel_rfl) (by kernel_rfl) (fun _ _ _ h => h) (.inl ⟨by rfl, fun w' hS' => by go_simp⟩) hS ?_
      refine wpAnyH_take (i := 7) (v := .int .i64 d.n) rfl (by kernel_rfl) (by kernel_rfl) (by kernel_rfl) (fun _ _ _ h => h) (.inl ⟨by rfl, fun w' hS' => by have s0 := hS'.1.cells.1; go_simp⟩) hS ?_
      refine wpAnyH_ready (rs := [8]) (by kernel_rfl) (by simp) (AllReadyH.cons rfl (fun K hK => ?_) AllReadyH.nil)
      clear hS HS
      go_simp
      refine (HP.out w.drew HT.out).mono ?_
      rintro e w1 ⟨rfl, b1⟩
      have B1 : Below w.heap.size w w1 := bel_drew b1
      have hS : (fun W' : World => DeAt W' g d ∧ TabSets W' ∧ Below w.heap.size w W') w1 := ⟨HD.out.keep B1, HT.out.keep B1, B1⟩
      refine hK.out _ _ hS (fun _ => ?_)
      clear hK K
      refine wpAnyH_take (i := 9) (v := .string (prHead d.n)) rfl (by kernel_rfl) (by kernel_rfl) (by kernel_rfl) (fun _ _ _ h => h) (.inl ⟨by rfl, fun w' hS' => by have := hfd w'; go_simp⟩) hS ?_
      refine wpAnyH_ready (rs := [10]) (by kernel_rfl) (by simp) (AllReadyH.cons rfl (fun K hK => ?_) AllReadyH.nil)
      clear hS
      go_simp
      refine (HX.out _).mono ?_
      rintro e w2 ⟨rfl, rfl⟩
      refine hK.out _ _ ⟨HD.out.keep B1, HT.out.keep B1, B1⟩ (fun _ => ?_)
      clear hK K
      have hS : (fun W' : World => DeAt W' g d ∧ TabSets W' ∧ Below w.heap.size w W') w1 := ⟨HD.out.keep B1, HT.out.keep B1, B1⟩
      refine wpAnyH_take (i := 11) (v := .bool q) rfl (by kernel_rfl) (by kernel_rfl) (by kernel_rfl) (fun _ _ _ h => h) (.inl ⟨by rfl, fun w' hS' => by go_simp⟩) hS ?_
      refine wpAnyH_done (by kernel_rfl) ?_ _
      clear hS
      go_wp2
      go_ret
      exact ⟨rfl, B1⟩
    · rw [hb] at y11
      have HE : Hid ((!(false && decide (0 < d.r.size)) && waitB d.n true d.r) = decide ((nextTok d.r 0).k = 8)) := Lib.hid (by rw [wait_begun h1]; rfl)
      have HN := Lib.hid (fun w => impl_tokenAt d.r 0 w h1 hr)
      unfold TokDone tokV at HN
      rw [HE.out]
      generalize nextTok d.r 0 = y at *
      have hfd : ∀ w, (Instr.field 102 (.agg #[.int .i64 y.k, .int .i64 y.a, .int .i64 y.b, .int .i64 y.c, .int .i64 y.p, .int .i64 y.n]) 0).run Tryz.prog w = .ok (.int .i64 y.k) w := fun _ => by kernel_rfl
      clear h0 ht hn h hr h1 HE
      go_enter Tryz.func87, Tryz.ntmps87
      go_wp2_with fail
      refine (HN.out _).mono ?_
      rintro e w1 ⟨rfl, b1⟩
      go_wp2
      go_ret
      exact ⟨ret_bool (by simp [Bool.beq_eq_decide_eq]), b1⟩
  · rw [ho] at y12
    have HE : Hid ((!(true && decide (0 < d.r.size)) && waitB d.n d.b d.r) = false) := Lib.hid (by rw [decide_eq_true h1]; rfl)
    clear h0 ht hn h hr h1
    go_enter Tryz.func87, Tryz.ntmps87
    go_wp2
    go_ret
    exact ⟨ret_bool HE.out.symm, Below.refl _ _⟩

end Go.Proofs.YtbamjhldebobhaaGreatDoor

namespace Go.Proofs.YtbamjhldebobhaaGreatDoor
open Go.RowKit Go.Sort

theorem de_ret2 {P : Program} {fn : Func} {p u : Tmp} {a : Act} {w1 : World} {g : Nat} {ty : TypeId} {d : TypeDesc} {y : De} {c : Int} {Q : Ending → World → Prop} (h : fn.results = #[.cell p ty, .tmp u])
    (hp : a.tmps.getD p undef = .pointer (some ⟨g, 0, none⟩)) (hc : a.tmps.getD u undef = .int .i64 c) (hg : DeAt w1 g y)
    (hu : P.underlying ty = some d) (hd : (match d with | .struct _ | .array _ _ => true | _ => false) = true) (hi : (P.info? ty).map (·.size) = some 13) (hdef : a.defers = []) (hQ : Q (.returned (.tuple #[deV y, .int .i64 c])) w1) :
    bodyPost P fn Q .ret a w1 :=
  bodyPost_ret (results_row_tmp h _ _ g _ _ _ _ hp hg hu hd hi) hdef (by rw [hc]; exact hQ)
theorem de_ret3 {P : Program} {fn : Func} {p u v : Tmp} {a : Act} {w1 : World} {g : Nat} {ty : TypeId} {d : TypeDesc} {y : De} {l : Value} {c : Int} {Q : Ending → World → Prop} (h : fn.results = #[.cell p ty, .tmp u, .tmp v])
    (hp : a.tmps.getD p undef = .pointer (some ⟨g, 0, none⟩)) (hr : a.tmps.getD u undef = l) (hc : a.tmps.getD v undef = .int .i64 c) (hg : DeAt w1 g y)
    (hu : P.underlying ty = some d) (hd : (match d with | .struct _ | .array _ _ => true | _ => false) = true) (hi : (P.info? ty).map (·.size) = some 13) (hdef : a.defers = []) (hQ : Q (.returned (.tuple #[deV y, l, .int .i64 c])) w1) :
    bodyPost P fn Q .ret a w1 :=
  bodyPost_ret (results_cell_tmp2 h _ _ g _ _ _ _ hp hg hu hd hi) hdef (by rw [hr, hc]; exact hQ)

theorem deOK_bad {d : De} (h : proB d.n = false ∨ stOKB d.x = false ∨ inB d.a 0 1000000000 = false ∨ inB d.c 0 18 = false) : deOK d = false := by
  unfold deOK
  rcases h with h | h | h | h <;> rw [h] <;> simp
theorem deOK_rest {d : De} (h1 : proB d.n = true) (h2 : stOKB d.x = true) (h3 : inB d.a 0 1000000000 = true) (h4 : inB d.c 0 18 = true) : deOK d = (!(decide (d.c ≠ 0) && !d.o) && (!(d.o && decide (0 < d.r.size)) && waitB d.n d.b d.r)) := by
  unfold deOK
  rw [h1, h2, h3, h4]
  cases (!(decide (d.c ≠ 0) && !d.o)) <;> simp

theorem wd_some : ∀ k : Fin 19, (wd k).data.toList.isEmpty = false := by decide
theorem word_some (c : Int) (h : inB c 0 18 = true) : (wordV c).toList.isEmpty = false := by
  have ⟨h1, h2⟩ := inB_true h
  obtain ⟨k, rfl⟩ := Int.eq_ofNat_of_zero_le h1
  rw [wordV, if_pos ⟨h1, by omega⟩, Lib.toList_data]
  exact wd_some ⟨k, by omega⟩
theorem word_none (c : Int) (h : inB c 0 18 = false) : (wordV c).toList.isEmpty = true := by
  have h1 : ¬ (0 ≤ c ∧ c < 19) := fun h' => by
    have : inB c 0 18 = true := by simp [inB]; omega
    rw [this] at h; cases h
  rw [wordV, if_neg h1, Lib.toList_data]
  rfl

set_option maxHeartbeats 2000000 in
set_option maxRecDepth 100000 in
theorem impl_DecoderOK (d : De) (w : World) (ht : TabM w) (hw : TabWords w) (hx : Wide64 d.x) (hr : d.r.size ≤ 1048576) :
    Calls Tryz.prog 46 #[deV d] w fun e w' => e = .returned (.bool (deOK d)) ∧ Below w.heap.size w w' := by
  have HN := Lib.hid (fun w => impl_isProfile d.n w)
  have HSt := Lib.hid (fun w ht => impl_StateOK d.x w ht hx)
  have HR := Lib.hid (fun g w h ht hn => impl_restOK d g w h ht hn hr)
  have HC := Lib.hid (fun w h => impl_CodeWord d.c w h)
  have D0 : Hid (DeAt (w.alloc (.cells #[.int .i64 d.n, .int .i64 d.a, .int .i64 d.c, .int .i64 d.x.g0, .int .i64 d.x.g1, .int .i64 d.x.g2, .int .i64 d.x.g3, .int .i64 d.x.l, .int .i64 d.x.s, .int .i64 d.x.d, .string d.r, .bool d.b, .bool d.o] 41)) w.heap.size d) := Lib.hid (DeAt.new w d)
  have B0 := Lib.hid (below_one w (.cells #[.int .i64 d.n, .int .i64 d.a, .int .i64 d.c, .int .i64 d.x.g0, .int .i64 d.x.g1, .int .i64 d.x.g2, .int .i64 d.x.g3, .int .i64 d.x.l, .int .i64 d.x.s, .int .i64 d.x.d, .string d.r, .bool d.b, .bool d.o] 41))
  have HT0 := Lib.hid (ht.keep B0.out)
  have HW0 := Lib.hid (hw.keep B0.out)
  unfold stV at HSt
  unfold deV
  clear ht hw hx hr
  cases hn : proB d.n
  · rw [deOK_bad (.inl hn)]
    rw [hn] at HN
    go_enter Tryz.func46, Tryz.ntmps46
    go_wp2_with fail
    refine (HN.out _).mono ?_
    rintro e w1 ⟨rfl, rfl⟩
    go_wp2
    go_ret
    exact ⟨rfl, B0.out⟩
  have HNp := Lib.hid hn
  rw [hn] at HN
  cases hs : stOKB d.x
  · rw [deOK_bad (.inr (.inl hs))]
    rw [hs] at HSt
    clear hn
    go_enter Tryz.func46, Tryz.ntmps46
    go_wp2_with fail
    refine (HN.out _).mono ?_
    rintro e w1 ⟨rfl, rfl⟩
    go_wp2_with fail
    refine (HSt.out _ HT0.out).mono ?_
    rintro e w2 ⟨rfl, b2⟩
    go_wp2
    go_ret
    exact ⟨rfl, B0.out.trans (b2.mono B0.out.size)⟩
  have HSp := Lib.hid hs
  rw [hs] at HSt
  clear hn hs
  cases ha : inB d.a 0 1000000000
  · have ha2 : d.a < 0 ∨ (0 ≤ d.a ∧ 1000000000 < d.a) := by simp [inB] at ha; omega
    rw [deOK_bad (.inr (.inr (.inl ha)))]
    clear ha
    rcases ha2 with h1 | ⟨h0, h1⟩
    · go_enter Tryz.func46, Tryz.ntmps46
      go_wp2_with fail
      refine (HN.out _).mono ?_
      rintro e w1 ⟨rfl, rfl⟩
      go_wp2_with fail
      refine (HSt.out _ HT0.out).mono ?_
      rintro e w2 ⟨rfl, b2⟩
      have ⟨y0, y1, y2, _, _, _, _, _, _, _, y10, y11, y12⟩ := (D0.out.keep b2).cells
      go_wp2
      go_ret
      exact ⟨rfl, B0.out.trans (b2.mono B0.out.size)⟩
    · have h2 : ¬ d.a < 0 := by omega
      go_enter Tryz.func46, Tryz.ntmps46
      go_wp2_with fail
      refine (HN.out _).mono ?_
      rintro e w1 ⟨rfl, rfl⟩
      go_wp2_with fail
      refine (HSt.out _ HT0.out).mono ?_
      rintro e w2 ⟨rfl, b2⟩
      have ⟨y0, y1, y2, _, _, _, _, _, _, _, y10, y11, y12⟩ := (D0.out.keep b2).cells
      go_wp2
      go_ret
      exact ⟨rfl, B0.out.trans (b2.mono B0.out.size)⟩
  have HAp := Lib.hid ha
  have ⟨a0, a1⟩ := inB_true ha
  have a2 : ¬ d.a < 0 := by omega
  have a3 : ¬ 1000000000 < d.a := by omega
  clear ha
  cases hc : inB d.c 0 18
  · rw [deOK_bad (.inr (.inr (.inr hc)))]
    have hE := word_none d.c hc
    generalize wordV d.c = wv at *
    clear hc
    go_enter Tryz.func46, Tryz.ntmps46
    go_wp2_with fail
    refine (HN.out _).mono ?_
    rintro e w1 ⟨rfl, rfl⟩
    go_wp2_with fail
    refine (HSt.out _ HT0.out).mono ?_
    rintro e w2 ⟨rfl, b2⟩
    have ⟨y0, y1, y2, _, _, _, _, _, _, _, y10, y11, y12⟩ := (D0.out.keep b2).cells
    go_wp2_with fail
    refine (HC.out _ (HW0.out.keep b2)).mono ?_
    rintro e w3 ⟨rfl, rfl⟩
    go_wp2
    go_ret
    exact ⟨rfl, B0.out.trans (b2.mono B0.out.size)⟩
  have hE := word_some d.c hc
  rw [deOK_rest HNp.out HSp.out HAp.out hc]
  generalize wordV d.c = wv at *
  clear hc
  generalize hq : (!(d.o && decide (0 < d.r.size)) && waitB d.n d.b d.r) = q at *
  clear hq
  by_cases h0 : d.c = 0
  · have e0 : (d.c == 0) = true := by simpa using h0
    have HE : Hid ((!(decide (d.c ≠ 0) && !d.o) && q) = q) := Lib.hid (by rw [decide_eq_false (by simpa using h0)]; simp)
    rw [HE.out]
    clear h0 HE
    go_enter Tryz.func46, Tryz.ntmps46
    go_wp2_with fail
    refine (HN.out _).mono ?_
    rintro e w1 ⟨rfl, rfl⟩
    go_wp2_with fail
    refine (HSt.out _ HT0.out).mono ?_
    rintro e w2 ⟨rfl, b2⟩
    have ⟨y0, y1, y2, _, _, _, _, _, _, _, y10, y11, y12⟩ := (D0.out.keep b2).cells
    go_wp2_with fail
    refine (HC.out _ (HW0.out.keep b2)).mono ?_
    rintro e w3 ⟨rfl, rfl⟩
    go_wp2_with fail
    refine (HR.out _ _ (D0.out.keep b2) (HT0.out.keep b2) HNp.out).mono ?_
    rintro e w3 ⟨rfl, b3⟩
    go_wp2
    go_ret
    exact ⟨rfl, (B0.out.trans (b2.mono B0.out.size)).trans (b3.mono (B0.out.trans (b2.mono B0.out.size)).size)⟩
  · have e0 : (d.c == 0) = false := by rw [beq_eq_false_iff_ne]; exact h0
    obtain ⟨o, ho⟩ : ∃ o, d.o = o := ⟨_, rfl⟩
    have HO := Lib.hid ho
    clear ho
    cases o
    · have HE : Hid ((!(decide (d.c ≠ 0) && !d.o) && q) = false) := Lib.hid (by rw [HO.out, decide_eq_true (by simpa using h0)]; simp)
      rw [HE.out]
      clear h0 HE
      go_enter Tryz.func46, Tryz.ntmps46
      go_wp2_with fail
      refine (HN.out _).mono ?_
      rintro e w1 ⟨rfl, rfl⟩
      go_wp2_with fail
      refine (HSt.out _ HT0.out).mono ?_
      rintro e w2 ⟨rfl, b2⟩
      have ⟨y0, y1, y2, _, _, _, _, _, _, _, y10, y11, y12⟩ := (D0.out.keep b2).cells
      rw [HO.out] at y12
      go_wp2_with fail
      refine (HC.out _ (HW0.out.keep b2)).mono ?_
      rintro e w3 ⟨rfl, rfl⟩
      go_wp2
      go_ret
      exact ⟨rfl, B0.out.trans (b2.mono B0.out.size)⟩
    · have HE : Hid ((!(decide (d.c ≠ 0) && !d.o) && q) = q) := Lib.hid (by rw [HO.out]; simp)
      rw [HE.out]
      clear h0 HE
      go_enter Tryz.func46, Tryz.ntmps46
      go_wp2_with fail
      refine (HN.out _).mono ?_
      rintro e w1 ⟨rfl, rfl⟩
      go_wp2_with fail
      refine (HSt.out _ HT0.out).mono ?_
      rintro e w2 ⟨rfl, b2⟩
      have ⟨y0, y1, y2, _, _, _, _, _, _, _, y10, y11, y12⟩ := (D0.out.keep b2).cells
      rw [HO.out] at y12
      go_wp2_with fail
      refine (HC.out _ (HW0.out.keep b2)).mono ?_
      rintro e w3 ⟨rfl, rfl⟩
      go_wp2_with fail
      refine (HR.out _ _ (D0.out.keep b2) (HT0.out.keep b2) HNp.out).mono ?_
      rintro e w3 ⟨rfl, b3⟩
      go_wp2
      go_ret
      exact ⟨rfl, (B0.out.trans (b2.mono B0.out.size)).trans (b3.mono (B0.out.trans (b2.mono B0.out.size)).size)⟩

/-- The code of a decoder that is over, 0 of any other. -/
def overC (d : De) : Int := if d.o = true ∧ d.c = 0 then 17 else d.c
theorem over_why {d : De} (h : d.o = true) : overC d = whyC d := by
  unfold overC whyC
  by_cases h0 : d.c = 0
  · rw [if_pos ⟨h, h0⟩, if_pos h0]
  · rw [if_neg (fun h => h0 h.2), if_neg h0]
theorem over_none {d : De} (h : d.o = false) (hc : d.c ≠ 0 → d.o = true) : overC d = 0 := by
  have h0 : d.c = 0 := by
    by_cases h0 : d.c = 0
    · exact h0
    · rw [hc h0] at h; cases h
  unfold overC
  rw [if_neg (fun h' => by rw [h] at h'; cases h'.1), h0]
theorem why_some (d : De) : whyC d ≠ 0 := by
  unfold whyC
  split
  · decide
  · assumption

theorem impl_overCode (o : Bool) (k : Int) (w : World) : Calls Tryz.prog 47 #[.bool o, .int .i64 k] w fun e w' => e = .returned (.int .i64 (if o = true ∧ k = 0 then 17 else k)) ∧ w = w' := by
  cases o
  · rw [if_neg (fun h => by cases h.1)]
    go_enter Tryz.func47, Tryz.ntmps47
    go_wp2
    go_ret
    exact ⟨rfl, rfl⟩
  · by_cases h0 : k = 0
    · have e0 : (k == 0) = true := by simpa using h0
      rw [if_pos ⟨rfl, h0⟩]
      clear h0
      go_enter Tryz.func47, Tryz.ntmps47
      go_wp2
      go_ret
      exact ⟨rfl, rfl⟩
    · have e0 : (k == 0) = false := by rw [beq_eq_false_iff_ne]; exact h0
      rw [if_neg (fun h => h0 h.2)]
      clear h0
      go_enter Tryz.func47, Tryz.ntmps47
      go_wp2
      go_ret
      exact ⟨rfl, rfl⟩

set_option maxHeartbeats 1000000 in
theorem impl_dend (d : De) (g : Nat) (c : Int) (w : World) (h : DeAt w g d) : Calls Tryz.prog 91 #[.pointer (some ⟨g, 0, none⟩), .int .i64 c] w fun e w' => e = .returned (.tuple #[]) ∧ DeAt w' g (failD d c) ∧ Only g w w' := by
  have HD : Hid (DeAt (((w.setCell ⟨g, 2, none⟩ (.int .i64 c)).setCell ⟨g, 4 + 6, none⟩ (.string ⟨#[]⟩)).setCell ⟨g, 12, none⟩ (.bool true)) g (failD d c)) := Lib.hid (((h.set2 c).set10 ⟨#[]⟩).set12 true)
  have HO : Hid (Only g w (((w.setCell ⟨g, 2, none⟩ (.int .i64 c)).setCell ⟨g, 4 + 6, none⟩ (.string ⟨#[]⟩)).setCell ⟨g, 12, none⟩ (.bool true))) := Lib.hid (((Only.set g 2 _ _).trans (Only.set g (4 + 6) _ _)).trans (Only.set g 12 _ _))
  have ⟨y0, y1, y2, _, _, _, _, _, _, _, y10, y11, y12⟩ := h.cells
  have ⟨z0, z1, z2, _, _, _, _, _, _, _, z10, z11, z12⟩ := h.thaw
  have hl := h.lt
  clear h
  go_enter Tryz.func91, Tryz.ntmps91
  go_wp2
  go_end0
  exact ⟨rfl, HD.out, HO.out⟩

set_option maxHeartbeats 1000000 in
theorem impl_wait (d : De) (g : Nat) (s : ByteArray) (w : World) (h : DeAt w g d) (hs : s.size ≤ 1048576) : Calls Tryz.prog 90 #[.pointer (some ⟨g, 0, none⟩), .string s] w fun e w' => e = .returned (.tuple #[]) ∧ DeAt w' g (waitD d s) ∧ Only g w w' := by
  have HC := Lib.hid (fun w => str_Clone s w hs)
  have HD := Lib.hid h
  have hl := h.lt
  clear h hs
  go_enter Tryz.func90, Tryz.ntmps90
  go_wp2_with fail
  refine (HC.out _).mono ?_
  rintro e w1 ⟨rfl, b1⟩
  have h1 := HD.out.keep b1
  have O1 := Lib.hid ((only_below hl b1).trans (Only.set g 10 w1 (.string s)))
  have H1 := Lib.hid (h1.set10 s)
  have ⟨y0, y1, y2, _, _, _, _, _, _, _, y10, y11, y12⟩ := h1.cells
  have ⟨z0, z1, z2, _, _, _, _, _, _, _, z10, z11, z12⟩ := h1.thaw
  have hl1 := h1.lt
  clear h1 b1
  go_wp2
  go_end0
  exact ⟨rfl, H1.out, O1.out⟩

end Go.Proofs.YtbamjhldebobhaaGreatDoor

namespace Go.Proofs.YtbamjhldebobhaaGreatDoor
open Go.RowKit Go.Sort

theorem pre_empty {h r : ByteArray} (hr : r.size = 0) : ((h.extract 0 0).toList == r.toList) = true := by
  rw [size_zero hr]
  have : h.extract 0 0 = ⟨#[]⟩ := size_zero (by simp)
  rw [this]
  exact beq_self_eq_true _
theorem pre_some {h r : ByteArray} (hl : r.size < h.size) : ((h.extract 0 r.size).toList == r.toList) = (decide (r.size < h.size) && hasPre h r) := by
  rw [hasPre, decide_eq_true hl, Bool.true_and, decide_eq_true (by omega), Bool.true_and]

theorem field_eq {h h' : ByteArray} (w : World) (e : h = h') : (Result.ok (Value.string h) w : Result Value) = Result.ok (Value.string h') w := by rw [e]
theorem deCells {w : World} {g : Nat} {n a c : Int} {x : St} {r : ByteArray} {b o : Bool} (h : DeAt w g ⟨n, a, c, x, r, b, o⟩) : w.cell? ⟨g, 0, none⟩ = some (.int .i64 n) ∧ w.cell? ⟨g, 1, none⟩ = some (.int .i64 a) ∧ w.cell? ⟨g, 2, none⟩ = some (.int .i64 c) ∧ w.cell? ⟨g, 3, none⟩ = some (.int .i64 x.g0) ∧ w.cell? ⟨g, 4, none⟩ = some (.int .i64 x.g1) ∧ w.cell? ⟨g, 5, none⟩ = some (.int .i64 x.g2) ∧ w.cell? ⟨g, 6, none⟩ = some (.int .i64 x.g3) ∧ w.cell? ⟨g, 7, none⟩ = some (.int .i64 x.l) ∧ w.cell? ⟨g, 8, none⟩ = some (.int .i64 x.s) ∧ w.cell? ⟨g, 9, none⟩ = some (.int .i64 x.d) ∧ w.cell? ⟨g, 10, none⟩ = some (.string r) ∧ w.cell? ⟨g, 11, none⟩ = some (.bool b) ∧ w.cell? ⟨g, 12, none⟩ = some (.bool o) := h.cells

set_option maxHeartbeats 2000000 in
set_option maxRecDepth 100000 in
theorem spec_l08Rest (d : De) (w : World) (hr : d.r.size ≤ 1048576) : Calls Tryz.prog 83 #[deV d] w fun e w' => e = .returned (.bool (waitB d.n d.b d.r)) ∧ Below w.heap.size w w' := by
  obtain ⟨n, a, c, x, r, b, o⟩ := d
  have hr' : r.size ≤ 1048576 := hr
  clear hr
  have HPf := Lib.hid (fun w => spec_l05Profile n w)
  have D0 : Hid (DeAt (w.alloc (.cells #[.int .i64 n, .int .i64 a, .int .i64 c, .int .i64 x.g0, .int .i64 x.g1, .int .i64 x.g2, .int .i64 x.g3, .int .i64 x.l, .int .i64 x.s, .int .i64 x.d, .string r, .bool b, .bool o] 41)) w.heap.size ⟨n, a, c, x, r, b, o⟩) := Lib.hid (DeAt.new w ⟨n, a, c, x, r, b, o⟩)
  have B0 := Lib.hid (below_one w (.cells #[.int .i64 n, .int .i64 a, .int .i64 c, .int .i64 x.g0, .int .i64 x.g1, .int .i64 x.g2, .int .i64 x.g3, .int .i64 x.l, .int .i64 x.s, .int .i64 x.d, .string r, .bool b, .bool o] 41))
  unfold deV
  dsimp only
  cases b
  · have hfd : ∀ v w, (Instr.field 60 (prV n v) 1).run Tryz.prog w = .ok (.string (prHead n)) w := fun _ _ => by kernel_rfl
    unfold prV at hfd
    have hh : prHead n = ⟨#[]⟩ ∨ prHead n = ⟨#[27, 36, 41, 67]⟩ := by unfold prHead; split; exact .inr rfl; exact .inl rfl
    by_cases h0 : r.size = 0
    · rw [wait_empty h0]
      have HP := Lib.hid (pre_empty (h := prHead n) h0)
      obtain rfl := size_zero h0
      clear h0 hr'
      rcases hh with hh | hh
      · have HFd := Lib.hid (fun v w => (hfd v w).trans (field_eq w hh))
        clear hh hfd
        go_enter Tryz.func83, Tryz.ntmps83
        go_wp2_with fail
        refine (HPf.out _).mono ?_
        rintro e w1 ⟨pv, rfl, hpv, b1⟩
        have hf1 := HFd.out pv w1
        have D1 := Lib.hid (D0.out.keep b1)
        have B1 := Lib.hid (B0.out.trans (b1.mono B0.out.size))
        have ⟨y0, y1, y2, _, _, _, _, _, _, _, y10, y11, _⟩ := deCells D1.out
        have hl1 := D1.out.lt
        unfold prV
        clear b1 hpv
        go_wp2_with fail
        go_quiet (fail)
        go_wp2
        go_ret
        exact ⟨rfl, below_drewN B1.out _⟩
      · have HFd := Lib.hid (fun v w => (hfd v w).trans (field_eq w hh))
        clear hh hfd
        go_enter Tryz.func83, Tryz.ntmps83
        go_wp2_with fail
        refine (HPf.out _).mono ?_
        rintro e w1 ⟨pv, rfl, hpv, b1⟩
        have hf1 := HFd.out pv w1
        have D1 := Lib.hid (D0.out.keep b1)
        have B1 := Lib.hid (B0.out.trans (b1.mono B0.out.size))
        have ⟨y0, y1, y2, _, _, _, _, _, _, _, y10, y11, _⟩ := deCells D1.out
        have hl1 := D1.out.lt
        unfold prV
        clear b1 hpv
        go_wp2_with fail
        go_quiet (fail)
        go_wp2
        go_ret
        exact ⟨rfl, below_drewN B1.out _⟩
    have h1 : 0 < r.size := by omega
    rw [wait_ahead h1]
    have h1' : (0 : Int) < (r.size : Int) := by omega
    by_cases h4 : r.size < 4
    · rcases hh with hh | hh
      · have HFd := Lib.hid (fun v w => (hfd v w).trans (field_eq w hh))
        rw [hh]
        have HE : (decide (r.size < (⟨#[]⟩ : ByteArray).size) && hasPre ⟨#[]⟩ r) = false := by rw [decide_eq_false (by show ¬ r.size < 0; omega)]; rfl
        rw [HE]
        have hm : decide ((r.size : Int) < max 0 1) = false := decide_eq_false (by omega)
        clear hh h0 h1 h4 HE hr' hfd
        go_enter Tryz.func83, Tryz.ntmps83
        go_wp2_with fail
        refine (HPf.out _).mono ?_
        rintro e w1 ⟨pv, rfl, hpv, b1⟩
        have hf1 := HFd.out pv w1
        have D1 := Lib.hid (D0.out.keep b1)
        have B1 := Lib.hid (B0.out.trans (b1.mono B0.out.size))
        have ⟨y0, y1, y2, _, _, _, _, _, _, _, y10, y11, _⟩ := deCells D1.out
        have hl1 := D1.out.lt
        unfold prV
        clear b1 hpv
        go_wp2_with fail
        go_quiet (fail)
        go_wp2
        go_ret
        exact ⟨rfl, below_drewN B1.out _⟩
      · have HFd := Lib.hid (fun v w => (hfd v w).trans (field_eq w hh))
        rw [hh]
        have HE := Lib.hid (pre_some (h := ⟨#[27, 36, 41, 67]⟩) (r := r) (show r.size < 4 from h4))
        have hm : decide ((r.size : Int) < max 4 1) = true := decide_eq_true (by omega)
        have h5' : (r.size : Int) ≤ 4 := by omega
        clear hh h0 h1 hr' hfd h4
        go_enter Tryz.func83, Tryz.ntmps83
        go_wp2_with fail
        refine (HPf.out _).mono ?_
        rintro e w1 ⟨pv, rfl, hpv, b1⟩
        have hf1 := HFd.out pv w1
        have D1 := Lib.hid (D0.out.keep b1)
        have B1 := Lib.hid (B0.out.trans (b1.mono B0.out.size))
        have ⟨y0, y1, y2, _, _, _, _, _, _, _, y10, y11, _⟩ := deCells D1.out
        have hl1 := D1.out.lt
        unfold prV
        clear b1 hpv
        go_wp2_with fail
        go_quiet (fail)
        go_wp2
        go_ret
        exact ⟨ret_bool HE.out, below_drewN B1.out _⟩
    · have HE : (decide (r.size < (prHead n).size) && hasPre (prHead n) r) = false := by
        have : (prHead n).size ≤ 4 := head_le n
        rw [decide_eq_false (by omega)]
        rfl
      rw [HE]
      rcases hh with hh | hh
      · have HFd := Lib.hid (fun v w => (hfd v w).trans (field_eq w hh))
        have hm : decide ((r.size : Int) < max 0 1) = false := decide_eq_false (by omega)
        clear hh h0 h1 h4 HE hr' hfd
        go_enter Tryz.func83, Tryz.ntmps83
        go_wp2_with fail
        refine (HPf.out _).mono ?_
        rintro e w1 ⟨pv, rfl, hpv, b1⟩
        have hf1 := HFd.out pv w1
        have D1 := Lib.hid (D0.out.keep b1)
        have B1 := Lib.hid (B0.out.trans (b1.mono B0.out.size))
        have ⟨y0, y1, y2, _, _, _, _, _, _, _, y10, y11, _⟩ := deCells D1.out
        have hl1 := D1.out.lt
        unfold prV
        clear b1 hpv
        go_wp2_with fail
        go_quiet (fail)
        go_wp2
        go_ret
        exact ⟨rfl, below_drewN B1.out _⟩
      · have HFd := Lib.hid (fun v w => (hfd v w).trans (field_eq w hh))
        have hm : decide ((r.size : Int) < max 4 1) = false := decide_eq_false (by omega)
        clear hh h0 h1 h4 HE hr' hfd
        go_enter Tryz.func83, Tryz.ntmps83
        go_wp2_with fail
        refine (HPf.out _).mono ?_
        rintro e w1 ⟨pv, rfl, hpv, b1⟩
        have hf1 := HFd.out pv w1
        have D1 := Lib.hid (D0.out.keep b1)
        have B1 := Lib.hid (B0.out.trans (b1.mono B0.out.size))
        have ⟨y0, y1, y2, _, _, _, _, _, _, _, y10, y11, _⟩ := deCells D1.out
        have hl1 := D1.out.lt
        unfold prV
        clear b1 hpv
        go_wp2_with fail
        go_quiet (fail)
        go_wp2
        go_ret
        exact ⟨rfl, below_drewN B1.out _⟩
  · by_cases h0 : r.size = 0
    · rw [wait_empty h0]
      have he := empty_size h0
      clear h0 hr'
      go_enter Tryz.func83, Tryz.ntmps83
      go_wp2
      go_ret
      exact ⟨rfl, B0.out⟩
    have h1 : 0 < r.size := by omega
    have he := some_size h1
    rw [wait_begun h1]
    by_cases h4 : r.size ≤ 4
    · have h4' : (r.size : Int) ≤ 4 := by omega
      have HN := Lib.hid (fun w => spec_l03Next r 0 w h1 hr')
      unfold TokDone tokV at HN
      generalize nextTok r 0 = y at *
      have hfd : ∀ w, (Instr.field 102 (.agg #[.int .i64 y.k, .int .i64 y.a, .int .i64 y.b, .int .i64 y.c, .int .i64 y.p, .int .i64 y.n]) 0).run Tryz.prog w = .ok (.int .i64 y.k) w := fun _ => by kernel_rfl
      clear h0 h1 hr' h4
      go_enter Tryz.func83, Tryz.ntmps83
      go_wp2_with fail
      refine (HN.out _).mono ?_
      rintro e w1 ⟨rfl, b1⟩
      go_wp2
      go_ret
      exact ⟨ret_bool (by simp [Bool.beq_eq_decide_eq]), B0.out.trans (b1.mono B0.out.size)⟩
    · have h4' : ¬ (r.size : Int) ≤ 4 := by omega
      have HE : decide ((nextTok r 0).k = 8) = false := decide_eq_false (fun h => h4 (by have := tail_le r 0 h1 h; omega))
      rw [HE]
      clear h0 hr' h4 HE
      go_enter Tryz.func83, Tryz.ntmps83
      go_wp2
      go_ret
      exact ⟨rfl, B0.out⟩

end Go.Proofs.YtbamjhldebobhaaGreatDoor

namespace Go.Proofs.YtbamjhldebobhaaGreatDoor
open Go.RowKit Go.Sort

theorem de_ret {P : Program} {fn : Func} {p : Tmp} {a : Act} {w w1 : World} {g : Nat} {ty : TypeId} {d : TypeDesc} {y : De} (h : fn.results = #[.cell p ty])
    (hp : a.tmps.getD p undef = .pointer (some ⟨g, 0, none⟩)) (hg : DeAt w1 g y)
    (hu : P.underlying ty = some d) (hd : (match d with | .struct _ | .array _ _ => true | _ => false) = true) (hi : (P.info? ty).map (·.size) = some 13) (hdef : a.defers = []) (hb : Below w.heap.size w w1) :
    bodyPost P fn (DeDone y w) .ret a w1 :=
  bodyPost_ret (results_cell_row h _ _ g _ _ _ _ hp hg hu hd hi) hdef ⟨rfl, hb⟩

/-- A decoder of the laws in a block. -/
def LDe (w : World) (g : Nat) (d : De) : Prop := w.heap[g]? = some (.cells #[.int .i64 d.n, .int .i64 d.a, .int .i64 d.c, .int .i64 d.x.g0, .int .i64 d.x.g1, .int .i64 d.x.g2, .int .i64 d.x.g3, .int .i64 d.x.l, .int .i64 d.x.s, .int .i64 d.x.d, .string d.r, .bool d.b, .bool d.o] 37)
theorem LDe.lt {w : World} {g : Nat} {d : De} (h : LDe w g d) : g < w.heap.size := (Array.getElem?_eq_some_iff.1 h).1
theorem LDe.keep {w w' : World} {g : Nat} {d : De} (h : LDe w g d) (b : Below w.heap.size w w') : LDe w' g d := (b.block g h.lt).trans h
theorem LDe.new (w : World) (d : De) : LDe (w.alloc (.cells #[.int .i64 d.n, .int .i64 d.a, .int .i64 d.c, .int .i64 d.x.g0, .int .i64 d.x.g1, .int .i64 d.x.g2, .int .i64 d.x.g3, .int .i64 d.x.l, .int .i64 d.x.s, .int .i64 d.x.d, .string d.r, .bool d.b, .bool d.o] 37)) w.heap.size d := heap_alloc_new _ _
theorem LDe.cells {w : World} {g : Nat} {d : De} (h : LDe w g d) : w.cell? ⟨g, 0, none⟩ = some (.int .i64 d.n) ∧ w.cell? ⟨g, 1, none⟩ = some (.int .i64 d.a) ∧ w.cell? ⟨g, 2, none⟩ = some (.int .i64 d.c) ∧ w.cell? ⟨g, 3, none⟩ = some (.int .i64 d.x.g0) ∧ w.cell? ⟨g, 4, none⟩ = some (.int .i64 d.x.g1) ∧ w.cell? ⟨g, 5, none⟩ = some (.int .i64 d.x.g2) ∧ w.cell? ⟨g, 6, none⟩ = some (.int .i64 d.x.g3) ∧ w.cell? ⟨g, 7, none⟩ = some (.int .i64 d.x.l) ∧ w.cell? ⟨g, 8, none⟩ = some (.int .i64 d.x.s) ∧ w.cell? ⟨g, 9, none⟩ = some (.int .i64 d.x.d) ∧ w.cell? ⟨g, 10, none⟩ = some (.string d.r) ∧ w.cell? ⟨g, 11, none⟩ = some (.bool d.b) ∧ w.cell? ⟨g, 12, none⟩ = some (.bool d.o) := by
  refine ⟨?_, ?_, ?_, ?_, ?_, ?_, ?_, ?_, ?_, ?_, ?_, ?_, ?_⟩ <;> (rw [cell_of_row _ _ _ _ _ _ h]; rfl)

theorem laws_szDecoder (d : De) (w : World) (hr : d.r.size ≤ maxLen) : Calls Tryz.prog 21 #[deV d, .int .i64 1048576] w fun e w' => e = .returned (.int .i64 (if d.r.size ≤ 1048576 then (1048576 - d.r.size : Int) else -1)) ∧ Below w.heap.size w w' := by
  have B0 := Lib.hid (below_one w (.cells #[.int .i64 d.n, .int .i64 d.a, .int .i64 d.c, .int .i64 d.x.g0, .int .i64 d.x.g1, .int .i64 d.x.g2, .int .i64 d.x.g3, .int .i64 d.x.l, .int .i64 d.x.s, .int .i64 d.x.d, .string d.r, .bool d.b, .bool d.o] 37))
  have hr' : d.r.size ≤ 9223372036854775807 := hr
  have u1 : IntKind.i64.wrap ((1048576 : Int) - (d.r.size : Int)) = (1048576 : Int) - (d.r.size : Int) := IntWalk.i64_in _ (by omega)
  unfold deV
  by_cases h : d.r.size ≤ 1048576
  · rw [if_pos h]
    have h2 : ¬ (1048576 : Int) - (d.r.size : Int) < 0 := by omega
    clear h hr hr'
    go_enter Tryz.func21, Tryz.ntmps21
    go_wp2
    go_ret
    exact ⟨rfl, B0.out⟩
  · rw [if_neg h]
    have h2 : (1048576 : Int) - (d.r.size : Int) < 0 := by omega
    clear h hr hr'
    go_enter Tryz.func21, Tryz.ntmps21
    go_wp2
    go_ret
    exact ⟨rfl, B0.out⟩

set_option maxHeartbeats 1000000 in
set_option maxRecDepth 100000 in
theorem laws_toDecoder (d : De) (w : World) : Calls Tryz.prog 23 #[deV d] w (DeDone d w) := by
  have HT := Lib.hid (fun w => laws_toState d.x w)
  have L0 := Lib.hid (LDe.new w d)
  unfold StDone stV at HT
  unfold deV
  go_enter Tryz.func23, Tryz.ntmps23
  have D0 : Hid (DeAt (((w.alloc (.cells #[.int .i64 d.n, .int .i64 d.a, .int .i64 d.c, .int .i64 d.x.g0, .int .i64 d.x.g1, .int .i64 d.x.g2, .int .i64 d.x.g3, .int .i64 d.x.l, .int .i64 d.x.s, .int .i64 d.x.d, .string d.r, .bool d.b, .bool d.o] 37)).alloc (.cells #[.int .i64 0, .int .i64 0, .int .i64 0, .int .i64 0, .int .i64 0, .int .i64 0, .int .i64 0, .int .i64 0, .int .i64 0, .int .i64 0, .string ⟨#[]⟩, .bool false, .bool false] 41)).alloc (.cells #[.int .i64 d.n, .int .i64 d.a, .int .i64 d.c, .int .i64 0, .int .i64 0, .int .i64 0, .int .i64 0, .int .i64 0, .int .i64 0, .int .i64 0, .string ⟨#[]⟩, .bool false, .bool false] 41)) (w.heap.size + 1 + 1) ⟨d.n, d.a, d.c, zeroSt, ⟨#[]⟩, false, false⟩) := Lib.hid (by
    have h := heap_alloc2_new (w.alloc (.cells #[.int .i64 d.n, .int .i64 d.a, .int .i64 d.c, .int .i64 d.x.g0, .int .i64 d.x.g1, .int .i64 d.x.g2, .int .i64 d.x.g3, .int .i64 d.x.l, .int .i64 d.x.s, .int .i64 d.x.d, .string d.r, .bool d.b, .bool d.o] 37)) (.cells #[.int .i64 0, .int .i64 0, .int .i64 0, .int .i64 0, .int .i64 0, .int .i64 0, .int .i64 0, .int .i64 0, .int .i64 0, .int .i64 0, .string ⟨#[]⟩, .bool false, .bool false] 41) (.cells #[.int .i64 d.n, .int .i64 d.a, .int .i64 d.c, .int .i64 0, .int .i64 0, .int .i64 0, .int .i64 0, .int .i64 0, .int .i64 0, .int .i64 0, .string ⟨#[]⟩, .bool false, .bool false] 41)
    rw [World.size_alloc] at h
    exact h)
  have R0 : Hid (DeAt (((w.alloc (.cells #[.int .i64 d.n, .int .i64 d.a, .int .i64 d.c, .int .i64 d.x.g0, .int .i64 d.x.g1, .int .i64 d.x.g2, .int .i64 d.x.g3, .int .i64 d.x.l, .int .i64 d.x.s, .int .i64 d.x.d, .string d.r, .bool d.b, .bool d.o] 37)).alloc (.cells #[.int .i64 0, .int .i64 0, .int .i64 0, .int .i64 0, .int .i64 0, .int .i64 0, .int .i64 0, .int .i64 0, .int .i64 0, .int .i64 0, .string ⟨#[]⟩, .bool false, .bool false] 41)).alloc (.cells #[.int .i64 d.n, .int .i64 d.a, .int .i64 d.c, .int .i64 0, .int .i64 0, .int .i64 0, .int .i64 0, .int .i64 0, .int .i64 0, .int .i64 0, .string ⟨#[]⟩, .bool false, .bool false] 41)) (w.heap.size + 1) zeroDe) := Lib.hid (by
    have h := heap_alloc2_old (w.alloc (.cells #[.int .i64 d.n, .int .i64 d.a, .int .i64 d.c, .int .i64 d.x.g0, .int .i64 d.x.g1, .int .i64 d.x.g2, .int .i64 d.x.g3, .int .i64 d.x.l, .int .i64 d.x.s, .int .i64 d.x.d, .string d.r, .bool d.b, .bool d.o] 37)) (.cells #[.int .i64 0, .int .i64 0, .int .i64 0, .int .i64 0, .int .i64 0, .int .i64 0, .int .i64 0, .int .i64 0, .int .i64 0, .int .i64 0, .string ⟨#[]⟩, .bool false, .bool false] 41) (.cells #[.int .i64 d.n, .int .i64 d.a, .int .i64 d.c, .int .i64 0, .int .i64 0, .int .i64 0, .int .i64 0, .int .i64 0, .int .i64 0, .int .i64 0, .string ⟨#[]⟩, .bool false, .bool false] 41)
    rw [World.size_alloc] at h
    exact h)
  have B0 := Lib.hid (((below_one w (.cells #[.int .i64 d.n, .int .i64 d.a, .int .i64 d.c, .int .i64 d.x.g0, .int .i64 d.x.g1, .int .i64 d.x.g2, .int .i64 d.x.g3, .int .i64 d.x.l, .int .i64 d.x.s, .int .i64 d.x.d, .string d.r, .bool d.b, .bool d.o] 37)).alloc (Nat.le_of_lt L0.out.lt) (.cells #[.int .i64 0, .int .i64 0, .int .i64 0, .int .i64 0, .int .i64 0, .int .i64 0, .int .i64 0, .int .i64 0, .int .i64 0, .int .i64 0, .string ⟨#[]⟩, .bool false, .bool false] 41)).alloc (by simp; omega) (.cells #[.int .i64 d.n, .int .i64 d.a, .int .i64 d.c, .int .i64 0, .int .i64 0, .int .i64 0, .int .i64 0, .int .i64 0, .int .i64 0, .int .i64 0, .string ⟨#[]⟩, .bool false, .bool false] 41))
  have L1 := Lib.hid (L0.out.keep (below_two _ (.cells #[.int .i64 0, .int .i64 0, .int .i64 0, .int .i64 0, .int .i64 0, .int .i64 0, .int .i64 0, .int .i64 0, .int .i64 0, .int .i64 0, .string ⟨#[]⟩, .bool false, .bool false] 41) (.cells #[.int .i64 d.n, .int .i64 d.a, .int .i64 d.c, .int .i64 0, .int .i64 0, .int .i64 0, .int .i64 0, .int .i64 0, .int .i64 0, .int .i64 0, .string ⟨#[]⟩, .bool false, .bool false] 41)))
  go_wp2_with fail
  refine (HT.out _).mono ?_
  generalize ((w.alloc (.cells #[.int .i64 d.n, .int .i64 d.a, .int .i64 d.c, .int .i64 d.x.g0, .int .i64 d.x.g1, .int .i64 d.x.g2, .int .i64 d.x.g3, .int .i64 d.x.l, .int .i64 d.x.s, .int .i64 d.x.d, .string d.r, .bool d.b, .bool d.o] 37)).alloc (.cells #[.int .i64 0, .int .i64 0, .int .i64 0, .int .i64 0, .int .i64 0, .int .i64 0, .int .i64 0, .int .i64 0, .int .i64 0, .int .i64 0, .string ⟨#[]⟩, .bool false, .bool false] 41)).alloc (.cells #[.int .i64 d.n, .int .i64 d.a, .int .i64 d.c, .int .i64 0, .int .i64 0, .int .i64 0, .int .i64 0, .int .i64 0, .int .i64 0, .int .i64 0, .string ⟨#[]⟩, .bool false, .bool false] 41) = W at *
  rintro e w1 ⟨rfl, b1⟩
  have D1 := Lib.hid (D0.out.keep b1)
  have R1 := Lib.hid (R0.out.keep b1)
  have B1 := Lib.hid (B0.out.trans (b1.mono B0.out.size))
  have ⟨l0, l1, l2, l3, l4, l5, l6, l7, l8, l9, l10, l11, l12⟩ := (L1.out.keep b1).cells
  have ⟨d0, d1, d2, d3, d4, d5, d6, d7, d8, d9, d10, d11, d12⟩ := deCells D1.out
  have ⟨z0, z1, z2, z3, z4, z5, z6, z7, z8, z9, z10, z11, z12⟩ := D1.out.thaw
  have ⟨r0, r1, r2, r3, r4, r5, r6, r7, r8, r9, r10, r11, r12⟩ := deCells R1.out
  have ⟨s0, s1, s2, s3, s4, s5, s6, s7, s8, s9, s10, s11, s12⟩ := R1.out.thaw
  have hl0 := D1.out.lt
  have hl1 := R1.out.lt
  have hl2 := (L1.out.keep b1).lt
  clear b1
  have D2 := Lib.hid ((((D1.out.putS d.x).set10 d.r).set11 d.b).set12 d.o)
  have R2 : Hid (DeAt ((((putDS w1 (w.heap.size + 1 + 1) d.x).setCell ⟨w.heap.size + 1 + 1, 10, none⟩ (.string d.r)).setCell ⟨w.heap.size + 1 + 1, 11, none⟩ (.bool d.b)).setCell ⟨w.heap.size + 1 + 1, 12, none⟩ (.bool d.o)) (w.heap.size + 1) zeroDe) := Lib.hid ((((((only_putDS _ w1 d.x).trans (Only.set _ 10 _ _)).trans (Only.set _ 11 _ _)).trans (Only.set _ 12 _ _)).2 _ (by omega) hl1).trans R1.out)
  have B2 := Lib.hid ((((below_putDS B1.out (show w.heap.size ≤ w.heap.size + 1 + 1 by omega) d.x).setCell (p := ⟨w.heap.size + 1 + 1, 10, none⟩) (show w.heap.size ≤ w.heap.size + 1 + 1 by omega) (.string d.r)).setCell (p := ⟨w.heap.size + 1 + 1, 11, none⟩) (show w.heap.size ≤ w.heap.size + 1 + 1 by omega) (.bool d.b)).setCell (p := ⟨w.heap.size + 1 + 1, 12, none⟩) (show w.heap.size ≤ w.heap.size + 1 + 1 by omega) (.bool d.o))
  have B3 := Lib.hid (below_putDe B2.out (show w.heap.size ≤ w.heap.size + 1 by omega) d)
  have R3 := Lib.hid (R2.out.put d)
  go_wp2
  exact de_ret rfl rfl R3.out Tryz.underlying41 rfl (by kernel_rfl) rfl B3.out

end Go.Proofs.YtbamjhldebobhaaGreatDoor

namespace Go.Proofs.YtbamjhldebobhaaGreatDoor
open Go Go.RowKit

variable {P : Program}

/-- A walk in a frame of the function f. -/
def wpF (f : FuncId) (P : Program) (c : Code) (Q : Exit → Act → World → Prop) (a : Act) (w : World) : Prop :=
  ∀ (b : Frame) (k : List Item) (cs : List Frame), b.roundOf = none → b.fn = f →
    ∃ e a' w', Q e a' w' ∧ ArrivesIn (Machine.fenced P Fence.wide) P (lone (b.atR a (.code c :: k)) cs w) b k cs e a' w'

theorem wpF_of_wp {f : FuncId} {c : Code} {Q : Exit → Act → World → Prop} {a : Act} {w : World} (h : c.wp P Q a w) : wpF f P c Q a w :=
  fun b k cs hro _ => (wpIn_wide (n := 0)).2 h b k cs hro trivial (room_wide _)

theorem wpF_seq {f : FuncId} {x y : Code} {Q : Exit → Act → World → Prop} {a : Act} {w : World} (h : wpF f P x (Exit.then (wpF f P y Q) Q) a w) : wpF f P (Code.seq x y) Q a w := by
  intro b k cs hro hb
  have h0 : (lone (b.atR a (.code (.seq x y) :: k)) cs w).fenced P Fence.wide := fenced_wide _ _
  obtain ⟨e, a₁, w₁, hq, harr⟩ := h b (.code y :: k) cs hro hb
  cases e with
  | normal =>
    obtain ⟨e₂, a₂, w₂, hq₂, harr₂⟩ := hq b k cs hro hb
    exact ⟨e₂, a₂, w₂, hq₂, .of_steps (.head h0 stepR_seq harr) harr₂⟩
  | exit id => exact ⟨_, a₁, w₁, hq, .of_steps (.one h0 stepR_seq) (.pass (x := .code y) rfl (fun _ _ => .inl (by simp)) harr)⟩
  | goto l => exact ⟨_, a₁, w₁, hq, .of_steps (.one h0 stepR_seq) (.pass (x := .code y) rfl (fun _ _ => .inl (by simp)) harr)⟩
  | ret => exact ⟨_, a₁, w₁, hq, .of_steps (.one h0 stepR_seq) (.pass (x := .code y) rfl (fun _ _ => .inl (by simp)) harr)⟩
  | panic ch => exact ⟨_, a₁, w₁, hq, .of_steps (.one h0 stepR_seq) (.pass (x := .code y) rfl (fun _ _ => .inl (by simp)) harr)⟩
  | outgrown => exact ⟨_, a₁, w₁, hq, .of_steps (.one h0 stepR_seq) (.pass (x := .code y) rfl (fun _ _ => .inl (by simp)) harr)⟩

/-- A block that nothing leaves by its own exit. -/
theorem wpF_block {f : FuncId} {id : Nat} {c : Code} {Q : Exit → Act → World → Prop} {a : Act} {w : World} (h : wpF f P c (Exit.inBlock id Q) a w) : wpF f P (Code.block id c) Q a w := by
  intro b k cs hro hb
  have h0 : (lone (b.atR a (.code (.block id c) :: k)) cs w).fenced P Fence.wide := fenced_wide _ _
  obtain ⟨e, a₁, w₁, hq, harr⟩ := h b (.inBlock id :: k) cs hro hb
  cases e with
  | normal => exact ⟨.normal, a₁, w₁, hq, .head h0 stepR_block (StepsIn.trans harr (.one (fenced_wide _ _) stepR_inBlock))⟩
  | exit id' =>
    by_cases hid : id' = id
    · simp only [Exit.inBlock, hid, if_true] at hq
      exact ⟨.normal, a₁, w₁, hq, .head h0 stepR_block (harr.1 k (by simp [exitTo, hid]))⟩
    · simp only [Exit.inBlock, hid, if_false] at hq
      have this : (id == id') = false := by simp; exact fun h => hid h.symm
      have hx : exitTo id' (.inBlock id :: k) = exitTo id' k := by simp [exitTo, this]
      exact ⟨.exit id', a₁, w₁, hq, fun k' hk => .head h0 stepR_block (harr.1 k' (by rw [hx]; exact hk)),
        fun hr' hk => let ⟨k₁, h1, h2⟩ := harr.2 hr' (by rw [hx]; exact hk); ⟨k₁, h1, .head h0 stepR_block h2⟩⟩
  | goto l =>
    have hx : gotoIn l (.inBlock id :: k) = gotoIn l k := by simp [gotoIn]
    exact ⟨.goto l, a₁, w₁, hq, fun k' hk => .head h0 stepR_block (harr.1 k' (by rw [hx]; exact hk)),
      fun hr' hk => let ⟨k₁, h1, h2⟩ := harr.2 hr' (by rw [hx]; exact hk); ⟨k₁, h1, .head h0 stepR_block h2⟩⟩
  | ret => exact ⟨.ret, a₁, w₁, hq, fun hr => let ⟨todo, hs⟩ := harr.1 hr; ⟨todo, .head h0 stepR_block hs⟩, fun hr => let ⟨k₁, hs⟩ := harr.2 hr; ⟨k₁, .head h0 stepR_block hs⟩⟩
  | panic ch =>
    obtain ⟨todo, hs⟩ := harr
    exact ⟨.panic ch, a₁, w₁, hq, todo, .head h0 stepR_block hs⟩
  | outgrown => exact ⟨.outgrown, a₁, w₁, hq, harr.imp (fun h => h) (Outgrown.of_steps (.one stepR_block))⟩

/-- A function's contract from such a walk of its body. -/
theorem calls_of_wpF {f : FuncId} {fn : Func} {c : Code} {args : Array Value} {w : World} {R : Ending → World → Prop}
    (hf : P.funcs[f]? = some fn) (hb : fn.body = some c)
    (h : wpF f P c (bodyPostM Fence.wide 0 P fn R) { tmps := args ++ Array.replicate (fn.ntmps - args.size) undef, defers := [] } w) : Calls P f args w R := by
  refine (callsIn_wide (n := 0)).1 ⟨trivial, fun cs hr => ?_⟩
  let b : Frame := { (default : Frame) with fn := f, kind := .normal, roundOf := none }
  have henter : Frame.enter P f args .normal =
      b.atR { tmps := args ++ Array.replicate (fn.ntmps - args.size) undef, defers := [] } [.code c] := by
    simp [Frame.enter, Frame.atR, hf, hb, b]
  obtain ⟨e, a', w', hq, harr⟩ := h b [] cs rfl rfl
  rw [← henter] at harr
  cases e with
  | normal =>
    obtain ⟨e', w'', fr', hR, hs, hfn, hl⟩ := leaves_stepsInM a'.defers .returning w' { b.atR a' [] with mode := .returning } cs rfl rfl rfl hf rfl trivial hr hq
    exact ⟨e', w'', fr', hR, ComesIn.of_steps (StepsIn.trans harr (.one (fenced_wide _ _) (stepR_end rfl))) hs, hfn, hl⟩
  | ret =>
    obtain ⟨todo, hs₀⟩ := harr.1 rfl
    obtain ⟨e', w'', fr', hR, hs, hfn, hl⟩ := leaves_stepsInM a'.defers .returning w' { b.atR a' todo with mode := .returning } cs rfl rfl rfl hf rfl trivial hr hq
    exact ⟨e', w'', fr', hR, ComesIn.of_steps hs₀ hs, hfn, hl⟩
  | panic chain =>
    obtain ⟨todo, hs₀⟩ := harr
    obtain ⟨e', w'', fr', hR, hs, hfn, hl⟩ := leaves_stepsInM a'.defers (.panicking chain) w' { b.atR a' todo with mode := .panicking chain } cs rfl rfl rfl hf rfl trivial hr hq
    exact ⟨e', w'', fr', hR, ComesIn.of_steps hs₀ hs, hfn, hl⟩
  | exit id => exact hq.elim
  | goto l => exact hq.elim
  | outgrown => exact ⟨.outgrown, w', b, hq, harr.resolve_left (by simp [b]), rfl, trivial⟩

/-! ### One round -/

/-- How a round's body may be left: off its end, or by a panic. -/
def roundPostP (P : Program) (l : Nat) (R : Ending → World → Prop) : Exit → Act → World → Prop
  | .normal, _, w => ∃ v w', (Instr.endRound l none).run P w = .ok v w' ∧ R (.returned v) w'
  | .panic ch, a, w => a.defers = [] ∧ R (.panicked ch) w
  | _, _, _ => False

theorem roundIn_of_wpP {l : Nat} {f : FuncId} {fn : Func} (hf : P.funcs[f]? = some fn) {tmps : Array Value} {assign body : Code} {w : World} {R : Ending → World → Prop}
    (h : assign.wpIn (Fence.wide.inRound l) 0 P (Exit.then (fun a₁ w₁ => ∃ w₂, (Instr.beginRound l).run P w₁ = .ok () w₂ ∧ body.wpIn (Fence.wide.inRound l) 0 P (roundPostP P l R) a₁ w₂) (fun _ _ _ => False))
      { tmps := tmps, defers := [] } w) :
    RoundIn Fence.wide 0 P l f tmps assign body w R := by
  refine ⟨trivial, fun c cs hr => ?_⟩
  let b : Frame := { (default : Frame) with fn := f, kind := .normal, roundOf := some l }
  have hb0 : Frame.round l f tmps assign body .normal = b.atR { tmps := tmps, defers := [] } [.code assign, .beginRound, .code body] := by
    simp [Frame.round, Frame.atR, b]
  have hr' : (Fence.wide.inRound l).room ((c :: cs).length + 1 + 0) := hr
  have hF' : (Fence.wide.inRound l).fn b.fn := trivial
  obtain ⟨e, a₁, w₁, hq, harr⟩ := h b [.beginRound, .code body] (c :: cs) rfl hF' hr'
  rw [← hb0] at harr
  cases e with
  | normal =>
    obtain ⟨w₂, hbr, hbody⟩ := hq
    have s1 : StepsIn (Machine.fenced P (Fence.wide.inRound l)) P (lone (b.atR a₁ [.beginRound, .code body]) (c :: cs) w₁) (lone (b.atR a₁ [.code body]) (c :: cs) w₂) :=
      .one (fenced_calm (fr := b.atR a₁ [.beginRound, .code body]) hF' hr' rfl) (stepR_beginRound rfl hbr)
    obtain ⟨e₂, a₂, w₃, hq₂, harr₂⟩ := hbody b [] (c :: cs) rfl hF' hr'
    cases e₂ with
    | normal =>
      obtain ⟨v, w₄, hend, hR⟩ := hq₂
      exact ⟨.returned v, w₄, hR, (StepsIn.trans harr s1).trans (StepsIn.trans harr₂ (.one (fenced_calm (fr := b.atR a₂ []) hF' hr' rfl) (stepR_round_end rfl rfl hend)))⟩
    | panic chain =>
      obtain ⟨hd, hR⟩ := hq₂
      obtain ⟨todo, hs⟩ := harr₂
      refine ⟨.panicked chain, w₃, hR, (StepsIn.trans harr s1).trans (StepsIn.trans hs (.one (fenced_wide _ _) ?_))⟩
      exact step_leave_panicked ⟨rfl, hd, fn, hf⟩
    | ret => exact hq₂.elim
    | exit id => exact hq₂.elim
    | goto t => exact hq₂.elim
    | outgrown => exact hq₂.elim
  | exit id => exact hq.elim
  | goto t => exact hq.elim
  | ret => exact hq.elim
  | panic chain => exact hq.elim
  | outgrown => exact hq.elim

end Go.Proofs.YtbamjhldebobhaaGreatDoor

namespace Go.Proofs.YtbamjhldebobhaaGreatDoor
open Go Go.RowKit

variable {P : Program}

/-- The record of a loop, or its block of deferred calls. -/
def isLoop : Obj → Bool
  | .loop _ => true
  | .deferred _ => true
  | _ => false
/-- All but the records of loops from block N on lies as it lay. -/
structure Gr (N : Nat) (A B : World) : Prop where
  os : B.os = A.os
  tape : B.tape = A.tape
  output : B.output = A.output
  size : A.heap.size ≤ B.heap.size
  block : ∀ (g : Nat) (o : Obj), A.heap[g]? = some o → (isLoop o = false ∨ g < N) → B.heap[g]? = some o
theorem Gr.refl (N : Nat) (A : World) : Gr N A A := ⟨rfl, rfl, rfl, Nat.le_refl _, fun _ _ h _ => h⟩
theorem Gr.trans {N : Nat} {A B C : World} (h : Gr N A B) (k : Gr N B C) : Gr N A C := ⟨k.os.trans h.os, k.tape.trans h.tape, k.output.trans h.output, Nat.le_trans h.size k.size, fun g o hg ho => k.block g o (h.block g o hg ho) ho⟩
theorem Gr.below {N : Nat} {A B : World} (h : Below A.heap.size A B) : Gr N A B := ⟨h.os, h.tape, h.output, h.size, fun g _ hg _ => (h.block g (Array.getElem?_eq_some_iff.1 hg).1).trans hg⟩
theorem Gr.put {N : Nat} {A : World} {l : Nat} {ol : Obj} (hN : N ≤ l) (h : A.heap[l]? = some ol) (o' : Obj) (hol : isLoop ol = true := by rfl) : Gr N A (A.putObj l o') := by
  refine ⟨rfl, rfl, rfl, by simp [World.putObj], fun g o hg ho => ?_⟩
  have hne : g ≠ l := fun e => by
    subst e
    rw [h] at hg
    cases hg
    rcases ho with ho | ho
    · rw [hol] at ho; cases ho
    · omega
  exact (World.putObj_heap_other hne).trans hg
/-- What was made from N on lies as it lay. -/
def Kept (N : Nat) (B B' : World) : Prop := B.heap.size ≤ B'.heap.size ∧ ∀ (g : Nat) (o : Obj), N ≤ g → B.heap[g]? = some o → B'.heap[g]? = some o
theorem Kept.trans {N : Nat} {A B C : World} (h : Kept N A B) (k : Kept N B C) : Kept N A C := ⟨Nat.le_trans h.1 k.1, fun g o hN hg => k.2 g o hN (h.2 g o hN hg)⟩
/-- The records of loops and the blocks of deferred calls lie as they lay. -/
def KeptL (B B' : World) : Prop := ∀ (g : Nat) (o : Obj), B.heap[g]? = some o → o.isCells = false → (isLoop o = true ∨ ∃ d, o = .deferred d) → B'.heap[g]? = some o
theorem KeptL.trans {A B C : World} (h : KeptL A B) (k : KeptL B C) : KeptL A C := fun g o hg hc hd => k g o (h g o hg hc hd) hc hd

/-- The word of an iterator over N values. -/
def SeqIdx (P : Program) (gf : Nat) (lb : Array Value) (enc : Nat → Array Value) (nx : Nat → Nat) (N : Nat) (w : World) (Bt : Nat) : Prop :=
  ∀ (l : Nat) (J : Nat → World → Prop) (Jp : List PanicEntry → World → Prop) (W : World),
    (∀ k A B, J k A → Below A.heap.size A B → J k B) →
    (∀ k A, J k A → A.heap[Bt]? = w.heap[Bt]?) →
    (∀ k A B, k < N → J k A → Below A.heap.size A B → YieldAt Fence.wide 0 P l (enc k) B fun e B' =>
      (e = .returned (.bool true) ∧ J (nx k) B' ∧ Kept A.heap.size B B') ∨ (∃ ch, e = .panicked ch ∧ Jp ch B')) →
    J 0 W →
    CallsIn Fence.wide 0 P gf (#[.func (.yield l) #[] #[]] ++ lb) W fun e W' => (∃ v, e = .returned v ∧ J N W') ∨ (∃ ch, e = .panicked ch ∧ Jp ch W')

/-- How the body of a round may be left. -/
def bodyPostR (I : Nat → World → Prop) (Ip : List PanicEntry → World → Prop) (k N : Nat) (W : World) : Exit → Act → World → Prop
  | .normal, _, W' => I k W' ∧ Kept N W W' ∧ KeptL W W'
  | .panic ch, a, W' => a.defers = [] ∧ Ip ch W' ∧ KeptL W W'
  | _, _, _ => False

/-- **The law.** -/
theorem wpF_rangeFunc {f : FuncId} {fn : Func} (hf : P.funcs[f]? = some fn) {g : Operand} {ps : Array Tmp} {assign body : Code} {Q : Exit → Act → World → Prop} {a : Act} {w : World}
    {gf : Nat} {lb : Array Value} (hg : a.eval g = .func (.func gf) #[] lb) (eg : ∀ args w, (callFunc gf args).run P w = .ok (.enter gf args) w)
    {enc : Nat → Array Value} {nx : Nat → Nat} {N : Nat} (hps : ∀ k, (enc k).size = ps.size) {Bt : Nat} (hseq : SeqIdx P gf lb enc nx N w Bt)
    (I : Nat → World → Prop) (Ip : List PanicEntry → World → Prop) (Ax : Nat → Act → World → Prop)
    (hI : ∀ k A B, I k A → Gr w.heap.size A B → I k B) (hAx : ∀ k a A B, Ax k a A → Gr w.heap.size A B → Ax k a B) (hIw : ∀ k A, I k A → A.heap[Bt]? = w.heap[Bt]?) (h0 : I 0 w)
    (hassign : ∀ (l k : Nat) (W : World) (K : Act → World → Prop), k < N → (∀ a₁ W₁, Below W.heap.size W W₁ → Ax k a₁ W₁ → K a₁ W₁) →
      assign.wpIn (Fence.wide.inRound l) 0 P (Exit.then K (fun _ _ _ => False)) { tmps := (ps.zip (enc k)).foldl (fun t (p, v) => t.setIfInBounds p v) a.tmps, defers := [] } W)
    (hbody : ∀ (l k : Nat) (a₁ : Act) (A W : World), k < N → I k A → Gr w.heap.size A W → Ax k a₁ W → body.wpIn (Fence.wide.inRound l) 0 P (bodyPostR I Ip (nx k) A.heap.size W) a₁ W)
    (hdone : ∀ (D : Nat) (W : World), w.heap.size ≤ D → I N W → W.heap[D]? = some (.deferred (some [])) → Q .normal { a with defers := { target := .collected D, args := #[] } :: a.defers } W)
    (hpanic : ∀ (D : Nat) (ch : List PanicEntry) (W : World), w.heap.size ≤ D → Ip ch W → W.heap[D]? = some (.deferred (some [])) → Q (.panic ch) { a with defers := { target := .collected D, args := #[] } :: a.defers } W) :
    wpF f P (Code.rangeFunc g ps assign body) Q a w := by
  intro b k cs hro hb
  obtain ⟨rec, hrec⟩ : ∃ rec : LoopState → Option Code → Loop, rec = fun st pe => { state := st, pending := pe, fn := f, tmps := a.tmps, params := ps, assign, body, defers := w.heap.size } := ⟨_, rfl⟩
  obtain ⟨W1, hW1⟩ : ∃ W1, (w.alloc (.deferred (some []))).alloc (.loop (rec .ready none)) = W1 := ⟨_, rfl⟩
  have hL1 : W1.heap[w.heap.size + 1]? = some (.loop (rec .ready none)) := by
    rw [← hW1]; have := World.alloc_heap_new (w.alloc (.deferred (some []))) (.loop (rec .ready none)); rwa [World.size_alloc] at this
  have hK1 : W1.heap[w.heap.size]? = some (.deferred (some [])) := by
    rw [← hW1]; exact (Below.heap_alloc _ _ _ (by simp)).trans (World.alloc_heap_new w _)
  have hb1 : Below w.heap.size w W1 := by
    rw [← hW1]; exact ((Below.refl _ w).alloc (Nat.le_refl _) _).alloc (by simp) _
  have hI1 : I 0 W1 := hI _ _ _ h0 (Gr.below hb1)
  -- the iterator's call
  have hcall : CallsIn Fence.wide 0 P gf (#[.func (.yield (w.heap.size + 1)) #[] #[]] ++ lb) W1 (fun e W' => (∃ v, e = .returned v ∧ (I N W' ∧ W'.heap[w.heap.size + 1]? = some (.loop (rec .ready none)) ∧ W'.heap[w.heap.size]? = some (.deferred (some [])))) ∨ (∃ ch, e = .panicked ch ∧ (Ip ch W' ∧ W'.heap[w.heap.size]? = some (.deferred (some []))))) := by
    refine hseq (w.heap.size + 1)
      (fun k W => I k W ∧ W.heap[w.heap.size + 1]? = some (.loop (rec .ready none)) ∧ W.heap[w.heap.size]? = some (.deferred (some [])))
      (fun ch W => Ip ch W ∧ W.heap[w.heap.size]? = some (.deferred (some []))) W1 ?_ (fun k A h => hIw k A h.1) ?_ ⟨hI1, hL1, hK1⟩
    · rintro k A B ⟨hi, hl, hd⟩ hB
      exact ⟨hI _ _ _ hi (Gr.below hB), (hB.block _ (Array.getElem?_eq_some_iff.1 hl).1).trans hl, (hB.block _ (Array.getElem?_eq_some_iff.1 hd).1).trans hd⟩
    · rintro k A B hk ⟨hi, hl, hd⟩ hB
      have hl2 : B.heap[w.heap.size + 1]? = some (.loop (rec .ready none)) := (hB.block _ (Array.getElem?_eq_some_iff.1 hl).1).trans hl
      have hd2 : B.heap[w.heap.size]? = some (.deferred (some [])) := (hB.block _ (Array.getElem?_eq_some_iff.1 hd).1).trans hd
      have hlA : w.heap.size + 1 < A.heap.size := (Array.getElem?_eq_some_iff.1 hl).1
      have hy := run_yield (P := P) (args := enc k) hl2 (by rw [hrec]; exact hps k)
      rw [hrec] at hy
      refine ⟨f, _, assign, body, hy, roundIn_of_wpP hf ?_⟩
      refine hassign _ k B _ hk ?_
      intro a₁ B1 hB1 hax
      have hl3 : B1.heap[w.heap.size + 1]? = some (.loop (rec .ready none)) := (hB1.block _ (Array.getElem?_eq_some_iff.1 hl2).1).trans hl2
      have hd3 : B1.heap[w.heap.size]? = some (.deferred (some [])) := (hB1.block _ (Array.getElem?_eq_some_iff.1 hd2).1).trans hd2
      refine ⟨_, run_beginRound hl3 (by rw [hrec]), ?_⟩
      obtain ⟨B2, hB2⟩ : ∃ B2, B1.putObj (w.heap.size + 1) (.loop { rec .ready none with state := .busy }) = B2 := ⟨_, rfl⟩
      have g12 : Gr w.heap.size B1 B2 := by rw [← hB2]; exact Gr.put (by omega) hl3 _
      have hl4 : B2.heap[w.heap.size + 1]? = some (.loop { rec .ready none with state := .busy }) := by rw [← hB2]; exact World.putObj_heap_same (Array.getElem?_eq_some_iff.1 hl3).1
      have hd4 : B2.heap[w.heap.size]? = some (.deferred (some [])) := by rw [← hB2]; exact (World.putObj_heap_other (by omega)).trans hd3
      have k12 : Kept A.heap.size B1 B2 := ⟨g12.size, fun g o hN hg => by rw [← hB2]; exact (World.putObj_heap_other (by omega)).trans hg⟩
      have k01 : Kept A.heap.size B B1 := ⟨hB1.size, fun g o _ hg => (hB1.block g (Array.getElem?_eq_some_iff.1 hg).1).trans hg⟩
      have gAB : Gr w.heap.size A B2 := ((Gr.below hB).trans (Gr.below hB1)).trans g12
      rw [hB2]
      refine wpIn_mono (hbody _ k a₁ A B2 hk hi gAB (hAx _ _ _ _ hax g12)) ?_
      rintro e a3 W3 hp
      cases e with
      | normal =>
        obtain ⟨hi3, hk3, hkl3⟩ := hp
        have hl5 := hkl3 _ _ hl4 rfl (.inl rfl)
        have hd5 := hkl3 _ _ hd4 rfl (.inr ⟨_, rfl⟩)
        have hr := run_endRound (P := P) none hl5
        refine ⟨_, _, hr, .inl ⟨rfl, ⟨hI _ _ _ hi3 (Gr.put (by omega) hl5 _), ?_, ?_⟩, ?_⟩⟩
        · rw [World.putObj_heap_same (Array.getElem?_eq_some_iff.1 hl5).1, hrec]; rfl
        · exact (World.putObj_heap_other (by omega)).trans hd5
        · exact ((k01.trans k12).trans hk3).trans ⟨by simp [World.putObj], fun g o hN hg => (World.putObj_heap_other (by omega)).trans hg⟩
      | panic ch =>
        obtain ⟨hd0, hi3, hkl3⟩ := hp
        exact ⟨hd0, .inr ⟨ch, rfl, hi3, hkl3 _ _ hd4 rfl (.inr ⟨_, rfl⟩)⟩⟩
      | ret => exact hp.elim
      | exit id => exact hp.elim
      | goto t => exact hp.elim
      | outgrown => exact hp.elim
  -- the statement's steps
  have he : (Instr.enterLoop b.fn a.tmps ps assign body b.roundOf).run P w = .ok (w.heap.size + 1, [{ target := .collected w.heap.size, args := #[] }]) W1 := by
    rw [hro, hb, ← hW1, hrec]; exact run_enterLoop_outer _ _ _ _ _
  have hres : (resolve a.eval (rangeCall g (w.heap.size + 1)) 0).run P W1 = .ok { target := .fn (.func gf) lb, args := #[.func (.yield (w.heap.size + 1)) #[] #[]] } W1 := by
    simp only [resolve, hg]
    simp [go_sem]
  have hinv : (invoke (.fn (.func gf) lb) #[.func (.yield (w.heap.size + 1)) #[] #[]]).run P W1 = .ok (.enter gf (#[.func (.yield (w.heap.size + 1)) #[] #[]] ++ lb)) W1 := by
    simp [invoke, go_sem, eg]
  have henter := stepR_rangeFunc (P := P) (b := b) (a := a) (k := k) (cs := cs) (w := w) he hres hinv
  obtain ⟨e, w₃, fr, hR, hsteps, hfn, hleave⟩ := hcall.2 (b.atR { a with defers := [{ target := .collected w.heap.size, args := #[] }] ++ a.defers } (.inRangeFunc (w.heap.size + 1) :: k) :: cs) (room_wide _)
  have h0 : ∀ m : Machine, m.fenced P Fence.wide := fun m => fenced_wide P m
  rcases hR with ⟨v, rfl, hi, hl, hd⟩ | ⟨ch, rfl, hi, hd⟩
  · have hend := run_endLoop (P := P) hl (by rw [hrec]; simp)
    have sback : StepsIn (Machine.fenced P Fence.wide) P (lone (b.atR a (.code (.rangeFunc g ps assign body) :: k)) cs w) (lone (b.atR { a with defers := [{ target := .collected w.heap.size, args := #[] }] ++ a.defers } (((rec .ready none).pending.map Item.code).toList ++ k)) cs (w₃.putObj (w.heap.size + 1) (.loop { rec .ready none with state := .exhausted }))) := by
      refine .head (h0 _) henter (StepsIn.trans hsteps (.head (h0 _) ?_ (.one (h0 _) (stepR_endRangeFunc hend))))
      rw [← finish_atR_inRangeFunc (w.heap.size + 1) v]; exact step_leave_returned hleave
    refine ⟨.normal, _, _, hdone w.heap.size (w₃.putObj (w.heap.size + 1) (.loop { rec .ready none with state := .exhausted })) (Nat.le_refl _) (hI _ _ _ hi (Gr.put (by omega) hl _)) ((World.putObj_heap_other (by omega)).trans hd), ?_⟩
    have hpend : ((rec .ready none).pending.map Item.code).toList ++ k = k := by rw [hrec]; rfl
    rw [hpend] at sback
    exact sback
  · refine ⟨.panic ch, _, w₃, hpanic w.heap.size ch w₃ (Nat.le_refl _) hi hd, .inRangeFunc (w.heap.size + 1) :: k, .head (h0 _) henter (StepsIn.trans hsteps (.one (h0 _) ?_))⟩
    have := step_leave_panicked (P := P) (c := b.atR { a with defers := [{ target := .collected w.heap.size, args := #[] }] ++ a.defers } (.inRangeFunc (w.heap.size + 1) :: k)) (cs := cs) hleave
    rw [Frame.raise_atR] at this
    exact this

end Go.Proofs.YtbamjhldebobhaaGreatDoor

namespace Go.Proofs.YtbamjhldebobhaaGreatDoor
open Go Go.RowKit

variable {P : Program} {ops : Array Oper} {Q : Exit → Act → World → Prop} {md : Region.Mode}

/-- No operation defers. -/
def noDefer (ops : Array Oper) : Bool := ops.all fun o => match o.op with | .defer _ => false | _ => true
theorem noDefer_spec (h : noDefer ops = true) {i : Nat} {o : Oper} (ho : ops[i]? = some o) (c : Call) : o.op ≠ .defer c := by
  have hm : o ∈ ops := Array.mem_of_getElem? ho
  have := Array.all_eq_true_iff_forall_mem.1 h o hm
  intro e
  rw [e] at this
  cases this

theorem opIn_of_op {l : Nat} {o : Oper} {a : Act} {w : World} {K : Act → World → Prop} (hd : ∀ c, o.op ≠ .defer c) (h : o.wp P a w K Q) : o.wpIn (Fence.wide.inRound l) 0 P a w K Q := by
  refine ⟨fun _ _ => trivial, ?_⟩
  rw [Oper.semAt_eq _ _ _ hd]
  unfold Oper.wp at h
  generalize (execOp a.eval o).run P w = r at *
  have hdep : (Fence.wide.inRound l).depth.isSome = true → 1 ≤ 0 := fun h => by simp [Fence.inRound, Fence.wide] at h
  cases r with
  | ok x w' =>
    cases x with
    | enter f args => exact ⟨hdep, CallsIn.inRound l (callsIn_wide.2 h)⟩
    | row r args => exact ⟨hdep, fun c cs _ => let ⟨v, w', hv, hs⟩ := h c cs; ⟨v, w', hv, stepsIn_wide.2 hs⟩⟩
    | value v => exact h
    | skip => exact h
    | defer d => exact h
    | _ => exact h.elim
  | halt x w' => cases x <;> exact h

theorem anyIn_of_any {l : Nat} (hd : noDefer ops = true) (hQ : ¬ LetsOut Q) : ∀ (fuel : Nat) (listed : Array Bool) (a : Act) (w : World), wpAny P md ops Q fuel listed a w → wpAnyIn (Fence.wide.inRound l) 0 P md ops Q fuel listed a w
  | 0, _, _, _, h => h
  | fuel + 1, listed, a, w, h => by
    refine ⟨h.1, fun i hi => ?_⟩
    have h1 := h.2 i hi
    unfold wpOp at h1
    unfold wpOpIn
    cases ho : ops[i]? with
    | none => simp only [ho] at h1 ⊢; exact anyIn_of_any hd hQ fuel _ a w h1
    | some o =>
      simp only [ho] at h1 ⊢
      split
      · rename_i hw
        rw [if_pos hw] at h1
        rcases h1 with h1 | ⟨_, h1⟩
        · exact opIn_of_op (noDefer_spec hd ho) (Oper.wp_mono (fun a' w' h' => anyIn_of_any hd hQ fuel _ a' w' h') h1)
        · exact absurd h1 hQ
      · rename_i hw
        rw [if_neg hw] at h1
        exact ⟨fun _ _ => trivial, anyIn_of_any hd hQ fuel _ _ w h1⟩

theorem region_round_any {l id : Nat} {a : Act} {w : World} (hm : P.follows .mixedOrders = true) (hd : noDefer ops = true) (hQ : ¬ LetsOut Q)
    (h : wpAny P .any ops Q ops.size (Array.replicate ops.size false) a w.drew) : (Code.region id ops true).wpIn (Fence.wide.inRound l) 0 P Q a w :=
  wpIn_region_any hm (anyIn_of_any hd hQ _ _ _ _ h)

theorem region_round_held {S : World → Prop} {l id : Nat} {a : Act} {w : World} (hm : P.follows .mixedOrders = true) (hd : noDefer ops = true) (hQ : ¬ LetsOut Q)
    (h : wpAnyH P .any ops Q S ops.size (Array.replicate ops.size false) a w.drew) : (Code.region id ops true).wpIn (Fence.wide.inRound l) 0 P Q a w :=
  region_round_any hm hd hQ (wpAny_of_held _ _ _ _ h)

theorem listIn_of_list {l : Nat} (hQ : ¬ LetsOut Q) : ∀ (rest : List Oper) (a : Act) (w : World), (∀ o ∈ rest, ∀ c, o.op ≠ .defer c) → wpList P ops Q rest a w → wpListIn (Fence.wide.inRound l) 0 P ops Q rest a w
  | [], _, _, _, h => h
  | o :: rest, a, w, hd, h => by
    unfold wpList at h
    unfold wpListIn
    split
    · rename_i hw
      rw [if_pos hw] at h
      rcases h with h1 | ⟨_, h1⟩
      · exact opIn_of_op (hd o (by simp)) (Oper.wp_mono (fun a' w' h' => listIn_of_list hQ rest a' w' (fun o' ho' => hd o' (by simp [ho'])) h') h1)
      · exact absurd h1 hQ
    · rename_i hw
      rw [if_neg hw] at h
      exact ⟨fun _ _ => trivial, listIn_of_list hQ rest _ w (fun o' ho' => hd o' (by simp [ho'])) h⟩

theorem region_round {l id : Nat} {a : Act} {w : World} {rest : List Oper} (hd : noDefer rest.toArray = true) (hQ : ¬ LetsOut Q)
    (h : wpList P rest.toArray Q rest a w) : (Code.region id rest.toArray false).wpIn (Fence.wide.inRound l) 0 P Q a w :=
  wpIn_region_lit (listIn_of_list hQ rest a w (fun o ho c => by
    obtain ⟨i, hi⟩ := List.getElem?_of_mem ho
    exact noDefer_spec hd (i := i) (by simpa using hi) c) h)

theorem letsOut_then {K : Act → World → Prop} (h : ¬ LetsOut Q) : ¬ LetsOut (Exit.then K Q) := h
theorem letsOut_block {id : Nat} (h : ¬ LetsOut Q) : ¬ LetsOut (Exit.inBlock id Q) := h
theorem letsOut_body (I : Nat → World → Prop) (Ip : List PanicEntry → World → Prop) (k N : Nat) (W : World) : ¬ LetsOut (bodyPostR I Ip k N W) := fun ⟨_, _, h⟩ => h

end Go.Proofs.YtbamjhldebobhaaGreatDoor

namespace Go.Proofs.YtbamjhldebobhaaGreatDoor
open Go.RowKit Go.Sort

/-- Only the blocks b and r may have changed. -/
def Chg (r : Option Nat) (b : Nat) (w w' : World) : Prop := Below b w w' ∧ ∀ g, g ≠ b → r ≠ some g → g < w.heap.size → w'.heap[g]? = w.heap[g]?
theorem Chg.refl (r : Option Nat) (b : Nat) (w : World) : Chg r b w w := ⟨Below.refl _ _, fun _ _ _ _ => rfl⟩
theorem Only.chg {b : Nat} {w w' : World} (h : Only b w w') (r : Option Nat) : Chg r b w w' := ⟨h.1, fun g hg _ hl => h.2 g hg hl⟩
theorem Chg.trans {r r' : Option Nat} {b : Nat} {w w1 w2 : World} (h : Chg r b w w1) (k : Chg r' b w1 w2) (hr : ∀ g, r' = some g → r = some g ∨ w.heap.size ≤ g) : Chg r b w w2 :=
  ⟨h.1.trans k.1, fun g hg hne hl => by
    rw [k.2 g hg (fun e => (hr g e).elim hne (fun h => absurd hl (by omega))) (Nat.lt_of_lt_of_le hl h.1.size), h.2 g hg hne hl]⟩
theorem PlacesAt.moveL {w w' : World} {C mb : Nat} (h : PlacesAt w C mb) (hk : ∀ i o, C ≤ i → w.heap[i]? = some o → isLoop o = false → w'.heap[i]? = some o) : PlacesAt w' C mb := by
  obtain ⟨blk, h1, h2, hC, es, h3, h4⟩ := h
  exact ⟨blk, fun k hk10 => ⟨(h1 k hk10).1, hk _ _ (h1 k hk10).1 (h1 k hk10).2 rfl⟩, h2, hC, es, hk _ _ hC h3 rfl, h4⟩
/-- The places do not lie in block r. -/
def PlFree (w : World) (C mb : Nat) (r : Option Nat) : Prop := ∀ w' : World, (∀ g o, C ≤ g → r ≠ some g → w.heap[g]? = some o → isLoop o = false → w'.heap[g]? = some o) → PlacesAt w' C mb
theorem PlFree.at {w : World} {C mb : Nat} {r : Option Nat} (h : PlFree w C mb r) : PlacesAt w C mb := h w fun _ _ _ _ h _ => h
theorem PlFree.of {w : World} {C T mb : Nat} {r : Option Nat} (h : PlacesAt w T mb) (hC : C ≤ T) (hr : ∀ g, r = some g → g < T) : PlFree w C mb r := fun w' hw =>
  (h.moveL fun i o hi hl ho => hw i o (by omega) (fun e => by have := hr i e; omega) hl ho).low hC
theorem PlFree.chg {w w' : World} {C mb b : Nat} {r r' : Option Nat} (h : PlFree w C mb r) (hc : Chg r b w w') (hb : b < C) (hr : ∀ g, r' = some g → r = some g ∨ w.heap.size ≤ g) : PlFree w' C mb r' := fun w'' hw =>
  h w'' fun g o hC hne hl ho => by
    have hlt := (Array.getElem?_eq_some_iff.1 hl).1
    exact hw g o hC (fun e => (hr g e).elim hne (fun h => absurd hlt (by omega))) ((hc.2 g (by omega) hne hlt).trans hl) ho
theorem PlFree.gr {w w' : World} {N C mb : Nat} {r : Option Nat} (h : PlFree w C mb r) (hg : Gr N w w') : PlFree w' C mb r := fun w'' hw =>
  h w'' fun g o hC hne hl ho => hw g o hC hne (hg.block g o hl (.inl ho)) ho

theorem Own.onlyB {k : IntKind} {e : TypeId} {w w' : World} {B g : Nat} {v : Value} {zs : List Int} (h : Own k e w B v zs) (ho : Only g w w') (hg : g < B) : Own k e w' B v zs :=
  h.blocks fun j hj => ho.2 j (by have := (World.ownsRow.lt h j hj).1; omega) (World.ownsRow.lt h j hj).2

/-- A reading in block b: the profile n, the state x, the list l that holds zs. -/
def RSt (w : World) (b C : Nat) (n : Int) (x : St) (l : Value) (zs : List Int) : Prop := ∃ m, RdAt w b n m x l ∧ (m = .map none ∨ ∃ mb, m = .map (some mb) ∧ PlFree w C mb l.ownBlock) ∧ Own .i64 3 w C l zs
theorem RSt.lt {w : World} {b C : Nat} {n : Int} {x : St} {l : Value} {zs : List Int} (h : RSt w b C n x l zs) : b < w.heap.size := by obtain ⟨m, h1, _⟩ := h; exact h1.lt
theorem RSt.own {w : World} {b C : Nat} {n : Int} {x : St} {l : Value} {zs : List Int} (h : RSt w b C n x l zs) : Own .i64 3 w C l zs := by obtain ⟨m, _, _, h3⟩ := h; exact h3
theorem RSt.only {w w' : World} {b C : Nat} {n : Int} {x y : St} {l : Value} {zs : List Int} (h : RSt w b C n x l zs) (ho : Only b w w') (hb : b < C) (hm : ∀ m, RdAt w b n m x l → RdAt w' b n m y l) : RSt w' b C n y l zs := by
  obtain ⟨m, h1, h2, h3⟩ := h
  refine ⟨m, hm m h1, h2.imp id ?_, h3.onlyB ho hb⟩
  rintro ⟨mb, h4, h5⟩
  exact ⟨mb, h4, h5.chg (ho.chg _) hb fun g e => .inl e⟩
theorem RdAt.map_eq {w : World} {b : Nat} {n : Int} {m m' l : Value} {x : St} (h : RdAt w b n m x l) (h' : RdAt w b n m' x l) : m = m' := by
  have c1 := h.cells.2.2.2.2.2.2.2.2.1
  have c2 := h'.cells.2.2.2.2.2.2.2.2.1
  rw [c1] at c2
  exact Option.some.inj c2
theorem RSt.step {w w' : World} {b C : Nat} {n : Int} {x y : St} {m l : Value} {zs : List Int} (h : RSt w b C n x l zs) (h1 : RdAt w b n m x l) (ho : Only b w w') (hb : b < C) (h2 : RdAt w' b n m y l) : RSt w' b C n y l zs :=
  h.only ho hb fun m' hm' => by rw [← h1.map_eq hm']; exact h2
theorem RSt.keep {w w' : World} {b C : Nat} {n : Int} {x : St} {l : Value} {zs : List Int} (h : RSt w b C n x l zs) (hw : Below w.heap.size w w') (hb : b < C) : RSt w' b C n x l zs :=
  h.only (only_below h.lt hw) hb fun _ hm => hm.keep hw
theorem RdAt.gr' {N : Nat} {w w' : World} {b : Nat} {n : Int} {m l : Value} {x : St} (h : RdAt w b n m x l) (hg : Gr N w w') : RdAt w' b n m x l := hg.block _ _ h (.inl rfl)
theorem Own.gr {k : IntKind} {e : TypeId} {N : Nat} {w w' : World} {B : Nat} {v : Value} {zs : List Int} (h : Own k e w B v zs) (hg : Gr N w w') : Own k e w' B v zs := by
  refine ⟨h.1, ?_⟩
  rcases h.2 with h | ⟨g, cap, cur, a, b, c, d⟩
  · exact .inl h
  · exact .inr ⟨g, cap, cur, a, b, hg.block _ _ c (.inl rfl), d⟩
theorem RSt.gr {N : Nat} {w w' : World} {b C : Nat} {n : Int} {x : St} {l : Value} {zs : List Int} (h : RSt w b C n x l zs) (hg : Gr N w w') : RSt w' b C n x l zs := by
  obtain ⟨m, h1, h2, h3⟩ := h
  refine ⟨m, h1.gr' hg, h2.imp id ?_, h3.gr hg⟩
  rintro ⟨mb, h4, h5⟩
  exact ⟨mb, h4, h5.gr hg⟩
theorem Only.gr {N b : Nat} {w A B : World} (h : Only b w A) (hg : Gr N A B) (hN : w.heap.size ≤ N) (hb : b < w.heap.size) : Only b w B := by
  refine ⟨⟨hg.os.trans h.1.os, hg.tape.trans h.1.tape, hg.output.trans h.1.output, Nat.le_trans h.1.size hg.size, fun k hk => ?_⟩, fun g hgb hl => ?_⟩
  · have hl : k < w.heap.size := by omega
    have hs : w.heap[k]? = some w.heap[k] := Array.getElem?_eq_getElem hl
    rw [hg.block k _ ((h.1.block k hk).trans hs) (.inr (by omega)), hs]
  · have hs : w.heap[g]? = some w.heap[g] := Array.getElem?_eq_getElem hl
    rw [hg.block g _ ((h.2 g hgb hl).trans hs) (.inr (by omega)), hs]
theorem Only.chg_trans {r : Option Nat} {b : Nat} {w A B : World} (h : Only b w A) (k : Chg r b A B) (hr : ∀ g, r = some g → w.heap.size ≤ g) : Only b w B :=
  ⟨h.1.trans k.1, fun g hg hl => by rw [k.2 g hg (fun e => by have := hr g e; omega) (Nat.lt_of_lt_of_le hl h.1.size), h.2 g hg hl]⟩

/-- A list that has grown by an append, stored back. -/
theorem RSt.app {w w4 : World} {b C g cap k : Nat} {n : Int} {x : St} {l : Value} {zs zs' : List Int} (h : RSt w b C n x l zs) (hb : b < C) (ho : Own .i64 3 w4 C (.slice (some ⟨g, 0, none⟩) k cap) zs') (hg : w.grownBy w4 l.ownBlock) (hr : l.ownBlock = some g ∨ g = w.heap.size) :
    RSt (w4.setCell ⟨b, 17, none⟩ (.slice (some ⟨g, 0, none⟩) k cap)) b C n x (.slice (some ⟨g, 0, none⟩) k cap) zs' ∧ Chg l.ownBlock b w (w4.setCell ⟨b, 17, none⟩ (.slice (some ⟨g, 0, none⟩) k cap)) := by
  obtain ⟨m, h1, h2, h3⟩ := h
  have hlow := fun j hj => (World.ownsRow.lt h3 j hj).1
  have hbo : some b ≠ l.ownBlock := fun e => by have := hlow b e.symm; omega
  have h4 : RdAt w4 b n m x l := (hg.block b h1.lt hbo).trans h1
  have hgC : C ≤ g := (World.ownsRow.lt ho g rfl).1
  have c1 : Chg l.ownBlock b w (w4.setCell ⟨b, 17, none⟩ (.slice (some ⟨g, 0, none⟩) k cap)) := by
    refine ⟨((Below.refl b w).grown hg (Nat.le_of_lt h1.lt) (fun j hj => by have := hlow j hj; omega)).setCell (Nat.le_refl _) _, fun j hj hne hl => ?_⟩
    rw [Below.heap_setCell _ _ _ _ (by simpa using hj)]
    exact hg.block j hl (fun e => hne e.symm)
  refine ⟨⟨m, heap_setCell_same _ _ 17 _ _ _ h4, h2.imp id ?_, ?_⟩, c1⟩
  · rintro ⟨mb, h5, h6⟩
    refine ⟨mb, h5, h6.chg c1 hb fun j hj => ?_⟩
    have e : g = j := by simpa [Value.ownBlock] using hj
    subst e
    exact hr.imp id (fun h => by omega)
  · exact ho.blocks fun j hj => Below.heap_setCell _ _ _ _ (by
      have e : g = j := by simpa [Value.ownBlock] using hj
      simp; omega)

/-- 'append(s, x ..)' at a step of a region that draws its order; where the row lies behind it. -/
theorem step_i64x (w : World) {ops : Array Oper} {o : Oper} {a : Act} {L : Act → World → Prop} {Q : Exit → Act → World → Prop} {E : Prop} (hg : o.guard = none) (s x : Operand)
    (hop : o.op = Op.call { callee := Callee.builtin Builtin.append, args := #[s, x], argTypes := #[22, 22] }) (B : Nat) (v : Value) (zs : List Int) (hs : a.eval s = v) (hown : Own .i64 3 w B v zs)
    (b c : Nat) (r : Int) (hx : a.eval x = .slice (some ⟨b, 0, none⟩) 1 c)
    (hc : w.heap[b]? = some (.cells #[.int .i64 r] 3)) (hb : zs.length + 1 ≤ 1099511627776) (hB : B ≤ w.heap.size)
    (K : ∀ g cap w', Own .i64 3 w' B (.slice (some ⟨g, 0, none⟩) (zs.length + 1) cap) (zs ++ [r]) → w.grownBy w' v.ownBlock → (v.ownBlock = some g ∨ g = w.heap.size) → L (a.put o.dst (.slice (some ⟨g, 0, none⟩) (zs.length + 1) cap)) w') :
    if Region.wanted o (yielded ops a.tmps) = true then Oper.wp Tryz.prog o a w L Q else E := by
  obtain ⟨i, h1, h2, h3, h4⟩ := info_i64
  refine step_append_lies w hg s x 22 hop B 3 i (.int .i64 0) 1 8 Tryz.underlying22 h1 h2 h3 h4 rfl (by decide) v _ _ hs hown ⟨b, 0, none⟩ 1 c [.int .i64 r] hx (by simp) (World.news_of_block hc) ?_ (by decide) (by unfold maxLen; omega) (by omega) hB _ rfl ?_
  · intro u hu
    rw [List.mem_singleton] at hu
    rw [hu]
    rfl
  · intro g cap w' h' hg' hgg _
    exact K g cap w' (by unfold Own; rw [List.map_append, List.length_append]; exact h') hg' hgg

theorem app_i64x (w : World) {ops : Array Oper} {rest : List Oper} {o : Oper} {a : Act} {Q : Exit → Act → World → Prop} (hg : o.guard = none) (s x : Operand)
    (hop : o.op = Op.call { callee := Callee.builtin Builtin.append, args := #[s, x], argTypes := #[22, 22] }) (B : Nat) (v : Value) (zs : List Int) (hs : a.eval s = v) (hown : Own .i64 3 w B v zs)
    (b c : Nat) (r : Int) (hx : a.eval x = .slice (some ⟨b, 0, none⟩) 1 c)
    (hc : w.heap[b]? = some (.cells #[.int .i64 r] 3)) (hb : zs.length + 1 ≤ 1099511627776) (hB : B ≤ w.heap.size)
    (K : ∀ g cap w', Own .i64 3 w' B (.slice (some ⟨g, 0, none⟩) (zs.length + 1) cap) (zs ++ [r]) → w.grownBy w' v.ownBlock → (v.ownBlock = some g ∨ g = w.heap.size) → wpList Tryz.prog ops Q rest (a.put o.dst (.slice (some ⟨g, 0, none⟩) (zs.length + 1) cap)) w') : wpList Tryz.prog ops Q (o :: rest) a w := by
  obtain ⟨i, h1, h2, h3, h4⟩ := info_i64
  refine wpList_append_lies w hg s x 22 hop B 3 i (.int .i64 0) 1 8 Tryz.underlying22 h1 h2 h3 h4 rfl (by decide) v _ _ hs hown ⟨b, 0, none⟩ 1 c [.int .i64 r] hx (by simp) (World.news_of_block hc) ?_ (by decide) (by unfold maxLen; omega) (by omega) hB _ rfl ?_
  · intro u hu
    rw [List.mem_singleton] at hu
    rw [hu]
    rfl
  · intro g cap w' h' hg' hgg _
    exact K g cap w' (by unfold Own; rw [List.map_append, List.length_append]; exact h') hg' hgg

set_option maxHeartbeats 1000000 in
theorem impl_gstepS (n : Int) (x : St) (l : Value) (zs : List Int) (t : Tok) (b C : Nat) (w : World) (h : RSt w b C n x l zs) (hbC : b < C) (hC : C ≤ w.heap.size) (ht : ∀ W, Only b w W → TabM W) (hn : proB n = true) (hx : stOKB x = true) (hk : tokLP t) :
    Calls Tryz.prog 121 #[.pointer (some ⟨b, 0, none⟩), .pointer (some ⟨b, 10, none⟩), tokV t] w fun e w' => e = .returned (mvV (stepP n x t)) ∧ RSt w' b C n (stepP n x t).y l zs ∧ Only b w w' := by
  obtain ⟨m, h1, h2, h3⟩ := h
  have hlt := fun g hg => (World.ownsRow.lt h3 g hg).2
  rcases h2 with rfl | ⟨mb, rfl, h4⟩
  · refine (impl_gstepR n x l (.map none) t b w.heap.size w ⟨_, h1, .inl rfl, .inl rfl⟩ h1.lt (Nat.le_refl _) ht hn hx hk).mono ?_
    rintro e w' ⟨he, ⟨m', h5, h6, _⟩, ho⟩
    refine ⟨he, ⟨m', h5, h6.imp id ?_, h3.onlyB ho hbC⟩, ho⟩
    rintro ⟨mb, h7, h8⟩
    exact ⟨mb, h7, PlFree.of h8 hC hlt⟩
  · refine (impl_gstepR n x l (.map (some mb)) t b C w ⟨_, h1, .inr ⟨mb, rfl, h4.at⟩, .inl rfl⟩ hbC hC ht hn hx hk).mono ?_
    rintro e w' ⟨he, ⟨m', h5, h6, hq⟩, ho⟩
    have hm : m' = .map (some mb) := hq.elim id (fun h => by cases h)
    subst hm
    exact ⟨he, ⟨_, h5, .inr ⟨mb, rfl, h4.chg (ho.chg _) hbC fun g e => .inl e⟩, h3.onlyB ho hbC⟩, ho⟩

/-- What a replacement leaves. -/
def RpDone (n : Int) (x : St) (l : Value) (zs : List Int) (t : Tok) (b C : Nat) (w : World) (e : Ending) (w' : World) : Prop := e = .returned (.tuple #[]) ∧ ∃ l', RSt w' b C n (badX n x t) l' (zs ++ badZ t) ∧ Chg l.ownBlock b w w' ∧ ∀ g, l'.ownBlock = some g → l.ownBlock = some g ∨ w.heap.size ≤ g

set_option maxHeartbeats 4000000 in
set_option maxRecDepth 100000 in
theorem impl_replace (n : Int) (x : St) (l : Value) (zs : List Int) (t : Tok) (c : Int) (b C : Nat) (w : World) (h : RSt w b C n x l zs) (hbC : b < C) (hC : C ≤ w.heap.size) (hz : zs.length ≤ 1048576) :
    Calls Tryz.prog 40 #[.pointer (some ⟨b, 0, none⟩), tokV t, .int .i64 c] w (RpDone n x l zs t b C w) := by
  have B0 := Lib.hid (below_one w (.cells #[.int .i64 t.k, .int .i64 t.a, .int .i64 t.b, .int .i64 t.c, .int .i64 t.p, .int .i64 t.n] 102))
  have K0 : Hid (TokAt (w.alloc (.cells #[.int .i64 t.k, .int .i64 t.a, .int .i64 t.b, .int .i64 t.c, .int .i64 t.p, .int .i64 t.n] 102)) w.heap.size t) := Lib.hid (heap_alloc_new _ _)
  have R0 := Lib.hid (h.keep B0.out hbC)
  have hbl : b < w.heap.size := h.lt
  have hLO := Lib.hid (fun g hg => (World.ownsRow.lt h.own g hg))
  have c00 : Hid (Chg l.ownBlock b w (w.alloc (.cells #[.int .i64 t.k, .int .i64 t.a, .int .i64 t.b, .int .i64 t.c, .int .i64 t.p, .int .i64 t.n] 102))) := Lib.hid ((only_below hbl B0.out).chg _)
  obtain ⟨la, lc, hlf, _⟩ := h.own.shape
  have HEn := Lib.hid (fun W => impl_endsLine t W)
  have hs0 : (w.alloc (.cells #[.int .i64 t.k, .int .i64 t.a, .int .i64 t.b, .int .i64 t.c, .int .i64 t.p, .int .i64 t.n] 102)).heap.size = w.heap.size + 1 := by simp
  clear h
  subst hlf
  unfold tokV at HEn ⊢
  have R1 : Hid (RSt ((w.alloc (.cells #[.int .i64 t.k, .int .i64 t.a, .int .i64 t.b, .int .i64 t.c, .int .i64 t.p, .int .i64 t.n] 102)).alloc (.cells #[.int .i64 65533] 3)) b C n x (.slice la zs.length lc) zs) := Lib.hid (R0.out.keep (below_one _ _) hbC)
  have c01 : Hid (Chg (Value.slice la zs.length lc).ownBlock b w ((w.alloc (.cells #[.int .i64 t.k, .int .i64 t.a, .int .i64 t.b, .int .i64 t.c, .int .i64 t.p, .int .i64 t.n] 102)).alloc (.cells #[.int .i64 65533] 3))) := Lib.hid (c00.out.trans ((only_below R0.out.lt (below_one (w.alloc (.cells #[.int .i64 t.k, .int .i64 t.a, .int .i64 t.b, .int .i64 t.c, .int .i64 t.p, .int .i64 t.n] 102)) (.cells #[.int .i64 65533] 3))).chg (Value.slice la zs.length lc).ownBlock) (fun g e => .inl e))
  have HK1 : Hid (TokAt ((w.alloc (.cells #[.int .i64 t.k, .int .i64 t.a, .int .i64 t.b, .int .i64 t.c, .int .i64 t.p, .int .i64 t.n] 102)).alloc (.cells #[.int .i64 65533] 3)) w.heap.size t) := Lib.hid (K0.out.keep (below_one _ _))
  have hs1 : ((w.alloc (.cells #[.int .i64 t.k, .int .i64 t.a, .int .i64 t.b, .int .i64 t.c, .int .i64 t.p, .int .i64 t.n] 102)).alloc (.cells #[.int .i64 65533] 3)).heap.size = w.heap.size + 2 := by simp
  have hL1 : ((w.alloc (.cells #[.int .i64 t.k, .int .i64 t.a, .int .i64 t.b, .int .i64 t.c, .int .i64 t.p, .int .i64 t.n] 102)).alloc (.cells #[.int .i64 65533] 3)).heap[w.heap.size + 1]? = some (.cells #[.int .i64 65533] 3) := heap_alloc2_new _ _ _
  obtain ⟨m, hm, _, _⟩ := R0.out
  have ⟨_, _, _, _, _, _, _, _, _, c17⟩ := hm.cells
  clear hm
  go_enter Tryz.func40, Tryz.ntmps40
  go_wp2_with (at_builtin; refine app_i64x _ rfl _ _ rfl C _ zs rfl R1.out.own (w.heap.size + 1) 1 65533 rfl hL1 (by omega) (by omega) ?_)
  clear c17
  generalize (w.alloc (.cells #[.int .i64 t.k, .int .i64 t.a, .int .i64 t.b, .int .i64 t.c, .int .i64 t.p, .int .i64 t.n] 102)).alloc (.cells #[.int .i64 65533] 3) = W1 at *
  intro g2 cap2 w4 o4 g4 hg4
  have HK4 : Hid (TokAt w4 w.heap.size t) := Lib.hid ((g4.block w.heap.size (by omega) (fun e => by have := (hLO.out _ e.symm).2; omega)).trans HK1.out)
  obtain ⟨RA, cA⟩ := R1.out.app hbC o4 g4 (hg4.imp id (fun h => h.trans hs1.symm))
  have HRA := Lib.hid RA
  have HcA := Lib.hid (c01.out.trans cA (fun g e => .inl e))
  have hg2 : Hid (∀ g, some g2 = some g → (Value.slice la zs.length lc).ownBlock = some g ∨ w.heap.size ≤ g) := Lib.hid (fun g e => by cases e; exact hg4.imp id (fun h => by omega))
  obtain ⟨m4, hm4, _, _⟩ := R1.out
  have hm5 : RdAt w4 b n m4 x (.slice la zs.length lc) := (g4.block b hm4.lt (fun e => by have := (hLO.out b e.symm).1; omega)).trans hm4
  have ⟨_, _, _, _, _, _, _, _, _, d17⟩ := hm5.cells
  have q17 := hm5.frozen 17
  have hl4 := hm5.lt
  have ⟨_, _, _, _, _, y5, y6⟩ := hm5.mr.cells
  have ⟨_, _, _, _, _, z5, z6⟩ := hm5.mr.thaw
  have ⟨t0, t1, t2, t3, t4, t5⟩ := HK4.out.cells
  have hne4 : w.heap.size ≠ b := by omega
  have HK5 : Hid (TokAt (((w4.setCell ⟨b, 17, none⟩ (.slice (some ⟨g2, 0, none⟩) (zs.length + 1) cap2)).setCell ⟨b, 15, none⟩ (.int .i64 0)).setCell ⟨b, 16, none⟩ (.int .i64 0)) w.heap.size t) := Lib.hid (by
    unfold TokAt
    rw [Below.heap_setCell _ _ _ _ (by simpa using hne4), Below.heap_setCell _ _ _ _ (by simpa using hne4), Below.heap_setCell _ _ _ _ (by simpa using hne4)]
    exact HK4.out)
  have O5 : Hid (Only b (w4.setCell ⟨b, 17, none⟩ (.slice (some ⟨g2, 0, none⟩) (zs.length + 1) cap2)) (((w4.setCell ⟨b, 17, none⟩ (.slice (some ⟨g2, 0, none⟩) (zs.length + 1) cap2)).setCell ⟨b, 15, none⟩ (.int .i64 0)).setCell ⟨b, 16, none⟩ (.int .i64 0))) := Lib.hid ((Only.set b 15 _ _).trans (Only.set b 16 _ _))
  have R5 : Hid (RSt (((w4.setCell ⟨b, 17, none⟩ (.slice (some ⟨g2, 0, none⟩) (zs.length + 1) cap2)).setCell ⟨b, 15, none⟩ (.int .i64 0)).setCell ⟨b, 16, none⟩ (.int .i64 0)) b C n ⟨x.g0, x.g1, x.g2, x.g3, x.l, 0, 0⟩ (.slice (some ⟨g2, 0, none⟩) (zs.length + 1) cap2) (zs ++ [65533])) := Lib.hid (HRA.out.only O5.out hbC fun m hm => heap_setCell_same _ _ 16 _ _ (.int .i64 0) (heap_setCell_same _ _ 15 _ _ (.int .i64 0) hm))
  have c5 : Hid (Chg (Value.slice la zs.length lc).ownBlock b w (((w4.setCell ⟨b, 17, none⟩ (.slice (some ⟨g2, 0, none⟩) (zs.length + 1) cap2)).setCell ⟨b, 15, none⟩ (.int .i64 0)).setCell ⟨b, 16, none⟩ (.int .i64 0))) := Lib.hid (HcA.out.trans (O5.out.chg (Value.slice la zs.length lc).ownBlock) (fun g e => .inl e))
  have hw5 : w.heap.size ≤ ((((w4.setCell ⟨b, 17, none⟩ (.slice (some ⟨g2, 0, none⟩) (zs.length + 1) cap2)).setCell ⟨b, 15, none⟩ (.int .i64 0)).setCell ⟨b, 16, none⟩ (.int .i64 0))).heap.size := c5.out.1.size
  clear o4 g4 hg4 RA cA hm4 hm5 R1 c01 HRA HcA O5
  go_wp2_with fail
  refine (HEn.out _).mono ?_
  clear y5 y6 z5 z6 t0 t1 t2 t3 t4 t5 d17 q17
  generalize (((w4.setCell ⟨b, 17, none⟩ (.slice (some ⟨g2, 0, none⟩) (zs.length + 1) cap2)).setCell ⟨b, 15, none⟩ (.int .i64 0)).setCell ⟨b, 16, none⟩ (.int .i64 0)) = W5 at *
  rintro e w6 ⟨rfl, b6⟩
  have R6 := Lib.hid (R5.out.keep b6 hbC)
  have c6 : Hid (Chg (Value.slice la zs.length lc).ownBlock b w w6) := Lib.hid (c5.out.trans ((only_below R5.out.lt b6).chg (Value.slice la zs.length lc).ownBlock) (fun g e => .inl e))
  have hw6 : w.heap.size ≤ w6.heap.size := c6.out.1.size
  clear b6 R5 c5 HK5 HK4
  by_cases hb : t.k = 1 ∧ t.a = 10
  · rw [show (decide (t.k = 1) && decide (t.a = 10)) = true by simp [hb]]
    have HX : Hid (badX n x t = anewX n ⟨x.g0, x.g1, x.g2, x.g3, x.l, 0, 0⟩ ∧ badZ t = [65533, 10]) := Lib.hid ⟨by rw [badX, if_pos hb]; rfl, by rw [badZ, if_pos hb]⟩
    have R7 : Hid (RSt (w6.alloc (.cells #[.int .i64 10] 3)) b C n ⟨x.g0, x.g1, x.g2, x.g3, x.l, 0, 0⟩ (.slice (some ⟨g2, 0, none⟩) (zs.length + 1) cap2) (zs ++ [65533])) := Lib.hid (R6.out.keep (below_one _ _) hbC)
    have c7 : Hid (Chg (Value.slice la zs.length lc).ownBlock b w (w6.alloc (.cells #[.int .i64 10] 3))) := Lib.hid (c6.out.trans ((only_below R6.out.lt (below_one w6 (.cells #[.int .i64 10] 3))).chg (Value.slice la zs.length lc).ownBlock) (fun g e => .inl e))
    have hL7 : (w6.alloc (.cells #[.int .i64 10] 3)).heap[w6.heap.size]? = some (.cells #[.int .i64 10] 3) := heap_alloc_new _ _
    obtain ⟨m6, hm6, _, _⟩ := R6.out
    have ⟨_, _, _, _, _, _, _, _, _, c17⟩ := hm6.cells
    have hs7 : (w6.alloc (.cells #[.int .i64 10] 3)).heap.size = w6.heap.size + 1 := by simp
    have HSl := Lib.hid (fun m l W h => impl_startLine n ⟨x.g0, x.g1, x.g2, x.g3, x.l, 0, 0⟩ m l b W h)
    have hlen : (zs ++ [65533]).length = zs.length + 1 := by simp
    clear hm6 hb
    go_wp2_with (at_builtin; refine app_i64x _ rfl _ _ rfl C _ (zs ++ [65533]) rfl R7.out.own w6.heap.size 1 10 rfl hL7 (by omega) (by omega) ?_)
    clear c17
    generalize w6.alloc (.cells #[.int .i64 10] 3) = W7 at *
    intro g8 cap8 w8 o8 g48 hg8
    have hLO7 := Lib.hid (fun g hg => (World.ownsRow.lt R7.out.own g hg))
    obtain ⟨RB, cB⟩ := R7.out.app hbC o8 g48 (hg8.imp id (fun h => h.trans hs7.symm))
    have HRB := Lib.hid RB
    have HcB := Lib.hid (c7.out.trans cB hg2.out)
    have hg9 : Hid (∀ g, some g8 = some g → (Value.slice la zs.length lc).ownBlock = some g ∨ w.heap.size ≤ g) := Lib.hid (fun g e => by
      cases e
      rcases hg8 with h | h
      · exact hg2.out _ h
      · exact .inr (by omega))
    obtain ⟨m7, hm7, _, _⟩ := R7.out
    have hm8 : RdAt w8 b n m7 ⟨x.g0, x.g1, x.g2, x.g3, x.l, 0, 0⟩ (.slice (some ⟨g2, 0, none⟩) (zs.length + 1) cap2) := (g48.block b hm7.lt (fun e => by have := (hLO7.out b e.symm).1; omega)).trans hm7
    have ⟨_, _, _, _, _, _, _, _, _, d17⟩ := hm8.cells
    have q17 := hm8.frozen 17
    have hl8 := hm8.lt
    clear o8 g48 hg8 RB cB hm7 hm8 R7 c7 hLO7
    go_wp2_with fail
    obtain ⟨m9, hm9, _, _⟩ := HRB.out
    refine (HSl.out m9 _ _ hm9).mono ?_
    generalize (w8.setCell ⟨b, 17, none⟩ (.slice (some ⟨g8, 0, none⟩) (zs.length + 1 + 1) cap8)) = W8 at *
    rintro e w9 ⟨rfl, hA9, o9⟩
    have R9 := Lib.hid (HRB.out.step hm9 o9 hbC hA9)
    have c9 : Hid (Chg (Value.slice la zs.length lc).ownBlock b w w9) := Lib.hid (HcB.out.trans (o9.chg (Value.slice la zs.length lc).ownBlock) (fun g e => .inl e))
    clear hm9 hA9 o9 d17 q17
    go_wp2
    go_end0
    exact ⟨rfl, .slice (some ⟨g8, 0, none⟩) (zs.length + 1 + 1) cap8, by rw [HX.out.1, HX.out.2]; exact R9.out, c9.out, fun g e => hg9.out g e⟩
  · rw [show (decide (t.k = 1) && decide (t.a = 10)) = false by
      cases hd : (decide (t.k = 1) && decide (t.a = 10))
      · rfl
      · rw [Bool.and_eq_true, decide_eq_true_eq, decide_eq_true_eq] at hd
        exact absurd hd hb]
    have HX : Hid (badX n x t = ⟨x.g0, x.g1, x.g2, x.g3, x.l, 0, 0⟩ ∧ badZ t = [65533]) := Lib.hid ⟨by rw [badX, if_neg hb], by rw [badZ, if_neg hb]⟩
    go_wp2
    go_end0
    exact ⟨rfl, .slice (some ⟨g2, 0, none⟩) (zs.length + 1) cap2, by rw [HX.out.1, HX.out.2]; exact R6.out, c6.out, fun g e => hg2.out g e⟩

end Go.Proofs.YtbamjhldebobhaaGreatDoor

namespace Go.Proofs.YtbamjhldebobhaaGreatDoor
open Go.RowKit Go.Sort

def rdV (n : Int) (m : Value) (y : St) (l : Value) : Value := .agg #[.int .i64 n, .string (prName n), .string (prHead n), .slice none 0 0, .bool (prRight n), .bool (prShifts n), .bool (prSingle n), .bool (prReset n), .bool (prClear n), m, .int .i64 y.g0, .int .i64 y.g1, .int .i64 y.g2, .int .i64 y.g3, .int .i64 y.l, .int .i64 y.s, .int .i64 y.d, l]
def put18 (w : World) (g : Nat) (n : Int) (y : St) : World := ((((((((((((((((((w.setCell ⟨g, 0, none⟩ (.int .i64 n)).setCell ⟨g, 1, none⟩ (.string (prName n))).setCell ⟨g, 2, none⟩ (.string (prHead n))).setCell ⟨g, 3, none⟩ (.slice none 0 0)).setCell ⟨g, 4, none⟩ (.bool (prRight n))).setCell ⟨g, 5, none⟩ (.bool (prShifts n))).setCell ⟨g, 6, none⟩ (.bool (prSingle n))).setCell ⟨g, 7, none⟩ (.bool (prReset n))).setCell ⟨g, 8, none⟩ (.bool (prClear n))).setCell ⟨g, 9, none⟩ (.map none)).setCell ⟨g, 10, none⟩ (.int .i64 y.g0)).setCell ⟨g, 11, none⟩ (.int .i64 y.g1)).setCell ⟨g, 12, none⟩ (.int .i64 y.g2)).setCell ⟨g, 13, none⟩ (.int .i64 y.g3)).setCell ⟨g, 14, none⟩ (.int .i64 y.l)).setCell ⟨g, 15, none⟩ (.int .i64 y.s)).setCell ⟨g, 16, none⟩ (.int .i64 y.d)).setCell ⟨g, 17, none⟩ (.slice none 0 0))
theorem put18_row {w : World} {g : Nat} (n : Int) (y : St) (h : w.heap[g]? = some (.cells #[.int .i64 0, .string ⟨#[]⟩, .string ⟨#[]⟩, .slice none 0 0, .bool false, .bool false, .bool false, .bool false, .bool false, .map none, .int .i64 0, .int .i64 0, .int .i64 0, .int .i64 0, .int .i64 0, .int .i64 0, .int .i64 0, .slice none 0 0] 69)) : RdAt (put18 w g n y) g n (.map none) y (.slice none 0 0) := by
  have k0 : (w.setCell ⟨g, 0, none⟩ (.int .i64 n)).heap[g]? = some (.cells #[.int .i64 n, .string ⟨#[]⟩, .string ⟨#[]⟩, .slice none 0 0, .bool false, .bool false, .bool false, .bool false, .bool false, .map none, .int .i64 0, .int .i64 0, .int .i64 0, .int .i64 0, .int .i64 0, .int .i64 0, .int .i64 0, .slice none 0 0] 69) := heap_setCell_same _ g 0 _ _ (.int .i64 n) h
  have k1 : ((w.setCell ⟨g, 0, none⟩ (.int .i64 n)).setCell ⟨g, 1, none⟩ (.string (prName n))).heap[g]? = some (.cells #[.int .i64 n, .string (prName n), .string ⟨#[]⟩, .slice none 0 0, .bool false, .bool false, .bool false, .bool false, .bool false, .map none, .int .i64 0, .int .i64 0, .int .i64 0, .int .i64 0, .int .i64 0, .int .i64 0, .int .i64 0, .slice none 0 0] 69) := heap_setCell_same _ g 1 _ _ (.string (prName n)) k0
  have k2 : (((w.setCell ⟨g, 0, none⟩ (.int .i64 n)).setCell ⟨g, 1, none⟩ (.string (prName n))).setCell ⟨g, 2, none⟩ (.string (prHead n))).heap[g]? = some (.cells #[.int .i64 n, .string (prName n), .string (prHead n), .slice none 0 0, .bool false, .bool false, .bool false, .bool false, .bool false, .map none, .int .i64 0, .int .i64 0, .int .i64 0, .int .i64 0, .int .i64 0, .int .i64 0, .int .i64 0, .slice none 0 0] 69) := heap_setCell_same _ g 2 _ _ (.string (prHead n)) k1
  have k3 : ((((w.setCell ⟨g, 0, none⟩ (.int .i64 n)).setCell ⟨g, 1, none⟩ (.string (prName n))).setCell ⟨g, 2, none⟩ (.string (prHead n))).setCell ⟨g, 3, none⟩ (.slice none 0 0)).heap[g]? = some (.cells #[.int .i64 n, .string (prName n), .string (prHead n), .slice none 0 0, .bool false, .bool false, .bool false, .bool false, .bool false, .map none, .int .i64 0, .int .i64 0, .int .i64 0, .int .i64 0, .int .i64 0, .int .i64 0, .int .i64 0, .slice none 0 0] 69) := heap_setCell_same _ g 3 _ _ (.slice none 0 0) k2
  have k4 : (((((w.setCell ⟨g, 0, none⟩ (.int .i64 n)).setCell ⟨g, 1, none⟩ (.string (prName n))).setCell ⟨g, 2, none⟩ (.string (prHead n))).setCell ⟨g, 3, none⟩ (.slice none 0 0)).setCell ⟨g, 4, none⟩ (.bool (prRight n))).heap[g]? = some (.cells #[.int .i64 n, .string (prName n), .string (prHead n), .slice none 0 0, .bool (prRight n), .bool false, .bool false, .bool false, .bool false, .map none, .int .i64 0, .int .i64 0, .int .i64 0, .int .i64 0, .int .i64 0, .int .i64 0, .int .i64 0, .slice none 0 0] 69) := heap_setCell_same _ g 4 _ _ (.bool (prRight n)) k3
  have k5 : ((((((w.setCell ⟨g, 0, none⟩ (.int .i64 n)).setCell ⟨g, 1, none⟩ (.string (prName n))).setCell ⟨g, 2, none⟩ (.string (prHead n))).setCell ⟨g, 3, none⟩ (.slice none 0 0)).setCell ⟨g, 4, none⟩ (.bool (prRight n))).setCell ⟨g, 5, none⟩ (.bool (prShifts n))).heap[g]? = some (.cells #[.int .i64 n, .string (prName n), .string (prHead n), .slice none 0 0, .bool (prRight n), .bool (prShifts n), .bool false, .bool false, .bool false, .map none, .int .i64 0, .int .i64 0, .int .i64 0, .int .i64 0, .int .i64 0, .int .i64 0, .int .i64 0, .slice none 0 0] 69) := heap_setCell_same _ g 5 _ _ (.bool (prShifts n)) k4
  have k6 : (((((((w.setCell ⟨g, 0, none⟩ (.int .i64 n)).setCell ⟨g, 1, none⟩ (.string (prName n))).setCell ⟨g, 2, none⟩ (.string (prHead n))).setCell ⟨g, 3, none⟩ (.slice none 0 0)).setCell ⟨g, 4, none⟩ (.bool (prRight n))).setCell ⟨g, 5, none⟩ (.bool (prShifts n))).setCell ⟨g, 6, none⟩ (.bool (prSingle n))).heap[g]? = some (.cells #[.int .i64 n, .string (prName n), .string (prHead n), .slice none 0 0, .bool (prRight n), .bool (prShifts n), .bool (prSingle n), .bool false, .bool false, .map none, .int .i64 0, .int .i64 0, .int .i64 0, .int .i64 0, .int .i64 0, .int .i64 0, .int .i64 0, .slice none 0 0] 69) := heap_setCell_same _ g 6 _ _ (.bool (prSingle n)) k5
  have k7 : ((((((((w.setCell ⟨g, 0, none⟩ (.int .i64 n)).setCell ⟨g, 1, none⟩ (.string (prName n))).setCell ⟨g, 2, none⟩ (.string (prHead n))).setCell ⟨g, 3, none⟩ (.slice none 0 0)).setCell ⟨g, 4, none⟩ (.bool (prRight n))).setCell ⟨g, 5, none⟩ (.bool (prShifts n))).setCell ⟨g, 6, none⟩ (.bool (prSingle n))).setCell ⟨g, 7, none⟩ (.bool (prReset n))).heap[g]? = some (.cells #[.int .i64 n, .string (prName n), .string (prHead n), .slice none 0 0, .bool (prRight n), .bool (prShifts n), .bool (prSingle n), .bool (prReset n), .bool false, .map none, .int .i64 0, .int .i64 0, .int .i64 0, .int .i64 0, .int .i64 0, .int .i64 0, .int .i64 0, .slice none 0 0] 69) := heap_setCell_same _ g 7 _ _ (.bool (prReset n)) k6
  have k8 : (((((((((w.setCell ⟨g, 0, none⟩ (.int .i64 n)).setCell ⟨g, 1, none⟩ (.string (prName n))).setCell ⟨g, 2, none⟩ (.string (prHead n))).setCell ⟨g, 3, none⟩ (.slice none 0 0)).setCell ⟨g, 4, none⟩ (.bool (prRight n))).setCell ⟨g, 5, none⟩ (.bool (prShifts n))).setCell ⟨g, 6, none⟩ (.bool (prSingle n))).setCell ⟨g, 7, none⟩ (.bool (prReset n))).setCell ⟨g, 8, none⟩ (.bool (prClear n))).heap[g]? = some (.cells #[.int .i64 n, .string (prName n), .string (prHead n), .slice none 0 0, .bool (prRight n), .bool (prShifts n), .bool (prSingle n), .bool (prReset n), .bool (prClear n), .map none, .int .i64 0, .int .i64 0, .int .i64 0, .int .i64 0, .int .i64 0, .int .i64 0, .int .i64 0, .slice none 0 0] 69) := heap_setCell_same _ g 8 _ _ (.bool (prClear n)) k7
  have k9 : ((((((((((w.setCell ⟨g, 0, none⟩ (.int .i64 n)).setCell ⟨g, 1, none⟩ (.string (prName n))).setCell ⟨g, 2, none⟩ (.string (prHead n))).setCell ⟨g, 3, none⟩ (.slice none 0 0)).setCell ⟨g, 4, none⟩ (.bool (prRight n))).setCell ⟨g, 5, none⟩ (.bool (prShifts n))).setCell ⟨g, 6, none⟩ (.bool (prSingle n))).setCell ⟨g, 7, none⟩ (.bool (prReset n))).setCell ⟨g, 8, none⟩ (.bool (prClear n))).setCell ⟨g, 9, none⟩ (.map none)).heap[g]? = some (.cells #[.int .i64 n, .string (prName n), .string (prHead n), .slice none 0 0, .bool (prRight n), .bool (prShifts n), .bool (prSingle n), .bool (prReset n), .bool (prClear n), .map none, .int .i64 0, .int .i64 0, .int .i64 0, .int .i64 0, .int .i64 0, .int .i64 0, .int .i64 0, .slice none 0 0] 69) := heap_setCell_same _ g 9 _ _ (.map none) k8
  have k10 : (((((((((((w.setCell ⟨g, 0, none⟩ (.int .i64 n)).setCell ⟨g, 1, none⟩ (.string (prName n))).setCell ⟨g, 2, none⟩ (.string (prHead n))).setCell ⟨g, 3, none⟩ (.slice none 0 0)).setCell ⟨g, 4, none⟩ (.bool (prRight n))).setCell ⟨g, 5, none⟩ (.bool (prShifts n))).setCell ⟨g, 6, none⟩ (.bool (prSingle n))).setCell ⟨g, 7, none⟩ (.bool (prReset n))).setCell ⟨g, 8, none⟩ (.bool (prClear n))).setCell ⟨g, 9, none⟩ (.map none)).setCell ⟨g, 10, none⟩ (.int .i64 y.g0)).heap[g]? = some (.cells #[.int .i64 n, .string (prName n), .string (prHead n), .slice none 0 0, .bool (prRight n), .bool (prShifts n), .bool (prSingle n), .bool (prReset n), .bool (prClear n), .map none, .int .i64 y.g0, .int .i64 0, .int .i64 0, .int .i64 0, .int .i64 0, .int .i64 0, .int .i64 0, .slice none 0 0] 69) := heap_setCell_same _ g 10 _ _ (.int .i64 y.g0) k9
  have k11 : ((((((((((((w.setCell ⟨g, 0, none⟩ (.int .i64 n)).setCell ⟨g, 1, none⟩ (.string (prName n))).setCell ⟨g, 2, none⟩ (.string (prHead n))).setCell ⟨g, 3, none⟩ (.slice none 0 0)).setCell ⟨g, 4, none⟩ (.bool (prRight n))).setCell ⟨g, 5, none⟩ (.bool (prShifts n))).setCell ⟨g, 6, none⟩ (.bool (prSingle n))).setCell ⟨g, 7, none⟩ (.bool (prReset n))).setCell ⟨g, 8, none⟩ (.bool (prClear n))).setCell ⟨g, 9, none⟩ (.map none)).setCell ⟨g, 10, none⟩ (.int .i64 y.g0)).setCell ⟨g, 11, none⟩ (.int .i64 y.g1)).heap[g]? = some (.cells #[.int .i64 n, .string (prName n), .string (prHead n), .slice none 0 0, .bool (prRight n), .bool (prShifts n), .bool (prSingle n), .bool (prReset n), .bool (prClear n), .map none, .int .i64 y.g0, .int .i64 y.g1, .int .i64 0, .int .i64 0, .int .i64 0, .int .i64 0, .int .i64 0, .slice none 0 0] 69) := heap_setCell_same _ g 11 _ _ (.int .i64 y.g1) k10
  have k12 : (((((((((((((w.setCell ⟨g, 0, none⟩ (.int .i64 n)).setCell ⟨g, 1, none⟩ (.string (prName n))).setCell ⟨g, 2, none⟩ (.string (prHead n))).setCell ⟨g, 3, none⟩ (.slice none 0 0)).setCell ⟨g, 4, none⟩ (.bool (prRight n))).setCell ⟨g, 5, none⟩ (.bool (prShifts n))).setCell ⟨g, 6, none⟩ (.bool (prSingle n))).setCell ⟨g, 7, none⟩ (.bool (prReset n))).setCell ⟨g, 8, none⟩ (.bool (prClear n))).setCell ⟨g, 9, none⟩ (.map none)).setCell ⟨g, 10, none⟩ (.int .i64 y.g0)).setCell ⟨g, 11, none⟩ (.int .i64 y.g1)).setCell ⟨g, 12, none⟩ (.int .i64 y.g2)).heap[g]? = some (.cells #[.int .i64 n, .string (prName n), .string (prHead n), .slice none 0 0, .bool (prRight n), .bool (prShifts n), .bool (prSingle n), .bool (prReset n), .bool (prClear n), .map none, .int .i64 y.g0, .int .i64 y.g1, .int .i64 y.g2, .int .i64 0, .int .i64 0, .int .i64 0, .int .i64 0, .slice none 0 0] 69) := heap_setCell_same _ g 12 _ _ (.int .i64 y.g2) k11
  have k13 : ((((((((((((((w.setCell ⟨g, 0, none⟩ (.int .i64 n)).setCell ⟨g, 1, none⟩ (.string (prName n))).setCell ⟨g, 2, none⟩ (.string (prHead n))).setCell ⟨g, 3, none⟩ (.slice none 0 0)).setCell ⟨g, 4, none⟩ (.bool (prRight n))).setCell ⟨g, 5, none⟩ (.bool (prShifts n))).setCell ⟨g, 6, none⟩ (.bool (prSingle n))).setCell ⟨g, 7, none⟩ (.bool (prReset n))).setCell ⟨g, 8, none⟩ (.bool (prClear n))).setCell ⟨g, 9, none⟩ (.map none)).setCell ⟨g, 10, none⟩ (.int .i64 y.g0)).setCell ⟨g, 11, none⟩ (.int .i64 y.g1)).setCell ⟨g, 12, none⟩ (.int .i64 y.g2)).setCell ⟨g, 13, none⟩ (.int .i64 y.g3)).heap[g]? = some (.cells #[.int .i64 n, .string (prName n), .string (prHead n), .slice none 0 0, .bool (prRight n), .bool (prShifts n), .bool (prSingle n), .bool (prReset n), .bool (prClear n), .map none, .int .i64 y.g0, .int .i64 y.g1, .int .i64 y.g2, .int .i64 y.g3, .int .i64 0, .int .i64 0, .int .i64 0, .slice none 0 0] 69) := heap_setCell_same _ g 13 _ _ (.int .i64 y.g3) k12
  have k14 : (((((((((((((((w.setCell ⟨g, 0, none⟩ (.int .i64 n)).setCell ⟨g, 1, none⟩ (.string (prName n))).setCell ⟨g, 2, none⟩ (.string (prHead n))).setCell ⟨g, 3, none⟩ (.slice none 0 0)).setCell ⟨g, 4, none⟩ (.bool (prRight n))).setCell ⟨g, 5, none⟩ (.bool (prShifts n))).setCell ⟨g, 6, none⟩ (.bool (prSingle n))).setCell ⟨g, 7, none⟩ (.bool (prReset n))).setCell ⟨g, 8, none⟩ (.bool (prClear n))).setCell ⟨g, 9, none⟩ (.map none)).setCell ⟨g, 10, none⟩ (.int .i64 y.g0)).setCell ⟨g, 11, none⟩ (.int .i64 y.g1)).setCell ⟨g, 12, none⟩ (.int .i64 y.g2)).setCell ⟨g, 13, none⟩ (.int .i64 y.g3)).setCell ⟨g, 14, none⟩ (.int .i64 y.l)).heap[g]? = some (.cells #[.int .i64 n, .string (prName n), .string (prHead n), .slice none 0 0, .bool (prRight n), .bool (prShifts n), .bool (prSingle n), .bool (prReset n), .bool (prClear n), .map none, .int .i64 y.g0, .int .i64 y.g1, .int .i64 y.g2, .int .i64 y.g3, .int .i64 y.l, .int .i64 0, .int .i64 0, .slice none 0 0] 69) := heap_setCell_same _ g 14 _ _ (.int .i64 y.l) k13
  have k15 : ((((((((((((((((w.setCell ⟨g, 0, none⟩ (.int .i64 n)).setCell ⟨g, 1, none⟩ (.string (prName n))).setCell ⟨g, 2, none⟩ (.string (prHead n))).setCell ⟨g, 3, none⟩ (.slice none 0 0)).setCell ⟨g, 4, none⟩ (.bool (prRight n))).setCell ⟨g, 5, none⟩ (.bool (prShifts n))).setCell ⟨g, 6, none⟩ (.bool (prSingle n))).setCell ⟨g, 7, none⟩ (.bool (prReset n))).setCell ⟨g, 8, none⟩ (.bool (prClear n))).setCell ⟨g, 9, none⟩ (.map none)).setCell ⟨g, 10, none⟩ (.int .i64 y.g0)).setCell ⟨g, 11, none⟩ (.int .i64 y.g1)).setCell ⟨g, 12, none⟩ (.int .i64 y.g2)).setCell ⟨g, 13, none⟩ (.int .i64 y.g3)).setCell ⟨g, 14, none⟩ (.int .i64 y.l)).setCell ⟨g, 15, none⟩ (.int .i64 y.s)).heap[g]? = some (.cells #[.int .i64 n, .string (prName n), .string (prHead n), .slice none 0 0, .bool (prRight n), .bool (prShifts n), .bool (prSingle n), .bool (prReset n), .bool (prClear n), .map none, .int .i64 y.g0, .int .i64 y.g1, .int .i64 y.g2, .int .i64 y.g3, .int .i64 y.l, .int .i64 y.s, .int .i64 0, .slice none 0 0] 69) := heap_setCell_same _ g 15 _ _ (.int .i64 y.s) k14
  have k16 : (((((((((((((((((w.setCell ⟨g, 0, none⟩ (.int .i64 n)).setCell ⟨g, 1, none⟩ (.string (prName n))).setCell ⟨g, 2, none⟩ (.string (prHead n))).setCell ⟨g, 3, none⟩ (.slice none 0 0)).setCell ⟨g, 4, none⟩ (.bool (prRight n))).setCell ⟨g, 5, none⟩ (.bool (prShifts n))).setCell ⟨g, 6, none⟩ (.bool (prSingle n))).setCell ⟨g, 7, none⟩ (.bool (prReset n))).setCell ⟨g, 8, none⟩ (.bool (prClear n))).setCell ⟨g, 9, none⟩ (.map none)).setCell ⟨g, 10, none⟩ (.int .i64 y.g0)).setCell ⟨g, 11, none⟩ (.int .i64 y.g1)).setCell ⟨g, 12, none⟩ (.int .i64 y.g2)).setCell ⟨g, 13, none⟩ (.int .i64 y.g3)).setCell ⟨g, 14, none⟩ (.int .i64 y.l)).setCell ⟨g, 15, none⟩ (.int .i64 y.s)).setCell ⟨g, 16, none⟩ (.int .i64 y.d)).heap[g]? = some (.cells #[.int .i64 n, .string (prName n), .string (prHead n), .slice none 0 0, .bool (prRight n), .bool (prShifts n), .bool (prSingle n), .bool (prReset n), .bool (prClear n), .map none, .int .i64 y.g0, .int .i64 y.g1, .int .i64 y.g2, .int .i64 y.g3, .int .i64 y.l, .int .i64 y.s, .int .i64 y.d, .slice none 0 0] 69) := heap_setCell_same _ g 16 _ _ (.int .i64 y.d) k15
  have k17 : ((((((((((((((((((w.setCell ⟨g, 0, none⟩ (.int .i64 n)).setCell ⟨g, 1, none⟩ (.string (prName n))).setCell ⟨g, 2, none⟩ (.string (prHead n))).setCell ⟨g, 3, none⟩ (.slice none 0 0)).setCell ⟨g, 4, none⟩ (.bool (prRight n))).setCell ⟨g, 5, none⟩ (.bool (prShifts n))).setCell ⟨g, 6, none⟩ (.bool (prSingle n))).setCell ⟨g, 7, none⟩ (.bool (prReset n))).setCell ⟨g, 8, none⟩ (.bool (prClear n))).setCell ⟨g, 9, none⟩ (.map none)).setCell ⟨g, 10, none⟩ (.int .i64 y.g0)).setCell ⟨g, 11, none⟩ (.int .i64 y.g1)).setCell ⟨g, 12, none⟩ (.int .i64 y.g2)).setCell ⟨g, 13, none⟩ (.int .i64 y.g3)).setCell ⟨g, 14, none⟩ (.int .i64 y.l)).setCell ⟨g, 15, none⟩ (.int .i64 y.s)).setCell ⟨g, 16, none⟩ (.int .i64 y.d)).setCell ⟨g, 17, none⟩ (.slice none 0 0)).heap[g]? = some (.cells #[.int .i64 n, .string (prName n), .string (prHead n), .slice none 0 0, .bool (prRight n), .bool (prShifts n), .bool (prSingle n), .bool (prReset n), .bool (prClear n), .map none, .int .i64 y.g0, .int .i64 y.g1, .int .i64 y.g2, .int .i64 y.g3, .int .i64 y.l, .int .i64 y.s, .int .i64 y.d, .slice none 0 0] 69) := heap_setCell_same _ g 17 _ _ (.slice none 0 0) k16
  exact k17
theorem put18_below {B : Nat} {a w : World} (h : Below B a w) {g : Nat} (hg : B ≤ g) (n : Int) (y : St) : Below B a (put18 w g n y) := ((((((((((((((((((h.setCell hg _).setCell hg _).setCell hg _).setCell hg _).setCell hg _).setCell hg _).setCell hg _).setCell hg _).setCell hg _).setCell hg _).setCell hg _).setCell hg _).setCell hg _).setCell hg _).setCell hg _).setCell hg _).setCell hg _).setCell hg _)
theorem row18_cells {w : World} {g : Nat} (h : w.heap[g]? = some (.cells #[.int .i64 0, .string ⟨#[]⟩, .string ⟨#[]⟩, .slice none 0 0, .bool false, .bool false, .bool false, .bool false, .bool false, .map none, .int .i64 0, .int .i64 0, .int .i64 0, .int .i64 0, .int .i64 0, .int .i64 0, .int .i64 0, .slice none 0 0] 69)) : w.cell? ⟨g, 0, none⟩ = some (.int .i64 0) ∧ w.cell? ⟨g, 1, none⟩ = some (.string ⟨#[]⟩) ∧ w.cell? ⟨g, 2, none⟩ = some (.string ⟨#[]⟩) ∧ w.cell? ⟨g, 3, none⟩ = some (.slice none 0 0) ∧ w.cell? ⟨g, 4, none⟩ = some (.bool false) ∧ w.cell? ⟨g, 5, none⟩ = some (.bool false) ∧ w.cell? ⟨g, 6, none⟩ = some (.bool false) ∧ w.cell? ⟨g, 7, none⟩ = some (.bool false) ∧ w.cell? ⟨g, 8, none⟩ = some (.bool false) ∧ w.cell? ⟨g, 9, none⟩ = some (.map none) ∧ w.cell? ⟨g, 10, none⟩ = some (.int .i64 0) ∧ w.cell? ⟨g, 11, none⟩ = some (.int .i64 0) ∧ w.cell? ⟨g, 12, none⟩ = some (.int .i64 0) ∧ w.cell? ⟨g, 13, none⟩ = some (.int .i64 0) ∧ w.cell? ⟨g, 14, none⟩ = some (.int .i64 0) ∧ w.cell? ⟨g, 15, none⟩ = some (.int .i64 0) ∧ w.cell? ⟨g, 16, none⟩ = some (.int .i64 0) ∧ w.cell? ⟨g, 17, none⟩ = some (.slice none 0 0) := by
  refine ⟨?_, ?_, ?_, ?_, ?_, ?_, ?_, ?_, ?_, ?_, ?_, ?_, ?_, ?_, ?_, ?_, ?_, ?_⟩ <;> (rw [cell_of_row _ _ _ _ _ _ h]; rfl)
theorem row18_thaw {w : World} {g : Nat} {cs : Array Value} {t : TypeId} (h : w.heap[g]? = some (.cells cs t)) : w.frozen? ⟨g, 0, none⟩ = false ∧ w.frozen? ⟨g, 1, none⟩ = false ∧ w.frozen? ⟨g, 2, none⟩ = false ∧ w.frozen? ⟨g, 3, none⟩ = false ∧ w.frozen? ⟨g, 4, none⟩ = false ∧ w.frozen? ⟨g, 5, none⟩ = false ∧ w.frozen? ⟨g, 6, none⟩ = false ∧ w.frozen? ⟨g, 7, none⟩ = false ∧ w.frozen? ⟨g, 8, none⟩ = false ∧ w.frozen? ⟨g, 9, none⟩ = false ∧ w.frozen? ⟨g, 10, none⟩ = false ∧ w.frozen? ⟨g, 11, none⟩ = false ∧ w.frozen? ⟨g, 12, none⟩ = false ∧ w.frozen? ⟨g, 13, none⟩ = false ∧ w.frozen? ⟨g, 14, none⟩ = false ∧ w.frozen? ⟨g, 15, none⟩ = false ∧ w.frozen? ⟨g, 16, none⟩ = false ∧ w.frozen? ⟨g, 17, none⟩ = false :=
  ⟨frozen_of_row w _ 0 _ _ h, frozen_of_row w _ 1 _ _ h, frozen_of_row w _ 2 _ _ h, frozen_of_row w _ 3 _ _ h, frozen_of_row w _ 4 _ _ h, frozen_of_row w _ 5 _ _ h, frozen_of_row w _ 6 _ _ h, frozen_of_row w _ 7 _ _ h, frozen_of_row w _ 8 _ _ h, frozen_of_row w _ 9 _ _ h, frozen_of_row w _ 10 _ _ h, frozen_of_row w _ 11 _ _ h, frozen_of_row w _ 12 _ _ h, frozen_of_row w _ 13 _ _ h, frozen_of_row w _ 14 _ _ h, frozen_of_row w _ 15 _ _ h, frozen_of_row w _ 16 _ _ h, frozen_of_row w _ 17 _ _ h⟩

set_option maxHeartbeats 2000000 in
set_option maxRecDepth 100000 in
theorem impl_readingOf (n : Int) (w : World) (ht : TabSets w) (hn : proB n = true) : Calls Tryz.prog 36 #[.int .i64 n] w fun e w' => e = .returned (rdV n (.map none) (startP n) (.slice none 0 0)) ∧ Below w.heap.size w w' := by
  have HG := Lib.hid (fun w ht => impl_guideOf n w ht hn)
  have HS := Lib.hid (fun w => impl_startOf n w)
  have HF := Lib.hid (fun y w => impl_machineOf y w)
  unfold guV at HG
  unfold StDone stV at HS HF
  have HT := Lib.hid ht
  have B0 := Lib.hid (below_one w (.cells #[.int .i64 0, .string ⟨#[]⟩, .string ⟨#[]⟩, .slice none 0 0, .bool false, .bool false, .bool false, .bool false, .bool false, .map none, .int .i64 0, .int .i64 0, .int .i64 0, .int .i64 0, .int .i64 0, .int .i64 0, .int .i64 0, .slice none 0 0] 69))
  have S0 : Hid ((w.alloc (.cells #[.int .i64 0, .string ⟨#[]⟩, .string ⟨#[]⟩, .slice none 0 0, .bool false, .bool false, .bool false, .bool false, .bool false, .map none, .int .i64 0, .int .i64 0, .int .i64 0, .int .i64 0, .int .i64 0, .int .i64 0, .int .i64 0, .slice none 0 0] 69)).heap[w.heap.size]? = some (.cells #[.int .i64 0, .string ⟨#[]⟩, .string ⟨#[]⟩, .slice none 0 0, .bool false, .bool false, .bool false, .bool false, .bool false, .map none, .int .i64 0, .int .i64 0, .int .i64 0, .int .i64 0, .int .i64 0, .int .i64 0, .int .i64 0, .slice none 0 0] 69)) := Lib.hid (heap_alloc_new _ _)
  have HT0 := Lib.hid (HT.out.keep B0.out)
  clear ht
  unfold rdV
  generalize startP n = y at *
  go_enter Tryz.func36, Tryz.ntmps36
  go_wp2_with fail
  refine (HG.out _ HT0.out).mono ?_
  generalize w.alloc (.cells #[.int .i64 0, .string ⟨#[]⟩, .string ⟨#[]⟩, .slice none 0 0, .bool false, .bool false, .bool false, .bool false, .bool false, .map none, .int .i64 0, .int .i64 0, .int .i64 0, .int .i64 0, .int .i64 0, .int .i64 0, .int .i64 0, .slice none 0 0] 69) = W0 at *
  rintro e w1 ⟨rfl, b1⟩
  go_wp2_with fail
  refine (HS.out _).mono ?_
  rintro e w2 ⟨rfl, b2⟩
  go_wp2_with fail
  refine (HF.out y _).mono ?_
  rintro e w3 ⟨rfl, b3⟩
  have b13 := (b1.trans (b2.mono b1.size)).trans (b3.mono (b1.trans (b2.mono b1.size)).size)
  have S3 := Lib.hid ((b13.block _ (Array.getElem?_eq_some_iff.1 S0.out).1).trans S0.out)
  have B3 : Hid (Below w.heap.size w w3) := Lib.hid (B0.out.trans (b13.mono B0.out.size))
  clear b1 b2 b3 b13 S0
  have ⟨c0, c1, c2, c3, c4, c5, c6, c7, c8, c9, c10, c11, c12, c13, c14, c15, c16, c17⟩ := row18_cells S3.out
  have ⟨f0, f1, f2, f3, f4, f5, f6, f7, f8, f9, f10, f11, f12, f13, f14, f15, f16, f17⟩ := row18_thaw S3.out
  have hl3 : w.heap.size < w3.heap.size := (Array.getElem?_eq_some_iff.1 S3.out).1
  go_wp2
  exact bodyPost_ret (results_cell_row rfl _ _ w.heap.size _ _ _ _ rfl (put18_row n y S3.out) Tryz.underlying69 rfl (by kernel_rfl)) rfl ⟨rfl, put18_below B3.out (Nat.le_refl _) n y⟩


end Go.Proofs.YtbamjhldebobhaaGreatDoor

namespace Go.Proofs.YtbamjhldebobhaaGreatDoor
open Go.RowKit Go.Sort

set_option maxHeartbeats 2000000 in
set_option maxRecDepth 100000 in
theorem impl_dreading (d : De) (g : Nat) (w : World) (h : DeAt w g d) (ht : TabSets w) (hn : proB d.n = true) : Calls Tryz.prog 127 #[.pointer (some ⟨g, 0, none⟩)] w fun e w' => e = .returned (rdV d.n (.map none) d.x (.slice none 0 0)) ∧ Below w.heap.size w w' := by
  have HG := Lib.hid (fun w ht => impl_guideOf d.n w ht hn)
  have HF := Lib.hid (fun w => impl_machineOf d.x w)
  unfold guV at HG
  unfold StDone stV at HF
  have B0 := Lib.hid (below_one w (.cells #[.int .i64 0, .string ⟨#[]⟩, .string ⟨#[]⟩, .slice none 0 0, .bool false, .bool false, .bool false, .bool false, .bool false, .map none, .int .i64 0, .int .i64 0, .int .i64 0, .int .i64 0, .int .i64 0, .int .i64 0, .int .i64 0, .slice none 0 0] 69))
  have S0 : Hid ((w.alloc (.cells #[.int .i64 0, .string ⟨#[]⟩, .string ⟨#[]⟩, .slice none 0 0, .bool false, .bool false, .bool false, .bool false, .bool false, .map none, .int .i64 0, .int .i64 0, .int .i64 0, .int .i64 0, .int .i64 0, .int .i64 0, .int .i64 0, .slice none 0 0] 69)).heap[w.heap.size]? = some (.cells #[.int .i64 0, .string ⟨#[]⟩, .string ⟨#[]⟩, .slice none 0 0, .bool false, .bool false, .bool false, .bool false, .bool false, .map none, .int .i64 0, .int .i64 0, .int .i64 0, .int .i64 0, .int .i64 0, .int .i64 0, .int .i64 0, .slice none 0 0] 69)) := Lib.hid (heap_alloc_new _ _)
  have HD := Lib.hid h
  have HT := Lib.hid ht
  clear h ht hn
  unfold rdV
  go_enter Tryz.func127, Tryz.ntmps127
  go_wp2_with fail
  generalize w.alloc (.cells #[.int .i64 0, .string ⟨#[]⟩, .string ⟨#[]⟩, .slice none 0 0, .bool false, .bool false, .bool false, .bool false, .bool false, .map none, .int .i64 0, .int .i64 0, .int .i64 0, .int .i64 0, .int .i64 0, .int .i64 0, .int .i64 0, .slice none 0 0] 69) = W at *
  have hS : (fun W' : World => Below w.heap.size w W') W.drew := below_drewN B0.out 1
  refine wp_region_held (S := (fun W' : World => Below w.heap.size w W')) (by kernel_rfl) ?_
  refine wpAnyH_take (i := 0) (v := .pointer (some ⟨g, 0, none⟩)) rfl (by kernel_rfl) (by kernel_rfl) (by kernel_rfl) (fun _ _ _ h => h) (.inl ⟨by rfl, fun w' hS' => by go_simp⟩) hS ?_
  refine wpAnyH_take (i := 1) (v := .pointer (some ⟨g, 0, none⟩)) rfl (by kernel_rfl) (by kernel_rfl) (by kernel_rfl) (fun _ _ _ h => h) (.inl ⟨by rfl, fun w' hS' => by go_simp⟩) hS ?_
  refine wpAnyH_take (i := 2) (v := .pointer (some ⟨g, 0, none⟩)) rfl (by kernel_rfl) (by kernel_rfl) (by kernel_rfl) (fun _ _ _ h => h) (.inl ⟨by rfl, fun w' hS' => by go_simp⟩) hS ?_
  refine wpAnyH_take (i := 3) (v := .int .i64 d.n) rfl (by kernel_rfl) (by kernel_rfl) (by kernel_rfl) (fun _ _ _ h => h) (.inl ⟨by rfl, fun w' hS' => by have s0 := (HD.out.keep hS').cells.1; go_simp⟩) hS ?_
  refine wpAnyH_take (i := 5) (v := .pointer (some ⟨g, 0, none⟩)) rfl (by kernel_rfl) (by kernel_rfl) (by kernel_rfl) (fun _ _ _ h => h) (.inl ⟨by rfl, fun w' hS' => by go_simp⟩) hS ?_
  refine wpAnyH_take (i := 6) (v := .pointer (some ⟨g, 0, none⟩)) rfl (by kernel_rfl) (by kernel_rfl) (by kernel_rfl) (fun _ _ _ h => h) (.inl ⟨by rfl, fun w' hS' => by go_simp⟩) hS ?_
  refine wpAnyH_take (i := 7) (v := .pointer (some ⟨g, 3, none⟩)) rfl (by kernel_rfl) (by kernel_rfl) (by kernel_rfl) (fun _ _ _ h => h) (.inl ⟨by rfl, fun w' hS' => by go_simp⟩) hS ?_
  refine wpAnyH_take (i := 8) (v := .agg #[.int .i64 d.x.g0, .int .i64 d.x.g1, .int .i64 d.x.g2, .int .i64 d.x.g3, .int .i64 d.x.l, .int .i64 d.x.s, .int .i64 d.x.d]) rfl (by kernel_rfl) (by kernel_rfl) (by kernel_rfl) (fun _ _ _ h => h) (.inl ⟨by rfl, fun w' hS' => by have ⟨_, _, _, s3, s4, s5, s6, s7, s8, s9, _, _, _⟩ := (HD.out.keep hS').cells; go_simp⟩) hS ?_
  refine wpAnyH_ready (rs := [4]) (by kernel_rfl) (by simp) (AllReadyH.cons rfl (fun K hK => ?_) AllReadyH.nil)
  clear hS
  go_simp
  refine (HG.out W.drew (HT.out.keep (below_drewN B0.out 1))).mono ?_
  rintro e w1 ⟨rfl, b1⟩
  have B1 : Below w.heap.size w w1 := B0.out.trans ((bel_drew b1).mono B0.out.size)
  have S1 := Lib.hid (((bel_drew b1).block _ (Array.getElem?_eq_some_iff.1 S0.out).1).trans S0.out)
  refine hK.out _ _ B1 (fun _ => ?_)
  clear hK K b1
  refine wpAnyH_ready (rs := [9]) (by kernel_rfl) (by simp) (AllReadyH.cons rfl (fun K hK => ?_) AllReadyH.nil)
  go_simp
  refine (HF.out w1).mono ?_
  rintro e w2 ⟨rfl, b2⟩
  have B2 := Lib.hid (B1.trans (b2.mono B1.size))
  have S2 := Lib.hid ((b2.block _ (Array.getElem?_eq_some_iff.1 S1.out).1).trans S1.out)
  refine hK.out _ _ B2.out (fun _ => ?_)
  clear hK K b2
  have hS : (fun W' : World => Below w.heap.size w W') w2 := B2.out
  refine wpAnyH_take (i := 10) (v := .agg #[.int .i64 d.n, .string (prName d.n), .string (prHead d.n), .slice none 0 0, .bool (prRight d.n), .bool (prShifts d.n), .bool (prSingle d.n), .bool (prReset d.n), .bool (prClear d.n), .map none, .int .i64 d.x.g0, .int .i64 d.x.g1, .int .i64 d.x.g2, .int .i64 d.x.g3, .int .i64 d.x.l, .int .i64 d.x.s, .int .i64 d.x.d, .slice none 0 0]) rfl (by kernel_rfl) (by kernel_rfl) (by kernel_rfl) (fun _ _ _ h => h) (.inl ⟨by rfl, fun w' hS' => by go_simp⟩) hS ?_
  refine wpAnyH_ready (rs := [11]) (by kernel_rfl) (by simp) (AllReadyH.cons rfl (fun K hK => ?_) AllReadyH.nil)
  have ⟨c0, c1, c2, c3, c4, c5, c6, c7, c8, c9, c10, c11, c12, c13, c14, c15, c16, c17⟩ := row18_cells S2.out
  have ⟨f0, f1, f2, f3, f4, f5, f6, f7, f8, f9, f10, f11, f12, f13, f14, f15, f16, f17⟩ := row18_thaw S2.out
  have hl3 : w.heap.size < w2.heap.size := (Array.getElem?_eq_some_iff.1 S2.out).1
  clear hS
  go_simp
  refine hK.out _ _ (put18_below B2.out (Nat.le_refl _) d.n d.x) (fun _ => ?_)
  refine wpAnyH_done (by kernel_rfl) ?_ _
  clear hK K c0 c1 c2 c3 c4 c5 c6 c7 c8 c9 c10 c11 c12 c13 c14 c15 c16 c17 f0 f1 f2 f3 f4 f5 f6 f7 f8 f9 f10 f11 f12 f13 f14 f15 f16 f17
  go_wp2
  exact bodyPost_ret (results_cell_row rfl _ _ w.heap.size _ _ _ _ rfl (put18_row d.n d.x S2.out) Tryz.underlying69 rfl (by kernel_rfl)) rfl ⟨rfl, put18_below B2.out (Nat.le_refl _) d.n d.x⟩

end Go.Proofs.YtbamjhldebobhaaGreatDoor

namespace Go.Proofs.YtbamjhldebobhaaGreatDoor
open Go Go.RowKit

variable {P : Program} {ops : Array Oper} {Q : Exit → Act → World → Prop} {md : Region.Mode} {S : World → Prop} {L : Nat}

/-- Whatever order is picked; S holds behind every operation but number L. -/
def wpAnyX (P : Program) (md : Region.Mode) (ops : Array Oper) (Q : Exit → Act → World → Prop) (S : World → Prop) (L : Nat) : Nat → Array Bool → Act → World → Prop
  | 0, listed, a, w => Region.ready md ops listed = [] ∧ Q .normal a w
  | fuel + 1, listed, a, w =>
    (Region.ready md ops listed = [] → Q .normal a w) ∧
    ∀ i ∈ Region.ready md ops listed, wpOp P ops Q i (fun a' w' => (i ≠ L → S w') ∧ wpAnyX P md ops Q S L fuel (listed.setIfInBounds i true) a' w') a w

theorem wpAny_of_X : ∀ (fuel : Nat) (listed : Array Bool) (a : Act) (w : World), wpAnyX P md ops Q S L fuel listed a w → wpAny P md ops Q fuel listed a w
  | 0, _, _, _, h => h
  | fuel + 1, _, _, _, h => ⟨h.1, fun i hi => wpOp_mono (fun a' w' h' => wpAny_of_X fuel _ a' w' h'.2) (h.2 i hi)⟩

/-- Operation L waits for operation i. -/
def waitsB (md : Region.Mode) (ops : Array Oper) (L i : Nat) : Bool := match ops[L]? with | some o => o.after.any (fun e => Region.binds md e && decide (e.on = i)) | none => false
theorem waits_not {i j : Nat} {listed : Array Bool} (hw : waitsB md ops L i = true) (hi : listed.getD i true = false) (hj : j ∈ Region.ready md ops listed) : j ≠ L := by
  intro e
  subst e
  obtain ⟨_, oj, hoj, hall⟩ := mem_ready.1 hj
  unfold waitsB at hw
  rw [hoj] at hw
  obtain ⟨e, he, h2⟩ := Array.any_eq_true'.1 hw
  rw [Bool.and_eq_true, decide_eq_true_eq] at h2
  have h1 := hall e he h2.1
  rw [h2.2] at h1
  rcases Nat.lt_or_ge i listed.size with h' | h'
  · simp [h'] at hi h1; rw [hi] at h1; cases h1
  · simp [Array.getElem?_eq_none h'] at h1

theorem wpAnyX_first {i : Nat} {oi : Oper} {v : Value} (hi : ops[i]? = some oi) (hsel : ∀ (j : Nat) (o : Oper) cs b, ops[j]? = some o → o.op ≠ .select cs b)
    (hQ : ∀ c a w, Q (.panic c) (a.put oi.dst v) w → Q (.panic c) a w) (hwt : waitsB md ops L i = true) :
    ∀ (fuel : Nat) (listed : Array Bool) (a : Act) (w : World),
      (∀ j oj, ops[j]? = some oj → j ≠ i → listed.getD j true = false → (∀ e ∈ oj.after, Region.binds md e = true → e.on ≠ i) → oi.apart ops oj = true) →
      i ∈ Region.ready md ops listed → YieldsIf P ops S oi v a → S w →
      wpAnyX P md ops Q S L fuel (listed.setIfInBounds i true) (a.put oi.dst v) w → wpAnyX P md ops Q S L (fuel + 1) listed a w := by
  intro fuel
  induction fuel with
  | zero =>
    intro listed a w _ hr hy hS H
    refine ⟨fun h => (by rw [h] at hr; cases hr), fun j hj => ?_⟩
    by_cases hji : j = i
    · subst hji; exact hy.wpOp hi hS ⟨fun _ => hS, H⟩
    · have := ready_mono hj hji
      rw [H.1] at this
      cases this
  | succ fuel ih =>
    intro listed a w hfree hr hy hS H
    refine ⟨fun h => (by rw [h] at hr; cases hr), fun j hj => ?_⟩
    by_cases hji : j = i
    · subst hji; exact hy.wpOp hi hS ⟨fun _ => hS, H⟩
    · have h1 := H.2 j (ready_mono hj hji)
      have hjL : j ≠ L := waits_not hwt (mem_ready.1 hr).1 hj
      obtain ⟨hjun, oj, hoj, hall⟩ := mem_ready.1 hj
      have hnot : ∀ e ∈ oj.after, Region.binds md e = true → e.on ≠ i := fun e he hb heq => by
        have h1 := hall e he hb
        have h0 := (mem_ready.1 hr).1
        rw [heq] at h1
        rcases Nat.lt_or_ge i listed.size with h' | h'
        · simp [h'] at h0 h1; rw [h0] at h1; cases h1
        · simp [Array.getElem?_eq_none h'] at h1
      have h2 := wpOp_putIf hoj (hfree j oj hoj hji hjun hnot) (fun cs b => hsel i oi cs b hi) (fun cs b => hsel j oj cs b hoj) hQ hy h1
      have hfree' : ∀ k ok, ops[k]? = some ok → k ≠ i → (listed.setIfInBounds j true).getD k true = false →
          (∀ e ∈ ok.after, Region.binds md e = true → e.on ≠ i) → oi.apart ops ok = true := fun k ok hk hki hun hno => by
        refine hfree k ok hk hki ?_ hno
        by_cases hjk : j = k
        · subst hjk; exact hjun
        · rw [getD_set_ne true hjk] at hun; exact hun
      refine wpOp_mono (fun a' w' h3 => ⟨h3.2.1, ih (listed.setIfInBounds j true) a' w' hfree' (ready_mono hr (Ne.symm hji)) h3.1 (h3.2.1 hjL) ?_⟩) h2
      rw [Array.setIfInBounds_comm _ _ hji]
      exact h3.2.2

theorem wpAnyX_take {i : Nat} {oi : Oper} {v : Value} {fuel : Nat} {listed : Array Bool} {a : Act} {w : World} (hi : ops[i]? = some oi)
    (hs : Region.noSelect ops = true) (hf : Region.free md ops listed i = true) (hr : (Region.ready md ops listed).contains i = true) (hwt : waitsB md ops L i = true)
    (hQ : ∀ c a w, Q (.panic c) (a.put oi.dst v) w → Q (.panic c) a w) (hy : YieldsIf P ops S oi v a) (hS : S w)
    (h : wpAnyX P md ops Q S L fuel (listed.setIfInBounds i true) (a.put oi.dst v) w) : wpAnyX P md ops Q S L (fuel + 1) listed a w :=
  wpAnyX_first hi (Region.noSelect_spec hs) hQ hwt fuel listed a w (Region.free_spec hi hf) (by simpa using hr) hy hS h

/-- The one operation that may come up comes up. -/
theorem wpAnyX_one {i : Nat} {o : Oper} {fuel : Nat} {listed : Array Bool} {a : Act} {w : World} (hr : Region.ready md ops listed = [i]) (ho : ops[i]? = some o)
    (h : ∀ K' : Act → World → Prop, Shut (∀ a w, (i ≠ L → S w) → ((i ≠ L → S w) → wpAnyX P md ops Q S L fuel (listed.setIfInBounds i true) a w) → K' a w) → if Region.wanted o (yielded ops a.tmps) = true then Oper.wp P o a w K' Q else K' (a.put o.dst undef) w) :
    wpAnyX P md ops Q S L (fuel + 1) listed a w :=
  ⟨fun h0 => (by rw [hr] at h0; cases h0), fun j hj => (by
    rw [hr] at hj
    obtain rfl : j = i := by simpa using hj
    exact wpOp_step ho (fun K' hK => h K' (fun a w hS hW => hK a w ⟨hS, hW hS⟩)))⟩

theorem wpAnyX_done {listed : Array Bool} {a : Act} {w : World} (hr : Region.ready md ops listed = []) (h : Q .normal a w) :
    ∀ fuel, wpAnyX P md ops Q S L fuel listed a w
  | 0 => ⟨hr, h⟩
  | _ + 1 => ⟨fun _ => h, by rw [hr]; simp⟩

theorem region_round_X {l id : Nat} {a : Act} {w : World} (hm : P.follows .mixedOrders = true) (hd : noDefer ops = true) (hQ : ¬ LetsOut Q)
    (h : wpAnyX P .any ops Q S L ops.size (Array.replicate ops.size false) a w.drew) : (Code.region id ops true).wpIn (Fence.wide.inRound l) 0 P Q a w :=
  region_round_any hm hd hQ (wpAny_of_X _ _ _ _ h)

end Go.Proofs.YtbamjhldebobhaaGreatDoor

namespace Go.Proofs.YtbamjhldebobhaaGreatDoor
open Go.RowKit Go.Sort

/-- What a step of the reading leaves. -/
def RsDone (n : Int) (x : St) (l : Value) (zs : List Int) (t : Tok) (b C : Nat) (w : World) (e : Ending) (w' : World) : Prop := e = .returned (.int .i64 (stepP n x t).c) ∧ ∃ l', RSt w' b C n (stepP n x t).y l' (addR zs (stepP n x t).r) ∧ Chg l.ownBlock b w w' ∧ ∀ g, l'.ownBlock = some g → l.ownBlock = some g ∨ w.heap.size ≤ g

set_option maxHeartbeats 4000000 in
set_option maxRecDepth 100000 in
theorem impl_rstep (n : Int) (x : St) (l : Value) (zs : List Int) (t : Tok) (b C : Nat) (w : World) (h : RSt w b C n x l zs) (hbC : b < C) (hC : C ≤ w.heap.size) (hT : ∀ W, Only b w W → TabM W) (hn : proB n = true) (hx : stOKB x = true) (hk : tokLP t) (hz : zs.length ≤ 1048576) :
    Calls Tryz.prog 79 #[.pointer (some ⟨b, 0, none⟩), tokV t] w (RsDone n x l zs t b C w) := by
  have B0 := Lib.hid (below_one w (.cells #[.int .i64 t.k, .int .i64 t.a, .int .i64 t.b, .int .i64 t.c, .int .i64 t.p, .int .i64 t.n] 102))
  have hbl : b < w.heap.size := h.lt
  have O0 := Lib.hid (only_below hbl B0.out)
  have K0 : Hid (TokAt (w.alloc (.cells #[.int .i64 t.k, .int .i64 t.a, .int .i64 t.b, .int .i64 t.c, .int .i64 t.p, .int .i64 t.n] 102)) w.heap.size t) := Lib.hid (heap_alloc_new _ _)
  have hs0 : (w.alloc (.cells #[.int .i64 t.k, .int .i64 t.a, .int .i64 t.b, .int .i64 t.c, .int .i64 t.p, .int .i64 t.n] 102)).heap.size = w.heap.size + 1 := by simp
  have hG := impl_gstepS n x l zs t b C (w.alloc (.cells #[.int .i64 t.k, .int .i64 t.a, .int .i64 t.b, .int .i64 t.c, .int .i64 t.p, .int .i64 t.n] 102)).drew (have hq : RSt (w.alloc (.cells #[.int .i64 t.k, .int .i64 t.a, .int .i64 t.b, .int .i64 t.c, .int .i64 t.p, .int .i64 t.n] 102)) b C n x l zs := h.keep B0.out hbC; hq) hbC (show C ≤ (w.alloc (.cells #[.int .i64 t.k, .int .i64 t.a, .int .i64 t.b, .int .i64 t.c, .int .i64 t.p, .int .i64 t.n] 102)).heap.size by omega) (fun W o => hT W (O0.out.trans ((show Only b (w.alloc (.cells #[.int .i64 t.k, .int .i64 t.a, .int .i64 t.b, .int .i64 t.c, .int .i64 t.p, .int .i64 t.n] 102)) (w.alloc (.cells #[.int .i64 t.k, .int .i64 t.a, .int .i64 t.b, .int .i64 t.c, .int .i64 t.p, .int .i64 t.n] 102)).drew from (Only.refl b _).drewN 1).trans o))) hn hx hk
  have hr := stepP_r (n := n) (x := x) hk
  have HLo := Lib.hid (fun g hg => (World.ownsRow.lt h.own g hg))
  unfold RsDone
  unfold mvV at hG
  obtain ⟨p, hp⟩ : ∃ p, stepP n x t = p := ⟨_, rfl⟩
  rw [hp] at hG hr ⊢
  obtain ⟨tr, htr⟩ : ∃ tr, toldR p = tr := ⟨_, rfl⟩
  obtain ⟨tb, htb⟩ : ∃ tb, toldB p = tb := ⟨_, rfl⟩
  rw [htr, htb] at hG
  have HG := Lib.hid hG
  clear h hT hG hx hk hn hp
  unfold tokV at HG ⊢
  go_enter Tryz.func79, Tryz.ntmps79
  go_wp2_with fail
  generalize w.alloc (.cells #[.int .i64 t.k, .int .i64 t.a, .int .i64 t.b, .int .i64 t.c, .int .i64 t.p, .int .i64 t.n] 102) = W at *
  have hSd : (fun W' : World => TokAt W' w.heap.size t) W.drew := K0.out
  have hS := hSd
  refine wp_region_held (S := (fun W' : World => TokAt W' w.heap.size t)) (by kernel_rfl) ?_
  refine wpAnyH_take (i := 0) (v := .pointer (some ⟨b, 0, none⟩)) rfl (by kernel_rfl) (by kernel_rfl) (by kernel_rfl) (fun _ _ _ h => h) (.inl ⟨by rfl, fun w' hS' => by go_simp⟩) hS ?_
  refine wpAnyH_take (i := 1) (v := .pointer (some ⟨b, 0, none⟩)) rfl (by kernel_rfl) (by kernel_rfl) (by kernel_rfl) (fun _ _ _ h => h) (.inl ⟨by rfl, fun w' hS' => by go_simp⟩) hS ?_
  refine wpAnyH_take (i := 2) (v := .pointer (some ⟨b, 0, none⟩)) rfl (by kernel_rfl) (by kernel_rfl) (by kernel_rfl) (fun _ _ _ h => h) (.inl ⟨by rfl, fun w' hS' => by go_simp⟩) hS ?_
  refine wpAnyH_take (i := 3) (v := .pointer (some ⟨b, 0, none⟩)) rfl (by kernel_rfl) (by kernel_rfl) (by kernel_rfl) (fun _ _ _ h => h) (.inl ⟨by rfl, fun w' hS' => by go_simp⟩) hS ?_
  refine wpAnyH_take (i := 4) (v := .pointer (some ⟨b, 0, none⟩)) rfl (by kernel_rfl) (by kernel_rfl) (by kernel_rfl) (fun _ _ _ h => h) (.inl ⟨by rfl, fun w' hS' => by go_simp⟩) hS ?_
  refine wpAnyH_take (i := 5) (v := .pointer (some ⟨b, 10, none⟩)) rfl (by kernel_rfl) (by kernel_rfl) (by kernel_rfl) (fun _ _ _ h => h) (.inl ⟨by rfl, fun w' hS' => by go_simp⟩) hS ?_
  refine wpAnyH_take (i := 6) (v := .agg #[.int .i64 t.k, .int .i64 t.a, .int .i64 t.b, .int .i64 t.c, .int .i64 t.p, .int .i64 t.n]) rfl (by kernel_rfl) (by kernel_rfl) (by kernel_rfl) (fun _ _ _ h => h) (.inl ⟨by rfl, fun w' hS' => by have ⟨t0, t1, t2, t3, t4, t5⟩ := TokAt.cells hS'; go_simp⟩) hS ?_
  refine wpAnyH_ready (rs := [7]) (by kernel_rfl) (by simp) (AllReadyH.cons rfl (fun K hK => ?_) AllReadyH.nil)
  clear hS hSd
  go_simp
  refine HG.out.mono ?_
  rintro e w1 ⟨rfl, hS1, o1⟩
  have o1' : Only b W w1 := (show Only b W W.drew from (Only.refl b W).drewN 1).trans o1
  have hX1 : TokAt w1 w.heap.size t := (o1'.2 _ (by omega) (by omega)).trans K0.out
  have hSS : (fun W' : World => TokAt W' w.heap.size t) w1 := hX1
  refine hK.out _ _ hSS (fun _ => ?_)
  clear hK K
  refine wpAnyH_take (i := 8) (v := .tuple #[.int .i64 tr, .bool tb, .int .i64 p.c]) rfl (by kernel_rfl) (by kernel_rfl) (by kernel_rfl) (fun _ _ _ h => h) (.inl ⟨by rfl, fun w' hS' => by go_simp⟩) hSS ?_
  refine wpAnyH_take (i := 9) (v := .int .i64 tr) rfl (by kernel_rfl) (by kernel_rfl) (by kernel_rfl) (fun _ _ _ h => h) (.inl ⟨by rfl, fun w' hS' => by go_simp⟩) hSS ?_
  refine wpAnyH_take (i := 10) (v := .bool tb) rfl (by kernel_rfl) (by kernel_rfl) (by kernel_rfl) (fun _ _ _ h => h) (.inl ⟨by rfl, fun w' hS' => by go_simp⟩) hSS ?_
  refine wpAnyH_take (i := 11) (v := .int .i64 p.c) rfl (by kernel_rfl) (by kernel_rfl) (by kernel_rfl) (fun _ _ _ h => h) (.inl ⟨by rfl, fun w' hS' => by go_simp⟩) hSS ?_
  refine wpAnyH_take (i := 12) (v := .int .i64 tr) rfl (by kernel_rfl) (by kernel_rfl) (by kernel_rfl) (fun _ _ _ h => h) (.inl ⟨by rfl, fun w' hS' => by go_simp⟩) hSS ?_
  refine wpAnyH_take (i := 13) (v := .bool tb) rfl (by kernel_rfl) (by kernel_rfl) (by kernel_rfl) (fun _ _ _ h => h) (.inl ⟨by rfl, fun w' hS' => by go_simp⟩) hSS ?_
  refine wpAnyH_take (i := 14) (v := .int .i64 p.c) rfl (by kernel_rfl) (by kernel_rfl) (by kernel_rfl) (fun _ _ _ h => h) (.inl ⟨by rfl, fun w' hS' => by go_simp⟩) hSS ?_
  refine wpAnyH_done (by kernel_rfl) ?_ _
  clear hSS hX1 HG
  have o1w : Only b w w1 := O0.out.trans o1'
  rcases hr with hr | hr
  · obtain rfl : tb = false := by rw [← htb, toldB, hr]; rfl
    have HE : Hid (addR zs p.r = zs) := Lib.hid (addR_none hr)
    have HC := Lib.hid (o1w.chg l.ownBlock)
    have HS := Lib.hid hS1
    clear htr htb hr hS1 o1 o1' o1w
    go_wp2
    go_ret
    exact ⟨rfl, l, by rw [HE.out]; exact HS.out, HC.out, fun g e => .inl e⟩
  · obtain rfl : tb = true := by rw [← htb, toldB, decide_eq_true hr]
    obtain rfl : tr = p.r := by rw [← htr, toldR, if_pos hr]
    have HE : Hid (addR zs p.r = zs ++ [p.r]) := Lib.hid (addR_some hr)
    obtain ⟨la, lc, hlf, _⟩ := hS1.own.shape
    have hb1 : b < w1.heap.size := hS1.lt
    have hC1 : C ≤ w1.heap.size := by have := o1w.1.size; omega
    have hw1 : w.heap.size ≤ w1.heap.size := o1w.1.size
    subst hlf
    have R2 := Lib.hid (hS1.keep (below_one w1 (.cells #[.int .i64 p.r] 3)) hbC)
    have hL2 : (w1.alloc (.cells #[.int .i64 p.r] 3)).heap[w1.heap.size]? = some (.cells #[.int .i64 p.r] 3) := heap_alloc_new w1 _
    have HC2 := Lib.hid ((o1w.trans (only_below hb1 (below_one w1 (.cells #[.int .i64 p.r] 3)))).chg (Value.slice la zs.length lc).ownBlock)
    have hs2 : (w1.alloc (.cells #[.int .i64 p.r] 3)).heap.size = w1.heap.size + 1 := by simp
    obtain ⟨m1, hm1, _⟩ := hS1
    have d17 : w1.cell? ⟨b, 17, none⟩ = some (.slice la zs.length lc) := hm1.cells.2.2.2.2.2.2.2.2.2
    clear htr htb hr o1 o1' o1w hm1
    go_wp2_with (at_builtin; refine app_i64x _ rfl _ _ rfl C _ zs rfl R2.out.own w1.heap.size 1 p.r rfl hL2 (by omega) (by omega) ?_)
    clear d17
    intro g2 cap2 w4 o4 g4 hg4
    obtain ⟨RA, cA⟩ := R2.out.app hbC o4 g4 (hg4.imp id (fun h => h.trans hs2.symm))
    have HRA := Lib.hid RA
    have HCA := Lib.hid (HC2.out.trans cA (fun g e => .inl e))
    have hg2 : Hid (∀ g, (Value.slice (some ⟨g2, 0, none⟩) (zs.length + 1) cap2).ownBlock = some g → (Value.slice la zs.length lc).ownBlock = some g ∨ w.heap.size ≤ g) := Lib.hid (fun g e => by
      have e' : g2 = g := by simpa [Value.ownBlock] using e
      subst e'
      exact hg4.imp id (fun h => by omega))
    obtain ⟨m2, hm2, _⟩ := R2.out
    have hm5 : RdAt w4 b n m2 p.y (.slice la zs.length lc) := (g4.block b hm2.lt (fun e => by have := (HLo.out b e.symm).1; omega)).trans hm2
    have d17 := hm5.cells.2.2.2.2.2.2.2.2.2
    have q17 := hm5.frozen 17
    have hl4 := hm5.lt
    clear o4 g4 hg4 RA cA hm2 hm5 R2
    go_wp2
    go_ret
    exact ⟨rfl, _, by rw [HE.out]; exact HRA.out, HCA.out, hg2.out⟩

end Go.Proofs.YtbamjhldebobhaaGreatDoor

namespace Go.Proofs.YtbamjhldebobhaaGreatDoor
open Go.RowKit Go.Shelf

attribute [local go_sem] Oper.semAt_some

theorem roundIn_any {P : Program} {n m l : Nat} {f : FuncId} {tmps : Array Value} {assign body : Code} {w : World} {R : Ending → World → Prop} (h : RoundIn Fence.wide n P l f tmps assign body w R) : RoundIn Fence.wide m P l f tmps assign body w R :=
  ⟨h.1, fun c cs _ => h.2 c cs (room_wide _)⟩

set_option maxHeartbeats 1000000 in
theorem impl_tokensIn (s : ByteArray) (w : World) : Calls Tryz.prog 78 #[.string s] w fun e w' => e = .returned (.func (.func 119) #[] #[.pointer (some ⟨w.heap.size, 0, none⟩)]) ∧ w' = w.alloc (.cells #[.string s] 9) := by
  have hmf : ∀ (fn : Fn) (first cap : Array Value) (w : World), (Instr.makeFunc fn first cap).run Tryz.prog w = .ok (.func fn first cap) w := fun _ _ _ _ => rfl
  go_enter Tryz.func78, Tryz.ntmps78
  go_wp2
  go_ret
  exact ⟨rfl, rfl⟩

set_option maxHeartbeats 2000000 in
set_option maxRecDepth 100000 in
theorem impl_tokensIn1 (s : ByteArray) (hs : s.size ≤ 1048576) (w : World) (Bt : Nat) (ht : w.heap[Bt]? = some (.cells #[.string s] 9)) : SeqIdx Tryz.prog 119 #[.pointer (some ⟨Bt, 0, none⟩)] (fun k => #[tokV (nextTok s k)]) (fun k => k + (nextTok s k).n.toNat) s.size w Bt := by
  intro l J Jp W hJ hT hY h0
  refine callsIn_wide.2 ((callsIn_wide (n := 9)).1 ?_)
  refine callsIn_of_wp (F := Fence.wide) Tryz.func119 rfl trivial ?_ rfl
  simp only [Tryz.ntmps119, List.size_toArray, List.length_cons, List.length_nil, Nat.reduceAdd, Nat.reduceSub, Array.replicate_succ, Array.replicate_zero, List.push_toArray, List.append_toArray, List.nil_append, List.cons_append]
  gi_wp2
  gi_loopw [3] (fun i wr => ∃ k : Nat, k ≤ s.size ∧ i = .int .i64 k ∧ J k wr) (fun i _ => s.size - (intOf i).toNat)
  case atStart => exact ⟨0, by omega, rfl, h0⟩
  case round =>
    obtain ⟨k, hk, rfl, hJk⟩ := hrel
    have cT : wr.cell? ⟨Bt, 0, none⟩ = some (.string s) := by
      have := (hT k wr hJk).trans ht
      rw [cell_of_row _ _ _ _ _ _ this]; rfl
    by_cases hlt : k < s.size
    · have v2 : (k : Int) < (s.size : Int) := by omega
      have HA := Lib.hid (fun w => impl_tokenAt s k w hlt hs)
      have n1 := (nextTok_in s k hlt).2.1
      have n2 := (nextTok_in s k hlt).2.2
      have HY := Lib.hid (fun A B => hY k A B hlt)
      unfold TokDone at HA
      generalize nextTok s k = y at *
      unfold tokV at HA HY
      have e5 : (k : Int) + y.n = ((k + y.n.toNat : Nat) : Int) := by omega
      have u1 : IntKind.i64.wrap ((k : Int) + y.n) = (k : Int) + y.n := IntWalk.i64_in _ (by omega)
      gi_wp2_with (refine ⟨trivial, ?_⟩; gi_at_call 120; refine (callsIn_wide.2 (HA.out _)).mono ?_; rintro e w1 ⟨rfl, b1⟩)
      have hb : Below wr.heap.size wr (w1.alloc (.cells #[.int .i64 y.k, .int .i64 y.a, .int .i64 y.b, .int .i64 y.c, .int .i64 y.p, .int .i64 y.n] 102)) := b1.alloc b1.size _
      have hK : Hid (TokAt (w1.alloc (.cells #[.int .i64 y.k, .int .i64 y.a, .int .i64 y.b, .int .i64 y.c, .int .i64 y.p, .int .i64 y.n] 102)) w1.heap.size y) := Lib.hid (TokAt.new w1 y)
      have ⟨t0, t1, t2, t3, t4, t5⟩ := hK.out.cells
      obtain ⟨fn, tmps, assign, body, hy, hR⟩ := HY.out wr _ hJk hb
      have hw : wr.heap.size ≤ w1.heap.size := b1.size
      gi_wp2
      rw [hy]
      refine ⟨fun _ => by decide, RoundIn.mono (roundIn_any hR) ?_⟩
      rintro e W3 (⟨rfl, hJ3, hk3⟩ | ⟨ch, rfl, hJp⟩)
      · have hK3 : TokAt W3 w1.heap.size y := hk3.2 _ _ hw hK.out
        clear t0 t1 t2 t3 t4 t5
        have ⟨t0, t1, t2, t3, t4, t5⟩ := hK3.cells
        gi_wp2
        go_roundw
        case rel => exact ⟨k + y.n.toNat, by omega, by simp, hJ3⟩
        case measure => simp [intOf]; omega
      · dsimp only [Exit.then, Exit.inBlock]
        exact ⟨rfl, .inr ⟨ch, rfl, hJp⟩⟩
    · have v2 : ¬ (k : Int) < (s.size : Int) := by omega
      obtain rfl : k = s.size := by omega
      gi_wp2
      go_end0
      exact .inl ⟨⟨_, rfl⟩, hJk⟩

end Go.Proofs.YtbamjhldebobhaaGreatDoor

namespace Go.Proofs.YtbamjhldebobhaaGreatDoor
open Go Go.RowKit

variable {P : Program}

/-- The word of an iterator over N values, where the yield may say no. -/
def SeqBrk (P : Program) (gf : Nat) (lb : Array Value) (enc : Nat → Array Value) (nx : Nat → Nat) (N : Nat) (w : World) (Bt : Nat) : Prop :=
  ∀ (l : Nat) (J : Nat → World → Prop) (Js : World → Prop) (W : World),
    (∀ k A B, J k A → Below A.heap.size A B → J k B) →
    (∀ k A, J k A → A.heap[Bt]? = w.heap[Bt]?) →
    (∀ k A B, k < N → J k A → Below A.heap.size A B → YieldAt Fence.wide 0 P l (enc k) B fun e B' =>
      (e = .returned (.bool true) ∧ J (nx k) B' ∧ Kept A.heap.size B B') ∨ (e = .returned (.bool false) ∧ Js B')) →
    J 0 W →
    CallsIn Fence.wide 0 P gf (#[.func (.yield l) #[] #[]] ++ lb) W fun e W' => ∃ v, e = .returned v ∧ (J N W' ∨ Js W')

/-- How the body of a round may be left. -/
def bodyPostB (I : Nat → World → Prop) (Is : Nat → World → Prop) (k N : Nat) (W : World) : Exit → Act → World → Prop
  | .normal, _, W' => I k W' ∧ Kept N W W' ∧ KeptL W W'
  | .exit id, _, W' => Is id W' ∧ KeptL W W'
  | _, _, _ => False
theorem letsOut_bodyB (I : Nat → World → Prop) (Is : Nat → World → Prop) (k N : Nat) (W : World) : ¬ LetsOut (bodyPostB I Is k N W) := fun ⟨_, _, h⟩ => h

/-- The jump that a round has left is what comes next. -/
theorem wpF_exit {f : FuncId} {id : Nat} {Q : Exit → Act → World → Prop} {a : Act} {w : World} (h : Q (.exit id) a w) : wpF f P (Code.exit id) Q a w :=
  fun _ k _ _ _ => ⟨.exit id, a, w, h, fun _ hk => .one (fenced_wide _ _) (stepR_exit hk), fun _ hk => ⟨k, hk, .refl _⟩⟩

/-- **The law.** -/
theorem wpF_rangeFuncB {f : FuncId} {g : Operand} {ps : Array Tmp} {assign body : Code} {Q : Exit → Act → World → Prop} {a : Act} {w : World}
    {gf : Nat} {lb : Array Value} (hg : a.eval g = .func (.func gf) #[] lb) (eg : ∀ args w, (callFunc gf args).run P w = .ok (.enter gf args) w)
    {enc : Nat → Array Value} {nx : Nat → Nat} {N : Nat} (hps : ∀ k, (enc k).size = ps.size) {Bt : Nat} (hseq : SeqBrk P gf lb enc nx N w Bt)
    (I : Nat → World → Prop) (Is : Nat → World → Prop) (Ax : Nat → Act → World → Prop)
    (hI : ∀ k A B, I k A → Gr w.heap.size A B → I k B) (hIs : ∀ k A B, Is k A → Gr w.heap.size A B → Is k B) (hAx : ∀ k a A B, Ax k a A → Gr w.heap.size A B → Ax k a B) (hIw : ∀ k A, I k A → A.heap[Bt]? = w.heap[Bt]?) (h0 : I 0 w)
    (hassign : ∀ (l k : Nat) (W : World) (K : Act → World → Prop), k < N → (∀ a₁ W₁, Below W.heap.size W W₁ → Ax k a₁ W₁ → K a₁ W₁) →
      assign.wpIn (Fence.wide.inRound l) 0 P (Exit.then K (fun _ _ _ => False)) { tmps := (ps.zip (enc k)).foldl (fun t (p, v) => t.setIfInBounds p v) a.tmps, defers := [] } W)
    (hbody : ∀ (l k : Nat) (a₁ : Act) (A W : World), k < N → I k A → Gr w.heap.size A W → Ax k a₁ W → body.wpIn (Fence.wide.inRound l) 0 P (bodyPostB I Is (nx k) A.heap.size W) a₁ W)
    (hdone : ∀ (D : Nat) (W : World), w.heap.size ≤ D → I N W → W.heap[D]? = some (.deferred (some [])) → Q .normal { a with defers := { target := .collected D, args := #[] } :: a.defers } W)
    (hstop : ∀ (D id : Nat) (W : World), w.heap.size ≤ D → Is id W → W.heap[D]? = some (.deferred (some [])) → Q (.exit id) { a with defers := { target := .collected D, args := #[] } :: a.defers } W) :
    wpF f P (Code.rangeFunc g ps assign body) Q a w := by
  intro b k cs hro hb
  obtain ⟨rec, hrec⟩ : ∃ rec : LoopState → Option Code → Loop, rec = fun st pe => { state := st, pending := pe, fn := f, tmps := a.tmps, params := ps, assign, body, defers := w.heap.size } := ⟨_, rfl⟩
  obtain ⟨W1, hW1⟩ : ∃ W1, (w.alloc (.deferred (some []))).alloc (.loop (rec .ready none)) = W1 := ⟨_, rfl⟩
  have hL1 : W1.heap[w.heap.size + 1]? = some (.loop (rec .ready none)) := by
    rw [← hW1]; have := World.alloc_heap_new (w.alloc (.deferred (some []))) (.loop (rec .ready none)); rwa [World.size_alloc] at this
  have hK1 : W1.heap[w.heap.size]? = some (.deferred (some [])) := by
    rw [← hW1]; exact (Below.heap_alloc _ _ _ (by simp)).trans (World.alloc_heap_new w _)
  have hb1 : Below w.heap.size w W1 := by
    rw [← hW1]; exact ((Below.refl _ w).alloc (Nat.le_refl _) _).alloc (by simp) _
  have hI1 : I 0 W1 := hI _ _ _ h0 (Gr.below hb1)
  -- the iterator's call
  have hcall : CallsIn Fence.wide 0 P gf (#[.func (.yield (w.heap.size + 1)) #[] #[]] ++ lb) W1 (fun e W' => ∃ v, e = .returned v ∧ ((I N W' ∧ W'.heap[w.heap.size + 1]? = some (.loop (rec .ready none)) ∧ W'.heap[w.heap.size]? = some (.deferred (some []))) ∨ (∃ id, Is id W' ∧ W'.heap[w.heap.size + 1]? = some (.loop (rec .done (some (.exit id)))) ∧ W'.heap[w.heap.size]? = some (.deferred (some []))))) := by
    refine hseq (w.heap.size + 1)
      (fun k W => I k W ∧ W.heap[w.heap.size + 1]? = some (.loop (rec .ready none)) ∧ W.heap[w.heap.size]? = some (.deferred (some [])))
      (fun W => ∃ id, Is id W ∧ W.heap[w.heap.size + 1]? = some (.loop (rec .done (some (.exit id)))) ∧ W.heap[w.heap.size]? = some (.deferred (some []))) W1 ?_ (fun k A h => hIw k A h.1) ?_ ⟨hI1, hL1, hK1⟩
    · rintro k A B ⟨hi, hl, hd⟩ hB
      exact ⟨hI _ _ _ hi (Gr.below hB), (hB.block _ (Array.getElem?_eq_some_iff.1 hl).1).trans hl, (hB.block _ (Array.getElem?_eq_some_iff.1 hd).1).trans hd⟩
    · rintro k A B hk ⟨hi, hl, hd⟩ hB
      have hl2 : B.heap[w.heap.size + 1]? = some (.loop (rec .ready none)) := (hB.block _ (Array.getElem?_eq_some_iff.1 hl).1).trans hl
      have hd2 : B.heap[w.heap.size]? = some (.deferred (some [])) := (hB.block _ (Array.getElem?_eq_some_iff.1 hd).1).trans hd
      have hlA : w.heap.size + 1 < A.heap.size := (Array.getElem?_eq_some_iff.1 hl).1
      have hy := run_yield (P := P) (args := enc k) hl2 (by rw [hrec]; exact hps k)
      rw [hrec] at hy
      refine ⟨f, _, assign, body, hy, roundIn_of_wpIn trivial ?_⟩
      refine hassign _ k B _ hk ?_
      intro a₁ B1 hB1 hax
      have hl3 : B1.heap[w.heap.size + 1]? = some (.loop (rec .ready none)) := (hB1.block _ (Array.getElem?_eq_some_iff.1 hl2).1).trans hl2
      have hd3 : B1.heap[w.heap.size]? = some (.deferred (some [])) := (hB1.block _ (Array.getElem?_eq_some_iff.1 hd2).1).trans hd2
      refine ⟨_, run_beginRound hl3 (by rw [hrec]), ?_⟩
      obtain ⟨B2, hB2⟩ : ∃ B2, B1.putObj (w.heap.size + 1) (.loop { rec .ready none with state := .busy }) = B2 := ⟨_, rfl⟩
      have g12 : Gr w.heap.size B1 B2 := by rw [← hB2]; exact Gr.put (by omega) hl3 _
      have hl4 : B2.heap[w.heap.size + 1]? = some (.loop { rec .ready none with state := .busy }) := by rw [← hB2]; exact World.putObj_heap_same (Array.getElem?_eq_some_iff.1 hl3).1
      have hd4 : B2.heap[w.heap.size]? = some (.deferred (some [])) := by rw [← hB2]; exact (World.putObj_heap_other (by omega)).trans hd3
      have k12 : Kept A.heap.size B1 B2 := ⟨g12.size, fun g o hN hg => by rw [← hB2]; exact (World.putObj_heap_other (by omega)).trans hg⟩
      have k01 : Kept A.heap.size B B1 := ⟨hB1.size, fun g o _ hg => (hB1.block g (Array.getElem?_eq_some_iff.1 hg).1).trans hg⟩
      have gAB : Gr w.heap.size A B2 := ((Gr.below hB).trans (Gr.below hB1)).trans g12
      rw [hB2]
      refine wpIn_mono (hbody _ k a₁ A B2 hk hi gAB (hAx _ _ _ _ hax g12)) ?_
      rintro e a3 W3 hp
      cases e with
      | normal =>
        obtain ⟨hi3, hk3, hkl3⟩ := hp
        have hl5 := hkl3 _ _ hl4 rfl (.inl rfl)
        have hd5 := hkl3 _ _ hd4 rfl (.inr ⟨_, rfl⟩)
        have hr := run_endRound (P := P) none hl5
        refine ⟨_, _, hr, .inl ⟨rfl, ⟨hI _ _ _ hi3 (Gr.put (by omega) hl5 _), ?_, ?_⟩, ?_⟩⟩
        · rw [World.putObj_heap_same (Array.getElem?_eq_some_iff.1 hl5).1, hrec]; rfl
        · exact (World.putObj_heap_other (by omega)).trans hd5
        · exact ((k01.trans k12).trans hk3).trans ⟨by simp [World.putObj], fun g o hN hg => (World.putObj_heap_other (by omega)).trans hg⟩
      | exit id =>
        obtain ⟨hi3, hkl3⟩ := hp
        have hl5 := hkl3 _ _ hl4 rfl (.inl rfl)
        have hd5 := hkl3 _ _ hd4 rfl (.inr ⟨_, rfl⟩)
        have hr := run_endRound (P := P) (some (.exit id)) hl5
        refine ⟨_, _, hr, .inr ⟨rfl, id, hIs _ _ _ hi3 (Gr.put (by omega) hl5 _), ?_, ?_⟩⟩
        · rw [World.putObj_heap_same (Array.getElem?_eq_some_iff.1 hl5).1, hrec]; rfl
        · exact (World.putObj_heap_other (by omega)).trans hd5
      | ret => exact hp.elim
      | panic ch => exact hp.elim
      | goto t => exact hp.elim
      | outgrown => exact hp.elim
  -- the statement's steps
  have he : (Instr.enterLoop b.fn a.tmps ps assign body b.roundOf).run P w = .ok (w.heap.size + 1, [{ target := .collected w.heap.size, args := #[] }]) W1 := by
    rw [hro, hb, ← hW1, hrec]; exact run_enterLoop_outer _ _ _ _ _
  have hres : (resolve a.eval (rangeCall g (w.heap.size + 1)) 0).run P W1 = .ok { target := .fn (.func gf) lb, args := #[.func (.yield (w.heap.size + 1)) #[] #[]] } W1 := by
    simp only [resolve, hg]
    simp [go_sem]
  have hinv : (invoke (.fn (.func gf) lb) #[.func (.yield (w.heap.size + 1)) #[] #[]]).run P W1 = .ok (.enter gf (#[.func (.yield (w.heap.size + 1)) #[] #[]] ++ lb)) W1 := by
    simp [invoke, go_sem, eg]
  have henter := stepR_rangeFunc (P := P) (b := b) (a := a) (k := k) (cs := cs) (w := w) he hres hinv
  obtain ⟨e, w₃, fr, hR, hsteps, hfn, hleave⟩ := hcall.2 (b.atR { a with defers := [{ target := .collected w.heap.size, args := #[] }] ++ a.defers } (.inRangeFunc (w.heap.size + 1) :: k) :: cs) (room_wide _)
  have h0 : ∀ m : Machine, m.fenced P Fence.wide := fun m => fenced_wide P m
  obtain ⟨v, rfl, hR⟩ := hR
  rcases hR with ⟨hi, hl, hd⟩ | ⟨id, hi, hl, hd⟩
  · have hend := run_endLoop (P := P) hl (by rw [hrec]; simp)
    have sback : StepsIn (Machine.fenced P Fence.wide) P (lone (b.atR a (.code (.rangeFunc g ps assign body) :: k)) cs w) (lone (b.atR { a with defers := [{ target := .collected w.heap.size, args := #[] }] ++ a.defers } (((rec .ready none).pending.map Item.code).toList ++ k)) cs (w₃.putObj (w.heap.size + 1) (.loop { rec .ready none with state := .exhausted }))) := by
      refine .head (h0 _) henter (StepsIn.trans hsteps (.head (h0 _) ?_ (.one (h0 _) (stepR_endRangeFunc hend))))
      rw [← finish_atR_inRangeFunc (w.heap.size + 1) v]; exact step_leave_returned hleave
    refine ⟨.normal, _, _, hdone w.heap.size (w₃.putObj (w.heap.size + 1) (.loop { rec .ready none with state := .exhausted })) (Nat.le_refl _) (hI _ _ _ hi (Gr.put (by omega) hl _)) ((World.putObj_heap_other (by omega)).trans hd), ?_⟩
    have hpend : ((rec .ready none).pending.map Item.code).toList ++ k = k := by rw [hrec]; rfl
    rw [hpend] at sback
    exact sback
  · have hend := run_endLoop (P := P) hl (by rw [hrec]; simp)
    have sback : StepsIn (Machine.fenced P Fence.wide) P (lone (b.atR a (.code (.rangeFunc g ps assign body) :: k)) cs w) (lone (b.atR { a with defers := [{ target := .collected w.heap.size, args := #[] }] ++ a.defers } (((rec .done (some (.exit id))).pending.map Item.code).toList ++ k)) cs (w₃.putObj (w.heap.size + 1) (.loop { rec .done (some (.exit id)) with state := .exhausted }))) := by
      refine .head (h0 _) henter (StepsIn.trans hsteps (.head (h0 _) ?_ (.one (h0 _) (stepR_endRangeFunc hend))))
      rw [← finish_atR_inRangeFunc (w.heap.size + 1) v]; exact step_leave_returned hleave
    have hpend : ((rec .done (some (.exit id))).pending.map Item.code).toList ++ k = .code (.exit id) :: k := by rw [hrec]; rfl
    rw [hpend] at sback
    obtain ⟨e', a'', w₅, hq, harr⟩ := wpF_exit (f := f) (P := P) (hstop w.heap.size id (w₃.putObj (w.heap.size + 1) (.loop { rec .done (some (.exit id)) with state := .exhausted })) (Nat.le_refl _) (hIs _ _ _ hi (Gr.put (by omega) hl _)) ((World.putObj_heap_other (by omega)).trans hd)) b k cs hro hb
    exact ⟨e', a'', w₅, hq, .of_steps sback harr⟩

end Go.Proofs.YtbamjhldebobhaaGreatDoor

namespace Go.Proofs.YtbamjhldebobhaaGreatDoor
open Go.RowKit Go.Shelf

attribute [local go_sem] Oper.semAt_some

set_option maxHeartbeats 2000000 in
set_option maxRecDepth 100000 in
theorem impl_tokensInB (s : ByteArray) (hs : s.size ≤ 1048576) (w : World) (Bt : Nat) (ht : w.heap[Bt]? = some (.cells #[.string s] 9)) : SeqBrk Tryz.prog 119 #[.pointer (some ⟨Bt, 0, none⟩)] (fun k => #[tokV (nextTok s k)]) (fun k => k + (nextTok s k).n.toNat) s.size w Bt := by
  intro l J Js W hJ hT hY h0
  refine callsIn_wide.2 ((callsIn_wide (n := 9)).1 ?_)
  refine callsIn_of_wp (F := Fence.wide) Tryz.func119 rfl trivial ?_ rfl
  simp only [Tryz.ntmps119, List.size_toArray, List.length_cons, List.length_nil, Nat.reduceAdd, Nat.reduceSub, Array.replicate_succ, Array.replicate_zero, List.push_toArray, List.append_toArray, List.nil_append, List.cons_append]
  gi_wp2
  gi_loopw [3] (fun i wr => ∃ k : Nat, k ≤ s.size ∧ i = .int .i64 k ∧ J k wr) (fun i _ => s.size - (intOf i).toNat)
  case atStart => exact ⟨0, by omega, rfl, h0⟩
  case round =>
    obtain ⟨k, hk, rfl, hJk⟩ := hrel
    have cT : wr.cell? ⟨Bt, 0, none⟩ = some (.string s) := by
      have := (hT k wr hJk).trans ht
      rw [cell_of_row _ _ _ _ _ _ this]; rfl
    by_cases hlt : k < s.size
    · have v2 : (k : Int) < (s.size : Int) := by omega
      have HA := Lib.hid (fun w => impl_tokenAt s k w hlt hs)
      have n1 := (nextTok_in s k hlt).2.1
      have n2 := (nextTok_in s k hlt).2.2
      have HY := Lib.hid (fun A B => hY k A B hlt)
      unfold TokDone at HA
      generalize nextTok s k = y at *
      unfold tokV at HA HY
      have e5 : (k : Int) + y.n = ((k + y.n.toNat : Nat) : Int) := by omega
      have u1 : IntKind.i64.wrap ((k : Int) + y.n) = (k : Int) + y.n := IntWalk.i64_in _ (by omega)
      gi_wp2_with (refine ⟨trivial, ?_⟩; gi_at_call 120; refine (callsIn_wide.2 (HA.out _)).mono ?_; rintro e w1 ⟨rfl, b1⟩)
      have hb : Below wr.heap.size wr (w1.alloc (.cells #[.int .i64 y.k, .int .i64 y.a, .int .i64 y.b, .int .i64 y.c, .int .i64 y.p, .int .i64 y.n] 102)) := b1.alloc b1.size _
      have hK : Hid (TokAt (w1.alloc (.cells #[.int .i64 y.k, .int .i64 y.a, .int .i64 y.b, .int .i64 y.c, .int .i64 y.p, .int .i64 y.n] 102)) w1.heap.size y) := Lib.hid (TokAt.new w1 y)
      have ⟨t0, t1, t2, t3, t4, t5⟩ := hK.out.cells
      obtain ⟨fn, tmps, assign, body, hy, hR⟩ := HY.out wr _ hJk hb
      have hw : wr.heap.size ≤ w1.heap.size := b1.size
      gi_wp2
      rw [hy]
      refine ⟨fun _ => by decide, RoundIn.mono (roundIn_any hR) ?_⟩
      rintro e W3 (⟨rfl, hJ3, hk3⟩ | ⟨rfl, hJs⟩)
      · have hK3 : TokAt W3 w1.heap.size y := hk3.2 _ _ hw hK.out
        clear t0 t1 t2 t3 t4 t5
        have ⟨t0, t1, t2, t3, t4, t5⟩ := hK3.cells
        gi_wp2
        go_roundw
        case rel => exact ⟨k + y.n.toNat, by omega, by simp, hJ3⟩
        case measure => simp [intOf]; omega
      · clear t0 t1 t2 t3 t4 t5
        gi_wp2
        exact bodyPost_ret (results_none rfl _ _ _) rfl ⟨_, rfl, .inr hJs⟩
    · have v2 : ¬ (k : Int) < (s.size : Int) := by omega
      obtain rfl : k = s.size := by omega
      gi_wp2
      go_end0
      exact ⟨⟨_, rfl⟩, .inl hJk⟩

end Go.Proofs.YtbamjhldebobhaaGreatDoor

namespace Go.Proofs.YtbamjhldebobhaaGreatDoor
open Go.RowKit Go.Shelf Go.Sort

/-- Only blocks of S have changed. -/
structure ChgX (S : Nat → Prop) (w w' : World) : Prop where
  os : w'.os = w.os
  tape : w'.tape = w.tape
  output : w'.output = w.output
  size : w.heap.size ≤ w'.heap.size
  block : ∀ i, ¬ S i → i < w.heap.size → w'.heap[i]? = w.heap[i]?
theorem ChgX.refl (S : Nat → Prop) (w : World) : ChgX S w w := ⟨rfl, rfl, rfl, Nat.le_refl _, fun _ _ _ => rfl⟩
theorem ChgX.trans {S : Nat → Prop} {w w1 w2 : World} (h : ChgX S w w1) (k : ChgX S w1 w2) : ChgX S w w2 :=
  ⟨k.os.trans h.os, k.tape.trans h.tape, k.output.trans h.output, Nat.le_trans h.size k.size, fun i hi hl => (k.block i hi (Nat.lt_of_lt_of_le hl h.size)).trans (h.block i hi hl)⟩
theorem ChgX.mono {S T : Nat → Prop} {w w' : World} (h : ChgX S w w') (hT : ∀ i, S i → i < w.heap.size → T i) : ChgX T w w' := ⟨h.os, h.tape, h.output, h.size, fun i hi hl => h.block i (fun hs => hi (hT i hs hl)) hl⟩
theorem ChgX.below {S : Nat → Prop} {w w' : World} (h : Below w.heap.size w w') : ChgX S w w' := ⟨h.os, h.tape, h.output, h.size, fun i _ hl => h.block i hl⟩
theorem ChgX.only {S : Nat → Prop} {b : Nat} {w w' : World} (h : Only b w w') (hb : S b) : ChgX S w w' := ⟨h.1.os, h.1.tape, h.1.output, h.1.size, fun i hi hl => h.2 i (fun e => hi (e ▸ hb)) hl⟩
theorem ChgX.chg {S : Nat → Prop} {r : Option Nat} {b : Nat} {w w' : World} (h : Chg r b w w') (hb : S b) (hr : ∀ i, r = some i → S i) : ChgX S w w' := ⟨h.1.os, h.1.tape, h.1.output, h.1.size, fun i hi hl => h.2 i (fun e => hi (e ▸ hb)) (fun e => hi (hr i e)) hl⟩
theorem ChgX.set {S : Nat → Prop} {w w' : World} (h : ChgX S w w') {g i : Nat} (hg : S g) (v : Value) : ChgX S w (w'.setCell ⟨g, i, none⟩ v) := h.trans (ChgX.only (Only.set g i w' v) hg)
theorem ChgX.toOnly {S : Nat → Prop} {g : Nat} {w w' : World} (h : ChgX S w w') (hg : g ≤ w.heap.size) (hS : ∀ i, S i → i < w.heap.size → i = g) : Only g w w' :=
  ⟨⟨h.os, h.tape, h.output, h.size, fun i hi => h.block i (fun hs => by have := hS i hs (by omega); omega) (by omega)⟩, fun i hi hl => h.block i (fun hs => hi (hS i hs hl)) hl⟩
theorem ChgX.kept {S : Nat → Prop} {N : Nat} {w w' : World} (h : ChgX S w w') (hS : ∀ i, S i → i < N) : Kept N w w' := ⟨h.size, fun i o hN hi => (h.block i (fun hs => by have := hS i hs; omega) (Array.getElem?_eq_some_iff.1 hi).1).trans hi⟩
theorem ChgX.keptL {S : Nat → Prop} {w w' : World} (h : ChgX S w w') (hS : ∀ i, S i → ∃ o, w.heap[i]? = some o ∧ o.isCells = true) : KeptL w w' := fun i o hi hc _ => (h.block i (fun hs => by
  obtain ⟨o', h1, h2⟩ := hS i hs
  rw [h1] at hi
  cases hi
  rw [h2] at hc
  cases hc) (Array.getElem?_eq_some_iff.1 hi).1).trans hi
theorem ChgX.gr {S : Nat → Prop} {N : Nat} {w A B : World} (h : ChgX S w A) (hg : Gr N A B) (hN : w.heap.size ≤ N) : ChgX S w B :=
  ⟨hg.os.trans h.os, hg.tape.trans h.tape, hg.output.trans h.output, Nat.le_trans h.size hg.size, fun i hi hl => by
    have hs : w.heap[i]? = some w.heap[i] := Array.getElem?_eq_getElem hl
    rw [hg.block i _ ((h.block i hi hl).trans hs) (.inr (by omega)), hs]⟩
theorem blk_gr {N : Nat} {A B : World} {i : Nat} {cs : Array Value} {t : TypeId} {fr : Nat × Nat} (h : A.heap[i]? = some (.cells cs t fr)) (hg : Gr N A B) : B.heap[i]? = some (.cells cs t fr) := hg.block _ _ h (.inl rfl)

/-- What a reading that has ended leaves. -/
def ReadIn (g b Cb C : Nat) (n : Int) (x0 : St) (bg : Bool) (q : Wr) (W : World) : Prop :=
  ∃ l, RSt W b C n q.x l q.z ∧ DeAt W g ⟨n, q.a, q.c, x0, q.r, bg, decide (q.c ≠ 0)⟩ ∧ W.heap[Cb]? = some (.cells #[.int .i64 q.c] 3)
/-- What holds between two rounds. -/
def ReadAt (g b Cb C : Nat) (n a : Int) (x : St) (s : ByteArray) (bg : Bool) (k : Nat) (W : World) : Prop :=
  ∃ (f : Nat) (a' : Int) (xs : St) (zs : List Int) (l : Value), (s.size ≤ k + f ∧ zs.length ≤ k ∧ k ≤ s.size ∧ 0 ≤ a' ∧ a' ≤ a + k) ∧ wrT n s s.size 0 a x [] = wrT n s f k a' xs zs ∧ stOKB xs = true ∧ RSt W b C n xs l zs ∧ DeAt W g ⟨n, a', 0, x, ⟨#[]⟩, bg, false⟩ ∧ W.heap[Cb]? = some (.cells #[.int .i64 0] 3)
theorem ReadAt.gr {g b Cb C N : Nat} {n a : Int} {x : St} {s : ByteArray} {bg : Bool} {k : Nat} {A B : World} (h : ReadAt g b Cb C n a x s bg k A) (hg : Gr N A B) : ReadAt g b Cb C n a x s bg k B := by
  obtain ⟨f, a', xs, zs, l, h1, h2, h3, h4, h5, h6⟩ := h
  exact ⟨f, a', xs, zs, l, h1, h2, h3, h4.gr hg, blk_gr h5 hg, blk_gr h6 hg⟩
theorem ReadIn.gr {g b Cb C N : Nat} {n : Int} {x0 : St} {bg : Bool} {q : Wr} {A B : World} (h : ReadIn g b Cb C n x0 bg q A) (hg : Gr N A B) : ReadIn g b Cb C n x0 bg q B := by
  obtain ⟨l, h4, h5, h6⟩ := h
  exact ⟨l, h4.gr hg, blk_gr h5 hg, blk_gr h6 hg⟩
theorem ReadAt.done {g b Cb C : Nat} {n a : Int} {x : St} {s : ByteArray} {bg : Bool} {W : World} (h : ReadAt g b Cb C n a x s bg s.size W) : ReadIn g b Cb C n x bg (wrT n s s.size 0 a x []) W := by
  obtain ⟨f, a', xs, zs, l, h1, h2, h3, h4, h5, h6⟩ := h
  have e : wrT n s f s.size a' xs zs = ⟨zs, a', 0, xs, ⟨#[]⟩⟩ := by
    cases f with
    | zero => rfl
    | succ f => rw [wrT, if_neg (Nat.lt_irrefl _)]; rfl
  rw [h2, e]
  exact ⟨l, h4, h5, h6⟩

/-- The blocks that a round writes, the list's own aside. -/
def S1 (g b c : Nat) (i : Nat) : Prop := i = g ∨ i = b ∨ i = c
theorem chg_new {g b c : Nat} {w A B : World} (h : Only g w A) (k : ChgX (S1 g b c) A B) (hb : w.heap.size ≤ b) (hc : w.heap.size ≤ c) : ChgX (fun i => i = g ∨ w.heap.size ≤ i) w B :=
  (ChgX.only h (.inl rfl)).trans (k.mono fun i hi _ => by
    rcases hi with rfl | rfl | rfl
    · exact .inl rfl
    · exact .inr hb
    · exact .inr hc)
theorem only3 {g b c : Nat} {w A B B' : World} (h : Only g w A) (k : ChgX (S1 g b c) A B) (o : Only b B B') (hb : w.heap.size ≤ b) (hc : w.heap.size ≤ c) (hg : g < w.heap.size) : Only g w B' :=
  ((chg_new h k hb hc).trans (ChgX.only o (.inr hb))).toOnly (by omega) (fun i hi hl => by
    rcases hi with h | h
    · exact h
    · omega)
theorem rst_moved {w w' : World} {b C : Nat} {n : Int} {x : St} {l : Value} {zs : List Int} (h : RSt w b C n x l zs) (hk : ∀ g o, (g = b ∨ C ≤ g) → w.heap[g]? = some o → w'.heap[g]? = some o) : RSt w' b C n x l zs := by
  obtain ⟨m, h1, h2, h3⟩ := h
  refine ⟨m, hk b _ (.inl rfl) h1, h2.imp id ?_, ?_⟩
  · rintro ⟨mb, h4, h5⟩
    exact ⟨mb, h4, fun w'' hw => h5 w'' fun g o hg hr hl ho => hw g o hg hr (hk g o (.inr hg) hl) ho⟩
  · refine ⟨h3.1, ?_⟩
    rcases h3.2 with h | ⟨g, cap, cur, a, b', c, d⟩
    · exact .inl h
    · exact .inr ⟨g, cap, cur, a, b', hk g _ (.inr b') c, d⟩

theorem blk_ne {c1 c2 : Array Value} {t1 t2 : TypeId} {f1 f2 : Nat × Nat} {p : Prop} (h : some (Obj.cells c1 t1 f1) = some (Obj.cells c2 t2 f2)) (hn : t1 ≠ t2) : p := by
  injection h with h
  injection h with _ h2 _
  exact absurd h2 hn

theorem Own.move7 {k : IntKind} {e : TypeId} {w w' : World} {B g : Nat} {v : Value} {zs : List Int} (h : Own k e w B v zs) (o : Only g w w') (hg : g < B) : Own k e w' B v zs := by
  refine ⟨h.1, ?_⟩
  rcases h.2 with h | ⟨j, cap, cur, a, b, c, d⟩
  · exact .inl h
  · exact .inr ⟨j, cap, cur, a, b, (o.2 j (by omega) (Array.getElem?_eq_some_iff.1 c).1).trans c, d⟩

/-- A statement that does not panic, and what follows it. -/
theorem wpF_seq_calm {P : Program} {f : FuncId} {x y : Code} {Q : Exit → Act → World → Prop} {a : Act} {w : World} (h : x.wp P (Exit.then (wpF f P y Q) (fun _ _ _ => False)) a w) : wpF f P (Code.seq x y) Q a w :=
  wpF_seq (wpF_of_wp (wp_mono h (fun e a w hq => by
    cases e with
    | normal => exact hq
    | _ => exact False.elim hq)))

end Go.Proofs.YtbamjhldebobhaaGreatDoor

namespace Go.Proofs.YtbamjhldebobhaaGreatDoor
open Go Go.RowKit

variable {P : Program} {ops : Array Oper} {Q : Exit → Act → World → Prop} {md : Region.Mode} {S : World → Prop}

/-- The one operation that may come up comes up. -/
theorem wpAnyH_one {i : Nat} {o : Oper} {fuel : Nat} {listed : Array Bool} {a : Act} {w : World} (hr : Region.ready md ops listed = [i]) (ho : ops[i]? = some o)
    (h : ∀ K' : Act → World → Prop, Shut (∀ a w, S w → (S w → wpAnyH P md ops Q S fuel (listed.setIfInBounds i true) a w) → K' a w) → if Region.wanted o (yielded ops a.tmps) = true then Oper.wp P o a w K' Q else K' (a.put o.dst undef) w) :
    wpAnyH P md ops Q S (fuel + 1) listed a w :=
  ⟨fun h0 => (by rw [hr] at h0; cases h0), fun j hj => (by
    rw [hr] at hj
    obtain rfl : j = i := by simpa using hj
    exact wpOp_step ho (fun K' hK => h K' (fun a w hS hW => hK a w ⟨hS, hW hS⟩)))⟩
theorem region_held_w {id : Nat} {a : Act} {w : World} (w2 : World) (hw : { w with drawn := w.drawn + 1 } = w2) (hm : P.follows .mixedOrders = true)
    (h : wpAnyH P .any ops Q S ops.size (Array.replicate ops.size false) a w2) : (Code.region id ops true).wp P Q a w := by
  subst hw
  exact wp_region_held hm h

end Go.Proofs.YtbamjhldebobhaaGreatDoor

namespace Go.Proofs.YtbamjhldebobhaaGreatDoor
open Go.RowKit

set_option maxHeartbeats 1000000 in
set_option maxRecDepth 100000 in
theorem impl_stateR {κ : RK} (x : St) (b : Nat) (w : World) (h : MRt κ w b x) : Calls Tryz.prog 128 #[.pointer (some ⟨b, 10, none⟩)] w (StDone x w) := by
  have B0 := below_drewN (below_one w (.cells #[.int .i64 0, .int .i64 0, .int .i64 0, .int .i64 0, .int .i64 0, .int .i64 0, .int .i64 0] 39)) 1
  have HM := Lib.hid (h.keep B0)
  have HS : Hid (StAt ((w.alloc (.cells #[.int .i64 0, .int .i64 0, .int .i64 0, .int .i64 0, .int .i64 0, .int .i64 0, .int .i64 0] 39)).drewN 1) w.heap.size zeroSt) := Lib.hid (stSlot0 w)
  clear h
  go_enter Tryz.func128, Tryz.ntmps128
  go_wp2
  refine still_tail_w 33 ((w.alloc (.cells #[.int .i64 0, .int .i64 0, .int .i64 0, .int .i64 0, .int .i64 0, .int .i64 0, .int .i64 0] 39)).drewN 1) rfl (by kernel_rfl) (by kernel_rfl) ?_
  generalize (w.alloc (.cells #[.int .i64 0, .int .i64 0, .int .i64 0, .int .i64 0, .int .i64 0, .int .i64 0, .int .i64 0] 39)).drewN 1 = W2 at *
  have ⟨y0, y1, y2, y3, y4, y5, y6⟩ := HM.out.cells
  have ⟨r0, r1, r2, r3, r4, r5, r6⟩ := HS.out.cells
  have ⟨z0, z1, z2, z3, z4, z5, z6⟩ := HS.out.thaw
  simp only [zeroSt] at r0 r1 r2 r3 r4 r5 r6
  have hl : w.heap.size < W2.heap.size := HS.out.lt
  simp only [List.take_succ_cons, List.take_zero, List.drop_succ_cons, List.drop_zero]
  repeat still_step
  refine wpStill_nil ?_
  go_wp2
  exact st_ret (y := x) rfl rfl rfl (HS.out.put x) Tryz.underlying39 rfl (by kernel_rfl) rfl (below_putSt B0 (Nat.le_refl _) x)

end Go.Proofs.YtbamjhldebobhaaGreatDoor

namespace Go.Proofs.YtbamjhldebobhaaGreatDoor
open Go.RowKit Go.Shelf Go.Sort

/-- What the program's read leaves. -/
def ReadDone (g : Nat) (n : Int) (bg : Bool) (q : Wr) (w : World) (e : Ending) (w' : World) : Prop := ∃ v, e = .returned (.tuple #[v, .int .i64 q.c]) ∧ Own .i64 3 w' w.heap.size v q.z ∧ DeAt w' g ⟨n, q.a, q.c, q.x, q.r, bg, decide (q.c ≠ 0)⟩ ∧ Only g w w'

set_option maxHeartbeats 8000000 in
set_option maxRecDepth 100000 in
theorem impl_dread (n a : Int) (x : St) (r : ByteArray) (bg : Bool) (g : Nat) (s : ByteArray) (w : World) (h : DeAt w g ⟨n, a, 0, x, r, bg, false⟩) (hT : ∀ W, Only g w W → TabM W) (hn : proB n = true) (hx : stOKB x = true) (hs : s.size ≤ 65540) (ha : 0 ≤ a) (ha2 : a ≤ 1000000000) :
    Calls Tryz.prog 92 #[.pointer (some ⟨g, 0, none⟩), .string s] w (ReadDone g n bg (wrT n s s.size 0 a x []) w) := by
  have HTk := Lib.hid (fun w => impl_tokensIn s w)
  have HRd := Lib.hid (fun w h ht => impl_dreading ⟨n, a, 0, x, r, bg, false⟩ g w h ht hn)
  dsimp only at HRd
  refine calls_of_wpF Tryz.func92 rfl ?_
  simp only [Tryz.ntmps92, List.size_toArray, List.length_cons, List.length_nil, Nat.reduceAdd, Nat.reduceSub, Array.replicate_succ, Array.replicate_zero, List.push_toArray, List.append_toArray, List.nil_append, List.cons_append]
  have hgl : g < w.heap.size := h.lt
  have X2 : Hid (((w.alloc (.cells #[.pointer (some ⟨g, 0, none⟩)] 125)).alloc (.cells #[.string s] 9)).heap[w.heap.size]? = some (.cells #[.pointer (some ⟨g, 0, none⟩)] 125)) := Lib.hid (heap_alloc2_old _ _ _)
  have X3 : Hid (((w.alloc (.cells #[.pointer (some ⟨g, 0, none⟩)] 125)).alloc (.cells #[.string s] 9)).heap[w.heap.size + 1]? = some (.cells #[.string s] 9)) := Lib.hid (heap_alloc2_new _ _ _)
  have HsB : Hid (((w.alloc (.cells #[.pointer (some ⟨g, 0, none⟩)] 125)).alloc (.cells #[.string s] 9)).heap.size = w.heap.size + 2) := Lib.hid (by simp)
  have B0 := Lib.hid (below_two w (.cells #[.pointer (some ⟨g, 0, none⟩)] 125) (.cells #[.string s] 9))
  have D0 := Lib.hid (h.keep B0.out)
  clear h
  refine wpF_seq (wpF_of_wp ?_)
  go_wp2
  generalize ((w.alloc (.cells #[.pointer (some ⟨g, 0, none⟩)] 125)).alloc (.cells #[.string s] 9)) = WA at *
  have c2 : WA.cell? ⟨w.heap.size, 0, none⟩ = some (.pointer (some ⟨g, 0, none⟩)) := by rw [cell_of_row _ _ _ _ _ _ X2.out]; rfl
  refine wpF_seq (wpF_of_wp ?_)
  go_wp2_with fail
  refine (HRd.out _ D0.out (hT _ (only_below hgl B0.out)).1).mono ?_
  rintro e w1 ⟨rfl, b1⟩
  unfold rdV
  have hs1 : w.heap.size + 2 ≤ w1.heap.size := by have := b1.size; rw [HsB.out] at this; exact this
  have R2 : Hid (RdAt (w1.alloc (.cells #[.int .i64 n, .string (prName n), .string (prHead n), .slice none 0 0, .bool (prRight n), .bool (prShifts n), .bool (prSingle n), .bool (prReset n), .bool (prClear n), (.map none), .int .i64 x.g0, .int .i64 x.g1, .int .i64 x.g2, .int .i64 x.g3, .int .i64 x.l, .int .i64 x.s, .int .i64 x.d, (.slice none 0 0)] 69)) w1.heap.size n (.map none) x (.slice none 0 0)) := Lib.hid (heap_alloc_new _ _)
  have bb := b1.alloc b1.size (.cells #[.int .i64 n, .string (prName n), .string (prHead n), .slice none 0 0, .bool (prRight n), .bool (prShifts n), .bool (prSingle n), .bool (prReset n), .bool (prClear n), (.map none), .int .i64 x.g0, .int .i64 x.g1, .int .i64 x.g2, .int .i64 x.g3, .int .i64 x.l, .int .i64 x.s, .int .i64 x.d, (.slice none 0 0)] 69)
  have D2 := Lib.hid (D0.out.keep bb)
  have Y2 := Lib.hid ((bb.block _ (by rw [HsB.out]; omega)).trans X2.out)
  have Y3 := Lib.hid ((bb.block _ (by rw [HsB.out]; omega)).trans X3.out)
  have B2 := Lib.hid (B0.out.trans (bb.mono B0.out.size))
  clear bb b1 c2
  go_wp2
  generalize hW2 : w1.alloc (.cells #[.int .i64 n, .string (prName n), .string (prHead n), .slice none 0 0, .bool (prRight n), .bool (prShifts n), .bool (prSingle n), .bool (prReset n), .bool (prClear n), (.map none), .int .i64 x.g0, .int .i64 x.g1, .int .i64 x.g2, .int .i64 x.g3, .int .i64 x.l, .int .i64 x.s, .int .i64 x.d, (.slice none 0 0)] 69) = W2 at *
  have hbW : w1.heap.size < W2.heap.size := R2.out.lt
  generalize hb : w1.heap.size = b at *
  clear hW2 hb
  -- the bytes that waited are gone
  have c2 : W2.cell? ⟨w.heap.size, 0, none⟩ = some (.pointer (some ⟨g, 0, none⟩)) := by rw [cell_of_row _ _ _ _ _ _ Y2.out]; rfl
  have ⟨_, _, _, _, _, _, _, _, _, _, d10, _, _⟩ := deCells D2.out
  have ⟨_, _, _, _, _, _, _, _, _, _, z10, _, _⟩ := D2.out.thaw
  have hgl2 := D2.out.lt
  refine wpF_seq (wpF_of_wp ?_)
  go_wp2
  have D3 := Lib.hid (D2.out.set10 ⟨#[]⟩)
  have o3 : Only g W2 (W2.setCell ⟨g, 10, none⟩ (.string ⟨#[]⟩)) := Only.set g 10 _ _
  have R3 : Hid (RdAt (W2.setCell ⟨g, 10, none⟩ (.string ⟨#[]⟩)) b n (.map none) x (.slice none 0 0)) := Lib.hid ((o3.2 _ (by omega) hbW).trans R2.out)
  have Y23 := Lib.hid ((o3.2 w.heap.size (by omega) (by omega)).trans Y2.out)
  have Y33 := Lib.hid ((o3.2 (w.heap.size + 1) (by omega) (by omega)).trans Y3.out)
  have B3 : Hid (Only g w (W2.setCell ⟨g, 10, none⟩ (.string ⟨#[]⟩))) := Lib.hid ((only_below hgl B2.out).trans o3)
  have hs3 : (W2.setCell ⟨g, 10, none⟩ (.string ⟨#[]⟩)).heap.size = W2.heap.size := by simp
  clear c2 d10 z10 o3 D2 R2 Y2 Y3 B2
  generalize W2.setCell ⟨g, 10, none⟩ (.string ⟨#[]⟩) = W3 at *
  refine wpF_seq (wpF_of_wp ?_)
  go_wp2
  have bo := below_two W3 (.cells #[.int .i64 0] 3) (.cells #[.string s] 9)
  have K5 : Hid (((W3.alloc (.cells #[.int .i64 0] 3)).alloc (.cells #[.string s] 9)).heap[W3.heap.size]? = some (.cells #[.int .i64 0] 3)) := Lib.hid (heap_alloc2_old _ _ _)
  have T5 : Hid (((W3.alloc (.cells #[.int .i64 0] 3)).alloc (.cells #[.string s] 9)).heap[W3.heap.size + 1]? = some (.cells #[.string s] 9)) := Lib.hid (heap_alloc2_new _ _ _)
  have D5 := Lib.hid (D3.out.keep bo)
  have R5 := Lib.hid (R3.out.keep bo)
  have Y25 := Lib.hid ((bo.block w.heap.size (by omega)).trans Y23.out)
  have Y35 := Lib.hid ((bo.block (w.heap.size + 1) (by omega)).trans Y33.out)
  have B5 := Lib.hid (B3.out.trans (only_below (by omega) bo))
  have hs5 : ((W3.alloc (.cells #[.int .i64 0] 3)).alloc (.cells #[.string s] 9)).heap.size = W3.heap.size + 2 := by simp
  have c3 : (W3.alloc (.cells #[.int .i64 0] 3)).cell? ⟨w.heap.size + 1, 0, none⟩ = some (.string s) := by
    rw [cell_of_row _ _ _ _ _ _ (((below_one W3 (.cells #[.int .i64 0] 3)).block (w.heap.size + 1) (by omega)).trans Y33.out)]; rfl
  clear bo D3 R3 Y23 Y33 B3
  refine wpF_seq ?_
  refine wpF_seq (wpF_of_wp ?_)
  go_wp2_with fail
  refine (HTk.out _).mono ?_
  rintro e W5 ⟨rfl, rfl⟩
  clear c3
  go_wp2
  generalize ((W3.alloc (.cells #[.int .i64 0] 3)).alloc (.cells #[.string s] 9)) = WB at *
  refine wpF_block ?_
  have hKb : W2.heap.size ≠ b := by omega
  have hKg : W2.heap.size ≠ g := by omega
  have hbg : b ≠ g := by omega
  have hs5' : WB.heap.size = W2.heap.size + 2 := by omega
  have HQ : Hid (wrT n s s.size 0 a x [] = wrT n s s.size 0 a x []) := Lib.hid rfl
  have I0 : ReadAt g b W2.heap.size (W2.heap.size + 2) n a x s bg 0 WB ∧ ChgX (S1 g b W2.heap.size) WB WB :=
    ⟨⟨s.size, a, x, [], .slice none 0 0, ⟨by omega, by simp, by omega, ha, by omega⟩, rfl, hx, ⟨_, R5.out, .inl rfl, Own.nil _ _ _ _⟩, D5.out, (by have := K5.out; rw [hs3] at this; exact this)⟩, ChgX.refl _ _⟩
  have T5' : WB.heap[W2.heap.size + 1]? = some (.cells #[.string s] 9) := by have := T5.out; rw [hs3] at this; exact this
  refine wpF_rangeFuncB (gf := 119) (lb := #[.pointer (some ⟨W2.heap.size + 1, 0, none⟩)]) rfl (enters_of Tryz.func119 (by kernel_rfl) rfl) (enc := fun k => #[tokV (nextTok s k)]) (nx := fun k => k + (nextTok s k).n.toNat) (N := s.size) (fun _ => rfl) (impl_tokensInB s (by omega) WB (W2.heap.size + 1) T5')
    (fun k W => ReadAt g b W2.heap.size (W2.heap.size + 2) n a x s bg k W ∧ ChgX (S1 g b W2.heap.size) WB W)
    (fun id W => id = 0 ∧ ReadIn g b W2.heap.size (W2.heap.size + 2) n x bg (wrT n s s.size 0 a x []) W ∧ ChgX (S1 g b W2.heap.size) WB W)
    (fun k a W => ∃ XB, a = { tmps := #[.pointer (some ⟨g, 0, none⟩), .string s, .pointer (some ⟨w.heap.size, 0, none⟩), .pointer (some ⟨w.heap.size + 1, 0, none⟩), .slice none 0 0, .int .i64 0, .pointer (some ⟨b, 0, none⟩), .pointer (some ⟨W2.heap.size, 0, none⟩), .pointer (some ⟨XB, 0, none⟩), .pointer (some ⟨g, 0, none⟩), .agg #[.int .i64 n, .string (prName n), .string (prHead n), .slice none 0 0, .bool (prRight n), .bool (prShifts n), .bool (prSingle n), .bool (prReset n), .bool (prClear n), .map none, .int .i64 x.g0, .int .i64 x.g1, .int .i64 x.g2, .int .i64 x.g3, .int .i64 x.l, .int .i64 x.s, .int .i64 x.d, .slice none 0 0], .pointer (some ⟨g, 0, none⟩), .pointer (some ⟨g, 0, none⟩), .pointer (some ⟨g, 10, none⟩), .string s, .func (.func 119) #[] #[.pointer (some ⟨W2.heap.size + 1, 0, none⟩)], tokV (nextTok s k), undef, undef, undef, undef, undef, undef, undef, undef, undef, undef, undef, undef, undef, undef, undef, undef, undef, undef, undef, undef, undef, undef, undef, undef, undef, undef, undef, undef, undef, undef, undef, undef, undef], defers := [] } ∧ TokAt W XB (nextTok s k))
    (fun k A B h hg => ⟨h.1.gr hg, h.2.gr hg (Nat.le_refl _)⟩) (fun k A B h hg => ⟨h.1, h.2.1.gr hg, h.2.2.gr hg (Nat.le_refl _)⟩)
    (fun k a A B h hg => by obtain ⟨XB, e, hX⟩ := h; exact ⟨XB, e, blk_gr hX hg⟩)
    (fun k A h => h.2.block _ (by unfold S1; omega) (by omega)) I0 ?assign ?body ?done ?stop
  case assign =>
    intro lp k W K hk hK
    clear I0
    generalize nextTok s k = y at *
    unfold tokV at *
    refine region_round (by kernel_rfl) (fun ⟨_, _, h⟩ => h) ?_
    go_wp2
    exact hK _ _ (below_one _ _) ⟨W.heap.size, rfl, TokAt.new W y⟩
  case body =>
    rintro lp k a1 A W hk ⟨⟨f, a', xs, zs, l, ⟨hf, hz, hk', ha0, ha1⟩, hR, hx', hSA, hDA, hKA⟩, hCA⟩ hG ⟨XB, rfl, hX⟩
    clear I0
    have HR := Lib.hid hR
    clear hR
    have hSW := hSA.gr hG
    have hDW : DeAt W g ⟨n, a', 0, x, ⟨#[]⟩, bg, false⟩ := blk_gr hDA hG
    have hKW := blk_gr hKA hG
    have hCW := hCA.gr hG (Nat.le_refl _)
    have hWs : WB.heap.size ≤ W.heap.size := hCW.size
    have hAs : WB.heap.size ≤ A.heap.size := hCA.size
    have HL : Hid (∀ i, l.ownBlock = some i → WB.heap.size ≤ i ∧ i < A.heap.size) := Lib.hid (fun i hi => by have := World.ownsRow.lt hSA.own i hi; omega)
    have HKp : Hid (∀ W', ChgX (fun i => S1 g b W2.heap.size i ∨ l.ownBlock = some i) W W' → Kept A.heap.size W W' ∧ KeptL W W' ∧ ChgX (S1 g b W2.heap.size) WB W') := Lib.hid (fun W' h => ⟨h.kept (fun i hi => by
        rcases hi with (rfl | rfl | rfl) | hi
        · omega
        · omega
        · omega
        · exact (HL.out i hi).2), h.keptL (fun i hi => by
        rcases hi with (rfl | rfl | rfl) | hi
        · exact ⟨_, hDW, rfl⟩
        · obtain ⟨m, hm, _⟩ := hSW; exact ⟨_, hm, rfl⟩
        · exact ⟨_, hKW, rfl⟩
        · rcases hSW.own.2 with ⟨hv, _⟩ | ⟨j, cap, cur, e1, _, e3, _⟩
          · rw [hv] at hi; cases hi
          · rw [e1] at hi
            have : j = i := Option.some.inj hi
            subst this
            exact ⟨_, e3, rfl⟩), ⟨h.os.trans hCW.os, h.tape.trans hCW.tape, h.output.trans hCW.output, Nat.le_trans hWs h.size, fun i hi hl => (h.block i (fun hs => by
          rcases hs with hs | hs
          · exact hi hs
          · have := (HL.out i hs).1; omega) (by omega)).trans (hCW.block i hi hl)⟩⟩)
    have c2 : W.cell? ⟨w.heap.size, 0, none⟩ = some (.pointer (some ⟨g, 0, none⟩)) := by rw [cell_of_row _ _ _ _ _ _ ((hCW.block w.heap.size (by unfold S1; omega) (by omega)).trans Y25.out)]; rfl
    have c3 : W.cell? ⟨w.heap.size + 1, 0, none⟩ = some (.string s) := by rw [cell_of_row _ _ _ _ _ _ ((hCW.block (w.heap.size + 1) (by unfold S1; omega) (by omega)).trans Y35.out)]; rfl
    have n0 := (nextTok_in s k hk).1
    have n1 := (nextTok_in s k hk).2.1
    have n2 := (nextTok_in s k hk).2.2
    have hyk := nextTok_ok s k hk (by omega)
    obtain ⟨f', rfl⟩ : ∃ f', f = f' + 1 := ⟨f - 1, by omega⟩
    have HU : Hid (wrT n s (f' + 1) k a' xs zs = if (nextTok s k).k = 8 then ⟨zs, a', 0, xs, s.extract k s.size⟩ else if (stepP n xs (nextTok s k)).c = 0 then wrT n s f' (k + (nextTok s k).n.toNat) (a' + (nextTok s k).n) (stepP n xs (nextTok s k)).y (addR zs (stepP n xs (nextTok s k)).r) else ⟨zs, a', (stepP n xs (nextTok s k)).c, xs, ByteArray.empty⟩) := Lib.hid (by rw [wrT, if_pos hk])
    obtain ⟨y, hy⟩ : ∃ y, nextTok s k = y := ⟨_, rfl⟩
    rw [hy] at hX hyk n0 n1 n2 HU
    simp only [hy]
    have ⟨t0, t1, t2, t3, t4, t5⟩ := hX.cells
    unfold tokV
    have hXl := hX.lt
    refine wpIn_block ?_
    refine wpIn_seq ?_
    refine wpIn_seq ?_
    refine region_round (by kernel_rfl) (fun ⟨_, _, h⟩ => h) ?_
    by_cases h8 : y.k = 8
    · have e8 : (y.k == 8) = true := by simpa using h8
      have HE : Hid (wrT n s s.size 0 a x [] = ⟨zs, a', 0, xs, s.extract k s.size⟩) := Lib.hid (by rw [HR.out, HU.out, if_pos h8])
      have HW := Lib.hid (fun w h => impl_wait ⟨n, a', 0, x, ⟨#[]⟩, bg, false⟩ g (s.extract k s.size) w h (by simp; omega))
      have v0 : (0 : Int) ≤ (k : Int) := by omega
      have v3 : (k : Int) ≤ (s.size : Int) := by omega
      rw [n0] at t4
      clear h8 HU
      go_wp2
      refine wpIn_cond_true rfl ?_
      refine wpIn_seq ?_
      have bd := below_drewN (Below.refl W.heap.size W) 1
      have hS : (fun W' : World => W'.cell? ⟨w.heap.size, 0, none⟩ = some (.pointer (some ⟨g, 0, none⟩)) ∧ W'.cell? ⟨w.heap.size + 1, 0, none⟩ = some (.string s) ∧ TokAt W' XB y) W.drew := ⟨cell_since bd c2, cell_since bd c3, hX.keep bd⟩
      refine region_round_held (S := (fun W' : World => W'.cell? ⟨w.heap.size, 0, none⟩ = some (.pointer (some ⟨g, 0, none⟩)) ∧ W'.cell? ⟨w.heap.size + 1, 0, none⟩ = some (.string s) ∧ TokAt W' XB y)) (by kernel_rfl) (by kernel_rfl) (fun ⟨_, _, h⟩ => h) ?_
      refine wpAnyH_take (i := 0) (v := .pointer (some ⟨g, 0, none⟩)) rfl (by kernel_rfl) (by kernel_rfl) (by kernel_rfl) (fun _ _ _ h => h) (.inl ⟨by kernel_rfl, fun w' hS' => by have y9 := hS'.1; go_simp⟩) hS ?_
      refine wpAnyH_take (i := 1) (v := .string s) rfl (by kernel_rfl) (by kernel_rfl) (by kernel_rfl) (fun _ _ _ h => h) (.inl ⟨by kernel_rfl, fun w' hS' => by have y9 := hS'.2.1; go_simp⟩) hS ?_
      refine wpAnyH_take (i := 2) (v := .pointer (some ⟨XB, 4, none⟩)) rfl (by kernel_rfl) (by kernel_rfl) (by kernel_rfl) (fun _ _ _ h => h) (.inl ⟨by kernel_rfl, fun w' hS' => by go_simp⟩) hS ?_
      refine wpAnyH_take (i := 3) (v := .int .i64 k) rfl (by kernel_rfl) (by kernel_rfl) (by kernel_rfl) (fun _ _ _ h => h) (.inl ⟨by kernel_rfl, fun w' hS' => by have ⟨_, _, _, _, y9, _⟩ := hS'.2.2.cells; rw [n0] at y9; go_simp⟩) hS ?_
      refine wpAnyH_take (i := 4) (v := .string (s.extract k s.size)) rfl (by kernel_rfl) (by kernel_rfl) (by kernel_rfl) (fun _ _ _ h => h) (.inl ⟨by kernel_rfl, fun w' hS' => by go_simp⟩) hS ?_
      refine wpAnyH_ready (rs := [5]) (by kernel_rfl) (by simp) (AllReadyH.cons rfl (fun K hK => ?_) AllReadyH.nil)
      clear hS
      go_simp
      refine (HW.out _ (hDW.keep bd)).mono ?_
      rintro e w6 ⟨rfl, d6, o6⟩
      have x2 : W.heap[w.heap.size]? = some (.cells #[.pointer (some ⟨g, 0, none⟩)] 125) := (hCW.block w.heap.size (by unfold S1; omega) (by omega)).trans Y25.out
      have x3 : W.heap[w.heap.size + 1]? = some (.cells #[.string s] 9) := (hCW.block (w.heap.size + 1) (by unfold S1; omega) (by omega)).trans Y35.out
      have hXg : XB ≠ g := fun e => by
        rw [e] at hX
        exact blk_ne (hX.symm.trans hDW) (by decide)
      have hch : ChgX (fun i => S1 g b W2.heap.size i ∨ l.ownBlock = some i) W w6 := (ChgX.below bd).trans (ChgX.only o6 (.inl (.inl rfl)))
      have hkp := HKp.out w6 hch
      have hg6 : ∀ i o, i ≠ g → W.heap[i]? = some o → w6.heap[i]? = some o := fun i o hi hw => by
        have hl := (Array.getElem?_eq_some_iff.1 hw).1
        exact (o6.2 i hi (Nat.lt_of_lt_of_le hl bd.size)).trans ((bd.block i hl).trans hw)
      have hIn : ReadIn g b W2.heap.size (W2.heap.size + 2) n x bg (wrT n s s.size 0 a x []) w6 := by
        rw [HE.out]
        exact ⟨l, rst_moved hSW (fun i o hi hw => hg6 i o (by omega) hw), d6, hg6 _ _ hKg hKW⟩
      refine hK.out _ _ ⟨by rw [cell_of_row _ _ _ _ _ _ (hg6 _ _ (by omega) x2)]; rfl, by rw [cell_of_row _ _ _ _ _ _ (hg6 _ _ (by omega) x3)]; rfl, hg6 _ _ hXg hX⟩ (fun _ => ?_)
      clear hK K
      refine wpAnyH_done (by kernel_rfl) ?_ _
      refine wpIn_exit ?_
      exact ⟨⟨rfl, hIn, hkp.2.2⟩, hkp.2.1⟩
    · have e8 : (y.k == 8) = false := by rw [beq_eq_false_iff_ne]; exact h8
      have hTW : ∀ W', Only b W W' → TabM W' := fun W' o => hT W' (only3 B5.out hCW o (by omega) (by omega) hgl)
      have HSt := Lib.hid (impl_rstep n xs l zs y b (W2.heap.size + 2) W hSW (by omega) (by omega) hTW hn hx' hyk (by omega))
      have HX2 := stepP_ok (n := n) hx' hyk
      have hcode := fun h => stepP_code (n := n) (x := xs) (t := y) h
      unfold RsDone at HSt
      obtain ⟨p, hp⟩ : ∃ p, stepP n xs y = p := ⟨_, rfl⟩
      rw [hp] at HSt HX2 hcode HU
      have hXg : XB ≠ g := fun e => by
        rw [e] at hX
        exact blk_ne (hX.symm.trans hDW) (by decide)
      have hXb : XB ≠ b := fun e => by
        obtain ⟨m, hm, _⟩ := hSW
        rw [e] at hX
        exact blk_ne (hX.symm.trans hm) (by decide)
      have hXK : XB ≠ W2.heap.size := fun e => by
        rw [e] at hX
        exact blk_ne (hX.symm.trans hKW) (by decide)
      have hXl2 : l.ownBlock ≠ some XB := hSW.own.apart hX (by decide)
      have x2 : W.heap[w.heap.size]? = some (.cells #[.pointer (some ⟨g, 0, none⟩)] 125) := (hCW.block w.heap.size (by unfold S1; omega) (by omega)).trans Y25.out
      have hbB : b < W2.heap.size + 2 := by omega
      have hlN : ∀ i, i < WB.heap.size → l.ownBlock ≠ some i := fun i hi he => by have := (HL.out i he).1; omega
      have hz2 : (addR zs p.r).length ≤ k + y.n.toNat := by have : (addR zs p.r).length ≤ zs.length + 1 := (by unfold addR; split <;> simp); omega
      unfold tokV at HSt
      have hPC : Hid (p.c = p.c) := Lib.hid rfl
      clear n0
      go_wp2
      refine wpIn_cond_false rfl ?_
      refine wpIn_skip ?_
      repeat refine wpIn_seq ?_
      refine region_round (by kernel_rfl) (fun ⟨_, _, h⟩ => h) ?_
      go_wp2_with fail
      refine HSt.out.mono ?_
      clear t0 t1 t2 t3 t4 t5 c2 c3
      rintro e w1' ⟨rfl, l1, hS1', cg, hl1⟩
      have hm1 : ∀ i o, i ≠ b → l.ownBlock ≠ some i → W.heap[i]? = some o → w1'.heap[i]? = some o := fun i o h1 h2 hw => (cg.2 i h1 h2 (Array.getElem?_eq_some_iff.1 hw).1).trans hw
      have hK1 := hm1 _ _ hKb (hlN _ (by omega)) hKW
      have hD1 : DeAt w1' g ⟨n, a', 0, x, ⟨#[]⟩, bg, false⟩ := hm1 _ _ (fun e => hbg e.symm) (hlN _ (by omega)) hDW
      have hX1 : TokAt w1' XB y := hm1 _ _ hXb hXl2 hX
      have x21 := hm1 _ _ (by omega) (hlN _ (by omega)) x2
      have k0 : w1'.cell? ⟨W2.heap.size, 0, none⟩ = some (.int .i64 0) := by rw [cell_of_row _ _ _ _ _ _ hK1]; rfl
      have kf := frozen_of_row w1' _ 0 _ _ hK1
      have hKl : W2.heap.size < w1'.heap.size := (Array.getElem?_eq_some_iff.1 hK1).1
      go_wp2
      have hK2 : (w1'.setCell ⟨W2.heap.size, 0, none⟩ (.int .i64 p.c)).heap[W2.heap.size]? = some (.cells #[.int .i64 p.c] 3) := heap_setCell_same _ _ 0 _ _ (.int .i64 p.c) hK1
      have oK : Only W2.heap.size w1' (w1'.setCell ⟨W2.heap.size, 0, none⟩ (.int .i64 p.c)) := Only.set _ 0 _ _
      have hm2 : ∀ i o, i ≠ W2.heap.size → w1'.heap[i]? = some o → (w1'.setCell ⟨W2.heap.size, 0, none⟩ (.int .i64 p.c)).heap[i]? = some o := fun i o h1 hw => (oK.2 i h1 (Array.getElem?_eq_some_iff.1 hw).1).trans hw
      have hD2 : DeAt (w1'.setCell ⟨W2.heap.size, 0, none⟩ (.int .i64 p.c)) g ⟨n, a', 0, x, ⟨#[]⟩, bg, false⟩ := hm2 _ _ (fun e => hKg e.symm) hD1
      have hX2' : TokAt (w1'.setCell ⟨W2.heap.size, 0, none⟩ (.int .i64 p.c)) XB y := hm2 _ _ hXK hX1
      have x22 := hm2 _ _ (by omega) x21
      have hl1N : ∀ i, l1.ownBlock = some i → WB.heap.size ≤ i := fun i hi => by
        rcases hl1 i hi with h | h
        · exact (HL.out i h).1
        · omega
      have hS2 : RSt (w1'.setCell ⟨W2.heap.size, 0, none⟩ (.int .i64 p.c)) b (W2.heap.size + 2) n p.y l1 (addR zs p.r) := rst_moved hS1' (fun i o hi hw => hm2 i o (by omega) hw)
      have hch2 : ChgX (fun i => S1 g b W2.heap.size i ∨ l.ownBlock = some i) W (w1'.setCell ⟨W2.heap.size, 0, none⟩ (.int .i64 p.c)) := (ChgX.chg cg (.inl (.inr (.inl rfl))) (fun i h => .inr h)).trans (ChgX.only oK (.inl (.inr (.inr rfl))))
      clear k0 kf hK1 hD1 hX1 x21 hS1' cg oK hm1 hm2
      generalize w1'.setCell ⟨W2.heap.size, 0, none⟩ (.int .i64 p.c) = w2' at *
      have k2 : w2'.cell? ⟨W2.heap.size, 0, none⟩ = some (.int .i64 p.c) := by rw [cell_of_row _ _ _ _ _ _ hK2]; rfl
      have y2 : w2'.cell? ⟨w.heap.size, 0, none⟩ = some (.pointer (some ⟨g, 0, none⟩)) := by rw [cell_of_row _ _ _ _ _ _ x22]; rfl
      repeat refine wpIn_seq ?_
      refine region_round (by kernel_rfl) (fun ⟨_, _, h⟩ => h) ?_
      by_cases hc : p.c = 0
      · have ec : (p.c != 0) = false := by simpa using hc
        have HE : wrT n s s.size 0 a x [] = wrT n s f' (k + y.n.toNat) (a' + y.n) p.y (addR zs p.r) := by rw [HR.out, HU.out, if_neg h8, if_pos hc]
        have hK0 : w2'.heap[W2.heap.size]? = some (.cells #[.int .i64 0] 3) := by rw [hc] at hK2; exact hK2
        have u2 : IntKind.i64.wrap (a' + y.n) = a' + y.n := IntWalk.i64_in _ (by omega)
        clear hc hK2 h8
        go_wp2
        refine wpIn_cond_false rfl ?_
        refine wpIn_skip ?_
        obtain ⟨w3, hw3⟩ : ∃ w3, w2'.drew = w3 := ⟨_, rfl⟩
        have bd : Below w2'.heap.size w2' w3 := by rw [← hw3]; exact below_drewN (Below.refl _ _) 1
        have hD3 : DeAt w3 g ⟨n, a', 0, x, ⟨#[]⟩, bg, false⟩ := hD2.keep bd
        have hS : (fun W' : World => W'.cell? ⟨w.heap.size, 0, none⟩ = some (.pointer (some ⟨g, 0, none⟩)) ∧ TokAt W' XB y) w3 := ⟨cell_since bd y2, hX2'.keep bd⟩
        have hK3 : w3.heap[W2.heap.size]? = some (.cells #[.int .i64 0] 3) := (bd.block _ (Array.getElem?_eq_some_iff.1 hK0).1).trans hK0
        have hS3 := hS2.keep bd hbB
        have hch3 := hch2.trans (ChgX.below (S := fun i => S1 g b W2.heap.size i ∨ l.ownBlock = some i) bd)
        have hS : (fun W' : World => W'.cell? ⟨w.heap.size, 0, none⟩ = some (.pointer (some ⟨g, 0, none⟩)) ∧ TokAt W' XB y ∧ DeAt W' g ⟨n, a', 0, x, ⟨#[]⟩, bg, false⟩) w3 := ⟨hS.1, hS.2, hD3⟩
        refine region_round_X (S := (fun W' : World => W'.cell? ⟨w.heap.size, 0, none⟩ = some (.pointer (some ⟨g, 0, none⟩)) ∧ TokAt W' XB y ∧ DeAt W' g ⟨n, a', 0, x, ⟨#[]⟩, bg, false⟩)) (L := 9) (by kernel_rfl) (by kernel_rfl) (fun ⟨_, _, h⟩ => h) ?_
        rw [hw3]
        refine wpAnyX_take (i := 0) (v := .pointer (some ⟨g, 0, none⟩)) rfl (by kernel_rfl) (by kernel_rfl) (by kernel_rfl) (by kernel_rfl) (fun _ _ _ h => h) (.inl ⟨by kernel_rfl, fun w' hS' => by have y9 := hS'.1; go_simp⟩) hS ?_
        refine wpAnyX_take (i := 1) (v := .pointer (some ⟨g, 0, none⟩)) rfl (by kernel_rfl) (by kernel_rfl) (by kernel_rfl) (by kernel_rfl) (fun _ _ _ h => h) (.inl ⟨by kernel_rfl, fun w' hS' => by go_simp⟩) hS ?_
        refine wpAnyX_take (i := 2) (v := .pointer (some ⟨g, 1, none⟩)) rfl (by kernel_rfl) (by kernel_rfl) (by kernel_rfl) (by kernel_rfl) (fun _ _ _ h => h) (.inl ⟨by kernel_rfl, fun w' hS' => by go_simp⟩) hS ?_
        refine wpAnyX_take (i := 3) (v := .int .i64 a') rfl (by kernel_rfl) (by kernel_rfl) (by kernel_rfl) (by kernel_rfl) (fun _ _ _ h => h) (.inl ⟨by kernel_rfl, fun w' hS' => by have y9 := (deCells hS'.2.2).2.1; go_simp⟩) hS ?_
        refine wpAnyX_take (i := 4) (v := .pointer (some ⟨XB, 5, none⟩)) rfl (by kernel_rfl) (by kernel_rfl) (by kernel_rfl) (by kernel_rfl) (fun _ _ _ h => h) (.inl ⟨by kernel_rfl, fun w' hS' => by go_simp⟩) hS ?_
        refine wpAnyX_take (i := 5) (v := .int .i64 y.n) rfl (by kernel_rfl) (by kernel_rfl) (by kernel_rfl) (by kernel_rfl) (fun _ _ _ h => h) (.inl ⟨by kernel_rfl, fun w' hS' => by have ⟨_, _, _, _, _, y9⟩ := hS'.2.1.cells; go_simp⟩) hS ?_
        refine wpAnyX_take (i := 6) (v := .int .i64 (a' + y.n)) rfl (by kernel_rfl) (by kernel_rfl) (by kernel_rfl) (by kernel_rfl) (fun _ _ _ h => h) (.inl ⟨by kernel_rfl, fun w' hS' => by go_simp⟩) hS ?_
        refine wpAnyX_one (i := 7) (by kernel_rfl) rfl (fun K hK => ?_)
        go_simp
        refine hK.out _ _ (fun _ => hS) (fun _ => ?_)
        clear hK K
        refine wpAnyX_one (i := 8) (by kernel_rfl) rfl (fun K hK => ?_)
        go_simp
        refine hK.out _ _ (fun _ => hS) (fun _ => ?_)
        clear hK K
        clear hS
        refine wpAnyX_one (i := 9) (by kernel_rfl) rfl (fun K hK => ?_)
        have z1 := hD3.thaw.2.1
        have q1 := (deCells hD3).2.1
        have hgl3 := hD3.lt
        go_simp
        have oS : Only g w3 (w3.setCell ⟨g, 1, none⟩ (.int .i64 (a' + y.n))) := Only.set g 1 _ _
        have hch4 := hch3.trans (ChgX.only (S := fun i => S1 g b W2.heap.size i ∨ l.ownBlock = some i) oS (.inl (.inl rfl)))
        have hkp := HKp.out _ hch4
        have hm4 : ∀ i o, i ≠ g → w3.heap[i]? = some o → (w3.setCell ⟨g, 1, none⟩ (.int .i64 (a' + y.n))).heap[i]? = some o := fun i o h1 hw => (oS.2 i h1 (Array.getElem?_eq_some_iff.1 hw).1).trans hw
        have hAt : ReadAt g b W2.heap.size (W2.heap.size + 2) n a x s bg (k + y.n.toNat) (w3.setCell ⟨g, 1, none⟩ (.int .i64 (a' + y.n))) :=
          ⟨f', a' + y.n, p.y, _, l1, ⟨by omega, hz2, by omega, by omega, by omega⟩, HE, HX2, rst_moved hS3 (fun i o hi hw => hm4 i o (by omega) hw), hD3.set1 (a' + y.n), hm4 _ _ hKg hK3⟩
        refine hK.out _ _ (fun h => absurd rfl h) (fun _ => ?_)
        clear hK K
        refine wpAnyX_done (by kernel_rfl) ?_ _
        exact ⟨⟨hAt, hkp.2.2⟩, hkp.1, hkp.2.1⟩
      · have ec : (p.c != 0) = true := by simpa using hc
        have HE : wrT n s s.size 0 a x [] = ⟨zs, a', p.c, xs, ⟨#[]⟩⟩ := by rw [HR.out, HU.out, if_neg h8, if_neg hc]; rfl
        obtain ⟨hpy, hpr⟩ := hcode hc
        rw [hpy, addR_none hpr] at hS2
        have HEn := Lib.hid (fun w h => impl_dend ⟨n, a', 0, x, ⟨#[]⟩, bg, false⟩ g p.c w h)
        have hco := Lib.hid (decide_eq_true hc : decide (p.c ≠ 0) = true)
        clear hc h8
        go_wp2
        refine wpIn_cond_true rfl ?_
        repeat refine wpIn_seq ?_
        refine region_round (by kernel_rfl) (fun ⟨_, _, h⟩ => h) ?_
        go_wp2_with fail
        refine (HEn.out _ hD2).mono ?_
        rintro e w6 ⟨rfl, d6, o6⟩
        have hch := hch2.trans (ChgX.only (S := fun i => S1 g b W2.heap.size i ∨ l.ownBlock = some i) o6 (.inl (.inl rfl)))
        have hkp := HKp.out w6 hch
        have hm6 : ∀ i o, i ≠ g → w2'.heap[i]? = some o → w6.heap[i]? = some o := fun i o h1 hw => (o6.2 i h1 (Array.getElem?_eq_some_iff.1 hw).1).trans hw
        have hIn : ReadIn g b W2.heap.size (W2.heap.size + 2) n x bg (wrT n s s.size 0 a x []) w6 := by
          rw [HE]
          refine ⟨l1, rst_moved hS2 (fun i o hi hw => hm6 i o (by omega) hw), ?_, hm6 _ _ hKg hK2⟩
          dsimp only
          rw [hco.out]
          exact d6
        go_wp2
        refine wpIn_exit ?_
        exact ⟨⟨rfl, hIn, hkp.2.2⟩, hkp.2.1⟩
  case done =>
    intro D W hD hI hd
    have hIn := hI.1.done
    have hC := hI.2
    obtain ⟨l, hS9, hDd, hKd⟩ := hIn
    obtain ⟨m, hm, _, ho⟩ := hS9
    have hWs : WB.heap.size ≤ W.heap.size := hC.size
    have x2 : W.heap[w.heap.size]? = some (.cells #[.pointer (some ⟨g, 0, none⟩)] 125) := (hC.block w.heap.size (by unfold S1; omega) (by omega)).trans Y25.out
    have HNC := Lib.hid (chg_new B5.out hC (by omega) (by omega))
    clear I0 HQ
    generalize wrT n s s.size 0 a x [] = q at *
    have hst := Lib.hid (fun w h => impl_stateR (κ := ⟨n, m, l⟩) q.x b w h)
    unfold StDone stV at hst
    obtain ⟨w3, hw3⟩ : ∃ w3, W.drew = w3 := ⟨_, rfl⟩
    have bd : Below W.heap.size W w3 := by rw [← hw3]; exact below_drewN (Below.refl _ _) 1
    have hm3 := hm.keep bd
    have hD3 := hDd.keep bd
    have x3 := (bd.block _ (Array.getElem?_eq_some_iff.1 x2).1).trans x2
    have hS : (fun W' : World => W'.cell? ⟨w.heap.size, 0, none⟩ = some (.pointer (some ⟨g, 0, none⟩)) ∧ RdAt W' b n m q.x l) w3 := ⟨by rw [cell_of_row _ _ _ _ _ _ x3]; rfl, hm3⟩
    refine wpF_seq_calm ?_
    refine region_held_w (S := (fun W' : World => W'.cell? ⟨w.heap.size, 0, none⟩ = some (.pointer (some ⟨g, 0, none⟩)) ∧ RdAt W' b n m q.x l)) w3 hw3 (by kernel_rfl) ?_
    refine wpAnyH_take (i := 0) (v := .pointer (some ⟨g, 0, none⟩)) rfl (by kernel_rfl) (by kernel_rfl) (by kernel_rfl) (fun _ _ _ h => h) (.inl ⟨by kernel_rfl, fun w' hS' => by have y9 := hS'.1; go_simp⟩) hS ?_
    refine wpAnyH_take (i := 1) (v := .pointer (some ⟨b, 10, none⟩)) rfl (by kernel_rfl) (by kernel_rfl) (by kernel_rfl) (fun _ _ _ h => h) (.inl ⟨by kernel_rfl, fun w' hS' => by go_simp⟩) hS ?_
    refine wpAnyH_ready (rs := [2]) (by kernel_rfl) (by simp) (AllReadyH.cons rfl (fun K hK => ?_) AllReadyH.nil)
    clear hS
    go_simp
    refine (hst.out _ hm3).mono ?_
    rintro e w6 ⟨rfl, b6⟩
    have hm6 := hm3.keep b6
    have hD6 := hD3.keep b6
    have x6 := (b6.block _ (Array.getElem?_eq_some_iff.1 x3).1).trans x3
    have e6 : w6.cell? ⟨w.heap.size, 0, none⟩ = some (.pointer (some ⟨g, 0, none⟩)) := by rw [cell_of_row _ _ _ _ _ _ x6]; rfl
    refine hK.out _ _ ⟨e6, hm6⟩ (fun hS => ?_)
    clear hK K
    refine wpAnyH_take (i := 3) (v := .pointer (some ⟨g, 0, none⟩)) rfl (by kernel_rfl) (by kernel_rfl) (by kernel_rfl) (fun _ _ _ h => h) (.inl ⟨by kernel_rfl, fun w' hS' => by go_simp⟩) hS ?_
    refine wpAnyH_take (i := 4) (v := .pointer (some ⟨g, 3, none⟩)) rfl (by kernel_rfl) (by kernel_rfl) (by kernel_rfl) (fun _ _ _ h => h) (.inl ⟨by kernel_rfl, fun w' hS' => by go_simp⟩) hS ?_
    refine wpAnyH_ready (rs := [5]) (by kernel_rfl) (by simp) (AllReadyH.cons rfl (fun K hK => ?_) AllReadyH.nil)
    have ⟨d0, d1, d2, d3, d4, d5, d6, d7, d8, d9, d10, d11, d12⟩ := hD6.cells
    have ⟨z0, z1, z2, z3, z4, z5, z6, z7, z8, z9, z10, z11, z12⟩ := hD6.thaw
    have hgl6 := hD6.lt
    go_simp
    have oS : Only g w6 (putDS w6 g q.x) := only_putDS g w6 q.x
    have hD7 := hD6.putS q.x
    have hm7 : RdAt (putDS w6 g q.x) b n m q.x l := (oS.2 _ hbg hm6.lt).trans hm6
    have x7 := (oS.2 w.heap.size (by omega) (Array.getElem?_eq_some_iff.1 x6).1).trans x6
    have bd6 : Below W.heap.size W w6 := bd.trans (b6.mono bd.size)
    have k7 := (oS.2 _ hKg (Nat.lt_of_lt_of_le (Array.getElem?_eq_some_iff.1 hKd).1 bd6.size)).trans ((bd6.block _ (Array.getElem?_eq_some_iff.1 hKd).1).trans hKd)
    have hd7 := (oS.2 D (by omega) (Nat.lt_of_lt_of_le (Array.getElem?_eq_some_iff.1 hd).1 bd6.size)).trans ((bd6.block _ (Array.getElem?_eq_some_iff.1 hd).1).trans hd)
    have ho7 : Own .i64 3 (putDS w6 g q.x) (W2.heap.size + 2) l q.z := (ho.all bd6).move7 oS (by omega)
    have HN7 := Lib.hid ((HNC.out.trans (ChgX.below bd6)).trans (ChgX.only oS (.inl rfl)))
    have e7 : (putDS w6 g q.x).cell? ⟨w.heap.size, 0, none⟩ = some (.pointer (some ⟨g, 0, none⟩)) := by rw [cell_of_row _ _ _ _ _ _ x7]; rfl
    refine hK.out _ (putDS w6 g q.x) ⟨e7, hm7⟩ (fun _ => ?_)
    clear hK K d0 d1 d2 d3 d4 d5 d6 d7 d8 d9 d10 d11 d12 z0 z1 z2 z3 z4 z5 z6 z7 z8 z9 z10 z11 z12 oS hD6 hm6 x6 e6 b6 bd6 hm3 hD3 x3 bd
    generalize putDS w6 g q.x = w7 at *
    refine wpAnyH_done (by kernel_rfl) ?_ _
    go_simp
    obtain ⟨la, lc, rfl, _⟩ := ho7.shape
    have e17 : w7.cell? ⟨b, 17, none⟩ = some (.slice la q.z.length lc) := hm7.cells.2.2.2.2.2.2.2.2.2
    have ek : w7.cell? ⟨W2.heap.size, 0, none⟩ = some (.int .i64 q.c) := by rw [cell_of_row _ _ _ _ _ _ k7]; rfl
    refine wpF_seq_calm ?_
    clear e7
    obtain ⟨w8, hw8⟩ : ∃ w8, w7.drew = w8 := ⟨_, rfl⟩
    have bd8 : Below w7.heap.size w7 w8 := by rw [← hw8]; exact below_drewN (Below.refl _ _) 1
    have hS : (fun W' : World => W'.cell? ⟨b, 17, none⟩ = some (.slice la q.z.length lc) ∧ W'.cell? ⟨W2.heap.size, 0, none⟩ = some (.int .i64 q.c)) w8 := ⟨cell_since bd8 e17, cell_since bd8 ek⟩
    refine region_held_w (S := (fun W' : World => W'.cell? ⟨b, 17, none⟩ = some (.slice la q.z.length lc) ∧ W'.cell? ⟨W2.heap.size, 0, none⟩ = some (.int .i64 q.c))) w8 hw8 (by kernel_rfl) ?_
    refine wpAnyH_take (i := 0) (v := .pointer (some ⟨b, 17, none⟩)) rfl (by kernel_rfl) (by kernel_rfl) (by kernel_rfl) (fun _ _ _ h => h) (.inl ⟨by kernel_rfl, fun w' hS' => by go_simp⟩) hS ?_
    refine wpAnyH_take (i := 1) (v := .slice la q.z.length lc) rfl (by kernel_rfl) (by kernel_rfl) (by kernel_rfl) (fun _ _ _ h => h) (.inl ⟨by kernel_rfl, fun w' hS' => by have y9 := hS'.1; go_simp⟩) hS ?_
    refine wpAnyH_take (i := 2) (v := .int .i64 q.c) rfl (by kernel_rfl) (by kernel_rfl) (by kernel_rfl) (fun _ _ _ h => h) (.inl ⟨by kernel_rfl, fun w' hS' => by have y9 := hS'.2; go_simp⟩) hS ?_
    refine wpAnyH_take (i := 3) (v := .slice la q.z.length lc) rfl (by kernel_rfl) (by kernel_rfl) (by kernel_rfl) (fun _ _ _ h => h) (.inl ⟨by kernel_rfl, fun w' hS' => by go_simp⟩) hS ?_
    refine wpAnyH_take (i := 4) (v := .int .i64 q.c) rfl (by kernel_rfl) (by kernel_rfl) (by kernel_rfl) (fun _ _ _ h => h) (.inl ⟨by kernel_rfl, fun w' hS' => by go_simp⟩) hS ?_
    refine wpAnyH_done (by kernel_rfl) ?_ _
    clear hS
    go_simp
    have hd8 := (bd8.block _ (Array.getElem?_eq_some_iff.1 hd7).1).trans hd7
    have hgx := Gr.put (N := WB.heap.size) hD hd8 (.deferred none)
    have hsB := B5.out.1.size
    have hsB2 : w.heap.size ≤ W2.heap.size + 2 := by omega
    have D9 := blk_gr (hD7.keep bd8) hgx
    have o9 := ((ho7.all bd8).gr hgx).low hsB2
    have O9 := ((HN7.out.trans (ChgX.below bd8)).gr hgx (by omega)).toOnly (by omega) (fun i hi hl => hi.resolve_right (by omega))
    refine wpF_of_wp (wp_ret ?_)
    refine ⟨by simp, .inl ⟨_, _, rfl, run_takeDeferred hd8, ?_⟩⟩
    exact ⟨_, results_tmp2 rfl _ _ _, _, rfl, o9, D9, O9⟩
  case stop =>
    rintro D id W hD ⟨rfl, hIn, hC⟩ hd
    obtain ⟨l, hS9, hDd, hKd⟩ := hIn
    obtain ⟨m, hm, _, ho⟩ := hS9
    have hWs : WB.heap.size ≤ W.heap.size := hC.size
    have x2 : W.heap[w.heap.size]? = some (.cells #[.pointer (some ⟨g, 0, none⟩)] 125) := (hC.block w.heap.size (by unfold S1; omega) (by omega)).trans Y25.out
    have HNC := Lib.hid (chg_new B5.out hC (by omega) (by omega))
    clear I0 HQ
    generalize wrT n s s.size 0 a x [] = q at *
    have hst := Lib.hid (fun w h => impl_stateR (κ := ⟨n, m, l⟩) q.x b w h)
    unfold StDone stV at hst
    obtain ⟨w3, hw3⟩ : ∃ w3, W.drew = w3 := ⟨_, rfl⟩
    have bd : Below W.heap.size W w3 := by rw [← hw3]; exact below_drewN (Below.refl _ _) 1
    have hm3 := hm.keep bd
    have hD3 := hDd.keep bd
    have x3 := (bd.block _ (Array.getElem?_eq_some_iff.1 x2).1).trans x2
    have hS : (fun W' : World => W'.cell? ⟨w.heap.size, 0, none⟩ = some (.pointer (some ⟨g, 0, none⟩)) ∧ RdAt W' b n m q.x l) w3 := ⟨by rw [cell_of_row _ _ _ _ _ _ x3]; rfl, hm3⟩
    refine wpF_seq_calm ?_
    refine region_held_w (S := (fun W' : World => W'.cell? ⟨w.heap.size, 0, none⟩ = some (.pointer (some ⟨g, 0, none⟩)) ∧ RdAt W' b n m q.x l)) w3 hw3 (by kernel_rfl) ?_
    refine wpAnyH_take (i := 0) (v := .pointer (some ⟨g, 0, none⟩)) rfl (by kernel_rfl) (by kernel_rfl) (by kernel_rfl) (fun _ _ _ h => h) (.inl ⟨by kernel_rfl, fun w' hS' => by have y9 := hS'.1; go_simp⟩) hS ?_
    refine wpAnyH_take (i := 1) (v := .pointer (some ⟨b, 10, none⟩)) rfl (by kernel_rfl) (by kernel_rfl) (by kernel_rfl) (fun _ _ _ h => h) (.inl ⟨by kernel_rfl, fun w' hS' => by go_simp⟩) hS ?_
    refine wpAnyH_ready (rs := [2]) (by kernel_rfl) (by simp) (AllReadyH.cons rfl (fun K hK => ?_) AllReadyH.nil)
    clear hS
    go_simp
    refine (hst.out _ hm3).mono ?_
    rintro e w6 ⟨rfl, b6⟩
    have hm6 := hm3.keep b6
    have hD6 := hD3.keep b6
    have x6 := (b6.block _ (Array.getElem?_eq_some_iff.1 x3).1).trans x3
    have e6 : w6.cell? ⟨w.heap.size, 0, none⟩ = some (.pointer (some ⟨g, 0, none⟩)) := by rw [cell_of_row _ _ _ _ _ _ x6]; rfl
    refine hK.out _ _ ⟨e6, hm6⟩ (fun hS => ?_)
    clear hK K
    refine wpAnyH_take (i := 3) (v := .pointer (some ⟨g, 0, none⟩)) rfl (by kernel_rfl) (by kernel_rfl) (by kernel_rfl) (fun _ _ _ h => h) (.inl ⟨by kernel_rfl, fun w' hS' => by go_simp⟩) hS ?_
    refine wpAnyH_take (i := 4) (v := .pointer (some ⟨g, 3, none⟩)) rfl (by kernel_rfl) (by kernel_rfl) (by kernel_rfl) (fun _ _ _ h => h) (.inl ⟨by kernel_rfl, fun w' hS' => by go_simp⟩) hS ?_
    refine wpAnyH_ready (rs := [5]) (by kernel_rfl) (by simp) (AllReadyH.cons rfl (fun K hK => ?_) AllReadyH.nil)
    have ⟨d0, d1, d2, d3, d4, d5, d6, d7, d8, d9, d10, d11, d12⟩ := hD6.cells
    have ⟨z0, z1, z2, z3, z4, z5, z6, z7, z8, z9, z10, z11, z12⟩ := hD6.thaw
    have hgl6 := hD6.lt
    go_simp
    have oS : Only g w6 (putDS w6 g q.x) := only_putDS g w6 q.x
    have hD7 := hD6.putS q.x
    have hm7 : RdAt (putDS w6 g q.x) b n m q.x l := (oS.2 _ hbg hm6.lt).trans hm6
    have x7 := (oS.2 w.heap.size (by omega) (Array.getElem?_eq_some_iff.1 x6).1).trans x6
    have bd6 : Below W.heap.size W w6 := bd.trans (b6.mono bd.size)
    have k7 := (oS.2 _ hKg (Nat.lt_of_lt_of_le (Array.getElem?_eq_some_iff.1 hKd).1 bd6.size)).trans ((bd6.block _ (Array.getElem?_eq_some_iff.1 hKd).1).trans hKd)
    have hd7 := (oS.2 D (by omega) (Nat.lt_of_lt_of_le (Array.getElem?_eq_some_iff.1 hd).1 bd6.size)).trans ((bd6.block _ (Array.getElem?_eq_some_iff.1 hd).1).trans hd)
    have ho7 : Own .i64 3 (putDS w6 g q.x) (W2.heap.size + 2) l q.z := (ho.all bd6).move7 oS (by omega)
    have HN7 := Lib.hid ((HNC.out.trans (ChgX.below bd6)).trans (ChgX.only oS (.inl rfl)))
    have e7 : (putDS w6 g q.x).cell? ⟨w.heap.size, 0, none⟩ = some (.pointer (some ⟨g, 0, none⟩)) := by rw [cell_of_row _ _ _ _ _ _ x7]; rfl
    refine hK.out _ (putDS w6 g q.x) ⟨e7, hm7⟩ (fun _ => ?_)
    clear hK K d0 d1 d2 d3 d4 d5 d6 d7 d8 d9 d10 d11 d12 z0 z1 z2 z3 z4 z5 z6 z7 z8 z9 z10 z11 z12 oS hD6 hm6 x6 e6 b6 bd6 hm3 hD3 x3 bd
    generalize putDS w6 g q.x = w7 at *
    refine wpAnyH_done (by kernel_rfl) ?_ _
    go_simp
    obtain ⟨la, lc, rfl, _⟩ := ho7.shape
    have e17 : w7.cell? ⟨b, 17, none⟩ = some (.slice la q.z.length lc) := hm7.cells.2.2.2.2.2.2.2.2.2
    have ek : w7.cell? ⟨W2.heap.size, 0, none⟩ = some (.int .i64 q.c) := by rw [cell_of_row _ _ _ _ _ _ k7]; rfl
    refine wpF_seq_calm ?_
    clear e7
    obtain ⟨w8, hw8⟩ : ∃ w8, w7.drew = w8 := ⟨_, rfl⟩
    have bd8 : Below w7.heap.size w7 w8 := by rw [← hw8]; exact below_drewN (Below.refl _ _) 1
    have hS : (fun W' : World => W'.cell? ⟨b, 17, none⟩ = some (.slice la q.z.length lc) ∧ W'.cell? ⟨W2.heap.size, 0, none⟩ = some (.int .i64 q.c)) w8 := ⟨cell_since bd8 e17, cell_since bd8 ek⟩
    refine region_held_w (S := (fun W' : World => W'.cell? ⟨b, 17, none⟩ = some (.slice la q.z.length lc) ∧ W'.cell? ⟨W2.heap.size, 0, none⟩ = some (.int .i64 q.c))) w8 hw8 (by kernel_rfl) ?_
    refine wpAnyH_take (i := 0) (v := .pointer (some ⟨b, 17, none⟩)) rfl (by kernel_rfl) (by kernel_rfl) (by kernel_rfl) (fun _ _ _ h => h) (.inl ⟨by kernel_rfl, fun w' hS' => by go_simp⟩) hS ?_
    refine wpAnyH_take (i := 1) (v := .slice la q.z.length lc) rfl (by kernel_rfl) (by kernel_rfl) (by kernel_rfl) (fun _ _ _ h => h) (.inl ⟨by kernel_rfl, fun w' hS' => by have y9 := hS'.1; go_simp⟩) hS ?_
    refine wpAnyH_take (i := 2) (v := .int .i64 q.c) rfl (by kernel_rfl) (by kernel_rfl) (by kernel_rfl) (fun _ _ _ h => h) (.inl ⟨by kernel_rfl, fun w' hS' => by have y9 := hS'.2; go_simp⟩) hS ?_
    refine wpAnyH_take (i := 3) (v := .slice la q.z.length lc) rfl (by kernel_rfl) (by kernel_rfl) (by kernel_rfl) (fun _ _ _ h => h) (.inl ⟨by kernel_rfl, fun w' hS' => by go_simp⟩) hS ?_
    refine wpAnyH_take (i := 4) (v := .int .i64 q.c) rfl (by kernel_rfl) (by kernel_rfl) (by kernel_rfl) (fun _ _ _ h => h) (.inl ⟨by kernel_rfl, fun w' hS' => by go_simp⟩) hS ?_
    refine wpAnyH_done (by kernel_rfl) ?_ _
    clear hS
    go_simp
    have hd8 := (bd8.block _ (Array.getElem?_eq_some_iff.1 hd7).1).trans hd7
    have hgx := Gr.put (N := WB.heap.size) hD hd8 (.deferred none)
    have hsB := B5.out.1.size
    have hsB2 : w.heap.size ≤ W2.heap.size + 2 := by omega
    have D9 := blk_gr (hD7.keep bd8) hgx
    have o9 := ((ho7.all bd8).gr hgx).low hsB2
    have O9 := ((HN7.out.trans (ChgX.below bd8)).gr hgx (by omega)).toOnly (by omega) (fun i hi hl => hi.resolve_right (by omega))
    refine wpF_of_wp (wp_ret ?_)
    refine ⟨by simp, .inl ⟨_, _, rfl, run_takeDeferred hd8, ?_⟩⟩
    exact ⟨_, results_tmp2 rfl _ _ _, _, rfl, o9, D9, O9⟩

end Go.Proofs.YtbamjhldebobhaaGreatDoor

namespace Go.Proofs.YtbamjhldebobhaaGreatDoor
open Go.RowKit Go.Shelf Go.Sort
set_option linter.unusedVariables false

/-- What take leaves. -/
def TakeDone (g : Nat) (d : De) (s : ByteArray) (w : World) (e : Ending) (w' : World) : Prop := ∃ v, e = .returned (.tuple #[v, .int .i64 (wrP d s).d.c]) ∧ Own .i64 3 w' w.heap.size v (wrP d s).z ∧ DeAt w' g (wrP d s).d ∧ Only g w w'
theorem TakeDone.mk {g : Nat} {d y : De} {s : ByteArray} {z : List Int} {c : Int} {v : Value} {w w' : World} (h : wrP d s = ⟨y, z⟩) (hc : y.c = c) (h1 : Own .i64 3 w' w.heap.size v z) (h2 : DeAt w' g y) (h3 : Only g w w') : TakeDone g d s w (.returned (.tuple #[v, .int .i64 c])) w' := by
  refine ⟨v, by rw [h, hc], by rw [h]; exact h1, by rw [h]; exact h2, h3⟩

theorem wrP_begun (n a : Int) (x : St) (r s : ByteArray) : wrP ⟨n, a, 0, x, r, true, false⟩ s = ⟨⟨n, (wrT n s s.size 0 a x []).a, (wrT n s s.size 0 a x []).c, (wrT n s s.size 0 a x []).x, (wrT n s s.size 0 a x []).r, true, decide ((wrT n s s.size 0 a x []).c ≠ 0)⟩, (wrT n s s.size 0 a x []).z⟩ := by
  rw [wrP, if_pos rfl]
  rfl
theorem wrP_wait {n : Int} (a : Int) (x : St) (r : ByteArray) {s : ByteArray} (h1 : (decide (s.size < (prHead n).size) && hasPre (prHead n) s) = true) : wrP ⟨n, a, 0, x, r, false, false⟩ s = ⟨⟨n, a, 0, x, s, false, false⟩, []⟩ := by
  rw [wrP, if_neg (show ¬ (false = true) by decide), if_pos (by simpa using h1)]
  rfl
theorem wrP_head {n : Int} (a : Int) (x : St) (r : ByteArray) {s : ByteArray} (h1 : (decide (s.size < (prHead n).size) && hasPre (prHead n) s) = false) (h2 : hasPre s (prHead n) = false) : wrP ⟨n, a, 0, x, r, false, false⟩ s = ⟨⟨n, a, 15, x, ByteArray.empty, false, true⟩, []⟩ := by
  rw [wrP, if_neg (show ¬ (false = true) by decide), if_neg (fun h => by rw [show (decide (s.size < (prHead n).size) && hasPre (prHead n) s) = true by simpa using h] at h1; cases h1), if_pos h2]
  rfl
theorem wrP_none {n : Int} (a : Int) (x : St) (r : ByteArray) {s : ByteArray} (h1 : (decide (s.size < (prHead n).size) && hasPre (prHead n) s) = false) (h2 : hasPre s (prHead n) = true) (h0 : s.size = 0) : wrP ⟨n, a, 0, x, r, false, false⟩ s = ⟨⟨n, (wrT n s s.size 0 a x []).a, (wrT n s s.size 0 a x []).c, (wrT n s s.size 0 a x []).x, (wrT n s s.size 0 a x []).r, false, decide ((wrT n s s.size 0 a x []).c ≠ 0)⟩, (wrT n s s.size 0 a x []).z⟩ := by
  rw [wrP, if_neg (show ¬ (false = true) by decide), if_neg (fun h => by rw [show (decide (s.size < (prHead n).size) && hasPre (prHead n) s) = true by simpa using h] at h1; cases h1), if_neg (by rw [h2]; decide), if_pos h0, size_zero h0]
  rfl
theorem wrP_go {n : Int} (a : Int) (x : St) (r : ByteArray) {s : ByteArray} (h1 : (decide (s.size < (prHead n).size) && hasPre (prHead n) s) = false) (h2 : hasPre s (prHead n) = true) (h0 : 0 < s.size) : wrP ⟨n, a, 0, x, r, false, false⟩ s = ⟨⟨n, (wrT n s s.size 0 a x []).a, (wrT n s s.size 0 a x []).c, (wrT n s s.size 0 a x []).x, (wrT n s s.size 0 a x []).r, true, decide ((wrT n s s.size 0 a x []).c ≠ 0)⟩, (wrT n s s.size 0 a x []).z⟩ := by
  rw [wrP, if_neg (show ¬ (false = true) by decide), if_neg (fun h => by rw [show (decide (s.size < (prHead n).size) && hasPre (prHead n) s) = true by simpa using h] at h1; cases h1), if_neg (by rw [h2]; decide), if_neg (by omega)]
  rfl

set_option maxHeartbeats 4000000 in
set_option maxRecDepth 100000 in
theorem take_begun (n a : Int) (x : St) (r : ByteArray) (g : Nat) (s : ByteArray) (w : World) (h : DeAt w g ⟨n, a, 0, x, r, true, false⟩) (hT : ∀ W, Only g w W → TabM W) (hn : proB n = true) (hx : stOKB x = true) (hs : s.size ≤ 65540) (ha : 0 ≤ a) (ha2 : a ≤ 1000000000) :
    Calls Tryz.prog 48 #[.pointer (some ⟨g, 0, none⟩), .string s] w (TakeDone g ⟨n, a, 0, x, r, true, false⟩ s w) := by
  have HR := Lib.hid (impl_dread n a x r true g s w h hT hn hx hs ha ha2)
  have HE := Lib.hid (wrP_begun n a x r s)
  have y11 : w.cell? ⟨g, 11, none⟩ = some (.bool true) := h.cells.2.2.2.2.2.2.2.2.2.2.2.1
  generalize wrT n s s.size 0 a x [] = q at *
  clear h hT hn hx hs ha ha2
  go_enter Tryz.func48, Tryz.ntmps48
  go_wp2_with fail
  refine HR.out.mono ?_
  rintro e w1 ⟨v, rfl, o1, d1, k1⟩
  go_wp2
  go_ret2
  exact TakeDone.mk HE.out rfl o1 d1 k1

set_option maxHeartbeats 4000000 in
set_option maxRecDepth 100000 in
theorem take_wait (n a : Int) (x : St) (r : ByteArray) (g : Nat) (s : ByteArray) (w : World) (h : DeAt w g ⟨n, a, 0, x, r, false, false⟩) (hT : ∀ W, Only g w W → TabM W) (hn : proB n = true) (hx : stOKB x = true) (hs : s.size ≤ 65540) (ha : 0 ≤ a) (ha2 : a ≤ 1000000000) (h1 : (decide (s.size < (prHead n).size) && hasPre (prHead n) s) = true) :
    Calls Tryz.prog 48 #[.pointer (some ⟨g, 0, none⟩), .string s] w (TakeDone g ⟨n, a, 0, x, r, false, false⟩ s w) := by
  have HP := Lib.hid (fun w ht => impl_profileWithoutSets n w ht hn)
  have HX := Lib.hid (fun w => impl_isProperPrefix s (prHead n) w)
  have HPre := Lib.hid (fun w => str_HasPrefix s (prHead n) w)
  have HD := Lib.hid h
  have HT := Lib.hid (hT w (Only.refl _ _)).1
  have y0 : w.cell? ⟨g, 0, none⟩ = some (.int .i64 n) := h.cells.1
  have y11 : w.cell? ⟨g, 11, none⟩ = some (.bool false) := h.cells.2.2.2.2.2.2.2.2.2.2.2.1
  have hgl : g < w.heap.size := h.lt
  have hfd : ∀ w, (Instr.field 60 (prV n (.slice none 0 0)) 1).run Tryz.prog w = .ok (.string (prHead n)) w := fun _ => by kernel_rfl
  unfold prV at HP hfd
  have HW := Lib.hid (fun d g w h => impl_wait d g s w h (by omega))
  have HE := Lib.hid (wrP_wait (n := n) a x r h1)
  rw [h1] at HX
  clear h hT hn hx hs ha ha2 h1
  generalize prHead n = hd at *
  go_enter Tryz.func48, Tryz.ntmps48
  go_wp2_with fail
  refine (HP.out _ HT.out).mono ?_
  rintro e w1 ⟨rfl, b1⟩
  have D1 := Lib.hid (HD.out.keep b1)
  have K1 := Lib.hid (only_below hgl b1)
  have hfd1 := hfd w1
  clear b1 HD HT y0 y11
  go_wp2_with fail
  refine (HX.out _).mono ?_
  rintro e w2 ⟨rfl, rfl⟩
  go_wp2_with fail
  refine (HW.out _ _ _ D1.out).mono ?_
  rintro e w3 ⟨rfl, d3, k3⟩
  go_wp2
  go_ret2
  exact TakeDone.mk HE.out rfl (Own.nil _ _ _ _) d3 (K1.out.trans k3)

set_option maxHeartbeats 4000000 in
set_option maxRecDepth 100000 in
theorem take_head (n a : Int) (x : St) (r : ByteArray) (g : Nat) (s : ByteArray) (w : World) (h : DeAt w g ⟨n, a, 0, x, r, false, false⟩) (hT : ∀ W, Only g w W → TabM W) (hn : proB n = true) (hx : stOKB x = true) (hs : s.size ≤ 65540) (ha : 0 ≤ a) (ha2 : a ≤ 1000000000) (h1 : (decide (s.size < (prHead n).size) && hasPre (prHead n) s) = false) (h2 : hasPre s (prHead n) = false) :
    Calls Tryz.prog 48 #[.pointer (some ⟨g, 0, none⟩), .string s] w (TakeDone g ⟨n, a, 0, x, r, false, false⟩ s w) := by
  have HP := Lib.hid (fun w ht => impl_profileWithoutSets n w ht hn)
  have HX := Lib.hid (fun w => impl_isProperPrefix s (prHead n) w)
  have HPre := Lib.hid (fun w => str_HasPrefix s (prHead n) w)
  have HD := Lib.hid h
  have HT := Lib.hid (hT w (Only.refl _ _)).1
  have y0 : w.cell? ⟨g, 0, none⟩ = some (.int .i64 n) := h.cells.1
  have y11 : w.cell? ⟨g, 11, none⟩ = some (.bool false) := h.cells.2.2.2.2.2.2.2.2.2.2.2.1
  have hgl : g < w.heap.size := h.lt
  have hfd : ∀ w, (Instr.field 60 (prV n (.slice none 0 0)) 1).run Tryz.prog w = .ok (.string (prHead n)) w := fun _ => by kernel_rfl
  unfold prV at HP hfd
  have HW := Lib.hid (fun d g w h => impl_dend d g 15 w h)
  have HE := Lib.hid (wrP_head (n := n) a x r h1 h2)
  rw [h1] at HX
  rw [h2] at HPre
  clear h hT hn hx hs ha ha2 h1 h2
  generalize prHead n = hd at *
  go_enter Tryz.func48, Tryz.ntmps48
  go_wp2_with fail
  refine (HP.out _ HT.out).mono ?_
  rintro e w1 ⟨rfl, b1⟩
  have D1 := Lib.hid (HD.out.keep b1)
  have K1 := Lib.hid (only_below hgl b1)
  have hfd1 := hfd w1
  clear b1 HD HT y0 y11
  go_wp2_with fail
  refine (HX.out _).mono ?_
  rintro e w2 ⟨rfl, rfl⟩
  go_wp2_with fail
  refine (HPre.out _).mono ?_
  rintro e w3 ⟨rfl, rfl⟩
  go_wp2_with fail
  refine (HW.out _ _ _ D1.out).mono ?_
  rintro e w3 ⟨rfl, d3, k3⟩
  go_wp2
  go_ret2
  exact TakeDone.mk HE.out rfl (Own.nil _ _ _ _) d3 (K1.out.trans k3)

set_option maxHeartbeats 4000000 in
set_option maxRecDepth 100000 in
theorem take_go (n a : Int) (x : St) (r : ByteArray) (g : Nat) (s : ByteArray) (w : World) (h : DeAt w g ⟨n, a, 0, x, r, false, false⟩) (hT : ∀ W, Only g w W → TabM W) (hn : proB n = true) (hx : stOKB x = true) (hs : s.size ≤ 65540) (ha : 0 ≤ a) (ha2 : a ≤ 1000000000) (h1 : (decide (s.size < (prHead n).size) && hasPre (prHead n) s) = false) (h2 : hasPre s (prHead n) = true) (h0 : 0 < s.size) :
    Calls Tryz.prog 48 #[.pointer (some ⟨g, 0, none⟩), .string s] w (TakeDone g ⟨n, a, 0, x, r, false, false⟩ s w) := by
  have HP := Lib.hid (fun w ht => impl_profileWithoutSets n w ht hn)
  have HX := Lib.hid (fun w => impl_isProperPrefix s (prHead n) w)
  have HPre := Lib.hid (fun w => str_HasPrefix s (prHead n) w)
  have HD := Lib.hid h
  have HT := Lib.hid (hT w (Only.refl _ _)).1
  have y0 : w.cell? ⟨g, 0, none⟩ = some (.int .i64 n) := h.cells.1
  have y11 : w.cell? ⟨g, 11, none⟩ = some (.bool false) := h.cells.2.2.2.2.2.2.2.2.2.2.2.1
  have hgl : g < w.heap.size := h.lt
  have hfd : ∀ w, (Instr.field 60 (prV n (.slice none 0 0)) 1).run Tryz.prog w = .ok (.string (prHead n)) w := fun _ => by kernel_rfl
  unfold prV at HP hfd
  have HR := Lib.hid (fun w' (k : Only g w w') h => impl_dread n a x r true g s w' h (fun W k' => hT W (k.trans k')) hn hx hs ha ha2)
  have HE := Lib.hid (wrP_go (n := n) a x r h1 h2 h0)
  have he : s.toList.isEmpty = false := some_size h0
  generalize wrT n s s.size 0 a x [] = q at *
  rw [h1] at HX
  rw [h2] at HPre
  clear h hT hn hx hs ha ha2 h1 h2 h0
  generalize prHead n = hd at *
  go_enter Tryz.func48, Tryz.ntmps48
  go_wp2_with fail
  refine (HP.out _ HT.out).mono ?_
  rintro e w1 ⟨rfl, b1⟩
  have D1 := Lib.hid (HD.out.keep b1)
  have K1 := Lib.hid (only_below hgl b1)
  have hfd1 := hfd w1
  clear b1 HD HT y0 y11
  go_wp2_with fail
  refine (HX.out _).mono ?_
  rintro e w2 ⟨rfl, rfl⟩
  go_wp2_with fail
  refine (HPre.out _).mono ?_
  rintro e w3 ⟨rfl, rfl⟩
  have D2 := Lib.hid (D1.out.set11 true)
  have K2 := Lib.hid (K1.out.trans (Only.set g 11 w1 (.bool true)))
  have y11 : w1.cell? ⟨g, 11, none⟩ = some (.bool false) := D1.out.cells.2.2.2.2.2.2.2.2.2.2.2.1
  have z11 : w1.frozen? ⟨g, 11, none⟩ = false := D1.out.thaw.2.2.2.2.2.2.2.2.2.2.2.1
  have hl1 := D1.out.lt
  go_wp2_with fail
  refine (HR.out _ K2.out D2.out).mono ?_
  rintro e w3 ⟨v, rfl, o3, d3, k3⟩
  have hsz := K2.out.1.size
  go_wp2
  go_ret2
  exact TakeDone.mk HE.out rfl (o3.low hsz) d3 (K2.out.trans k3)

set_option maxHeartbeats 4000000 in
set_option maxRecDepth 100000 in
theorem take_none (n a : Int) (x : St) (r : ByteArray) (g : Nat) (s : ByteArray) (w : World) (h : DeAt w g ⟨n, a, 0, x, r, false, false⟩) (hT : ∀ W, Only g w W → TabM W) (hn : proB n = true) (hx : stOKB x = true) (hs : s.size ≤ 65540) (ha : 0 ≤ a) (ha2 : a ≤ 1000000000) (h1 : (decide (s.size < (prHead n).size) && hasPre (prHead n) s) = false) (h2 : hasPre s (prHead n) = true) (h0 : s.size = 0) :
    Calls Tryz.prog 48 #[.pointer (some ⟨g, 0, none⟩), .string s] w (TakeDone g ⟨n, a, 0, x, r, false, false⟩ s w) := by
  have HP := Lib.hid (fun w ht => impl_profileWithoutSets n w ht hn)
  have HX := Lib.hid (fun w => impl_isProperPrefix s (prHead n) w)
  have HPre := Lib.hid (fun w => str_HasPrefix s (prHead n) w)
  have HD := Lib.hid h
  have HT := Lib.hid (hT w (Only.refl _ _)).1
  have y0 : w.cell? ⟨g, 0, none⟩ = some (.int .i64 n) := h.cells.1
  have y11 : w.cell? ⟨g, 11, none⟩ = some (.bool false) := h.cells.2.2.2.2.2.2.2.2.2.2.2.1
  have hgl : g < w.heap.size := h.lt
  have hfd : ∀ w, (Instr.field 60 (prV n (.slice none 0 0)) 1).run Tryz.prog w = .ok (.string (prHead n)) w := fun _ => by kernel_rfl
  unfold prV at HP hfd
  have HR := Lib.hid (fun w' (k : Only g w w') h => impl_dread n a x r false g s w' h (fun W k' => hT W (k.trans k')) hn hx hs ha ha2)
  have HE := Lib.hid (wrP_none (n := n) a x r h1 h2 h0)
  have he : s.toList.isEmpty = true := empty_size h0
  generalize wrT n s s.size 0 a x [] = q at *
  rw [h1] at HX
  rw [h2] at HPre
  clear h hT hn hx hs ha ha2 h1 h2 h0
  generalize prHead n = hd at *
  go_enter Tryz.func48, Tryz.ntmps48
  go_wp2_with fail
  refine (HP.out _ HT.out).mono ?_
  rintro e w1 ⟨rfl, b1⟩
  have D1 := Lib.hid (HD.out.keep b1)
  have K1 := Lib.hid (only_below hgl b1)
  have hfd1 := hfd w1
  clear b1 HD HT y0 y11
  go_wp2_with fail
  refine (HX.out _).mono ?_
  rintro e w2 ⟨rfl, rfl⟩
  go_wp2_with fail
  refine (HPre.out _).mono ?_
  rintro e w3 ⟨rfl, rfl⟩
  have D2 := Lib.hid (D1.out.set11 false)
  have K2 := Lib.hid (K1.out.trans (Only.set g 11 w1 (.bool false)))
  have y11 : w1.cell? ⟨g, 11, none⟩ = some (.bool false) := D1.out.cells.2.2.2.2.2.2.2.2.2.2.2.1
  have z11 : w1.frozen? ⟨g, 11, none⟩ = false := D1.out.thaw.2.2.2.2.2.2.2.2.2.2.2.1
  have hl1 := D1.out.lt
  go_wp2_with fail
  refine (HR.out _ K2.out D2.out).mono ?_
  rintro e w3 ⟨v, rfl, o3, d3, k3⟩
  have hsz := K2.out.1.size
  go_wp2
  go_ret2
  exact TakeDone.mk HE.out rfl (o3.low hsz) d3 (K2.out.trans k3)

theorem impl_dtake (n a : Int) (x : St) (r : ByteArray) (b : Bool) (g : Nat) (s : ByteArray) (w : World) (h : DeAt w g ⟨n, a, 0, x, r, b, false⟩) (hT : ∀ W, Only g w W → TabM W) (hn : proB n = true) (hx : stOKB x = true) (hs : s.size ≤ 65540) (ha : 0 ≤ a) (ha2 : a ≤ 1000000000) :
    Calls Tryz.prog 48 #[.pointer (some ⟨g, 0, none⟩), .string s] w (TakeDone g ⟨n, a, 0, x, r, b, false⟩ s w) := by
  cases b
  · cases h1 : (decide (s.size < (prHead n).size) && hasPre (prHead n) s)
    · cases h2 : hasPre s (prHead n)
      · exact take_head n a x r g s w h hT hn hx hs ha ha2 h1 h2
      · by_cases h0 : s.size = 0
        · exact take_none n a x r g s w h hT hn hx hs ha ha2 h1 h2 h0
        · exact take_go n a x r g s w h hT hn hx hs ha ha2 h1 h2 (by omega)
    · exact take_wait n a x r g s w h hT hn hx hs ha ha2 h1
  · exact take_begun n a x r g s w h hT hn hx hs ha ha2

end Go.Proofs.YtbamjhldebobhaaGreatDoor

namespace Go.Proofs.YtbamjhldebobhaaGreatDoor
open Go.RowKit Go.Sort

set_option maxHeartbeats 2000000 in
set_option maxRecDepth 100000 in
theorem spec_l08OK (d : De) (w : World) (hr : d.r.size ≤ 1048576) : Calls Tryz.prog 42 #[deV d] w fun e w' => e = .returned (.bool (deOK d)) ∧ Below w.heap.size w w' := by
  have HR := Lib.hid (fun w => spec_l08Rest d w hr)
  obtain ⟨n, a, c, x, r, b, o⟩ := d
  clear hr
  unfold deV at HR ⊢
  dsimp only at HR ⊢
  have HN := Lib.hid (fun w => spec_l05No n w)
  have HSt := Lib.hid (fun w => spec_l04OK x w)
  have HA := Lib.hid (fun w => spec_l01In a 0 1000000000 w)
  have HC := Lib.hid (fun w => spec_l01In c 0 18 w)
  have D0 : Hid (DeAt (w.alloc (.cells #[.int .i64 n, .int .i64 a, .int .i64 c, .int .i64 x.g0, .int .i64 x.g1, .int .i64 x.g2, .int .i64 x.g3, .int .i64 x.l, .int .i64 x.s, .int .i64 x.d, .string r, .bool b, .bool o] 41)) w.heap.size ⟨n, a, c, x, r, b, o⟩) := Lib.hid (DeAt.new w ⟨n, a, c, x, r, b, o⟩)
  have B0 := Lib.hid (below_one w (.cells #[.int .i64 n, .int .i64 a, .int .i64 c, .int .i64 x.g0, .int .i64 x.g1, .int .i64 x.g2, .int .i64 x.g3, .int .i64 x.l, .int .i64 x.s, .int .i64 x.d, .string r, .bool b, .bool o] 41))
  unfold stV at HSt
  cases hn : proB n
  · rw [deOK_bad (.inl hn)]
    rw [hn] at HN
    go_enter Tryz.func42, Tryz.ntmps42
    go_wp2_with fail
    refine (HN.out _).mono ?_
    rintro e w1 ⟨rfl, rfl⟩
    go_wp2
    go_ret
    exact ⟨rfl, B0.out⟩
  have HNp := Lib.hid hn
  rw [hn] at HN
  cases hs : stOKB x
  · rw [deOK_bad (.inr (.inl hs))]
    rw [hs] at HSt
    clear hn
    go_enter Tryz.func42, Tryz.ntmps42
    go_wp2_with fail
    refine (HN.out _).mono ?_
    rintro e w1 ⟨rfl, rfl⟩
    go_wp2_with fail
    refine (HSt.out _).mono ?_
    rintro e w2 ⟨rfl, b2⟩
    go_wp2
    go_ret
    exact ⟨rfl, B0.out.trans (b2.mono B0.out.size)⟩
  have HSp := Lib.hid hs
  rw [hs] at HSt
  clear hn hs
  cases ha : inB a 0 1000000000
  · rw [deOK_bad (.inr (.inr (.inl ha)))]
    rw [ha] at HA
    clear ha
    go_enter Tryz.func42, Tryz.ntmps42
    go_wp2_with fail
    refine (HN.out _).mono ?_
    rintro e w1 ⟨rfl, rfl⟩
    go_wp2_with fail
    refine (HSt.out _).mono ?_
    rintro e w2 ⟨rfl, b2⟩
    have B2 := B0.out.trans (b2.mono B0.out.size)
    have ⟨y0, y1, y2, y3, y4, y5, y6, y7, y8, y9, y10, y11, y12⟩ := deCells (D0.out.keep b2)
    have hl2 := (D0.out.keep b2).lt
    go_wp2_with fail
    refine (HA.out _).mono ?_
    rintro e w3 ⟨rfl, rfl⟩
    go_wp2
    go_ret
    exact ⟨rfl, B2⟩
  have HAp := Lib.hid ha
  rw [ha] at HA
  clear ha
  cases hc : inB c 0 18
  · rw [deOK_bad (.inr (.inr (.inr hc)))]
    rw [hc] at HC
    clear hc
    go_enter Tryz.func42, Tryz.ntmps42
    go_wp2_with fail
    refine (HN.out _).mono ?_
    rintro e w1 ⟨rfl, rfl⟩
    go_wp2_with fail
    refine (HSt.out _).mono ?_
    rintro e w2 ⟨rfl, b2⟩
    have B2 := B0.out.trans (b2.mono B0.out.size)
    have ⟨y0, y1, y2, y3, y4, y5, y6, y7, y8, y9, y10, y11, y12⟩ := deCells (D0.out.keep b2)
    have hl2 := (D0.out.keep b2).lt
    go_wp2_with fail
    refine (HA.out _).mono ?_
    rintro e w3 ⟨rfl, rfl⟩
    go_wp2_with fail
    refine (HC.out _).mono ?_
    rintro e w3 ⟨rfl, rfl⟩
    go_wp2
    go_ret
    exact ⟨rfl, B2⟩
  rw [deOK_rest HNp.out HSp.out HAp.out hc]
  rw [hc] at HC
  clear hc
  dsimp only
  generalize waitB n b r = q at *
  by_cases h0 : c = 0
  · have e0 : (c != 0) = false := by simpa using h0
    have HE : Hid ((!(decide (c ≠ 0) && !o) && (!(o && decide (0 < r.size)) && q)) = (!(o && decide (0 < r.size)) && q)) := Lib.hid (by rw [decide_eq_false (by simpa using h0)]; simp)
    rw [HE.out]
    clear h0 HE
    cases o
    · have HE : Hid ((!(false && decide (0 < r.size)) && q) = q) := Lib.hid (by simp)
      rw [HE.out]
      clear HE
      go_enter Tryz.func42, Tryz.ntmps42
      go_wp2_with fail
      refine (HN.out _).mono ?_
      rintro e w1 ⟨rfl, rfl⟩
      go_wp2_with fail
      refine (HSt.out _).mono ?_
      rintro e w2 ⟨rfl, b2⟩
      have B2 := B0.out.trans (b2.mono B0.out.size)
      have ⟨y0, y1, y2, y3, y4, y5, y6, y7, y8, y9, y10, y11, y12⟩ := deCells (D0.out.keep b2)
      have hl2 := (D0.out.keep b2).lt
      go_wp2_with fail
      refine (HA.out _).mono ?_
      rintro e w3 ⟨rfl, rfl⟩
      go_wp2_with fail
      refine (HC.out _).mono ?_
      rintro e w3 ⟨rfl, rfl⟩
      go_wp2_with fail
      refine (HR.out _).mono ?_
      rintro e w3 ⟨rfl, b3⟩
      go_wp2
      go_ret
      exact ⟨rfl, B2.trans (b3.mono B2.size)⟩
    · by_cases hz : r.size = 0
      · have he := empty_size hz
        have HE : Hid ((!(true && decide (0 < r.size)) && q) = q) := Lib.hid (by rw [decide_eq_false (by omega)]; simp)
        rw [HE.out]
        clear HE hz
        go_enter Tryz.func42, Tryz.ntmps42
        go_wp2_with fail
        refine (HN.out _).mono ?_
        rintro e w1 ⟨rfl, rfl⟩
        go_wp2_with fail
        refine (HSt.out _).mono ?_
        rintro e w2 ⟨rfl, b2⟩
        have B2 := B0.out.trans (b2.mono B0.out.size)
        have ⟨y0, y1, y2, y3, y4, y5, y6, y7, y8, y9, y10, y11, y12⟩ := deCells (D0.out.keep b2)
        have hl2 := (D0.out.keep b2).lt
        go_wp2_with fail
        refine (HA.out _).mono ?_
        rintro e w3 ⟨rfl, rfl⟩
        go_wp2_with fail
        refine (HC.out _).mono ?_
        rintro e w3 ⟨rfl, rfl⟩
        go_wp2_with fail
        refine (HR.out _).mono ?_
        rintro e w3 ⟨rfl, b3⟩
        go_wp2
        go_ret
        exact ⟨rfl, B2.trans (b3.mono B2.size)⟩
      · have he := some_size (show 0 < r.size by omega)
        have HE : Hid ((!(true && decide (0 < r.size)) && q) = false) := Lib.hid (by rw [decide_eq_true (by omega)]; simp)
        rw [HE.out]
        clear HE hz
        go_enter Tryz.func42, Tryz.ntmps42
        go_wp2_with fail
        refine (HN.out _).mono ?_
        rintro e w1 ⟨rfl, rfl⟩
        go_wp2_with fail
        refine (HSt.out _).mono ?_
        rintro e w2 ⟨rfl, b2⟩
        have B2 := B0.out.trans (b2.mono B0.out.size)
        have ⟨y0, y1, y2, y3, y4, y5, y6, y7, y8, y9, y10, y11, y12⟩ := deCells (D0.out.keep b2)
        have hl2 := (D0.out.keep b2).lt
        go_wp2_with fail
        refine (HA.out _).mono ?_
        rintro e w3 ⟨rfl, rfl⟩
        go_wp2_with fail
        refine (HC.out _).mono ?_
        rintro e w3 ⟨rfl, rfl⟩
        go_wp2
        go_ret
        exact ⟨rfl, B2⟩
  · have e0 : (c != 0) = true := by simpa using h0
    cases o
    · have HE : Hid ((!(decide (c ≠ 0) && !false) && (!(false && decide (0 < r.size)) && q)) = false) := Lib.hid (by rw [decide_eq_true (by simpa using h0)]; simp)
      rw [HE.out]
      clear h0 HE
      go_enter Tryz.func42, Tryz.ntmps42
      go_wp2_with fail
      refine (HN.out _).mono ?_
      rintro e w1 ⟨rfl, rfl⟩
      go_wp2_with fail
      refine (HSt.out _).mono ?_
      rintro e w2 ⟨rfl, b2⟩
      have B2 := B0.out.trans (b2.mono B0.out.size)
      have ⟨y0, y1, y2, y3, y4, y5, y6, y7, y8, y9, y10, y11, y12⟩ := deCells (D0.out.keep b2)
      have hl2 := (D0.out.keep b2).lt
      go_wp2_with fail
      refine (HA.out _).mono ?_
      rintro e w3 ⟨rfl, rfl⟩
      go_wp2_with fail
      refine (HC.out _).mono ?_
      rintro e w3 ⟨rfl, rfl⟩
      go_wp2
      go_ret
      exact ⟨rfl, B2⟩
    · by_cases hz : r.size = 0
      · have he := empty_size hz
        have HE : Hid ((!(decide (c ≠ 0) && !true) && (!(true && decide (0 < r.size)) && q)) = q) := Lib.hid (by rw [decide_eq_false (by omega : ¬ 0 < r.size)]; simp)
        rw [HE.out]
        clear HE hz h0
        go_enter Tryz.func42, Tryz.ntmps42
        go_wp2_with fail
        refine (HN.out _).mono ?_
        rintro e w1 ⟨rfl, rfl⟩
        go_wp2_with fail
        refine (HSt.out _).mono ?_
        rintro e w2 ⟨rfl, b2⟩
        have B2 := B0.out.trans (b2.mono B0.out.size)
        have ⟨y0, y1, y2, y3, y4, y5, y6, y7, y8, y9, y10, y11, y12⟩ := deCells (D0.out.keep b2)
        have hl2 := (D0.out.keep b2).lt
        go_wp2_with fail
        refine (HA.out _).mono ?_
        rintro e w3 ⟨rfl, rfl⟩
        go_wp2_with fail
        refine (HC.out _).mono ?_
        rintro e w3 ⟨rfl, rfl⟩
        go_wp2_with fail
        refine (HR.out _).mono ?_
        rintro e w3 ⟨rfl, b3⟩
        go_wp2
        go_ret
        exact ⟨rfl, B2.trans (b3.mono B2.size)⟩
      · have he := some_size (show 0 < r.size by omega)
        have HE : Hid ((!(decide (c ≠ 0) && !true) && (!(true && decide (0 < r.size)) && q)) = false) := Lib.hid (by rw [decide_eq_true (by omega : 0 < r.size)]; simp)
        rw [HE.out]
        clear HE hz h0
        go_enter Tryz.func42, Tryz.ntmps42
        go_wp2_with fail
        refine (HN.out _).mono ?_
        rintro e w1 ⟨rfl, rfl⟩
        go_wp2_with fail
        refine (HSt.out _).mono ?_
        rintro e w2 ⟨rfl, b2⟩
        have B2 := B0.out.trans (b2.mono B0.out.size)
        have ⟨y0, y1, y2, y3, y4, y5, y6, y7, y8, y9, y10, y11, y12⟩ := deCells (D0.out.keep b2)
        have hl2 := (D0.out.keep b2).lt
        go_wp2_with fail
        refine (HA.out _).mono ?_
        rintro e w3 ⟨rfl, rfl⟩
        go_wp2_with fail
        refine (HC.out _).mono ?_
        rintro e w3 ⟨rfl, rfl⟩
        go_wp2
        go_ret
        exact ⟨rfl, B2⟩

end Go.Proofs.YtbamjhldebobhaaGreatDoor

namespace Go.Proofs.YtbamjhldebobhaaGreatDoor
open Go.RowKit Go.Sort

theorem spec_l08Why (d : De) (w : World) : Calls Tryz.prog 43 #[deV d] w fun e w' => e = .returned (.int .i64 (whyC d)) ∧ Below w.heap.size w w' := by
  have B0 := Lib.hid (below_one w (.cells #[.int .i64 d.n, .int .i64 d.a, .int .i64 d.c, .int .i64 d.x.g0, .int .i64 d.x.g1, .int .i64 d.x.g2, .int .i64 d.x.g3, .int .i64 d.x.l, .int .i64 d.x.s, .int .i64 d.x.d, .string d.r, .bool d.b, .bool d.o] 41))
  unfold deV
  by_cases h : d.c = 0
  · have e0 : (d.c != 0) = false := by simpa using h
    have HE : Hid (whyC d = 17) := Lib.hid (by rw [whyC, if_pos h])
    rw [HE.out]
    clear h
    go_enter Tryz.func43, Tryz.ntmps43
    go_wp2
    go_ret
    exact ⟨rfl, B0.out⟩
  · have e0 : (d.c != 0) = true := by simpa using h
    have HE : Hid (whyC d = d.c) := Lib.hid (by rw [whyC, if_neg h])
    rw [HE.out]
    clear h
    go_enter Tryz.func43, Tryz.ntmps43
    go_wp2
    go_ret
    exact ⟨rfl, B0.out⟩

set_option maxHeartbeats 1000000 in
set_option maxRecDepth 100000 in
theorem spec_l08Fail (d : De) (c : Int) (w : World) : Calls Tryz.prog 84 #[deV d, .int .i64 c] w (DeDone (failD d c) w) := by
  unfold deV
  go_enter Tryz.func84, Tryz.ntmps84
  go_wp2
  exact de_ret (y := failD d c) rfl rfl (heap_alloc2_new _ _ _) Tryz.underlying41 rfl (by kernel_rfl) rfl (below_two _ _ _)

end Go.Proofs.YtbamjhldebobhaaGreatDoor

namespace Go.Proofs.YtbamjhldebobhaaGreatDoor
open Go.RowKit Go.Sort

/-- CloseDecoder: the decoder and the code. -/
def CdDone (d : De) (w : World) (e : Ending) (w' : World) : Prop := e = .returned (.tuple #[deV (clP d), .int .i64 (cdC d)]) ∧ Below w.heap.size w w'
theorem cl_bad {d : De} (h : deOK d = false) : clP d = zeroDe ∧ cdC d = 1 := ⟨by rw [clP, if_pos h], by rw [cdC, if_pos h]⟩
theorem cl_over {d : De} (h : deOK d = true) (ho : d.o = true) : clP d = d ∧ cdC d = whyC d := ⟨by rw [clP, if_neg (by rw [h]; decide), if_pos ho], by rw [cdC, if_neg (by rw [h]; decide), if_pos ho]⟩
theorem cl_ok {d : De} (h : deOK d = true) (ho : d.o = false) : clP d = failD d (clC d) ∧ cdC d = clC d := ⟨by rw [clP, if_neg (by rw [h]; decide), if_neg (by rw [ho]; decide)], by rw [cdC, if_neg (by rw [h]; decide), if_neg (by rw [ho]; decide)]⟩

set_option maxHeartbeats 2000000 in
set_option maxRecDepth 100000 in
theorem close15 (n a c : Int) (x : St) (r : ByteArray) (o : Bool) (w : World) (he : (prHead n).toList.isEmpty = false) : Calls Tryz.prog 108 #[deV ⟨n, a, c, x, r, false, o⟩] w (DeDone (failD ⟨n, a, c, x, r, false, o⟩ 15) w) := by
  have HPf := Lib.hid (fun w => spec_l05Profile n w)
  have HFl := Lib.hid (fun k w => spec_l08Fail ⟨n, a, c, x, r, false, o⟩ k w)
  have HEn := Lib.hid (fun v w hv => spec_l06End n v x w hv)
  have D0 : Hid (DeAt ((w.alloc (.cells #[.int .i64 n, .int .i64 a, .int .i64 c, .int .i64 x.g0, .int .i64 x.g1, .int .i64 x.g2, .int .i64 x.g3, .int .i64 x.l, .int .i64 x.s, .int .i64 x.d, .string r, .bool false, .bool o] 41)).alloc (.cells #[.int .i64 0, .int .i64 0, .int .i64 0, .int .i64 0, .int .i64 0, .int .i64 0, .int .i64 0, .int .i64 0, .int .i64 0, .int .i64 0, .string ⟨#[]⟩, .bool false, .bool false] 41)) w.heap.size ⟨n, a, c, x, r, false, o⟩) := Lib.hid (heap_alloc2_old _ _ _)
  have R0 : Hid (DeAt ((w.alloc (.cells #[.int .i64 n, .int .i64 a, .int .i64 c, .int .i64 x.g0, .int .i64 x.g1, .int .i64 x.g2, .int .i64 x.g3, .int .i64 x.l, .int .i64 x.s, .int .i64 x.d, .string r, .bool false, .bool o] 41)).alloc (.cells #[.int .i64 0, .int .i64 0, .int .i64 0, .int .i64 0, .int .i64 0, .int .i64 0, .int .i64 0, .int .i64 0, .int .i64 0, .int .i64 0, .string ⟨#[]⟩, .bool false, .bool false] 41)) (w.heap.size + 1) zeroDe) := Lib.hid (heap_alloc2_new _ _ _)
  have B0 := Lib.hid (below_two w (.cells #[.int .i64 n, .int .i64 a, .int .i64 c, .int .i64 x.g0, .int .i64 x.g1, .int .i64 x.g2, .int .i64 x.g3, .int .i64 x.l, .int .i64 x.s, .int .i64 x.d, .string r, .bool false, .bool o] 41) (.cells #[.int .i64 0, .int .i64 0, .int .i64 0, .int .i64 0, .int .i64 0, .int .i64 0, .int .i64 0, .int .i64 0, .int .i64 0, .int .i64 0, .string ⟨#[]⟩, .bool false, .bool false] 41))
  have hfd : ∀ v w, (Instr.field 60 (prV n v) 1).run Tryz.prog w = .ok (.string (prHead n)) w := fun _ _ => by kernel_rfl
  have HPv : Hid (∀ v, prV n v = .agg #[.string (prName n), .string (prHead n), v, .bool (prRight n), .bool (prShifts n), .bool (prSingle n), .bool (prReset n), .bool (prClear n)]) := Lib.hid (fun _ => rfl)
  unfold prV at hfd HEn
  have HFd := Lib.hid hfd
  clear hfd
  unfold DeDone deV failD at HFl
  unfold stV at HEn
  dsimp only at HFl
  have HV : Hid (deV ⟨n, a, c, x, r, false, o⟩ = .agg #[.int .i64 n, .int .i64 a, .int .i64 c, .int .i64 x.g0, .int .i64 x.g1, .int .i64 x.g2, .int .i64 x.g3, .int .i64 x.l, .int .i64 x.s, .int .i64 x.d, .string r, .bool false, .bool o]) := Lib.hid rfl
  rw [HV.out]
  go_enter Tryz.func108, Tryz.ntmps108
  go_wp2_with fail
  refine (HPf.out _).mono ?_
  generalize (w.alloc (.cells #[.int .i64 n, .int .i64 a, .int .i64 c, .int .i64 x.g0, .int .i64 x.g1, .int .i64 x.g2, .int .i64 x.g3, .int .i64 x.l, .int .i64 x.s, .int .i64 x.d, .string r, .bool false, .bool o] 41)).alloc (.cells #[.int .i64 0, .int .i64 0, .int .i64 0, .int .i64 0, .int .i64 0, .int .i64 0, .int .i64 0, .int .i64 0, .int .i64 0, .int .i64 0, .string ⟨#[]⟩, .bool false, .bool false] 41) = W at *
  rintro e w1 ⟨pv, rfl, hpv, b1⟩
  have hf1 := HFd.out pv w1
  unfold prV
  have D1 := Lib.hid (D0.out.keep b1)
  have R1 := Lib.hid (R0.out.keep b1)
  have B1 := Lib.hid (B0.out.trans (b1.mono B0.out.size))
  clear b1 hpv D0 R0 B0
  have ⟨y0, y1, y2, y3, y4, y5, y6, y7, y8, y9, y10, y11, y12⟩ := deCells D1.out
  have hl1 := D1.out.lt
  go_wp2_with fail
  refine (HFl.out 15 _).mono ?_
  rintro e w2 ⟨rfl, b2⟩
  have R2 := Lib.hid (R1.out.keep b2)
  have B2 := Lib.hid (B1.out.trans (b2.mono B1.out.size))
  have ⟨r0, r1, r2, r3, r4, r5, r6, r7, r8, r9, r10, r11, r12⟩ := deCells R2.out
  have ⟨s0, s1, s2, s3, s4, s5, s6, s7, s8, s9, s10, s11, s12⟩ := R2.out.thaw
  have hl2 := R2.out.lt
  clear b2 y0 y1 y2 y3 y4 y5 y6 y7 y8 y9 y10 y11 y12
  go_wp2
  exact de_ret (y := failD ⟨n, a, c, x, r, false, o⟩ 15) rfl rfl (R2.out.put (failD ⟨n, a, c, x, r, false, o⟩ 15)) Tryz.underlying41 rfl (by kernel_rfl) rfl (below_putDe B2.out (by omega) (failD ⟨n, a, c, x, r, false, o⟩ 15))

set_option maxHeartbeats 2000000 in
set_option maxRecDepth 100000 in
theorem closeB1 (n a c : Int) (x : St) (r : ByteArray) (o : Bool) (w : World) (he : (prHead n).toList.isEmpty = true) (hr : r.toList.isEmpty = false) : Calls Tryz.prog 108 #[deV ⟨n, a, c, x, r, false, o⟩] w (DeDone (failD ⟨n, a, c, x, r, false, o⟩ 13) w) := by
  have HPf := Lib.hid (fun w => spec_l05Profile n w)
  have HFl := Lib.hid (fun k w => spec_l08Fail ⟨n, a, c, x, r, false, o⟩ k w)
  have HEn := Lib.hid (fun v w hv => spec_l06End n v x w hv)
  have D0 : Hid (DeAt ((w.alloc (.cells #[.int .i64 n, .int .i64 a, .int .i64 c, .int .i64 x.g0, .int .i64 x.g1, .int .i64 x.g2, .int .i64 x.g3, .int .i64 x.l, .int .i64 x.s, .int .i64 x.d, .string r, .bool false, .bool o] 41)).alloc (.cells #[.int .i64 0, .int .i64 0, .int .i64 0, .int .i64 0, .int .i64 0, .int .i64 0, .int .i64 0, .int .i64 0, .int .i64 0, .int .i64 0, .string ⟨#[]⟩, .bool false, .bool false] 41)) w.heap.size ⟨n, a, c, x, r, false, o⟩) := Lib.hid (heap_alloc2_old _ _ _)
  have R0 : Hid (DeAt ((w.alloc (.cells #[.int .i64 n, .int .i64 a, .int .i64 c, .int .i64 x.g0, .int .i64 x.g1, .int .i64 x.g2, .int .i64 x.g3, .int .i64 x.l, .int .i64 x.s, .int .i64 x.d, .string r, .bool false, .bool o] 41)).alloc (.cells #[.int .i64 0, .int .i64 0, .int .i64 0, .int .i64 0, .int .i64 0, .int .i64 0, .int .i64 0, .int .i64 0, .int .i64 0, .int .i64 0, .string ⟨#[]⟩, .bool false, .bool false] 41)) (w.heap.size + 1) zeroDe) := Lib.hid (heap_alloc2_new _ _ _)
  have B0 := Lib.hid (below_two w (.cells #[.int .i64 n, .int .i64 a, .int .i64 c, .int .i64 x.g0, .int .i64 x.g1, .int .i64 x.g2, .int .i64 x.g3, .int .i64 x.l, .int .i64 x.s, .int .i64 x.d, .string r, .bool false, .bool o] 41) (.cells #[.int .i64 0, .int .i64 0, .int .i64 0, .int .i64 0, .int .i64 0, .int .i64 0, .int .i64 0, .int .i64 0, .int .i64 0, .int .i64 0, .string ⟨#[]⟩, .bool false, .bool false] 41))
  have hfd : ∀ v w, (Instr.field 60 (prV n v) 1).run Tryz.prog w = .ok (.string (prHead n)) w := fun _ _ => by kernel_rfl
  have HPv : Hid (∀ v, prV n v = .agg #[.string (prName n), .string (prHead n), v, .bool (prRight n), .bool (prShifts n), .bool (prSingle n), .bool (prReset n), .bool (prClear n)]) := Lib.hid (fun _ => rfl)
  unfold prV at hfd HEn
  have HFd := Lib.hid hfd
  clear hfd
  unfold DeDone deV failD at HFl
  unfold stV at HEn
  dsimp only at HFl
  have HV : Hid (deV ⟨n, a, c, x, r, false, o⟩ = .agg #[.int .i64 n, .int .i64 a, .int .i64 c, .int .i64 x.g0, .int .i64 x.g1, .int .i64 x.g2, .int .i64 x.g3, .int .i64 x.l, .int .i64 x.s, .int .i64 x.d, .string r, .bool false, .bool o]) := Lib.hid rfl
  rw [HV.out]
  go_enter Tryz.func108, Tryz.ntmps108
  go_wp2_with fail
  refine (HPf.out _).mono ?_
  generalize (w.alloc (.cells #[.int .i64 n, .int .i64 a, .int .i64 c, .int .i64 x.g0, .int .i64 x.g1, .int .i64 x.g2, .int .i64 x.g3, .int .i64 x.l, .int .i64 x.s, .int .i64 x.d, .string r, .bool false, .bool o] 41)).alloc (.cells #[.int .i64 0, .int .i64 0, .int .i64 0, .int .i64 0, .int .i64 0, .int .i64 0, .int .i64 0, .int .i64 0, .int .i64 0, .int .i64 0, .string ⟨#[]⟩, .bool false, .bool false] 41) = W at *
  rintro e w1 ⟨pv, rfl, hpv, b1⟩
  have hf1 := HFd.out pv w1
  unfold prV
  have D1 := Lib.hid (D0.out.keep b1)
  have R1 := Lib.hid (R0.out.keep b1)
  have B1 := Lib.hid (B0.out.trans (b1.mono B0.out.size))
  clear b1 hpv D0 R0 B0
  have ⟨y0, y1, y2, y3, y4, y5, y6, y7, y8, y9, y10, y11, y12⟩ := deCells D1.out
  have hl1 := D1.out.lt
  go_wp2_with fail
  refine (HFl.out 13 _).mono ?_
  rintro e w2 ⟨rfl, b2⟩
  have R2 := Lib.hid (R1.out.keep b2)
  have B2 := Lib.hid (B1.out.trans (b2.mono B1.out.size))
  have ⟨r0, r1, r2, r3, r4, r5, r6, r7, r8, r9, r10, r11, r12⟩ := deCells R2.out
  have ⟨s0, s1, s2, s3, s4, s5, s6, s7, s8, s9, s10, s11, s12⟩ := R2.out.thaw
  have hl2 := R2.out.lt
  clear b2 y0 y1 y2 y3 y4 y5 y6 y7 y8 y9 y10 y11 y12
  go_wp2
  exact de_ret (y := failD ⟨n, a, c, x, r, false, o⟩ 13) rfl rfl (R2.out.put (failD ⟨n, a, c, x, r, false, o⟩ 13)) Tryz.underlying41 rfl (by kernel_rfl) rfl (below_putDe B2.out (by omega) (failD ⟨n, a, c, x, r, false, o⟩ 13))

set_option maxHeartbeats 2000000 in
set_option maxRecDepth 100000 in
theorem closeA1 (n a c : Int) (x : St) (r : ByteArray) (o : Bool) (w : World) (hr : r.toList.isEmpty = false) : Calls Tryz.prog 108 #[deV ⟨n, a, c, x, r, true, o⟩] w (DeDone (failD ⟨n, a, c, x, r, true, o⟩ 13) w) := by
  have HPf := Lib.hid (fun w => spec_l05Profile n w)
  have HFl := Lib.hid (fun k w => spec_l08Fail ⟨n, a, c, x, r, true, o⟩ k w)
  have HEn := Lib.hid (fun v w hv => spec_l06End n v x w hv)
  have D0 : Hid (DeAt ((w.alloc (.cells #[.int .i64 n, .int .i64 a, .int .i64 c, .int .i64 x.g0, .int .i64 x.g1, .int .i64 x.g2, .int .i64 x.g3, .int .i64 x.l, .int .i64 x.s, .int .i64 x.d, .string r, .bool true, .bool o] 41)).alloc (.cells #[.int .i64 0, .int .i64 0, .int .i64 0, .int .i64 0, .int .i64 0, .int .i64 0, .int .i64 0, .int .i64 0, .int .i64 0, .int .i64 0, .string ⟨#[]⟩, .bool false, .bool false] 41)) w.heap.size ⟨n, a, c, x, r, true, o⟩) := Lib.hid (heap_alloc2_old _ _ _)
  have R0 : Hid (DeAt ((w.alloc (.cells #[.int .i64 n, .int .i64 a, .int .i64 c, .int .i64 x.g0, .int .i64 x.g1, .int .i64 x.g2, .int .i64 x.g3, .int .i64 x.l, .int .i64 x.s, .int .i64 x.d, .string r, .bool true, .bool o] 41)).alloc (.cells #[.int .i64 0, .int .i64 0, .int .i64 0, .int .i64 0, .int .i64 0, .int .i64 0, .int .i64 0, .int .i64 0, .int .i64 0, .int .i64 0, .string ⟨#[]⟩, .bool false, .bool false] 41)) (w.heap.size + 1) zeroDe) := Lib.hid (heap_alloc2_new _ _ _)
  have B0 := Lib.hid (below_two w (.cells #[.int .i64 n, .int .i64 a, .int .i64 c, .int .i64 x.g0, .int .i64 x.g1, .int .i64 x.g2, .int .i64 x.g3, .int .i64 x.l, .int .i64 x.s, .int .i64 x.d, .string r, .bool true, .bool o] 41) (.cells #[.int .i64 0, .int .i64 0, .int .i64 0, .int .i64 0, .int .i64 0, .int .i64 0, .int .i64 0, .int .i64 0, .int .i64 0, .int .i64 0, .string ⟨#[]⟩, .bool false, .bool false] 41))
  have hfd : ∀ v w, (Instr.field 60 (prV n v) 1).run Tryz.prog w = .ok (.string (prHead n)) w := fun _ _ => by kernel_rfl
  have HPv : Hid (∀ v, prV n v = .agg #[.string (prName n), .string (prHead n), v, .bool (prRight n), .bool (prShifts n), .bool (prSingle n), .bool (prReset n), .bool (prClear n)]) := Lib.hid (fun _ => rfl)
  unfold prV at hfd HEn
  have HFd := Lib.hid hfd
  clear hfd
  unfold DeDone deV failD at HFl
  unfold stV at HEn
  dsimp only at HFl
  have HV : Hid (deV ⟨n, a, c, x, r, true, o⟩ = .agg #[.int .i64 n, .int .i64 a, .int .i64 c, .int .i64 x.g0, .int .i64 x.g1, .int .i64 x.g2, .int .i64 x.g3, .int .i64 x.l, .int .i64 x.s, .int .i64 x.d, .string r, .bool true, .bool o]) := Lib.hid rfl
  rw [HV.out]
  go_enter Tryz.func108, Tryz.ntmps108
  go_wp2_with fail
  generalize (w.alloc (.cells #[.int .i64 n, .int .i64 a, .int .i64 c, .int .i64 x.g0, .int .i64 x.g1, .int .i64 x.g2, .int .i64 x.g3, .int .i64 x.l, .int .i64 x.s, .int .i64 x.d, .string r, .bool true, .bool o] 41)).alloc (.cells #[.int .i64 0, .int .i64 0, .int .i64 0, .int .i64 0, .int .i64 0, .int .i64 0, .int .i64 0, .int .i64 0, .int .i64 0, .int .i64 0, .string ⟨#[]⟩, .bool false, .bool false] 41) = w1 at *
  have D1 := D0
  have R1 := R0
  have B1 := B0
  clear D0 R0 B0
  refine (HFl.out 13 _).mono ?_
  rintro e w2 ⟨rfl, b2⟩
  have R2 := Lib.hid (R1.out.keep b2)
  have B2 := Lib.hid (B1.out.trans (b2.mono B1.out.size))
  have ⟨r0, r1, r2, r3, r4, r5, r6, r7, r8, r9, r10, r11, r12⟩ := deCells R2.out
  have ⟨s0, s1, s2, s3, s4, s5, s6, s7, s8, s9, s10, s11, s12⟩ := R2.out.thaw
  have hl2 := R2.out.lt
  clear b2
  go_wp2
  exact de_ret (y := failD ⟨n, a, c, x, r, true, o⟩ 13) rfl rfl (R2.out.put (failD ⟨n, a, c, x, r, true, o⟩ 13)) Tryz.underlying41 rfl (by kernel_rfl) rfl (below_putDe B2.out (by omega) (failD ⟨n, a, c, x, r, true, o⟩ 13))

set_option maxHeartbeats 2000000 in
set_option maxRecDepth 100000 in
theorem closeB0 (n a c : Int) (x : St) (r : ByteArray) (o : Bool) (w : World) (he : (prHead n).toList.isEmpty = true) (hr : r.toList.isEmpty = true) : Calls Tryz.prog 108 #[deV ⟨n, a, c, x, r, false, o⟩] w (DeDone (failD ⟨n, a, c, x, r, false, o⟩ (endC n x)) w) := by
  have HPf := Lib.hid (fun w => spec_l05Profile n w)
  have HFl := Lib.hid (fun k w => spec_l08Fail ⟨n, a, c, x, r, false, o⟩ k w)
  have HEn := Lib.hid (fun v w hv => spec_l06End n v x w hv)
  have D0 : Hid (DeAt ((w.alloc (.cells #[.int .i64 n, .int .i64 a, .int .i64 c, .int .i64 x.g0, .int .i64 x.g1, .int .i64 x.g2, .int .i64 x.g3, .int .i64 x.l, .int .i64 x.s, .int .i64 x.d, .string r, .bool false, .bool o] 41)).alloc (.cells #[.int .i64 0, .int .i64 0, .int .i64 0, .int .i64 0, .int .i64 0, .int .i64 0, .int .i64 0, .int .i64 0, .int .i64 0, .int .i64 0, .string ⟨#[]⟩, .bool false, .bool false] 41)) w.heap.size ⟨n, a, c, x, r, false, o⟩) := Lib.hid (heap_alloc2_old _ _ _)
  have R0 : Hid (DeAt ((w.alloc (.cells #[.int .i64 n, .int .i64 a, .int .i64 c, .int .i64 x.g0, .int .i64 x.g1, .int .i64 x.g2, .int .i64 x.g3, .int .i64 x.l, .int .i64 x.s, .int .i64 x.d, .string r, .bool false, .bool o] 41)).alloc (.cells #[.int .i64 0, .int .i64 0, .int .i64 0, .int .i64 0, .int .i64 0, .int .i64 0, .int .i64 0, .int .i64 0, .int .i64 0, .int .i64 0, .string ⟨#[]⟩, .bool false, .bool false] 41)) (w.heap.size + 1) zeroDe) := Lib.hid (heap_alloc2_new _ _ _)
  have B0 := Lib.hid (below_two w (.cells #[.int .i64 n, .int .i64 a, .int .i64 c, .int .i64 x.g0, .int .i64 x.g1, .int .i64 x.g2, .int .i64 x.g3, .int .i64 x.l, .int .i64 x.s, .int .i64 x.d, .string r, .bool false, .bool o] 41) (.cells #[.int .i64 0, .int .i64 0, .int .i64 0, .int .i64 0, .int .i64 0, .int .i64 0, .int .i64 0, .int .i64 0, .int .i64 0, .int .i64 0, .string ⟨#[]⟩, .bool false, .bool false] 41))
  have hfd : ∀ v w, (Instr.field 60 (prV n v) 1).run Tryz.prog w = .ok (.string (prHead n)) w := fun _ _ => by kernel_rfl
  have HPv : Hid (∀ v, prV n v = .agg #[.string (prName n), .string (prHead n), v, .bool (prRight n), .bool (prShifts n), .bool (prSingle n), .bool (prReset n), .bool (prClear n)]) := Lib.hid (fun _ => rfl)
  unfold prV at hfd HEn
  have HFd := Lib.hid hfd
  clear hfd
  unfold DeDone deV failD at HFl
  unfold stV at HEn
  dsimp only at HFl
  have HV : Hid (deV ⟨n, a, c, x, r, false, o⟩ = .agg #[.int .i64 n, .int .i64 a, .int .i64 c, .int .i64 x.g0, .int .i64 x.g1, .int .i64 x.g2, .int .i64 x.g3, .int .i64 x.l, .int .i64 x.s, .int .i64 x.d, .string r, .bool false, .bool o]) := Lib.hid rfl
  rw [HV.out]
  go_enter Tryz.func108, Tryz.ntmps108
  go_wp2_with fail
  refine (HPf.out _).mono ?_
  generalize (w.alloc (.cells #[.int .i64 n, .int .i64 a, .int .i64 c, .int .i64 x.g0, .int .i64 x.g1, .int .i64 x.g2, .int .i64 x.g3, .int .i64 x.l, .int .i64 x.s, .int .i64 x.d, .string r, .bool false, .bool o] 41)).alloc (.cells #[.int .i64 0, .int .i64 0, .int .i64 0, .int .i64 0, .int .i64 0, .int .i64 0, .int .i64 0, .int .i64 0, .int .i64 0, .int .i64 0, .string ⟨#[]⟩, .bool false, .bool false] 41) = W at *
  rintro e w1 ⟨pv, rfl, hpv, b1⟩
  have hf1 := HFd.out pv w1
  unfold prV
  have D1 := Lib.hid (D0.out.keep b1)
  have R1 := Lib.hid (R0.out.keep b1)
  have B1 := Lib.hid (B0.out.trans (b1.mono B0.out.size))
  clear b1 hpv D0 R0 B0
  have ⟨y0, y1, y2, y3, y4, y5, y6, y7, y8, y9, y10, y11, y12⟩ := deCells D1.out
  have hl1 := D1.out.lt
  go_wp2_with fail
  clear y0 y1 y2 y3 y4 y5 y6 y7 y8 y9 y10 y11 y12
  have hS : (fun W' : World => DeAt W' w.heap.size ⟨n, a, c, x, r, false, o⟩ ∧ Below w.heap.size w W') w1.drew := ⟨D1.out, below_drewN B1.out 1⟩
  refine wp_region_held (S := (fun W' : World => DeAt W' w.heap.size ⟨n, a, c, x, r, false, o⟩ ∧ Below w.heap.size w W')) (by kernel_rfl) ?_
  refine wpAnyH_take (i := 0) (v := .agg #[.int .i64 n, .int .i64 a, .int .i64 c, .int .i64 x.g0, .int .i64 x.g1, .int .i64 x.g2, .int .i64 x.g3, .int .i64 x.l, .int .i64 x.s, .int .i64 x.d, .string r, .bool false, .bool o]) rfl (by kernel_rfl) (by kernel_rfl) (by kernel_rfl) (fun _ _ _ h => h) (.inl ⟨by rfl, fun w' hS' => by have ⟨y0, y1, y2, y3, y4, y5, y6, y7, y8, y9, y10, y11, y12⟩ := deCells hS'.1; go_simp⟩) hS ?_
  refine wpAnyH_take (i := 1) (v := .pointer (some ⟨w.heap.size, 0, none⟩)) rfl (by kernel_rfl) (by kernel_rfl) (by kernel_rfl) (fun _ _ _ h => h) (.inl ⟨by rfl, fun w' hS' => by go_simp⟩) hS ?_
  refine wpAnyH_take (i := 2) (v := .int .i64 n) rfl (by kernel_rfl) (by kernel_rfl) (by kernel_rfl) (fun _ _ _ h => h) (.inl ⟨by rfl, fun w' hS' => by have y0 := (deCells hS'.1).1; go_simp⟩) hS ?_
  refine wpAnyH_take (i := 4) (v := .pointer (some ⟨w.heap.size, 3, none⟩)) rfl (by kernel_rfl) (by kernel_rfl) (by kernel_rfl) (fun _ _ _ h => h) (.inl ⟨by rfl, fun w' hS' => by go_simp⟩) hS ?_
  refine wpAnyH_take (i := 5) (v := .agg #[.int .i64 x.g0, .int .i64 x.g1, .int .i64 x.g2, .int .i64 x.g3, .int .i64 x.l, .int .i64 x.s, .int .i64 x.d]) rfl (by kernel_rfl) (by kernel_rfl) (by kernel_rfl) (fun _ _ _ h => h) (.inl ⟨by rfl, fun w' hS' => by have ⟨y0, y1, y2, y3, y4, y5, y6, y7, y8, y9, y10, y11, y12⟩ := deCells hS'.1; go_simp⟩) hS ?_
  refine wpAnyH_ready (rs := [3]) (by kernel_rfl) (by simp) (AllReadyH.cons rfl (fun K hK => ?_) AllReadyH.nil)
  clear hS
  go_simp
  refine (HPf.out _).mono ?_
  rintro e w2 ⟨pw, rfl, hpw, b2⟩
  obtain ⟨vg, vc, rfl⟩ := hpw.form
  rw [HPv.out]
  have D2 := Lib.hid (D1.out.keep (bel_drew b2))
  have R2 := Lib.hid (R1.out.keep (bel_drew b2))
  have B2 := Lib.hid (B1.out.trans ((bel_drew b2).mono B1.out.size))
  refine hK.out _ _ ⟨D2.out, B2.out⟩ (fun _ => ?_)
  clear hK K b2 hpw
  refine wpAnyH_ready (rs := [6]) (by kernel_rfl) (by simp) (AllReadyH.cons rfl (fun K hK => ?_) AllReadyH.nil)
  go_simp
  refine (HEn.out _ _ ⟨vg, vc, rfl⟩).mono ?_
  rintro e w3 ⟨rfl, b3⟩
  have D3 := Lib.hid (D2.out.keep b3)
  have R3 := Lib.hid (R2.out.keep b3)
  have B3 := Lib.hid (B2.out.trans (b3.mono B2.out.size))
  refine hK.out _ _ ⟨D3.out, B3.out⟩ (fun _ => ?_)
  clear hK K b3
  refine wpAnyH_ready (rs := [7]) (by kernel_rfl) (by simp) (AllReadyH.cons rfl (fun K hK => ?_) AllReadyH.nil)
  go_simp
  refine (HFl.out (endC n x) _).mono ?_
  rintro e w4 ⟨rfl, b4⟩
  have D4 := Lib.hid (D3.out.keep b4)
  have R4 := Lib.hid (R3.out.keep b4)
  have B4 := Lib.hid (B3.out.trans (b4.mono B3.out.size))
  refine hK.out _ _ ⟨D4.out, B4.out⟩ (fun _ => ?_)
  clear hK K b4
  refine wpAnyH_ready (rs := [8]) (by kernel_rfl) (by simp) (AllReadyH.cons rfl (fun K hK => ?_) AllReadyH.nil)
  have ⟨r0, r1, r2, r3, r4, r5, r6, r7, r8, r9, r10, r11, r12⟩ := deCells R4.out
  have ⟨s0, s1, s2, s3, s4, s5, s6, s7, s8, s9, s10, s11, s12⟩ := R4.out.thaw
  have hl2 := R4.out.lt
  have R5 := Lib.hid (R4.out.put (failD ⟨n, a, c, x, r, false, o⟩ (endC n x)))
  have B5 := Lib.hid (below_putDe B4.out (show w.heap.size ≤ w.heap.size + 1 by omega) (failD ⟨n, a, c, x, r, false, o⟩ (endC n x)))
  have D5 : Hid (DeAt (putDe w4 (w.heap.size + 1) (failD ⟨n, a, c, x, r, false, o⟩ (endC n x))) w.heap.size ⟨n, a, c, x, r, false, o⟩) := Lib.hid (((only_putDe (w.heap.size + 1) w4 (failD ⟨n, a, c, x, r, false, o⟩ (endC n x))).2 _ (by omega) D4.out.lt).trans D4.out)
  go_simp
  refine hK.out _ _ ⟨D5.out, B5.out⟩ (fun _ => ?_)
  clear hK K
  refine wpAnyH_done (by kernel_rfl) ?_ _
  clear r0 r1 r2 r3 r4 r5 r6 r7 r8 r9 r10 r11 r12 s0 s1 s2 s3 s4 s5 s6 s7 s8 s9 s10 s11 s12
  go_wp2
  exact de_ret (y := failD ⟨n, a, c, x, r, false, o⟩ (endC n x)) rfl rfl R5.out Tryz.underlying41 rfl (by kernel_rfl) rfl B5.out

set_option maxHeartbeats 2000000 in
set_option maxRecDepth 100000 in
theorem closeA0 (n a c : Int) (x : St) (r : ByteArray) (o : Bool) (w : World) (hr : r.toList.isEmpty = true) : Calls Tryz.prog 108 #[deV ⟨n, a, c, x, r, true, o⟩] w (DeDone (failD ⟨n, a, c, x, r, true, o⟩ (endC n x)) w) := by
  have HPf := Lib.hid (fun w => spec_l05Profile n w)
  have HFl := Lib.hid (fun k w => spec_l08Fail ⟨n, a, c, x, r, true, o⟩ k w)
  have HEn := Lib.hid (fun v w hv => spec_l06End n v x w hv)
  have D0 : Hid (DeAt ((w.alloc (.cells #[.int .i64 n, .int .i64 a, .int .i64 c, .int .i64 x.g0, .int .i64 x.g1, .int .i64 x.g2, .int .i64 x.g3, .int .i64 x.l, .int .i64 x.s, .int .i64 x.d, .string r, .bool true, .bool o] 41)).alloc (.cells #[.int .i64 0, .int .i64 0, .int .i64 0, .int .i64 0, .int .i64 0, .int .i64 0, .int .i64 0, .int .i64 0, .int .i64 0, .int .i64 0, .string ⟨#[]⟩, .bool false, .bool false] 41)) w.heap.size ⟨n, a, c, x, r, true, o⟩) := Lib.hid (heap_alloc2_old _ _ _)
  have R0 : Hid (DeAt ((w.alloc (.cells #[.int .i64 n, .int .i64 a, .int .i64 c, .int .i64 x.g0, .int .i64 x.g1, .int .i64 x.g2, .int .i64 x.g3, .int .i64 x.l, .int .i64 x.s, .int .i64 x.d, .string r, .bool true, .bool o] 41)).alloc (.cells #[.int .i64 0, .int .i64 0, .int .i64 0, .int .i64 0, .int .i64 0, .int .i64 0, .int .i64 0, .int .i64 0, .int .i64 0, .int .i64 0, .string ⟨#[]⟩, .bool false, .bool false] 41)) (w.heap.size + 1) zeroDe) := Lib.hid (heap_alloc2_new _ _ _)
  have B0 := Lib.hid (below_two w (.cells #[.int .i64 n, .int .i64 a, .int .i64 c, .int .i64 x.g0, .int .i64 x.g1, .int .i64 x.g2, .int .i64 x.g3, .int .i64 x.l, .int .i64 x.s, .int .i64 x.d, .string r, .bool true, .bool o] 41) (.cells #[.int .i64 0, .int .i64 0, .int .i64 0, .int .i64 0, .int .i64 0, .int .i64 0, .int .i64 0, .int .i64 0, .int .i64 0, .int .i64 0, .string ⟨#[]⟩, .bool false, .bool false] 41))
  have hfd : ∀ v w, (Instr.field 60 (prV n v) 1).run Tryz.prog w = .ok (.string (prHead n)) w := fun _ _ => by kernel_rfl
  have HPv : Hid (∀ v, prV n v = .agg #[.string (prName n), .string (prHead n), v, .bool (prRight n), .bool (prShifts n), .bool (prSingle n), .bool (prReset n), .bool (prClear n)]) := Lib.hid (fun _ => rfl)
  unfold prV at hfd HEn
  have HFd := Lib.hid hfd
  clear hfd
  unfold DeDone deV failD at HFl
  unfold stV at HEn
  dsimp only at HFl
  have HV : Hid (deV ⟨n, a, c, x, r, true, o⟩ = .agg #[.int .i64 n, .int .i64 a, .int .i64 c, .int .i64 x.g0, .int .i64 x.g1, .int .i64 x.g2, .int .i64 x.g3, .int .i64 x.l, .int .i64 x.s, .int .i64 x.d, .string r, .bool true, .bool o]) := Lib.hid rfl
  rw [HV.out]
  go_enter Tryz.func108, Tryz.ntmps108
  go_wp2_with fail
  generalize (w.alloc (.cells #[.int .i64 n, .int .i64 a, .int .i64 c, .int .i64 x.g0, .int .i64 x.g1, .int .i64 x.g2, .int .i64 x.g3, .int .i64 x.l, .int .i64 x.s, .int .i64 x.d, .string r, .bool true, .bool o] 41)).alloc (.cells #[.int .i64 0, .int .i64 0, .int .i64 0, .int .i64 0, .int .i64 0, .int .i64 0, .int .i64 0, .int .i64 0, .int .i64 0, .int .i64 0, .string ⟨#[]⟩, .bool false, .bool false] 41) = w1 at *
  have D1 := D0
  have R1 := R0
  have B1 := B0
  clear D0 R0 B0
  have hS : (fun W' : World => DeAt W' w.heap.size ⟨n, a, c, x, r, true, o⟩ ∧ Below w.heap.size w W') w1.drew := ⟨D1.out, below_drewN B1.out 1⟩
  refine wp_region_held (S := (fun W' : World => DeAt W' w.heap.size ⟨n, a, c, x, r, true, o⟩ ∧ Below w.heap.size w W')) (by kernel_rfl) ?_
  refine wpAnyH_take (i := 0) (v := .agg #[.int .i64 n, .int .i64 a, .int .i64 c, .int .i64 x.g0, .int .i64 x.g1, .int .i64 x.g2, .int .i64 x.g3, .int .i64 x.l, .int .i64 x.s, .int .i64 x.d, .string r, .bool true, .bool o]) rfl (by kernel_rfl) (by kernel_rfl) (by kernel_rfl) (fun _ _ _ h => h) (.inl ⟨by rfl, fun w' hS' => by have ⟨y0, y1, y2, y3, y4, y5, y6, y7, y8, y9, y10, y11, y12⟩ := deCells hS'.1; go_simp⟩) hS ?_
  refine wpAnyH_take (i := 1) (v := .pointer (some ⟨w.heap.size, 0, none⟩)) rfl (by kernel_rfl) (by kernel_rfl) (by kernel_rfl) (fun _ _ _ h => h) (.inl ⟨by rfl, fun w' hS' => by go_simp⟩) hS ?_
  refine wpAnyH_take (i := 2) (v := .int .i64 n) rfl (by kernel_rfl) (by kernel_rfl) (by kernel_rfl) (fun _ _ _ h => h) (.inl ⟨by rfl, fun w' hS' => by have y0 := (deCells hS'.1).1; go_simp⟩) hS ?_
  refine wpAnyH_take (i := 4) (v := .pointer (some ⟨w.heap.size, 3, none⟩)) rfl (by kernel_rfl) (by kernel_rfl) (by kernel_rfl) (fun _ _ _ h => h) (.inl ⟨by rfl, fun w' hS' => by go_simp⟩) hS ?_
  refine wpAnyH_take (i := 5) (v := .agg #[.int .i64 x.g0, .int .i64 x.g1, .int .i64 x.g2, .int .i64 x.g3, .int .i64 x.l, .int .i64 x.s, .int .i64 x.d]) rfl (by kernel_rfl) (by kernel_rfl) (by kernel_rfl) (fun _ _ _ h => h) (.inl ⟨by rfl, fun w' hS' => by have ⟨y0, y1, y2, y3, y4, y5, y6, y7, y8, y9, y10, y11, y12⟩ := deCells hS'.1; go_simp⟩) hS ?_
  refine wpAnyH_ready (rs := [3]) (by kernel_rfl) (by simp) (AllReadyH.cons rfl (fun K hK => ?_) AllReadyH.nil)
  clear hS
  go_simp
  refine (HPf.out _).mono ?_
  rintro e w2 ⟨pw, rfl, hpw, b2⟩
  obtain ⟨vg, vc, rfl⟩ := hpw.form
  rw [HPv.out]
  have D2 := Lib.hid (D1.out.keep (bel_drew b2))
  have R2 := Lib.hid (R1.out.keep (bel_drew b2))
  have B2 := Lib.hid (B1.out.trans ((bel_drew b2).mono B1.out.size))
  refine hK.out _ _ ⟨D2.out, B2.out⟩ (fun _ => ?_)
  clear hK K b2 hpw
  refine wpAnyH_ready (rs := [6]) (by kernel_rfl) (by simp) (AllReadyH.cons rfl (fun K hK => ?_) AllReadyH.nil)
  go_simp
  refine (HEn.out _ _ ⟨vg, vc, rfl⟩).mono ?_
  rintro e w3 ⟨rfl, b3⟩
  have D3 := Lib.hid (D2.out.keep b3)
  have R3 := Lib.hid (R2.out.keep b3)
  have B3 := Lib.hid (B2.out.trans (b3.mono B2.out.size))
  refine hK.out _ _ ⟨D3.out, B3.out⟩ (fun _ => ?_)
  clear hK K b3
  refine wpAnyH_ready (rs := [7]) (by kernel_rfl) (by simp) (AllReadyH.cons rfl (fun K hK => ?_) AllReadyH.nil)
  go_simp
  refine (HFl.out (endC n x) _).mono ?_
  rintro e w4 ⟨rfl, b4⟩
  have D4 := Lib.hid (D3.out.keep b4)
  have R4 := Lib.hid (R3.out.keep b4)
  have B4 := Lib.hid (B3.out.trans (b4.mono B3.out.size))
  refine hK.out _ _ ⟨D4.out, B4.out⟩ (fun _ => ?_)
  clear hK K b4
  refine wpAnyH_ready (rs := [8]) (by kernel_rfl) (by simp) (AllReadyH.cons rfl (fun K hK => ?_) AllReadyH.nil)
  have ⟨r0, r1, r2, r3, r4, r5, r6, r7, r8, r9, r10, r11, r12⟩ := deCells R4.out
  have ⟨s0, s1, s2, s3, s4, s5, s6, s7, s8, s9, s10, s11, s12⟩ := R4.out.thaw
  have hl2 := R4.out.lt
  have R5 := Lib.hid (R4.out.put (failD ⟨n, a, c, x, r, true, o⟩ (endC n x)))
  have B5 := Lib.hid (below_putDe B4.out (show w.heap.size ≤ w.heap.size + 1 by omega) (failD ⟨n, a, c, x, r, true, o⟩ (endC n x)))
  have D5 : Hid (DeAt (putDe w4 (w.heap.size + 1) (failD ⟨n, a, c, x, r, true, o⟩ (endC n x))) w.heap.size ⟨n, a, c, x, r, true, o⟩) := Lib.hid (((only_putDe (w.heap.size + 1) w4 (failD ⟨n, a, c, x, r, true, o⟩ (endC n x))).2 _ (by omega) D4.out.lt).trans D4.out)
  go_simp
  refine hK.out _ _ ⟨D5.out, B5.out⟩ (fun _ => ?_)
  clear hK K
  refine wpAnyH_done (by kernel_rfl) ?_ _
  clear r0 r1 r2 r3 r4 r5 r6 r7 r8 r9 r10 r11 r12 s0 s1 s2 s3 s4 s5 s6 s7 s8 s9 s10 s11 s12
  go_wp2
  exact de_ret (y := failD ⟨n, a, c, x, r, true, o⟩ (endC n x)) rfl rfl R5.out Tryz.underlying41 rfl (by kernel_rfl) rfl B5.out

theorem spec_l08Close (d : De) (w : World) : Calls Tryz.prog 108 #[deV d] w (DeDone (failD d (clC d)) w) := by
  obtain ⟨n, a, c, x, r, b, o⟩ := d
  unfold clC
  dsimp only
  by_cases h15 : b = false ∧ 0 < (prHead n).size
  · rw [if_pos h15]
    obtain ⟨rfl, hh⟩ := h15
    exact close15 n a c x r o w (some_size hh)
  rw [if_neg h15]
  by_cases h0 : 0 < r.size
  · rw [if_pos h0]
    cases b
    · exact closeB1 n a c x r o w (empty_size (by
        have : ¬ 0 < (prHead n).size := fun h => h15 ⟨rfl, h⟩
        omega)) (some_size h0)
    · exact closeA1 n a c x r o w (some_size h0)
  · rw [if_neg h0]
    cases b
    · exact closeB0 n a c x r o w (empty_size (by
        have : ¬ 0 < (prHead n).size := fun h => h15 ⟨rfl, h⟩
        omega)) (empty_size (by omega))
    · exact closeA0 n a c x r o w (empty_size (by omega))

end Go.Proofs.YtbamjhldebobhaaGreatDoor
