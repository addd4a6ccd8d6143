/- The program's SetsFor over its own table. -/
import Derived.Test.YtlakpddabkmpoaaDoorSetsJ
namespace Go.Proofs.YtlakpddabkmpoaaDoor
open Go.RowKit

theorem codeS_nonneg (r : Int) : ∀ sp : List Sp, (∀ s ∈ sp, smallSp s) → 0 ≤ codeS sp r
  | [], _ => by simp [codeS]
  | s :: t, h => by
    unfold codeS
    split
    · next hb =>
      have := inB_true hb
      have ⟨⟨a1, a2⟩, ⟨a3, a4⟩, a5, a6⟩ := h s (by simp)
      omega
    · exact codeS_nonneg r t (fun x hx => h x (List.mem_cons_of_mem _ hx))

set_option maxHeartbeats 1000000 in
theorem impl_SetsFor (r : Int) (w : World) (ht : TabSets w) (hu : r ≤ 9223372036854775807) : Calls Tryd.prog 24 #[.int .i64 r] w (RowDone w (setsZ r 8)) := by
  have HT := Lib.hid ht
  clear ht
  go_enter Tryd.func24, Tryd.ntmps24
  go_wp2
  go_loopw [3, 4] (fun v i wr => ∃ k : Nat, k ≤ 8 ∧ i = .int .i64 ((k : Int) + 1) ∧ Own .i64 3 wr w.heap.size v (setsZ r k) ∧ Below w.heap.size w wr) (fun _ i _ => 9 - (intOf i).toNat)
  case atStart => exact ⟨0, by omega, rfl, Own.nil .i64 3 w w.heap.size, Below.refl _ _⟩
  case round =>
    obtain ⟨k, hk, rfl, ho, hb⟩ := hrel
    by_cases hlt : k < 8
    · have hlt' : (k : Int) + 1 ≤ 8 := by omega
      have hset : setB ((k : Int) + 1) = true := by simp [setB, inB]; omega
      go_wp2_with fail
      refine (impl_CodeFor ((k : Int) + 1) r wr (HT.out.keep hb) hu).mono ?_
      rintro e w1 ⟨rfl, b1⟩
      have o1 := ho.all b1
      have B1 : Below w.heap.size w w1 := hb.trans (b1.mono hb.size)
      have hsz := B1.size
      have hlen := setsZ_length r k
      have HZ := Lib.hid (show setsZ r (k + 1) = setsZ r k ++ if 0 < codeS (setSpans ((k : Int) + 1)) r then [(k : Int) + 1] else [] from rfl)
      have hnn := codeS_nonneg r (setSpans ((k : Int) + 1)) (set_small _)
      clear ho hb b1
      unfold cfV
      by_cases hc : codeS (setSpans ((k : Int) + 1)) r = 0
      · rw [show cfC ((k : Int) + 1) r = 12 by simp [cfC, hset, hc]]
        generalize cfR ((k : Int) + 1) r = cr
        go_wp2
        go_roundw
        case rel => exact ⟨k + 1, by omega, by go_num, by rw [HZ.out, if_neg (by omega), List.append_nil]; exact o1, B1⟩
        case measure => simp [intOf]; omega
      · rw [show cfC ((k : Int) + 1) r = 0 by simp [cfC, hset, hc]]
        generalize cfR ((k : Int) + 1) r = cr
        have hc2 : 0 < codeS (setSpans ((k : Int) + 1)) r := by omega
        have HP := Lib.hid hc2
        clear hc hc2 hnn
        go_wp2_with (at_builtin; refine app_i64 _ rfl _ _ rfl w.heap.size _ _ rfl (o1.alloc _) ⟨w1.heap.size, 0, none⟩ 1 1 [(k : Int) + 1] rfl rfl (by omega) (World.news_of_block (heap_alloc_new _ _)) (by omega) (by simp; omega) ?_)
        intro g cap2 w4 o4 g4 lt4
        go_wp2
        go_roundw
        case rel => exact ⟨k + 1, by omega, by go_num, by rw [HZ.out, if_pos HP.out]; exact o4, (B1.alloc hsz _).grown g4 (by simp; omega) (fun j hj => (World.ownsRow.lt o1 j hj).1)⟩
        case measure => simp [intOf]; omega
    · have hk8 : k = 8 := by omega
      subst hk8
      go_wp2
      go_ret
      exact ⟨_, rfl, ho, hb⟩

end Go.Proofs.YtlakpddabkmpoaaDoor
