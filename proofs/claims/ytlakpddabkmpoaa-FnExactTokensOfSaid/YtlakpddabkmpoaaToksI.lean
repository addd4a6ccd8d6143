/- The program's TokensOf. -/
import Derived.Test.YtlakpddabkmpoaaNextJ
namespace Go.Proofs.Ytlakpddabkmpoaa
open Go.RowKit

theorem tksDone_bad {s : ByteArray} {w w' : World} {c : Int} (hc : tksC s = c) (h0 : c ≠ 0) (hb : Below w.heap.size w w') : TksDone s w (.returned (.tuple #[.slice none 0 0, .int .i64 c])) w' := by
  have ht : tksT s = [] := by rw [tksT, if_neg (by omega)]
  refine ⟨.slice none 0 0, by rw [hc], ?_, hb⟩
  rw [ht]
  exact OwnK.nil _ _

set_option maxHeartbeats 2000000 in
set_option maxRecDepth 100000 in
theorem impl_TokensOf (s : ByteArray) (w : World) (hs : s.size ≤ 9223372036854775807) : Calls Try.prog 9 #[.string s] w (TksDone s w) := by
  by_cases h1 : 65536 < s.size
  · have HD : Hid (TksDone s w (.returned (.tuple #[.slice none 0 0, .int .i64 2])) w) := Lib.hid (tksDone_bad (by simp [tksC, h1]) (by decide) (Below.refl _ _))
    have h1' : (65536 : Int) < (s.size : Int) := by omega
    go_enter Try.func9, Try.ntmps9
    go_wp2
    go_ret2
    exact HD.out
  have h1' : (s.size : Int) ≤ 65536 := by omega
  have hs2 : s.size ≤ 1048576 := by omega
  have HM : Hid (4096 < (toksOf s).length → tksC s = 6) := Lib.hid (fun h => by simp [tksC, h1, h])
  have HO : Hid (¬ 4096 < (toksOf s).length → tksC s = 0 ∧ tksT s = toksOf s) := Lib.hid (fun h => by
    have hc : tksC s = 0 := by simp [tksC, h1, h]
    exact ⟨hc, by rw [tksT, if_pos hc]⟩)
  go_enter Try.func9, Try.ntmps9
  go_wp2
  go_loopw [4, 5] (fun v i wr => ∃ (k f : Nat) (ts : List Tok), k ≤ s.size ∧ i = .int .i64 k ∧ Hid (s.size ≤ k + f) ∧ ts.length ≤ 4096 ∧ Hid (toksOf s = ts ++ toksFrom s f k) ∧ OwnK wr w.heap.size v ts.length (tkZ ts) ∧ Below w.heap.size w wr) (fun _ i _ => s.size - (intOf i).toNat)
  case atStart => exact ⟨0, s.size, [], by omega, rfl, Lib.hid (by omega), by simp, Lib.hid rfl, OwnK.nil _ _, Below.refl _ _⟩
  case round =>
    obtain ⟨k, f, ts, hk, rfl, HF, hts, HT, ho, hb⟩ := hrel
    obtain ⟨a0, c0, rfl⟩ := ho.form
    by_cases hlt : k < s.size
    · obtain ⟨f, rfl⟩ : ∃ q, f = q + 1 := ⟨f - 1, by have := HF.out; omega⟩
      have v2 : (k : Int) < (s.size : Int) := by omega
      have HU : Hid (toksFrom s (f + 1) k = nextTok s k :: toksFrom s f (k + (nextTok s k).n.toNat)) := Lib.hid (by rw [toksFrom, if_pos hlt])
      by_cases hfull : ts.length = 4096
      · have HD : Hid (TksDone s w (.returned (.tuple #[.slice none 0 0, .int .i64 6])) wr) := Lib.hid (tksDone_bad (HM.out (by rw [HT.out, HU.out]; simp; omega)) (by decide) hb)
        have hf2 : (ts.length : Int) = 4096 := by omega
        go_wp2
        go_ret2
        exact HD.out
      · have hf2 : ((ts.length : Int) == 4096) = false := by rw [beq_eq_false_iff_ne]; omega
        have n1 := (nextTok_in s k hlt).2.1
        have n2 := (nextTok_in s k hlt).2.2
        go_wp2_with fail
        refine (impl_tokenAt s k wr hlt hs2).mono ?_
        rintro e w1 ⟨rfl, b1⟩
        have o1 := ho.all b1
        have B1 : Below w.heap.size w w1 := hb.trans (b1.mono hb.size)
        have hsz := B1.size
        clear ho hb b1
        generalize nextTok s k = y at *
        have u1 : IntKind.i64.wrap ((k : Int) + y.n) = (k : Int) + y.n := IntWalk.i64_in _ (by omega)
        have L1 := Lib.hid (fun g hg => (World.ownsRow.lt o1 g hg).2)
        have hX : TokAt ((w1.alloc (.cells #[.int .i64 y.k, .int .i64 y.a, .int .i64 y.b, .int .i64 y.c, .int .i64 y.p, .int .i64 y.n] 23)).alloc (.cells #[.int .i64 y.k, .int .i64 y.a, .int .i64 y.b, .int .i64 y.c, .int .i64 y.p, .int .i64 y.n] 23)) w1.heap.size y := heap_alloc2_old _ _ _
        have HX := Lib.hid hX
        have hnw := World.news_of_block (show ((w1.alloc (.cells #[.int .i64 y.k, .int .i64 y.a, .int .i64 y.b, .int .i64 y.c, .int .i64 y.p, .int .i64 y.n] 23)).alloc (.cells #[.int .i64 y.k, .int .i64 y.a, .int .i64 y.b, .int .i64 y.c, .int .i64 y.p, .int .i64 y.n] 23)).heap[w1.heap.size + 1]? = some (.cells (tokCells y).toArray 23) from heap_alloc2_new _ _ _)
        have HNW := Lib.hid hnw
        clear hX hnw
        unfold tokV
        go_wp2_with (at_builtin; refine app_tok _ rfl _ _ rfl w.heap.size _ ts.length (tkZ ts) rfl ((o1.all (below_one _ _)).all (below_one _ _)) ⟨w1.heap.size + 1, 0, none⟩ 1 y rfl HNW.out (by omega) (by simp; omega) ?_)
        intro g cap2 w4 o4 g4 lt4
        have hx4 : TokAt w4 w1.heap.size y := (g4.block _ (by simp; omega) (fun h => by have := L1.out _ h.symm; omega)).trans HX.out
        have ⟨_, _, _, _, _, x5⟩ := hx4.cells
        have B4 : Below w.heap.size w w4 := ((B1.alloc hsz _).alloc (by simp; omega) _).grown g4 (by simp; omega) (fun j hj => (World.ownsRow.lt o1 j hj).1)
        obtain ⟨m, hm⟩ := Int.eq_ofNat_of_zero_le (show 0 ≤ y.n by omega)
        have HMM := Lib.hid hm
        have hm1 : 1 ≤ m := by omega
        have hm2 : k + m ≤ s.size := by omega
        have hl4 : ts.length + 1 ≤ 4096 := by omega
        have e5 : (k : Int) + y.n = ((k + m : Nat) : Int) := by omega
        clear HX L1 o1 B1 g4 hx4 hm
        go_wp2
        go_roundw
        case rel => exact ⟨k + m, f, ts ++ [y], hm2, by simp, Lib.hid (by have := HF.out; omega), by simp; omega, Lib.hid (by rw [HT.out, HU.out, HMM.out]; simp), by rw [tkZ_snoc, List.length_append]; exact o4, B4⟩
        case measure => simp [intOf]; omega
    · have HE : Hid (toksOf s = ts) := Lib.hid (by
        rw [HT.out]
        cases f with
        | zero => simp [toksFrom]
        | succ f => rw [toksFrom, if_neg hlt, List.append_nil])
      have v2 : ¬ (k : Int) < (s.size : Int) := by omega
      go_wp2
      go_ret2
      have ⟨q1, q2⟩ := HO.out (by rw [HE.out]; omega)
      exact ⟨.slice a0 ts.length c0, by rw [q1]; rfl, by rw [q2, HE.out]; exact ho, hb⟩

end Go.Proofs.Ytlakpddabkmpoaa
