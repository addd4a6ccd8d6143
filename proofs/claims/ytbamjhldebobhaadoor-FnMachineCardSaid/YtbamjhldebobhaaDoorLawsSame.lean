/- The laws' own 'sameInts' (the text of eqIntS, of another name). -/
import Derived.Test.YtbamjhldebobhaaDoorInts
namespace Go.Proofs.YtbamjhldebobhaaDoor
open Go.RowKit

set_option maxHeartbeats 400000 in
/-- Two slices hold the same numbers. -/
theorem laws_sameInts (v u : Value) (zs ys : List Int) (w : World) (hv : Ints .i64 w v zs) (hu : Ints .i64 w u ys) (hl : zs.length ≤ 1099511627776) (hl2 : ys.length ≤ 1099511627776) : Calls Tryd.prog 8 #[v, u] w fun e w' => e = .returned (.bool (decide (zs = ys))) ∧ ∃ n, w' = w.drewN n := by
  have hv2 : ∃ a c, v = .slice a zs.length c := by
    rcases hv with ⟨rfl, a, c, rfl⟩ | ⟨b, off, c, rfl, _⟩
    · exact ⟨_, _, rfl⟩
    · exact ⟨_, _, rfl⟩
  have hu2 : ∃ a c, u = .slice a ys.length c := by
    rcases hu with ⟨rfl, a, c, rfl⟩ | ⟨b, off, c, rfl, _⟩
    · exact ⟨_, _, rfl⟩
    · exact ⟨_, _, rfl⟩
  by_cases hne : zs.length = ys.length
  · by_cases h0 : zs.length = 0
    · obtain ⟨a, c, rfl⟩ := hv2
      obtain ⟨a2, c2, rfl⟩ := hu2
      have e1 : zs = [] := List.length_eq_zero_iff.1 h0
      have e2 : ys = [] := List.length_eq_zero_iff.1 (by omega)
      subst e1; subst e2
      clear hv hu h0 hne
      go_enter Tryd.func8, Tryd.ntmps8
      go_wp2
      go_loop [5] (fun i => i = .int .i64 0) (fun _ => 0)
      case atStart => rfl
      case round =>
        subst hrel
        go_wp2
        go_ret
        exact ⟨rfl, 0, rfl⟩
    · clear hv2 hu2
      rcases hv with ⟨rfl, a, c, rfl⟩ | ⟨b, off, c, rfl, hcell⟩
      · exact absurd rfl h0
      · rcases hu with ⟨rfl, a, c, rfl⟩ | ⟨b2, off2, cc, rfl, hcell2⟩
        · exact absurd hne h0
        · generalize hn : zs.length = n at *
          have HN := Lib.hid hn
          have HM := Lib.hid hne
          rw [← hne]
          rw [← hne] at hcell2
          clear hn hne
          have e0 : ((n : Int) != (n : Int)) = false := by simp
          go_enter Tryd.func8, Tryd.ntmps8
          go_wp2
          go_loopw [5] (fun i wr => ∃ k q : Nat, k ≤ n ∧ i = .int .i64 k ∧ Hid (zs.take k = ys.take k) ∧ wr = w.drewN q) (fun i _ => n - (intOf i).toNat)
          case atStart => exact ⟨0, 0, Nat.zero_le _, rfl, Lib.hid rfl, rfl⟩
          case round =>
            obtain ⟨k, q, hk, rfl, HT, rfl⟩ := hrel
            by_cases hlt : k < n
            · have c1 := hcell k hlt
              have c2 := hcell2 k hlt
              have h1 : (0 : Int) ≤ (k : Int) := by omega
              have h2 : (k : Int) < (n : Int) := by omega
              generalize hx : zs.getD k 0 = x at c1
              generalize hy : ys.getD k 0 = y at c2
              have HX := Lib.hid hx
              have HY := Lib.hid hy
              clear hcell hcell2 hx hy
              by_cases hxy : x = y
              · have hz : (x != y) = false := by simp [hxy]
                have HXY := Lib.hid hxy
                clear hxy
                go_wp2_with fail
                go_quiet (fail)
                go_wp2
                go_roundw
                case rel =>
                  refine ⟨k + 1, _, by omega, by go_num, Lib.hid (take_same (by have := HN.out; omega) (by have := HM.out; omega) HT.out (by rw [HX.out, HY.out, HXY.out])), rfl⟩
                case measure => simp [intOf]; omega
              · have hz : (x != y) = true := by simp [hxy]
                have HF : Hid (decide (zs = ys) = false) := Lib.hid (decide_eq_false (fun h => hxy (by rw [← HX.out, ← HY.out, h])))
                go_wp2_with fail
                go_quiet (fail)
                go_wp2
                go_ret
                exact ⟨ret_bool HF.out.symm, _, World.drewN_drewN ..⟩
            · have hkn : k = n := by omega
              have HF : Hid (decide (zs = ys) = true) := Lib.hid (decide_eq_true (by
                have := HT.out
                rw [List.take_of_length_le (by have := HN.out; omega), List.take_of_length_le (by have := HM.out; omega)] at this
                exact this))
              clear hkn
              go_wp2
              go_ret
              exact ⟨ret_bool HF.out.symm, _, rfl⟩
  · obtain ⟨a, c, rfl⟩ := hv2
    obtain ⟨a2, c2, rfl⟩ := hu2
    have hz : ((zs.length : Int) != (ys.length : Int)) = true := by simp; omega
    have HF : Hid (decide (zs = ys) = false) := Lib.hid (decide_eq_false (fun h => hne (by rw [h])))
    clear hv hu
    go_enter Tryd.func8, Tryd.ntmps8
    go_wp2
    go_ret
    exact ⟨ret_bool HF.out.symm, 0, rfl⟩

end Go.Proofs.YtbamjhldebobhaaDoor
