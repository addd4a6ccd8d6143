/- All of a list are characters. -/
import Derived.Test.YtdckjhobikfggaaDoorInts
namespace Go.Proofs.YtdckjhobikfggaaDoor
open Go.RowKit

def okAll (zs : List Int) : Bool := zs.all okB
theorem okAll_at {zs : List Int} (h : okAll zs = true) (k : Nat) (hk : k < zs.length) : okB (zs.getD k 0) = true := by
  unfold okAll at h
  rw [List.all_eq_true] at h
  apply h
  simp [List.getD, List.getElem?_eq_getElem hk]
theorem okAll_bad {zs : List Int} (k : Nat) (hk : k < zs.length) (h : okB (zs.getD k 0) = false) : okAll zs = false := by
  by_cases h' : okAll zs = true
  · rw [okAll_at h' k hk] at h; cases h
  · simpa using h'
theorem okAll_take {zs : List Int} (k : Nat) (hk : k < zs.length) (h : okAll (zs.take k) = true) (h' : okB (zs.getD k 0) = true) : okAll (zs.take (k + 1)) = true := by
  unfold okAll at *
  rw [List.take_succ_eq_append_getElem hk, List.all_append, h]
  simpa [List.getD, List.getElem?_eq_getElem hk] using h'

set_option maxHeartbeats 400000 in
theorem spec_l01All (v : Value) (zs : List Int) (w : World) (h : Ints .i64 w v zs) (hl : zs.length ≤ 1048576) : Calls Tryd.prog 40 #[v] w fun e w' => e = .returned (.bool (okAll zs)) ∧ w = w' := by
  rcases h with ⟨rfl, a, c, rfl⟩ | ⟨b, off, c, rfl, hcell⟩
  · go_enter Tryd.func40, Tryd.ntmps40
    go_wp2
    go_loop [3] (fun i => i = .int .i64 0) (fun _ => 0)
    case atStart => rfl
    case round =>
      subst hrel
      go_wp2
      go_ret
      exact ⟨rfl, rfl⟩
  · generalize hn : zs.length = n at *
    have HN := Lib.hid hn
    clear hn
    go_enter Tryd.func40, Tryd.ntmps40
    go_wp2
    go_loop [3] (fun i => ∃ k : Nat, k ≤ n ∧ i = .int .i64 k ∧ Hid (okAll (zs.take k) = true)) (fun i => n - (intOf i).toNat)
    case atStart => exact ⟨0, Nat.zero_le _, rfl, Lib.hid rfl⟩
    case round =>
      obtain ⟨k, hk, rfl, HO⟩ := hrel
      by_cases hlt : k < n
      · have c1 := hcell k hlt
        have h1 : (0 : Int) ≤ (k : Int) := by omega
        have h2 : (k : Int) < (n : Int) := by omega
        generalize hx : zs.getD k 0 = x at c1
        have HX := Lib.hid hx
        clear hcell hx
        by_cases hr : okB x = true
        · go_wp2_with (go_at_call 45; refine (spec_l01OK _ _).mono ?_; rintro e w' ⟨rfl, rfl⟩)
          go_round
          case rel => exact ⟨k + 1, by omega, by go_num, Lib.hid (okAll_take k (by have := HN.out; omega) HO.out (by rw [HX.out]; exact hr))⟩
          case measure => simp [intOf]; omega
        · have hr' : okB x = false := by simpa using hr
          have HF : Hid (okAll zs = false) := Lib.hid (okAll_bad k (by have := HN.out; omega) (by rw [HX.out]; exact hr'))
          go_wp2_with (go_at_call 45; refine (spec_l01OK _ _).mono ?_; rintro e w' ⟨rfl, rfl⟩)
          go_ret
          exact ⟨ret_bool HF.out.symm, rfl⟩
      · have HF : Hid (okAll zs = true) := Lib.hid (by have := HO.out; rwa [List.take_of_length_le (by have := HN.out; omega)] at this)
        go_wp2
        go_ret
        exact ⟨ret_bool HF.out.symm, rfl⟩

end Go.Proofs.YtdckjhobikfggaaDoor
