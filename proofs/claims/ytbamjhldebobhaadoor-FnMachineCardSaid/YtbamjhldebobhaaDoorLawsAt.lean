/- The laws' own 'at': a choice out of n. -/
import Derived.Test.YtbamjhldebobhaaDoorDraw
namespace Go.Proofs.YtbamjhldebobhaaDoor
open Go.RowKit

def LAtDone (w : World) (n : Int) (e : Ending) (w' : World) : Prop := ∃ (r : Int) (q : Nat), e = .returned (.int .i64 r) ∧ 0 ≤ r ∧ (r = 0 ∨ r < n) ∧ w' = w.drewN q

set_option maxHeartbeats 1000000 in
set_option maxRecDepth 100000 in
theorem laws_at (v : Value) (zs : List Int) (i : Nat) (n : Int) (w : World) (h : Ints .u8 w v zs) (hz : ∀ z ∈ zs, 0 ≤ z ∧ z ≤ 255) (hl : zs.length ≤ 1048576) (hi : i ≤ 1048576) (hn : n ≤ 1099511627776) :
    Calls Tryd.prog 15 #[v, .int .i64 i, .int .i64 n] w (LAtDone w n) := by
  by_cases h1 : n ≤ 1
  · obtain ⟨a, c, rfl⟩ := h.form
    clear h
    go_enter Tryd.func15, Tryd.ntmps15
    go_wp2
    go_ret
    exact ⟨0, 0, rfl, by omega, .inl rfl, rfl⟩
  · have h1' : 1 < n := by omega
    have n0 : (n == 0) = false := by simp; omega
    by_cases h0 : zs.length = 0
    · obtain ⟨a, c, rfl⟩ := h.form
      clear h
      rw [h0]
      have em : ((i : Int) * 7).tmod n = ((i : Int) * 7) % n := Int.tmod_eq_emod_of_nonneg (by omega)
      have m0 := Int.emod_nonneg ((i : Int) * 7) (show n ≠ 0 by omega)
      have m1 := Int.emod_lt_of_pos ((i : Int) * 7) (show 0 < n by omega)
      go_enter Tryd.func15, Tryd.ntmps15
      go_wp2
      go_ret
      exact ⟨_, 0, rfl, by omega, .inr (by omega), rfl⟩
    · obtain ⟨j1, hj1, e1⟩ : ∃ j : Nat, j < zs.length ∧ (i : Int).tmod (zs.length : Int) = (j : Int) := ⟨i % zs.length, Nat.mod_lt _ (by omega), by rw [Int.tmod_eq_emod_of_nonneg (by omega)]; rfl⟩
      obtain ⟨j2, hj2, e2⟩ : ∃ j : Nat, j < zs.length ∧ ((i : Int) + 1).tmod (zs.length : Int) = (j : Int) := ⟨(i + 1) % zs.length, Nat.mod_lt _ (by omega), by rw [Int.tmod_eq_emod_of_nonneg (by omega)]; rfl⟩
      obtain ⟨d, hd, e3⟩ : ∃ d : Nat, d ≤ i ∧ (i : Int).tdiv (zs.length : Int) = (d : Int) := ⟨i / zs.length, Nat.div_le_self _ _, by rw [Int.tdiv_eq_ediv_of_nonneg (by omega)]; rfl⟩
      obtain ⟨b, off, c, rfl, hc⟩ : ∃ b off c, v = .slice (some ⟨b, off, none⟩) zs.length c ∧ ∀ i, i < zs.length → w.cell? ⟨b, off + i, none⟩ = some (.int .u8 (zs.getD i 0)) := by
        rcases h with ⟨rfl, _⟩ | h
        · simp at h0
        · exact h
      have c1 := hc j1 hj1
      have c2 := hc j2 hj2
      have x1 : 0 ≤ zs.getD j1 0 ∧ zs.getD j1 0 ≤ 255 := hz _ (by simp [List.getD, List.getElem?_eq_getElem hj1])
      have x2 : 0 ≤ zs.getD j2 0 ∧ zs.getD j2 0 ≤ 255 := hz _ (by simp [List.getD, List.getElem?_eq_getElem hj2])
      clear h hc hz
      generalize zs.getD j1 0 = x at *
      generalize zs.getD j2 0 = y at *
      have lz : ((zs.length : Int) == 0) = false := by simp; intro hh; exact h0 (by simp [hh])
      have lz' : (0 : Int) < (zs.length : Int) := by omega
      have k1 : (j1 : Int) < (zs.length : Int) := by omega
      have k2 : (j2 : Int) < (zs.length : Int) := by omega
      have k3 : (0 : Int) ≤ (j1 : Int) := by omega
      have k4 : (0 : Int) ≤ (j2 : Int) := by omega
      have k5 : (0 : Int) ≤ (d : Int) ∧ (d : Int) ≤ 1048576 := by omega
      have u1 : IntKind.i64.wrap (j1 : Int) = (j1 : Int) := IntWalk.i64_in _ (by omega)
      have u2 : IntKind.i64.wrap (j2 : Int) = (j2 : Int) := IntWalk.i64_in _ (by omega)
      have u3 : IntKind.i64.wrap (d : Int) = (d : Int) := IntWalk.i64_in _ (by omega)
      have u4 : IntKind.i64.wrap x = x := IntWalk.i64_in _ (by omega)
      have u5 : IntKind.i64.wrap y = y := IntWalk.i64_in _ (by omega)
      have u6 : IntKind.i64.wrap ((i : Int) + 1) = (i : Int) + 1 := IntWalk.i64_in _ (by omega)
      have u7 : IntKind.i64.wrap (x * 31) = x * 31 := IntWalk.i64_in _ (by omega)
      have u8 : IntKind.i64.wrap (x * 31 + y) = x * 31 + y := IntWalk.i64_in _ (by omega)
      have u9 : IntKind.i64.wrap (x * 31 + y + (d : Int)) = x * 31 + y + (d : Int) := IntWalk.i64_in _ (by omega)
      have em : (x * 31 + y + (d : Int)).tmod n = (x * 31 + y + (d : Int)) % n := Int.tmod_eq_emod_of_nonneg (by omega)
      have m0 := Int.emod_nonneg (x * 31 + y + (d : Int)) (show n ≠ 0 by omega)
      have m1 := Int.emod_lt_of_pos (x * 31 + y + (d : Int)) (show 0 < n by omega)
      have u10 : IntKind.i64.wrap ((x * 31 + y + (d : Int)) % n) = (x * 31 + y + (d : Int)) % n := IntWalk.i64_in _ (by omega)
      go_enter Tryd.func15, Tryd.ntmps15
      go_wp2
      go_quiet (fail)
      go_wp2
      go_ret
      exact ⟨_, nq, rfl, m0, .inr m1, rfl⟩

end Go.Proofs.YtbamjhldebobhaaDoor
