/- Marking a slice of ints and finding the marks again: contracts of the laws' own helpers. -/
import Derived.Test.YtdckjhobikfggaaInts
namespace Go.Proofs.Ytdckjhobikfggaa
open Go.RowKit

/-- The numbers k, k + 1, .. -/
def marks (k : Int) (n : Nat) : List Int := (List.range n).map fun i : Nat => k + (i : Int)
theorem marks_length (k : Int) (n : Nat) : (marks k n).length = n := by simp [marks]
theorem marks_at (k : Int) (n i : Nat) (h : i < n) : (marks k n).getD i 0 = k + i := by
  simp [marks, List.getD, h]

/-- Behind j steps: j marks, then what was there. -/
def markTo (zs : List Int) (k : Int) (j : Nat) : List Int := marks k j ++ zs.drop j
theorem markTo_zero (zs : List Int) (k : Int) : markTo zs k 0 = zs := by simp [markTo, marks]
theorem markTo_length (zs : List Int) (k : Int) (j : Nat) (h : j ≤ zs.length) : (markTo zs k j).length = zs.length := by simp [markTo, marks_length]; omega
theorem markTo_succ (zs : List Int) (k : Int) (j : Nat) (h : j < zs.length) : (markTo zs k j).set j (k + j) = markTo zs k (j + 1) := by
  unfold markTo
  have hl : (marks k j).length = j := marks_length k j
  have e : marks k (j + 1) = marks k j ++ [k + (j : Int)] := by simp [marks, List.range_succ]
  rw [List.set_append_right _ _ (by omega), hl, Nat.sub_self, List.drop_eq_getElem_cons h, e, List.set_cons_zero, List.append_assoc]
  rfl
theorem markTo_full (zs : List Int) (k : Int) : markTo zs k zs.length = marks k zs.length := by simp [markTo]

set_option maxHeartbeats 400000 in
theorem laws_markIntS (v : Value) (zs : List Int) (k : Int) (B : Nat) (w : World) (h : Own .i64 3 w B v zs) (hl : zs.length ≤ 1048576) (hk : 0 ≤ k) (hk2 : k ≤ 1099511627776) : Calls Try.prog 15 #[v, .int .i64 k] w fun e w' => e = .returned (.int .i64 (k + zs.length)) ∧ Own .i64 3 w' B v (marks k zs.length) ∧ Below B w w' := by
  obtain ⟨a, c, rfl, h1, h2, h3, h4⟩ := h.shape
  cases a with
  | none =>
    obtain ⟨rfl, rfl⟩ := h3 rfl
    clear h3 h4
    go_enter Try.func15, Try.ntmps15
    go_wp2
    go_loop [1, 5] (fun q i => q = .int .i64 k ∧ i = .int .i64 0) (fun _ _ => 0)
    case atStart => exact ⟨rfl, rfl⟩
    case round =>
      obtain ⟨rfl, rfl⟩ := hrel
      go_wp2
      go_ret
      exact ⟨ret_int (by simp), by simpa [marks] using h, Below.refl _ _⟩
  | some x =>
    obtain ⟨g, off, spot⟩ := x
    obtain ⟨rfl, rfl, hB⟩ := h4 _ rfl
    clear h3 h4
    generalize hn : zs.length = n at *
    have HN := Lib.hid hn
    clear hn
    go_enter Try.func15, Try.ntmps15
    go_wp2
    go_loopw [1, 5] (fun q i wr => ∃ j : Nat, j ≤ n ∧ q = .int .i64 (k + j) ∧ i = .int .i64 j ∧ Own .i64 3 wr B (.slice (some ⟨g, 0, none⟩) n c) (markTo zs k j) ∧ Below B w wr) (fun _ i _ => n - (intOf i).toNat)
    case atStart => exact ⟨0, Nat.zero_le _, by simp, rfl, by rw [markTo_zero]; exact h, Below.refl _ _⟩
    case round =>
      clear h
      obtain ⟨j, hj, rfl, rfl, ho, hb⟩ := hrel
      by_cases hlt : j < n
      · have hf := ho.frozen j
        have hold := ho.cell j (by rw [markTo_length _ _ _ (by have := HN.out; omega), HN.out]; exact hlt)
        have ho2 := ho.store j (k + j)
        rw [markTo_succ zs k j (by have := HN.out; omega)] at ho2
        have hb2 : Below B w (wr.setCell ⟨g, j, none⟩ (.int .i64 (k + j))) := hb.setCell hB _
        have e1 : (0 : Int) ≤ (j : Int) := by omega
        have e2 : (j : Int) < (n : Int) := by omega
        clear ho
        go_wp2
        go_roundw
        case rel => exact ⟨j + 1, by omega, by go_num, by go_num, ho2, hb2⟩
        case measure => simp [intOf]; omega
      · have hjn : j = n := by omega
        subst hjn
        go_wp2
        go_ret
        have := HN.out
        refine ⟨rfl, ?_, hb⟩
        rw [← HN.out, markTo_full, HN.out] at ho
        exact ho

set_option maxHeartbeats 400000 in
theorem laws_heldIntS (v : Value) (k : Int) (n : Nat) (w : World) (h : Ints .i64 w v (marks k n)) (hl : n ≤ 1048576) (hk : 0 ≤ k) (hk2 : k ≤ 1099511627776) : Calls Try.prog 21 #[v, .int .i64 k] w fun e w' => e = .returned (.int .i64 (k + n)) ∧ w = w' := by
  rcases h with ⟨h0, a, c, rfl⟩ | ⟨b, off, c, rfl, hcell⟩
  · have hn : n = 0 := by have := marks_length k n; rw [h0] at this; simpa using this.symm
    subst hn
    clear h0
    go_enter Try.func21, Try.ntmps21
    go_wp2
    go_loop [1, 5] (fun q i => q = .int .i64 k ∧ i = .int .i64 0) (fun _ _ => 0)
    case atStart => exact ⟨rfl, rfl⟩
    case round =>
      obtain ⟨rfl, rfl⟩ := hrel
      go_wp2
      go_ret
      exact ⟨ret_int (by simp), rfl⟩
  · rw [marks_length] at hcell ⊢
    go_enter Try.func21, Try.ntmps21
    go_wp2
    go_loop [1, 5] (fun q i => ∃ j : Nat, j ≤ n ∧ q = .int .i64 (k + j) ∧ i = .int .i64 j) (fun _ i => n - (intOf i).toNat)
    case atStart => exact ⟨0, Nat.zero_le _, by simp, rfl⟩
    case round =>
      obtain ⟨j, hj, rfl, rfl⟩ := hrel
      by_cases hlt : j < n
      · have c1 := hcell j hlt
        rw [marks_at k n j hlt] at c1
        have e1 : (0 : Int) ≤ (j : Int) := by omega
        have e2 : (j : Int) < (n : Int) := by omega
        clear hcell
        go_wp2
        go_round
        case rel => exact ⟨j + 1, by omega, by go_num, by go_num⟩
        case measure => simp [intOf]; omega
      · have hjn : j = n := by omega
        subst hjn
        go_wp2
        go_ret
        exact ⟨rfl, rfl⟩

end Go.Proofs.Ytdckjhobikfggaa
