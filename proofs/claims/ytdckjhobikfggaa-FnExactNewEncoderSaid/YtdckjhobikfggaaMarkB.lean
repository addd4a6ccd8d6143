/- Marking a list: its own block alone changes. -/
import Derived.Test.YtdckjhobikfggaaMarks
namespace Go.Proofs.Ytdckjhobikfggaa
open Go.RowKit

set_option maxHeartbeats 400000 in
/-- Marking a list: its own block alone changes. -/
theorem laws_markIntSB (v : Value) (zs : List Int) (k : Int) (B : Nat) (w : World) (h : Own .i64 3 w B v zs) (hl : zs.length ≤ 1048576) (hk : 0 ≤ k) (hk2 : k ≤ 1099511627776) : Calls Try.prog 15 #[v, .int .i64 k] w fun e w' => e = .returned (.int .i64 (k + zs.length)) ∧ Own .i64 3 w' B v (marks k zs.length) ∧ Below B w w' ∧ ∀ i, v.ownBlock ≠ some i → i < w.heap.size → w'.heap[i]? = w.heap[i]? := by
  obtain ⟨a, c, rfl, h1, h2, h3, h4⟩ := h.shape
  cases a with
  | none =>
    obtain ⟨rfl, rfl⟩ := h3 rfl
    clear h3 h4
    go_enter Try.func15, Try.ntmps15
    go_wp2
    go_loop [1, 5] (fun q i => q = .int .i64 k ∧ i = .int .i64 0) (fun _ _ => 0)
    case atStart => exact ⟨rfl, rfl⟩
    case round =>
      obtain ⟨rfl, rfl⟩ := hrel
      go_wp2
      go_ret
      exact ⟨ret_int (by simp), by simpa [marks] using h, Below.refl _ _, fun _ _ _ => rfl⟩
  | some x =>
    obtain ⟨g, off, spot⟩ := x
    obtain ⟨rfl, rfl, hB⟩ := h4 _ rfl
    clear h3 h4
    generalize hn : zs.length = n at *
    have HN := Lib.hid hn
    clear hn
    go_enter Try.func15, Try.ntmps15
    go_wp2
    go_loopw [1, 5] (fun q i wr => ∃ j : Nat, j ≤ n ∧ q = .int .i64 (k + j) ∧ i = .int .i64 j ∧ Own .i64 3 wr B (.slice (some ⟨g, 0, none⟩) n c) (markTo zs k j) ∧ Below B w wr ∧ Hid (∀ i, i ≠ g → i < w.heap.size → wr.heap[i]? = w.heap[i]?)) (fun _ i _ => n - (intOf i).toNat)
    case atStart => exact ⟨0, Nat.zero_le _, by simp, rfl, by rw [markTo_zero]; exact h, Below.refl _ _, Lib.hid (fun _ _ _ => rfl)⟩
    case round =>
      clear h
      obtain ⟨j, hj, rfl, rfl, ho, hb, HO⟩ := hrel
      by_cases hlt : j < n
      · have hf := ho.frozen j
        have hold := ho.cell j (by rw [markTo_length _ _ _ (by have := HN.out; omega), HN.out]; exact hlt)
        have ho2 := ho.store j (k + j)
        rw [markTo_succ zs k j (by have := HN.out; omega)] at ho2
        have hb2 : Below B w (wr.setCell ⟨g, j, none⟩ (.int .i64 (k + j))) := hb.setCell hB _
        have HO2 : Hid (∀ i, i ≠ g → i < w.heap.size → (wr.setCell ⟨g, j, none⟩ (.int .i64 (k + j))).heap[i]? = w.heap[i]?) := Lib.hid (fun i hi hl => by rw [Below.heap_setCell _ _ _ _ (by simpa using hi)]; exact HO.out i hi hl)
        have e1 : (0 : Int) ≤ (j : Int) := by omega
        have e2 : (j : Int) < (n : Int) := by omega
        clear ho
        go_wp2
        go_roundw
        case rel => exact ⟨j + 1, by omega, by go_num, by go_num, ho2, hb2, HO2⟩
        case measure => simp [intOf]; omega
      · have hjn : j = n := by omega
        subst hjn
        go_wp2
        go_ret
        have := HN.out
        refine ⟨rfl, ?_, hb, fun i hi hl => HO.out i (fun he => hi (by rw [he]; rfl)) hl⟩
        rw [← HN.out, markTo_full, HN.out] at ho
        exact ho

end Go.Proofs.Ytdckjhobikfggaa
