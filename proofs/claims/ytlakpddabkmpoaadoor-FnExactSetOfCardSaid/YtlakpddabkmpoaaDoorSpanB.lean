/- Slices of spans that are marked and held: contracts of the laws' own helpers. -/
import Derived.Test.YtlakpddabkmpoaaDoorSpanA
import Derived.Test.YtlakpddabkmpoaaDoorMarks
namespace Go.Proofs.YtlakpddabkmpoaaDoor
open Go.RowKit

/-- The slice v of n spans holds the numbers zs, three a span, in memory of the call's own (from block B on). -/
def OwnC (w : World) (B : Nat) (v : Value) (n : Nat) (zs : List Int) : Prop := w.ownsRow B 34 3 v n (zs.map (Value.int .i64))
theorem OwnC.below {w w' : World} {B C n : Nat} {v : Value} {zs : List Int} (h : OwnC w B v n zs) (hb : Below C w w') (hC : ∀ g, v.ownBlock = some g → g < C) : OwnC w' B v n zs := by
  refine ⟨h.1, ?_⟩
  rcases h.2 with h | ⟨g, cap, cur, a, b, c, d⟩
  · exact .inl h
  · exact .inr ⟨g, cap, cur, a, b, by rw [hb.block g (hC g (by rw [a]; rfl))]; exact c, d⟩
theorem OwnC.all {w w' : World} {B n : Nat} {v : Value} {zs : List Int} (h : OwnC w B v n zs) (hb : Below w.heap.size w w') : OwnC w' B v n zs :=
  h.below hb fun g hg => (World.ownsRow.lt h g hg).2
theorem OwnC.shape {w : World} {B n : Nat} {v : Value} {zs : List Int} (h : OwnC w B v n zs) : ∃ a cap, v = .slice a n cap ∧ (a = none → n = 0) ∧ ∀ x, a = some x → x.off = 0 ∧ x.spot = none ∧ B ≤ x.block := by
  rcases h.2 with ⟨hv, h0⟩ | ⟨g, cap, cur, a, b, c, d, e', f⟩
  · exact ⟨none, 0, by rw [hv, h0], fun _ => h0, by intro x hx; cases hx⟩
  · exact ⟨_, cap, a, (fun hx => by cases hx), (fun x hx => by cases hx; exact ⟨rfl, rfl, b⟩)⟩
theorem OwnC.length {w : World} {B n : Nat} {v : Value} {zs : List Int} (h : OwnC w B v n zs) : zs.length = n * 3 := by
  have := h.1
  simpa using this
theorem OwnC.cell {w : World} {B g cap n m : Nat} {zs : List Int} (h : OwnC w B (.slice (some ⟨g, 0, none⟩) m cap) n zs) (j : Nat) (hj : j < zs.length) : w.cell? ⟨g, j, none⟩ = some (.int .i64 (zs.getD j 0)) := by
  have h2 := World.ownsRow.cells h (g := g) rfl j (.int .i64 (zs.getD j 0)) (by simp [List.getElem?_eq_getElem hj, List.getD])
  rw [add_off, Nat.zero_add] at h2; exact h2
theorem OwnC.store {w : World} {B g n cap : Nat} {zs : List Int} (h : OwnC w B (.slice (some ⟨g, 0, none⟩) n cap) n zs) (j : Nat) (u : Int) :
    OwnC (w.setCell ⟨g, j, none⟩ (.int .i64 u)) B (.slice (some ⟨g, 0, none⟩) n cap) n (zs.set j u) := by
  have := (World.ownsRow.stored h j (.int .i64 u)).1
  unfold OwnC
  rw [List.map_set]
  exact this
theorem OwnC.frozen {w : World} {B g n cap : Nat} {zs : List Int} (h : OwnC w B (.slice (some ⟨g, 0, none⟩) n cap) n zs) (j : Nat) : w.frozen? ⟨g, j, none⟩ = false := World.ownsRow.frozenAt h j

theorem grownBy_refl (w : World) (row : Option Nat) : w.grownBy w row := ⟨rfl, rfl, rfl, Nat.le_refl _, fun _ _ _ => rfl⟩
theorem grownBy_setCell (w : World) (g off : Nat) (u : Value) : w.grownBy (w.setCell ⟨g, off, none⟩ u) (some g) :=
  have b := (Below.refl 0 w).setCell (p := ⟨g, off, none⟩) (Nat.zero_le _) u
  ⟨b.os, b.tape, b.output, b.size, fun i _ hi => Below.heap_setCell _ _ _ _ (fun e => hi (by rw [e]))⟩

theorem markTo_succ3 (zs : List Int) (k : Int) (j : Nat) (h : j + 2 < zs.length) : (((markTo zs k j).set j (k + j)).set (j + 1) (k + j + 1)).set (j + 2) (k + j + 1 + 1) = markTo zs k (j + 3) := by
  rw [markTo_succ zs k j (by omega)]
  have e1 : k + (j : Int) + 1 = k + ((j + 1 : Nat) : Int) := by omega
  have e2 : k + (j : Int) + 1 + 1 = k + ((j + 2 : Nat) : Int) := by omega
  rw [e2, e1, markTo_succ zs k (j + 1) (by omega), markTo_succ zs k (j + 2) (by omega)]

set_option maxHeartbeats 1000000 in
theorem laws_markSpanS (v : Value) (n : Nat) (zs : List Int) (k : Int) (B : Nat) (w : World) (h : OwnC w B v n zs) (hl : n ≤ 1048576) (hk : 0 ≤ k) (hk2 : k ≤ 1099511627776) : Calls Tryd.prog 54 #[v, .int .i64 k] w fun e w' => e = .returned (.int .i64 (k + (n * 3 : Nat))) ∧ OwnC w' B v n (marks k (n * 3)) ∧ Below B w w' ∧ w.grownBy w' v.ownBlock := by
  have hlen := h.length
  obtain ⟨a, c, rfl, h3, h4⟩ := h.shape
  cases a with
  | none =>
    obtain rfl := h3 rfl
    have hz : zs = [] := List.length_eq_zero_iff.1 (by omega)
    subst hz
    clear h3 h4
    go_enter Tryd.func54, Tryd.ntmps54
    go_wp2
    go_loop [1, 5] (fun q i => q = .int .i64 k ∧ i = .int .i64 0) (fun _ _ => 0)
    case atStart => exact ⟨rfl, rfl⟩
    case round =>
      obtain ⟨rfl, rfl⟩ := hrel
      go_wp2
      go_ret
      exact ⟨ret_int (by simp), by simpa [marks] using h, Below.refl _ _, grownBy_refl _ _⟩
  | some x =>
    obtain ⟨g, off, spot⟩ := x
    obtain ⟨rfl, rfl, hB⟩ := h4 _ rfl
    clear h3 h4
    have HL := Lib.hid hlen
    clear hlen
    go_enter Tryd.func54, Tryd.ntmps54
    go_wp2
    go_loopw [1, 5] (fun q i wr => ∃ j : Nat, j ≤ n ∧ q = .int .i64 (k + (j : Int) * 3) ∧ i = .int .i64 j ∧ OwnC wr B (.slice (some ⟨g, 0, none⟩) n c) n (markTo zs k (j * 3)) ∧ Below B w wr ∧ w.grownBy wr (some g)) (fun _ i _ => n - (intOf i).toNat)
    case atStart => exact ⟨0, Nat.zero_le _, by simp, rfl, by rw [Nat.zero_mul, markTo_zero]; exact h, Below.refl _ _, grownBy_refl _ _⟩
    case round =>
      clear h
      obtain ⟨j, hj, rfl, rfl, ho, hb, hgb⟩ := hrel
      by_cases hlt : j < n
      · have hzl : (markTo zs k (j * 3)).length = n * 3 := by rw [markTo_length _ _ _ (by have := HL.out; omega), HL.out]
        have f0 := ho.frozen (j * 3)
        have f1 := ho.frozen (j * 3 + 1)
        have f2 := ho.frozen (j * 3 + 2)
        have d0 := ho.cell (j * 3) (by omega)
        have d1 := ho.cell (j * 3 + 1) (by omega)
        have d2 := ho.cell (j * 3 + 2) (by omega)
        have ho2 := ((ho.store (j * 3) (k + ((j * 3 : Nat) : Int))).store (j * 3 + 1) (k + ((j * 3 : Nat) : Int) + 1)).store (j * 3 + 2) (k + ((j * 3 : Nat) : Int) + 1 + 1)
        rw [markTo_succ3 zs k (j * 3) (by have := HL.out; omega)] at ho2
        have ec : ((j * 3 : Nat) : Int) = (j : Int) * 3 := by omega
        rw [ec] at ho2
        have HO := Lib.hid ho2
        have hb2 : Below B w (((wr.setCell ⟨g, j * 3, none⟩ (.int .i64 (k + (j : Int) * 3))).setCell ⟨g, j * 3 + 1, none⟩ (.int .i64 (k + (j : Int) * 3 + 1))).setCell ⟨g, j * 3 + 2, none⟩ (.int .i64 (k + (j : Int) * 3 + 1 + 1))) := ((hb.setCell hB _).setCell hB _).setCell hB _
        have HB := Lib.hid hb2
        have HG := Lib.hid (((hgb.trans (grownBy_setCell wr g (j * 3) (.int .i64 (k + (j : Int) * 3)))).trans (grownBy_setCell _ g (j * 3 + 1) (.int .i64 (k + (j : Int) * 3 + 1)))).trans (grownBy_setCell _ g (j * 3 + 2) (.int .i64 (k + (j : Int) * 3 + 1 + 1))))
        have e1 : (0 : Int) ≤ (j : Int) := by omega
        have e2 : (j : Int) < (n : Int) := by omega
        generalize (markTo zs k (j * 3)).getD (j * 3) 0 = y0 at *
        generalize (markTo zs k (j * 3)).getD (j * 3 + 1) 0 = y1 at *
        generalize (markTo zs k (j * 3)).getD (j * 3 + 2) 0 = y2 at *
        clear ho ho2 hb2 hzl ec hgb
        go_wp2
        go_roundw
        case rel => exact ⟨j + 1, by omega, by congr 1; omega, by go_num, by rw [show (j + 1) * 3 = j * 3 + 3 by omega]; exact HO.out, HB.out, HG.out⟩
        case measure => simp [intOf]; omega
      · have hjn : j = n := by omega
        subst hjn
        go_wp2
        go_ret
        refine ⟨ret_int (by omega), ?_, hb, hgb⟩
        rw [← HL.out, markTo_full, HL.out] at ho
        exact ho

theorem OwnC.cells {w : World} {B n : Nat} {v : Value} {k : Int} (h : OwnC w B v n (marks k (n * 3))) : (n = 0 ∧ ∃ a c, v = .slice a 0 c) ∨ ∃ g c, v = .slice (some ⟨g, 0, none⟩) n c ∧ ∀ j, j < n * 3 → w.cell? ⟨g, j, none⟩ = some (.int .i64 (k + (j : Int))) := by
  obtain ⟨a, c, rfl, h3, h4⟩ := h.shape
  cases a with
  | none => obtain rfl := h3 rfl; exact .inl ⟨rfl, _, _, rfl⟩
  | some x =>
    obtain ⟨g, off, spot⟩ := x
    obtain ⟨rfl, rfl, hB⟩ := h4 _ rfl
    refine .inr ⟨g, c, rfl, fun j hj => ?_⟩
    have := h.cell j (by rw [marks_length]; exact hj)
    rw [marks_at _ _ _ hj] at this
    exact this

set_option maxHeartbeats 1000000 in
theorem laws_heldSpanS (v : Value) (n : Nat) (k : Int) (B : Nat) (w : World) (h : OwnC w B v n (marks k (n * 3))) (hl : n ≤ 1048576) (hk : 0 ≤ k) (hk2 : k ≤ 1099511627776) : Calls Tryd.prog 55 #[v, .int .i64 k] w fun e w' => e = .returned (.int .i64 (k + (n * 3 : Nat))) ∧ ∃ q, w' = w.drewN q := by
  rcases h.cells with ⟨rfl, a, c, rfl⟩ | ⟨g, c, rfl, hcell⟩
  · clear h
    go_enter Tryd.func55, Tryd.ntmps55
    go_wp2
    go_loop [1, 5] (fun q i => q = .int .i64 k ∧ i = .int .i64 0) (fun _ _ => 0)
    case atStart => exact ⟨rfl, rfl⟩
    case round =>
      obtain ⟨rfl, rfl⟩ := hrel
      go_wp2
      go_ret
      exact ⟨ret_int (by simp), 0, rfl⟩
  · clear h
    have HC := Lib.hid hcell
    clear hcell
    go_enter Tryd.func55, Tryd.ntmps55
    go_wp2
    go_loopw [1, 5] (fun q i wr => ∃ j m : Nat, j ≤ n ∧ q = .int .i64 (k + (j : Int) * 3) ∧ i = .int .i64 j ∧ wr = w.drewN m) (fun _ i _ => n - (intOf i).toNat)
    case atStart => exact ⟨0, 0, Nat.zero_le _, by simp, rfl, rfl⟩
    case round =>
      obtain ⟨j, m, hj, rfl, rfl, rfl⟩ := hrel
      by_cases hlt : j < n
      · have d0 := HC.out (j * 3) (by omega)
        have d1 := HC.out (j * 3 + 1) (by omega)
        have d2 := HC.out (j * 3 + 2) (by omega)
        rw [show k + ((j * 3 : Nat) : Int) = k + (j : Int) * 3 by omega] at d0
        rw [show k + ((j * 3 + 1 : Nat) : Int) = k + (j : Int) * 3 + 1 by omega] at d1
        rw [show k + ((j * 3 + 2 : Nat) : Int) = k + (j : Int) * 3 + 1 + 1 by omega] at d2
        have e1 : (0 : Int) ≤ (j : Int) := by omega
        have e2 : (j : Int) < (n : Int) := by omega
        go_wp2
        go_roundw
        case rel => exact ⟨j + 1, m, by omega, by congr 1; omega, by go_num, rfl⟩
        case measure => simp [intOf]; omega
      · have hjn : j = n := by omega
        subst hjn
        go_wp2
        go_ret
        exact ⟨ret_int (by omega), m, rfl⟩

set_option maxHeartbeats 1000000 in
theorem laws_markSet (nm : ByteArray) (kind final : Int) (v : Value) (n : Nat) (zs : List Int) (k : Int) (B : Nat) (w : World) (h : OwnC w B v n zs) (hB : B ≤ w.heap.size) (hl : n ≤ 1048576) (hk : 0 ≤ k) (hk2 : k ≤ 1099511627776) :
    Calls Tryd.prog 28 #[setVal nm kind final v, .int .i64 k] w fun e w' => e = .returned (.int .i64 (k + (n * 3 : Nat))) ∧ OwnC w' B v n (marks k (n * 3)) ∧ Below B w w' ∧ w.grownBy w' v.ownBlock := by
  have HO := Lib.hid h
  obtain ⟨a, c, rfl, _⟩ := h.shape
  clear h
  unfold setVal
  go_enter Tryd.func28, Tryd.ntmps28
  go_wp2_with fail
  refine (laws_markSpanS _ n zs k B _ (HO.out.all ((Below.refl _ _).alloc (Nat.le_refl _) _)) hl hk hk2).mono ?_
  rintro e w2 ⟨rfl, o2, b2, g2⟩
  have B2 : Below B w w2 := ((Below.refl _ _).alloc hB _).trans b2
  have G2 := (World.grownBy_alloc w _ _).trans g2
  go_wp2
  go_ret
  exact ⟨rfl, o2, B2, G2⟩

set_option maxHeartbeats 1000000 in
theorem laws_heldSet (nm : ByteArray) (kind final : Int) (v : Value) (n : Nat) (k : Int) (B : Nat) (w : World) (h : OwnC w B v n (marks k (n * 3))) (hl : n ≤ 1048576) (hk : 0 ≤ k) (hk2 : k ≤ 1099511627776) :
    Calls Tryd.prog 29 #[setVal nm kind final v, .int .i64 k] w fun e w' => e = .returned (.int .i64 (k + (n * 3 : Nat))) ∧ Below w.heap.size w w' := by
  have HO := Lib.hid h
  obtain ⟨a, c, rfl, _⟩ := h.shape
  clear h
  unfold setVal
  go_enter Tryd.func29, Tryd.ntmps29
  go_wp2_with fail
  refine (laws_heldSpanS _ n k B _ (HO.out.all ((Below.refl _ _).alloc (Nat.le_refl _) _)) hl hk hk2).mono ?_
  rintro e w2 ⟨rfl, q, rfl⟩
  have B2 := Lib.hid (below_drewN ((Below.refl w.heap.size w).alloc (Nat.le_refl _) (.cells #[.string nm, .int .i64 kind, .int .i64 final, .slice a n c] 26)) q)
  have hpos : (0 : Int) ≤ k + (n * 3 : Nat) := by omega
  have hlt : k + ((n * 3 : Nat) : Int) ≤ 2199023255552 := by omega
  generalize hz : k + ((n * 3 : Nat) : Int) = z at *
  have HZ := Lib.hid hz
  clear hz
  go_wp2
  go_ret
  exact ⟨ret_int HZ.out.symm, B2.out⟩

end Go.Proofs.YtlakpddabkmpoaaDoor
