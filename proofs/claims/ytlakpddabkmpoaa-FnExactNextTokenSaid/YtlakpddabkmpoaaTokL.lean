/- Tokens that are compared, marked and held: contracts of the laws' own helpers. -/
import Derived.Test.YtlakpddabkmpoaaTokC
import Derived.Test.YtlakpddabkmpoaaMarks
import Derived.Test.YtlakpddabkmpoaaDraw
namespace Go.Proofs.Ytlakpddabkmpoaa
open Go.RowKit

/-- The slice v reads as the tokens ts. -/
def TkAt (w : World) (v : Value) (ts : List Tok) : Prop :=
  (ts = [] ∧ ∃ a c, v = .slice a 0 c) ∨ ∃ g off c, v = .slice (some ⟨g, off, none⟩) ts.length c ∧ ∀ i (h : i < ts.length),
    w.cell? ⟨g, off + i * 6, none⟩ = some (.int .i64 (ts[i]).k) ∧ w.cell? ⟨g, off + i * 6 + 1, none⟩ = some (.int .i64 (ts[i]).a) ∧ w.cell? ⟨g, off + i * 6 + 2, none⟩ = some (.int .i64 (ts[i]).b) ∧
    w.cell? ⟨g, off + i * 6 + 3, none⟩ = some (.int .i64 (ts[i]).c) ∧ w.cell? ⟨g, off + i * 6 + 4, none⟩ = some (.int .i64 (ts[i]).p) ∧ w.cell? ⟨g, off + i * 6 + 5, none⟩ = some (.int .i64 (ts[i]).n)
theorem TkAt.keep {w w' : World} {v : Value} {ts : List Tok} (h : TkAt w v ts) (hb : Below w.heap.size w w') : TkAt w' v ts := by
  rcases h with h | ⟨g, off, c, rfl, hc⟩
  · exact .inl h
  · refine .inr ⟨g, off, c, rfl, fun i hi => ?_⟩
    have ⟨h1, h2, h3, h4, h5, h6⟩ := hc i hi
    have k : ∀ {p : Addr} {x : Value}, w.cell? p = some x → w'.cell? p = some x := fun hx => by rw [hb.cell (World.block_lt_of_cell? w _ hx)]; exact hx
    exact ⟨k h1, k h2, k h3, k h4, k h5, k h6⟩
theorem TkAt.form {w : World} {v : Value} {ts : List Tok} (h : TkAt w v ts) : ∃ a c, v = .slice a ts.length c := by
  rcases h with ⟨rfl, a, c, rfl⟩ | ⟨g, off, c, rfl, _⟩
  · exact ⟨_, _, rfl⟩
  · exact ⟨_, _, rfl⟩
theorem tkZ_at (ts : List Tok) : ∀ i (h : i < ts.length), (tkZ ts).getD (i * 6) 0 = (ts[i]).k ∧ (tkZ ts).getD (i * 6 + 1) 0 = (ts[i]).a ∧ (tkZ ts).getD (i * 6 + 2) 0 = (ts[i]).b ∧ (tkZ ts).getD (i * 6 + 3) 0 = (ts[i]).c ∧ (tkZ ts).getD (i * 6 + 4) 0 = (ts[i]).p ∧ (tkZ ts).getD (i * 6 + 5) 0 = (ts[i]).n := by
  induction ts with
  | nil => intro i h; simp at h
  | cons s t ih =>
    intro i h
    have hc : tkZ (s :: t) = s.k :: s.a :: s.b :: s.c :: s.p :: s.n :: tkZ t := by simp [tkZ]
    rw [hc]
    cases i with
    | zero => exact ⟨rfl, rfl, rfl, rfl, rfl, rfl⟩
    | succ i =>
      have := ih i (by simpa using h)
      rw [show (i + 1) * 6 = i * 6 + 6 by omega]
      simpa [List.getD] using this
theorem OwnK.shape {w : World} {B n : Nat} {v : Value} {zs : List Int} (h : OwnK w B v n zs) : ∃ a cap, v = .slice a n cap ∧ (a = none → n = 0) ∧ ∀ x, a = some x → x.off = 0 ∧ x.spot = none ∧ B ≤ x.block := by
  rcases h.2 with ⟨hv, h0⟩ | ⟨g, cap, cur, a, b, c, d, e', f⟩
  · exact ⟨none, 0, by rw [hv, h0], fun _ => h0, by intro x hx; cases hx⟩
  · exact ⟨_, cap, a, (fun hx => by cases hx), (fun x hx => by cases hx; exact ⟨rfl, rfl, b⟩)⟩
theorem OwnK.length {w : World} {B n : Nat} {v : Value} {zs : List Int} (h : OwnK w B v n zs) : zs.length = n * 6 := by
  have := h.1
  simpa using this
theorem OwnK.cell {w : World} {B g cap n m : Nat} {zs : List Int} (h : OwnK w B (.slice (some ⟨g, 0, none⟩) m cap) n zs) (j : Nat) (hj : j < zs.length) : w.cell? ⟨g, j, none⟩ = some (.int .i64 (zs.getD j 0)) := by
  have h2 := World.ownsRow.cells h (g := g) rfl j (.int .i64 (zs.getD j 0)) (by simp [List.getElem?_eq_getElem hj, List.getD])
  rw [add_off, Nat.zero_add] at h2; exact h2
theorem OwnK.store {w : World} {B g n cap : Nat} {zs : List Int} (h : OwnK w B (.slice (some ⟨g, 0, none⟩) n cap) n zs) (j : Nat) (u : Int) :
    OwnK (w.setCell ⟨g, j, none⟩ (.int .i64 u)) B (.slice (some ⟨g, 0, none⟩) n cap) n (zs.set j u) := by
  have := (World.ownsRow.stored h j (.int .i64 u)).1
  unfold OwnK
  rw [List.map_set]
  exact this
theorem OwnK.frozen {w : World} {B g n cap : Nat} {zs : List Int} (h : OwnK w B (.slice (some ⟨g, 0, none⟩) n cap) n zs) (j : Nat) : w.frozen? ⟨g, j, none⟩ = false := World.ownsRow.frozenAt h j
theorem OwnK.tkAt {w : World} {B : Nat} {v : Value} {ts : List Tok} (h : OwnK w B v ts.length (tkZ ts)) : TkAt w v ts := by
  obtain ⟨a, c, rfl, h3, h4⟩ := h.shape
  cases a with
  | none => exact .inl ⟨List.length_eq_zero_iff.1 (h3 rfl), none, c, by rw [h3 rfl]⟩
  | some x =>
    obtain ⟨g, off, spot⟩ := x
    obtain ⟨rfl, rfl, _⟩ := h4 _ rfl
    refine .inr ⟨g, 0, c, rfl, fun i hi => ?_⟩
    have ⟨e0, e1, e2, e3, e4, e5⟩ := tkZ_at ts i hi
    have hl := tkZ_length ts
    have c0 := h.cell (i * 6) (by omega)
    have c1 := h.cell (i * 6 + 1) (by omega)
    have c2 := h.cell (i * 6 + 2) (by omega)
    have c3 := h.cell (i * 6 + 3) (by omega)
    have c4 := h.cell (i * 6 + 4) (by omega)
    have c5 := h.cell (i * 6 + 5) (by omega)
    rw [e0] at c0
    rw [e1] at c1
    rw [e2] at c2
    rw [e3] at c3
    rw [e4] at c4
    rw [e5] at c5
    simp only [Nat.zero_add]
    exact ⟨c0, c1, c2, c3, c4, c5⟩

set_option maxHeartbeats 1000000 in
/-- A token is equal to itself. -/
theorem laws_eqToken_true (x : Tok) (w : World) : Calls Try.prog 7 #[tokV x, tokV x] w fun e w' => e = .returned (.bool true) ∧ Below w.heap.size w w' := by
  have HB := Lib.hid (below_two w)
  unfold tokV
  go_enter Try.func7, Try.ntmps7
  go_wp2
  go_ret
  exact ⟨rfl, HB.out _ _⟩

set_option maxHeartbeats 1000000 in
theorem laws_eqTokenS_true (v u : Value) (ts : List Tok) (w : World) (hv : TkAt w v ts) (hu : TkAt w u ts) (_hl : ts.length ≤ 1048576) : Calls Try.prog 10 #[v, u] w fun e w' => e = .returned (.bool true) ∧ Below w.heap.size w w' := by
  have HV := Lib.hid hv
  have HU := Lib.hid hu
  obtain ⟨a, c, rfl⟩ := hv.form
  obtain ⟨a', c', rfl⟩ := hu.form
  clear hv hu
  have e0 : ((ts.length : Int) != (ts.length : Int)) = false := by simp
  go_enter Try.func10, Try.ntmps10
  go_wp2
  go_loopw [5] (fun i wr => ∃ k : Nat, k ≤ ts.length ∧ i = .int .i64 k ∧ Below w.heap.size w wr) (fun i _ => ts.length - (intOf i).toNat)
  case atStart => exact ⟨0, Nat.zero_le _, rfl, Below.refl _ _⟩
  case round =>
    obtain ⟨k, hk, rfl, hb⟩ := hrel
    by_cases hlt : k < ts.length
    · obtain ⟨g, off, rfl, x0, x1, x2, x3, x4, x5⟩ : ∃ g off, a = some ⟨g, off, none⟩ ∧ wr.cell? ⟨g, off + k * 6, none⟩ = some (.int .i64 (ts[k]).k) ∧ wr.cell? ⟨g, off + k * 6 + 1, none⟩ = some (.int .i64 (ts[k]).a) ∧ wr.cell? ⟨g, off + k * 6 + 2, none⟩ = some (.int .i64 (ts[k]).b) ∧ wr.cell? ⟨g, off + k * 6 + 3, none⟩ = some (.int .i64 (ts[k]).c) ∧ wr.cell? ⟨g, off + k * 6 + 4, none⟩ = some (.int .i64 (ts[k]).p) ∧ wr.cell? ⟨g, off + k * 6 + 5, none⟩ = some (.int .i64 (ts[k]).n) := by
        rcases HV.out.keep hb with ⟨h0, _⟩ | ⟨g, off, c2, hv, hc⟩
        · rw [h0] at hlt; simp at hlt
        · injection hv with h1 h2 h3
          exact ⟨g, off, h1, hc k hlt⟩
      obtain ⟨g', off', rfl, y0, y1, y2, y3, y4, y5⟩ : ∃ g off, a' = some ⟨g, off, none⟩ ∧ wr.cell? ⟨g, off + k * 6, none⟩ = some (.int .i64 (ts[k]).k) ∧ wr.cell? ⟨g, off + k * 6 + 1, none⟩ = some (.int .i64 (ts[k]).a) ∧ wr.cell? ⟨g, off + k * 6 + 2, none⟩ = some (.int .i64 (ts[k]).b) ∧ wr.cell? ⟨g, off + k * 6 + 3, none⟩ = some (.int .i64 (ts[k]).c) ∧ wr.cell? ⟨g, off + k * 6 + 4, none⟩ = some (.int .i64 (ts[k]).p) ∧ wr.cell? ⟨g, off + k * 6 + 5, none⟩ = some (.int .i64 (ts[k]).n) := by
        rcases HU.out.keep hb with ⟨h0, _⟩ | ⟨g, off, c2, hv, hc⟩
        · rw [h0] at hlt; simp at hlt
        · injection hv with h1 h2 h3
          exact ⟨g, off, h1, hc k hlt⟩
      generalize ts[k] = x at *
      have u1 : (0 : Int) ≤ (k : Int) := by omega
      have u2 : (k : Int) < (ts.length : Int) := by omega
      go_wp2
      refine still_tail_w 8 (wr.drewN 1) rfl (by kernel_rfl) (by kernel_rfl) ?_
      simp only [List.take_succ_cons, List.take_zero, List.drop_succ_cons, List.drop_zero]
      repeat still_step
      refine wpStill_nil ?_
      go_wp2_with fail
      refine (laws_eqToken_true x _).mono ?_
      rintro e w2 ⟨rfl, b2⟩
      have B2 : Below w.heap.size w w2 := (below_drewN hb 1).trans (b2.mono hb.size)
      clear x0 x1 x2 x3 x4 x5 y0 y1 y2 y3 y4 y5
      go_wp2
      go_roundw
      case rel => exact ⟨k + 1, by omega, by go_num, B2⟩
      case measure => simp [intOf]; omega
    · go_wp2
      go_ret
      exact ⟨rfl, hb⟩

theorem grownBy_refl' (w : World) (row : Option Nat) : w.grownBy w row := ⟨rfl, rfl, rfl, Nat.le_refl _, fun _ _ _ => rfl⟩
theorem grownBy_setCell' (w : World) (g off : Nat) (u : Value) : w.grownBy (w.setCell ⟨g, off, none⟩ u) (some g) :=
  have b := (Below.refl 0 w).setCell (p := ⟨g, off, none⟩) (Nat.zero_le _) u
  ⟨b.os, b.tape, b.output, b.size, fun i _ hi => Below.heap_setCell _ _ _ _ (fun e => hi (by rw [e]))⟩
theorem markTo_succ6 (zs : List Int) (k : Int) (j : Nat) (h : j + 5 < zs.length) : ((((((markTo zs k j).set j (k + j)).set (j + 1) (k + j + 1)).set (j + 2) (k + j + 1 + 1)).set (j + 3) (k + j + 1 + 1 + 1)).set (j + 4) (k + j + 1 + 1 + 1 + 1)).set (j + 5) (k + j + 1 + 1 + 1 + 1 + 1) = markTo zs k (j + 6) := by
  rw [markTo_succ zs k j (by omega)]
  have e1 : k + (j : Int) + 1 = k + ((j + 1 : Nat) : Int) := by omega
  have e2 : k + (j : Int) + 1 + 1 = k + ((j + 2 : Nat) : Int) := by omega
  have e3 : k + (j : Int) + 1 + 1 + 1 = k + ((j + 3 : Nat) : Int) := by omega
  have e4 : k + (j : Int) + 1 + 1 + 1 + 1 = k + ((j + 4 : Nat) : Int) := by omega
  have e5 : k + (j : Int) + 1 + 1 + 1 + 1 + 1 = k + ((j + 5 : Nat) : Int) := by omega
  rw [e5, e4, e3, e2, e1, markTo_succ zs k (j + 1) (by omega), markTo_succ zs k (j + 2) (by omega), markTo_succ zs k (j + 3) (by omega), markTo_succ zs k (j + 4) (by omega), markTo_succ zs k (j + 5) (by omega)]

set_option maxHeartbeats 4000000 in
theorem laws_markTokenS (v : Value) (n : Nat) (zs : List Int) (k : Int) (B : Nat) (w : World) (h : OwnK w B v n zs) (hl : n ≤ 1048576) (hk : 0 ≤ k) (hk2 : k ≤ 1099511627776) : Calls Try.prog 11 #[v, .int .i64 k] w fun e w' => e = .returned (.int .i64 (k + (n * 6 : Nat))) ∧ OwnK w' B v n (marks k (n * 6)) ∧ Below B w w' ∧ w.grownBy w' v.ownBlock := by
  have hlen := h.length
  obtain ⟨a, c, rfl, h3, h4⟩ := h.shape
  cases a with
  | none =>
    obtain rfl := h3 rfl
    have hz : zs = [] := List.length_eq_zero_iff.1 (by omega)
    subst hz
    clear h3 h4
    go_enter Try.func11, Try.ntmps11
    go_wp2
    go_loop [1, 5] (fun q i => q = .int .i64 k ∧ i = .int .i64 0) (fun _ _ => 0)
    case atStart => exact ⟨rfl, rfl⟩
    case round =>
      obtain ⟨rfl, rfl⟩ := hrel
      go_wp2
      go_ret
      exact ⟨ret_int (by simp), by simpa [marks] using h, Below.refl _ _, grownBy_refl' _ _⟩
  | some x =>
    obtain ⟨g, off, spot⟩ := x
    obtain ⟨rfl, rfl, hB⟩ := h4 _ rfl
    clear h3 h4
    have HL := Lib.hid hlen
    clear hlen
    go_enter Try.func11, Try.ntmps11
    go_wp2
    go_loopw [1, 5] (fun q i wr => ∃ j : Nat, j ≤ n ∧ q = .int .i64 (k + (j : Int) * 6) ∧ i = .int .i64 j ∧ OwnK wr B (.slice (some ⟨g, 0, none⟩) n c) n (markTo zs k (j * 6)) ∧ Below B w wr ∧ w.grownBy wr (some g)) (fun _ i _ => n - (intOf i).toNat)
    case atStart => exact ⟨0, Nat.zero_le _, by simp, rfl, by rw [Nat.zero_mul, markTo_zero]; exact h, Below.refl _ _, grownBy_refl' _ _⟩
    case round =>
      clear h
      obtain ⟨j, hj, rfl, rfl, ho, hb, hgb⟩ := hrel
      by_cases hlt : j < n
      · have hzl : (markTo zs k (j * 6)).length = n * 6 := by rw [markTo_length _ _ _ (by have := HL.out; omega), HL.out]
        have f0 := ho.frozen (j * 6)
        have f1 := ho.frozen (j * 6 + 1)
        have f2 := ho.frozen (j * 6 + 2)
        have f3 := ho.frozen (j * 6 + 3)
        have f4 := ho.frozen (j * 6 + 4)
        have f5 := ho.frozen (j * 6 + 5)
        have d0 := ho.cell (j * 6) (by omega)
        have d1 := ho.cell (j * 6 + 1) (by omega)
        have d2 := ho.cell (j * 6 + 2) (by omega)
        have d3 := ho.cell (j * 6 + 3) (by omega)
        have d4 := ho.cell (j * 6 + 4) (by omega)
        have d5 := ho.cell (j * 6 + 5) (by omega)
        have ho2 := (((((ho.store (j * 6) (k + ((j * 6 : Nat) : Int))).store (j * 6 + 1) (k + ((j * 6 : Nat) : Int) + 1)).store (j * 6 + 2) (k + ((j * 6 : Nat) : Int) + 1 + 1)).store (j * 6 + 3) (k + ((j * 6 : Nat) : Int) + 1 + 1 + 1)).store (j * 6 + 4) (k + ((j * 6 : Nat) : Int) + 1 + 1 + 1 + 1)).store (j * 6 + 5) (k + ((j * 6 : Nat) : Int) + 1 + 1 + 1 + 1 + 1)
        rw [markTo_succ6 zs k (j * 6) (by have := HL.out; omega)] at ho2
        have ec : ((j * 6 : Nat) : Int) = (j : Int) * 6 := by omega
        rw [ec] at ho2
        have HO := Lib.hid ho2
        have HB : Hid (Below B w ((((((wr.setCell ⟨g, j * 6, none⟩ (.int .i64 (k + (j : Int) * 6))).setCell ⟨g, j * 6 + 1, none⟩ (.int .i64 (k + (j : Int) * 6 + 1))).setCell ⟨g, j * 6 + 2, none⟩ (.int .i64 (k + (j : Int) * 6 + 1 + 1))).setCell ⟨g, j * 6 + 3, none⟩ (.int .i64 (k + (j : Int) * 6 + 1 + 1 + 1))).setCell ⟨g, j * 6 + 4, none⟩ (.int .i64 (k + (j : Int) * 6 + 1 + 1 + 1 + 1))).setCell ⟨g, j * 6 + 5, none⟩ (.int .i64 (k + (j : Int) * 6 + 1 + 1 + 1 + 1 + 1)))) := Lib.hid ((((((hb.setCell hB _).setCell hB _).setCell hB _).setCell hB _).setCell hB _).setCell hB _)
        have HG := Lib.hid ((((((hgb.trans (grownBy_setCell' wr g (j * 6) (.int .i64 (k + (j : Int) * 6)))).trans (grownBy_setCell' _ g (j * 6 + 1) (.int .i64 (k + (j : Int) * 6 + 1)))).trans (grownBy_setCell' _ g (j * 6 + 2) (.int .i64 (k + (j : Int) * 6 + 1 + 1)))).trans (grownBy_setCell' _ g (j * 6 + 3) (.int .i64 (k + (j : Int) * 6 + 1 + 1 + 1)))).trans (grownBy_setCell' _ g (j * 6 + 4) (.int .i64 (k + (j : Int) * 6 + 1 + 1 + 1 + 1)))).trans (grownBy_setCell' _ g (j * 6 + 5) (.int .i64 (k + (j : Int) * 6 + 1 + 1 + 1 + 1 + 1))))
        have e1 : (0 : Int) ≤ (j : Int) := by omega
        have e2 : (j : Int) < (n : Int) := by omega
        generalize (markTo zs k (j * 6)).getD (j * 6) 0 = y0 at *
        generalize (markTo zs k (j * 6)).getD (j * 6 + 1) 0 = y1 at *
        generalize (markTo zs k (j * 6)).getD (j * 6 + 2) 0 = y2 at *
        generalize (markTo zs k (j * 6)).getD (j * 6 + 3) 0 = y3 at *
        generalize (markTo zs k (j * 6)).getD (j * 6 + 4) 0 = y4 at *
        generalize (markTo zs k (j * 6)).getD (j * 6 + 5) 0 = y5 at *
        clear ho ho2 hzl ec hgb hb
        go_wp2
        go_roundw
        case rel => exact ⟨j + 1, by omega, by congr 1; omega, by go_num, by rw [show (j + 1) * 6 = j * 6 + 6 by omega]; exact HO.out, HB.out, HG.out⟩
        case measure => simp [intOf]; omega
      · have hjn : j = n := by omega
        subst hjn
        go_wp2
        go_ret
        refine ⟨ret_int (by omega), ?_, hb, hgb⟩
        rw [← HL.out, markTo_full, HL.out] at ho
        exact ho

theorem OwnK.cells {w : World} {B n : Nat} {v : Value} {k : Int} (h : OwnK w B v n (marks k (n * 6))) : (n = 0 ∧ ∃ a c, v = .slice a 0 c) ∨ ∃ g c, v = .slice (some ⟨g, 0, none⟩) n c ∧ ∀ j, j < n * 6 → w.cell? ⟨g, j, none⟩ = some (.int .i64 (k + (j : Int))) := by
  obtain ⟨a, c, rfl, h3, h4⟩ := h.shape
  cases a with
  | none => obtain rfl := h3 rfl; exact .inl ⟨rfl, _, _, rfl⟩
  | some x =>
    obtain ⟨g, off, spot⟩ := x
    obtain ⟨rfl, rfl, hB⟩ := h4 _ rfl
    refine .inr ⟨g, c, rfl, fun j hj => ?_⟩
    have := h.cell j (by rw [marks_length]; exact hj)
    rw [marks_at _ _ _ hj] at this
    exact this

set_option maxHeartbeats 4000000 in
theorem laws_heldTokenS (v : Value) (n : Nat) (k : Int) (B : Nat) (w : World) (h : OwnK w B v n (marks k (n * 6))) (hl : n ≤ 1048576) (hk : 0 ≤ k) (hk2 : k ≤ 1099511627776) : Calls Try.prog 12 #[v, .int .i64 k] w fun e w' => e = .returned (.int .i64 (k + (n * 6 : Nat))) ∧ ∃ q, w' = w.drewN q := by
  rcases h.cells with ⟨rfl, a, c, rfl⟩ | ⟨g, c, rfl, hcell⟩
  · clear h
    go_enter Try.func12, Try.ntmps12
    go_wp2
    go_loop [1, 5] (fun q i => q = .int .i64 k ∧ i = .int .i64 0) (fun _ _ => 0)
    case atStart => exact ⟨rfl, rfl⟩
    case round =>
      obtain ⟨rfl, rfl⟩ := hrel
      go_wp2
      go_ret
      exact ⟨ret_int (by simp), 0, rfl⟩
  · clear h
    have HC := Lib.hid hcell
    clear hcell
    go_enter Try.func12, Try.ntmps12
    go_wp2
    go_loopw [1, 5] (fun q i wr => ∃ j m : Nat, j ≤ n ∧ q = .int .i64 (k + (j : Int) * 6) ∧ i = .int .i64 j ∧ wr = w.drewN m) (fun _ i _ => n - (intOf i).toNat)
    case atStart => exact ⟨0, 0, Nat.zero_le _, by simp, rfl, rfl⟩
    case round =>
      obtain ⟨j, m, hj, rfl, rfl, rfl⟩ := hrel
      by_cases hlt : j < n
      · have d0 := HC.out (j * 6) (by omega)
        have d1 := HC.out (j * 6 + 1) (by omega)
        have d2 := HC.out (j * 6 + 2) (by omega)
        have d3 := HC.out (j * 6 + 3) (by omega)
        have d4 := HC.out (j * 6 + 4) (by omega)
        have d5 := HC.out (j * 6 + 5) (by omega)
        rw [show k + ((j * 6 : Nat) : Int) = k + (j : Int) * 6 by omega] at d0
        rw [show k + ((j * 6 + 1 : Nat) : Int) = k + (j : Int) * 6 + 1 by omega] at d1
        rw [show k + ((j * 6 + 2 : Nat) : Int) = k + (j : Int) * 6 + 1 + 1 by omega] at d2
        rw [show k + ((j * 6 + 3 : Nat) : Int) = k + (j : Int) * 6 + 1 + 1 + 1 by omega] at d3
        rw [show k + ((j * 6 + 4 : Nat) : Int) = k + (j : Int) * 6 + 1 + 1 + 1 + 1 by omega] at d4
        rw [show k + ((j * 6 + 5 : Nat) : Int) = k + (j : Int) * 6 + 1 + 1 + 1 + 1 + 1 by omega] at d5
        have e1 : (0 : Int) ≤ (j : Int) := by omega
        have e2 : (j : Int) < (n : Int) := by omega
        go_wp2
        go_roundw
        case rel => exact ⟨j + 1, m, by omega, by congr 1; omega, by go_num, rfl⟩
        case measure => simp [intOf]; omega
      · have hjn : j = n := by omega
        subst hjn
        go_wp2
        go_ret
        exact ⟨ret_int (by omega), m, rfl⟩

end Go.Proofs.Ytlakpddabkmpoaa
