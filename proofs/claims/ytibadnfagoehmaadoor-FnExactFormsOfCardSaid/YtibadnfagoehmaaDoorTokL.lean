/- Tokens that are compared, marked and held: contracts of the laws' own helpers. -/
import Derived.Test.YtibadnfagoehmaaDoorTokC
import Derived.Test.YtibadnfagoehmaaDoorMarks
import Derived.Test.YtibadnfagoehmaaDoorDraw
namespace Go.Proofs.YtibadnfagoehmaaDoor
open Go.RowKit

/-- The slice v reads as the tokens ts. -/
def TkAt (w : World) (v : Value) (ts : List Tok) : Prop :=
  (ts = [] ∧ ∃ a c, v = .slice a 0 c) ∨ ∃ g off c, v = .slice (some ⟨g, off, none⟩) ts.length c ∧ ∀ i (h : i < ts.length),
    w.cell? ⟨g, off + i * 6, none⟩ = some (.int .i64 (ts[i]).k) ∧ w.cell? ⟨g, off + i * 6 + 1, none⟩ = some (.int .i64 (ts[i]).a) ∧ w.cell? ⟨g, off + i * 6 + 2, none⟩ = some (.int .i64 (ts[i]).b) ∧
    w.cell? ⟨g, off + i * 6 + 3, none⟩ = some (.int .i64 (ts[i]).c) ∧ w.cell? ⟨g, off + i * 6 + 4, none⟩ = some (.int .i64 (ts[i]).p) ∧ w.cell? ⟨g, off + i * 6 + 5, none⟩ = some (.int .i64 (ts[i]).n)
theorem TkAt.keep {w w' : World} {v : Value} {ts : List Tok} (h : TkAt w v ts) (hb : Below w.heap.size w w') : TkAt w' v ts := by
  rcases h with h | ⟨g, off, c, rfl, hc⟩
  · exact .inl h
  · refine .inr ⟨g, off, c, rfl, fun i hi => ?_⟩
    have ⟨h1, h2, h3, h4, h5, h6⟩ := hc i hi
    have k : ∀ {p : Addr} {x : Value}, w.cell? p = some x → w'.cell? p = some x := fun hx => by rw [hb.cell (World.block_lt_of_cell? w _ hx)]; exact hx
    exact ⟨k h1, k h2, k h3, k h4, k h5, k h6⟩
theorem TkAt.form {w : World} {v : Value} {ts : List Tok} (h : TkAt w v ts) : ∃ a c, v = .slice a ts.length c := by
  rcases h with ⟨rfl, a, c, rfl⟩ | ⟨g, off, c, rfl, _⟩
  · exact ⟨_, _, rfl⟩
  · exact ⟨_, _, rfl⟩
theorem tkZ_at (ts : List Tok) : ∀ i (h : i < ts.length), (tkZ ts).getD (i * 6) 0 = (ts[i]).k ∧ (tkZ ts).getD (i * 6 + 1) 0 = (ts[i]).a ∧ (tkZ ts).getD (i * 6 + 2) 0 = (ts[i]).b ∧ (tkZ ts).getD (i * 6 + 3) 0 = (ts[i]).c ∧ (tkZ ts).getD (i * 6 + 4) 0 = (ts[i]).p ∧ (tkZ ts).getD (i * 6 + 5) 0 = (ts[i]).n := by
  induction ts with
  | nil => intro i h; simp at h
  | cons s t ih =>
    intro i h
    have hc : tkZ (s :: t) = s.k :: s.a :: s.b :: s.c :: s.p :: s.n :: tkZ t := by simp [tkZ]
    rw [hc]
    cases i with
    | zero => exact ⟨rfl, rfl, rfl, rfl, rfl, rfl⟩
    | succ i =>
      have := ih i (by simpa using h)
      rw [show (i + 1) * 6 = i * 6 + 6 by omega]
      simpa [List.getD] using this
theorem OwnK.shape {w : World} {B n : Nat} {v : Value} {zs : List Int} (h : OwnK w B v n zs) : ∃ a cap, v = .slice a n cap ∧ (a = none → n = 0) ∧ ∀ x, a = some x → x.off = 0 ∧ x.spot = none ∧ B ≤ x.block := by
  rcases h.2 with ⟨hv, h0⟩ | ⟨g, cap, cur, a, b, c, d, e', f⟩
  · exact ⟨none, 0, by rw [hv, h0], fun _ => h0, by intro x hx; cases hx⟩
  · exact ⟨_, cap, a, (fun hx => by cases hx), (fun x hx => by cases hx; exact ⟨rfl, rfl, b⟩)⟩
theorem OwnK.length {w : World} {B n : Nat} {v : Value} {zs : List Int} (h : OwnK w B v n zs) : zs.length = n * 6 := by
  have := h.1
  simpa using this
theorem OwnK.cell {w : World} {B g cap n m : Nat} {zs : List Int} (h : OwnK w B (.slice (some ⟨g, 0, none⟩) m cap) n zs) (j : Nat) (hj : j < zs.length) : w.cell? ⟨g, j, none⟩ = some (.int .i64 (zs.getD j 0)) := by
  have h2 := World.ownsRow.cells h (g := g) rfl j (.int .i64 (zs.getD j 0)) (by simp [List.getElem?_eq_getElem hj, List.getD])
  rw [add_off, Nat.zero_add] at h2; exact h2
theorem OwnK.store {w : World} {B g n cap : Nat} {zs : List Int} (h : OwnK w B (.slice (some ⟨g, 0, none⟩) n cap) n zs) (j : Nat) (u : Int) :
    OwnK (w.setCell ⟨g, j, none⟩ (.int .i64 u)) B (.slice (some ⟨g, 0, none⟩) n cap) n (zs.set j u) := by
  have := (World.ownsRow.stored h j (.int .i64 u)).1
  unfold OwnK
  rw [List.map_set]
  exact this
theorem OwnK.frozen {w : World} {B g n cap : Nat} {zs : List Int} (h : OwnK w B (.slice (some ⟨g, 0, none⟩) n cap) n zs) (j : Nat) : w.frozen? ⟨g, j, none⟩ = false := World.ownsRow.frozenAt h j
theorem OwnK.tkAt {w : World} {B : Nat} {v : Value} {ts : List Tok} (h : OwnK w B v ts.length (tkZ ts)) : TkAt w v ts := by
  obtain ⟨a, c, rfl, h3, h4⟩ := h.shape
  cases a with
  | none => exact .inl ⟨List.length_eq_zero_iff.1 (h3 rfl), none, c, by rw [h3 rfl]⟩
  | some x =>
    obtain ⟨g, off, spot⟩ := x
    obtain ⟨rfl, rfl, _⟩ := h4 _ rfl
    refine .inr ⟨g, 0, c, rfl, fun i hi => ?_⟩
    have ⟨e0, e1, e2, e3, e4, e5⟩ := tkZ_at ts i hi
    have hl := tkZ_length ts
    have c0 := h.cell (i * 6) (by omega)
    have c1 := h.cell (i * 6 + 1) (by omega)
    have c2 := h.cell (i * 6 + 2) (by omega)
    have c3 := h.cell (i * 6 + 3) (by omega)
    have c4 := h.cell (i * 6 + 4) (by omega)
    have c5 := h.cell (i * 6 + 5) (by omega)
    rw [e0] at c0
    rw [e1] at c1
    rw [e2] at c2
    rw [e3] at c3
    rw [e4] at c4
    rw [e5] at c5
    simp only [Nat.zero_add]
    exact ⟨c0, c1, c2, c3, c4, c5⟩

theorem grownBy_refl' (w : World) (row : Option Nat) : w.grownBy w row := ⟨rfl, rfl, rfl, Nat.le_refl _, fun _ _ _ => rfl⟩
theorem grownBy_setCell' (w : World) (g off : Nat) (u : Value) : w.grownBy (w.setCell ⟨g, off, none⟩ u) (some g) :=
  have b := (Below.refl 0 w).setCell (p := ⟨g, off, none⟩) (Nat.zero_le _) u
  ⟨b.os, b.tape, b.output, b.size, fun i _ hi => Below.heap_setCell _ _ _ _ (fun e => hi (by rw [e]))⟩
theorem markTo_succ6 (zs : List Int) (k : Int) (j : Nat) (h : j + 5 < zs.length) : ((((((markTo zs k j).set j (k + j)).set (j + 1) (k + j + 1)).set (j + 2) (k + j + 1 + 1)).set (j + 3) (k + j + 1 + 1 + 1)).set (j + 4) (k + j + 1 + 1 + 1 + 1)).set (j + 5) (k + j + 1 + 1 + 1 + 1 + 1) = markTo zs k (j + 6) := by
  rw [markTo_succ zs k j (by omega)]
  have e1 : k + (j : Int) + 1 = k + ((j + 1 : Nat) : Int) := by omega
  have e2 : k + (j : Int) + 1 + 1 = k + ((j + 2 : Nat) : Int) := by omega
  have e3 : k + (j : Int) + 1 + 1 + 1 = k + ((j + 3 : Nat) : Int) := by omega
  have e4 : k + (j : Int) + 1 + 1 + 1 + 1 = k + ((j + 4 : Nat) : Int) := by omega
  have e5 : k + (j : Int) + 1 + 1 + 1 + 1 + 1 = k + ((j + 5 : Nat) : Int) := by omega
  rw [e5, e4, e3, e2, e1, markTo_succ zs k (j + 1) (by omega), markTo_succ zs k (j + 2) (by omega), markTo_succ zs k (j + 3) (by omega), markTo_succ zs k (j + 4) (by omega), markTo_succ zs k (j + 5) (by omega)]

theorem OwnK.cells {w : World} {B n : Nat} {v : Value} {k : Int} (h : OwnK w B v n (marks k (n * 6))) : (n = 0 ∧ ∃ a c, v = .slice a 0 c) ∨ ∃ g c, v = .slice (some ⟨g, 0, none⟩) n c ∧ ∀ j, j < n * 6 → w.cell? ⟨g, j, none⟩ = some (.int .i64 (k + (j : Int))) := by
  obtain ⟨a, c, rfl, h3, h4⟩ := h.shape
  cases a with
  | none => obtain rfl := h3 rfl; exact .inl ⟨rfl, _, _, rfl⟩
  | some x =>
    obtain ⟨g, off, spot⟩ := x
    obtain ⟨rfl, rfl, hB⟩ := h4 _ rfl
    refine .inr ⟨g, c, rfl, fun j hj => ?_⟩
    have := h.cell j (by rw [marks_length]; exact hj)
    rw [marks_at _ _ _ hj] at this
    exact this

end Go.Proofs.YtibadnfagoehmaaDoor
