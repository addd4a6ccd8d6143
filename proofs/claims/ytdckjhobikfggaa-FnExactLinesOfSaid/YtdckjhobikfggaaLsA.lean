/- Lists of lists in memory of the call's own, each in a block of its own. -/
import Derived.Test.YtdckjhobikfggaaLsV
import Derived.Test.YtdckjhobikfggaaLsM
namespace Go.Proofs.Ytdckjhobikfggaa
open Go.RowKit

/-- 'append(s, x)' of one slice. -/
theorem app_list (w : World) {ops : Array Oper} {rest : List Oper} {o : Oper} {a : Act} {Q : Exit → Act → World → Prop} (hg : o.guard = none) (s x : Operand)
    (hop : o.op = Op.call { callee := Callee.builtin Builtin.append, args := #[s, x], argTypes := #[30, 30] }) (B : Nat) (v : Value) (vs : List Value) (hs : a.eval s = v) (hown : OwnV w B v vs) (m : Nat) (hm : vs.length = m)
    (b c : Nat) (u : Value) (hx : a.eval x = .slice (some ⟨b, 0, none⟩) 1 c) (hu : u.oneCell' = true)
    (hc : w.heap[b]? = some (.cells #[u] 22)) (hb : m ≤ 1048576) (hB : B ≤ w.heap.size)
    (K : ∀ g cap w', OwnV w' B (.slice (some ⟨g, 0, none⟩) (m + 1) cap) (vs ++ [u]) → w.grownBy w' v.ownBlock → (v.ownBlock = some g ∨ g = w.heap.size) → wpList Try.prog ops Q rest (a.put o.dst (.slice (some ⟨g, 0, none⟩) (m + 1) cap)) w') : wpList Try.prog ops Q (o :: rest) a w := by
  subst hm
  obtain ⟨i, h1, h2, h3, h4⟩ := info_list
  refine wpList_append_lies w hg s x 30 hop B 22 i (.slice none 0 0) 1 24 Try.underlying30 h1 h2 h3 h4 rfl (by decide) v _ _ hs hown ⟨b, 0, none⟩ 1 c [u] hx rfl (World.news_of_block hc) ?_ (by decide) (by unfold maxLen; omega) (by omega) hB _ rfl ?_
  · intro u' hu'
    rw [List.mem_singleton] at hu'
    rw [hu']
    exact hu
  · intro g cap w' h' hg' hgg _
    refine K g cap w' ?_ hg' hgg
    unfold OwnV
    rw [List.length_append]
    exact h'
/-- 'append(s, x)' of one number. -/
theorem app_one (w : World) {ops : Array Oper} {rest : List Oper} {o : Oper} {a : Act} {Q : Exit → Act → World → Prop} (hg : o.guard = none) (s x : Operand)
    (hop : o.op = Op.call { callee := Callee.builtin Builtin.append, args := #[s, x], argTypes := #[22, 22] }) (B : Nat) (v : Value) (zs : List Int) (hs : a.eval s = v) (hown : Own .i64 3 w B v zs) (m : Nat) (hm : zs.length = m)
    (b c : Nat) (r : Int) (hx : a.eval x = .slice (some ⟨b, 0, none⟩) 1 c)
    (hc : w.heap[b]? = some (.cells #[.int .i64 r] 3)) (hb : m + 1 ≤ 1099511627776) (hB : B ≤ w.heap.size)
    (K : ∀ g cap w', Own .i64 3 w' B (.slice (some ⟨g, 0, none⟩) (m + 1) cap) (zs ++ [r]) → w.grownBy w' v.ownBlock → (v.ownBlock = some g ∨ g = w.heap.size) → wpList Try.prog ops Q rest (a.put o.dst (.slice (some ⟨g, 0, none⟩) (m + 1) cap)) w') : wpList Try.prog ops Q (o :: rest) a w := by
  subst hm
  obtain ⟨i, h1, h2, h3, h4⟩ := info_i64
  refine wpList_append_lies w hg s x 22 hop B 3 i (.int .i64 0) 1 8 Try.underlying22 h1 h2 h3 h4 rfl (by decide) v _ _ hs hown ⟨b, 0, none⟩ 1 c [.int .i64 r] hx (by simp) (World.news_of_block hc) ?_ (by decide) (by unfold maxLen; omega) (by omega) hB _ rfl ?_
  · intro u hu
    rw [List.mem_singleton] at hu
    rw [hu]
    rfl
  · intro g cap w' h' hg' hgg _
    exact K g cap w' (by unfold Own; rw [List.map_append, List.length_append]; exact h') hg' hgg

/-- The lists L behind the row v: list k is the slice f k. -/
def Lns (w : World) (B : Nat) (v : Value) (L : List (List Int)) (f : Nat → Value) : Prop :=
  OwnV w B v ((List.range L.length).map f) ∧ (∀ k, k < L.length → Own .i64 3 w B (f k) (L.getD k [])) ∧ ∀ j k : Nat, j < L.length → k < L.length → j ≠ k → ∀ b, (f j).ownBlock = some b → (f k).ownBlock ≠ some b
theorem Lns.nil (w : World) (B : Nat) (f : Nat → Value) : Lns w B (.slice none 0 0) [] f := ⟨OwnV.nil _ _, fun k hk => absurd hk (by simp), fun j k hj => absurd hj (by simp)⟩
theorem Lns.empty (w : World) (B : Nat) (hB : B ≤ w.heap.size) (f : Nat → Value) : Lns (w.alloc (.cells #[] 22)) B (.slice (some ⟨w.heap.size, 0, none⟩) 0 0) [] f := ⟨OwnV.empty _ _ hB, fun k hk => absurd hk (by simp), fun j k hj => absurd hj (by simp)⟩
theorem Lns.all {w w' : World} {B : Nat} {v : Value} {L : List (List Int)} {f : Nat → Value} (h : Lns w B v L f) (hb : Below w.heap.size w w') : Lns w' B v L f := ⟨h.1.all hb, fun k hk => (h.2.1 k hk).all hb, h.2.2⟩
theorem Lns.low {w : World} {B B' : Nat} {v : Value} {L : List (List Int)} {f : Nat → Value} (h : Lns w B v L f) (hB : B' ≤ B) : Lns w B' v L f := ⟨h.1.low hB, fun k hk => (h.2.1 k hk).low hB, h.2.2⟩
/-- A list's block is not the row's. -/
theorem own_row {w : World} {B B' b : Nat} {v u : Value} {l : List Int} {us : List Value} (hu : Own .i64 3 w B u l) (hv : OwnV w B' v us) (h : u.ownBlock = some b) : v.ownBlock ≠ some b := by
  intro he
  rcases hu.2 with ⟨h1, _⟩ | ⟨g, cap, cur, x1, x2, x3, x4⟩
  · rw [h1] at h; cases h
  · rcases hv.2 with ⟨h1, _⟩ | ⟨g', cap', cur', y1, y2, y3, y4⟩
    · rw [h1] at he; cases he
    · rw [x1] at h
      rw [y1] at he
      have e1 : g = b := Option.some.inj h
      have e2 : g' = b := Option.some.inj he
      rw [e1] at x3
      rw [e2, x3] at y3
      simp at y3
theorem Lns.apart {w : World} {B : Nat} {v : Value} {L : List (List Int)} {f : Nat → Value} (h : Lns w B v L f) : Apart L.length v f := ⟨h.2.2, fun k hk _ hb => own_row (h.2.1 k hk) h.1 hb⟩
/-- A row that grew elsewhere. -/
theorem Lns.kept {w w' : World} {B : Nat} {v : Value} {L : List (List Int)} {f : Nat → Value} {row : Option Nat} (h : Lns w B v L f) (hg : w.grownBy w' row) (hv : v.ownBlock = none ∨ v.ownBlock ≠ row) (hf : ∀ k, k < L.length → (f k).ownBlock = none ∨ (f k).ownBlock ≠ row) : Lns w' B v L f :=
  ⟨World.ownsRow.kept h.1 hg hv, fun k hk => (h.2.1 k hk).kept hg (hf k hk), h.2.2⟩
/-- One more. -/
theorem Lns.push {w w' : World} {B : Nat} {v v' u : Value} {L : List (List Int)} {f : Nat → Value} {l : List Int} (h : Lns w B v L f) (hu : Own .i64 3 w B u l) (hx : ∀ k, k < L.length → ∀ b, (f k).ownBlock = some b → u.ownBlock ≠ some b)
    (o : OwnV w' B v' ((List.range L.length).map f ++ [u])) (hg : w.grownBy w' v.ownBlock) : Lns w' B v' (L ++ [l]) (fun k => if k < L.length then f k else u) := by
  have hne : ∀ {y : Value} {zs : List Int}, Own .i64 3 w B y zs → y.ownBlock = none ∨ y.ownBlock ≠ v.ownBlock := fun {y zs} hy => by
    cases hb : y.ownBlock with
    | none => exact .inl rfl
    | some b => exact .inr fun he => own_row hy h.1 hb he.symm
  refine ⟨?_, fun k hk => ?_, fun j k hj hk hjk b hb => ?_⟩
  · have e : (List.range (L ++ [l]).length).map (fun k => if k < L.length then f k else u) = (List.range L.length).map f ++ [u] := by
      rw [List.length_append, List.length_cons, List.length_nil, List.range_succ, List.map_append]
      congr 1
      · apply List.map_congr_left
        intro k hk
        rw [if_pos (by simpa using hk)]
      · simp
    rw [e]
    exact o
  · rw [List.length_append, List.length_cons, List.length_nil] at hk
    dsimp only
    by_cases hlt : k < L.length
    · rw [if_pos hlt]
      have e : (L ++ [l]).getD k [] = L.getD k [] := by simp [List.getD, List.getElem?_append_left hlt]
      rw [e]
      exact (h.2.1 k hlt).kept hg (hne (h.2.1 k hlt))
    · rw [if_neg hlt]
      have e : (L ++ [l]).getD k [] = l := by
        have : k = L.length := by omega
        subst this
        simp [List.getD]
      rw [e]
      exact hu.kept hg (hne hu)
  · rw [List.length_append, List.length_cons, List.length_nil] at hj hk
    dsimp only at hb ⊢
    by_cases h1 : j < L.length
    · rw [if_pos h1] at hb
      by_cases h2 : k < L.length
      · rw [if_pos h2]; exact h.2.2 j k h1 h2 hjk b hb
      · rw [if_neg h2]; exact hx j h1 b hb
    · rw [if_neg h1] at hb
      by_cases h2 : k < L.length
      · rw [if_pos h2]; exact fun he => hx k h2 b he hb
      · exact absurd (show j = k by omega) hjk

/-- What LinesOf hands back. -/
def LnDone (zs : List Int) (w : World) (e : Ending) (w' : World) : Prop := ∃ a c f, e = .returned (.tuple #[.slice a (linesZ zs).length c, .int .i64 (linesC zs)]) ∧ Lns w' w.heap.size (.slice a (linesZ zs).length c) (linesZ zs) f ∧ Below w.heap.size w w'
theorem LnDone.mk {zs : List Int} {w w' : World} {a : Option Addr} {n c : Nat} {f : Nat → Value} {L : List (List Int)} {k : Int} (h1 : linesZ zs = L) (h2 : linesC zs = k) (hn : n = L.length) (h3 : Lns w' w.heap.size (.slice a n c) L f) (h4 : Below w.heap.size w w') :
    LnDone zs w (.returned (.tuple #[.slice a n c, .int .i64 k])) w' := by
  subst h1 h2 hn
  exact ⟨a, c, f, rfl, h3, h4⟩

end Go.Proofs.Ytdckjhobikfggaa
