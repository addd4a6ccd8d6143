/- Appending to a slice of bytes, or of ints, that the call has made. No condition. -/
import Derived.Test.YtbamjhldebobhaaDoorConv
import Derived.OwnWalk
import Derived.Deep.AppendLies
import Derived.Deep.RegionHeld3
namespace Go.Proofs.YtbamjhldebobhaaDoor
open Go.RowKit

theorem info_u8 : ∃ i, Tryd.prog.info? 5 = some i ∧ i.zero = some (.int .u8 0) ∧ i.size = 1 ∧ i.bytes = 1 := info_parts (by kernel_rfl)
theorem info_i64 : ∃ i, Tryd.prog.info? 3 = some i ∧ i.zero = some (.int .i64 0) ∧ i.size = 1 ∧ i.bytes = 8 := info_parts (by kernel_rfl)

/-- The slice v holds the numbers zs of kind k, in memory of the call's own (from block B on). -/
def Own (k : IntKind) (e : TypeId) (w : World) (B : Nat) (v : Value) (zs : List Int) : Prop := w.ownsRow B e 1 v zs.length (zs.map (Value.int k))

theorem Own.nil (k : IntKind) (e : TypeId) (w : World) (B : Nat) : Own k e w B (.slice none 0 0) [] := World.ownsRow_nil w B e 1
theorem Own.lit (k : IntKind) (e : TypeId) (w : World) (B : Nat) (zs : List Int) (hB : B ≤ w.heap.size) (hz : zs.length ≤ maxLen) :
    Own k e (w.alloc (.cells (zs.map (Value.int k)).toArray e)) B (.slice (some ⟨w.heap.size, 0, none⟩) zs.length zs.length) zs := by
  have := World.ownsRow_lit (base := B) (e := e) (size := 1) w (zs.map (Value.int k)).toArray zs.length hB hz (by simp)
  simpa [Own] using this
theorem Own.alloc {k : IntKind} {e : TypeId} {w : World} {B : Nat} {v : Value} {zs : List Int} (h : Own k e w B v zs) (o : Obj) : Own k e (w.alloc o) B v zs := World.ownsRow.alloc h o
theorem Own.drew {k : IntKind} {e : TypeId} {w : World} {B : Nat} {v : Value} {zs : List Int} (h : Own k e w B v zs) : Own k e w.drew B v zs := World.ownsRow.drew h
theorem Own.kept {k : IntKind} {e : TypeId} {w w' : World} {B : Nat} {v : Value} {zs : List Int} {row : Option Nat} (h : Own k e w B v zs) (hg : w.grownBy w' row) (hne : v.ownBlock = none ∨ v.ownBlock ≠ row) : Own k e w' B v zs := World.ownsRow.kept h hg hne
theorem Own.low {k : IntKind} {e : TypeId} {w : World} {B B' : Nat} {v : Value} {zs : List Int} (h : Own k e w B v zs) (hB : B' ≤ B) : Own k e w B' v zs := by
  refine ⟨h.1, ?_⟩
  rcases h.2 with h | ⟨g, cap, cur, a, b, c⟩
  · exact .inl h
  · exact .inr ⟨g, cap, cur, a, Nat.le_trans hB b, c⟩
/-- Below: whatever stands above may turn; a row that lies below stays. -/
theorem Own.below {k : IntKind} {e : TypeId} {w w' : World} {B C : Nat} {v : Value} {zs : List Int} (h : Own k e w B v zs) (hb : Below C w w') (hC : ∀ g, v.ownBlock = some g → g < C) : Own k e w' B v zs := by
  refine ⟨h.1, ?_⟩
  rcases h.2 with h | ⟨g, cap, cur, a, b, c, d⟩
  · exact .inl h
  · exact .inr ⟨g, cap, cur, a, b, by rw [hb.block g (hC g (by rw [a]; rfl))]; exact c, d⟩
theorem Own.all {k : IntKind} {e : TypeId} {w w' : World} {B : Nat} {v : Value} {zs : List Int} (h : Own k e w B v zs) (hb : Below w.heap.size w w') : Own k e w' B v zs :=
  h.below hb fun g hg => (World.ownsRow.lt h g hg).2
/-- Its shape. -/
theorem Own.shape {k : IntKind} {e : TypeId} {w : World} {B : Nat} {v : Value} {zs : List Int} (h : Own k e w B v zs) : ∃ a cap, v = .slice a zs.length cap ∧ zs.length ≤ cap ∧ cap ≤ maxLen ∧ (a = none → zs = [] ∧ cap = 0) ∧ ∀ x, a = some x → x.off = 0 ∧ x.spot = none ∧ B ≤ x.block := by
  rcases h.2 with ⟨hv, h0⟩ | ⟨g, cap, cur, a, b, c, d, e', f⟩
  · refine ⟨none, 0, by rw [hv, h0], by omega, Nat.zero_le _, fun _ => ⟨by simpa using h0, rfl⟩, by intro x hx; cases hx⟩
  · exact ⟨_, cap, a, d, e', (fun hx => by cases hx), (fun x hx => by cases hx; exact ⟨rfl, rfl, b⟩)⟩
/-- Its cells. -/
theorem Own.cell {k : IntKind} {e : TypeId} {w : World} {B g cap n : Nat} {zs : List Int} (h : Own k e w B (.slice (some ⟨g, 0, none⟩) n cap) zs) (j : Nat) (hj : j < zs.length) : w.cell? ⟨g, j, none⟩ = some (.int k (zs.getD j 0)) := by
  have h2 := World.ownsRow.cells h (g := g) rfl j (.int k (zs.getD j 0)) (by simp [List.getElem?_eq_getElem hj, List.getD])
  have ha : (⟨g, 0, none⟩ : Addr).add j = ⟨g, j, none⟩ := by
    unfold Addr.add
    split
    · next h => rw [h]
    · simp
  rw [ha] at h2; exact h2

/-- 'append(s, x ..)': what goes in stands in a row of its own. -/
theorem app_u8 (w : World) {ops : Array Oper} {rest : List Oper} {o : Oper} {a : Act} {Q : Exit → Act → World → Prop} (hg : o.guard = none) (s x : Operand)
    (hop : o.op = Op.call { callee := Callee.builtin Builtin.append, args := #[s, x], argTypes := #[22, 22] }) (B : Nat) (v : Value) (zs : List Int) (hs : a.eval s = v) (hown : Own .u8 5 w B v zs)
    (ad : Addr) (m c : Nat) (news : List Int) (hx : a.eval x = .slice (some ad) m c) (hm : news.length = m) (hm0 : 0 < m)
    (hc : ∀ j u, (news.map (Value.int .u8))[j]? = some u → w.cell? (ad.add j) = some u) (hb : zs.length + m ≤ 70368744177664) (hB : B ≤ w.heap.size)
    (K : ∀ g cap w', Own .u8 5 w' B (.slice (some ⟨g, 0, none⟩) (zs ++ news).length cap) (zs ++ news) → w.grownBy w' v.ownBlock → g < w'.heap.size → wpList Tryd.prog ops Q rest (a.put o.dst (.slice (some ⟨g, 0, none⟩) (zs ++ news).length cap)) w') : wpList Tryd.prog ops Q (o :: rest) a w := by
  obtain ⟨i, h1, h2, h3, h4⟩ := info_u8
  refine wpList_append_lies w hg s x 22 hop B 5 i (.int .u8 0) 1 1 Tryd.underlying22 h1 h2 h3 h4 rfl (by decide) v _ _ hs hown ad m c (news.map (Value.int .u8)) hx (by simp [hm]) hc ?_ hm0 (by unfold maxLen; omega) (by omega) hB _ rfl ?_
  · intro u hu
    simp only [List.mem_map] at hu
    obtain ⟨n, _, rfl⟩ := hu
    rfl
  · intro g cap w' h' hg' _ hlt
    have hl : zs.length + m = (zs ++ news).length := by simp [hm]
    rw [hl] at h' ⊢
    exact K g cap w' (by unfold Own; rw [List.map_append]; exact h') hg' hlt

/-- The same, at a step of a region that draws its order; the row that goes in is a block known whole. -/
theorem step_u8 (w : World) {ops : Array Oper} {o : Oper} {a : Act} {L : Act → World → Prop} {Q : Exit → Act → World → Prop} {E : Prop} (hg : o.guard = none) (s x : Operand)
    (hop : o.op = Op.call { callee := Callee.builtin Builtin.append, args := #[s, x], argTypes := #[22, 22] }) (B : Nat) (v : Value) (zs : List Int) (hs : a.eval s = v) (hown : Own .u8 5 w B v zs)
    (b m c : Nat) (news : List Int) (hx : a.eval x = .slice (some ⟨b, 0, none⟩) m c) (hm : news.length = m) (hm0 : 0 < m)
    (hc : w.heap[b]? = some (.cells (news.map (Value.int .u8)).toArray 5)) (hb : zs.length + m ≤ 70368744177664) (hB : B ≤ w.heap.size)
    (K : ∀ g cap w', Own .u8 5 w' B (.slice (some ⟨g, 0, none⟩) (zs ++ news).length cap) (zs ++ news) → w.grownBy w' v.ownBlock → g < w'.heap.size → L (a.put o.dst (.slice (some ⟨g, 0, none⟩) (zs ++ news).length cap)) w') :
    if Region.wanted o (yielded ops a.tmps) = true then Oper.wp Tryd.prog o a w L Q else E := by
  obtain ⟨i, h1, h2, h3, h4⟩ := info_u8
  refine step_append_lies w hg s x 22 hop B 5 i (.int .u8 0) 1 1 Tryd.underlying22 h1 h2 h3 h4 rfl (by decide) v _ _ hs hown ⟨b, 0, none⟩ m c (news.map (Value.int .u8)) hx (by simp [hm]) (World.news_of_block hc) ?_ hm0 (by unfold maxLen; omega) (by omega) hB _ rfl ?_
  · intro u hu
    simp only [List.mem_map] at hu
    obtain ⟨n, _, rfl⟩ := hu
    rfl
  · intro g cap w' h' hg' _ hlt
    have hl : zs.length + m = (zs ++ news).length := by simp [hm]
    rw [hl] at h' ⊢
    exact K g cap w' (by unfold Own; rw [List.map_append]; exact h') hg' hlt

/-- 'append(s, x ..)': what goes in stands in a row of its own. -/
theorem app_i64 (w : World) {ops : Array Oper} {rest : List Oper} {o : Oper} {a : Act} {Q : Exit → Act → World → Prop} (hg : o.guard = none) (s x : Operand)
    (hop : o.op = Op.call { callee := Callee.builtin Builtin.append, args := #[s, x], argTypes := #[27, 27] }) (B : Nat) (v : Value) (zs : List Int) (hs : a.eval s = v) (hown : Own .i64 3 w B v zs)
    (ad : Addr) (m c : Nat) (news : List Int) (hx : a.eval x = .slice (some ad) m c) (hm : news.length = m) (hm0 : 0 < m)
    (hc : ∀ j u, (news.map (Value.int .i64))[j]? = some u → w.cell? (ad.add j) = some u) (hb : zs.length + m ≤ 1099511627776) (hB : B ≤ w.heap.size)
    (K : ∀ g cap w', Own .i64 3 w' B (.slice (some ⟨g, 0, none⟩) (zs ++ news).length cap) (zs ++ news) → w.grownBy w' v.ownBlock → g < w'.heap.size → wpList Tryd.prog ops Q rest (a.put o.dst (.slice (some ⟨g, 0, none⟩) (zs ++ news).length cap)) w') : wpList Tryd.prog ops Q (o :: rest) a w := by
  obtain ⟨i, h1, h2, h3, h4⟩ := info_i64
  refine wpList_append_lies w hg s x 27 hop B 3 i (.int .i64 0) 1 8 Tryd.underlying27 h1 h2 h3 h4 rfl (by decide) v _ _ hs hown ad m c (news.map (Value.int .i64)) hx (by simp [hm]) hc ?_ hm0 (by unfold maxLen; omega) (by omega) hB _ rfl ?_
  · intro u hu
    simp only [List.mem_map] at hu
    obtain ⟨n, _, rfl⟩ := hu
    rfl
  · intro g cap w' h' hg' _ hlt
    have hl : zs.length + m = (zs ++ news).length := by simp [hm]
    rw [hl] at h' ⊢
    exact K g cap w' (by unfold Own; rw [List.map_append]; exact h') hg' hlt

/-- The same, at a step of a region that draws its order; the row that goes in is a block known whole. -/
theorem step_i64 (w : World) {ops : Array Oper} {o : Oper} {a : Act} {L : Act → World → Prop} {Q : Exit → Act → World → Prop} {E : Prop} (hg : o.guard = none) (s x : Operand)
    (hop : o.op = Op.call { callee := Callee.builtin Builtin.append, args := #[s, x], argTypes := #[27, 27] }) (B : Nat) (v : Value) (zs : List Int) (hs : a.eval s = v) (hown : Own .i64 3 w B v zs)
    (b m c : Nat) (news : List Int) (hx : a.eval x = .slice (some ⟨b, 0, none⟩) m c) (hm : news.length = m) (hm0 : 0 < m)
    (hc : w.heap[b]? = some (.cells (news.map (Value.int .i64)).toArray 3)) (hb : zs.length + m ≤ 1099511627776) (hB : B ≤ w.heap.size)
    (K : ∀ g cap w', Own .i64 3 w' B (.slice (some ⟨g, 0, none⟩) (zs ++ news).length cap) (zs ++ news) → w.grownBy w' v.ownBlock → g < w'.heap.size → L (a.put o.dst (.slice (some ⟨g, 0, none⟩) (zs ++ news).length cap)) w') :
    if Region.wanted o (yielded ops a.tmps) = true then Oper.wp Tryd.prog o a w L Q else E := by
  obtain ⟨i, h1, h2, h3, h4⟩ := info_i64
  refine step_append_lies w hg s x 27 hop B 3 i (.int .i64 0) 1 8 Tryd.underlying27 h1 h2 h3 h4 rfl (by decide) v _ _ hs hown ⟨b, 0, none⟩ m c (news.map (Value.int .i64)) hx (by simp [hm]) (World.news_of_block hc) ?_ hm0 (by unfold maxLen; omega) (by omega) hB _ rfl ?_
  · intro u hu
    simp only [List.mem_map] at hu
    obtain ⟨n, _, rfl⟩ := hu
    rfl
  · intro g cap w' h' hg' _ hlt
    have hl : zs.length + m = (zs ++ news).length := by simp [hm]
    rw [hl] at h' ⊢
    exact K g cap w' (by unfold Own; rw [List.map_append]; exact h') hg' hlt

/-- 'string(b)' of such a row of bytes. -/
theorem conv_own {w : World} {B : Nat} {v : Value} {zs : List Int} (h : Own .u8 5 w B v zs) :
    (convert 22 9 v).run Tryd.prog w = .ok (.string (bs zs)) w := by
  obtain ⟨a, cap, rfl, h1, h2, h3, h4⟩ := h.shape
  cases a with
  | none =>
    obtain ⟨rfl, rfl⟩ := h3 rfl
    exact run_convert_bytes_nil (P := Tryd.prog) w 22 5 Tryd.underlying22 Tryd.underlying5 _ _ 9 Tryd.underlying9
  | some x =>
    obtain ⟨b, off, spot⟩ := x
    obtain ⟨rfl, rfl, hb⟩ := h4 _ rfl
    apply conv_cells
    intro j hj
    have ha : (⟨b, 0, none⟩ : Addr).add j = ⟨b, j, none⟩ := by
      unfold Addr.add
      split
      · next h => rw [h]
      · simp
    rw [ha]; exact h.cell j hj

end Go.Proofs.YtbamjhldebobhaaDoor
