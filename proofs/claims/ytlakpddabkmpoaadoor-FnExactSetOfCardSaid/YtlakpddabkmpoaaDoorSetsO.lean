/- The program's SetOf over its own table: the spans are copied one by one into new memory. -/
import Derived.Test.YtlakpddabkmpoaaDoorSetsJ
import Derived.Test.YtlakpddabkmpoaaDoorSpanB
import Derived.Deep.RegionHeld3
namespace Go.Proofs.YtlakpddabkmpoaaDoor
open Go.RowKit

/-- The numbers of spans in a row. -/
def spZ (sp : List Sp) : List Int := sp.flatMap fun s => [s.1, s.2.1, s.2.2]
theorem spZ_snoc (sp : List Sp) (k : Nat) (h : k < sp.length) : spZ (sp.take (k + 1)) = spZ (sp.take k) ++ [(sp[k]).1, (sp[k]).2.1, (sp[k]).2.2] := by
  rw [List.take_succ_eq_append_getElem h, spZ, List.flatMap_append]
  simp [spZ]
theorem spZ_length (sp : List Sp) : (spZ sp).length = 3 * sp.length := by
  induction sp with
  | nil => rfl
  | cons s t ih => simp [spZ] at ih ⊢; omega
theorem spZ_at (sp : List Sp) : ∀ k (h : k < sp.length), (spZ sp).getD (k * 3) 0 = (sp[k]).1 ∧ (spZ sp).getD (k * 3 + 1) 0 = (sp[k]).2.1 ∧ (spZ sp).getD (k * 3 + 2) 0 = (sp[k]).2.2 := by
  induction sp with
  | nil => intro k h; simp at h
  | cons s t ih =>
    intro k h
    have hc : spZ (s :: t) = s.1 :: s.2.1 :: s.2.2 :: spZ t := by simp [spZ]
    rw [hc]
    cases k with
    | zero => exact ⟨rfl, rfl, rfl⟩
    | succ k =>
      have := ih k (by simpa using h)
      rw [show (k + 1) * 3 = k * 3 + 3 by omega]
      simpa [List.getD] using this

theorem OwnC.put {w : World} {B n b off : Nat} {v u : Value} {zs : List Int} (h : OwnC w B v n zs) (hb : b < B) : OwnC (w.setCell ⟨b, off, none⟩ u) B v n zs := by
  refine ⟨h.1, ?_⟩
  rcases h.2 with h | ⟨g, cap, cur, x1, x2, x3, x4⟩
  · exact .inl h
  · exact .inr ⟨g, cap, cur, x1, x2, by rw [Below.heap_setCell _ _ _ _ (by simp; omega)]; exact x3, x4⟩
theorem OwnC.low {w : World} {B B' n : Nat} {v : Value} {zs : List Int} (h : OwnC w B v n zs) (hB : B' ≤ B) : OwnC w B' v n zs := by
  refine ⟨h.1, ?_⟩
  rcases h.2 with h | ⟨g, cap, cur, x1, x2, x3⟩
  · exact .inl h
  · exact .inr ⟨g, cap, cur, x1, by omega, x3⟩
theorem OwnC.spAt {w : World} {B : Nat} {v : Value} {sp : List Sp} (h : OwnC w B v sp.length (spZ sp)) : SpAt w v sp := by
  obtain ⟨a, c, rfl, h3, h4⟩ := h.shape
  cases a with
  | none => exact .inl ⟨List.length_eq_zero_iff.1 (h3 rfl), none, c, by rw [h3 rfl]⟩
  | some x =>
    obtain ⟨g, off, spot⟩ := x
    obtain ⟨rfl, rfl, _⟩ := h4 _ rfl
    refine .inr ⟨g, 0, c, rfl, fun i hi => ?_⟩
    have ⟨e0, e1, e2⟩ := spZ_at sp i hi
    have hl := spZ_length sp
    have h0 := h.cell (i * 3) (by omega)
    have h1 := h.cell (i * 3 + 1) (by omega)
    have h2 := h.cell (i * 3 + 2) (by omega)
    rw [e0] at h0
    rw [e1] at h1
    rw [e2] at h2
    simp only [Nat.zero_add]
    exact ⟨h0, h1, h2⟩

theorem info_span : ∃ i, Tryd.prog.info? 34 = some i ∧ i.zero = some (.agg #[.int .i64 0, .int .i64 0, .int .i64 0]) ∧ i.size = 3 ∧ i.bytes = 24 := info_parts (by kernel_rfl)

/-- 'append(s, x)' of one span. -/
theorem app_span (w : World) {ops : Array Oper} {rest : List Oper} {o : Oper} {a : Act} {Q : Exit → Act → World → Prop} (hg : o.guard = none) (s x : Operand)
    (hop : o.op = Op.call { callee := Callee.builtin Builtin.append, args := #[s, x], argTypes := #[24, 24] }) (B : Nat) (v : Value) (n : Nat) (zs : List Int) (hs : a.eval s = v) (hown : OwnC w B v n zs)
    (ad : Addr) (c : Nat) (s1 s2 s3 : Int) (hx : a.eval x = .slice (some ad) 1 c)
    (hc : ∀ j u, ([.int .i64 s1, .int .i64 s2, .int .i64 s3] : List Value)[j]? = some u → w.cell? (ad.add j) = some u) (hb : n ≤ 1048576) (hB : B ≤ w.heap.size)
    (K : ∀ g cap w', OwnC w' B (.slice (some ⟨g, 0, none⟩) (n + 1) cap) (n + 1) (zs ++ [s1, s2, s3]) → w.grownBy w' v.ownBlock → g < w'.heap.size → wpList Tryd.prog ops Q rest (a.put o.dst (.slice (some ⟨g, 0, none⟩) (n + 1) cap)) w') : wpList Tryd.prog ops Q (o :: rest) a w := by
  obtain ⟨i, h1, h2, h3, h4⟩ := info_span
  refine wpList_append_lies w hg s x 24 hop B 34 i _ 3 24 Tryd.underlying24 h1 h2 h3 h4 rfl (by decide) v n _ hs hown ad 1 c [.int .i64 s1, .int .i64 s2, .int .i64 s3] hx (by simp) hc ?_ (by decide) (by unfold maxLen; omega) (by omega) hB _ rfl ?_
  · intro u hu
    simp only [List.mem_cons, List.not_mem_nil, or_false] at hu
    rcases hu with rfl | rfl | rfl <;> rfl
  · intro g cap w' h' hg' _ hlt
    exact K g cap w' (by unfold OwnC; rw [List.map_append]; exact h') hg' hlt

def SetRetI (n : Int) (w : World) (e : Ending) (w' : World) : Prop :=
  (setB n = false ∧ e = .returned (.tuple #[zeroSet, .int .i64 5]) ∨ setB n = true ∧ ∃ v, e = .returned (.tuple #[setVal (setName n) (setKind n) (setFinal n) v, .int .i64 0]) ∧ OwnC w' w.heap.size v (setSpans n).length (spZ (setSpans n))) ∧ Below w.heap.size w w'

def SpansRet (n : Int) (w : World) (e : Ending) (w' : World) : Prop :=
  ∃ v, e = .returned v ∧ OwnC w' w.heap.size v (setSpans n).length (spZ (setSpans n)) ∧ Below w.heap.size w w'

set_option maxHeartbeats 1000000 in
theorem impl_spansOf (k : Nat) (w : World) (ht : TabSets w) (k1 : 1 ≤ k) (k8 : k ≤ 8) : Calls Tryd.prog 43 #[.int .i64 k] w (SpansRet k w) := by
  obtain ⟨_, _, _, v, c3, hs⟩ := ht k k1 k8
  clear ht
  have u1 : (0 : Int) ≤ (k : Int) := by omega
  have u2 : (k : Int) < 9 := by omega
  obtain ⟨g, off, c, rfl, hcs⟩ := hs.open
  have HC := Lib.hid hcs
  have f2 := (set_few (k : Int)).2
  clear hs hcs
  go_enter Tryd.func43, Tryd.ntmps43
  go_wp2
  go_loopw [3, 11] (fun v i wr => ∃ j : Nat, j ≤ (setSpans (k : Int)).length ∧ i = .int .i64 j ∧ OwnC wr w.heap.size v j (spZ ((setSpans (k : Int)).take j)) ∧ Below w.heap.size w wr) (fun _ i _ => (setSpans (k : Int)).length - (intOf i).toNat)
  case atStart => exact ⟨0, Nat.zero_le _, rfl, World.ownsRow_nil _ _ _ _, Below.refl _ _⟩
  case round =>
    obtain ⟨j, hj, rfl, ho, b⟩ := hrel
    have hszr := b.size
    by_cases hlt : j < (setSpans (k : Int)).length
    · have ⟨x0, x1, x2⟩ := HC.out j hlt
      have HZ := Lib.hid (spZ_snoc (setSpans (k : Int)) j hlt)
      have y0 := (b.cell (World.block_lt_of_cell? w _ x0)).trans x0
      have y1 := (b.cell (World.block_lt_of_cell? w _ x1)).trans x1
      have y2 := (b.cell (World.block_lt_of_cell? w _ x2)).trans x2
      generalize (setSpans (k : Int))[j] = s at *
      obtain ⟨sc, sr, sn⟩ := s
      simp only at y0 y1 y2
      clear x0 x1 x2
      have v1 : (0 : Int) ≤ (j : Int) := by omega
      have v2 : (j : Int) < ((setSpans (k : Int)).length : Int) := by omega
      go_wp2_with (at_builtin; refine app_span _ rfl _ _ rfl w.heap.size _ j _ rfl ((ho.all ((Below.refl _ _).alloc (Nat.le_refl _) _)).all ((Below.refl _ _).alloc (Nat.le_refl _) _)) ⟨wr.heap.size + 1, 0, none⟩ 1 sc sr sn rfl (World.news_of_block (heap_alloc2_new _ _ _)) (by omega) (by simp; omega) ?_)
      intro g2 cap2 w4 o4 g4 lt4
      go_wp2
      go_roundw
      case rel => exact ⟨j + 1, by omega, by go_num, by rw [HZ.out]; exact o4, ((b.alloc hszr _).alloc (by simp; omega) _).grown g4 (by simp; omega) (fun j hj => (World.ownsRow.lt ho j hj).1)⟩
      case measure => simp [intOf]; omega
    · have hjn : j = (setSpans (k : Int)).length := by omega
      subst hjn
      rw [List.take_of_length_le (Nat.le_refl _)] at ho
      go_wp2
      go_ret
      exact ⟨_, rfl, ho, b⟩

/-- A slot of four cells in a block. -/
def SlotOK (w : World) (g : Nat) : Prop := ∃ a b c d, w.heap[g]? = some (.cells #[a, b, c, d] 26)
def cellD (w : World) (g i : Nat) : Value := (w.cell? ⟨g, i, none⟩).getD (.bool false)
theorem SlotOK.set {w : World} {g : Nat} (h : SlotOK w g) (v0 v1 v2 v3 : Value) : SlotOK ((((w.setCell ⟨g, 0, none⟩ v0).setCell ⟨g, 1, none⟩ v1).setCell ⟨g, 2, none⟩ v2).setCell ⟨g, 3, none⟩ v3) g := by
  obtain ⟨a, b, c, d, hz⟩ := h
  have k0 := heap_setCell_same w g 0 _ _ v0 hz
  have k1 := heap_setCell_same _ g 1 _ _ v1 k0
  have k2 := heap_setCell_same _ g 2 _ _ v2 k1
  have k3 := heap_setCell_same _ g 3 _ _ v3 k2
  exact ⟨v0, v1, v2, v3, k3⟩
theorem below_set4 {u w : World} {B g : Nat} (h : Below B u w) (hg : B ≤ g) (v0 v1 v2 v3 : Value) : Below B u ((((w.setCell ⟨g, 0, none⟩ v0).setCell ⟨g, 1, none⟩ v1).setCell ⟨g, 2, none⟩ v2).setCell ⟨g, 3, none⟩ v3) :=
  (((h.setCell hg _).setCell hg _).setCell hg _).setCell hg _
theorem slot_facts (w : World) (g : Nat) (h : SlotOK w g) : w.cell? ⟨g, 0, none⟩ = some (cellD w g 0) ∧ w.cell? ⟨g, 1, none⟩ = some (cellD w g 1) ∧ w.cell? ⟨g, 2, none⟩ = some (cellD w g 2) ∧ w.cell? ⟨g, 3, none⟩ = some (cellD w g 3) ∧ w.frozen? ⟨g, 0, none⟩ = false ∧ w.frozen? ⟨g, 1, none⟩ = false ∧ w.frozen? ⟨g, 2, none⟩ = false ∧ w.frozen? ⟨g, 3, none⟩ = false := by
  obtain ⟨a, b, c, d, hz⟩ := h
  have q : ∀ i, i < 4 → w.cell? ⟨g, i, none⟩ = some (cellD w g i) := fun i hi => by
    unfold cellD
    rw [cell_of_row _ _ _ _ _ _ hz]
    have : i = 0 ∨ i = 1 ∨ i = 2 ∨ i = 3 := by omega
    rcases this with rfl | rfl | rfl | rfl <;> rfl
  exact ⟨q 0 (by decide), q 1 (by decide), q 2 (by decide), q 3 (by decide), frozen_of_row w _ 0 _ _ hz, frozen_of_row w _ 1 _ _ hz, frozen_of_row w _ 2 _ _ hz, frozen_of_row w _ 3 _ _ hz⟩
theorem set_S (k : Nat) (u wx : World) (ht : TabSets u) (k1 : 1 ≤ k) (k8 : k ≤ 8) (hb : Below u.heap.size u wx) (ho : SlotOK wx u.heap.size) : wx.cell? ⟨0, (k * 4), none⟩ = some (.string (setName (k : Int))) ∧ wx.cell? ⟨0, (k * 4 + 1), none⟩ = some (.int .i64 (setKind (k : Int))) ∧ wx.cell? ⟨0, (k * 4 + 2), none⟩ = some (.int .i64 (setFinal (k : Int))) ∧ wx.cell? ⟨u.heap.size, 0, none⟩ = some (cellD wx u.heap.size 0) ∧ wx.cell? ⟨u.heap.size, 1, none⟩ = some (cellD wx u.heap.size 1) ∧ wx.cell? ⟨u.heap.size, 2, none⟩ = some (cellD wx u.heap.size 2) ∧ wx.cell? ⟨u.heap.size, 3, none⟩ = some (cellD wx u.heap.size 3) ∧ wx.frozen? ⟨u.heap.size, 0, none⟩ = false ∧ wx.frozen? ⟨u.heap.size, 1, none⟩ = false ∧ wx.frozen? ⟨u.heap.size, 2, none⟩ = false ∧ wx.frozen? ⟨u.heap.size, 3, none⟩ = false ∧ Below u.heap.size u wx ∧ SlotOK wx u.heap.size := by
  obtain ⟨c0, c1, c2, _, _, _⟩ := ht k k1 k8
  have kp : ∀ {q : Addr} {y : Value}, u.cell? q = some y → wx.cell? q = some y := fun hq => (hb.cell (World.block_lt_of_cell? u _ hq)).trans hq
  have ⟨s0, s1, s2, s3, s4, s5, s6, s7⟩ := slot_facts wx u.heap.size ho
  exact ⟨kp c0, kp c1, kp c2, s0, s1, s2, s3, s4, s5, s6, s7, hb, ho⟩
theorem spans_box (k : Nat) (u w : World) (ht : TabSets u) (k1 : 1 ≤ k) (k8 : k ≤ 8) (hS : w.cell? ⟨0, (k * 4), none⟩ = some (.string (setName (k : Int))) ∧ w.cell? ⟨0, (k * 4 + 1), none⟩ = some (.int .i64 (setKind (k : Int))) ∧ w.cell? ⟨0, (k * 4 + 2), none⟩ = some (.int .i64 (setFinal (k : Int))) ∧ w.cell? ⟨u.heap.size, 0, none⟩ = some (cellD w u.heap.size 0) ∧ w.cell? ⟨u.heap.size, 1, none⟩ = some (cellD w u.heap.size 1) ∧ w.cell? ⟨u.heap.size, 2, none⟩ = some (cellD w u.heap.size 2) ∧ w.cell? ⟨u.heap.size, 3, none⟩ = some (cellD w u.heap.size 3) ∧ w.frozen? ⟨u.heap.size, 0, none⟩ = false ∧ w.frozen? ⟨u.heap.size, 1, none⟩ = false ∧ w.frozen? ⟨u.heap.size, 2, none⟩ = false ∧ w.frozen? ⟨u.heap.size, 3, none⟩ = false ∧ Below u.heap.size u w ∧ SlotOK w u.heap.size) :
    Calls Tryd.prog 43 #[.int .i64 k] w fun e w' => ∃ a c, e = .returned (.slice a (setSpans (k : Int)).length c) ∧ OwnC w' w.heap.size (.slice a (setSpans (k : Int)).length c) (setSpans (k : Int)).length (spZ (setSpans (k : Int))) ∧ Below w.heap.size w w' ∧ w'.cell? ⟨0, (k * 4), none⟩ = some (.string (setName (k : Int))) ∧ w'.cell? ⟨0, (k * 4 + 1), none⟩ = some (.int .i64 (setKind (k : Int))) ∧ w'.cell? ⟨0, (k * 4 + 2), none⟩ = some (.int .i64 (setFinal (k : Int))) ∧ w'.cell? ⟨u.heap.size, 0, none⟩ = some (cellD w' u.heap.size 0) ∧ w'.cell? ⟨u.heap.size, 1, none⟩ = some (cellD w' u.heap.size 1) ∧ w'.cell? ⟨u.heap.size, 2, none⟩ = some (cellD w' u.heap.size 2) ∧ w'.cell? ⟨u.heap.size, 3, none⟩ = some (cellD w' u.heap.size 3) ∧ w'.frozen? ⟨u.heap.size, 0, none⟩ = false ∧ w'.frozen? ⟨u.heap.size, 1, none⟩ = false ∧ w'.frozen? ⟨u.heap.size, 2, none⟩ = false ∧ w'.frozen? ⟨u.heap.size, 3, none⟩ = false ∧ Below u.heap.size u w' ∧ SlotOK w' u.heap.size := by
  obtain ⟨_, _, _, _, _, _, _, _, _, _, _, hb, ho⟩ := hS
  refine (impl_spansOf k w (ht.keep hb) k1 k8).mono ?_
  rintro e w' ⟨v, he, hown, hb'⟩
  obtain ⟨a4, cap4, rfl, _⟩ := hown.shape
  have ho' : SlotOK w' u.heap.size := by
    obtain ⟨a, b, c, d, hz⟩ := ho
    exact ⟨a, b, c, d, (hb'.block u.heap.size (Array.getElem?_eq_some_iff.1 hz).1).trans hz⟩
  exact ⟨a4, cap4, he, hown, hb', set_S k u w' ht k1 k8 (hb.trans (hb'.mono hb.size)) ho'⟩

set_option maxHeartbeats 8000000 in
set_option maxRecDepth 100000 in
theorem impl_SetOf (n : Int) (w : World) (ht : TabSets w) : Calls Tryd.prog 14 #[.int .i64 n] w (SetRetI n w) := by
  cases hn : setB n
  · clear ht
    go_enter Tryd.func14, Tryd.ntmps14
    go_wp2_with fail
    refine (impl_isSet n _).mono ?_
    rintro e w1 ⟨rfl, rfl⟩
    rw [hn]
    go_wp2
    exact bodyPost_ret (results_row_tmp rfl _ _ w.heap.size _ _ _ _ rfl (heap_alloc_new _ _) Tryd.underlying26 rfl (by kernel_rfl)) rfl ⟨.inl ⟨hn, rfl⟩, (Below.refl _ _).alloc (Nat.le_refl _) _⟩
  · have HN := Lib.hid hn
    obtain ⟨k, rfl, k1, k8⟩ := setB_nat hn
    obtain ⟨c0, c1, c2, _, _, _⟩ := ht k k1 k8
    have u1 : (0 : Int) ≤ (k : Int) := by omega
    have u2 : (k : Int) < 9 := by omega
    have HT := Lib.hid ht
    clear ht
    have hw0 := heap_alloc_new w (.cells #[.string ⟨#[]⟩, .int .i64 0, .int .i64 0, .slice none 0 0] 26)
    have hs0 : (w.alloc (.cells #[.string ⟨#[]⟩, .int .i64 0, .int .i64 0, .slice none 0 0] 26)).heap.size = w.heap.size + 1 := by simp
    have b0 : Below w.heap.size w (w.alloc (.cells #[.string ⟨#[]⟩, .int .i64 0, .int .i64 0, .slice none 0 0] 26)) := (Below.refl _ _).alloc (Nat.le_refl _) _
    go_enter Tryd.func14, Tryd.ntmps14
    go_wp2_with fail
    refine (impl_isSet (k : Int) _).mono ?_
    rintro e w1 ⟨rfl, rfl⟩
    rw [hn]
    generalize w.alloc (.cells #[.string ⟨#[]⟩, .int .i64 0, .int .i64 0, .slice none 0 0] 26) = w0 at *
    clear c0 c1 c2
    go_wp2
    have hS0 := set_S k w w0.drew HT.out k1 k8 (below_drewN b0 1) ⟨_, _, _, _, hw0⟩
    go_region_held3 (fun wx => wx.cell? ⟨0, (k * 4), none⟩ = some (.string (setName (k : Int))) ∧ wx.cell? ⟨0, (k * 4 + 1), none⟩ = some (.int .i64 (setKind (k : Int))) ∧ wx.cell? ⟨0, (k * 4 + 2), none⟩ = some (.int .i64 (setFinal (k : Int))) ∧ wx.cell? ⟨w.heap.size, 0, none⟩ = some (cellD wx w.heap.size 0) ∧ wx.cell? ⟨w.heap.size, 1, none⟩ = some (cellD wx w.heap.size 1) ∧ wx.cell? ⟨w.heap.size, 2, none⟩ = some (cellD wx w.heap.size 2) ∧ wx.cell? ⟨w.heap.size, 3, none⟩ = some (cellD wx w.heap.size 3) ∧ wx.frozen? ⟨w.heap.size, 0, none⟩ = false ∧ wx.frozen? ⟨w.heap.size, 1, none⟩ = false ∧ wx.frozen? ⟨w.heap.size, 2, none⟩ = false ∧ wx.frozen? ⟨w.heap.size, 3, none⟩ = false ∧ Below w.heap.size w wx ∧ SlotOK wx w.heap.size) (first | exact hS' | exact hS0 | exact set_S k w _ HT.out k1 k8 (below_set4 hS'.2.2.2.2.2.2.2.2.2.2.2.1 (Nat.le_refl _) _ _ _ _) (SlotOK.set hS'.2.2.2.2.2.2.2.2.2.2.2.2 _ _ _ _)) ((go_at_call 43; refine Calls.mono (spans_box k w _ HT.out k1 k8 ?_) ?_; (iterate 1 assumption); rintro e w2 ⟨a4, cap4, rfl, od, b2, hS'⟩))
    have hl0 : w.heap.size < w0.drew.heap.size := (Array.getElem?_eq_some_iff.1 hw0).1
    have hz2 : w2.heap[w.heap.size]? = some (.cells #[.string ⟨#[]⟩, .int .i64 0, .int .i64 0, .slice none 0 0] 26) := (b2.block w.heap.size hl0).trans hw0
    have bw2 : Below w.heap.size w w2 := hS'.2.2.2.2.2.2.2.2.2.2.2.1
    have HO := Lib.hid (od.low (Nat.succ_le_of_lt hl0))
    go_wp2
    have k0 := heap_setCell_same w2 w.heap.size 0 _ _ (.string (setName (k : Int))) hz2
    have k1 := heap_setCell_same _ w.heap.size 1 _ _ (.int .i64 (setKind (k : Int))) k0
    have k2 := heap_setCell_same _ w.heap.size 2 _ _ (.int .i64 (setFinal (k : Int))) k1
    have k3 := heap_setCell_same _ w.heap.size 3 _ _ (.slice a4 (setSpans (k : Int)).length cap4) k2
    refine bodyPost_ret (results_row_tmp rfl _ _ w.heap.size _ _ _ _ rfl k3 Tryd.underlying26 rfl (by kernel_rfl)) rfl ⟨.inr ⟨HN.out, _, rfl, ?_⟩, ?_⟩
    · exact ((((HO.out.put (by omega)).put (by omega)).put (by omega)).put (by omega)).low (by omega)
    · exact below_set4 bw2 (Nat.le_refl _) _ _ _ _

end Go.Proofs.YtlakpddabkmpoaaDoor
