/- The tied card of 'FnExactFormsOf': from the walk to the given statement. The listed package-level variables start as the program's text lays them (the given tie). Joined of: EnJ, EnC, EnD, EnE, EnF, EnG, EnH, EnK, EnL, SetsLaid, MaLaid, FnExactFormsOfWalk, FnExactFormsOfCard. -/
import Derived.Test.YtibadnfagoehmaaDoorFnExactFormsOfG1
import Derived.Lib.OwnKind
import Derived.Test.YtibadnfagoehmaaDoorEnU
import Derived.Test.YtibadnfagoehmaaDoorEnS
import Derived.Test.YtibadnfagoehmaaDoorEnA
import Derived.Test.YtibadnfagoehmaaDoorEnW
import Derived.Test.YtibadnfagoehmaaDoorStD
import Derived.Deep.DeepCutAuto
import Derived.Test.YtibadnfagoehmaaDoorStL
import Derived.Test.YtibadnfagoehmaaDoorEscA
import Derived.Test.YtibadnfagoehmaaDoorVars
import Derived.Lib.SmallJoins
import Derived.Test.YtibadnfagoehmaaDoorCards
import Derived.Test.YtibadnfagoehmaaDoorTie
import Derived.Lib.Hide
import Derived.Test.YtibadnfagoehmaaDoorIntStruct

namespace Go.Proofs.YtibadnfagoehmaaDoor
open Go.RowKit Go.Sort

theorem PlacesAt.grownT {w w' : World} {C mb : Nat} {row : Option Nat} (h : PlacesAt w C mb) (g : w.grownBy w' row) (hr : ∀ r, row = some r → ∃ cs t fr, w.heap[r]? = some (.cells cs t fr) ∧ t ≠ 3) : PlacesAt w' C mb := by
  obtain ⟨blk, h1, h2, h3, es, h4, h5⟩ := h
  have hlt : ∀ {i : Nat} {o : Obj}, w.heap[i]? = some o → i < w.heap.size := fun h => (Array.getElem?_eq_some_iff.1 h).1
  refine ⟨blk, fun k hk => ⟨(h1 k hk).1, (g.block (blk k) (hlt (h1 k hk).2) (fun e => ?_)).trans (h1 k hk).2⟩, h2, h3, es, (g.block mb (hlt h4) (fun e => ?_)).trans h4, h5⟩
  · obtain ⟨cs, t, fr, hc, ht⟩ := hr _ e.symm
    rw [(h1 k hk).2] at hc
    unfold plC at hc
    injection hc with hc
    injection hc with _ hc _
    exact ht hc.symm
  · obtain ⟨cs, t, fr, hc, ht⟩ := hr _ e.symm
    rw [h4] at hc
    unfold plO at hc
    injection hc with hc
    cases hc
theorem GuOK.grownT {w w' : World} {g C : Nat} {n : Int} {row : Option Nat} (h : GuOK w g n C) (k : w.grownBy w' row) (hg : row ≠ some g) (hr : ∀ r, row = some r → ∃ cs t fr, w.heap[r]? = some (.cells cs t fr) ∧ t ≠ 3) : GuOK w' g n C := by
  obtain ⟨m, h1, h2⟩ := h
  refine ⟨m, (k.block g h1.lt (Ne.symm hg)).trans h1, ?_⟩
  rcases h2 with h2 | ⟨mb, h3, h4⟩
  · exact .inl h2
  · exact .inr ⟨mb, h3, h4.grownT k hr⟩
theorem row_other {w : World} {B k n : Nat} {e : TypeId} {v : Value} {xs : List Value} (h : w.ownsRow B e k v n xs) (he : e ≠ 3) : ∀ r, v.ownBlock = some r → ∃ cs t fr, w.heap[r]? = some (.cells cs t fr) ∧ t ≠ 3 := by
  intro r hr
  obtain ⟨c, fz, hc⟩ := Lib.ownsRow_kind h r hr
  exact ⟨c, e, fz, hc, he⟩
theorem rowOnly {w w' : World} {B k n b : Nat} {e : TypeId} {v : Value} {xs : List Value} (h : w.ownsRow B e k v n xs) (o : Only b w w') (hb : b < B) : w'.ownsRow B e k v n xs :=
  rowStay h fun g hg => by
    have := World.ownsRow.lt h g hg
    exact o.2 g (by omega) this.2

theorem Only.grownJ {b : Nat} {w w1 w2 : World} {row : Option Nat} (h : Only b w w1) (g : w1.grownBy w2 row) (hb : b ≤ w.heap.size) (hr : ∀ j, row = some j → w.heap.size ≤ j) : Only b w w2 :=
  ⟨h.1.grown g (Nat.le_trans hb h.1.size) (fun j hj => Nat.le_trans hb (hr j hj)), fun i hi hl => (g.block i (Nat.lt_of_lt_of_le hl h.1.size) (fun he => by have := hr i he.symm; omega)).trans (h.2 i hi hl)⟩
theorem rows_apart {w : World} {B B' k k' n n' : Nat} {e e' : TypeId} {v v' : Value} {xs xs' : List Value} (h : w.ownsRow B e k v n xs) (h' : w.ownsRow B' e' k' v' n' xs') (he : e ≠ e') : v.ownBlock = none ∨ v.ownBlock ≠ v'.ownBlock := by
  cases hv : v.ownBlock with
  | none => exact .inl rfl
  | some r =>
    refine .inr fun hc => ?_
    obtain ⟨c, fz, h1⟩ := Lib.ownsRow_kind h r hv
    obtain ⟨c', fz', h2⟩ := Lib.ownsRow_kind h' r hc.symm
    rw [h1] at h2
    injection h2 with h2
    injection h2 with _ h2 _
    exact he h2
theorem eoC_mem {n : Int} {k j : Nat} (hj : j < (prSets n k).length) (hk : k < 4) : eoC k ((prSets n k).getD j 0) = 0 := by
  have hm : (prSets n k).getD j 0 ∈ prSets n k := by simp [List.getD, List.getElem?_eq_getElem hj]
  have ⟨s0, s1, s2⟩ := sets_in n
  revert hm
  generalize (prSets n k).getD j 0 = q
  intro hm
  unfold eoC setB
  rcases (show k = 0 ∨ k = 1 ∨ k = 2 ∨ k = 3 by omega) with rfl | rfl | rfl | rfl
  · have ⟨a, b, c⟩ := s0 q hm
    rw [if_pos (inB_of a b), if_pos ⟨by decide, fun h => c h.2⟩]
  · have ⟨a, b⟩ := s1 q hm
    rw [if_pos (inB_of a b), if_pos ⟨by decide, fun h => absurd h.1 (by decide)⟩]
  · have ⟨a, b⟩ := s2 q hm
    rw [if_pos (inB_of a b), if_pos ⟨by decide, fun h => absurd h.1 (by decide)⟩]
  · exact absurd (show q ∈ ([] : List Int) from hm) (by simp)

/-- A slice of moves in memory of the call's own. -/
def OwnM (w : World) (B : Nat) (v : Value) (ms : List Mv) : Prop := w.ownsRow B 99 8 v ms.length (msCells ms)
theorem OwnM.nil (w : World) (B : Nat) : OwnM w B (.slice none 0 0) [] := World.ownsRow_nil w B _ 8
theorem OwnM.form {w : World} {B : Nat} {v : Value} {xs : List Mv} (h : OwnM w B v xs) : ∃ a c, v = .slice a xs.length c := by
  rcases h.2 with ⟨h1, h2⟩ | ⟨g, cap, cur, x1, _⟩
  · exact ⟨none, 0, by rw [h1, h2]⟩
  · exact ⟨_, _, x1⟩
theorem OwnM.reads {w : World} {B : Nat} {v : Value} {xs : List Mv} (h : OwnM w B v xs) : MvsAt w v xs := by
  rcases h.2 with ⟨h1, h2⟩ | ⟨g, cap, cur, rfl, _⟩
  · exact .inl ⟨List.length_eq_zero_iff.1 h2, none, 0, h1⟩
  · exact .inr ⟨g, 0, cap, rfl, fun i hi => row_reads mvCells 8 mvCells_length h i hi⟩
theorem info_mv : ∃ i, Tryd.prog.info? 99 = some i ∧ i.zero = some (.agg #[.string ⟨#[]⟩, .int .i64 0, .int .i64 0, .int .i64 0, .int .i64 0, .int .i64 0, .int .i64 0, .int .i64 0]) ∧ i.size = 8 ∧ i.bytes = 72 := info_parts (by kernel_rfl)
theorem app_mv (w : World) {ops : Array Oper} {rest : List Oper} {o : Oper} {a : Act} {Q : Exit → Act → World → Prop} (hg : o.guard = none) (s x : Operand)
    (hop : o.op = Op.call { callee := Callee.builtin Builtin.append, args := #[s, x], argTypes := #[96, 96] }) (B : Nat) (v : Value) (ms : List Mv) (hs : a.eval s = v) (hown : OwnM w B v ms)
    (b c : Nat) (m : Mv) (hx : a.eval x = .slice (some ⟨b, 0, none⟩) 1 c)
    (hc : MveAt w b m) (hb : ms.length ≤ 1048576) (hB : B ≤ w.heap.size)
    (K : ∀ g cap w', OwnM w' B (.slice (some ⟨g, 0, none⟩) (ms.length + 1) cap) (ms ++ [m]) → w.grownBy w' v.ownBlock → (v.ownBlock = some g ∨ g = w.heap.size) → g < w'.heap.size → wpList Tryd.prog ops Q rest (a.put o.dst (.slice (some ⟨g, 0, none⟩) (ms.length + 1) cap)) w') : wpList Tryd.prog ops Q (o :: rest) a w := by
  obtain ⟨i, h1, h2, h3, h4⟩ := info_mv
  refine wpList_append_lies w hg s x 96 hop B 99 i _ 8 72 Tryd.underlying96 h1 h2 h3 h4 rfl (by decide) v _ _ hs hown ⟨b, 0, none⟩ 1 c (mvCells m) hx rfl (World.news_of_block hc) (mvCells_one m) (by decide) (by unfold maxLen; omega) (by omega) hB _ rfl ?_
  intro g cap w' h' hg' hor hlt
  exact K g cap w' (by unfold OwnM msCells at *; rw [List.flatMap_append, List.flatMap_cons, List.flatMap_nil, List.append_nil, List.length_append]; exact h') hg' hor hlt

/-- The designations at the first k registers. -/
def mvTo (n : Int) (x : St) : Nat → List Mv
  | 0 => []
  | k + 1 => mvTo n x k ++ movesG x k (prSets n k)
theorem mvTo_all (n : Int) (x : St) : mvTo n x 4 ++ shiftMv n x = movesP n x := by
  have h0 : prSets n ((0 : Nat) : Int) = prSet0 n := rfl
  have h1 : prSets n ((1 : Nat) : Int) = prSet1 n := rfl
  have h2 : prSets n ((2 : Nat) : Int) = prSet2 n := rfl
  have h3 : prSets n ((3 : Nat) : Int) = [] := rfl
  simp only [mvTo, h0, h1, h2, h3, movesP]
  simp [movesG]
theorem movesG_take (x : St) (g : Nat) (qs : List Int) (j : Nat) (h : j < qs.length) (q : Int) (hq : qs.getD j 0 = q) : movesG x g (qs.take (j + 1)) = movesG x g (qs.take j) ++ if q = stGet x g then [] else [(escB g (setKind q) (setFinal q), stPut x g q)] := by
  subst hq
  rw [List.take_succ_eq_append_getElem h]
  unfold movesG
  rw [List.filter_append, List.map_append]
  congr 1
  simp only [List.getD, List.getElem?_eq_getElem h, Option.getD_some]
  by_cases he : qs[j] = stGet x g
  · rw [if_pos he]
    simp [he]
  · rw [if_neg he]
    simp [he]
theorem mvTo_le (n : Int) (x : St) : ∀ k, k ≤ 4 → (mvTo n x k).length ≤ 6 * k
  | 0, _ => by simp [mvTo]
  | k + 1, h => by
    have h1 := mvTo_le n x k (by omega)
    have h2 : (movesG x k (prSets n k)).length ≤ (prSets n k).length := by unfold movesG; rw [List.length_map]; exact List.length_filter_le _ _
    have h3 : (prSets n k).length ≤ 6 := by
      unfold prSets prSet0 prSet1 prSet2
      repeat' split
      all_goals decide
    simp only [mvTo, List.length_append]
    omega
theorem movesG_le (x : St) (g : Nat) (qs : List Int) (j : Nat) : (movesG x g (qs.take j)).length ≤ j := by
  unfold movesG
  rw [List.length_map]
  exact Nat.le_trans (List.length_filter_le _ _) (List.length_take_le _ _)

theorem prSets_few6 (n : Int) (k : Nat) : (prSets n k).length ≤ 6 := by
  unfold prSets prSet0 prSet1 prSet2
  repeat' split
  all_goals decide
/-- What the guide's moves are told by. -/
def MsDone (ms : List Mv) (g : Nat) (n : Int) (C : Nat) (w : World) (e : Ending) (w' : World) : Prop := ∃ v, e = .returned v ∧ OwnM w' w.heap.size v ms ∧ GuOK w' g n C ∧ Only g w w'
/-- The world in the loop: the guide, the list, what stood before. -/
def MvIn (w : World) (g : Nat) (n : Int) (C b : Nat) (x : St) (v : Value) (ms : List Mv) (u : World) : Prop := GuOK u g n C ∧ OwnM u (b + 1) v ms ∧ MAt u b x ∧ Only g w u
theorem MvIn.below {w : World} {g C b : Nat} {n : Int} {x : St} {v : Value} {ms : List Mv} {u u' : World} (h : MvIn w g n C b x v ms u) (k : Below u.heap.size u u') (hg : g < u.heap.size) : MvIn w g n C b x v ms u' :=
  ⟨h.1.keep k, rowAll h.2.1 k, h.2.2.1.keep k, h.2.2.2.trans (only_below hg k)⟩
theorem MvIn.app {w : World} {g C b : Nat} {n : Int} {x : St} {v v' : Value} {ms ms' : List Mv} {u u' : World} (h : MvIn w g n C b x v ms u) (ho : OwnM u' (b + 1) v' ms') (k : u.grownBy u' v.ownBlock) (hg : g < w.heap.size) (hb : w.heap.size ≤ b) : MvIn w g n C b x v' ms' u' := by
  have hlt := fun r (hr : v.ownBlock = some r) => (World.ownsRow.lt h.2.1 r hr).1
  refine ⟨h.1.grownT k (fun e => by have := hlt g e; omega) (row_other h.2.1 (by decide)), ho, (k.block b h.2.2.1.lt (fun e => by have := hlt b e.symm; omega)).trans h.2.2.1, ?_⟩
  exact Only.grownJ h.2.2.2 k (by omega) (fun j hj => by have := hlt j hj; omega)

set_option maxHeartbeats 2000000 in
set_option maxRecDepth 100000 in
theorem impl_moves (x : St) (n : Int) (g C : Nat) (w0 w : World) (h : GuOK w g n C) (hg : g < C) (hC : C ≤ w.heap.size) (ht : TabSets w0) (b0 : Below w0.heap.size w0 w) (hg0 : w0.heap.size ≤ g) (hn : proB n = true) (hx : calmB x = true) :
    Calls Tryd.prog 69 #[.pointer (some ⟨g, 0, none⟩), stV x] w (MsDone (movesP n x) g n C w) := by
  have HS := Lib.hid (fun (k : Nat) w h hC (hk : k < 4) => impl_setsFor n k g C w h hg hC hn (by omega) (by omega))
  have HT := Lib.hid (fun w' (o : Only g w w') => ht.since b0 hg0 o)
  have HD := Lib.hid (fun (k : Nat) q w ht hk he => impl_designation x k q w ht hk he)
  have HL := Lib.hid (fun w => impl_lockingShift x w (calm_un hx).2.1)
  have hgl : g < w.heap.size := by omega
  have hI0 : MvIn w g n C w.heap.size x (.slice none 0 0) (mvTo n x 0) (w.alloc (.cells #[.int .i64 x.g0, .int .i64 x.g1, .int .i64 x.g2, .int .i64 x.g3, .int .i64 x.l, .int .i64 x.s, .int .i64 x.d] 69)) := ⟨h.keep (below_one _ _), OwnM.nil _ _, MAt.new w x, only_below hgl (below_one _ _)⟩
  have HI0 := Lib.hid hI0
  have HAll := Lib.hid (mvTo_all n x)
  have HX := Lib.hid (calm_un hx).2.1
  clear ht b0 h hI0
  unfold stV at HD HL ⊢
  go_enter Tryd.func69, Tryd.ntmps69
  have ⟨y0, y1, y2, y3, y4, y5, y6⟩ := HI0.out.2.2.1.cells
  go_wp2
  clear y0 y1 y2 y3 y4 y5 y6
  have hs0 : w.heap.size < (w.alloc (.cells #[.int .i64 x.g0, .int .i64 x.g1, .int .i64 x.g2, .int .i64 x.g3, .int .i64 x.l, .int .i64 x.s, .int .i64 x.d] 69)).heap.size := HI0.out.2.2.1.lt
  generalize hb : w.heap.size = b at *
  generalize w.alloc (.cells #[.int .i64 x.g0, .int .i64 x.g1, .int .i64 x.g2, .int .i64 x.g3, .int .i64 x.l, .int .i64 x.s, .int .i64 x.d] 69) = W0 at *
  go_loopw [5, 6, 7, 12] (fun lv _ _ i wr => ∃ k : Nat, k ≤ 4 ∧ i = .int .i64 k ∧ Hid (MvIn w g n C b x lv (mvTo n x k) wr) ∧ b < wr.heap.size) (fun _ _ _ i _ => 4 - (intOf i).toNat)
  case atStart => exact ⟨0, by omega, rfl, HI0, hs0⟩
  case round =>
    clear HI0 hs0
    obtain ⟨k, hk, rfl, HI, hbs⟩ := hrel
    by_cases hk4 : k < 4
    · have hk4' : (k : Int) < 4 := by omega
      have hk0' : (0 : Int) ≤ (k : Int) := by omega
      have hix : ∀ w, (Instr.index 67 (.agg #[.int .i64 x.g0, .int .i64 x.g1, .int .i64 x.g2, .int .i64 x.g3]) (.int .i64 (k : Int))).run Tryd.prog w = .ok (.int .i64 (stGet x k)) w := by
        intro w
        rcases (show k = 0 ∨ k = 1 ∨ k = 2 ∨ k = 3 by omega) with rfl | rfl | rfl | rfl <;> kernel_rfl
      go_wp2_with fail
      refine (HS.out k _ HI.out.1 (by omega) hk4).mono ?_
      rintro e w2 ⟨s, l, c, mb, rfl, hG, hP, hOw, o2⟩
      have HI2 : Hid (MvIn w g n C b x _ (mvTo n x k) w2) := Lib.hid ⟨⟨_, hG, .inr ⟨mb, rfl, hP⟩⟩, rowOnly HI.out.2.1 o2 (by omega), (o2.2 b (by omega) hbs).trans HI.out.2.2.1, HI.out.2.2.2.trans o2⟩
      have hs2 : b < w2.heap.size := Nat.lt_of_lt_of_le hbs o2.1.size
      have HOw := Lib.hid hOw
      obtain ⟨a', c', hv⟩ := hOw.ints.form
      injection hv with e1 e2 e3
      subst e2
      have HNx : Hid (mvTo n x (k + 1) = mvTo n x k ++ movesG x k (prSets n k)) := Lib.hid rfl
      have HEo := Lib.hid (fun j hj => eoC_mem (n := n) (k := k) (j := j) hj hk4)
      have hlen := mvTo_le n x k hk
      have hfew := prSets_few6 n k
      clear hG hP hOw o2 HI hbs e1 e3 a' c' mb
      generalize mvTo n x k = M at *
      generalize prSets n k = zs at *
      go_wp2
      go_loopw [5, 9, 20] (fun lv _ i wq => ∃ j : Nat, j ≤ zs.length ∧ i = .int .i64 j ∧ Hid (MvIn w g n C b x lv (M ++ movesG x k (zs.take j)) wq) ∧ Hid (Own .i64 3 wq C (.slice s zs.length c) zs) ∧ b < wq.heap.size) (fun _ _ i _ => zs.length - (intOf i).toNat)
      case atStart => exact ⟨0, by omega, rfl, by simpa [movesG] using HI2, HOw, hs2⟩
      case round =>
        clear HI2 HOw hs2
        obtain ⟨j, hj, rfl, HI, HOw, hbs⟩ := hrel
        by_cases hjl : j < zs.length
        · have hjl' : (j : Int) < (zs.length : Int) := by omega
          have hj0' : (0 : Int) ≤ (j : Int) := by omega
          obtain ⟨rb, off, rfl, c1⟩ := HOw.out.ints.pick j hjl
          have he := HEo.out j hjl
          have HTk := Lib.hid (movesG_take x k zs j hjl _ rfl)
          have hml := movesG_le x k zs j
          generalize zs.getD j 0 = z at *
          have HE := Lib.hid he
          clear he
          by_cases hz : z = stGet x k
          · have ez : (z != stGet x k) = false := by simp [hz]
            have HI3 : Hid (MvIn w g n C b x _ (M ++ movesG x k (zs.take (j + 1))) wr) := Lib.hid (by rw [HTk.out, if_pos hz, List.append_nil]; exact HI.out)
            clear hz
            go_wp2
            go_roundw
            case rel => exact ⟨j + 1, by omega, by go_num, HI3, HOw, hbs⟩
            case measure => simp [intOf]; omega
          · have ez : (z != stGet x k) = true := by simp [hz]
            have HNew : Hid (M ++ movesG x k (zs.take (j + 1)) = (M ++ movesG x k (zs.take j)) ++ [(escB k (setKind z) (setFinal z), stPut x k z)]) := Lib.hid (by rw [HTk.out, if_neg hz, List.append_assoc])
            have hln : (M ++ movesG x k (zs.take j)).length ≤ 1048576 := by simp only [List.length_append]; omega
            clear hz HTk hml
            generalize M ++ movesG x k (zs.take j) = N at *
            have ⟨y0, y1, y2, y3, y4, y5, y6⟩ := HI.out.2.2.1.cells
            go_wp2_with fail
            refine (HD.out k z _ (HT.out _ HI.out.2.2.2) hk4 HE.out).mono ?_
            rintro e w3 ⟨rfl, b3⟩
            have HI3 := Lib.hid ((HI.out.below b3 (by omega)).below (below_one w3 (.cells #[.string (escB k (setKind z) (setFinal z)), .int .i64 (stPut x k z).g0, .int .i64 (stPut x k z).g1, .int .i64 (stPut x k z).g2, .int .i64 (stPut x k z).g3, .int .i64 (stPut x k z).l, .int .i64 (stPut x k z).s, .int .i64 (stPut x k z).d] 99)) (by have := b3.size; omega))
            have HO3 := Lib.hid ((HOw.out.all b3).all (below_one w3 (.cells #[.string (escB k (setKind z) (setFinal z)), .int .i64 (stPut x k z).g0, .int .i64 (stPut x k z).g1, .int .i64 (stPut x k z).g2, .int .i64 (stPut x k z).g3, .int .i64 (stPut x k z).l, .int .i64 (stPut x k z).s, .int .i64 (stPut x k z).d] 99)))
            have hs3 : b < w3.heap.size := Nat.lt_of_lt_of_le hbs b3.size
            clear y0 y1 y2 y3 y4 y5 y6 c1 b3 HI HOw
            unfold mveV
            go_wp2_with (at_builtin; refine app_mv _ rfl _ _ rfl (b + 1) _ N rfl HI3.out.2.1 w3.heap.size 1 (escB k (setKind z) (setFinal z), stPut x k z) rfl (heap_alloc_new _ _) hln (by simp; omega) ?_)
            intro g2 cap2 w4 o4 g4 or4 lt4
            have HI4 : Hid (MvIn w g n C b x (.slice (some ⟨g2, 0, none⟩) (N.length + 1) cap2) (M ++ movesG x k (zs.take (j + 1))) w4) := Lib.hid (by rw [HNew.out]; exact HI3.out.app o4 g4 (by omega) (by omega))
            have HO4 : Hid (Own .i64 3 w4 C _ zs) := Lib.hid (HO3.out.kept g4 (rows_apart HO3.out HI3.out.2.1 (by decide)))
            have hs4 : b < w4.heap.size := by have := g4.size; simp at this; omega
            clear o4 g4 or4 lt4 HI3 HO3
            go_wp2
            go_roundw
            case rel => exact ⟨j + 1, by omega, by go_num, HI4, HO4, hs4⟩
            case measure => simp [intOf]; omega
        · have HI3 : Hid (MvIn w g n C b x _ (mvTo n x (k + 1)) wr) := Lib.hid (by
            have h := HI.out
            rw [List.take_of_length_le (by omega)] at h
            rw [HNx.out]
            exact h)
          go_wp2
          go_roundw
          case rel => exact ⟨k + 1, by omega, by go_num, HI3, hbs⟩
          case measure => simp [intOf]; omega
    · obtain rfl : k = 4 := by omega
      obtain ⟨m, hm, hm2⟩ := HI.out.1
      have ⟨_, _, _, _, _, t5, _, _, _, _⟩ := row10_cells hm
      have hlen := mvTo_le n x 4 (by omega)
      clear hm hm2
      cases hsh : prShifts n
      · rw [hsh] at t5
        have HF : Hid (MvIn w g n C b x _ (movesP n x) wr) := Lib.hid (by
          have h := HI.out
          rw [← HAll.out, shiftMv, hsh, if_neg (by decide), List.append_nil]
          exact h)
        go_wp2
        go_ret
        exact ⟨_, rfl, Joins.ownsRow_le HF.out.2.1 (by omega), HF.out.1, HF.out.2.2.2⟩
      · rw [hsh] at t5
        have ⟨y0, y1, y2, y3, y4, y5, y6⟩ := HI.out.2.2.1.cells
        go_wp2_with fail
        refine (HL.out _).mono ?_
        rintro e w3 ⟨rfl, b3⟩
        have HF : Hid (movesP n x = mvTo n x 4 ++ [(if x.l = 0 then ((⟨#[14]⟩ : ByteArray), leftTo x 1) else (⟨#[15]⟩, leftTo x 0))]) := Lib.hid (by
          rw [← HAll.out, shiftMv, hsh, if_pos rfl]
          rcases HX.out with h | h
          · rw [if_pos h, if_pos h]
          · rw [if_neg (by omega), if_pos h, if_neg (by omega)])
        generalize (if x.l = 0 then ((⟨#[14]⟩ : ByteArray), leftTo x 1) else (⟨#[15]⟩, leftTo x 0)) = mv at *
        have HI3 := Lib.hid ((HI.out.below b3 (by omega)).below (below_one w3 (.cells #[.string mv.1, .int .i64 mv.2.g0, .int .i64 mv.2.g1, .int .i64 mv.2.g2, .int .i64 mv.2.g3, .int .i64 mv.2.l, .int .i64 mv.2.s, .int .i64 mv.2.d] 99)) (by have := b3.size; omega))
        have hs3 : b < w3.heap.size := Nat.lt_of_lt_of_le hbs b3.size
        clear y0 y1 y2 y3 y4 y5 y6 t5 b3 HI
        generalize mvTo n x 4 = N at *
        unfold mveV
        go_wp2_with (at_builtin; refine app_mv _ rfl _ _ rfl (b + 1) _ N rfl HI3.out.2.1 w3.heap.size 1 mv rfl (heap_alloc_new _ _) (by omega) (by simp; omega) ?_)
        intro g2 cap2 w4 o4 g4 or4 lt4
        have HI4 : Hid (MvIn w g n C b x (.slice (some ⟨g2, 0, none⟩) (N.length + 1) cap2) (movesP n x) w4) := Lib.hid (by rw [HF.out]; exact HI3.out.app o4 g4 (by omega) (by omega))
        clear o4 g4 or4 lt4 HI3
        go_wp2
        go_ret
        exact ⟨_, rfl, Joins.ownsRow_le HI4.out.2.1 (by omega), HI4.out.1, HI4.out.2.2.2⟩

def MoDone (n : Int) (x : St) (w : World) (e : Ending) (w' : World) : Prop := ∃ v u, e = .returned (.tuple #[v, u, .int .i64 (mvC n x)]) ∧ OwnS w' w.heap.size v ((mvZ n x).map (·.1)) ∧ OwnT w' w.heap.size u ((mvZ n x).map (·.2)) ∧ Below w.heap.size w w'
theorem moDone {n : Int} {x : St} {w w' : World} {v u : Value} {c : Int} {ms : List Mv} (hc : mvC n x = c) (hz : mvZ n x = ms) (h1 : OwnS w' w.heap.size v (ms.map (·.1))) (h2 : OwnT w' w.heap.size u (ms.map (·.2))) (hb : Below w.heap.size w w') : MoDone n x w (.returned (.tuple #[v, u, .int .i64 c])) w' := by
  subst hc
  subst hz
  exact ⟨v, u, rfl, h1, h2, hb⟩
/-- The world while texts and states are told apart. -/
def MoIn (w : World) (B : Nat) (tv sv vm : Value) (ts : List ByteArray) (xs : List St) (ms : List Mv) (u : World) : Prop := OwnS u B tv ts ∧ OwnT u B sv xs ∧ OwnM u B vm ms ∧ Below w.heap.size w u
theorem MoIn.below {w : World} {B : Nat} {tv sv vm : Value} {ts : List ByteArray} {xs : List St} {ms : List Mv} {u u' : World} (h : MoIn w B tv sv vm ts xs ms u) (k : Below u.heap.size u u') : MoIn w B tv sv vm ts xs ms u' :=
  ⟨rowAll h.1 k, rowAll h.2.1 k, rowAll h.2.2.1 k, h.2.2.2.trans (k.mono h.2.2.2.size)⟩
theorem MoIn.appS {w : World} {B : Nat} {tv tv' sv vm : Value} {ts ts' : List ByteArray} {xs : List St} {ms : List Mv} {u u' : World} (h : MoIn w B tv sv vm ts xs ms u) (ho : OwnS u' B tv' ts') (k : u.grownBy u' tv.ownBlock) (hB : w.heap.size ≤ B) : MoIn w B tv' sv vm ts' xs ms u' :=
  ⟨ho, World.ownsRow.kept h.2.1 k (rows_apart h.2.1 h.1 (by decide)), World.ownsRow.kept h.2.2.1 k (rows_apart h.2.2.1 h.1 (by decide)), h.2.2.2.grown k h.2.2.2.size fun j hj => Nat.le_trans hB (World.ownsRow.lt h.1 j hj).1⟩
theorem MoIn.appT {w : World} {B : Nat} {tv sv sv' vm : Value} {ts : List ByteArray} {xs xs' : List St} {ms : List Mv} {u u' : World} (h : MoIn w B tv sv vm ts xs ms u) (ho : OwnT u' B sv' xs') (k : u.grownBy u' sv.ownBlock) (hB : w.heap.size ≤ B) : MoIn w B tv sv' vm ts xs' ms u' :=
  ⟨World.ownsRow.kept h.1 k (rows_apart h.1 h.2.1 (by decide)), ho, World.ownsRow.kept h.2.2.1 k (rows_apart h.2.2.1 h.2.1 (by decide)), h.2.2.2.grown k h.2.2.2.size fun j hj => Nat.le_trans hB (World.ownsRow.lt h.2.1 j hj).1⟩

set_option maxHeartbeats 2000000 in
set_option maxRecDepth 100000 in
theorem impl_MovesOf (n : Int) (x : St) (w : World) (ht : TabM w) (hw : Wide64 x) : Calls Tryd.prog 28 #[.int .i64 n, stV x] w (MoDone n x w) := by
  have HP := Lib.hid (fun w => impl_isProfile n w)
  have HW := Lib.hid (fun w ht => impl_writingMachine x w ht hw)
  have HT := Lib.hid ht
  have B0 := Lib.hid (below_one w (.cells #[.int .i64 x.g0, .int .i64 x.g1, .int .i64 x.g2, .int .i64 x.g3, .int .i64 x.l, .int .i64 x.s, .int .i64 x.d] 24))
  have HB0 := Lib.hid (StAt.new w x)
  unfold WmDone at HW
  unfold stV at HW ⊢
  clear hw
  cases hn : proB n
  · have HC : Hid (mvC n x = 5) := Lib.hid (by simp [mvC, hn])
    have HZ : Hid (mvZ n x = []) := Lib.hid (by simp [mvZ, HC.out])
    rw [hn] at HP
    go_enter Tryd.func28, Tryd.ntmps28
    go_wp2_with fail
    refine (HP.out _).mono ?_
    rintro e w1 ⟨rfl, rfl⟩
    go_wp2
    go_ret3
    exact moDone HC.out HZ.out (OwnS.nil _ _) (OwnT.nil _ _) B0.out
  have HN := Lib.hid hn
  rw [hn] at HP
  clear hn
  cases hc : calmB x
  · have HC : Hid (mvC n x = 1) := Lib.hid (by simp [mvC, HN.out, hc])
    have HZ : Hid (mvZ n x = []) := Lib.hid (by simp [mvZ, HC.out])
    rw [hc] at HW
    have ⟨y0, y1, y2, y3, y4, y5, y6⟩ := HB0.out.cells
    go_enter Tryd.func28, Tryd.ntmps28
    go_wp2_with fail
    refine (HP.out _).mono ?_
    rintro e w1 ⟨rfl, rfl⟩
    go_wp2_with fail
    refine (HW.out _ (HT.out.keep B0.out)).mono ?_
    rintro e w2 ⟨rfl, b2⟩
    have B2 := Lib.hid (B0.out.trans (b2.mono B0.out.size))
    have B3 := Lib.hid (B2.out.trans ((below_one w2 (.cells #[.int .i64 x.g0, .int .i64 x.g1, .int .i64 x.g2, .int .i64 x.g3, .int .i64 x.l, .int .i64 x.s, .int .i64 x.d] 69)).mono B2.out.size))
    clear y0 y1 y2 y3 y4 y5 y6 b2
    go_wp2
    go_ret3
    exact moDone HC.out HZ.out (OwnS.nil _ _) (OwnT.nil _ _) B3.out
  · have HC : Hid (mvC n x = 0) := Lib.hid (by simp [mvC, HN.out, hc])
    have HZ : Hid (mvZ n x = movesP n x) := Lib.hid (by simp [mvZ, HC.out])
    have HMs := Lib.hid (fun g C w' h hg hC b0 hg0 => impl_moves x n g C w w' h hg hC ht.1 b0 hg0 HN.out hc)
    have HGu := Lib.hid (fun w' (b : Below w.heap.size w w') => impl_guideOf n w' (ht.1.keep b) HN.out)
    have hfew := moves_few n x
    rw [hc] at HW
    unfold stV at HMs
    unfold guV at HGu
    have ⟨y0, y1, y2, y3, y4, y5, y6⟩ := HB0.out.cells
    clear hc ht
    go_enter Tryd.func28, Tryd.ntmps28
    go_wp2_with fail
    refine (HP.out _).mono ?_
    rintro e w1 ⟨rfl, rfl⟩
    go_wp2_with fail
    refine (HW.out _ (HT.out.keep B0.out)).mono ?_
    rintro e w2 ⟨rfl, b2⟩
    have B2 := Lib.hid (B0.out.trans (b2.mono B0.out.size))
    have B3 := Lib.hid (B2.out.trans ((below_one w2 (.cells #[.int .i64 x.g0, .int .i64 x.g1, .int .i64 x.g2, .int .i64 x.g3, .int .i64 x.l, .int .i64 x.s, .int .i64 x.d] 69)).mono B2.out.size))
    have HM3 := Lib.hid (MAt.new w2 x)
    clear y0 y1 y2 y3 y4 y5 y6 b2
    go_wp2_with fail
    refine (HGu.out _ B3.out).mono ?_
    generalize w2.heap.size = mb at *
    generalize w2.alloc (.cells #[.int .i64 x.g0, .int .i64 x.g1, .int .i64 x.g2, .int .i64 x.g3, .int .i64 x.l, .int .i64 x.s, .int .i64 x.d] 69) = W3 at *
    rintro e w4 ⟨rfl, b4⟩
    have B5 := Lib.hid ((B3.out.trans (b4.mono B3.out.size)).trans ((below_one w4 (.cells #[.int .i64 n, .string (prName n), .string (prHead n), .slice none 0 0, .bool (prRight n), .bool (prShifts n), .bool (prSingle n), .bool (prReset n), .bool (prClear n), (.map none)] 90)).mono (Nat.le_trans B3.out.size b4.size)))
    have HM5 := Lib.hid ((HM3.out.keep b4).keep (below_one w4 (.cells #[.int .i64 n, .string (prName n), .string (prHead n), .slice none 0 0, .bool (prRight n), .bool (prShifts n), .bool (prSingle n), .bool (prReset n), .bool (prClear n), (.map none)] 90)))
    have HG5 : Hid (GuOK (w4.alloc (.cells #[.int .i64 n, .string (prName n), .string (prHead n), .slice none 0 0, .bool (prRight n), .bool (prShifts n), .bool (prSingle n), .bool (prReset n), .bool (prClear n), (.map none)] 90)) w4.heap.size n (w4.heap.size + 1)) := Lib.hid ⟨_, GuAt.new w4 n (.map none), .inl rfl⟩
    have hs4 : w.heap.size ≤ w4.heap.size := Nat.le_trans B3.out.size b4.size
    have ⟨y0, y1, y2, y3, y4, y5, y6⟩ := HM5.out.cells
    have hlm : mb < w4.heap.size + 1 := by have := HM5.out.lt; simpa using this
    clear b4
    go_wp2_with fail
    refine (HMs.out _ _ _ HG5.out (by omega) (by simp) B5.out (by omega)).mono ?_
    rintro e w6 ⟨vm, rfl, om, _, o6⟩
    have HI0 : Hid (MoIn w w.heap.size (.slice none 0 0) (.slice none 0 0) vm [] [] (movesP n x) w6) := Lib.hid ⟨OwnS.nil _ _, OwnT.nil _ _, Joins.ownsRow_le om B5.out.size, B5.out.trans (o6.1.mono (by omega))⟩
    clear y0 y1 y2 y3 y4 y5 y6 hlm om o6 HM5 HG5 B5 B3 B2 HM3 HMs HGu HW
    obtain ⟨ma, mc, rfl⟩ := HI0.out.2.2.1.form
    generalize movesP n x = ms at *
    go_wp2
    go_loopw [10, 11, 29] (fun tv sv i wr => ∃ j : Nat, j ≤ ms.length ∧ i = .int .i64 j ∧ Hid (MoIn w w.heap.size tv sv (.slice ma ms.length mc) ((ms.take j).map (·.1)) ((ms.take j).map (·.2)) ms wr)) (fun _ _ i _ => ms.length - (intOf i).toNat)
    case atStart => exact ⟨0, by omega, rfl, HI0⟩
    case round =>
      clear HI0
      obtain ⟨j, hj, rfl, HI⟩ := hrel
      by_cases hjl : j < ms.length
      · have hjl' : (j : Int) < (ms.length : Int) := by omega
        have hj0' : (0 : Int) ≤ (j : Int) := by omega
        obtain ⟨g, off, rfl, m0, m1, m2, m3, m4, m5, m6, m7⟩ := HI.out.2.2.1.reads.pick j hjl
        have HS1 : Hid ((ms.take (j + 1)).map (·.1) = (ms.take j).map (·.1) ++ [(ms[j]).1]) := Lib.hid (by rw [List.take_succ_eq_append_getElem hjl, List.map_append]; rfl)
        have HS2 : Hid ((ms.take (j + 1)).map (·.2) = (ms.take j).map (·.2) ++ [(ms[j]).2]) := Lib.hid (by rw [List.take_succ_eq_append_getElem hjl, List.map_append]; rfl)
        have hl1 : ((ms.take j).map (·.1)).length ≤ 1048576 := by simp; omega
        have hl2 : ((ms.take j).map (·.2)).length ≤ 1048576 := by simp; omega
        generalize (ms.take j).map (·.1) = ts at *
        generalize (ms.take j).map (·.2) = xs at *
        generalize ms[j] = m at *
        have HIa := Lib.hid (HI.out.below (below_one wr (.cells #[.string m.1, .int .i64 m.2.g0, .int .i64 m.2.g1, .int .i64 m.2.g2, .int .i64 m.2.g3, .int .i64 m.2.l, .int .i64 m.2.s, .int .i64 m.2.d] 99)))
        have HX : Hid (MveAt ((wr.alloc (.cells #[.string m.1, .int .i64 m.2.g0, .int .i64 m.2.g1, .int .i64 m.2.g2, .int .i64 m.2.g3, .int .i64 m.2.l, .int .i64 m.2.s, .int .i64 m.2.d] 99)).alloc (.cells #[.string m.1] 9)) wr.heap.size m) := Lib.hid (heap_alloc2_old _ _ _)
        have HIb := Lib.hid (HIa.out.below (below_one (wr.alloc (.cells #[.string m.1, .int .i64 m.2.g0, .int .i64 m.2.g1, .int .i64 m.2.g2, .int .i64 m.2.g3, .int .i64 m.2.l, .int .i64 m.2.s, .int .i64 m.2.d] 99)) (.cells #[.string m.1] 9)))
        have LT := Lib.hid (fun r hr => (World.ownsRow.lt HI.out.1 r hr).2)
        have LU := Lib.hid (fun r hr => (World.ownsRow.lt HI.out.2.1 r hr).2)
        have hNW : ((wr.alloc (.cells #[.string m.1, .int .i64 m.2.g0, .int .i64 m.2.g1, .int .i64 m.2.g2, .int .i64 m.2.g3, .int .i64 m.2.l, .int .i64 m.2.s, .int .i64 m.2.d] 99)).alloc (.cells #[.string m.1] 9)).heap[wr.heap.size + 1]? = some (.cells #[.string m.1] 9) := heap_alloc2_new _ _ _
        have HNW := Lib.hid hNW
        have hsz : w.heap.size ≤ wr.heap.size := HI.out.2.2.2.size
        clear hNW HIa HI
        go_wp2_with (at_builtin; refine app_str _ rfl _ _ rfl w.heap.size _ ts rfl HIb.out.1 (wr.heap.size + 1) 1 m.1 rfl HNW.out hl1 (by simp; omega) ?_)
        intro g2 cap2 w4 o4 g4 or4 lt4
        have HI4 := Lib.hid (HIb.out.appS o4 g4 (Nat.le_refl _))
        have HX4 : Hid (MveAt w4 wr.heap.size m) := Lib.hid ((g4.block _ (by simp; omega) (fun h => by have := LT.out _ h.symm; omega)).trans HX.out)
        have hs4 : wr.heap.size + 2 ≤ w4.heap.size := by have := g4.size; simpa using this
        have ⟨r0, r1, r2, r3, r4, r5, r6, r7⟩ := row8_cells HX4.out
        have HI5 := Lib.hid (HI4.out.below (below_one w4 (.cells #[.int .i64 m.2.g0, .int .i64 m.2.g1, .int .i64 m.2.g2, .int .i64 m.2.g3, .int .i64 m.2.l, .int .i64 m.2.s, .int .i64 m.2.d] 24)))
        have HNx := Lib.hid (StAt.new w4 m.2)
        clear o4 g4 or4 lt4 HIb HX HNW m0 m1 m2 m3 m4 m5 m6 m7
        go_wp2_with (at_builtin; refine app_st _ rfl _ _ rfl w.heap.size _ xs rfl HI5.out.2.1 w4.heap.size 1 m.2 rfl HNx.out hl2 (by simp; omega) ?_)
        intro g3 cap3 w5 o5 g5 or5 lt5
        have HI6 := Lib.hid (HI5.out.appT o5 g5 (Nat.le_refl _))
        clear o5 g5 or5 lt5 HI5 HNx r0 r1 r2 r3 r4 r5 r6 r7
        go_wp2
        go_roundw
        case rel => exact ⟨j + 1, by omega, by go_num, by rw [HS1.out, HS2.out]; exact HI6⟩
        case measure => simp [intOf]; omega
      · have HF : Hid (MoIn w w.heap.size _ _ (.slice ma ms.length mc) (ms.map (·.1)) (ms.map (·.2)) ms wr) := Lib.hid (by
          have h := HI.out
          rw [List.take_of_length_le (by omega)] at h
          exact h)
        go_wp2
        go_ret3
        exact moDone HC.out HZ.out HF.out.1 HF.out.2.1 HF.out.2.2.2

end Go.Proofs.YtibadnfagoehmaaDoor

namespace Go.Proofs.YtibadnfagoehmaaDoor
open Go.RowKit Go.Sort

/-- The two slices while they are built: what stood in the world W stands as it was. -/
def SmIn (W : World) (tv sv : Value) (ms : List Mv) (u : World) : Prop := OwnS u W.heap.size tv (ms.map (·.1)) ∧ OwnT u W.heap.size sv (ms.map (·.2)) ∧ Below W.heap.size W u
theorem SmIn.below {W : World} {tv sv : Value} {ms : List Mv} {u u' : World} (h : SmIn W tv sv ms u) (k : Below u.heap.size u u') : SmIn W tv sv ms u' := ⟨rowAll h.1 k, rowAll h.2.1 k, h.2.2.trans (k.mono h.2.2.size)⟩

def MsRet (ms : List Mv) (w : World) (e : Ending) (w' : World) : Prop := ∃ v u, e = .returned (.tuple #[v, u]) ∧ OwnS w' w.heap.size v (ms.map (·.1)) ∧ OwnT w' w.heap.size u (ms.map (·.2)) ∧ Below w.heap.size w w'

set_option maxHeartbeats 4000000 in
set_option maxRecDepth 100000 in
theorem spec_l07Moves (n : Int) (x : St) (w : World) : Calls Tryd.prog 67 #[.int .i64 n, stV x] w (MsRet (movesP n x) w) := by
  have HP := Lib.hid (fun w => spec_l05Profile n w)
  have HG := Lib.hid (fun (k : Nat) w (hk : k < 4) => spec_l04Get x k w (by omega) (by omega))
  have HPut := Lib.hid (fun (k : Nat) q w (hk : k < 4) => spec_l04Put x k q w (by omega) (by omega))
  have HN := Lib.hid (fun (k : Nat) q w (hk : k < 4) => spec_l03Names k q w hk)
  have HAll := Lib.hid (mvTo_all n x)
  have B0 := Lib.hid (below_one w (.cells #[.int .i64 x.g0, .int .i64 x.g1, .int .i64 x.g2, .int .i64 x.g3, .int .i64 x.l, .int .i64 x.s, .int .i64 x.d] 24))
  have HX0 := Lib.hid (StAt.new w x)
  unfold PrDone prV at HP
  unfold StDone at HPut
  unfold stV at HG HPut ⊢
  go_enter Tryd.func67, Tryd.ntmps67
  go_wp2_with fail
  refine (HP.out _).mono ?_
  generalize w.alloc (.cells #[.int .i64 x.g0, .int .i64 x.g1, .int .i64 x.g2, .int .i64 x.g3, .int .i64 x.l, .int .i64 x.s, .int .i64 x.d] 24) = W0 at *
  rintro e w1 ⟨v, rfl, hS, b1⟩
  obtain ⟨vg, vc, rfl⟩ := hS.shape
  have bb := below_one w1 (.cells #[.string (prName n), .string (prHead n), (.slice (some ⟨vg, 0, none⟩) 4 vc), .bool (prRight n), .bool (prShifts n), .bool (prSingle n), .bool (prReset n), .bool (prClear n)] 87)
  have B1 := Lib.hid ((B0.out.trans (b1.mono B0.out.size)).trans (bb.mono (Nat.le_trans B0.out.size b1.size)))
  have HS := Lib.hid (hS.keep bb)
  have HX := Lib.hid ((HX0.out.keep b1).keep bb)
  have HA : Hid (PrAt (w1.alloc (.cells #[.string (prName n), .string (prHead n), (.slice (some ⟨vg, 0, none⟩) 4 vc), .bool (prRight n), .bool (prShifts n), .bool (prSingle n), .bool (prReset n), .bool (prClear n)] 87)) w1.heap.size n (.slice (some ⟨vg, 0, none⟩) 4 vc)) := Lib.hid (heap_alloc_new _ _)
  clear hS b1 bb HX0 B0
  have HI0 : Hid (SmIn (w1.alloc (.cells #[.string (prName n), .string (prHead n), (.slice (some ⟨vg, 0, none⟩) 4 vc), .bool (prRight n), .bool (prShifts n), .bool (prSingle n), .bool (prReset n), .bool (prClear n)] 87)) (.slice (some ⟨w1.heap.size + 1, 0, none⟩) 0 0) (.slice (some ⟨w1.heap.size + 2, 0, none⟩) 0 0) (mvTo n x 0) (((w1.alloc (.cells #[.string (prName n), .string (prHead n), (.slice (some ⟨vg, 0, none⟩) 4 vc), .bool (prRight n), .bool (prShifts n), .bool (prSingle n), .bool (prReset n), .bool (prClear n)] 87)).alloc (.cells #[] 9)).alloc (.cells #[] 24))) := Lib.hid (by
    have h1 := OwnS.empty (w1.alloc (.cells #[.string (prName n), .string (prHead n), (.slice (some ⟨vg, 0, none⟩) 4 vc), .bool (prRight n), .bool (prShifts n), .bool (prSingle n), .bool (prReset n), .bool (prClear n)] 87)) _ (Nat.le_refl _)
    have h2 := OwnT.empty ((w1.alloc (.cells #[.string (prName n), .string (prHead n), (.slice (some ⟨vg, 0, none⟩) 4 vc), .bool (prRight n), .bool (prShifts n), .bool (prSingle n), .bool (prReset n), .bool (prClear n)] 87)).alloc (.cells #[] 9)) (w1.alloc (.cells #[.string (prName n), .string (prHead n), (.slice (some ⟨vg, 0, none⟩) 4 vc), .bool (prRight n), .bool (prShifts n), .bool (prSingle n), .bool (prReset n), .bool (prClear n)] 87)).heap.size (by simp)
    have e1 : (w1.alloc (.cells #[.string (prName n), .string (prHead n), (.slice (some ⟨vg, 0, none⟩) 4 vc), .bool (prRight n), .bool (prShifts n), .bool (prSingle n), .bool (prReset n), .bool (prClear n)] 87)).heap.size = w1.heap.size + 1 := by simp
    have e2 : ((w1.alloc (.cells #[.string (prName n), .string (prHead n), (.slice (some ⟨vg, 0, none⟩) 4 vc), .bool (prRight n), .bool (prShifts n), .bool (prSingle n), .bool (prReset n), .bool (prClear n)] 87)).alloc (.cells #[] 9)).heap.size = w1.heap.size + 2 := by simp
    rw [e2] at h2
    have h3 := h1.all (below_one _ (.cells #[] 24))
    rw [e1] at h2
    refine ⟨?_, ?_, ?_⟩
    · rw [e1] at h3 ⊢; exact h3
    · rw [e1]; exact h2
    · exact (below_one _ _).trans ((below_one _ _).mono (by simp)))
  go_wp2
  generalize ((w1.alloc (.cells #[.string (prName n), .string (prHead n), (.slice (some ⟨vg, 0, none⟩) 4 vc), .bool (prRight n), .bool (prShifts n), .bool (prSingle n), .bool (prReset n), .bool (prClear n)] 87)).alloc (.cells #[] 9)).alloc (.cells #[] 24) = W2 at *
  generalize hg : w1.heap.size = g at *
  have hgW : g < (w1.alloc (.cells #[.string (prName n), .string (prHead n), (.slice (some ⟨vg, 0, none⟩) 4 vc), .bool (prRight n), .bool (prShifts n), .bool (prSingle n), .bool (prReset n), .bool (prClear n)] 87)).heap.size := by simp; omega
  have hbW : w.heap.size ≤ (w1.alloc (.cells #[.string (prName n), .string (prHead n), (.slice (some ⟨vg, 0, none⟩) 4 vc), .bool (prRight n), .bool (prShifts n), .bool (prSingle n), .bool (prReset n), .bool (prClear n)] 87)).heap.size := by have := B1.out.size; omega
  generalize w1.alloc (.cells #[.string (prName n), .string (prHead n), (.slice (some ⟨vg, 0, none⟩) 4 vc), .bool (prRight n), .bool (prShifts n), .bool (prSingle n), .bool (prReset n), .bool (prClear n)] 87) = W at *
  have HA2 : Hid (W.cell? ⟨g, 2, none⟩ = some (.slice (some ⟨vg, 0, none⟩) 4 vc)) := Lib.hid HA.out.cells.1
  have HA4 : Hid (W.cell? ⟨g, 4, none⟩ = some (.bool (prShifts n))) := Lib.hid HA.out.cells.2.2.1
  clear hg
  go_loopw [7, 8, 9] (fun tv sv i wr => ∃ k : Nat, k ≤ 4 ∧ i = .int .i64 k ∧ Hid (SmIn W tv sv (mvTo n x k) wr)) (fun _ _ i _ => 4 - (intOf i).toNat)
  case atStart => exact ⟨0, by omega, rfl, HI0⟩
  case round =>
    clear HI0
    obtain ⟨k, hk, rfl, HI⟩ := hrel
    by_cases hk4 : k < 4
    · have hk4' : (k : Int) < 4 := by omega
      have hk0' : (0 : Int) ≤ (k : Int) := by omega
      obtain ⟨gs, cs, u, hv, hu, hIn⟩ := HS.out.pick k (by omega) (by omega)
      injection hv with v1 v2 v3
      injection v1 with v1
      injection v1 with v1 _ _
      subst v1 v3
      rw [Int.toNat_natCast] at hu
      obtain ⟨ua, uc, rfl⟩ := hIn.form
      have HU0 := Lib.hid hu
      have HIn := Lib.hid hIn
      have HNx : Hid (mvTo n x (k + 1) = mvTo n x k ++ movesG x k (prSets n k)) := Lib.hid rfl
      have hlen := mvTo_le n x k hk
      have hfew := prSets_few6 n k
      clear hu hIn
      generalize mvTo n x k = M at *
      generalize prSets n k = zs at *
      go_wp2
      go_loopw [7, 8, 10] (fun tv sv i wq => ∃ j : Nat, j ≤ zs.length ∧ i = .int .i64 j ∧ Hid (SmIn W tv sv (M ++ movesG x k (zs.take j)) wq)) (fun _ _ i _ => zs.length - (intOf i).toNat)
      case atStart => exact ⟨0, by omega, rfl, by simpa [movesG] using HI⟩
      case round =>
        clear HI
        obtain ⟨j, hj, rfl, HI⟩ := hrel
        have p2 := cell_since HI.out.2.2 HA2.out
        have q2 := cell_since HI.out.2.2 HU0.out
        by_cases hjl : j < zs.length
        · have hjl' : (j : Int) < (zs.length : Int) := by omega
          have hj0' : (0 : Int) ≤ (j : Int) := by omega
          obtain ⟨zb, off, rfl, c1⟩ := HIn.out.pick j hjl
          have HU := Lib.hid HU0.out
          have HTk := Lib.hid (movesG_take x k zs j hjl _ rfl)
          have hml := movesG_le x k zs j
          generalize zs.getD j 0 = z at *
          have HZc := Lib.hid c1
          clear c1
          go_wp2
          clear p2 q2
          have hS0 : Below W.heap.size W wr.drew := HI.out.2.2.drew
          have HI1 : Hid (SmIn W _ _ (M ++ movesG x k (zs.take j)) wr.drew) := Lib.hid (HI.out.below (Below.refl _ _).drew)
          clear HI
          refine region_held_w (S := fun v => Below W.heap.size W v) wr.drew rfl (by kernel_rfl) ?_
          generalize wr.drew = V at *
          refine wpAnyH_take (i := 0) (v := .pointer (some ⟨g, 2, none⟩)) rfl (by kernel_rfl) (by kernel_rfl) (by kernel_rfl) (fun _ _ _ h => h) (.inl ⟨by rfl, fun w' hS' => by
            go_simp⟩) hS0 ?_
          refine wpAnyH_take (i := 1) (v := .slice (some ⟨vg, 0, none⟩) 4 vc) rfl (by kernel_rfl) (by kernel_rfl) (by kernel_rfl) (fun _ _ _ h => h) (.inl ⟨by rfl, fun w' hS' => by
            have p2 := cell_since hS' HA2.out
            go_simp⟩) hS0 ?_
          refine wpAnyH_take (i := 2) (v := .int .i64 (k : Int)) rfl (by kernel_rfl) (by kernel_rfl) (by kernel_rfl) (fun _ _ _ h => h) (.inl ⟨by rfl, fun w' hS' => by
            go_simp⟩) hS0 ?_
          refine wpAnyH_take (i := 3) (v := .pointer (some ⟨vg, k, none⟩)) rfl (by kernel_rfl) (by kernel_rfl) (by kernel_rfl) (fun _ _ _ h => h) (.inl ⟨by rfl, fun w' hS' => by
            go_simp⟩) hS0 ?_
          refine wpAnyH_take (i := 4) (v := .slice (some ⟨zb, off, none⟩) zs.length uc) rfl (by kernel_rfl) (by kernel_rfl) (by kernel_rfl) (fun _ _ _ h => h) (.inl ⟨by rfl, fun w' hS' => by
            have p2 := cell_since hS' HU.out
            go_simp⟩) hS0 ?_
          refine wpAnyH_take (i := 5) (v := .int .i64 (j : Int)) rfl (by kernel_rfl) (by kernel_rfl) (by kernel_rfl) (fun _ _ _ h => h) (.inl ⟨by rfl, fun w' hS' => by
            go_simp⟩) hS0 ?_
          refine wpAnyH_take (i := 6) (v := .pointer (some ⟨zb, off + j, none⟩)) rfl (by kernel_rfl) (by kernel_rfl) (by kernel_rfl) (fun _ _ _ h => h) (.inl ⟨by rfl, fun w' hS' => by
            go_simp⟩) hS0 ?_
          refine wpAnyH_take (i := 7) (v := .int .i64 z) rfl (by kernel_rfl) (by kernel_rfl) (by kernel_rfl) (fun _ _ _ h => h) (.inl ⟨by rfl, fun w' hS' => by
            have p2 := cell_since hS' HZc.out
            go_simp⟩) hS0 ?_
          refine wpAnyH_take (i := 8) (v := .agg #[.int .i64 x.g0, .int .i64 x.g1, .int .i64 x.g2, .int .i64 x.g3, .int .i64 x.l, .int .i64 x.s, .int .i64 x.d]) rfl (by kernel_rfl) (by kernel_rfl) (by kernel_rfl) (fun _ _ _ h => h) (.inl ⟨by rfl, fun w' hS' => by
            have ⟨y0, y1, y2, y3, y4, y5, y6⟩ := (HX.out.keep hS').cells
            go_simp⟩) hS0 ?_
          refine wpAnyH_take (i := 9) (v := .int .i64 (k : Int)) rfl (by kernel_rfl) (by kernel_rfl) (by kernel_rfl) (fun _ _ _ h => h) (.inl ⟨by rfl, fun w' hS' => by
            go_simp⟩) hS0 ?_
          refine wpAnyH_one (i := 10) (by kernel_rfl) rfl (fun K hK => ?_)
          go_simp
          refine (HG.out k _ hk4).mono ?_
          rintro e V2 ⟨rfl, b2⟩
          have HI2 := Lib.hid (HI1.out.below b2)
          clear b2 HI1 hS0
          refine hK.out _ _ HI2.out.2.2 (fun _ => ?_)
          clear hK K
          refine wpAnyH_one (i := 11) (by kernel_rfl) rfl (fun K hK => ?_)
          by_cases hz : z = stGet x k
          · have ez : (z != stGet x k) = false := by simp [hz]
            have HI3 : Hid (SmIn W _ _ (M ++ movesG x k (zs.take (j + 1))) V2) := Lib.hid (by rw [HTk.out, if_pos hz, List.append_nil]; exact HI2.out)
            clear hz
            go_simp
            refine hK.out _ _ HI2.out.2.2 (fun _ => ?_)
            clear hK K
            refine wpAnyH_done (by kernel_rfl) ?_ _
            go_wp2
            go_roundw
            case rel => exact ⟨j + 1, by omega, by go_num, HI3⟩
            case measure => simp [intOf]; omega
          · have ez : (z != stGet x k) = true := by simp [hz]
            have HNew : Hid (M ++ movesG x k (zs.take (j + 1)) = (M ++ movesG x k (zs.take j)) ++ [(escB k (setKind z) (setFinal z), stPut x k z)]) := Lib.hid (by rw [HTk.out, if_neg hz, List.append_assoc])
            have hln : (M ++ movesG x k (zs.take j)).length ≤ 1048576 := by simp only [List.length_append]; omega
            clear hz HTk hml
            generalize M ++ movesG x k (zs.take j) = N at *
            go_simp
            refine hK.out _ _ HI2.out.2.2 (fun _ => ?_)
            clear hK K ez
            refine wpAnyH_done (by kernel_rfl) ?_ _
            have p2 := cell_since HI2.out.2.2 HA2.out
            have q2 := cell_since HI2.out.2.2 HU.out
            have z2 := cell_since HI2.out.2.2 HZc.out
            go_wp2_with fail
            refine (HN.out k z _ hk4).mono ?_
            rintro e w3 ⟨rfl, b3⟩
            have HI3 := Lib.hid ((HI2.out.below b3).below (below_one w3 (.cells #[.string (escB k (setKind z) (setFinal z))] 9)))
            have hW3 : W.heap.size ≤ w3.heap.size := (HI2.out.2.2.trans (b3.mono HI2.out.2.2.size)).size
            have hl1 : (N.map (·.1)).length ≤ 1048576 := by rw [List.length_map]; exact hln
            have hl2 : (N.map (·.2)).length ≤ 1048576 := by rw [List.length_map]; exact hln
            have HM1 : Hid ((N ++ [(escB k (setKind z) (setFinal z), stPut x k z)]).map (·.1) = N.map (·.1) ++ [escB k (setKind z) (setFinal z)]) := Lib.hid (by rw [List.map_append]; rfl)
            have HM2 : Hid ((N ++ [(escB k (setKind z) (setFinal z), stPut x k z)]).map (·.2) = N.map (·.2) ++ [stPut x k z]) := Lib.hid (by rw [List.map_append]; rfl)
            clear p2 q2 z2 b3 HI2
            unfold SmIn at HI3
            generalize N.map (·.1) = ts at *
            generalize N.map (·.2) = xs at *
            go_wp2_with (at_builtin; refine app_str _ rfl _ _ rfl W.heap.size _ ts rfl HI3.out.1 w3.heap.size 1 (escB k (setKind z) (setFinal z)) rfl (heap_alloc_new _ _) hl1 (by simp; omega) ?_)
            intro g2 cap2 w4 o4 g4 or4 lt4
            have oT4 : OwnT w4 W.heap.size _ xs := World.ownsRow.kept HI3.out.2.1 g4 (rows_apart HI3.out.2.1 HI3.out.1 (by decide))
            have bW4 : Below W.heap.size W w4 := HI3.out.2.2.grown g4 HI3.out.2.2.size fun r hr => (World.ownsRow.lt HI3.out.1 r hr).1
            clear g4 or4 lt4 HI3
            obtain ⟨sa, sc, hsv⟩ := oT4.form
            subst hsv
            go_wp2
            have oS5 : OwnS w4.drew W.heap.size _ (ts ++ [escB k (setKind z) (setFinal z)]) := rowAll o4 (Below.refl _ _).drew
            have oT5 : OwnT w4.drew W.heap.size (.slice sa xs.length sc) xs := rowAll oT4 (Below.refl _ _).drew
            have hS0 : Below W.heap.size W w4.drew := bW4.drew
            clear o4 oT4 bW4
            refine region_held_w (S := fun v => Below W.heap.size W v) w4.drew rfl (by kernel_rfl) ?_
            generalize w4.drew = V at *
            refine wpAnyH_take (i := 0) (v := .slice sa xs.length sc) rfl (by kernel_rfl) (by kernel_rfl) (by kernel_rfl) (fun _ _ _ h => h) (.inl ⟨by rfl, fun w' hS' => by
              go_simp⟩) hS0 ?_
            refine wpAnyH_take (i := 1) (v := .agg #[.int .i64 x.g0, .int .i64 x.g1, .int .i64 x.g2, .int .i64 x.g3, .int .i64 x.l, .int .i64 x.s, .int .i64 x.d]) rfl (by kernel_rfl) (by kernel_rfl) (by kernel_rfl) (fun _ _ _ h => h) (.inl ⟨by rfl, fun w' hS' => by
              have ⟨y0, y1, y2, y3, y4, y5, y6⟩ := (HX.out.keep hS').cells
              go_simp⟩) hS0 ?_
            refine wpAnyH_take (i := 2) (v := .int .i64 (k : Int)) rfl (by kernel_rfl) (by kernel_rfl) (by kernel_rfl) (fun _ _ _ h => h) (.inl ⟨by rfl, fun w' hS' => by
              go_simp⟩) hS0 ?_
            refine wpAnyH_take (i := 3) (v := .pointer (some ⟨g, 2, none⟩)) rfl (by kernel_rfl) (by kernel_rfl) (by kernel_rfl) (fun _ _ _ h => h) (.inl ⟨by rfl, fun w' hS' => by
              go_simp⟩) hS0 ?_
            refine wpAnyH_take (i := 4) (v := .slice (some ⟨vg, 0, none⟩) 4 vc) rfl (by kernel_rfl) (by kernel_rfl) (by kernel_rfl) (fun _ _ _ h => h) (.inl ⟨by rfl, fun w' hS' => by
              have p2 := cell_since hS' HA2.out
              go_simp⟩) hS0 ?_
            refine wpAnyH_take (i := 5) (v := .int .i64 (k : Int)) rfl (by kernel_rfl) (by kernel_rfl) (by kernel_rfl) (fun _ _ _ h => h) (.inl ⟨by rfl, fun w' hS' => by
              go_simp⟩) hS0 ?_
            refine wpAnyH_take (i := 6) (v := .pointer (some ⟨vg, k, none⟩)) rfl (by kernel_rfl) (by kernel_rfl) (by kernel_rfl) (fun _ _ _ h => h) (.inl ⟨by rfl, fun w' hS' => by
              go_simp⟩) hS0 ?_
            refine wpAnyH_take (i := 7) (v := .slice (some ⟨zb, off, none⟩) zs.length uc) rfl (by kernel_rfl) (by kernel_rfl) (by kernel_rfl) (fun _ _ _ h => h) (.inl ⟨by rfl, fun w' hS' => by
              have p2 := cell_since hS' HU.out
              go_simp⟩) hS0 ?_
            refine wpAnyH_take (i := 8) (v := .int .i64 (j : Int)) rfl (by kernel_rfl) (by kernel_rfl) (by kernel_rfl) (fun _ _ _ h => h) (.inl ⟨by rfl, fun w' hS' => by
              go_simp⟩) hS0 ?_
            refine wpAnyH_take (i := 9) (v := .pointer (some ⟨zb, off + j, none⟩)) rfl (by kernel_rfl) (by kernel_rfl) (by kernel_rfl) (fun _ _ _ h => h) (.inl ⟨by rfl, fun w' hS' => by
              go_simp⟩) hS0 ?_
            refine wpAnyH_take (i := 10) (v := .int .i64 z) rfl (by kernel_rfl) (by kernel_rfl) (by kernel_rfl) (fun _ _ _ h => h) (.inl ⟨by rfl, fun w' hS' => by
              have p2 := cell_since hS' HZc.out
              go_simp⟩) hS0 ?_
            refine wpAnyH_one (i := 11) (by kernel_rfl) rfl (fun K hK => ?_)
            go_simp
            refine (HPut.out k z _ hk4).mono ?_
            rintro e V2 ⟨rfl, b2⟩
            have oS6 := oS5.all b2
            have oT6 := oT5.all b2
            have hS1 : Below W.heap.size W V2 := hS0.trans (b2.mono hS0.size)
            clear oS5 oT5 hS0 b2
            refine hK.out _ _ hS1 (fun _ => ?_)
            clear hK K
            refine wpAnyH_one (i := 12) (by kernel_rfl) rfl (fun K hK => ?_)
            have oS7 := oS6.all (below_one V2 (.cells #[.int .i64 (stPut x k z).g0, .int .i64 (stPut x k z).g1, .int .i64 (stPut x k z).g2, .int .i64 (stPut x k z).g3, .int .i64 (stPut x k z).l, .int .i64 (stPut x k z).s, .int .i64 (stPut x k z).d] 24))
            have oT7 := oT6.all (below_one V2 (.cells #[.int .i64 (stPut x k z).g0, .int .i64 (stPut x k z).g1, .int .i64 (stPut x k z).g2, .int .i64 (stPut x k z).g3, .int .i64 (stPut x k z).l, .int .i64 (stPut x k z).s, .int .i64 (stPut x k z).d] 24))
            have hS2 : Below W.heap.size W (V2.alloc (.cells #[.int .i64 (stPut x k z).g0, .int .i64 (stPut x k z).g1, .int .i64 (stPut x k z).g2, .int .i64 (stPut x k z).g3, .int .i64 (stPut x k z).l, .int .i64 (stPut x k z).s, .int .i64 (stPut x k z).d] 24)) := hS1.trans ((below_one _ _).mono hS1.size)
            have HNw := Lib.hid (StAt.new V2 (stPut x k z))
            go_simp
            refine hK.out _ _ hS2 (fun _ => ?_)
            clear hK K oS6 oT6 hS1
            refine wpAnyH_one (i := 13) (by kernel_rfl) rfl (fun K hK => ?_)
            refine step_st _ rfl _ _ rfl W.heap.size _ xs (by rfl) oT7 V2.heap.size 1 (stPut x k z) (by rfl) HNw.out hl2 hS2.size ?_
            intro g3 cap3 w5 o5 g5 or5 lt5
            have oS8 : OwnS w5 W.heap.size _ (ts ++ [escB k (setKind z) (setFinal z)]) := World.ownsRow.kept oS7 g5 (rows_apart oS7 oT7 (by decide))
            have hS3 : Below W.heap.size W w5 := hS2.grown g5 hS2.size fun r hr => (World.ownsRow.lt oT7 r hr).1
            have HI6 : Hid (SmIn W _ _ (M ++ movesG x k (zs.take (j + 1))) w5) := Lib.hid ⟨by rw [HNew.out, HM1.out]; exact oS8, by rw [HNew.out, HM2.out]; exact o5, hS3⟩
            clear oS7 oT7 hS2 o5 g5 or5 lt5 oS8
            refine hK.out _ _ hS3 (fun _ => ?_)
            clear hK K
            refine wpAnyH_one (i := 14) (by kernel_rfl) rfl (fun K hK => ?_)
            go_simp
            refine hK.out _ _ hS3 (fun _ => ?_)
            clear hK K
            refine wpAnyH_done (by kernel_rfl) ?_ _
            go_wp2
            go_roundw
            case rel => exact ⟨j + 1, by omega, by go_num, HI6⟩
            case measure => simp [intOf]; omega
        · have HI3 : Hid (SmIn W _ _ (mvTo n x (k + 1)) wr) := Lib.hid (by
            have h := HI.out
            rw [List.take_of_length_le (by omega)] at h
            rw [HNx.out]
            exact h)
          go_wp2
          go_roundw
          case rel => exact ⟨k + 1, by omega, by go_num, HI3⟩
          case measure => simp [intOf]; omega
    · obtain rfl : k = 4 := by omega
      have p4 := cell_since HI.out.2.2 HA4.out
      have ⟨y0', y1', y2', y3', y4', y5', y6'⟩ := (HX.out.keep HI.out.2.2).cells
      cases hsh : prShifts n
      · rw [hsh] at p4 HA4
        have HF : Hid (SmIn W _ _ (movesP n x) wr) := Lib.hid (by
          have h := HI.out
          rw [← HAll.out, shiftMv, hsh, if_neg (by decide), List.append_nil]
          exact h)
        clear HI
        go_wp2
        go_ret2
        exact ⟨_, _, rfl, Joins.ownsRow_le HF.out.1 hbW, Joins.ownsRow_le HF.out.2.1 hbW, B1.out.trans (HF.out.2.2.mono hbW)⟩
      rw [hsh] at p4 HA4
      by_cases hl : x.l = 0
      · have HNew : Hid (movesP n x = mvTo n x 4 ++ [(⟨#[14]⟩, leftTo x 1)]) := Lib.hid (by rw [← HAll.out, shiftMv, hsh, if_pos rfl, if_pos hl])
        have e0 : (x.l == 0) = true := by simp [hl]
        have e1 : (x.l == 1) = false := by simp [hl]
        have hln := mvTo_le n x 4 (by omega)
        have hl1 : ((mvTo n x 4).map (·.1)).length ≤ 1048576 := by rw [List.length_map]; omega
        have hl2 : ((mvTo n x 4).map (·.2)).length ≤ 1048576 := by rw [List.length_map]; omega
        have HM1 : Hid ((movesP n x).map (·.1) = (mvTo n x 4).map (·.1) ++ [⟨#[14]⟩]) := Lib.hid (by rw [HNew.out, List.map_append]; rfl)
        have HM2 : Hid ((movesP n x).map (·.2) = (mvTo n x 4).map (·.2) ++ [leftTo x 1]) := Lib.hid (by rw [HNew.out, List.map_append]; rfl)
        have HI1 := Lib.hid ((HI.out.below (below_one wr (.cells #[.int .i64 (leftTo x 1).g0, .int .i64 (leftTo x 1).g1, .int .i64 (leftTo x 1).g2, .int .i64 (leftTo x 1).g3, .int .i64 (leftTo x 1).l, .int .i64 (leftTo x 1).s, .int .i64 (leftTo x 1).d] 24))).below (below_one _ (.cells #[.string ⟨#[14]⟩] 9)))
        have HXn : Hid (StAt ((wr.alloc (.cells #[.int .i64 (leftTo x 1).g0, .int .i64 (leftTo x 1).g1, .int .i64 (leftTo x 1).g2, .int .i64 (leftTo x 1).g3, .int .i64 (leftTo x 1).l, .int .i64 (leftTo x 1).s, .int .i64 (leftTo x 1).d] 24)).alloc (.cells #[.string ⟨#[14]⟩] 9)) wr.heap.size (leftTo x 1)) := Lib.hid (heap_alloc2_old _ _ _)
        have LT := Lib.hid (fun r hr => (World.ownsRow.lt HI.out.1 r hr).2)
        have hNW : ((wr.alloc (.cells #[.int .i64 (leftTo x 1).g0, .int .i64 (leftTo x 1).g1, .int .i64 (leftTo x 1).g2, .int .i64 (leftTo x 1).g3, .int .i64 (leftTo x 1).l, .int .i64 (leftTo x 1).s, .int .i64 (leftTo x 1).d] 24)).alloc (.cells #[.string ⟨#[14]⟩] 9)).heap[wr.heap.size + 1]? = some (.cells #[.string ⟨#[14]⟩] 9) := heap_alloc2_new _ _ _
        have HNW := Lib.hid hNW
        have hWr : W.heap.size ≤ wr.heap.size := HI.out.2.2.size
        clear hsh hl hln HNew hNW HI
        unfold SmIn at HI1
        unfold leftTo at HI1 HNW HXn
        dsimp only at HI1 HNW HXn
        generalize (mvTo n x 4).map (·.1) = ts at *
        generalize (mvTo n x 4).map (·.2) = xs at *
        go_wp2_with (at_builtin; refine app_str _ rfl _ _ rfl W.heap.size _ ts rfl HI1.out.1 (wr.heap.size + 1) 1 ⟨#[14]⟩ rfl HNW.out hl1 (by simp; omega) ?_)
        intro g2 cap2 w4 o4 g4 or4 lt4
        have oT4 : OwnT w4 W.heap.size _ xs := World.ownsRow.kept HI1.out.2.1 g4 (rows_apart HI1.out.2.1 HI1.out.1 (by decide))
        have bW4 : Below W.heap.size W w4 := HI1.out.2.2.grown g4 HI1.out.2.2.size fun r hr => (World.ownsRow.lt HI1.out.1 r hr).1
        have hX4 : StAt w4 wr.heap.size (leftTo x 1) := (g4.block _ (by simp; omega) (fun h => by have := LT.out _ h.symm; omega)).trans HXn.out
        have hs4 : wr.heap.size + 2 ≤ w4.heap.size := by have := g4.size; simpa using this
        have HI5 : Hid (OwnS w4 W.heap.size _ (ts ++ [⟨#[14]⟩]) ∧ OwnT w4 W.heap.size _ xs ∧ Below W.heap.size W w4) := Lib.hid ⟨o4, oT4, bW4⟩
        have HX5 := Lib.hid hX4
        unfold leftTo at hX4
        have ⟨x0, x1, x2, x3, x4, x5, x6⟩ := hX4.cells
        dsimp only at x0 x1 x2 x3 x4 x5 x6
        have HI6 := Lib.hid (rowAll HI5.out.2.1 (below_one w4 (.cells #[.int .i64 (leftTo x 1).g0, .int .i64 (leftTo x 1).g1, .int .i64 (leftTo x 1).g2, .int .i64 (leftTo x 1).g3, .int .i64 (leftTo x 1).l, .int .i64 (leftTo x 1).s, .int .i64 (leftTo x 1).d] 24)))
        have HNx := Lib.hid (StAt.new w4 (leftTo x 1))
        have hW4 : W.heap.size ≤ w4.heap.size := by omega
        unfold leftTo at HNx HI6
        dsimp only at HNx HI6
        have r3 := cell_since HI5.out.2.2 HA4.out
        have ⟨y0, y1, y2, y3, y4, y5, y6⟩ := (HX.out.keep HI5.out.2.2).cells
        clear o4 oT4 bW4 g4 or4 lt4 HI1 HXn HNW hX4 p4 y0' y1' y2' y3' y4' y5' y6'
        go_wp2_with (at_builtin; refine app_st _ rfl _ _ rfl W.heap.size _ xs rfl HI6.out w4.heap.size 1 (leftTo x 1) rfl HNx.out hl2 (by simp; omega) ?_)
        intro g3 cap3 w5 o5 g5 or5 lt5
        have HF : Hid (OwnS w5 W.heap.size _ ((movesP n x).map (·.1)) ∧ OwnT w5 W.heap.size _ ((movesP n x).map (·.2)) ∧ Below W.heap.size W w5) := Lib.hid (by
          rw [HM1.out, HM2.out]
          exact ⟨World.ownsRow.kept (rowAll HI5.out.1 (below_one _ _)) g5 (rows_apart (rowAll HI5.out.1 (below_one _ _)) HI6.out (by decide)), o5, (HI5.out.2.2.trans ((below_one _ _).mono HI5.out.2.2.size)).grown g5 (by simp; omega) fun r hr => (World.ownsRow.lt HI6.out r hr).1⟩)
        have r5 := cell_since HF.out.2.2 HA4.out
        have ⟨z0, z1, z2, z3, z4, z5, z6⟩ := (HX.out.keep HF.out.2.2).cells
        clear o5 g5 or5 lt5 HI6 HNx x0 x1 x2 x3 x4 x5 x6 r3 y0 y1 y2 y3 y4 y5 y6
        go_wp2
        go_ret2
        exact ⟨_, _, rfl, Joins.ownsRow_le HF.out.1 hbW, Joins.ownsRow_le HF.out.2.1 hbW, B1.out.trans (HF.out.2.2.mono hbW)⟩
      by_cases hl : x.l = 1
      · have HNew : Hid (movesP n x = mvTo n x 4 ++ [(⟨#[15]⟩, leftTo x 0)]) := Lib.hid (by rw [← HAll.out, shiftMv, hsh, if_pos rfl, if_neg (by omega), if_pos hl])
        have e0 : (x.l == 0) = false := by simp [hl]
        have e1 : (x.l == 1) = true := by simp [hl]
        have hln := mvTo_le n x 4 (by omega)
        have hl1 : ((mvTo n x 4).map (·.1)).length ≤ 1048576 := by rw [List.length_map]; omega
        have hl2 : ((mvTo n x 4).map (·.2)).length ≤ 1048576 := by rw [List.length_map]; omega
        have HM1 : Hid ((movesP n x).map (·.1) = (mvTo n x 4).map (·.1) ++ [⟨#[15]⟩]) := Lib.hid (by rw [HNew.out, List.map_append]; rfl)
        have HM2 : Hid ((movesP n x).map (·.2) = (mvTo n x 4).map (·.2) ++ [leftTo x 0]) := Lib.hid (by rw [HNew.out, List.map_append]; rfl)
        have HI1 := Lib.hid ((HI.out.below (below_one wr (.cells #[.int .i64 (leftTo x 0).g0, .int .i64 (leftTo x 0).g1, .int .i64 (leftTo x 0).g2, .int .i64 (leftTo x 0).g3, .int .i64 (leftTo x 0).l, .int .i64 (leftTo x 0).s, .int .i64 (leftTo x 0).d] 24))).below (below_one _ (.cells #[.string ⟨#[15]⟩] 9)))
        have HXn : Hid (StAt ((wr.alloc (.cells #[.int .i64 (leftTo x 0).g0, .int .i64 (leftTo x 0).g1, .int .i64 (leftTo x 0).g2, .int .i64 (leftTo x 0).g3, .int .i64 (leftTo x 0).l, .int .i64 (leftTo x 0).s, .int .i64 (leftTo x 0).d] 24)).alloc (.cells #[.string ⟨#[15]⟩] 9)) wr.heap.size (leftTo x 0)) := Lib.hid (heap_alloc2_old _ _ _)
        have LT := Lib.hid (fun r hr => (World.ownsRow.lt HI.out.1 r hr).2)
        have hNW : ((wr.alloc (.cells #[.int .i64 (leftTo x 0).g0, .int .i64 (leftTo x 0).g1, .int .i64 (leftTo x 0).g2, .int .i64 (leftTo x 0).g3, .int .i64 (leftTo x 0).l, .int .i64 (leftTo x 0).s, .int .i64 (leftTo x 0).d] 24)).alloc (.cells #[.string ⟨#[15]⟩] 9)).heap[wr.heap.size + 1]? = some (.cells #[.string ⟨#[15]⟩] 9) := heap_alloc2_new _ _ _
        have HNW := Lib.hid hNW
        have hWr : W.heap.size ≤ wr.heap.size := HI.out.2.2.size
        clear hsh hl hln HNew hNW HI
        unfold SmIn at HI1
        unfold leftTo at HI1 HNW HXn
        dsimp only at HI1 HNW HXn
        generalize (mvTo n x 4).map (·.1) = ts at *
        generalize (mvTo n x 4).map (·.2) = xs at *
        go_wp2_with (at_builtin; refine app_str _ rfl _ _ rfl W.heap.size _ ts rfl HI1.out.1 (wr.heap.size + 1) 1 ⟨#[15]⟩ rfl HNW.out hl1 (by simp; omega) ?_)
        intro g2 cap2 w4 o4 g4 or4 lt4
        have oT4 : OwnT w4 W.heap.size _ xs := World.ownsRow.kept HI1.out.2.1 g4 (rows_apart HI1.out.2.1 HI1.out.1 (by decide))
        have bW4 : Below W.heap.size W w4 := HI1.out.2.2.grown g4 HI1.out.2.2.size fun r hr => (World.ownsRow.lt HI1.out.1 r hr).1
        have hX4 : StAt w4 wr.heap.size (leftTo x 0) := (g4.block _ (by simp; omega) (fun h => by have := LT.out _ h.symm; omega)).trans HXn.out
        have hs4 : wr.heap.size + 2 ≤ w4.heap.size := by have := g4.size; simpa using this
        have HI5 : Hid (OwnS w4 W.heap.size _ (ts ++ [⟨#[15]⟩]) ∧ OwnT w4 W.heap.size _ xs ∧ Below W.heap.size W w4) := Lib.hid ⟨o4, oT4, bW4⟩
        have HX5 := Lib.hid hX4
        unfold leftTo at hX4
        have ⟨x0, x1, x2, x3, x4, x5, x6⟩ := hX4.cells
        dsimp only at x0 x1 x2 x3 x4 x5 x6
        have HI6 := Lib.hid (rowAll HI5.out.2.1 (below_one w4 (.cells #[.int .i64 (leftTo x 0).g0, .int .i64 (leftTo x 0).g1, .int .i64 (leftTo x 0).g2, .int .i64 (leftTo x 0).g3, .int .i64 (leftTo x 0).l, .int .i64 (leftTo x 0).s, .int .i64 (leftTo x 0).d] 24)))
        have HNx := Lib.hid (StAt.new w4 (leftTo x 0))
        have hW4 : W.heap.size ≤ w4.heap.size := by omega
        unfold leftTo at HNx HI6
        dsimp only at HNx HI6
        have r3 := cell_since HI5.out.2.2 HA4.out
        have ⟨y0, y1, y2, y3, y4, y5, y6⟩ := (HX.out.keep HI5.out.2.2).cells
        clear o4 oT4 bW4 g4 or4 lt4 HI1 HXn HNW hX4 p4 y0' y1' y2' y3' y4' y5' y6'
        go_wp2_with (at_builtin; refine app_st _ rfl _ _ rfl W.heap.size _ xs rfl HI6.out w4.heap.size 1 (leftTo x 0) rfl HNx.out hl2 (by simp; omega) ?_)
        intro g3 cap3 w5 o5 g5 or5 lt5
        have HF : Hid (OwnS w5 W.heap.size _ ((movesP n x).map (·.1)) ∧ OwnT w5 W.heap.size _ ((movesP n x).map (·.2)) ∧ Below W.heap.size W w5) := Lib.hid (by
          rw [HM1.out, HM2.out]
          exact ⟨World.ownsRow.kept (rowAll HI5.out.1 (below_one _ _)) g5 (rows_apart (rowAll HI5.out.1 (below_one _ _)) HI6.out (by decide)), o5, (HI5.out.2.2.trans ((below_one _ _).mono HI5.out.2.2.size)).grown g5 (by simp; omega) fun r hr => (World.ownsRow.lt HI6.out r hr).1⟩)
        
        
        clear o5 g5 or5 lt5 HI6 HNx x0 x1 x2 x3 x4 x5 x6 r3 y0 y1 y2 y3 y4 y5 y6
        go_wp2
        go_ret2
        exact ⟨_, _, rfl, Joins.ownsRow_le HF.out.1 hbW, Joins.ownsRow_le HF.out.2.1 hbW, B1.out.trans (HF.out.2.2.mono hbW)⟩
      · rename_i hl0
        have HF : Hid (SmIn W _ _ (movesP n x) wr) := Lib.hid (by
          have h := HI.out
          rw [← HAll.out, shiftMv, hsh, if_pos rfl, if_neg hl0, if_neg hl, List.append_nil]
          exact h)
        have e0 : (x.l == 0) = false := by simp [hl0]
        have e1 : (x.l == 1) = false := by simp [hl]
        clear HI hl hl0
        go_wp2
        go_ret2
        exact ⟨_, _, rfl, Joins.ownsRow_le HF.out.1 hbW, Joins.ownsRow_le HF.out.2.1 hbW, B1.out.trans (HF.out.2.2.mono hbW)⟩

end Go.Proofs.YtibadnfagoehmaaDoor

namespace Go.Proofs.YtibadnfagoehmaaDoor
open Go.RowKit Go.Sort

def restCalm (x : St) : Bool := stOKB x && !pendB x
set_option maxHeartbeats 400000 in
theorem spec_l07Calm (x : St) (w : World) : Calls Tryd.prog 66 #[stV x] w fun e w' => e = .returned (.bool (restCalm x)) ∧ Below w.heap.size w w' := by
  have HO := Lib.hid (fun w => spec_l04OK x w)
  have HP := Lib.hid (fun w => spec_l04Pending x w)
  have B0 := Lib.hid (below_one w (.cells #[.int .i64 x.g0, .int .i64 x.g1, .int .i64 x.g2, .int .i64 x.g3, .int .i64 x.l, .int .i64 x.s, .int .i64 x.d] 24))
  have HX0 := Lib.hid (StAt.new w x)
  unfold stV at HO HP ⊢
  have ⟨y0, y1, y2, y3, y4, y5, y6⟩ := HX0.out.cells
  cases ho : stOKB x
  · have HE : Hid (restCalm x = false) := Lib.hid (by simp [restCalm, ho])
    rw [ho] at HO
    clear ho
    go_enter Tryd.func66, Tryd.ntmps66
    go_wp2_with fail
    refine (HO.out _).mono ?_
    rintro e w1 ⟨rfl, b1⟩
    go_wp2
    go_ret
    exact ⟨ret_bool HE.out.symm, B0.out.trans (b1.mono B0.out.size)⟩
  · have HE : Hid (restCalm x = !pendB x) := Lib.hid (by simp [restCalm, ho])
    rw [ho] at HO
    clear ho
    go_enter Tryd.func66, Tryd.ntmps66
    go_wp2_with fail
    refine (HO.out _).mono ?_
    generalize w.alloc (.cells #[.int .i64 x.g0, .int .i64 x.g1, .int .i64 x.g2, .int .i64 x.g3, .int .i64 x.l, .int .i64 x.s, .int .i64 x.d] 24) = W0 at *
    rintro e w1 ⟨rfl, b1⟩
    have ⟨z0, z1, z2, z3, z4, z5, z6⟩ := (HX0.out.keep b1).cells
    go_wp2_with fail
    refine (HP.out _).mono ?_
    rintro e w2 ⟨rfl, b2⟩
    have B2 := (B0.out.trans (b1.mono B0.out.size)).trans (b2.mono (Nat.le_trans B0.out.size b1.size))
    generalize pendB x = q at *
    go_wp2
    go_ret
    exact ⟨ret_bool HE.out.symm, B2⟩
theorem calm_rest (x : St) : calmB x = (restCalm x && decide (x.l ≤ 1)) := by
  unfold calmB restCalm
  rw [Bool.and_assoc]

set_option maxHeartbeats 1000000 in
set_option maxRecDepth 100000 in
theorem spec_MovesOf (n : Int) (x : St) (w : World) : Calls Tryd.prog 26 #[.int .i64 n, stV x] w (MoDone n x w) := by
  have HN := Lib.hid (fun w => spec_l05No n w)
  have HC := Lib.hid (fun w => spec_l07Calm x w)
  have HM := Lib.hid (fun w => spec_l07Moves n x w)
  have B0 := Lib.hid (below_one w (.cells #[.int .i64 x.g0, .int .i64 x.g1, .int .i64 x.g2, .int .i64 x.g3, .int .i64 x.l, .int .i64 x.s, .int .i64 x.d] 24))
  have HX0 := Lib.hid (StAt.new w x)
  have HE0 : Hid (∀ w1, Below w.heap.size w w1 → OwnS ((w1.alloc (.cells #[] 9)).alloc (.cells #[] 24)) w.heap.size (.slice (some ⟨w1.heap.size, 0, none⟩) 0 0) [] ∧ OwnT ((w1.alloc (.cells #[] 9)).alloc (.cells #[] 24)) w.heap.size (.slice (some ⟨w1.heap.size + 1, 0, none⟩) 0 0) [] ∧ Below w.heap.size w ((w1.alloc (.cells #[] 9)).alloc (.cells #[] 24))) := Lib.hid (fun w1 b => by
    have h1 := (OwnS.empty w1 _ b.size).all (below_one _ (.cells #[] 24))
    have h2 := OwnT.empty (w1.alloc (.cells #[] 9)) w.heap.size (by have := b.size; simp; omega)
    have e2 : (w1.alloc (.cells #[] 9)).heap.size = w1.heap.size + 1 := by simp
    rw [e2] at h2
    exact ⟨h1, h2, (b.trans ((below_one _ _).mono b.size)).trans ((below_one _ _).mono (by have := b.size; simp; omega))⟩)
  unfold MsRet at HM
  unfold stV at HC HM ⊢
  have ⟨y0, y1, y2, y3, y4, y5, y6⟩ := HX0.out.cells
  cases hn : proB n
  · have HK : Hid (mvC n x = 5) := Lib.hid (by simp [mvC, hn])
    have HZ : Hid (mvZ n x = []) := Lib.hid (by simp [mvZ, HK.out])
    rw [hn] at HN
    go_enter Tryd.func26, Tryd.ntmps26
    go_wp2_with fail
    refine (HN.out _).mono ?_
    generalize w.alloc (.cells #[.int .i64 x.g0, .int .i64 x.g1, .int .i64 x.g2, .int .i64 x.g3, .int .i64 x.l, .int .i64 x.s, .int .i64 x.d] 24) = W0 at *
    rintro e w1 ⟨rfl, rfl⟩
    have ⟨h1, h2, h3⟩ := HE0.out _ B0.out
    have HF := Lib.hid (And.intro h1 (And.intro h2 h3))
    clear h1 h2 h3
    go_wp2
    go_ret3
    exact moDone HK.out HZ.out HF.out.1 HF.out.2.1 HF.out.2.2
  have HN1 := Lib.hid hn
  rw [hn] at HN
  clear hn
  cases hr : restCalm x
  · have HK : Hid (mvC n x = 1) := Lib.hid (by simp [mvC, HN1.out, calm_rest, hr])
    have HZ : Hid (mvZ n x = []) := Lib.hid (by simp [mvZ, HK.out])
    rw [hr] at HC
    go_enter Tryd.func26, Tryd.ntmps26
    go_wp2_with fail
    refine (HN.out _).mono ?_
    rintro e w1 ⟨rfl, rfl⟩
    go_wp2_with fail
    refine (HC.out _).mono ?_
    generalize w.alloc (.cells #[.int .i64 x.g0, .int .i64 x.g1, .int .i64 x.g2, .int .i64 x.g3, .int .i64 x.l, .int .i64 x.s, .int .i64 x.d] 24) = W0 at *
    rintro e w2 ⟨rfl, b2⟩
    have ⟨h1, h2, h3⟩ := HE0.out _ (B0.out.trans (b2.mono B0.out.size))
    have HF := Lib.hid (And.intro h1 (And.intro h2 h3))
    clear h1 h2 h3 b2
    go_wp2
    go_ret3
    exact moDone HK.out HZ.out HF.out.1 HF.out.2.1 HF.out.2.2
  rw [hr] at HC
  by_cases hl : x.l ≤ 1
  · have HK : Hid (mvC n x = 0) := Lib.hid (by simp [mvC, HN1.out, calm_rest, hr, hl])
    have HZ : Hid (mvZ n x = movesP n x) := Lib.hid (by simp [mvZ, HK.out])
    have el : decide (1 < x.l) = false := by simp; omega
    clear hl hr
    go_enter Tryd.func26, Tryd.ntmps26
    go_wp2_with fail
    refine (HN.out _).mono ?_
    rintro e w1 ⟨rfl, rfl⟩
    go_wp2_with fail
    refine (HC.out _).mono ?_
    generalize w.alloc (.cells #[.int .i64 x.g0, .int .i64 x.g1, .int .i64 x.g2, .int .i64 x.g3, .int .i64 x.l, .int .i64 x.s, .int .i64 x.d] 24) = W0 at *
    rintro e w2 ⟨rfl, b2⟩
    have ⟨z0, z1, z2, z3, z4, z5, z6⟩ := (HX0.out.keep b2).cells
    have B2 := Lib.hid (B0.out.trans (b2.mono B0.out.size))
    clear y0 y1 y2 y3 y4 y5 y6 b2
    go_wp2_with fail
    refine (HM.out _).mono ?_
    rintro e w3 ⟨v, u, rfl, h1, h2, b3⟩
    have HF : Hid (OwnS w3 w.heap.size v ((movesP n x).map (·.1)) ∧ OwnT w3 w.heap.size u ((movesP n x).map (·.2)) ∧ Below w.heap.size w w3) := Lib.hid ⟨Joins.ownsRow_le h1 B2.out.size, Joins.ownsRow_le h2 B2.out.size, B2.out.trans (b3.mono B2.out.size)⟩
    clear h1 h2 b3
    go_wp2
    go_ret3
    exact moDone HK.out HZ.out HF.out.1 HF.out.2.1 HF.out.2.2
  · have HK : Hid (mvC n x = 1) := Lib.hid (by simp [mvC, HN1.out, calm_rest, hr, hl])
    have HZ : Hid (mvZ n x = []) := Lib.hid (by simp [mvZ, HK.out])
    have el : decide (1 < x.l) = true := by simp; omega
    clear hl hr
    go_enter Tryd.func26, Tryd.ntmps26
    go_wp2_with fail
    refine (HN.out _).mono ?_
    rintro e w1 ⟨rfl, rfl⟩
    go_wp2_with fail
    refine (HC.out _).mono ?_
    generalize w.alloc (.cells #[.int .i64 x.g0, .int .i64 x.g1, .int .i64 x.g2, .int .i64 x.g3, .int .i64 x.l, .int .i64 x.s, .int .i64 x.d] 24) = W0 at *
    rintro e w2 ⟨rfl, b2⟩
    have ⟨z0, z1, z2, z3, z4, z5, z6⟩ := (HX0.out.keep b2).cells
    have ⟨h1, h2, h3⟩ := HE0.out _ (B0.out.trans (b2.mono B0.out.size))
    have HF := Lib.hid (And.intro h1 (And.intro h2 h3))
    clear y0 y1 y2 y3 y4 y5 y6 h1 h2 h3 b2
    go_wp2
    go_ret3
    exact moDone HK.out HZ.out HF.out.1 HF.out.2.1 HF.out.2.2

end Go.Proofs.YtibadnfagoehmaaDoor

namespace Go.Proofs.YtibadnfagoehmaaDoor
open Go.RowKit Go.Sort

/-- A code as the sets have them: one byte of at most 127, or two. -/
def codeIn (c : Int) : Prop := 0 < c ∧ c ≤ 40000 ∧ (255 < c → c / 256 ≤ 127 ∧ c % 256 ≤ 127) ∧ (c ≤ 255 → c ≤ 127)

set_option maxHeartbeats 1000000 in
set_option maxRecDepth 100000 in
theorem spec_l06Bytes (c side : Int) (w : World) (hc : codeIn c) (hs : side = 0 ∨ side = 128) : Calls Tryd.prog 108 #[.int .i64 c, .int .i64 side] w fun e w' => e = .returned (.string (codeT c side)) ∧ Below w.heap.size w w' := by
  obtain ⟨hc0, hc, hh, hl⟩ := hc
  by_cases h : 255 < c
  · have HE : Hid (codeT c side = bs [c / 256 + side, c % 256 + side]) := Lib.hid (by rw [codeT, if_pos h])
    have ⟨h1, h2⟩ := hh h
    have m0 : 0 ≤ c % 256 := by omega
    have d0 : 0 ≤ c / 256 := by omega
    have hcv := conv_lit2 w (c / 256 + side) (c % 256 + side)
    have HB := Lib.hid (below_one w (.cells #[.int .u8 (c / 256 + side), .int .u8 (c % 256 + side)] 5))
    clear hh hl
    generalize hmm : c % 256 = m at *
    generalize hdd : c / 256 = d at *
    rcases hs with rfl | rfl
    · simp only [Int.add_zero] at hcv HE HB
      go_enter Tryd.func108, Tryd.ntmps108
      go_wp2
      go_ret
      exact ⟨ret_str HE.out.symm, HB.out⟩
    · go_enter Tryd.func108, Tryd.ntmps108
      go_wp2
      go_ret
      exact ⟨ret_str HE.out.symm, HB.out⟩
  · have HE : Hid (codeT c side = bs [c + side]) := Lib.hid (by rw [codeT, if_neg h])
    have h7 := hl (by omega)
    have hcv := conv_lit1 w (c + side)
    have HB := Lib.hid (below_one w (.cells #[.int .u8 (c + side)] 5))
    clear hh hl
    rcases hs with rfl | rfl
    · simp only [Int.add_zero] at hcv HE HB
      go_enter Tryd.func108, Tryd.ntmps108
      go_wp2
      go_ret
      exact ⟨ret_str HE.out.symm, HB.out⟩
    · go_enter Tryd.func108, Tryd.ntmps108
      go_wp2
      go_ret
      exact ⟨ret_str HE.out.symm, HB.out⟩

/-- Every code of a character is such a code. -/
theorem codeS_in (q r : Int) (h : 0 < codeS (setSpans q) r) : codeIn (codeS (setSpans q) r) := by
  have hsp : ∀ s ∈ setSpans q, 0 < s.1 ∧ s.1 + s.2.2 - 1 ≤ 40000 ∧ ((s.1 + s.2.2 - 1 ≤ 127) ∨ (255 < s.1 ∧ s.1 / 256 = (s.1 + s.2.2 - 1) / 256 ∧ s.1 / 256 ≤ 127 ∧ s.1 % 256 + s.2.2 - 1 ≤ 127)) := by
    unfold setSpans
    repeat' split
    all_goals (intro s hs; simp only [List.mem_cons, List.not_mem_nil, or_false] at hs; rcases hs with rfl | rfl | rfl | rfl <;> decide)
  revert h
  generalize setSpans q = sp at *
  induction sp with
  | nil => intro h; simp [codeS] at h
  | cons s t ih =>
    intro h
    unfold codeS at h ⊢
    split
    · next hb =>
      rw [if_pos hb] at h
      have ⟨i0, i1⟩ := inB_true hb
      have ⟨a, b, c⟩ := hsp s (by simp)
      refine ⟨h, by omega, fun h2 => ?_, fun h2 => ?_⟩
      · rcases c with c | ⟨c1, c2, c3, c4⟩ <;> omega
      · rcases c with c | ⟨c1, c2, c3, c4⟩ <;> omega
    · next hb =>
      rw [if_neg hb] at h
      exact ih (fun x hx => hsp x (List.mem_cons_of_mem _ hx)) h
theorem codeOf_in {q r : Int} (h : 0 < codeOf q r) : codeIn (codeOf q r) := by
  unfold codeOf at h ⊢
  split
  · next hq => rw [if_pos hq] at h; exact codeS_in q r h
  · next hq => rw [if_neg hq] at h; omega

end Go.Proofs.YtibadnfagoehmaaDoor

namespace Go.Proofs.YtibadnfagoehmaaDoor
open Go.RowKit Go.Sort

/-- The forms so far: what stood in the world W stands as it was. -/
def FmIn (W : World) (fs : List ByteArray) (v : Value) (u : World) : Prop := OwnS u W.heap.size v fs ∧ Below W.heap.size W u
theorem FmIn.below {W : World} {v : Value} {fs : List ByteArray} {u u' : World} (h : FmIn W fs v u) (k : Below u.heap.size u u') : FmIn W fs v u' := ⟨rowAll h.1 k, h.2.trans (k.mono h.2.size)⟩
theorem FmIn.app {W : World} {v v' : Value} {fs fs' : List ByteArray} {u u' : World} (h : FmIn W fs v u) (o : OwnS u' W.heap.size v' fs') (k : u.grownBy u' v.ownBlock) : FmIn W fs' v' u' := ⟨o, h.2.grown k h.2.size fun r hr => (World.ownsRow.lt h.1 r hr).1⟩
def FmRet (fs : List ByteArray) (w : World) (e : Ending) (w' : World) : Prop := ∃ v, e = .returned v ∧ OwnS w' w.heap.size v fs ∧ Below w.heap.size w w'
theorem codeOf_pos {q r : Int} (h : 0 < q) : codeOf q r = codeS (setSpans q) r := by rw [codeOf, if_pos h]
theorem codeOf_zero {q r : Int} (h : ¬ 0 < q) : codeOf q r = 0 := by rw [codeOf, if_neg h]

set_option maxHeartbeats 4000000 in
set_option maxRecDepth 100000 in
theorem spec_forms_codes (n : Int) (x : St) (r : Int) (w : World) (ho : ownR r = false) (hx : calmB x = true) : Calls Tryd.prog 72 #[.int .i64 n, stV x, .int .i64 r] w (FmRet (formL x r ++ formR n x r ++ formS n x r) w) := by
  have HP := Lib.hid (fun w => spec_l05Profile n w)
  have hl := (calm_un hx).2.1
  have HG := Lib.hid (fun w => spec_l04Get x x.l w (by omega) (by omega))
  have HF := Lib.hid (fun q w => spec_l02For q r w)
  have HBy := Lib.hid (fun c s w h1 h2 => spec_l06Bytes c s w h1 h2)
  have HIn := Lib.hid (fun c w => spec_l01In c 33 126 w)
  have B0 := Lib.hid (below_one w (.cells #[.int .i64 x.g0, .int .i64 x.g1, .int .i64 x.g2, .int .i64 x.g3, .int .i64 x.l, .int .i64 x.s, .int .i64 x.d] 24))
  have HX0 := Lib.hid (StAt.new w x)
  have e33 : decide (r < 33) = false := by simp [ownR] at ho; simp; omega
  have e127 : (r == 127) = false := by simp [ownR] at ho; simp; omega
  unfold PrDone prV at HP
  unfold stV at HG ⊢
  clear ho hl hx
  go_enter Tryd.func72, Tryd.ntmps72
  go_wp2_with fail
  refine (HP.out _).mono ?_
  generalize w.alloc (.cells #[.int .i64 x.g0, .int .i64 x.g1, .int .i64 x.g2, .int .i64 x.g3, .int .i64 x.l, .int .i64 x.s, .int .i64 x.d] 24) = W0 at *
  rintro e w1 ⟨v, rfl, hS, b1⟩
  obtain ⟨vg, vc, rfl⟩ := hS.shape
  have bb := below_one w1 (.cells #[.string (prName n), .string (prHead n), (.slice (some ⟨vg, 0, none⟩) 4 vc), .bool (prRight n), .bool (prShifts n), .bool (prSingle n), .bool (prReset n), .bool (prClear n)] 87)
  have B1 := Lib.hid ((B0.out.trans (b1.mono B0.out.size)).trans (bb.mono (Nat.le_trans B0.out.size b1.size)))
  have HX := Lib.hid ((HX0.out.keep b1).keep bb)
  have HA : Hid (PrAt (w1.alloc (.cells #[.string (prName n), .string (prHead n), (.slice (some ⟨vg, 0, none⟩) 4 vc), .bool (prRight n), .bool (prShifts n), .bool (prSingle n), .bool (prReset n), .bool (prClear n)] 87)) w1.heap.size n (.slice (some ⟨vg, 0, none⟩) 4 vc)) := Lib.hid (heap_alloc_new _ _)
  have HI : Hid (FmIn (w1.alloc (.cells #[.string (prName n), .string (prHead n), (.slice (some ⟨vg, 0, none⟩) 4 vc), .bool (prRight n), .bool (prShifts n), .bool (prSingle n), .bool (prReset n), .bool (prClear n)] 87)) [] (.slice (some ⟨w1.heap.size + 1, 0, none⟩) 0 0) ((w1.alloc (.cells #[.string (prName n), .string (prHead n), (.slice (some ⟨vg, 0, none⟩) 4 vc), .bool (prRight n), .bool (prShifts n), .bool (prSingle n), .bool (prReset n), .bool (prClear n)] 87)).alloc (.cells #[] 9))) := Lib.hid (by
    have h1 := OwnS.empty (w1.alloc (.cells #[.string (prName n), .string (prHead n), (.slice (some ⟨vg, 0, none⟩) 4 vc), .bool (prRight n), .bool (prShifts n), .bool (prSingle n), .bool (prReset n), .bool (prClear n)] 87)) _ (Nat.le_refl _)
    have e1 : (w1.alloc (.cells #[.string (prName n), .string (prHead n), (.slice (some ⟨vg, 0, none⟩) 4 vc), .bool (prRight n), .bool (prShifts n), .bool (prSingle n), .bool (prReset n), .bool (prClear n)] 87)).heap.size = w1.heap.size + 1 := by simp
    exact ⟨by rw [e1] at h1 ⊢; exact h1, below_one _ _⟩)
  have HXc := Lib.hid (fun u (h : Below (w1.alloc (.cells #[.string (prName n), .string (prHead n), (.slice (some ⟨vg, 0, none⟩) 4 vc), .bool (prRight n), .bool (prShifts n), .bool (prSingle n), .bool (prReset n), .bool (prClear n)] 87)).heap.size (w1.alloc (.cells #[.string (prName n), .string (prHead n), (.slice (some ⟨vg, 0, none⟩) 4 vc), .bool (prRight n), .bool (prShifts n), .bool (prSingle n), .bool (prReset n), .bool (prClear n)] 87)) u) => (HX.out.keep h).cells)
  have HAc := Lib.hid (fun u (h : Below (w1.alloc (.cells #[.string (prName n), .string (prHead n), (.slice (some ⟨vg, 0, none⟩) 4 vc), .bool (prRight n), .bool (prShifts n), .bool (prSingle n), .bool (prReset n), .bool (prClear n)] 87)).heap.size (w1.alloc (.cells #[.string (prName n), .string (prHead n), (.slice (some ⟨vg, 0, none⟩) 4 vc), .bool (prRight n), .bool (prShifts n), .bool (prSingle n), .bool (prReset n), .bool (prClear n)] 87)) u) => (HA.out.keep h).cells)
  have ⟨y0, y1, y2, y3, y4, y5, y6⟩ := HXc.out _ HI.out.2
  clear hS b1 bb HX0 B0
  go_wp2_with fail
  refine (HG.out _).mono ?_
  have hgW : w1.heap.size < (w1.alloc (.cells #[.string (prName n), .string (prHead n), (.slice (some ⟨vg, 0, none⟩) 4 vc), .bool (prRight n), .bool (prShifts n), .bool (prSingle n), .bool (prReset n), .bool (prClear n)] 87)).heap.size := by simp
  generalize (w1.alloc (.cells #[.string (prName n), .string (prHead n), (.slice (some ⟨vg, 0, none⟩) 4 vc), .bool (prRight n), .bool (prShifts n), .bool (prSingle n), .bool (prReset n), .bool (prClear n)] 87)).alloc (.cells #[] 9) = W2 at *
  have hbW : w.heap.size ≤ (w1.alloc (.cells #[.string (prName n), .string (prHead n), (.slice (some ⟨vg, 0, none⟩) 4 vc), .bool (prRight n), .bool (prShifts n), .bool (prSingle n), .bool (prReset n), .bool (prClear n)] 87)).heap.size := B1.out.size
  generalize w1.alloc (.cells #[.string (prName n), .string (prHead n), (.slice (some ⟨vg, 0, none⟩) 4 vc), .bool (prRight n), .bool (prShifts n), .bool (prSingle n), .bool (prReset n), .bool (prClear n)] 87) = W at *
  generalize w1.heap.size = g at *
  clear y0 y1 y2 y3 y4 y5 y6
  rintro e w3 ⟨rfl, b3⟩
  have HI3 := Lib.hid (HI.out.below b3)
  clear b3 HI
  go_upto_if 71 with fail
  go_cut [8] (fun v wx => FmIn W (formL x r) v wx)
  case first =>
    have hln : ([] : List ByteArray).length ≤ 1048576 := by decide
    by_cases hg : 0 < stGet x x.l
    · have eg : decide (0 < stGet x x.l) = true := by simp [hg]
      have hcs := codeS_pos (stGet x x.l) r
      have hin0 := codeS_in (stGet x x.l) r
      have HFm : Hid (formL x r = if 127 < codeS (setSpans (stGet x x.l)) r ∨ inB (codeS (setSpans (stGet x x.l)) r) 33 126 = true then [codeT (codeS (setSpans (stGet x x.l)) r) 0] else []) := Lib.hid (by rw [formL, codeOf_pos hg])
      go_wp2_with fail
      refine (HF.out _ _).mono ?_
      rintro e w4 ⟨rfl, b4⟩
      have HI4 := Lib.hid (HI3.out.below b4)
      clear hg b4 HI3
      generalize codeS (setSpans (stGet x x.l)) r = c at *
      by_cases hc : 0 < c
      · have hin := hin0 hc
        have ec : decide (0 < c) = true := by simp [hc]
        by_cases h7 : 127 < c
        · have e7 : decide (127 < c) = true := by simp [h7]
          have HY : Hid (formL x r = [] ++ [codeT c 0]) := Lib.hid (by rw [HFm.out, if_pos (.inl h7)]; rfl)
          clear hc h7 hcs hin0 HFm
          go_wp2_with fail
          refine (HBy.out c 0 _ hin (.inl rfl)).mono ?_
          rintro e w5 ⟨rfl, b5⟩
          generalize hft : codeT c 0 = ft at *
          have HFt := Lib.hid hft
          clear hft
          have HI5 := Lib.hid ((HI4.out.below b5).below (below_one w5 (.cells #[.string ft] 9)))
          have hW5 : W.heap.size ≤ w5.heap.size := (HI4.out.2.trans (b5.mono HI4.out.2.size)).size
          clear b5 HI4
          go_wp2_with (at_builtin; refine app_str _ rfl _ _ rfl W.heap.size _ _ rfl HI5.out.1 w5.heap.size 1 ft rfl (heap_alloc_new _ _) hln (by simp; omega) ?_)
          intro g2 cap2 w6 o6 g6 or6 lt6
          have HI6 := HI5.out.app o6 g6
          go_wp2_with fail
          go_meet
          exact (show FmIn W (formL x r) _ _ from by rw [HY.out]; first | exact HI6 | (rw [List.append_assoc]; exact HI6))
        · have e7 : decide (127 < c) = false := by simp [h7]
          cases hb : inB c 33 126
          · have HY : Hid (formL x r = []) := Lib.hid (by rw [HFm.out, if_neg (by rw [hb]; simp [h7])])
            clear hc h7 hcs hin0 HFm
            go_wp2_with fail
            refine (HIn.out c _).mono ?_
            rintro e w5 ⟨rfl, rfl⟩
            rw [hb]
            go_wp2_with fail
            go_meet
            exact (show FmIn W (formL x r) _ _ from by rw [HY.out]; exact HI4.out)
          · have HY : Hid (formL x r = [] ++ [codeT c 0]) := Lib.hid (by rw [HFm.out, if_pos (.inr hb)]; rfl)
            clear hc h7 hcs hin0 HFm
            go_wp2_with fail
            refine (HIn.out c _).mono ?_
            rintro e w5 ⟨rfl, rfl⟩
            rw [hb]
            go_wp2_with fail
            refine (HBy.out c 0 _ hin (.inl rfl)).mono ?_
            rintro e w5 ⟨rfl, b5⟩
            generalize hft : codeT c 0 = ft at *
            have HFt := Lib.hid hft
            clear hft
            have HI5 := Lib.hid ((HI4.out.below b5).below (below_one w5 (.cells #[.string ft] 9)))
            have hW5 : W.heap.size ≤ w5.heap.size := (HI4.out.2.trans (b5.mono HI4.out.2.size)).size
            clear b5 HI4
            go_wp2_with (at_builtin; refine app_str _ rfl _ _ rfl W.heap.size _ _ rfl HI5.out.1 w5.heap.size 1 ft rfl (heap_alloc_new _ _) hln (by simp; omega) ?_)
            intro g2 cap2 w6 o6 g6 or6 lt6
            have HI6 := HI5.out.app o6 g6
            go_wp2_with fail
            go_meet
            exact (show FmIn W (formL x r) _ _ from by rw [HY.out]; first | exact HI6 | (rw [List.append_assoc]; exact HI6))
      · have ec : decide (0 < c) = false := by simp [hc]
        have HY : Hid (formL x r = []) := Lib.hid (by rw [HFm.out, if_neg (by simp [inB]; omega)])
        clear hc hcs hin0 HFm
        go_wp2_with fail
        go_meet
        exact (show FmIn W (formL x r) _ _ from by rw [HY.out]; exact HI4.out)
    · have eg : decide (0 < stGet x x.l) = false := by simp [hg]
      have HY : Hid (formL x r = []) := Lib.hid (by rw [formL, codeOf_zero hg, if_neg (by decide)])
      go_wp2_with fail
      go_meet
      exact (show FmIn W (formL x r) _ _ from by rw [HY.out]; exact HI3.out)
  case rest =>
  have HI1 := Lib.hid hcut
  have hlF : (formL x r).length ≤ 1 := by unfold formL; split <;> simp
  clear hcut HI3
  go_upto_region 13 with fail
  go_cut [96] (fun v wx => v = .bool (decide (0 < x.g1) && prRight n) ∧ FmIn W (formL x r) u8 wx)
  case first =>
    have ⟨y0, y1, y2, y3, y4, y5, y6⟩ := HXc.out _ HI1.out.2
    have ⟨p2, p3, p4, p5, p6, p7⟩ := HAc.out _ HI1.out.2
    by_cases hg : 0 < x.g1
    · have eg : decide (0 < x.g1) = true := by simp [hg]
      go_wp2_with fail
      go_meet
      exact ⟨by rw [eg]; rfl, HI1.out⟩
    · have eg : decide (0 < x.g1) = false := by simp [hg]
      go_wp2_with fail
      go_meet
      exact ⟨by rw [eg]; rfl, HI1.out⟩
  case rest =>
  obtain ⟨rfl, hI1⟩ := hcut
  have HI3 := Lib.hid hI1
  clear hI1 HI1
  go_upto_if 96 with fail
  go_cut [8] (fun v wx => FmIn W ((formL x r) ++ formR n x r) v wx)
  case first =>
    have hln : (formL x r).length ≤ 1048576 := by omega
    cases hb : (decide (0 < x.g1) && prRight n)
    · have HY : Hid ((formL x r) ++ formR n x r = (formL x r)) := Lib.hid (by
        have : formR n x r = [] := by
          unfold formR
          rw [if_neg]
          intro h
          rcases Bool.and_eq_false_iff.1 hb with h1 | h1
          · have h2 : ¬ 0 < x.g1 := by simpa using h1
            rw [codeOf_zero h2] at h
            omega
          · rw [h1] at h
            exact absurd h.1 (by decide)
        rw [this, List.append_nil])
      clear hb
      go_wp2_with fail
      go_meet
      exact (show FmIn W ((formL x r) ++ formR n x r) _ _ from by rw [HY.out]; exact HI3.out)
    · have ⟨hg, hr⟩ := (Bool.and_eq_true _ _).mp hb
      have hg := of_decide_eq_true hg
      have hcs := codeS_pos x.g1 r
      have hin0 := codeS_in x.g1 r
      have HFm : Hid (formR n x r = if 0 < codeS (setSpans x.g1) r then [codeT (codeS (setSpans x.g1) r) 128] else []) := Lib.hid (by
        unfold formR
        rw [codeOf_pos hg, hr]
        simp only [true_and])
      clear hb hg hr
      have ⟨y0, y1, y2, y3, y4, y5, y6⟩ := HXc.out _ HI3.out.2
      go_wp2_with fail
      refine (HF.out _ _).mono ?_
      rintro e w4 ⟨rfl, b4⟩
      have HI4 := Lib.hid (HI3.out.below b4)
      clear b4 HI3 y0 y1 y2 y3 y4 y5 y6
      generalize codeS (setSpans x.g1) r = c at *
      by_cases hc : 0 < c
      · have hin := hin0 hc
        have ec : decide (0 < c) = true := by simp [hc]
        have HY : Hid ((formL x r) ++ formR n x r = (formL x r) ++ [codeT c 128]) := Lib.hid (by rw [HFm.out, if_pos hc])
        clear hc hcs hin0 HFm
        go_wp2_with fail
        refine (HBy.out c 128 _ hin (.inr rfl)).mono ?_
        rintro e w5 ⟨rfl, b5⟩
        generalize hft : codeT c 128 = ft at *
        have HFt := Lib.hid hft
        clear hft
        have HI5 := Lib.hid ((HI4.out.below b5).below (below_one w5 (.cells #[.string ft] 9)))
        have hW5 : W.heap.size ≤ w5.heap.size := (HI4.out.2.trans (b5.mono HI4.out.2.size)).size
        clear b5 HI4
        go_wp2_with (at_builtin; refine app_str _ rfl _ _ rfl W.heap.size _ _ rfl HI5.out.1 w5.heap.size 1 ft rfl (heap_alloc_new _ _) hln (by simp; omega) ?_)
        intro g2 cap2 w6 o6 g6 or6 lt6
        have HI6 := HI5.out.app o6 g6
        go_wp2_with fail
        go_meet
        exact (show FmIn W ((formL x r) ++ formR n x r) _ _ from by rw [HY.out]; first | exact HI6 | (rw [List.append_assoc]; exact HI6))
      · have ec : decide (0 < c) = false := by simp [hc]
        have HY : Hid ((formL x r) ++ formR n x r = (formL x r)) := Lib.hid (by rw [HFm.out, if_neg hc, List.append_nil])
        clear hc hcs hin0 HFm
        go_wp2_with fail
        go_meet
        exact (show FmIn W ((formL x r) ++ formR n x r) _ _ from by rw [HY.out]; exact HI4.out)
  case rest =>
  have HI1 := Lib.hid hcut
  clear hcut HI3
  go_upto_region 17 with fail
  go_cut [114] (fun v wx => v = .bool (decide (0 < x.g2) && prSingle n) ∧ FmIn W (formL x r ++ formR n x r) u8 wx)
  case first =>
    have ⟨y0, y1, y2, y3, y4, y5, y6⟩ := HXc.out _ HI1.out.2
    have ⟨p2, p3, p4, p5, p6, p7⟩ := HAc.out _ HI1.out.2
    by_cases hg : 0 < x.g2
    · have eg : decide (0 < x.g2) = true := by simp [hg]
      go_wp2_with fail
      go_meet
      exact ⟨by rw [eg]; rfl, HI1.out⟩
    · have eg : decide (0 < x.g2) = false := by simp [hg]
      go_wp2_with fail
      go_meet
      exact ⟨by rw [eg]; rfl, HI1.out⟩
  case rest =>
  obtain ⟨rfl, hI1⟩ := hcut
  have HI3 := Lib.hid hI1
  clear hI1 HI1
  go_upto_if 114 with fail
  go_cut [8] (fun v wx => FmIn W ((formL x r ++ formR n x r) ++ formS n x r) v wx)
  case first =>
    have hln : (formL x r ++ formR n x r).length ≤ 1048576 := by rw [List.length_append]; have : (formR n x r).length ≤ 1 := by { unfold formR; split <;> simp }; omega
    cases hb : (decide (0 < x.g2) && prSingle n)
    · have HY : Hid ((formL x r ++ formR n x r) ++ formS n x r = (formL x r ++ formR n x r)) := Lib.hid (by
        have : formS n x r = [] := by
          unfold formS
          rw [if_neg]
          intro h
          rcases Bool.and_eq_false_iff.1 hb with h1 | h1
          · have h2 : ¬ 0 < x.g2 := by simpa using h1
            rw [codeOf_zero h2] at h
            omega
          · rw [h1] at h
            exact absurd h.1 (by decide)
        rw [this, List.append_nil])
      clear hb
      go_wp2_with fail
      go_meet
      exact (show FmIn W ((formL x r ++ formR n x r) ++ formS n x r) _ _ from by rw [HY.out]; exact HI3.out)
    · have ⟨hg, hr⟩ := (Bool.and_eq_true _ _).mp hb
      have hg := of_decide_eq_true hg
      have hcs := codeS_pos x.g2 r
      have hin0 := codeS_in x.g2 r
      have HFm : Hid (formS n x r = if 0 < codeS (setSpans x.g2) r ∧ codeS (setSpans x.g2) r ≠ 127 then [(⟨#[27, 78]⟩ : ByteArray) ++ codeT (codeS (setSpans x.g2) r) 0] else []) := Lib.hid (by
        unfold formS
        rw [codeOf_pos hg, hr]
        simp only [true_and])
      clear hb hg hr
      have ⟨y0, y1, y2, y3, y4, y5, y6⟩ := HXc.out _ HI3.out.2
      go_wp2_with fail
      refine (HF.out _ _).mono ?_
      rintro e w4 ⟨rfl, b4⟩
      have HI4 := Lib.hid (HI3.out.below b4)
      clear b4 HI3 y0 y1 y2 y3 y4 y5 y6
      generalize codeS (setSpans x.g2) r = c at *
      by_cases hc : 0 < c
      · have hin := hin0 hc
        have ec : decide (0 < c) = true := by simp [hc]
        by_cases h7 : c = 127
        · have e7 : (c != 127) = false := by simp [h7]
          have HY : Hid ((formL x r ++ formR n x r) ++ formS n x r = (formL x r ++ formR n x r)) := Lib.hid (by rw [HFm.out, if_neg (fun h => h.2 h7), List.append_nil])
          clear hc h7 hcs hin0 hin HFm
          go_wp2_with fail
          go_meet
          exact (show FmIn W ((formL x r ++ formR n x r) ++ formS n x r) _ _ from by rw [HY.out]; exact HI4.out)
        · have e7 : (c != 127) = true := by simp [h7]
          have HY : Hid ((formL x r ++ formR n x r) ++ formS n x r = (formL x r ++ formR n x r) ++ [(⟨#[27, 78]⟩ : ByteArray) ++ codeT c 0]) := Lib.hid (by rw [HFm.out, if_pos ⟨hc, h7⟩])
          clear hc h7 hcs hin0 HFm
          go_wp2_with fail
          refine (HBy.out c 0 _ hin (.inl rfl)).mono ?_
          rintro e w5 ⟨rfl, b5⟩
          have hcat : ∀ w, (Op.stringOp .add ⟨#[27, 78]⟩ (codeT c 0)).run Tryd.prog w = .ok (.string ((⟨#[27, 78]⟩ : ByteArray) ++ codeT c 0)) w := cat_esc _ _ (by have := code_size c 0; show 2 + (codeT c 0).size ≤ 1048576; omega)
          generalize codeT c 0 = cT at *
          generalize hft : (⟨#[27, 78]⟩ : ByteArray) ++ cT = ft at *
          have HFt := Lib.hid hft
          clear hft
          have HI5 := Lib.hid ((HI4.out.below b5).below (below_one w5 (.cells #[.string ft] 9)))
          have hW5 : W.heap.size ≤ w5.heap.size := (HI4.out.2.trans (b5.mono HI4.out.2.size)).size
          clear b5 HI4
          go_wp2_with (at_builtin; refine app_str _ rfl _ _ rfl W.heap.size _ _ rfl HI5.out.1 w5.heap.size 1 ft rfl (heap_alloc_new _ _) hln (by simp; omega) ?_)
          intro g2 cap2 w6 o6 g6 or6 lt6
          have HI6 := HI5.out.app o6 g6
          go_wp2_with fail
          go_meet
          exact (show FmIn W ((formL x r ++ formR n x r) ++ formS n x r) _ _ from by rw [HY.out]; first | exact HI6 | (rw [List.append_assoc]; exact HI6))
      · have ec : decide (0 < c) = false := by simp [hc]
        have HY : Hid ((formL x r ++ formR n x r) ++ formS n x r = (formL x r ++ formR n x r)) := Lib.hid (by rw [HFm.out, if_neg (fun h => hc h.1), List.append_nil])
        clear hc hcs hin0 HFm
        go_wp2_with fail
        go_meet
        exact (show FmIn W ((formL x r ++ formR n x r) ++ formS n x r) _ _ from by rw [HY.out]; exact HI4.out)
  case rest =>
  have HI1 := Lib.hid hcut
  clear hcut HI3
  go_wp2
  go_ret
  exact ⟨_, rfl, Joins.ownsRow_le HI1.out.1 hbW, B1.out.trans (HI1.out.2.mono hbW)⟩

/-- The bytes that are characters by themselves. -/
theorem ownF_no {n r : Int} {x : St} (h : (r = 32 ∧ wideB x x.l = true) ∨ r = 14 ∨ r = 15 ∨ r = 27 ∨ (r = 10 ∧ restB n x = false)) : ownF n x r = [] := by
  unfold ownF
  rcases h with ⟨rfl, h⟩ | rfl | rfl | rfl | ⟨rfl, h⟩
  · rw [h]; rfl
  · simp
  · simp
  · simp
  · rw [h]; simp
theorem ownF_yes {n r : Int} {x : St} (h0 : 0 ≤ r) (h32 : r = 32 → wideB x x.l = false) (h14 : r ≠ 14) (h15 : r ≠ 15) (h27 : r ≠ 27) (h10 : r = 10 → restB n x = true) : ownF n x r = [bs [r]] := by
  unfold ownF
  rw [if_pos]
  by_cases a : r = 32
  · simp [a, h32 a]
  · by_cases b : r = 10
    · simp [b, h10 b]
    · simp [a, b, h14, h15, h27, h0]
set_option maxHeartbeats 4000000 in
set_option maxRecDepth 100000 in
theorem spec_forms_own (n : Int) (x : St) (r : Int) (w : World) (ho : ownR r = true) (h0 : 0 ≤ r) (hx : calmB x = true) : Calls Tryd.prog 72 #[.int .i64 n, stV x, .int .i64 r] w (FmRet (ownF n x r) w) := by
  have HP := Lib.hid (fun w => spec_l05Profile n w)
  have hl := (calm_un hx).2.1
  have HWd := Lib.hid (fun w => spec_l04Wide x x.l w (by omega) (by omega))
  have HR := Lib.hid (fun v w => spec_l05Rest n v x w)
  have B0 := Lib.hid (below_one w (.cells #[.int .i64 x.g0, .int .i64 x.g1, .int .i64 x.g2, .int .i64 x.g3, .int .i64 x.l, .int .i64 x.s, .int .i64 x.d] 24))
  have HX0 := Lib.hid (StAt.new w x)
  have ho' : r < 33 ∨ r = 127 := by simpa [ownR] using ho
  have h127 : r ≤ 127 := by omega
  have e33 : (decide (r < 33) || (r == 127)) = true := by rcases ho' with h | h <;> simp [h]
  have hown : ∃ q, ownF n x r = q := ⟨_, rfl⟩
  unfold PrDone prV at HP
  unfold prV at HR
  unfold stV at HWd HR ⊢
  clear hl hx ho
  have KEY : ∀ (q : Bool) (fs : List ByteArray), fs = (if q = true then [bs [r]] else []) → True := fun _ _ _ => trivial
  clear KEY hown
  go_enter Tryd.func72, Tryd.ntmps72
  go_wp2_with fail
  refine (HP.out _).mono ?_
  generalize w.alloc (.cells #[.int .i64 x.g0, .int .i64 x.g1, .int .i64 x.g2, .int .i64 x.g3, .int .i64 x.l, .int .i64 x.s, .int .i64 x.d] 24) = W0 at *
  rintro e w1 ⟨v, rfl, hS, b1⟩
  obtain ⟨vg, vc, rfl⟩ := hS.shape
  have bb := below_one w1 (.cells #[.string (prName n), .string (prHead n), (.slice (some ⟨vg, 0, none⟩) 4 vc), .bool (prRight n), .bool (prShifts n), .bool (prSingle n), .bool (prReset n), .bool (prClear n)] 87)
  have B1 := Lib.hid ((B0.out.trans (b1.mono B0.out.size)).trans (bb.mono (Nat.le_trans B0.out.size b1.size)))
  have HX := Lib.hid ((HX0.out.keep b1).keep bb)
  have HA : Hid (PrAt (w1.alloc (.cells #[.string (prName n), .string (prHead n), (.slice (some ⟨vg, 0, none⟩) 4 vc), .bool (prRight n), .bool (prShifts n), .bool (prSingle n), .bool (prReset n), .bool (prClear n)] 87)) w1.heap.size n (.slice (some ⟨vg, 0, none⟩) 4 vc)) := Lib.hid (heap_alloc_new _ _)
  have HI : Hid (FmIn (w1.alloc (.cells #[.string (prName n), .string (prHead n), (.slice (some ⟨vg, 0, none⟩) 4 vc), .bool (prRight n), .bool (prShifts n), .bool (prSingle n), .bool (prReset n), .bool (prClear n)] 87)) [] (.slice (some ⟨w1.heap.size + 1, 0, none⟩) 0 0) ((w1.alloc (.cells #[.string (prName n), .string (prHead n), (.slice (some ⟨vg, 0, none⟩) 4 vc), .bool (prRight n), .bool (prShifts n), .bool (prSingle n), .bool (prReset n), .bool (prClear n)] 87)).alloc (.cells #[] 9))) := Lib.hid (by
    have h1 := OwnS.empty (w1.alloc (.cells #[.string (prName n), .string (prHead n), (.slice (some ⟨vg, 0, none⟩) 4 vc), .bool (prRight n), .bool (prShifts n), .bool (prSingle n), .bool (prReset n), .bool (prClear n)] 87)) _ (Nat.le_refl _)
    have e1 : (w1.alloc (.cells #[.string (prName n), .string (prHead n), (.slice (some ⟨vg, 0, none⟩) 4 vc), .bool (prRight n), .bool (prShifts n), .bool (prSingle n), .bool (prReset n), .bool (prClear n)] 87)).heap.size = w1.heap.size + 1 := by simp
    exact ⟨by rw [e1] at h1 ⊢; exact h1, below_one _ _⟩)
  have HXc := Lib.hid (fun u (h : Below (w1.alloc (.cells #[.string (prName n), .string (prHead n), (.slice (some ⟨vg, 0, none⟩) 4 vc), .bool (prRight n), .bool (prShifts n), .bool (prSingle n), .bool (prReset n), .bool (prClear n)] 87)).heap.size (w1.alloc (.cells #[.string (prName n), .string (prHead n), (.slice (some ⟨vg, 0, none⟩) 4 vc), .bool (prRight n), .bool (prShifts n), .bool (prSingle n), .bool (prReset n), .bool (prClear n)] 87)) u) => (HX.out.keep h).cells)
  have HAr := Lib.hid (fun u (h : Below (w1.alloc (.cells #[.string (prName n), .string (prHead n), (.slice (some ⟨vg, 0, none⟩) 4 vc), .bool (prRight n), .bool (prShifts n), .bool (prSingle n), .bool (prReset n), .bool (prClear n)] 87)).heap.size (w1.alloc (.cells #[.string (prName n), .string (prHead n), (.slice (some ⟨vg, 0, none⟩) 4 vc), .bool (prRight n), .bool (prShifts n), .bool (prSingle n), .bool (prReset n), .bool (prClear n)] 87)) u) => row8_cells (HA.out.keep h))
  clear hS b1 bb HX0 B0
  go_upto_region 3 with fail
  have hgW : w1.heap.size < (w1.alloc (.cells #[.string (prName n), .string (prHead n), (.slice (some ⟨vg, 0, none⟩) 4 vc), .bool (prRight n), .bool (prShifts n), .bool (prSingle n), .bool (prReset n), .bool (prClear n)] 87)).heap.size := by simp
  generalize (w1.alloc (.cells #[.string (prName n), .string (prHead n), (.slice (some ⟨vg, 0, none⟩) 4 vc), .bool (prRight n), .bool (prShifts n), .bool (prSingle n), .bool (prReset n), .bool (prClear n)] 87)).alloc (.cells #[] 9) = W2 at *
  have hbW : w.heap.size ≤ (w1.alloc (.cells #[.string (prName n), .string (prHead n), (.slice (some ⟨vg, 0, none⟩) 4 vc), .bool (prRight n), .bool (prShifts n), .bool (prSingle n), .bool (prReset n), .bool (prClear n)] 87)).heap.size := B1.out.size
  generalize w1.alloc (.cells #[.string (prName n), .string (prHead n), (.slice (some ⟨vg, 0, none⟩) 4 vc), .bool (prRight n), .bool (prShifts n), .bool (prSingle n), .bool (prReset n), .bool (prClear n)] 87) = W at *
  generalize w1.heap.size = g at *
  go_cut [22] (fun v wx => v = .bool true ∧ wx = W2)
  case first =>
    rcases ho' with h | h
    · have e1 : decide (r < 33) = true := by simp [h]
      go_wp2_with fail
      go_meet
      exact ⟨rfl, rfl⟩
    · subst h
      go_wp2_with fail
      go_meet
      exact ⟨rfl, rfl⟩
  case rest =>
  obtain ⟨rfl, rfl⟩ := hcut
  clear e33 ho'
  have ⟨y0, y1, y2, y3, y4, y5, y6⟩ := HXc.out _ HI.out.2
  by_cases h14 : r = 14
  · subst h14
    have HY : Hid (ownF n x 14 = []) := Lib.hid (ownF_no (.inr (.inl rfl)))
    go_wp2
    go_ret
    exact ⟨_, rfl, by rw [HY.out]; exact Joins.ownsRow_le HI.out.1 hbW, B1.out.trans (HI.out.2.mono hbW)⟩
  by_cases h15 : r = 15
  · subst h15
    have HY : Hid (ownF n x 15 = []) := Lib.hid (ownF_no (.inr (.inr (.inl rfl))))
    go_wp2
    go_ret
    exact ⟨_, rfl, by rw [HY.out]; exact Joins.ownsRow_le HI.out.1 hbW, B1.out.trans (HI.out.2.mono hbW)⟩
  by_cases h27 : r = 27
  · subst h27
    have HY : Hid (ownF n x 27 = []) := Lib.hid (ownF_no (.inr (.inr (.inr (.inl rfl)))))
    go_wp2
    go_ret
    exact ⟨_, rfl, by rw [HY.out]; exact Joins.ownsRow_le HI.out.1 hbW, B1.out.trans (HI.out.2.mono hbW)⟩
  have e14 : (r != 14) = true := by simp [h14]
  have e15 : (r != 15) = true := by simp [h15]
  have e27 : (r != 27) = true := by simp [h27]
  have e0 : decide (0 ≤ r) = true := by simp [h0]
  by_cases h32 : r = 32
  · subst h32
    cases hw : wideB x x.l
    · have HY : Hid (ownF n x 32 = [bs [32]]) := Lib.hid (ownF_yes (by decide) (fun _ => hw) (by decide) (by decide) (by decide) (fun h => absurd h (by decide)))
      rw [hw] at HWd
      clear hw h14 h15 h27
      go_wp2_with fail
      refine (HWd.out _).mono ?_
      rintro e w3 ⟨rfl, b3⟩
      have HI3 := Lib.hid (HI.out.below b3)
      clear b3 HI y0 y1 y2 y3 y4 y5 y6
      have hcv := conv_lit1 w3 32
      have HI5 := Lib.hid ((HI3.out.below (below_one w3 (.cells #[.int .u8 32] 5))).below (below_one _ (.cells #[.string (bs [32])] 9)))
      have HNW : Hid ((((w3.alloc (.cells #[.int .u8 32] 5))).alloc (.cells #[.string (bs [32])] 9)).heap[w3.heap.size + 1]? = some (.cells #[.string (bs [32])] 9)) := Lib.hid (heap_alloc2_new _ _ _)
      have hW5 : W.heap.size ≤ w3.heap.size := HI3.out.2.size
      clear HI3
      go_wp2_with (at_builtin; refine app_str _ rfl _ _ rfl W.heap.size _ [] rfl HI5.out.1 (w3.heap.size + 1) 1 (bs [32]) rfl HNW.out (by decide) (by simp; omega) ?_)
      intro g2 cap2 w6 o6 g6 or6 lt6
      have HI6 := Lib.hid (HI5.out.app o6 g6)
      clear o6 g6 or6 lt6 HI5 HNW hcv
      go_wp2
      go_ret
      exact ⟨_, rfl, by rw [HY.out]; exact Joins.ownsRow_le HI6.out.1 hbW, B1.out.trans (HI6.out.2.mono hbW)⟩
    · have HY : Hid (ownF n x 32 = []) := Lib.hid (ownF_no (.inl ⟨rfl, hw⟩))
      rw [hw] at HWd
      clear hw h14 h15 h27
      go_wp2_with fail
      refine (HWd.out _).mono ?_
      rintro e w3 ⟨rfl, b3⟩
      have HI3 := Lib.hid (HI.out.below b3)
      clear b3 HI y0 y1 y2 y3 y4 y5 y6
      go_wp2
      go_ret
      exact ⟨_, rfl, by rw [HY.out]; exact Joins.ownsRow_le HI3.out.1 hbW, B1.out.trans (HI3.out.2.mono hbW)⟩
  by_cases h10 : r = 10
  · subst h10
    have ⟨p0, p1, p2, p3, p4, p5, p6, p7⟩ := HAr.out _ HI.out.2
    cases hw : restB n x
    · have HY : Hid (ownF n x 10 = []) := Lib.hid (ownF_no (.inr (.inr (.inr (.inr ⟨rfl, hw⟩)))))
      rw [hw] at HR
      clear hw h14 h15 h27
      go_wp2_with fail
      refine (HR.out _ _).mono ?_
      rintro e w3 ⟨rfl, b3⟩
      have HI3 := Lib.hid (HI.out.below b3)
      clear b3 HI y0 y1 y2 y3 y4 y5 y6 p0 p1 p2 p3 p4 p5 p6 p7
      go_wp2
      go_ret
      exact ⟨_, rfl, by rw [HY.out]; exact Joins.ownsRow_le HI3.out.1 hbW, B1.out.trans (HI3.out.2.mono hbW)⟩
    · have HY : Hid (ownF n x 10 = [bs [10]]) := Lib.hid (ownF_yes (by decide) (fun h => absurd h (by decide)) (by decide) (by decide) (by decide) (fun _ => hw))
      rw [hw] at HR
      clear hw h14 h15 h27
      go_wp2_with fail
      refine (HR.out _ _).mono ?_
      rintro e w3 ⟨rfl, b3⟩
      have HI3 := Lib.hid (HI.out.below b3)
      clear b3 HI y0 y1 y2 y3 y4 y5 y6 p0 p1 p2 p3 p4 p5 p6 p7
      have hcv := conv_lit1 w3 10
      have HI5 := Lib.hid ((HI3.out.below (below_one w3 (.cells #[.int .u8 10] 5))).below (below_one _ (.cells #[.string (bs [10])] 9)))
      have HNW : Hid ((((w3.alloc (.cells #[.int .u8 10] 5))).alloc (.cells #[.string (bs [10])] 9)).heap[w3.heap.size + 1]? = some (.cells #[.string (bs [10])] 9)) := Lib.hid (heap_alloc2_new _ _ _)
      have hW5 : W.heap.size ≤ w3.heap.size := HI3.out.2.size
      clear HI3
      go_wp2_with (at_builtin; refine app_str _ rfl _ _ rfl W.heap.size _ [] rfl HI5.out.1 (w3.heap.size + 1) 1 (bs [10]) rfl HNW.out (by decide) (by simp; omega) ?_)
      intro g2 cap2 w6 o6 g6 or6 lt6
      have HI6 := Lib.hid (HI5.out.app o6 g6)
      clear o6 g6 or6 lt6 HI5 HNW hcv
      go_wp2
      go_ret
      exact ⟨_, rfl, by rw [HY.out]; exact Joins.ownsRow_le HI6.out.1 hbW, B1.out.trans (HI6.out.2.mono hbW)⟩
  · have HY : Hid (ownF n x r = [bs [r]]) := Lib.hid (ownF_yes h0 (fun h => absurd h h32) h14 h15 h27 (fun h => absurd h h10))
    have e32 : (r == 32) = false := by simp [h32]
    have e10 : (r != 10) = true := by simp [h10]
    clear h14 h15 h27 h32 h10 y0 y1 y2 y3 y4 y5 y6
    have hcv := conv_lit1 wc r
    have HI5 := Lib.hid ((HI.out.below (below_one wc (.cells #[.int .u8 r] 5))).below (below_one _ (.cells #[.string (bs [r])] 9)))
    have HNW : Hid ((((wc.alloc (.cells #[.int .u8 r] 5))).alloc (.cells #[.string (bs [r])] 9)).heap[wc.heap.size + 1]? = some (.cells #[.string (bs [r])] 9)) := Lib.hid (heap_alloc2_new _ _ _)
    have hW5 : W.heap.size ≤ wc.heap.size := HI.out.2.size
    clear HI
    go_wp2_with (at_builtin; refine app_str _ rfl _ _ rfl W.heap.size _ [] rfl HI5.out.1 (wc.heap.size + 1) 1 (bs [r]) rfl HNW.out (by decide) (by simp; omega) ?_)
    intro g2 cap2 w6 o6 g6 or6 lt6
    have HI6 := Lib.hid (HI5.out.app o6 g6)
    clear o6 g6 or6 lt6 HI5 HNW hcv
    go_wp2
    go_ret
    exact ⟨_, rfl, by rw [HY.out]; exact Joins.ownsRow_le HI6.out.1 hbW, B1.out.trans (HI6.out.2.mono hbW)⟩

theorem spec_l07Forms (n : Int) (x : St) (r : Int) (w : World) (h0 : 0 ≤ r) (hx : calmB x = true) : Calls Tryd.prog 72 #[.int .i64 n, stV x, .int .i64 r] w (FmRet (formsP n x r) w) := by
  unfold formsP
  cases ho : ownR r
  · exact spec_forms_codes n x r w ho hx
  · exact spec_forms_own n x r w ho h0 hx

def FoDone (n : Int) (x : St) (r : Int) (w : World) (e : Ending) (w' : World) : Prop := ∃ v, e = .returned (.tuple #[v, .int .i64 (fmC n x r)]) ∧ OwnS w' w.heap.size v (fmZ n x r) ∧ Below w.heap.size w w'
theorem foDone {n r : Int} {x : St} {w w' : World} {v : Value} {c : Int} {fs : List ByteArray} (hc : fmC n x r = c) (hz : fmZ n x r = fs) (h1 : OwnS w' w.heap.size v fs) (hb : Below w.heap.size w w') : FoDone n x r w (.returned (.tuple #[v, .int .i64 c])) w' := by
  subst hc
  subst hz
  exact ⟨v, rfl, h1, hb⟩

set_option maxHeartbeats 1000000 in
set_option maxRecDepth 100000 in
theorem spec_FormsOf (n : Int) (x : St) (r : Int) (w : World) : Calls Tryd.prog 35 #[.int .i64 n, stV x, .int .i64 r] w (FoDone n x r w) := by
  have HN := Lib.hid (fun w => spec_l05No n w)
  have HC := Lib.hid (fun w => spec_l07Calm x w)
  have HO := Lib.hid (fun w => spec_l01OK r w)
  have B0 := Lib.hid (below_one w (.cells #[.int .i64 x.g0, .int .i64 x.g1, .int .i64 x.g2, .int .i64 x.g3, .int .i64 x.l, .int .i64 x.s, .int .i64 x.d] 24))
  have HX0 := Lib.hid (StAt.new w x)
  have HE0 : Hid (∀ w1, Below w.heap.size w w1 → OwnS (w1.alloc (.cells #[] 9)) w.heap.size (.slice (some ⟨w1.heap.size, 0, none⟩) 0 0) [] ∧ Below w.heap.size w (w1.alloc (.cells #[] 9))) := Lib.hid (fun w1 b => ⟨OwnS.empty w1 _ b.size, b.trans ((below_one _ _).mono b.size)⟩)
  have HFm := Lib.hid (fun w h0 hx => spec_l07Forms n x r w h0 hx)
  unfold FmRet at HFm
  unfold stV at HC HFm ⊢
  have ⟨y0, y1, y2, y3, y4, y5, y6⟩ := HX0.out.cells
  cases hn : proB n
  · have HK : Hid (fmC n x r = 5) := Lib.hid (by simp [fmC, hn])
    have HZ : Hid (fmZ n x r = []) := Lib.hid (by simp [fmZ, HK.out])
    rw [hn] at HN
    go_enter Tryd.func35, Tryd.ntmps35
    go_wp2_with fail
    refine (HN.out _).mono ?_
    generalize w.alloc (.cells #[.int .i64 x.g0, .int .i64 x.g1, .int .i64 x.g2, .int .i64 x.g3, .int .i64 x.l, .int .i64 x.s, .int .i64 x.d] 24) = W0 at *
    rintro e w1 ⟨rfl, rfl⟩
    have HF := Lib.hid (HE0.out _ B0.out)
    go_wp2
    go_ret2
    exact foDone HK.out HZ.out HF.out.1 HF.out.2
  have HN1 := Lib.hid hn
  rw [hn] at HN
  clear hn
  cases hr : restCalm x
  · have HK : Hid (fmC n x r = 1) := Lib.hid (by simp [fmC, HN1.out, calm_rest, hr])
    have HZ : Hid (fmZ n x r = []) := Lib.hid (by simp [fmZ, HK.out])
    rw [hr] at HC
    go_enter Tryd.func35, Tryd.ntmps35
    go_wp2_with fail
    refine (HN.out _).mono ?_
    rintro e w1 ⟨rfl, rfl⟩
    go_wp2_with fail
    refine (HC.out _).mono ?_
    generalize w.alloc (.cells #[.int .i64 x.g0, .int .i64 x.g1, .int .i64 x.g2, .int .i64 x.g3, .int .i64 x.l, .int .i64 x.s, .int .i64 x.d] 24) = W0 at *
    rintro e w2 ⟨rfl, b2⟩
    have HF := Lib.hid (HE0.out _ (B0.out.trans (b2.mono B0.out.size)))
    clear b2
    go_wp2
    go_ret2
    exact foDone HK.out HZ.out HF.out.1 HF.out.2
  rw [hr] at HC
  by_cases hl : x.l ≤ 1
  · have hx : calmB x = true := by rw [calm_rest, hr]; simp [hl]
    have el : decide (1 < x.l) = false := by simp; omega
    cases ho : okB r
    · have HK : Hid (fmC n x r = 4) := Lib.hid (by simp [fmC, HN1.out, hx, ho])
      have HZ : Hid (fmZ n x r = []) := Lib.hid (by simp [fmZ, HK.out])
      rw [ho] at HO
      clear hl hr hx ho HFm
      go_enter Tryd.func35, Tryd.ntmps35
      go_wp2_with fail
      refine (HN.out _).mono ?_
      rintro e w1 ⟨rfl, rfl⟩
      go_wp2_with fail
      refine (HC.out _).mono ?_
      generalize w.alloc (.cells #[.int .i64 x.g0, .int .i64 x.g1, .int .i64 x.g2, .int .i64 x.g3, .int .i64 x.l, .int .i64 x.s, .int .i64 x.d] 24) = W0 at *
      rintro e w2 ⟨rfl, b2⟩
      have ⟨z0, z1, z2, z3, z4, z5, z6⟩ := (HX0.out.keep b2).cells
      have HF := Lib.hid (HE0.out _ (B0.out.trans (b2.mono B0.out.size)))
      clear y0 y1 y2 y3 y4 y5 y6 b2
      go_wp2_with fail
      refine (HO.out _).mono ?_
      rintro e w3 ⟨rfl, rfl⟩
      go_wp2
      go_ret2
      exact foDone HK.out HZ.out HF.out.1 HF.out.2
    · have HK : Hid (fmC n x r = 0) := Lib.hid (by simp [fmC, HN1.out, hx, ho])
      have HZ : Hid (fmZ n x r = formsP n x r) := Lib.hid (by simp [fmZ, HK.out])
      have h0 := (okB_true ho).1
      have HFm2 := Lib.hid (fun w => HFm.out w h0 hx)
      rw [ho] at HO
      clear hl hr hx ho h0 HFm
      go_enter Tryd.func35, Tryd.ntmps35
      go_wp2_with fail
      refine (HN.out _).mono ?_
      rintro e w1 ⟨rfl, rfl⟩
      go_wp2_with fail
      refine (HC.out _).mono ?_
      generalize w.alloc (.cells #[.int .i64 x.g0, .int .i64 x.g1, .int .i64 x.g2, .int .i64 x.g3, .int .i64 x.l, .int .i64 x.s, .int .i64 x.d] 24) = W0 at *
      rintro e w2 ⟨rfl, b2⟩
      have ⟨z0, z1, z2, z3, z4, z5, z6⟩ := (HX0.out.keep b2).cells
      have B2 := Lib.hid (B0.out.trans (b2.mono B0.out.size))
      clear y0 y1 y2 y3 y4 y5 y6 b2
      go_wp2_with fail
      refine (HO.out _).mono ?_
      rintro e w3 ⟨rfl, rfl⟩
      go_wp2_with fail
      refine (HFm2.out _).mono ?_
      rintro e w4 ⟨v, rfl, h1, b4⟩
      have HF : Hid (OwnS w4 w.heap.size v (formsP n x r) ∧ Below w.heap.size w w4) := Lib.hid ⟨Joins.ownsRow_le h1 B2.out.size, B2.out.trans (b4.mono B2.out.size)⟩
      clear h1 b4
      go_wp2
      go_ret2
      exact foDone HK.out HZ.out HF.out.1 HF.out.2
  · have HK : Hid (fmC n x r = 1) := Lib.hid (by simp [fmC, HN1.out, calm_rest, hr, hl])
    have HZ : Hid (fmZ n x r = []) := Lib.hid (by simp [fmZ, HK.out])
    have el : decide (1 < x.l) = true := by simp; omega
    clear hl hr
    go_enter Tryd.func35, Tryd.ntmps35
    go_wp2_with fail
    refine (HN.out _).mono ?_
    rintro e w1 ⟨rfl, rfl⟩
    go_wp2_with fail
    refine (HC.out _).mono ?_
    generalize w.alloc (.cells #[.int .i64 x.g0, .int .i64 x.g1, .int .i64 x.g2, .int .i64 x.g3, .int .i64 x.l, .int .i64 x.s, .int .i64 x.d] 24) = W0 at *
    rintro e w2 ⟨rfl, b2⟩
    have ⟨z0, z1, z2, z3, z4, z5, z6⟩ := (HX0.out.keep b2).cells
    have HF := Lib.hid (HE0.out _ (B0.out.trans (b2.mono B0.out.size)))
    clear y0 y1 y2 y3 y4 y5 y6 b2
    go_wp2
    go_ret2
    exact foDone HK.out HZ.out HF.out.1 HF.out.2

end Go.Proofs.YtibadnfagoehmaaDoor

namespace Go.Proofs.YtibadnfagoehmaaDoor
open Go.RowKit Go.Sort

theorem spans_kind (q : Int) : ∀ s ∈ setSpans q, (setKind q = 3 → 255 < s.1 ∧ 33 ≤ s.1 / 256 ∧ (s.1 + s.2.2 - 1) / 256 ≤ 126) ∧ (setKind q ≠ 3 → s.1 + s.2.2 - 1 ≤ 127) := by
  unfold setSpans setKind
  repeat' split
  all_goals (intro s hs; simp only [List.mem_cons, List.not_mem_nil, or_false] at hs)
  all_goals first | omega | (rcases hs with rfl | rfl | rfl | rfl <;> (constructor <;> intro h <;> first | (exfalso; omega) | decide))
theorem codeS_kind (q r : Int) (h : 0 < codeS (setSpans q) r) : (setKind q = 3 → 255 < codeS (setSpans q) r ∧ 33 ≤ codeS (setSpans q) r / 256 ∧ codeS (setSpans q) r / 256 ≤ 126) ∧ (setKind q ≠ 3 → codeS (setSpans q) r ≤ 127) := by
  have hsp := spans_kind q
  generalize setKind q = kd at *
  revert h
  generalize setSpans q = sp at *
  induction sp with
  | nil => intro h; simp [codeS] at h
  | cons s t ih =>
    intro h
    unfold codeS at h ⊢
    split
    · next hb =>
      have ⟨i0, i1⟩ := inB_true hb
      have ⟨a, b⟩ := hsp s (by simp)
      refine ⟨fun hk => ?_, fun hk => ?_⟩
      · have ⟨a1, a2, a3⟩ := a hk
        refine ⟨by omega, by omega, by omega⟩
      · have := b hk
        omega
    · next hb =>
      rw [if_neg hb] at h
      exact ih (fun x hx => hsp x (List.mem_cons_of_mem _ hx)) h

def codeTx (q half r : Int) : ByteArray := if 0 < codeOf q r then codeT (codeOf q r) half else ⟨#[]⟩

set_option maxHeartbeats 1000000 in
set_option maxRecDepth 100000 in
theorem impl_codeText (q half r : Int) (w : World) (hq : 0 ≤ q ∧ q ≤ 8) (hh : half = 0 ∨ half = 128) (hr : r ≤ 9223372036854775807) (ht : TabSets w) : Calls Tryd.prog 110 #[.int .i64 q, .int .i64 half, .int .i64 r] w fun e w' => e = .returned (.string (codeTx q half r)) ∧ Below w.heap.size w w' := by
  have HF := Lib.hid (impl_CodeFor q r w ht hr)
  by_cases hq0 : 0 < q
  · have hset : setB q = true := inB_of (by omega) hq.2
    have hcs := codeS_pos q r
    by_cases hc : codeS (setSpans q) r = 0
    · have HE : Hid (codeTx q half r = ⟨#[]⟩) := Lib.hid (by rw [codeTx, codeOf_pos hq0, if_neg (by omega)])
      rw [cf_none hset hc] at HF
      clear hc hcs hq0 hq ht hset
      go_enter Tryd.func110, Tryd.ntmps110
      go_wp2_with fail
      refine HF.out.mono ?_
      rintro e w1 ⟨rfl, b1⟩
      go_wp2
      go_ret
      exact ⟨ret_str HE.out.symm, b1⟩
    · have hc' : 0 < codeS (setSpans q) r := by omega
      have HE : Hid (codeTx q half r = codeT (codeS (setSpans q) r) half) := Lib.hid (by rw [codeTx, codeOf_pos hq0, if_pos hc'])
      have ⟨hi1, hi2, hi3, hi4⟩ := codeS_in q r hc'
      have ⟨k1, k2⟩ := codeS_kind q r hc'
      rw [cf_some hset hc'] at HF
      obtain ⟨k, rfl, kk1, kk8⟩ := setB_nat hset
      have HT := Lib.hid (fun w' (b : Below w.heap.size w w') => (ht.keep b) k kk1 kk8)
      have u1 : (0 : Int) ≤ (k : Int) := by omega
      have u2 : (k : Int) < 9 := by omega
      clear hc hcs hq0 hq ht hset
      generalize codeS (setSpans (k : Int)) r = c at *
      have HBy := Lib.hid (fun b w h0 h1 => impl_byteText b w h0 h1)
      by_cases hk3 : setKind (k : Int) = 3
      · have ⟨c1, c2, c3⟩ := k1 hk3
        have ek : (setKind (k : Int) == 3) = true := by simp [hk3]
        have HE2 : Hid (codeT c half = bs [c / 256 + half] ++ bs [c % 256 + half]) := Lib.hid (by rw [codeT, if_pos c1, bs_app]; rfl)
        have ⟨q1, q2⟩ := hi3 c1
        have m0 : 0 ≤ c % 256 := by omega
        clear hi3 hi4 k1 k2
        have hcat : ∀ w, (Op.stringOp .add (bs [c / 256 + half]) (bs [c % 256 + half])).run Tryd.prog w = .ok (.string (bs [c / 256 + half] ++ bs [c % 256 + half])) w := cat_esc _ _ (by simp [bs_size])
        generalize hmm : c % 256 = m at *
        generalize hdd : c / 256 = d at *
        have HCat := Lib.hid hcat
        clear hcat
        rcases hh with rfl | rfl
        all_goals
          try simp only [Int.add_zero] at HE2 HCat
          go_enter Tryd.func110, Tryd.ntmps110
          go_wp2_with fail
          refine HF.out.mono ?_
          rintro e w1 ⟨rfl, b1⟩
          obtain ⟨_, t1, _⟩ := HT.out w1 b1
          go_wp2_with fail
          refine (HBy.out _ _ (by omega) (by omega)).mono ?_
          rintro e w2 ⟨rfl, b2⟩
          have B2 := Lib.hid (b1.trans (b2.mono b1.size))
          clear t1 b1 b2
          go_wp2_with fail
          refine (HBy.out _ _ (by omega) (by omega)).mono ?_
          rintro e w3 ⟨rfl, b3⟩
          have B3 := Lib.hid (B2.out.trans (b3.mono B2.out.size))
          have hct := HCat.out
          clear b3 B2
          go_wp2
          go_ret
          exact ⟨ret_str (by rw [HE.out, HE2.out]), B3.out⟩
      · have c7 := k2 hk3
        have ek : (setKind (k : Int) == 3) = false := by simp [hk3]
        have HE2 : Hid (codeT c half = bs [c + half]) := Lib.hid (by rw [codeT, if_neg (by omega)])
        clear hi3 hi4 k1 k2
        rcases hh with rfl | rfl
        all_goals
          try simp only [Int.add_zero] at HE2
          go_enter Tryd.func110, Tryd.ntmps110
          go_wp2_with fail
          refine HF.out.mono ?_
          rintro e w1 ⟨rfl, b1⟩
          obtain ⟨_, t1, _⟩ := HT.out w1 b1
          go_wp2_with fail
          refine (HBy.out _ _ (by omega) (by omega)).mono ?_
          rintro e w2 ⟨rfl, b2⟩
          have B2 := Lib.hid (b1.trans (b2.mono b1.size))
          clear t1 b1 b2
          go_wp2
          go_ret
          exact ⟨ret_str (by rw [HE.out, HE2.out]), B2.out⟩
  · have hset : setB q = false := by simp [setB, inB]; omega
    have HE : Hid (codeTx q half r = ⟨#[]⟩) := Lib.hid (by rw [codeTx, codeOf_zero hq0, if_neg (by decide)])
    rw [cfV_bad q r 5 (by simp [cfC, hset]) (by decide)] at HF
    clear hq0 hq ht hset
    go_enter Tryd.func110, Tryd.ntmps110
    go_wp2_with fail
    refine HF.out.mono ?_
    rintro e w1 ⟨rfl, b1⟩
    go_wp2
    go_ret
    exact ⟨ret_str HE.out.symm, b1⟩

theorem OwnS.one (w : World) (B : Nat) (t : ByteArray) (hB : B ≤ w.heap.size) : OwnS (w.alloc (.cells #[.string t] 9)) B (.slice (some ⟨w.heap.size, 0, none⟩) 1 1) [t] :=
  World.ownsRow_lit (base := B) (e := 9) (size := 1) w #[.string t] 1 hB (by decide) rfl
theorem ownI_facts {r : Int} (h : ownI r = true) : 0 ≤ r ∧ r ≤ 127 ∧ r ≠ 14 ∧ r ≠ 15 ∧ r ≠ 27 := by
  have hc := ctlB_iff r
  simp only [ownI, Bool.or_eq_true, Bool.and_eq_true, decide_eq_true_eq, beq_iff_eq, hc] at h
  omega
theorem calm_get {x : St} (h : calmB x = true) : ∃ k : Nat, stGet x x.l = (k : Int) ∧ k ≤ 8 := by
  have ⟨a, b, _⟩ := calm_range h
  rcases (calm_un h).2.1 with hl | hl
  · exact ⟨x.g0.toNat, by rw [hl]; simp [stGet]; omega, by omega⟩
  · exact ⟨x.g1.toNat, by rw [hl]; simp [stGet]; omega, by omega⟩

set_option maxHeartbeats 1000000 in
set_option maxRecDepth 100000 in
theorem impl_ownByte (n : Int) (x : St) (r : Int) (m : Value) (g b : Nat) (w : World) (hg : GuAt w g n m) (hm : MAt w b x) (ht : TabM w) (hx : calmB x = true) (ho : ownI r = true) :
    Calls Tryd.prog 109 #[.pointer (some ⟨g, 0, none⟩), .pointer (some ⟨b, 0, none⟩), .int .i64 r] w (FmRet (ownF n x r) w) := by
  have ⟨h0, h127, h14, h15, h27⟩ := ownI_facts ho
  have HR := Lib.hid (impl_atRest n x m g b w hg hm (calm_ok' hx).1)
  have HBy := Lib.hid (fun w => impl_byteText r w h0 (by omega))
  have HFin : Hid (∀ w1, Below w.heap.size w w1 → ownF n x r = [bs [r]] → FmRet (ownF n x r) w (.returned (.slice (some ⟨w1.heap.size, 0, none⟩) 1 1)) (w1.alloc (.cells #[.string (bs [r])] 9))) := Lib.hid (fun w1 hb hf => by
    rw [hf]
    exact ⟨_, rfl, OwnS.one w1 _ _ hb.size, hb.trans ((below_one _ _).mono hb.size)⟩)
  by_cases h10 : r = 10
  · have e10 : (r == 10) = true := by simp [h10]
    have e32 : (r == 32) = false := by simp [h10]
    cases hw : restB n x
    · have HY : Hid (ownF n x r = []) := Lib.hid (ownF_no (.inr (.inr (.inr (.inr ⟨h10, hw⟩)))))
      rw [hw] at HR
      clear hw h10 h14 h15 h27 ho hx hg hm ht
      go_enter Tryd.func109, Tryd.ntmps109
      go_wp2_with fail
      refine HR.out.mono ?_
      rintro e w1 ⟨rfl, rfl⟩
      go_wp2
      go_ret
      exact ⟨_, rfl, by rw [HY.out]; exact OwnS.nil _ _, Below.refl _ _⟩
    · have HY : Hid (ownF n x r = [bs [r]]) := Lib.hid (ownF_yes h0 (fun h => by omega) h14 h15 h27 (fun _ => hw))
      rw [hw] at HR
      clear hw h10 h14 h15 h27 ho hx hg hm ht
      go_enter Tryd.func109, Tryd.ntmps109
      go_wp2_with fail
      refine HR.out.mono ?_
      rintro e w1 ⟨rfl, rfl⟩
      go_wp2_with fail
      go_quiet (fail)
      have B1 := Lib.hid (below_drewN (Below.refl w.heap.size w) nq)
      generalize w.drewN nq = W1 at *
      go_wp2_with fail
      refine (HBy.out _).mono ?_
      rintro e w2 ⟨rfl, b2⟩
      have HF := Lib.hid (HFin.out w2 (B1.out.trans (b2.mono B1.out.size)) HY.out)
      clear b2
      go_wp2
      go_ret
      exact HF.out
  have e10 : (r == 10) = false := by simp [h10]
  by_cases h32 : r = 32
  · have e32 : (r == 32) = true := by simp [h32]
    obtain ⟨k, hk, hk8⟩ := calm_get hx
    have hkd := ht.kind k hk8
    have hl := (calm_un hx).2.1
    have ⟨y0, y1, y2, y3, y4, y5, y6⟩ := hm.cells
    have u2 : (k : Int) < 9 := by omega
    have u1 : (0 : Int) ≤ (k : Int) := by omega
    have hkc : ∀ j : Nat, (j = 0 ∨ j = 1) → x.l = (j : Int) → w.cell? ⟨b, j, none⟩ = some (.int .i64 (k : Int)) := by
      intro j hj hxj
      rcases hj with rfl | rfl
      · rw [y0, ← hk, hxj]; rfl
      · rw [y1, ← hk, hxj]; rfl
    cases hw : wideB x x.l
    · have HY : Hid (ownF n x r = [bs [r]]) := Lib.hid (ownF_yes h0 (fun _ => hw) h14 h15 h27 (fun h => absurd h h10))
      have ekd : (kind0 (k : Int) == 2) = false := by
        rw [wideB, hk] at hw
        unfold kind0
        by_cases hkz : (k : Int) = 0
        · rw [if_pos hkz]; rfl
        · rw [if_neg hkz]
          simp only [Bool.and_eq_false_iff, decide_eq_false_iff_not] at hw
          rcases hw with hw | hw
          · omega
          · simp [hw]
      clear hw h14 h15 h27 ho hx hg hm ht h32 h10 hk y0 y1 y2 y3 y5 y6
      generalize kind0 (k : Int) = kd at *
      rcases hl with hl | hl
      · have c0 := hkc 0 (.inl rfl) hl
        rw [hl] at y4
        clear hkc hl
        go_enter Tryd.func109, Tryd.ntmps109
        go_wp2_with fail
        go_quiet (fail)
        have B1 := Lib.hid (below_drewN (Below.refl w.heap.size w) nq)
        clear c0 y4 hkd
        generalize w.drewN nq = W1 at *
        go_wp2_with fail
        refine (HBy.out _).mono ?_
        rintro e w2 ⟨rfl, b2⟩
        have HF := Lib.hid (HFin.out w2 (B1.out.trans (b2.mono B1.out.size)) HY.out)
        clear b2
        go_wp2
        go_ret
        exact HF.out
      · have c0 := hkc 1 (.inr rfl) hl
        rw [hl] at y4
        clear hkc hl
        go_enter Tryd.func109, Tryd.ntmps109
        go_wp2_with fail
        go_quiet (fail)
        have B1 := Lib.hid (below_drewN (Below.refl w.heap.size w) nq)
        clear c0 y4 hkd
        generalize w.drewN nq = W1 at *
        go_wp2_with fail
        refine (HBy.out _).mono ?_
        rintro e w2 ⟨rfl, b2⟩
        have HF := Lib.hid (HFin.out w2 (B1.out.trans (b2.mono B1.out.size)) HY.out)
        clear b2
        go_wp2
        go_ret
        exact HF.out
    · have HY : Hid (ownF n x r = []) := Lib.hid (ownF_no (.inl ⟨h32, hw⟩))
      have ekd : (kind0 (k : Int) == 2) = true := by
        rw [wideB, hk] at hw
        simp only [Bool.and_eq_true, decide_eq_true_eq] at hw
        unfold kind0
        rw [if_neg (by omega)]
        simp [hw.2]
      clear hw h14 h15 h27 ho hx hg hm ht h32 h10 hk y0 y1 y2 y3 y5 y6
      generalize kind0 (k : Int) = kd at *
      rcases hl with hl | hl
      · have c0 := hkc 0 (.inl rfl) hl
        rw [hl] at y4
        clear hkc hl
        go_enter Tryd.func109, Tryd.ntmps109
        go_wp2_with fail
        go_quiet (fail)
        have B1 := Lib.hid (below_drewN (Below.refl w.heap.size w) nq)
        clear c0 y4 hkd
        go_wp2
        go_ret
        exact ⟨_, rfl, by rw [HY.out]; exact OwnS.nil _ _, B1.out⟩
      · have c0 := hkc 1 (.inr rfl) hl
        rw [hl] at y4
        clear hkc hl
        go_enter Tryd.func109, Tryd.ntmps109
        go_wp2_with fail
        go_quiet (fail)
        have B1 := Lib.hid (below_drewN (Below.refl w.heap.size w) nq)
        clear c0 y4 hkd
        go_wp2
        go_ret
        exact ⟨_, rfl, by rw [HY.out]; exact OwnS.nil _ _, B1.out⟩
  · have e32 : (r == 32) = false := by simp [h32]
    have HY : Hid (ownF n x r = [bs [r]]) := Lib.hid (ownF_yes h0 (fun h => absurd h h32) h14 h15 h27 (fun h => absurd h h10))
    clear h10 h14 h15 h27 h32 ho hx hg hm ht
    go_enter Tryd.func109, Tryd.ntmps109
    go_wp2_with fail
    go_quiet (fail)
    have B1 := Lib.hid (below_drewN (Below.refl w.heap.size w) nq)
    generalize w.drewN nq = W1 at *
    go_wp2_with fail
    refine (HBy.out _).mono ?_
    rintro e w2 ⟨rfl, b2⟩
    have HF := Lib.hid (HFin.out w2 (B1.out.trans (b2.mono B1.out.size)) HY.out)
    clear b2
    go_wp2
    go_ret
    exact HF.out

end Go.Proofs.YtibadnfagoehmaaDoor

namespace Go.Proofs.YtibadnfagoehmaaDoor
open Go.RowKit Go.Sort

theorem codeOf_none (q r : Int) (h : r = 14 ∨ r = 15 ∨ r = 27) : codeOf q r = 0 := by
  unfold codeOf
  split
  · exact codeS_none q r h
  · rfl
theorem formsI {n r : Int} {x : St} (hr : okB r = true) (h : ownI r = false) : formsP n x r = formL x r ++ formR n x r ++ formS n x r := by
  unfold formsP
  split
  · next ho =>
    rw [ownI_iff hr, ho, Bool.true_and] at h
    have hx : r = 14 ∨ r = 15 ∨ r = 27 := by
      simp only [Bool.and_eq_false_iff, decide_eq_false_iff_not, Decidable.not_not] at h
      exact h
    rw [ownF_no (by rcases hx with h | h | h <;> simp [h])]
    have e1 : formL x r = [] := by unfold formL; rw [codeOf_none _ r hx, if_neg (by decide)]
    have e2 : formR n x r = [] := by unfold formR; rw [codeOf_none _ r hx, if_neg (fun h => absurd h.2 (by decide))]
    have e3 : formS n x r = [] := by unfold formS; rw [codeOf_none _ r hx, if_neg (fun h => absurd h.2.1 (by decide))]
    rw [e1, e2, e3]
    rfl
  · rfl
theorem ownI_own {n r : Int} {x : St} (hr : okB r = true) (h : ownI r = true) : formsP n x r = ownF n x r := by
  rw [ownI_iff hr, Bool.and_eq_true] at h
  unfold formsP
  rw [if_pos h.1]
theorem bs_first (a : Int) (t : List Int) (h0 : 0 ≤ a) (h1 : a ≤ 255) (h : 0 < (bs (a :: t)).size) : (((bs (a :: t))[0]'h).toNat : Int) = a := by
  show ((UInt8.ofNat a.toNat).toNat : Int) = a
  rw [UInt8.toNat_ofNat']
  omega
theorem codeT_first {c : Int} (hc : codeIn c) (h : 0 < (codeT c 0).size) : (((codeT c 0)[0]'h).toNat : Int) = if 255 < c then c / 256 else c := by
  obtain ⟨c0, c1, c2, c3⟩ := hc
  by_cases h2 : 255 < c
  · have := c2 h2
    have e : codeT c 0 = bs [c / 256, c % 256] := by rw [codeT, if_pos h2, Int.add_zero, Int.add_zero]
    rw [if_pos h2]
    have h' : 0 < (bs [c / 256, c % 256]).size := by simp [bs_size]
    have := bs_first (c / 256) [c % 256] (by omega) (by omega) h'
    simp only [e]
    exact this
  · have := c3 (by omega)
    have e : codeT c 0 = bs [c] := by rw [codeT, if_neg h2, Int.add_zero]
    rw [if_neg h2]
    have h' : 0 < (bs [c]).size := by simp [bs_size]
    have := bs_first c [] (by omega) (by omega) h'
    simp only [e]
    exact this
/-- What the program asks of a left code's text. -/
theorem left_asks (q r : Int) (hq : 0 < codeOf q r) (h : 0 < (codeT (codeOf q r) 0).size) : inB ((codeT (codeOf q r) 0)[0]'h).toNat 33 126 = decide (127 < codeOf q r ∨ inB (codeOf q r) 33 126 = true) := by
  have hin := codeOf_in hq
  rw [codeT_first hin h]
  have hq0 : 0 < q := by
    unfold codeOf at hq
    split at hq
    · assumption
    · omega
  have hk := codeS_kind q r (by rw [← codeOf_pos hq0]; exact hq)
  rw [← codeOf_pos hq0] at hk
  obtain ⟨c0, c1, c2, c3⟩ := hin
  generalize codeOf q r = c at *
  by_cases h2 : 255 < c
  · rw [if_pos h2]
    have h3 : setKind q = 3 := by
      by_cases hk3 : setKind q = 3
      · exact hk3
      · have := hk.2 hk3; omega
    have ⟨_, k1, k2⟩ := hk.1 h3
    rw [inB_of k1 k2]
    simp; omega
  · rw [if_neg h2]
    have := c3 (by omega)
    rw [Bool.eq_iff_iff, decide_eq_true_eq]
    constructor
    · exact .inr
    · rintro (h | h)
      · omega
      · exact h
theorem list_some {t : ByteArray} (h : 0 < t.size) : t.toList.isEmpty = false := by
  rw [Lib.toList_data]
  have := size_list t
  cases ht : t.data.toList with
  | nil => rw [ht] at this; simp at this; omega
  | cons a l => rfl

theorem nil_list : (⟨#[]⟩ : ByteArray).toList.isEmpty = true := by rw [Lib.toList_data]; rfl
theorem text_127 {c : Int} (hin : codeIn c) : ((codeT c 0).toList != (bs [127]).toList) = decide (c ≠ 127) := by
  by_cases he : c = 127
  · subst he
    have e : codeT 127 0 = bs [127] := by rw [codeT, if_neg (by decide)]; rfl
    rw [e]
    simp
  · have hne : ¬ codeT c 0 = bs [127] := by
      intro hb
      have hs : (codeT c 0).size = 1 := by rw [hb]; rfl
      have h0 : 0 < (codeT c 0).size := by omega
      have hf := codeT_first hin h0
      have hf2 : (((codeT c 0)[0]'h0).toNat : Int) = 127 := by
        have : ∀ (u : ByteArray) (hu : u = bs [127]) (h : 0 < u.size), ((u[0]'h).toNat : Int) = 127 := by
          intro u hu h
          subst hu
          exact bs_first 127 [] (by decide) (by decide) h
        exact this _ hb h0
      have h255 : ¬ 255 < c := by
        intro h
        rw [codeT, if_pos h] at hs
        simp [bs_size] at hs
      rw [if_neg h255] at hf
      omega
    have := str_ne' hne
    rw [bne, this]
    simp [he]


set_option maxHeartbeats 4000000 in
set_option maxRecDepth 100000 in
theorem impl_forms_codes (n : Int) (x : St) (r : Int) (m : Value) (g b : Nat) (w : World) (hg : GuAt w g n m) (hm : MAt w b x) (ht : TabM w) (hx : calmB x = true) (hr : okB r = true) (ho : ownI r = false) :
    Calls Tryd.prog 73 #[.pointer (some ⟨g, 0, none⟩), .pointer (some ⟨b, 0, none⟩), .int .i64 r] w (FmRet (formL x r ++ formR n x r ++ formS n x r) w) := by
  have hr64 : r ≤ 9223372036854775807 := by have := okB_true hr; omega
  have HO := Lib.hid (fun w => impl_isOwnByte r w)
  rw [ho] at HO
  have HT0 := Lib.hid (fun q half u hq hh (hb : Below w.heap.size w u) => impl_codeText q half r u hq hh hr64 (ht.1.keep hb))
  have HMc0 := Lib.hid (fun u (hb : Below w.heap.size w u) => hm.keep hb)
  have HGc0 := Lib.hid (fun u (hb : Below w.heap.size w u) => hg.keep hb)
  have hl := (calm_un hx).2.1
  have HQ : Hid (0 ≤ stGet x x.l ∧ stGet x x.l ≤ 8) := Lib.hid (by obtain ⟨k, hk, hk8⟩ := calm_get hx; rw [hk]; omega)
  have HR1 : Hid (0 ≤ x.g1 ∧ x.g1 ≤ 8) := Lib.hid (calm_range hx).2.1
  have HR2 : Hid (0 ≤ x.g2 ∧ x.g2 ≤ 8) := Lib.hid (calm_range hx).2.2.1
  have hbw : b < w.heap.size := hm.lt
  have hgw : g < w.heap.size := hg.lt
  have HMc := Lib.hid (fun u (hb : Below w.heap.size w u) => (HMc0.out u hb).cells)
  have HGc := Lib.hid (fun u (hb : Below w.heap.size w u) => row10_cells (HGc0.out u hb))
  have HT := Lib.hid HT0.out
  clear hx hr hr64 ho hm hg ht HMc0 HGc0 HT0
  go_enter Tryd.func73, Tryd.ntmps73
  go_wp2_with fail
  refine (HO.out _).mono ?_
  rintro e w1 ⟨rfl, b1⟩
  clear HO
  have HB1 := Lib.hid b1
  clear b1
  go_upto_region 4 with fail
  go_cut [8] (fun v wx => v = .string (codeTx (stGet x x.l) 0 r) ∧ Below w.heap.size w wx)
  case first =>
    rcases hl with hl | hl
    · have hgq : stGet x x.l = x.g0 := by rw [hl]; rfl
      refine region_held_w (S := fun v => Below w.heap.size w v) w1.drew rfl (by kernel_rfl) ?_
      have hS0 : Below w.heap.size w w1.drew := HB1.out.drew
      generalize w1.drew = V at *
      refine wpAnyH_take (i := 0) (v := .pointer (some ⟨b, 0, none⟩)) rfl (by kernel_rfl) (by kernel_rfl) (by kernel_rfl) (fun _ _ _ h => h) (.inl ⟨by rfl, fun w' hS' => by
        go_simp⟩) hS0 ?_
      refine wpAnyH_take (i := 1) (v := .pointer (some ⟨b, 0, none⟩)) rfl (by kernel_rfl) (by kernel_rfl) (by kernel_rfl) (fun _ _ _ h => h) (.inl ⟨by rfl, fun w' hS' => by
        go_simp⟩) hS0 ?_
      refine wpAnyH_take (i := 2) (v := .pointer (some ⟨b, 0, none⟩)) rfl (by kernel_rfl) (by kernel_rfl) (by kernel_rfl) (fun _ _ _ h => h) (.inl ⟨by rfl, fun w' hS' => by
        go_simp⟩) hS0 ?_
      refine wpAnyH_take (i := 3) (v := .pointer (some ⟨b, 4, none⟩)) rfl (by kernel_rfl) (by kernel_rfl) (by kernel_rfl) (fun _ _ _ h => h) (.inl ⟨by rfl, fun w' hS' => by
        go_simp⟩) hS0 ?_
      refine wpAnyH_take (i := 4) (v := .int .i64 0) rfl (by kernel_rfl) (by kernel_rfl) (by kernel_rfl) (fun _ _ _ h => h) (.inl ⟨by rfl, fun w' hS' => by
        have ⟨y0, y1, y2, y3, y4, y5, y6⟩ := HMc.out _ hS'; rw [hl] at y4
        go_simp⟩) hS0 ?_
      refine wpAnyH_take (i := 5) (v := .pointer (some ⟨b, 0, none⟩)) rfl (by kernel_rfl) (by kernel_rfl) (by kernel_rfl) (fun _ _ _ h => h) (.inl ⟨by rfl, fun w' hS' => by
        go_simp⟩) hS0 ?_
      refine wpAnyH_take (i := 6) (v := .pointer (some ⟨b, 0, none⟩)) rfl (by kernel_rfl) (by kernel_rfl) (by kernel_rfl) (fun _ _ _ h => h) (.inl ⟨by rfl, fun w' hS' => by
        go_simp⟩) hS0 ?_
      refine wpAnyH_take (i := 7) (v := .pointer (some ⟨b, 0, none⟩)) rfl (by kernel_rfl) (by kernel_rfl) (by kernel_rfl) (fun _ _ _ h => h) (.inl ⟨by rfl, fun w' hS' => by
        go_simp⟩) hS0 ?_
      refine wpAnyH_take (i := 8) (v := .int .i64 x.g0) rfl (by kernel_rfl) (by kernel_rfl) (by kernel_rfl) (fun _ _ _ h => h) (.inl ⟨by rfl, fun w' hS' => by
        have ⟨y0, y1, y2, y3, y4, y5, y6⟩ := HMc.out _ hS'
        go_simp⟩) hS0 ?_
      refine wpAnyH_take (i := 9) (v := .int .i64 r) rfl (by kernel_rfl) (by kernel_rfl) (by kernel_rfl) (fun _ _ _ h => h) (.inl ⟨by rfl, fun w' hS' => by
        go_simp⟩) hS0 ?_
      refine wpAnyH_one (i := 10) (by kernel_rfl) rfl (fun K hK => ?_)
      go_simp
      refine (HT.out x.g0 0 _ (by rw [← hgq]; exact HQ.out) (.inl rfl) hS0).mono ?_
      rintro e V2 ⟨rfl, b2⟩
      have hS1 : Below w.heap.size w V2 := hS0.trans (b2.mono hS0.size)
      clear b2 hS0
      refine hK.out _ _ hS1 (fun _ => ?_)
      clear hK K
      refine wpAnyH_one (i := 11) (by kernel_rfl) rfl (fun K hK => ?_)
      go_simp
      refine hK.out _ _ hS1 (fun _ => ?_)
      clear hK K
      refine wpAnyH_done (by kernel_rfl) ?_ _
      go_wp2_with fail
      go_meet
      exact ⟨by rw [hgq], hS1⟩
    · have hgq : stGet x x.l = x.g1 := by rw [hl]; rfl
      refine region_held_w (S := fun v => Below w.heap.size w v) w1.drew rfl (by kernel_rfl) ?_
      have hS0 : Below w.heap.size w w1.drew := HB1.out.drew
      generalize w1.drew = V at *
      refine wpAnyH_take (i := 0) (v := .pointer (some ⟨b, 0, none⟩)) rfl (by kernel_rfl) (by kernel_rfl) (by kernel_rfl) (fun _ _ _ h => h) (.inl ⟨by rfl, fun w' hS' => by
        go_simp⟩) hS0 ?_
      refine wpAnyH_take (i := 1) (v := .pointer (some ⟨b, 0, none⟩)) rfl (by kernel_rfl) (by kernel_rfl) (by kernel_rfl) (fun _ _ _ h => h) (.inl ⟨by rfl, fun w' hS' => by
        go_simp⟩) hS0 ?_
      refine wpAnyH_take (i := 2) (v := .pointer (some ⟨b, 0, none⟩)) rfl (by kernel_rfl) (by kernel_rfl) (by kernel_rfl) (fun _ _ _ h => h) (.inl ⟨by rfl, fun w' hS' => by
        go_simp⟩) hS0 ?_
      refine wpAnyH_take (i := 3) (v := .pointer (some ⟨b, 4, none⟩)) rfl (by kernel_rfl) (by kernel_rfl) (by kernel_rfl) (fun _ _ _ h => h) (.inl ⟨by rfl, fun w' hS' => by
        go_simp⟩) hS0 ?_
      refine wpAnyH_take (i := 4) (v := .int .i64 1) rfl (by kernel_rfl) (by kernel_rfl) (by kernel_rfl) (fun _ _ _ h => h) (.inl ⟨by rfl, fun w' hS' => by
        have ⟨y0, y1, y2, y3, y4, y5, y6⟩ := HMc.out _ hS'; rw [hl] at y4
        go_simp⟩) hS0 ?_
      refine wpAnyH_take (i := 5) (v := .pointer (some ⟨b, 0, none⟩)) rfl (by kernel_rfl) (by kernel_rfl) (by kernel_rfl) (fun _ _ _ h => h) (.inl ⟨by rfl, fun w' hS' => by
        go_simp⟩) hS0 ?_
      refine wpAnyH_take (i := 6) (v := .pointer (some ⟨b, 0, none⟩)) rfl (by kernel_rfl) (by kernel_rfl) (by kernel_rfl) (fun _ _ _ h => h) (.inl ⟨by rfl, fun w' hS' => by
        go_simp⟩) hS0 ?_
      refine wpAnyH_take (i := 7) (v := .pointer (some ⟨b, 1, none⟩)) rfl (by kernel_rfl) (by kernel_rfl) (by kernel_rfl) (fun _ _ _ h => h) (.inl ⟨by rfl, fun w' hS' => by
        go_simp⟩) hS0 ?_
      refine wpAnyH_take (i := 8) (v := .int .i64 x.g1) rfl (by kernel_rfl) (by kernel_rfl) (by kernel_rfl) (fun _ _ _ h => h) (.inl ⟨by rfl, fun w' hS' => by
        have ⟨y0, y1, y2, y3, y4, y5, y6⟩ := HMc.out _ hS'
        go_simp⟩) hS0 ?_
      refine wpAnyH_take (i := 9) (v := .int .i64 r) rfl (by kernel_rfl) (by kernel_rfl) (by kernel_rfl) (fun _ _ _ h => h) (.inl ⟨by rfl, fun w' hS' => by
        go_simp⟩) hS0 ?_
      refine wpAnyH_one (i := 10) (by kernel_rfl) rfl (fun K hK => ?_)
      go_simp
      refine (HT.out x.g1 0 _ (by rw [← hgq]; exact HQ.out) (.inl rfl) hS0).mono ?_
      rintro e V2 ⟨rfl, b2⟩
      have hS1 : Below w.heap.size w V2 := hS0.trans (b2.mono hS0.size)
      clear b2 hS0
      refine hK.out _ _ hS1 (fun _ => ?_)
      clear hK K
      refine wpAnyH_one (i := 11) (by kernel_rfl) rfl (fun K hK => ?_)
      go_simp
      refine hK.out _ _ hS1 (fun _ => ?_)
      clear hK K
      refine wpAnyH_done (by kernel_rfl) ?_ _
      go_wp2_with fail
      go_meet
      exact ⟨by rw [hgq], hS1⟩
  case rest =>
  obtain ⟨rfl, hb1⟩ := hcut
  have HI4 : Hid (FmIn w [] (.slice none 0 0) wc) := Lib.hid ⟨OwnS.nil _ _, hb1⟩
  clear hb1 HB1 hl
  obtain ⟨ft, hft⟩ : ∃ ft, codeTx (stGet x x.l) 0 r = ft := ⟨_, rfl⟩
  obtain ⟨q5, hq5⟩ : ∃ q5, decide (127 < codeOf (stGet x x.l) r ∨ inB (codeOf (stGet x x.l) r) 33 126 = true) = q5 := ⟨_, rfl⟩
  have hemp : ¬ 0 < codeOf (stGet x x.l) r → ft.toList.isEmpty = true ∧ q5 = false := by
    intro hc
    refine ⟨?_, ?_⟩
    · rw [← hft, codeTx, if_neg hc]; exact nil_list
    · rw [← hq5, decide_eq_false_iff_not]
      rintro (h | h)
      · omega
      · have := inB_true h; omega
  have hask : 0 < codeOf (stGet x x.l) r → ∃ h : 0 < ft.size, inB ((ft[0]'h).toNat) 33 126 = q5 := by
    intro hc
    have hc2 : ft = codeT (codeOf (stGet x x.l) r) 0 := by rw [← hft, codeTx, if_pos hc]
    subst hc2
    have hs : 0 < (codeT (codeOf (stGet x x.l) r) 0).size := (code_size _ _).1
    exact ⟨hs, by rw [left_asks _ _ hc hs, hq5]⟩
  have hq : formL x r = if q5 = true then [ft] else [] := by
    rw [← hq5, ← hft]
    unfold formL
    by_cases hc : 127 < codeOf (stGet x x.l) r ∨ inB (codeOf (stGet x x.l) r) 33 126 = true
    · have h0 : 0 < codeOf (stGet x x.l) r := by
        rcases hc with h | h
        · omega
        · have := inB_true h; omega
      rw [if_pos hc, if_pos (by simpa using hc), codeTx, if_pos h0]
    · rw [if_neg hc, if_neg (by simpa using hc)]
  rw [hft]
  clear hft hq5
  go_upto_region 5 with fail
  go_cut [35] (fun v wx => v = .bool q5 ∧ FmIn w [] (.slice none 0 0) wx)
  case first =>
    by_cases hc : 0 < codeOf (stGet x x.l) r
    · obtain ⟨hs, ha⟩ := hask hc
      have he := list_some hs
      have hs' : (0 : Int) < (ft.size : Int) := by omega
      have u0 : (0 : Int) ≤ ((ft[0]'hs).toNat : Int) := by omega
      have u1 : ((ft[0]'hs).toNat : Int) < 256 := by have := (ft[0]'hs).toNat_lt; omega
      clear hask hemp hq hc
      go_wp2_with fail
      refine (impl_isCode94 _ _).mono ?_
      rintro e w5 ⟨rfl, rfl⟩
      go_wp2_with fail
      go_meet
      exact ⟨by first | rfl | rw [ha], HI4.out⟩
    · obtain ⟨he, hz⟩ := hemp hc
      clear hask hemp hq hc
      go_wp2_with fail
      go_meet
      exact ⟨by rw [hz], HI4.out⟩
  case rest =>
  obtain ⟨rfl, hI1⟩ := hcut
  have HI3 := Lib.hid hI1
  clear hI1 HI4 hask hemp
  go_upto_if 35 with fail
  go_cut [7] (fun v wx => FmIn w (formL x r) v wx)
  case first =>
    have hln : ([] : List ByteArray).length ≤ 1048576 := by decide
    cases q5
    · rw [if_neg (by decide)] at hq
      go_wp2_with fail
      go_meet
      exact (show FmIn w (formL x r) _ _ from by rw [hq]; exact HI3.out)
    · rw [if_pos rfl] at hq
      have HI5 := Lib.hid (HI3.out.below (below_one wc (.cells #[.string ft] 9)))
      have hW5 : w.heap.size ≤ wc.heap.size := HI3.out.2.size
      clear HI3
      go_wp2_with (at_builtin; refine app_str _ rfl _ _ rfl w.heap.size _ _ rfl HI5.out.1 wc.heap.size 1 ft rfl (heap_alloc_new _ _) hln (by simp; omega) ?_)
      intro g2 cap2 w6 o6 g6 or6 lt6
      have HI6 := HI5.out.app o6 g6
      go_wp2_with fail
      go_meet
      exact (show FmIn w (formL x r) _ _ from by rw [hq]; first | exact HI6 | (rw [List.append_assoc]; exact HI6))
  case rest =>
  have HI1 := Lib.hid hcut
  have hlF : (formL x r).length ≤ 1 := by unfold formL; split <;> simp
  clear hcut HI3 hq
  have ⟨y0, y1, y2, y3, y4, y5, y6⟩ := HMc.out _ HI1.out.2
  go_wp2_with fail
  refine (HT.out x.g1 128 _ HR1.out (.inr rfl) HI1.out.2).mono ?_
  rintro e w4 ⟨rfl, b4⟩
  have HI4 := Lib.hid (HI1.out.below b4)
  clear b4 HI1 y0 y1 y2 y3 y4 y5 y6
  have hln : (formL x r).length ≤ 1048576 := by omega
  obtain ⟨ft, hft⟩ : ∃ ft, codeTx x.g1 128 r = ft := ⟨_, rfl⟩
  have hsz : ft.size ≤ 2 := by
    rw [← hft]
    unfold codeTx
    split
    · exact (code_size _ _).2
    · decide
  have hq : formR n x r = if (!ft.toList.isEmpty && prRight n) = true then [ft] else [] := by
    rw [← hft]
    unfold codeTx formR
    by_cases hc : 0 < codeOf x.g1 r
    · rw [if_pos hc, list_some (by have := code_size (codeOf x.g1 r) 128; omega)]
      cases prRight n
      · rw [if_neg (by simp), if_neg (by simp)]
      · rw [if_pos ⟨rfl, hc⟩]; simp
    · rw [if_neg hc, if_neg (fun h => hc h.2), if_neg (by rw [nil_list]; simp)]
  rw [hft]
  clear hft
  go_upto_region 8 with fail
  go_cut [55] (fun v wx => v = .bool (!ft.toList.isEmpty && prRight n) ∧ FmIn w (formL x r) u7 wx)
  case first =>
    have ⟨g0, g1, g2, g3, g4, g5, g6, g7, g8, g9⟩ := HGc.out _ HI4.out.2
    clear hq
    cases he : ft.toList.isEmpty
    all_goals
      go_wp2_with fail
      go_meet
      exact ⟨by rw [he]; rfl, HI4.out⟩
  case rest =>
  obtain ⟨rfl, hI1⟩ := hcut
  have HI3 := Lib.hid hI1
  clear hI1 HI4
  go_upto_if 55 with fail
  go_cut [7] (fun v wx => FmIn w ((formL x r) ++ formR n x r) v wx)
  case first =>
    cases hb : (!ft.toList.isEmpty && prRight n)
    · rw [hb, if_neg (by decide)] at hq
      clear hb
      go_wp2_with fail
      go_meet
      exact (show FmIn w ((formL x r) ++ formR n x r) _ _ from by rw [hq, List.append_nil]; exact HI3.out)
    · rw [hb, if_pos rfl] at hq
      clear hb
      have HI5 := Lib.hid (HI3.out.below (below_one wc (.cells #[.string ft] 9)))
      have hW5 : w.heap.size ≤ wc.heap.size := HI3.out.2.size
      clear HI3
      go_wp2_with (at_builtin; refine app_str _ rfl _ _ rfl w.heap.size _ _ rfl HI5.out.1 wc.heap.size 1 ft rfl (heap_alloc_new _ _) hln (by simp; omega) ?_)
      intro g2 cap2 w6 o6 g6 or6 lt6
      have HI6 := HI5.out.app o6 g6
      go_wp2_with fail
      go_meet
      exact (show FmIn w ((formL x r) ++ formR n x r) _ _ from by rw [hq]; first | exact HI6 | (rw [List.append_assoc]; exact HI6))
  case rest =>
  have HI1 := Lib.hid hcut
  clear hcut HI3 hq
  have ⟨y0, y1, y2, y3, y4, y5, y6⟩ := HMc.out _ HI1.out.2
  go_wp2_with fail
  refine (HT.out x.g2 0 _ HR2.out (.inl rfl) HI1.out.2).mono ?_
  rintro e w4 ⟨rfl, b4⟩
  have HI4 := Lib.hid (HI1.out.below b4)
  clear b4 HI1 y0 y1 y2 y3 y4 y5 y6
  have hln : (formL x r ++ formR n x r).length ≤ 1048576 := by rw [List.length_append]; have : (formR n x r).length ≤ 1 := by { unfold formR; split <;> simp }; omega
  obtain ⟨ft, hft⟩ : ∃ ft, codeTx x.g2 0 r = ft := ⟨_, rfl⟩
  have hsz : ft.size ≤ 2 := by
    rw [← hft]
    unfold codeTx
    split
    · exact (code_size _ _).2
    · decide
  have hq : formS n x r = if (!ft.toList.isEmpty && (ft.toList != (bs [127]).toList && prSingle n)) = true then [((⟨#[27, 78]⟩ : ByteArray) ++ ft)] else [] := by
    rw [← hft]
    unfold codeTx formS
    by_cases hc : 0 < codeOf x.g2 r
    · have hin := codeOf_in hc
      rw [if_pos hc, list_some (by have := code_size (codeOf x.g2 r) 0; omega), text_127 hin]
      cases prSingle n
      · rw [if_neg (by simp), if_neg (by simp)]
      · by_cases he : codeOf x.g2 r = 127
        · rw [if_neg (fun h => h.2.2 he), if_neg (by simp [he])]
        · rw [if_pos ⟨rfl, hc, he⟩, if_pos (by simp [he])]
    · rw [if_neg hc, if_neg (fun h => hc h.2.1), if_neg (by rw [nil_list]; simp)]
  rw [hft]
  clear hft
  go_upto_region 11 with fail
  go_cut [80] (fun v wx => v = .bool (!ft.toList.isEmpty && (ft.toList != (bs [127]).toList && prSingle n)) ∧ FmIn w (formL x r ++ formR n x r) u7 wx)
  case first =>
    have ⟨g0, g1, g2, g3, g4, g5, g6, g7, g8, g9⟩ := HGc.out _ HI4.out.2
    clear hq
    cases he : ft.toList.isEmpty
    · go_wp2_with fail
      refine (impl_byteText 127 _ (by decide) (by decide)).mono ?_
      rintro e w5 ⟨rfl, b5⟩
      have HI5 := Lib.hid (HI4.out.below b5)
      clear b5 g0 g1 g2 g3 g4 g5 g6 g7 g8 g9
      have ⟨g0, g1, g2, g3, g4, g5, g6, g7, g8, g9⟩ := HGc.out _ HI5.out.2
      cases h7 : (ft.toList == (bs [127]).toList)
      · have h7' : (ft.toList != (bs [127]).toList) = true := by rw [bne, h7]; rfl
        go_wp2_with fail
        go_meet
        exact ⟨by rw [he, h7']; rfl, HI5.out⟩
      · have h7' : (ft.toList != (bs [127]).toList) = false := by rw [bne, h7]; rfl
        go_wp2_with fail
        go_meet
        exact ⟨by rw [he, h7']; rfl, HI5.out⟩
    · go_wp2_with fail
      go_meet
      exact ⟨by rw [he]; rfl, HI4.out⟩
  case rest =>
  obtain ⟨rfl, hI1⟩ := hcut
  have HI3 := Lib.hid hI1
  clear hI1 HI4
  go_upto_if 80 with fail
  go_cut [7] (fun v wx => FmIn w ((formL x r ++ formR n x r) ++ formS n x r) v wx)
  case first =>
    cases hb : (!ft.toList.isEmpty && (ft.toList != (bs [127]).toList && prSingle n))
    · rw [hb, if_neg (by decide)] at hq
      clear hb
      go_wp2_with fail
      go_meet
      exact (show FmIn w ((formL x r ++ formR n x r) ++ formS n x r) _ _ from by rw [hq, List.append_nil]; exact HI3.out)
    · rw [hb, if_pos rfl] at hq
      clear hb
      have hcat : ∀ w, (Op.stringOp .add ⟨#[27, 78]⟩ ft).run Tryd.prog w = .ok (.string ((⟨#[27, 78]⟩ : ByteArray) ++ ft)) w := cat_esc _ _ (by show 2 + ft.size ≤ 1048576; omega)
      generalize (⟨#[27, 78]⟩ : ByteArray) ++ ft = fu at *
      have HI5 := Lib.hid (HI3.out.below (below_one wc (.cells #[.string fu] 9)))
      have hW5 : w.heap.size ≤ wc.heap.size := HI3.out.2.size
      clear HI3
      go_wp2_with (at_builtin; refine app_str _ rfl _ _ rfl w.heap.size _ _ rfl HI5.out.1 wc.heap.size 1 fu rfl (heap_alloc_new _ _) hln (by simp; omega) ?_)
      intro g2 cap2 w6 o6 g6 or6 lt6
      have HI6 := HI5.out.app o6 g6
      go_wp2_with fail
      go_meet
      exact (show FmIn w ((formL x r ++ formR n x r) ++ formS n x r) _ _ from by rw [hq]; first | exact HI6 | (rw [List.append_assoc]; exact HI6))
  case rest =>
  have HI1 := Lib.hid hcut
  clear hcut HI3 hq
  go_wp2
  go_ret
  exact ⟨_, rfl, HI1.out.1, HI1.out.2⟩

end Go.Proofs.YtibadnfagoehmaaDoor

namespace Go.Proofs.YtibadnfagoehmaaDoor
open Go.RowKit Go.Sort

set_option maxHeartbeats 1000000 in
set_option maxRecDepth 100000 in
theorem impl_forms (n : Int) (x : St) (r : Int) (m : Value) (g b : Nat) (w : World) (hg : GuAt w g n m) (hm : MAt w b x) (ht : TabM w) (hx : calmB x = true) (hr : okB r = true) :
    Calls Tryd.prog 73 #[.pointer (some ⟨g, 0, none⟩), .pointer (some ⟨b, 0, none⟩), .int .i64 r] w (FmRet (formsP n x r) w) := by
  cases ho : ownI r
  · rw [formsI hr ho]
    exact impl_forms_codes n x r m g b w hg hm ht hx hr ho
  · have HO := Lib.hid (fun w => impl_isOwnByte r w)
    have HB := Lib.hid (fun w' (h : Below w.heap.size w w') => impl_ownByte n x r m g b w' (hg.keep h) (hm.keep h) (ht.keep h) hx ho)
    have HE := Lib.hid (ownI_own (n := n) (x := x) hr ho)
    rw [ho] at HO
    unfold FmRet at HB
    clear hg hm ht hx hr ho
    go_enter Tryd.func73, Tryd.ntmps73
    go_wp2_with fail
    refine (HO.out _).mono ?_
    rintro e w1 ⟨rfl, b1⟩
    go_wp2_with fail
    refine (HB.out _ b1).mono ?_
    rintro e w2 ⟨v, rfl, o2, b2⟩
    have HF : Hid (OwnS w2 w.heap.size v (formsP n x r) ∧ Below w.heap.size w w2) := Lib.hid ⟨by rw [HE.out]; exact Joins.ownsRow_le o2 b1.size, b1.trans (b2.mono b1.size)⟩
    clear o2 b1 b2
    go_wp2
    go_ret
    exact ⟨_, rfl, HF.out.1, HF.out.2⟩

set_option maxHeartbeats 2000000 in
set_option maxRecDepth 100000 in
theorem impl_FormsOf (n : Int) (x : St) (r : Int) (w : World) (ht : TabM w) (hw : Wide64 x) : Calls Tryd.prog 36 #[.int .i64 n, stV x, .int .i64 r] w (FoDone n x r w) := by
  have HP := Lib.hid (fun w => impl_isProfile n w)
  have HW := Lib.hid (fun w ht => impl_writingMachine x w ht hw)
  have HRn := Lib.hid (fun w => impl_RuneOK r w)
  have HT := Lib.hid ht
  have B0 := Lib.hid (below_one w (.cells #[.int .i64 x.g0, .int .i64 x.g1, .int .i64 x.g2, .int .i64 x.g3, .int .i64 x.l, .int .i64 x.s, .int .i64 x.d] 24))
  have HB0 := Lib.hid (StAt.new w x)
  unfold WmDone at HW
  unfold stV at HW ⊢
  clear hw
  cases hn : proB n
  · have HC : Hid (fmC n x r = 5) := Lib.hid (by simp [fmC, hn])
    have HZ : Hid (fmZ n x r = []) := Lib.hid (by simp [fmZ, HC.out])
    rw [hn] at HP
    go_enter Tryd.func36, Tryd.ntmps36
    go_wp2_with fail
    refine (HP.out _).mono ?_
    rintro e w1 ⟨rfl, rfl⟩
    go_wp2
    go_ret2
    exact foDone HC.out HZ.out (OwnS.nil _ _) B0.out
  have HN := Lib.hid hn
  rw [hn] at HP
  clear hn
  cases hc : calmB x
  · have HC : Hid (fmC n x r = 1) := Lib.hid (by simp [fmC, HN.out, hc])
    have HZ : Hid (fmZ n x r = []) := Lib.hid (by simp [fmZ, HC.out])
    rw [hc] at HW
    have ⟨y0, y1, y2, y3, y4, y5, y6⟩ := HB0.out.cells
    go_enter Tryd.func36, Tryd.ntmps36
    go_wp2_with fail
    refine (HP.out _).mono ?_
    rintro e w1 ⟨rfl, rfl⟩
    go_wp2_with fail
    refine (HW.out _ (HT.out.keep B0.out)).mono ?_
    rintro e w2 ⟨rfl, b2⟩
    have B2 := Lib.hid (B0.out.trans (b2.mono B0.out.size))
    have B3 := Lib.hid (B2.out.trans ((below_one w2 (.cells #[.int .i64 x.g0, .int .i64 x.g1, .int .i64 x.g2, .int .i64 x.g3, .int .i64 x.l, .int .i64 x.s, .int .i64 x.d] 69)).mono B2.out.size))
    clear y0 y1 y2 y3 y4 y5 y6 b2
    go_wp2
    go_ret2
    exact foDone HC.out HZ.out (OwnS.nil _ _) B3.out
  have HX := Lib.hid hc
  rw [hc] at HW
  clear hc
  cases hr : okB r
  · have HC : Hid (fmC n x r = 4) := Lib.hid (by simp [fmC, HN.out, HX.out, hr])
    have HZ : Hid (fmZ n x r = []) := Lib.hid (by simp [fmZ, HC.out])
    rw [hr] at HRn
    have ⟨y0, y1, y2, y3, y4, y5, y6⟩ := HB0.out.cells
    go_enter Tryd.func36, Tryd.ntmps36
    go_wp2_with fail
    refine (HP.out _).mono ?_
    rintro e w1 ⟨rfl, rfl⟩
    go_wp2_with fail
    refine (HW.out _ (HT.out.keep B0.out)).mono ?_
    rintro e w2 ⟨rfl, b2⟩
    have B2 := Lib.hid (B0.out.trans (b2.mono B0.out.size))
    have B3 := Lib.hid (B2.out.trans ((below_one w2 (.cells #[.int .i64 x.g0, .int .i64 x.g1, .int .i64 x.g2, .int .i64 x.g3, .int .i64 x.l, .int .i64 x.s, .int .i64 x.d] 69)).mono B2.out.size))
    clear y0 y1 y2 y3 y4 y5 y6 b2
    go_wp2_with fail
    refine (HRn.out _).mono ?_
    rintro e w3 ⟨rfl, rfl⟩
    go_wp2
    go_ret2
    exact foDone HC.out HZ.out (OwnS.nil _ _) B3.out
  · have HC : Hid (fmC n x r = 0) := Lib.hid (by simp [fmC, HN.out, HX.out, hr])
    have HZ : Hid (fmZ n x r = formsP n x r) := Lib.hid (by simp [fmZ, HC.out])
    have HMs := Lib.hid (fun m g b w' hg hm ht => impl_forms n x r m g b w' hg hm ht HX.out hr)
    have HGu := Lib.hid (fun w' (b : Below w.heap.size w w') => impl_guideOf n w' (ht.1.keep b) HN.out)
    rw [hr] at HRn
    unfold FmRet at HMs
    unfold guV at HGu
    have ⟨y0, y1, y2, y3, y4, y5, y6⟩ := HB0.out.cells
    clear hr ht
    go_enter Tryd.func36, Tryd.ntmps36
    go_wp2_with fail
    refine (HP.out _).mono ?_
    rintro e w1 ⟨rfl, rfl⟩
    go_wp2_with fail
    refine (HW.out _ (HT.out.keep B0.out)).mono ?_
    rintro e w2 ⟨rfl, b2⟩
    have B2 := Lib.hid (B0.out.trans (b2.mono B0.out.size))
    have B3 := Lib.hid (B2.out.trans ((below_one w2 (.cells #[.int .i64 x.g0, .int .i64 x.g1, .int .i64 x.g2, .int .i64 x.g3, .int .i64 x.l, .int .i64 x.s, .int .i64 x.d] 69)).mono B2.out.size))
    have HM3 := Lib.hid (MAt.new w2 x)
    clear y0 y1 y2 y3 y4 y5 y6 b2
    go_wp2_with fail
    refine (HRn.out _).mono ?_
    rintro e w3 ⟨rfl, rfl⟩
    go_wp2_with fail
    refine (HGu.out _ B3.out).mono ?_
    generalize w2.heap.size = mb at *
    generalize w2.alloc (.cells #[.int .i64 x.g0, .int .i64 x.g1, .int .i64 x.g2, .int .i64 x.g3, .int .i64 x.l, .int .i64 x.s, .int .i64 x.d] 69) = W3 at *
    rintro e w4 ⟨rfl, b4⟩
    have B5 := Lib.hid ((B3.out.trans (b4.mono B3.out.size)).trans ((below_one w4 (.cells #[.int .i64 n, .string (prName n), .string (prHead n), .slice none 0 0, .bool (prRight n), .bool (prShifts n), .bool (prSingle n), .bool (prReset n), .bool (prClear n), (.map none)] 90)).mono (Nat.le_trans B3.out.size b4.size)))
    have HM5 := Lib.hid ((HM3.out.keep b4).keep (below_one w4 (.cells #[.int .i64 n, .string (prName n), .string (prHead n), .slice none 0 0, .bool (prRight n), .bool (prShifts n), .bool (prSingle n), .bool (prReset n), .bool (prClear n), (.map none)] 90)))
    have HG5 := Lib.hid (GuAt.new w4 n (.map none))
    have HT5 := Lib.hid (HT.out.keep B5.out)
    clear b4
    go_wp2_with fail
    refine (HMs.out _ _ _ _ HG5.out HM5.out HT5.out).mono ?_
    rintro e w6 ⟨v, rfl, o6, b6⟩
    have HF : Hid (OwnS w6 w.heap.size v (formsP n x r) ∧ Below w.heap.size w w6) := Lib.hid ⟨Joins.ownsRow_le o6 B5.out.size, B5.out.trans (b6.mono B5.out.size)⟩
    clear o6 b6
    go_wp2
    go_ret2
    exact foDone HC.out HZ.out HF.out.1 HF.out.2

end Go.Proofs.YtibadnfagoehmaaDoor

namespace Go.Proofs.YtibadnfagoehmaaDoor
open Go.RowKit

/-- The text of a mark. -/
def mkL : Nat → Int → ByteArray → ByteArray
  | 0, _, o => o
  | f + 1, c, o => if 0 < c then mkL f (c / 10) (bs [48 + c % 10] ++ o) else o
def mkT (k : Int) : ByteArray := if k ≤ 0 then ⟨#[109, 48]⟩ else ⟨#[109]⟩ ++ mkL k.toNat k ⟨#[]⟩

theorem bs1_size (x : Int) : (bs [x]).size = 1 := rfl

set_option maxHeartbeats 1000000 in
theorem laws_markText (k : Int) (w : World) (h0 : 0 < k) (h1 : k ≤ 100000) : Calls Tryd.prog 71 #[.int .i64 k] w fun e w' => e = .returned (.string (mkT k)) ∧ Below w.heap.size w w' := by
  have HE : Hid (mkT k = ⟨#[109]⟩ ++ mkL k.toNat k ⟨#[]⟩) := Lib.hid (by rw [mkT, if_neg (by omega)])
  go_enter Tryd.func71, Tryd.ntmps71
  go_wp2
  go_loopw [0, 3] (fun ci ov wr => ∃ (f : Nat) (c : Int) (o : ByteArray), ci = .int .i64 c ∧ ov = .string o ∧ 0 ≤ c ∧ c ≤ 100000 ∧ c.toNat ≤ f ∧ o.size + f ≤ 100000 ∧ Hid (mkL f c o = mkL k.toNat k ⟨#[]⟩) ∧ Below w.heap.size w wr) (fun ci _ _ => (intOf ci).toNat)
  case atStart => exact ⟨k.toNat, k, _, rfl, rfl, by omega, by omega, Nat.le_refl _, by show 0 + k.toNat ≤ 100000; omega, Lib.hid rfl, Below.refl _ _⟩
  case round =>
    obtain ⟨f, c, o, rfl, rfl, c0, c1, cf, hsz, HM, hb⟩ := hrel
    by_cases hc : 0 < c
    · obtain ⟨f, rfl⟩ : ∃ q, f = q + 1 := ⟨f - 1, by omega⟩
      have HM2 : Hid (mkL f (c / 10) (bs [48 + c % 10] ++ o) = mkL k.toNat k ⟨#[]⟩) := Lib.hid (by rw [← HM.out, mkL, if_pos hc])
      have hcv := conv_lit1 wr (48 + c % 10)
      have hcat : ∀ w, (Op.stringOp .add (bs [48 + c % 10]) o).run Tryd.prog w = .ok (.string (bs [48 + c % 10] ++ o)) w := cat_esc _ _ (by rw [bs1_size]; omega)
      have hb2 : Below w.heap.size w (wr.alloc (.cells #[.int .u8 (48 + c % 10)] 5)) := hb.trans ((below_one _ _).mono hb.size)
      have m0 : 0 ≤ c % 10 := by omega
      have m1 : c % 10 ≤ 9 := by omega
      have hs2 : (bs [48 + c % 10] ++ o).size + f ≤ 100000 := by rw [ByteArray.size_append, bs1_size]; omega
      clear HM
      generalize hmm : c % 10 = m at *
      go_wp2
      go_roundw
      case rel => exact ⟨f, c / 10, _, by first | rfl | (congr 1; omega), rfl, by omega, by omega, by omega, hs2, HM2, hb2⟩
      case measure => simp [intOf]; omega
    · have HM2 : Hid (o = mkL k.toNat k ⟨#[]⟩) := Lib.hid (by
        rw [← HM.out]
        cases f with
        | zero => rfl
        | succ f => rw [mkL, if_neg hc])
      have hcat : ∀ w, (Op.stringOp .add ⟨#[109]⟩ o).run Tryd.prog w = .ok (.string (⟨#[109]⟩ ++ o)) w := cat_esc _ _ (by show 1 + o.size ≤ 1048576; omega)
      go_wp2
      go_ret
      exact ⟨ret_str (by rw [HE.out, HM2.out]), hb⟩

set_option maxHeartbeats 1000000 in
theorem laws_eqStringS_true (v u : Value) (ts : List ByteArray) (w : World) (hv : StrsAt w v ts) (hu : StrsAt w u ts) (_hl : ts.length ≤ 1048576) : Calls Tryd.prog 29 #[v, u] w fun e w' => e = .returned (.bool true) ∧ Below w.heap.size w w' := by
  have HV := Lib.hid hv
  have HU := Lib.hid hu
  obtain ⟨a, c, rfl⟩ := hv.form
  obtain ⟨a', c', rfl⟩ := hu.form
  clear hv hu
  have e0 : ((ts.length : Int) != (ts.length : Int)) = false := by simp
  go_enter Tryd.func29, Tryd.ntmps29
  go_wp2
  go_loopw [5] (fun i wr => ∃ k : Nat, k ≤ ts.length ∧ i = .int .i64 k ∧ Below w.heap.size w wr) (fun i _ => ts.length - (intOf i).toNat)
  case atStart => exact ⟨0, Nat.zero_le _, rfl, Below.refl _ _⟩
  case round =>
    obtain ⟨k, hk, rfl, hb⟩ := hrel
    by_cases hlt : k < ts.length
    · obtain ⟨g, off, rfl, x0⟩ := (HV.out.keep hb).pick k hlt
      obtain ⟨g', off', rfl, y0⟩ := (HU.out.keep hb).pick k hlt
      generalize ts[k] = x at *
      have u1 : (0 : Int) ≤ (k : Int) := by omega
      have u2 : (k : Int) < (ts.length : Int) := by omega
      go_wp2
      go_quiet (fail)
      have B2 : Below w.heap.size w (wr.drewN nq) := below_drewN hb nq
      clear x0 y0 hb
      generalize wr.drewN nq = w2 at *
      go_wp2
      go_roundw
      case rel => exact ⟨k + 1, by omega, by go_num, B2⟩
      case measure => simp [intOf]; omega
    · go_wp2
      go_ret
      exact ⟨rfl, hb⟩

/-- The marks. -/
def mkS (k : Int) (n : Nat) : List ByteArray := (List.range n).map fun i : Nat => mkT (k + (i : Int))
theorem mkS_length (k : Int) (n : Nat) : (mkS k n).length = n := by simp [mkS]
theorem mkS_snoc (k : Int) (n : Nat) : mkS k (n + 1) = mkS k n ++ [mkT (k + n)] := by simp [mkS, List.range_succ]
def mkTo (ts : List ByteArray) (k : Int) (j : Nat) : List ByteArray := mkS k j ++ ts.drop j
theorem mkTo_length (ts : List ByteArray) (k : Int) (j : Nat) (h : j ≤ ts.length) : (mkTo ts k j).length = ts.length := by
  simp [mkTo, mkS_length]; omega
theorem mkTo_succ (ts : List ByteArray) (k : Int) (j : Nat) (h : j < ts.length) : (mkTo ts k j).set j (mkT (k + j)) = mkTo ts k (j + 1) := by
  unfold mkTo
  rw [List.set_append_right _ _ (by rw [mkS_length]; omega), mkS_length, Nat.sub_self, List.drop_eq_getElem_cons h, List.set_cons_zero, mkS_snoc]
  simp
theorem mkTo_full (ts : List ByteArray) (k : Int) : mkTo ts k ts.length = mkS k ts.length := by simp [mkTo]
theorem OwnS.store {w : World} {B g c : Nat} {ts : List ByteArray} (h : OwnS w B (.slice (some ⟨g, 0, none⟩) ts.length c) ts) (j : Nat) (u : ByteArray) :
    OwnS (w.setCell ⟨g, j, none⟩ (.string u)) B (.slice (some ⟨g, 0, none⟩) ts.length c) (ts.set j u) := by
  have := (World.ownsRow.stored h j (.string u)).1
  unfold OwnS
  rw [List.map_set, List.length_set]
  exact this

set_option maxHeartbeats 1000000 in
theorem laws_markStringS (v : Value) (ts : List ByteArray) (k : Int) (B : Nat) (w : World) (h : OwnS w B v ts) (hB : B ≤ w.heap.size) (hl : ts.length ≤ 10000) (hk : 0 < k) (hk2 : k ≤ 10000) : Calls Tryd.prog 31 #[v, .int .i64 k] w fun e w' => e = .returned (.int .i64 (k + ts.length)) ∧ OwnS w' B v (mkS k ts.length) ∧ Below B w w' ∧ w.grownBy w' v.ownBlock := by
  rcases h.2 with ⟨rfl, h0⟩ | ⟨g, cap, cur, rfl, hBg, _⟩
  · obtain rfl : ts = [] := List.length_eq_zero_iff.1 h0
    go_enter Tryd.func31, Tryd.ntmps31
    go_wp2
    go_loop [1, 5] (fun q i => q = .int .i64 k ∧ i = .int .i64 0) (fun _ _ => 0)
    case atStart => exact ⟨rfl, rfl⟩
    case round =>
      obtain ⟨rfl, rfl⟩ := hrel
      go_wp2
      go_ret
      exact ⟨ret_int (by simp), h, Below.refl _ _, grownBy_refl' _ _⟩
  · have hgl : g < w.heap.size := (World.ownsRow.lt h g rfl).2
    go_enter Tryd.func31, Tryd.ntmps31
    go_wp2
    go_loopw [1, 5] (fun q i wr => ∃ j : Nat, j ≤ ts.length ∧ q = .int .i64 (k + (j : Int)) ∧ i = .int .i64 j ∧ Hid (OwnS wr B (.slice (some ⟨g, 0, none⟩) ts.length cap) (mkTo ts k j)) ∧ Hid (Below B w wr ∧ w.grownBy wr (some g))) (fun _ i _ => ts.length - (intOf i).toNat)
    case atStart => exact ⟨0, Nat.zero_le _, by simp, rfl, Lib.hid (by simpa [mkTo, mkS] using h), Lib.hid ⟨Below.refl _ _, grownBy_refl' _ _⟩⟩
    case round =>
      clear h
      obtain ⟨j, hj, rfl, rfl, HO, HB⟩ := hrel
      by_cases hlt : j < ts.length
      · have hj0 : (0 : Int) ≤ (j : Int) := by omega
        have hj1 : (j : Int) < (ts.length : Int) := by omega
        go_wp2_with fail
        refine (laws_markText (k + (j : Int)) _ (by omega) (by omega)).mono ?_
        rintro e w2 ⟨rfl, b2⟩
        have ho2 : OwnS w2 B (.slice (some ⟨g, 0, none⟩) ts.length cap) (mkTo ts k j) := HO.out.all b2
        have hlen := mkTo_length ts k j hj
        have ho3 : OwnS w2 B (.slice (some ⟨g, 0, none⟩) (mkTo ts k j).length cap) (mkTo ts k j) := by rw [hlen]; exact ho2
        have f0 := World.ownsRow.frozenAt ho3 j
        obtain ⟨g', o', hg', d0⟩ := ho2.reads.pick j (by omega)
        injection hg' with hg'
        injection hg' with hg' ho' _
        subst hg'
        subst ho'
        have hst := OwnS.store (ts := mkTo ts k j) ho3 j (mkT (k + (j : Int)))
        rw [mkTo_succ ts k j hlt, hlen] at hst
        have HO2 := Lib.hid hst
        have hgl2 : g < w2.heap.size := (World.ownsRow.lt ho2 g rfl).2
        have HB2 : Hid (Below B w (w2.setCell ⟨g, j, none⟩ (.string (mkT (k + (j : Int))))) ∧ w.grownBy (w2.setCell ⟨g, j, none⟩ (.string (mkT (k + (j : Int))))) (some g)) := Lib.hid ⟨(HB.out.1.trans (b2.mono (Nat.le_trans hB HB.out.1.size))).setCell hBg _, (HB.out.2.trans ⟨b2.os, b2.tape, b2.output, b2.size, fun i hi _ => b2.block i hi⟩).trans (grownBy_setCell' w2 g j _)⟩
        generalize (mkTo ts k j)[j] = y0 at *
        generalize mkT (k + (j : Int)) = mt at *
        clear ho2 ho3 hst b2 HO HB hlen
        simp only [Nat.zero_add] at d0
        go_wp2
        go_roundw
        case rel => exact ⟨j + 1, by omega, by congr 1; omega, by go_num, HO2, HB2⟩
        case measure => simp [intOf]; omega
      · obtain rfl : j = ts.length := by omega
        have ho := HO.out
        rw [mkTo_full] at ho
        go_wp2
        go_ret
        exact ⟨ret_int rfl, ho, HB.out.1, HB.out.2⟩

set_option maxHeartbeats 1000000 in
theorem laws_heldStringS (v : Value) (n : Nat) (k : Int) (w : World) (h : StrsAt w v (mkS k n)) (hl : n ≤ 10000) (hk : 0 < k) (hk2 : k ≤ 10000) : Calls Tryd.prog 33 #[v, .int .i64 k] w fun e w' => e = .returned (.int .i64 (k + n)) ∧ Below w.heap.size w w' := by
  have HV := Lib.hid h
  obtain ⟨a, c, rfl⟩ := h.form
  clear h
  rw [mkS_length] at HV ⊢
  go_enter Tryd.func33, Tryd.ntmps33
  go_wp2
  go_loopw [1, 5] (fun q i wr => ∃ j : Nat, j ≤ n ∧ q = .int .i64 (k + (j : Int)) ∧ i = .int .i64 j ∧ Below w.heap.size w wr) (fun _ i _ => n - (intOf i).toNat)
  case atStart => exact ⟨0, Nat.zero_le _, by simp, rfl, Below.refl _ _⟩
  case round =>
    obtain ⟨j, hj, rfl, rfl, hb⟩ := hrel
    by_cases hlt : j < n
    · have hj0 : (0 : Int) ≤ (j : Int) := by omega
      have hj1 : (j : Int) < (n : Int) := by omega
      obtain ⟨g, off, rfl, d0⟩ := HV.out.pick j (by rw [mkS_length]; exact hlt)
      have hmk : (mkS k n)[j]'(by rw [mkS_length]; exact hlt) = mkT (k + (j : Int)) := by simp [mkS]
      rw [hmk] at d0
      have HD := Lib.hid d0
      clear d0 hmk
      have HMk := Lib.hid (fun w => laws_markText (k + (j : Int)) w (by omega) (by omega))
      generalize mkT (k + (j : Int)) = mt at *
      go_wp2
      have hS0 : Below w.heap.size w wr.drew := hb.drew
      refine region_held_w (S := fun v => Below w.heap.size w v) wr.drew rfl (by kernel_rfl) ?_
      generalize wr.drew = V at *
      clear hb
      refine wpAnyH_take (i := 0) (v := .slice (some ⟨g, off, none⟩) n c) rfl (by kernel_rfl) (by kernel_rfl) (by kernel_rfl) (fun _ _ _ h => h) (.inl ⟨by rfl, fun w' hS' => by go_simp⟩) hS0 ?_
      refine wpAnyH_take (i := 1) (v := .int .i64 (j : Int)) rfl (by kernel_rfl) (by kernel_rfl) (by kernel_rfl) (fun _ _ _ h => h) (.inl ⟨by rfl, fun w' hS' => by go_simp⟩) hS0 ?_
      refine wpAnyH_take (i := 2) (v := .pointer (some ⟨g, off + j, none⟩)) rfl (by kernel_rfl) (by kernel_rfl) (by kernel_rfl) (fun _ _ _ h => h) (.inl ⟨by rfl, fun w' hS' => by go_simp⟩) hS0 ?_
      refine wpAnyH_take (i := 3) (v := .string mt) rfl (by kernel_rfl) (by kernel_rfl) (by kernel_rfl) (fun _ _ _ h => h) (.inl ⟨by rfl, fun w' hS' => by
        have p := cell_since hS' HD.out
        go_simp⟩) hS0 ?_
      refine wpAnyH_take (i := 4) (v := .int .i64 (k + (j : Int))) rfl (by kernel_rfl) (by kernel_rfl) (by kernel_rfl) (fun _ _ _ h => h) (.inl ⟨by rfl, fun w' hS' => by go_simp⟩) hS0 ?_
      refine wpAnyH_one (i := 5) (by kernel_rfl) rfl (fun K hK => ?_)
      go_simp
      refine (HMk.out _).mono ?_
      rintro e V2 ⟨rfl, b2⟩
      have hS1 : Below w.heap.size w V2 := hS0.trans (b2.mono hS0.size)
      clear hS0 b2
      refine hK.out _ _ hS1 (fun _ => ?_)
      clear hK K
      refine wpAnyH_one (i := 6) (by kernel_rfl) rfl (fun K hK => ?_)
      have eb : (mt.toList == mt.toList) = true := by simp
      go_simp
      refine hK.out _ _ hS1 (fun _ => ?_)
      clear hK K
      refine wpAnyH_done (by kernel_rfl) ?_ _
      go_wp2
      go_roundw
      case rel => exact ⟨j + 1, by omega, by congr 1; omega, by go_num, hS1⟩
      case measure => simp [intOf]; omega
    · obtain rfl : j = n := by omega
      go_wp2
      go_ret
      exact ⟨ret_int rfl, hb⟩

/-- The slice v of n states holds the numbers zs, seven a state, in memory of the call's own (from block B on). -/
def OwnZ (w : World) (B : Nat) (v : Value) (n : Nat) (zs : List Int) : Prop := w.ownsRow B 24 7 v n (zs.map (Value.int .i64))
def stZ (xs : List St) : List Int := xs.flatMap fun x => [x.g0, x.g1, x.g2, x.g3, x.l, x.s, x.d]
theorem stZ_cells : ∀ xs : List St, (stZ xs).map (Value.int .i64) = xsCells xs
  | [] => rfl
  | x :: xs => by
    have := stZ_cells xs
    simp only [stZ, xsCells, List.flatMap_cons, List.map_append] at this ⊢
    rw [this]
    rfl
theorem OwnT.ints {w : World} {B : Nat} {v : Value} {xs : List St} (h : OwnT w B v xs) : OwnZ w B v xs.length (stZ xs) := by
  unfold OwnZ
  rw [stZ_cells]
  exact h
theorem OwnZ.shape {w : World} {B n : Nat} {v : Value} {zs : List Int} (h : OwnZ w B v n zs) : ∃ a cap, v = .slice a n cap ∧ (a = none → n = 0) ∧ ∀ x, a = some x → x.off = 0 ∧ x.spot = none ∧ B ≤ x.block := by
  rcases h.2 with ⟨hv, h0⟩ | ⟨g, cap, cur, a, b, c, d, e', f⟩
  · exact ⟨none, 0, by rw [hv, h0], fun _ => h0, by intro x hx; cases hx⟩
  · exact ⟨_, cap, a, (fun hx => by cases hx), (fun x hx => by cases hx; exact ⟨rfl, rfl, b⟩)⟩
theorem OwnZ.length {w : World} {B n : Nat} {v : Value} {zs : List Int} (h : OwnZ w B v n zs) : zs.length = n * 7 := by
  have := h.1
  simpa using this
theorem OwnZ.cell {w : World} {B g cap n m : Nat} {zs : List Int} (h : OwnZ w B (.slice (some ⟨g, 0, none⟩) m cap) n zs) (j : Nat) (hj : j < zs.length) : w.cell? ⟨g, j, none⟩ = some (.int .i64 (zs.getD j 0)) := by
  have h2 := World.ownsRow.cells h (g := g) rfl j (.int .i64 (zs.getD j 0)) (by simp [List.getElem?_eq_getElem hj, List.getD])
  rw [add_off, Nat.zero_add] at h2; exact h2
theorem OwnZ.store {w : World} {B g n cap : Nat} {zs : List Int} (h : OwnZ w B (.slice (some ⟨g, 0, none⟩) n cap) n zs) (j : Nat) (u : Int) :
    OwnZ (w.setCell ⟨g, j, none⟩ (.int .i64 u)) B (.slice (some ⟨g, 0, none⟩) n cap) n (zs.set j u) := by
  have := (World.ownsRow.stored h j (.int .i64 u)).1
  unfold OwnZ
  rw [List.map_set]
  exact this
theorem OwnZ.frozen {w : World} {B g n cap : Nat} {zs : List Int} (h : OwnZ w B (.slice (some ⟨g, 0, none⟩) n cap) n zs) (j : Nat) : w.frozen? ⟨g, j, none⟩ = false := World.ownsRow.frozenAt h j

set_option maxHeartbeats 1000000 in
set_option maxRecDepth 100000 in
theorem laws_eqStateS_true (v u : Value) (ts : List St) (w : World) (hv : StsAt w v ts) (hu : StsAt w u ts) (_hl : ts.length ≤ 1048576) : Calls Tryd.prog 30 #[v, u] w fun e w' => e = .returned (.bool true) ∧ Below w.heap.size w w' := by
  have HV := Lib.hid hv
  have HU := Lib.hid hu
  obtain ⟨a, c, rfl⟩ := hv.form
  obtain ⟨a', c', rfl⟩ := hu.form
  clear hv hu
  have e0 : ((ts.length : Int) != (ts.length : Int)) = false := by simp
  go_enter Tryd.func30, Tryd.ntmps30
  go_wp2
  go_loopw [5] (fun i wr => ∃ k : Nat, k ≤ ts.length ∧ i = .int .i64 k ∧ Below w.heap.size w wr) (fun i _ => ts.length - (intOf i).toNat)
  case atStart => exact ⟨0, Nat.zero_le _, rfl, Below.refl _ _⟩
  case round =>
    obtain ⟨k, hk, rfl, hb⟩ := hrel
    by_cases hlt : k < ts.length
    · obtain ⟨g, off, rfl, x0, x1, x2, x3, x4, x5, x6⟩ := (HV.out.keep hb).pick k hlt
      obtain ⟨g', off', rfl, y0, y1, y2, y3, y4, y5, y6⟩ := (HU.out.keep hb).pick k hlt
      generalize ts[k] = x at *
      have u1 : (0 : Int) ≤ (k : Int) := by omega
      have u2 : (k : Int) < (ts.length : Int) := by omega
      go_wp2
      refine still_tail_w 8 (wr.drewN 1) rfl (by kernel_rfl) (by kernel_rfl) ?_
      simp only [List.take_succ_cons, List.take_zero, List.drop_succ_cons, List.drop_zero]
      repeat still_step
      refine wpStill_nil ?_
      go_wp2_with fail
      refine (laws_eqState_true x _).mono ?_
      rintro e w2 ⟨rfl, b2⟩
      have B2 : Below w.heap.size w w2 := (below_drewN hb 1).trans (b2.mono hb.size)
      clear x0 x1 x2 x3 x4 x5 x6 y0 y1 y2 y3 y4 y5 y6
      go_wp2
      go_roundw
      case rel => exact ⟨k + 1, by omega, by go_num, B2⟩
      case measure => simp [intOf]; omega
    · go_wp2
      go_ret
      exact ⟨rfl, hb⟩

theorem markTo_succ7 (zs : List Int) (k : Int) (j : Nat) (h : j + 6 < zs.length) : ((((((((markTo zs k j).set j (k + j)).set (j + 1) (k + j + 1)).set (j + 2) (k + j + 1 + 1)).set (j + 3) (k + j + 1 + 1 + 1)).set (j + 4) (k + j + 1 + 1 + 1 + 1)).set (j + 5) (k + j + 1 + 1 + 1 + 1 + 1)).set (j + 6) (k + j + 1 + 1 + 1 + 1 + 1 + 1)) = markTo zs k (j + 7) := by
  rw [markTo_succ zs k j (by omega)]
  have e1 : k + (j : Int) + 1 = k + ((j + 1 : Nat) : Int) := by omega
  have e2 : k + (j : Int) + 1 + 1 = k + ((j + 2 : Nat) : Int) := by omega
  have e3 : k + (j : Int) + 1 + 1 + 1 = k + ((j + 3 : Nat) : Int) := by omega
  have e4 : k + (j : Int) + 1 + 1 + 1 + 1 = k + ((j + 4 : Nat) : Int) := by omega
  have e5 : k + (j : Int) + 1 + 1 + 1 + 1 + 1 = k + ((j + 5 : Nat) : Int) := by omega
  have e6 : k + (j : Int) + 1 + 1 + 1 + 1 + 1 + 1 = k + ((j + 6 : Nat) : Int) := by omega
  rw [e6, e5, e4, e3, e2, e1, markTo_succ zs k (j + 1) (by omega), markTo_succ zs k (j + 2) (by omega), markTo_succ zs k (j + 3) (by omega), markTo_succ zs k (j + 4) (by omega), markTo_succ zs k (j + 5) (by omega), markTo_succ zs k (j + 6) (by omega)]

set_option maxHeartbeats 4000000 in
set_option maxRecDepth 100000 in
theorem laws_markStateS (v : Value) (n : Nat) (zs : List Int) (k : Int) (B : Nat) (w : World) (h : OwnZ w B v n zs) (hl : n ≤ 1048576) (hk : 0 ≤ k) (hk2 : k ≤ 1099511627776) : Calls Tryd.prog 32 #[v, .int .i64 k] w fun e w' => e = .returned (.int .i64 (k + (n * 7 : Nat))) ∧ OwnZ w' B v n (marks k (n * 7)) ∧ Below B w w' ∧ w.grownBy w' v.ownBlock := by
  have hlen := h.length
  obtain ⟨a, c, rfl, h3, h4⟩ := h.shape
  cases a with
  | none =>
    obtain rfl := h3 rfl
    have hz : zs = [] := List.length_eq_zero_iff.1 (by omega)
    subst hz
    clear h3 h4
    go_enter Tryd.func32, Tryd.ntmps32
    go_wp2
    go_loop [1, 5] (fun q i => q = .int .i64 k ∧ i = .int .i64 0) (fun _ _ => 0)
    case atStart => exact ⟨rfl, rfl⟩
    case round =>
      obtain ⟨rfl, rfl⟩ := hrel
      go_wp2
      go_ret
      exact ⟨ret_int (by simp), by simpa [marks] using h, Below.refl _ _, grownBy_refl' _ _⟩
  | some x =>
    obtain ⟨g, off, spot⟩ := x
    obtain ⟨rfl, rfl, hB⟩ := h4 _ rfl
    clear h3 h4
    have HL := Lib.hid hlen
    clear hlen
    go_enter Tryd.func32, Tryd.ntmps32
    go_wp2
    go_loopw [1, 5] (fun q i wr => ∃ j : Nat, j ≤ n ∧ q = .int .i64 (k + (j : Int) * 7) ∧ i = .int .i64 j ∧ OwnZ wr B (.slice (some ⟨g, 0, none⟩) n c) n (markTo zs k (j * 7)) ∧ Below B w wr ∧ w.grownBy wr (some g)) (fun _ i _ => n - (intOf i).toNat)
    case atStart => exact ⟨0, Nat.zero_le _, by simp, rfl, by rw [Nat.zero_mul, markTo_zero]; exact h, Below.refl _ _, grownBy_refl' _ _⟩
    case round =>
      clear h
      obtain ⟨j, hj, rfl, rfl, ho, hb, hgb⟩ := hrel
      by_cases hlt : j < n
      · have hzl : (markTo zs k (j * 7)).length = n * 7 := by rw [markTo_length _ _ _ (by have := HL.out; omega), HL.out]
        have f0 := ho.frozen (j * 7)
        have d0 := ho.cell (j * 7) (by omega)
        have f1 := ho.frozen (j * 7 + 1)
        have d1 := ho.cell (j * 7 + 1) (by omega)
        have f2 := ho.frozen (j * 7 + 2)
        have d2 := ho.cell (j * 7 + 2) (by omega)
        have f3 := ho.frozen (j * 7 + 3)
        have d3 := ho.cell (j * 7 + 3) (by omega)
        have f4 := ho.frozen (j * 7 + 4)
        have d4 := ho.cell (j * 7 + 4) (by omega)
        have f5 := ho.frozen (j * 7 + 5)
        have d5 := ho.cell (j * 7 + 5) (by omega)
        have f6 := ho.frozen (j * 7 + 6)
        have d6 := ho.cell (j * 7 + 6) (by omega)
        have ho2 := (((((((ho.store (j * 7) (k + ((j * 7 : Nat) : Int))).store (j * 7 + 1) (k + ((j * 7 : Nat) : Int) + 1)).store (j * 7 + 2) (k + ((j * 7 : Nat) : Int) + 1 + 1)).store (j * 7 + 3) (k + ((j * 7 : Nat) : Int) + 1 + 1 + 1)).store (j * 7 + 4) (k + ((j * 7 : Nat) : Int) + 1 + 1 + 1 + 1)).store (j * 7 + 5) (k + ((j * 7 : Nat) : Int) + 1 + 1 + 1 + 1 + 1)).store (j * 7 + 6) (k + ((j * 7 : Nat) : Int) + 1 + 1 + 1 + 1 + 1 + 1))
        rw [markTo_succ7 zs k (j * 7) (by have := HL.out; omega)] at ho2
        have ec : ((j * 7 : Nat) : Int) = (j : Int) * 7 := by omega
        rw [ec] at ho2
        have HO := Lib.hid ho2
        have HB : Hid (Below B w (((((((wr.setCell ⟨g, j * 7, none⟩ (.int .i64 (k + (j : Int) * 7))).setCell ⟨g, j * 7 + 1, none⟩ (.int .i64 (k + (j : Int) * 7 + 1))).setCell ⟨g, j * 7 + 2, none⟩ (.int .i64 (k + (j : Int) * 7 + 1 + 1))).setCell ⟨g, j * 7 + 3, none⟩ (.int .i64 (k + (j : Int) * 7 + 1 + 1 + 1))).setCell ⟨g, j * 7 + 4, none⟩ (.int .i64 (k + (j : Int) * 7 + 1 + 1 + 1 + 1))).setCell ⟨g, j * 7 + 5, none⟩ (.int .i64 (k + (j : Int) * 7 + 1 + 1 + 1 + 1 + 1))).setCell ⟨g, j * 7 + 6, none⟩ (.int .i64 (k + (j : Int) * 7 + 1 + 1 + 1 + 1 + 1 + 1)))) := Lib.hid (((((((hb.setCell hB _).setCell hB _).setCell hB _).setCell hB _).setCell hB _).setCell hB _).setCell hB _)
        have HG := Lib.hid (((((((hgb.trans (grownBy_setCell' _ g (j * 7) (.int .i64 (k + (j : Int) * 7)))).trans (grownBy_setCell' _ g (j * 7 + 1) (.int .i64 (k + (j : Int) * 7 + 1)))).trans (grownBy_setCell' _ g (j * 7 + 2) (.int .i64 (k + (j : Int) * 7 + 1 + 1)))).trans (grownBy_setCell' _ g (j * 7 + 3) (.int .i64 (k + (j : Int) * 7 + 1 + 1 + 1)))).trans (grownBy_setCell' _ g (j * 7 + 4) (.int .i64 (k + (j : Int) * 7 + 1 + 1 + 1 + 1)))).trans (grownBy_setCell' _ g (j * 7 + 5) (.int .i64 (k + (j : Int) * 7 + 1 + 1 + 1 + 1 + 1)))).trans (grownBy_setCell' _ g (j * 7 + 6) (.int .i64 (k + (j : Int) * 7 + 1 + 1 + 1 + 1 + 1 + 1))))
        have e1 : (0 : Int) ≤ (j : Int) := by omega
        have e2 : (j : Int) < (n : Int) := by omega
        generalize (markTo zs k (j * 7)).getD (j * 7) 0 = y0 at *
        generalize (markTo zs k (j * 7)).getD (j * 7 + 1) 0 = y1 at *
        generalize (markTo zs k (j * 7)).getD (j * 7 + 2) 0 = y2 at *
        generalize (markTo zs k (j * 7)).getD (j * 7 + 3) 0 = y3 at *
        generalize (markTo zs k (j * 7)).getD (j * 7 + 4) 0 = y4 at *
        generalize (markTo zs k (j * 7)).getD (j * 7 + 5) 0 = y5 at *
        generalize (markTo zs k (j * 7)).getD (j * 7 + 6) 0 = y6 at *
        clear ho ho2 hzl ec hgb hb
        go_wp2
        go_roundw
        case rel => exact ⟨j + 1, by omega, by congr 1; omega, by go_num, by rw [show (j + 1) * 7 = j * 7 + 7 by omega]; exact HO.out, HB.out, HG.out⟩
        case measure => simp [intOf]; omega
      · have hjn : j = n := by omega
        subst hjn
        go_wp2
        go_ret
        refine ⟨ret_int (by omega), ?_, hb, hgb⟩
        rw [← HL.out, markTo_full, HL.out] at ho
        exact ho

theorem OwnZ.cells {w : World} {B n : Nat} {v : Value} {k : Int} (h : OwnZ w B v n (marks k (n * 7))) : (n = 0 ∧ ∃ a c, v = .slice a 0 c) ∨ ∃ g c, v = .slice (some ⟨g, 0, none⟩) n c ∧ ∀ j, j < n * 7 → w.cell? ⟨g, j, none⟩ = some (.int .i64 (k + (j : Int))) := by
  obtain ⟨a, c, rfl, h3, h4⟩ := h.shape
  cases a with
  | none => obtain rfl := h3 rfl; exact .inl ⟨rfl, _, _, rfl⟩
  | some x =>
    obtain ⟨g, off, spot⟩ := x
    obtain ⟨rfl, rfl, hB⟩ := h4 _ rfl
    refine .inr ⟨g, c, rfl, fun j hj => ?_⟩
    have := h.cell j (by rw [marks_length]; exact hj)
    rw [marks_at _ _ _ hj] at this
    exact this

set_option maxHeartbeats 4000000 in
set_option maxRecDepth 100000 in
theorem laws_heldStateS (v : Value) (n : Nat) (k : Int) (B : Nat) (w : World) (h : OwnZ w B v n (marks k (n * 7))) (hl : n ≤ 1048576) (hk : 0 ≤ k) (hk2 : k ≤ 1099511627776) : Calls Tryd.prog 34 #[v, .int .i64 k] w fun e w' => e = .returned (.int .i64 (k + (n * 7 : Nat))) ∧ ∃ q, w' = w.drewN q := by
  rcases h.cells with ⟨rfl, a, c, rfl⟩ | ⟨g, c, rfl, hcell⟩
  · clear h
    go_enter Tryd.func34, Tryd.ntmps34
    go_wp2
    go_loop [1, 5] (fun q i => q = .int .i64 k ∧ i = .int .i64 0) (fun _ _ => 0)
    case atStart => exact ⟨rfl, rfl⟩
    case round =>
      obtain ⟨rfl, rfl⟩ := hrel
      go_wp2
      go_ret
      exact ⟨ret_int (by simp), 0, rfl⟩
  · clear h
    have HC := Lib.hid hcell
    clear hcell
    go_enter Tryd.func34, Tryd.ntmps34
    go_wp2
    go_loopw [1, 5] (fun q i wr => ∃ j m : Nat, j ≤ n ∧ q = .int .i64 (k + (j : Int) * 7) ∧ i = .int .i64 j ∧ wr = w.drewN m) (fun _ i _ => n - (intOf i).toNat)
    case atStart => exact ⟨0, 0, Nat.zero_le _, by simp, rfl, rfl⟩
    case round =>
      obtain ⟨j, m, hj, rfl, rfl, rfl⟩ := hrel
      by_cases hlt : j < n
      · have d0 := HC.out (j * 7) (by omega)
        have d1 := HC.out (j * 7 + 1) (by omega)
        have d2 := HC.out (j * 7 + 2) (by omega)
        have d3 := HC.out (j * 7 + 3) (by omega)
        have d4 := HC.out (j * 7 + 4) (by omega)
        have d5 := HC.out (j * 7 + 5) (by omega)
        have d6 := HC.out (j * 7 + 6) (by omega)
        rw [show k + ((j * 7 : Nat) : Int) = k + (j : Int) * 7 by omega] at d0
        rw [show k + ((j * 7 + 1 : Nat) : Int) = k + (j : Int) * 7 + 1 by omega] at d1
        rw [show k + ((j * 7 + 2 : Nat) : Int) = k + (j : Int) * 7 + 1 + 1 by omega] at d2
        rw [show k + ((j * 7 + 3 : Nat) : Int) = k + (j : Int) * 7 + 1 + 1 + 1 by omega] at d3
        rw [show k + ((j * 7 + 4 : Nat) : Int) = k + (j : Int) * 7 + 1 + 1 + 1 + 1 by omega] at d4
        rw [show k + ((j * 7 + 5 : Nat) : Int) = k + (j : Int) * 7 + 1 + 1 + 1 + 1 + 1 by omega] at d5
        rw [show k + ((j * 7 + 6 : Nat) : Int) = k + (j : Int) * 7 + 1 + 1 + 1 + 1 + 1 + 1 by omega] at d6
        have e1 : (0 : Int) ≤ (j : Int) := by omega
        have e2 : (j : Int) < (n : Int) := by omega
        go_wp2
        go_roundw
        case rel => exact ⟨j + 1, m, by omega, by congr 1; omega, by go_num, rfl⟩
        case measure => simp [intOf]; omega
      · have hjn : j = n := by omega
        subst hjn
        go_wp2
        go_ret
        exact ⟨ret_int (by omega), m, rfl⟩

end Go.Proofs.YtibadnfagoehmaaDoor

namespace Go.Proofs.YtibadnfagoehmaaDoor
open Go.ChangeShapes Go.WideShapes Go.ChangeAt Go.RowKit

theorem gReg : Tryd.prog.globalNamed "loop.example/g00748/impl.registry" = some 0 := by kernel_rfl
theorem tReg : (Tryd.prog.globals[0]?).map (·.type) = some 121 := by kernel_rfl
def spD {H : Type} (s : Sp) : DataW H := .agg [.lit (.int .i64 s.1), .lit (.int .i64 s.2.1), .lit (.int .i64 s.2.2)]
def setD {H : Type} (k : Nat) : DataW H := .agg [.lit (.string (setName k).data.toList), .lit (.int .i64 (setKind k)), .lit (.int .i64 (setFinal k)), .slice ((setSpans k).map spD) []]
def regD {H : Type} : List (DataW H) := .agg [.lit (.string []), .lit (.int .i64 0), .lit (.int .i64 0), .nil] :: [setD 1, setD 2, setD 3, setD 4, setD 5, setD 6, setD 7, setD 8]
theorem laid_reg {H : Type} : (Rows.laid_loop_example_g00748_impl_registry : DataW H) = .agg regD := by kernel_rfl
theorem regD_at {H : Type} (k : Nat) (h1 : 1 ≤ k) (h8 : k ≤ 8) : (regD (H := H))[k]? = some (setD k) := by
  have : k = 1 ∨ k = 2 ∨ k = 3 ∨ k = 4 ∨ k = 5 ∨ k = 6 ∨ k = 7 ∨ k = 8 := by omega
  rcases this with rfl | rfl | rfl | rfl | rfl | rfl | rfl | rfl <;> rfl

theorem one_of_take {cs : List Value} {i : Nat} {c : Value} (h : (cs.drop i).take 1 = [c]) : cs[i]? = some c := by
  have := congrArg (fun l => l[0]?) h
  simpa [List.getElem?_take, List.getElem?_drop] using this

set_option maxRecDepth 100000 in
/-- A slice of spans, read. -/
theorem spans_of {H : Type} {enc : TypeId × Value → H} {W : World} {held : Bool} {fuel : Nat} {c : Value} {sp : List Sp} {p : List MemPlace} (hne : sp ≠ [])
    (h : DataW.trod enc Tryd.prog W 0 (fun _ => true) held fuel 108 [c] = some (.slice (sp.map spD) [], p)) : SpAt W c sp := by
  rcases Deep.open_slice Tryd.underlying108 h with ⟨_, hx⟩ | ⟨a, len, cap, m, n, D, Pl, hcs, _, hl, _, hm, hx, hel⟩
  · simp at hx
  · simp only [if_true] at hm
    have e1 := congrArg Prod.fst hx
    simp only [DataW.slice.injEq] at e1
    obtain ⟨e2, e3⟩ := e1
    have hlen : len = sp.length := by simpa using (congrArg List.length e2).symm
    subst hlen
    have c3 : Tryd.prog.cellsOf 133 = 3 := by kernel_rfl
    rw [c3] at hel
    have key : ∀ i (hi : i < sp.length), W.cell? (a.add (i * 3)) = some (.int .i64 (sp[i]).1) ∧ W.cell? ((a.add (i * 3)).add 1) = some (.int .i64 (sp[i]).2.1) ∧ W.cell? ((a.add (i * 3)).add 2) = some (.int .i64 (sp[i]).2.2) := by
      intro i hi
      obtain ⟨cs', h1, h2⟩ := hel i (by omega)
      obtain ⟨_, hlen3, hc⟩ := World.cells?_some h1
      have hD : D i = spD (sp[i]) := by
        have := congrArg (fun l => l[i]?) e2
        simp only [List.getElem?_map, List.getElem?_eq_getElem hi, Option.map_some, List.getElem?_range hi, Option.some.injEq] at this
        exact this.symm
      obtain ⟨y0, y1, y2, q, hy, _, t0, t1, t2⟩ := Deep.trod_struct3 Tryd.underlying133 h2
      have c1 : Tryd.prog.cellsOf 3 = 1 := by kernel_rfl
      obtain ⟨n0, f0, rfl, _⟩ := DataW.trod_int Tryd.underlying3 t0
      obtain ⟨n1, f1, rfl, _⟩ := DataW.trod_int Tryd.underlying3 t1
      obtain ⟨n2, f2, rfl, _⟩ := DataW.trod_int Tryd.underlying3 t2
      have hy1 := congrArg Prod.fst hy
      rw [hD] at hy1
      simp only [spD, DataW.agg.injEq, List.cons.injEq, DataW.lit.injEq, Lit.int.injEq, true_and, and_true] at hy1
      obtain ⟨g0, g1, g2⟩ := hy1
      have k0 := one_of_take (c := .int .i64 n0) (i := 0) (by rw [← c1]; exact f0)
      have k1 := one_of_take (c := .int .i64 n1) (i := 1) (by rw [← c1]; exact f1)
      have k2 := one_of_take (c := .int .i64 n2) (i := 2) (by rw [← c1]; exact f2)
      refine ⟨?_, ?_, ?_⟩
      · have := hc 0 (by omega)
        rw [k0, ← g0] at this
        simpa [Addr.add] using this
      · rw [hc 1 (by omega), k1, ← g1]
      · rw [hc 2 (by omega), k2, ← g2]
    simp only [List.cons.injEq, and_true] at hcs
    subst hcs
    have hpos : 0 < sp.length := List.length_pos_iff.2 hne
    obtain ⟨b, off, spot⟩ := a
    have hspot : spot = none := by
      have := World.cell?_spot (key 0 hpos).1
      simpa [Addr.add] using this
    subst hspot
    refine .inr ⟨b, off, cap, rfl, fun i hi => ?_⟩
    have ⟨h1, h2, h3⟩ := key i hi
    rw [add_off, add_off] at h2 h3
    rw [add_off] at h1
    exact ⟨h1, h2, h3⟩

set_option maxRecDepth 100000 in
theorem sets_of_laid {W : World} (h : laidMetH Tryd.prog [("loop.example/g00748/impl.registry", Rows.laid_loop_example_g00748_impl_registry)] W) : TabSets W := by
  rw [MakeChecks.laidMetH_plain _ _ _ (by kernel_rfl)] at h
  obtain ⟨ps, ⟨g0, t0, cs0, f0, p0, q0, hg0, ht0, hv0, hd0, _, _⟩, _, _⟩ := h
  obtain rfl := Option.some.inj (gReg.symm.trans hg0)
  obtain rfl := Option.some.inj (tReg.symm.trans ht0)
  rw [laid_reg] at hd0
  obtain ⟨xs, m, rfl, hx, _, hlen, hel⟩ := DataW.trod_array Tryd.underlying121 hd0
  have hx1 : regD = xs.map (·.1) := by simpa using congrArg Prod.fst hx
  have c4 : Tryd.prog.cellsOf 110 = 4 := by kernel_rfl
  have c1 : Tryd.prog.cellsOf 3 = 1 := by kernel_rfl
  have c1s : Tryd.prog.cellsOf 9 = 1 := by kernel_rfl
  have c1l : Tryd.prog.cellsOf 108 = 1 := by kernel_rfl
  rw [c4] at hel
  intro k h1 h8
  have hk : k < xs.length := by omega
  have e1 := hel k (by omega)
  rw [List.getElem?_eq_getElem hk] at e1
  have e2 : (xs[k]).1 = setD k := by
    have e3 := regD_at (H := Unit) k h1 h8
    rw [hx1, List.getElem?_map, List.getElem?_eq_getElem hk] at e3
    simpa using e3
  obtain ⟨y0, y1, y2, y3, n, hy, _, t0, t1, t2, t3⟩ := Joins.trod_struct4 Tryd.underlying110 e1
  obtain ⟨s0, f0, rfl, _⟩ := DataW.trod_string Tryd.underlying9 t0
  obtain ⟨n1, f1, rfl, _⟩ := DataW.trod_int Tryd.underlying3 t1
  obtain ⟨n2, f2, rfl, _⟩ := DataW.trod_int Tryd.underlying3 t2
  have hy1 := congrArg Prod.fst hy
  rw [e2] at hy1
  simp only [setD, DataW.agg.injEq, List.cons.injEq, DataW.lit.injEq, Lit.int.injEq, Lit.string.injEq, true_and, and_true] at hy1
  obtain ⟨g0, g1, g2, g3⟩ := hy1
  have hs0 : setName (k : Int) = s0 := ByteArray.ext (Array.toList_inj.1 g0)
  have cell : ∀ j, W.cell? ⟨0, j, none⟩ = cs0[j]? := fun j => by simpa using World.var?_cell gReg hv0 j
  have el : ∀ (j : Nat) (c : Value), j < 4 → ((((cs0.toList.drop (k * 4)).take 4).drop j).take 1) = [c] → W.cell? ⟨0, k * 4 + j, none⟩ = some c := by
    intro j c hj h
    have h2 := one_of_take h
    rw [List.getElem?_take_of_lt hj, List.getElem?_drop, Array.getElem?_toList] at h2
    rw [cell, h2]
  have l3 : ∃ c, ((((cs0.toList.drop (k * 4)).take 4).drop 3).take 1) = [c] := by
    rw [c1l] at t3
    rcases Deep.open_slice Tryd.underlying108 t3 with ⟨h, _⟩ | ⟨a, len, cap, _, _, _, _, h, _⟩
    · exact ⟨_, h⟩
    · exact ⟨_, h⟩
  obtain ⟨c, hc⟩ := l3
  refine ⟨?_, ?_, ?_, c, el 3 c (by decide) hc, ?_⟩
  · rw [hs0]
    exact el 0 _ (by decide) (by rw [← c1s]; exact f0)
  · rw [g1]
    exact el 1 _ (by decide) (by rw [← c1]; exact f1)
  · rw [g2]
    exact el 2 _ (by decide) (by rw [← c1]; exact f2)
  · have t4 : DataW.trod (fun _ : TypeId × Value => ()) Tryd.prog W 0 (fun _ => true) false n 108 [c] = some y3 := by
      rw [← hc, ← c1l]; exact t3
    obtain ⟨y3a, y3b⟩ := y3
    simp only at g3
    rw [← g3] at t4
    exact spans_of (by have := (set_few (k : Int)).1; intro h; rw [h] at this; simp at this) t4

theorem sets_readable : ∀ n ∈ ["loop.example/g00748/impl.registry"], ∀ g t, Tryd.prog.globalNamed n = some g → (Tryd.prog.globals[g]?).map (·.type) = some t → Tryd.prog.readableRec t = true ∧ t < Tryd.prog.types.size := by
  intro n hn g t hg ht
  obtain rfl : n = _ := List.mem_singleton.1 hn
  obtain rfl := Option.some.inj (gReg.symm.trans hg)
  obtain rfl := Option.some.inj (tReg.symm.trans ht)
  exact ⟨by kernel_rfl, of_decide_eq_true (by kernel_rfl)⟩

end Go.Proofs.YtibadnfagoehmaaDoor

namespace Go.Proofs.YtibadnfagoehmaaDoor
open Go.ChangeShapes Go.WideShapes Go.ChangeAt Go.RowKit

set_option maxRecDepth 100000 in
theorem tabM_of_laid {W : World} (h : laidMetH Tryd.prog [("loop.example/g00748/impl.registry", Rows.laid_loop_example_g00748_impl_registry)] W) : TabM W := by
  refine ⟨sets_of_laid h, ?_⟩
  rw [MakeChecks.laidMetH_plain _ _ _ (by kernel_rfl)] at h
  obtain ⟨ps, ⟨g0, t0, cs0, f0, p0, q0, hg0, ht0, hv0, hd0, _, _⟩, _, _⟩ := h
  obtain rfl := Option.some.inj (gReg.symm.trans hg0)
  obtain rfl := Option.some.inj (tReg.symm.trans ht0)
  rw [laid_reg] at hd0
  obtain ⟨xs, m, rfl, hx, _, hlen, hel⟩ := DataW.trod_array Tryd.underlying121 hd0
  have hx1 : regD = xs.map (·.1) := by simpa using congrArg Prod.fst hx
  have c4 : Tryd.prog.cellsOf 110 = 4 := by kernel_rfl
  have c1 : Tryd.prog.cellsOf 3 = 1 := by kernel_rfl
  rw [c4] at hel
  have hk : 0 < xs.length := by omega
  have e1 := hel 0 (by omega)
  rw [List.getElem?_eq_getElem hk] at e1
  have e2 : (xs[0]).1 = .agg [.lit (.string []), .lit (.int .i64 0), .lit (.int .i64 0), .nil] := by
    have e3 : (regD (H := Unit))[0]? = some (.agg [.lit (.string []), .lit (.int .i64 0), .lit (.int .i64 0), .nil]) := rfl
    rw [hx1, List.getElem?_map, List.getElem?_eq_getElem hk] at e3
    simpa using e3
  obtain ⟨y0, y1, y2, y3, n, hy, _, t0, t1, t2, t3⟩ := Joins.trod_struct4 Tryd.underlying110 e1
  obtain ⟨n1, f1, rfl, _⟩ := DataW.trod_int Tryd.underlying3 t1
  have hy1 := congrArg Prod.fst hy
  rw [e2] at hy1
  simp only [DataW.agg.injEq, List.cons.injEq, DataW.lit.injEq, Lit.int.injEq, true_and, and_true] at hy1
  obtain ⟨_, g1, _⟩ := hy1
  have cell : ∀ j, W.cell? ⟨0, j, none⟩ = cs0[j]? := fun j => by simpa using World.var?_cell gReg hv0 j
  have h2 := one_of_take (by rw [← c1]; exact f1)
  rw [List.getElem?_take_of_lt (by decide), List.getElem?_drop, Array.getElem?_toList] at h2
  rw [cell]
  rw [← g1] at h2
  simpa using h2

end Go.Proofs.YtibadnfagoehmaaDoor

namespace Go.Proofs.YtibadnfagoehmaaDoor.fnExactFormsOf
open Go.RowKit

theorem fmZ_few (n : Int) (x : St) (r : Int) : (fmZ n x r).length ≤ 3 := by
  unfold fmZ
  split
  · exact forms_few n x r
  · simp

set_option maxHeartbeats 2000000 in
set_option maxRecDepth 100000 in
theorem walkS (x : St) (n r : Int) (w : World) (hd : Wide64 x) (ht : TabM w) : Calls Tryd.prog 6 #[.int .i64 n, stV x, .int .i64 r] w fun e w' => e = .returned (.bool true) ∧ Below w.heap.size w w' := by
  have HT := Lib.hid ht
  have B0 := Lib.hid (below_one w (.cells #[.int .i64 x.g0, .int .i64 x.g1, .int .i64 x.g2, .int .i64 x.g3, .int .i64 x.l, .int .i64 x.s, .int .i64 x.d] 49))
  have HL0 := Lib.hid (LSt.new w x)
  have HC := Lib.hid (fun w => laws_toState x w)
  have HS := Lib.hid (fun w => spec_FormsOf n x r w)
  have HI := Lib.hid (fun w ht => impl_FormsOf n x r w ht hd)
  have hfew := fmZ_few n x r
  clear ht
  unfold StDone at HC
  unfold FoDone at HS HI
  generalize fmC n x r = rc at *
  generalize fmZ n x r = Ts at *
  obtain ⟨N, hN⟩ : ∃ N, Ts.length = N := ⟨_, rfl⟩
  rw [hN] at hfew
  have HMk := Lib.hid (fun v B w (h : OwnS w B v Ts) hB => laws_markStringS v Ts 1 B w h hB (by omega) (by omega) (by omega))
  have HHk := Lib.hid (fun v w h => laws_heldStringS v N 1 w h (by omega) (by omega) (by omega))
  have HEs := Lib.hid (fun v u w hv hu => laws_eqStringS_true v u Ts w hv hu (by omega))
  rw [hN] at HMk
  clear hN
  unfold stV at HC HS HI ⊢
  clear hd
  go_enter Tryd.func6, Tryd.ntmps6
  go_wp2_with fail
  refine (HC.out _).mono ?_
  generalize w.alloc (.cells #[.int .i64 x.g0, .int .i64 x.g1, .int .i64 x.g2, .int .i64 x.g3, .int .i64 x.l, .int .i64 x.s, .int .i64 x.d] 49) = w0 at *
  rintro e w1 ⟨rfl, b1⟩
  have B1 : Hid (Below w.heap.size w w1) := Lib.hid (B0.out.trans (b1.mono B0.out.size))
  have HL1 := Lib.hid (HL0.out.keep b1)
  clear b1 HL0 B0
  go_wp2_with fail
  refine (HS.out _).mono ?_
  rintro e w2 ⟨v1, rfl, oS1, b2⟩
  have B2 : Hid (Below w.heap.size w w2) := Lib.hid (B1.out.trans (b2.mono B1.out.size))
  have HL2 := Lib.hid (HL1.out.keep b2)
  have R1 := Lib.hid oS1.reads
  clear b2 HL1 oS1 B1
  have ⟨y0, y1, y2, y3, y4, y5, y6⟩ := HL2.out.cells
  go_wp2_with fail
  refine (HC.out _).mono ?_
  clear y0 y1 y2 y3 y4 y5 y6
  rintro e w3 ⟨rfl, b3⟩
  have C3 := Lib.hid b3
  clear b3
  go_wp2_with fail
  refine (HI.out _ (HT.out.keep (B2.out.trans (C3.out.mono B2.out.size)))).mono ?_
  rintro e w4 ⟨v2, rfl, oS4, b4⟩
  have C4 := Lib.hid (C3.out.trans (b4.mono C3.out.size))
  have O4 := Lib.hid oS4
  have hs34 : w3.heap.size ≤ w4.heap.size := b4.size
  clear b4 oS4
  go_wp2_with fail
  refine (HEs.out _ _ _ O4.out.reads (R1.out.keep C4.out)).mono ?_
  rintro e w5 ⟨rfl, b5⟩
  have C5 := Lib.hid (C4.out.trans (b5.mono C4.out.size))
  have O5 := Lib.hid (O4.out.all b5)
  have hs35 : w3.heap.size ≤ w5.heap.size := Nat.le_trans hs34 b5.size
  clear b5 O4 C4 hs34
  go_wp2_with fail
  refine (HMk.out _ w3.heap.size _ O5.out hs35).mono ?_
  rintro e w7 ⟨rfl, oS7, b7, g7⟩
  have C7 := Lib.hid (C5.out.trans (b7.mono C3.out.size))
  have O7 := Lib.hid oS7
  clear b7 g7 oS7 O5 C5 hs35
  go_wp2_with fail
  refine (HHk.out _ _ O7.out.reads).mono ?_
  rintro e w9 ⟨rfl, b9⟩
  have C9 := Lib.hid (C7.out.trans (b9.mono C7.out.size))
  have O9 := Lib.hid (O7.out.all b9)
  clear b9 O7 C7
  have ⟨y0, y1, y2, y3, y4, y5, y6⟩ := (HL2.out.keep C9.out).cells
  go_wp2_with fail
  refine (HC.out _).mono ?_
  clear y0 y1 y2 y3 y4 y5 y6
  rintro e w11 ⟨rfl, b11⟩
  have C11 := Lib.hid (C9.out.trans (b11.mono C9.out.size))
  have O11 := Lib.hid (O9.out.all b11)
  clear b11 O9 C9
  go_wp2_with fail
  refine (HI.out _ (HT.out.keep (B2.out.trans (C11.out.mono B2.out.size)))).mono ?_
  rintro e w12 ⟨v3, rfl, oS12, b12⟩
  have C12 := Lib.hid (C11.out.trans (b12.mono C11.out.size))
  have O12 := Lib.hid (O11.out.all b12)
  have P12 := Lib.hid oS12.reads
  clear b12 O11 C11 oS12
  go_wp2_with fail
  refine (HEs.out _ _ _ P12.out (R1.out.keep C12.out)).mono ?_
  rintro e w13 ⟨rfl, b13⟩
  have C13 := Lib.hid (C12.out.trans (b13.mono C12.out.size))
  have O13 := Lib.hid (O12.out.all b13)
  clear b13 O12 C12 P12
  go_wp2_with fail
  refine (HHk.out _ _ O13.out.reads).mono ?_
  rintro e w15 ⟨rfl, b15⟩
  have B16 : Hid (Below w.heap.size w w15) := Lib.hid (B2.out.trans ((C13.out.trans (b15.mono C13.out.size)).mono B2.out.size))
  go_wp2
  go_ret
  exact ⟨rfl, B16.out⟩

theorem walk (n : Int) (g0 g1 g2 g3 l s d : Int) (r : Int) (w : World) (_h1 : (Lit.int .i64 n).wf = true) (hw : ∀ z ∈ [g0, g1, g2, g3, l, s, d], (Lit.int .i64 z).wf = true) (_h2 : (Lit.int .i64 r).wf = true) (ht : TabM w) : Calls Tryd.prog 6 #[.int .i64 n, .agg #[.int .i64 g0, .int .i64 g1, .int .i64 g2, .int .i64 g3, .int .i64 l, .int .i64 s, .int .i64 d], .int .i64 r] w fun e w' => e = .returned (.bool true) ∧ Below w.heap.size w w' :=
  walkS ⟨g0, g1, g2, g3, l, s, d⟩ n r w (bounds_i64 (hw d (by simp))) ht

theorem table {W : World} (h : laidMetH Tryd.prog Rows.fnExactFormsOfRow.laid W) : TabM W := tabM_of_laid h
theorem readable : ∀ n ∈ Rows.fnExactFormsOfSpec.vars, ∀ g t, Tryd.prog.globalNamed n = some g → (Tryd.prog.globals[g]?).map (·.type) = some t → Tryd.prog.readableRec t = true ∧ t < Tryd.prog.types.size := sets_readable

end Go.Proofs.YtibadnfagoehmaaDoor.fnExactFormsOf

namespace Go.Proofs.YtibadnfagoehmaaDoor.fnExactFormsOf
open Go.ChangeShapes Go.WideShapes Go.ChangeAt Go.RowKit
open Go.ChangeMaps (open_string shut_string)
set_option linter.unusedVariables false

set_option maxRecDepth 100000 in
theorem contract (H : Type) (enc : TypeId × Value → H) (W : World) (base : Nat) (args : Array Value) (ds gs : List (DataW H)) (before : List MemPlace)
    (hval : ∀ (j : Nat) t v, Tryd.f6.params[j]? = some t → args[j]? = some v → Value.okWide Tryd.prog W .any base t v)
    (hW : DataW.Whole enc Tryd.prog Tryd.f6.params.toList Rows.fnExactFormsOfSpec.vars false W args.toList ds gs before) (hL : laidMetH Tryd.prog Rows.fnExactFormsOfRow.laid W) :
    Calls Tryd.prog 6 args W fun e W' => ∃ v, e = .returned v ∧ Rows.fnExactFormsOfSpec.post enc Tryd.prog Tryd.f6 false true false false W args v W' := by
  have HT := Lib.hid (table hL)
  clear hL
  have hW' := hW
  obtain ⟨p, q, hA0, hV0, rfl, hfz, hnd⟩ := hW
  have hV : DataW.TrodVars enc Tryd.prog W (fun _ => true) ["loop.example/g00748/impl.registry"] gs q := hV0
  clear hV0
  have hA : DataW.TrodAll enc Tryd.prog W 0 (fun _ => true) true Tryd.f6.params.toList args.toList ds p := hA0
  rw [Tryd.params6] at hA hval
  obtain ⟨v0, vs0, d0, ds0, p0, q0, hargs, rfl, rfl, h0, r0⟩ := trodAll_cons hA
  obtain ⟨v1, vs1, d1, ds1, p1, q1, rfl, rfl, rfl, h1, r1⟩ := trodAll_cons r0
  obtain ⟨v2, vs2, d2, ds2, p2, q2, rfl, rfl, rfl, h2, r2⟩ := trodAll_cons r1
  obtain ⟨rfl, rfl, rfl⟩ := trodAll_nil r2
  obtain rfl : args = #[v0, v1, v2] := by cases args; simp_all
  have hgs : ∃ d, gs = [d] := by obtain ⟨_, _, _, _, d, _, hgs, _⟩ := trodVars_one hV; exact ⟨d, hgs⟩
  obtain ⟨g1, rfl⟩ := hgs
  obtain ⟨a0, rfl, rfl, rfl, w0⟩ := open_int Tryd.underlying3 (hval 0 3 v0 rfl rfl) h0
  obtain ⟨z1, l1, rfl, rfl, rfl, w1⟩ := open_intStruct Tryd.underlying49 (by kernel_rfl) (by kernel_rfl) (hval 1 49 v1 rfl rfl) h1
  obtain ⟨a1_0, a1_1, a1_2, a1_3, a1_4, a1_5, a1_6, rfl⟩ := list7 l1
  obtain ⟨a2, rfl, rfl, rfl, w2⟩ := open_int Tryd.underlying3 (hval 2 3 v2 rfl rfl) h2
  clear hA0
  refine (walk a0 a1_0 a1_1 a1_2 a1_3 a1_4 a1_5 a1_6 a2 W w0 w1 w2 HT.out).mono fun e W' ⟨he, bel⟩ => ?_
  subst he
  exact ⟨_, rfl, _, _, _, [], [], q, hW', trodAll_mk1 (shut_bool Tryd.underlying4 _), (trodAll_cons_mk (shut_int Tryd.underlying3 w0) (trodAll_cons_mk (shut_intStruct Tryd.underlying49 (by kernel_rfl) (by kernel_rfl) [a1_0, a1_1, a1_2, a1_3, a1_4, a1_5, a1_6] rfl w1) (trodAll_cons_mk (shut_int Tryd.underlying3 w2) trodAll_mk0))), trodVars_below laidOut bel readable hV, bel.frame _, fun h => by cases h⟩

theorem laid_met (os : Os) : laidMetH Tryd.prog Rows.fnExactFormsOfRow.laid ((World.doorLaid Tryd.prog 400 os).forCall (fun _ _ => 0) ⟨#[], #[.int .i64 0, .agg #[.int .i64 0, .int .i64 0, .int .i64 0, .int .i64 0, .int .i64 0, .int .i64 0, .int .i64 0], .int .i64 0], []⟩).memory :=
  laidMetH_of_parts3 (fuel := 8) (laidMet_of_run' 8 (by kernel_rfl) (by kernel_rfl)) (by kernel_rfl) (by kernel_rfl)
theorem reads (os : Os) {H : Type} (enc : TypeId × Value → H) : ∃ x, DataW.whole enc Tryd.prog ((World.doorLaid Tryd.prog 400 os).forCall (fun _ _ => 0) ⟨#[], #[.int .i64 0, .agg #[.int .i64 0, .int .i64 0, .int .i64 0, .int .i64 0, .int .i64 0, .int .i64 0, .int .i64 0], .int .i64 0], []⟩).memory Tryd.f6.params.toList Rows.fnExactFormsOfSpec.vars false #[.int .i64 0, .agg #[.int .i64 0, .int .i64 0, .int .i64 0, .int .i64 0, .int .i64 0, .int .i64 0, .int .i64 0], .int .i64 0].toList 8 = some x :=
  Option.isSome_iff_exists.1 (by kernel_rfl)

set_option maxRecDepth 100000 in
theorem lifted (os : Os) (started : os.Started) (H : Type) (enc : TypeId × Value → H) (F : Stop.Interp) :
    ReturnsInHanded {} Tryd.checked os 6 .any ((OpenSpec.ofChange Rows.fnExactFormsOfSpec).preRow enc Tryd.prog Tryd.f6 Rows.fnExactFormsOfRow.domain false Rows.fnExactFormsOfRow.laid) (((OpenSpec.ofChange Rows.fnExactFormsOfSpec).at F).post enc Tryd.prog Tryd.f6 false true false false) := by
  obtain ⟨x, hx⟩ := reads os enc
  refine returnsInHanded_of_row (C := Tryd.checked) (s := OpenSpec.ofChange Rows.fnExactFormsOfSpec) own started (by kernel_rfl) Tryd.func6
    (witness_row_atRef (enc := enc) (C := Tryd.checked) false (World.doorLaid Tryd.prog 400 os) #[.int .i64 0, .agg #[.int .i64 0, .int .i64 0, .int .i64 0, .int .i64 0, .int .i64 0, .int .i64 0, .int .i64 0], .int .i64 0] rfl (by kernel_rfl) (by kernel_rfl) (by kernel_rfl)
      (OpenSpec.preRow_of_cond 8 hx rfl (fun k hk => by cases hk) (by kernel_rfl) (laid_met os))) ?_
  intro W base args ds gs before hval hW _ _ _ hL _ _
  exact contract H enc W base args ds gs before hval hW hL

theorem said : Rows.FnExactFormsOfSaid :=
  OpenClaim.holds_of_cond 6 Tryd.f6 rfl rfl rfl rfl rfl rfl rfl ⟨rfl, rfl, rfl, rfl, rfl⟩ rfl rfl rfl rfl rfl (by kernel_rfl) Tryd.func6 (by kernel_rfl)
    (of_decide_eq_true (by kernel_rfl)) (by unfold Func.isWrapper; first | (rw [if_pos (by decide +kernel)]; kernel_rfl) | (rw [if_neg (by decide +kernel)]; exact ⟨rfl, rfl⟩))
    (fun os started H enc _ F => by rw [OpenClaim.pre_eq_preRow]; exact lifted os started H enc F)

theorem plain (f : FuncId) (fn : Func) (hf : Tryd.pinned.checked.prog.funcNamed "loop.example/g00748/laws.FnExactFormsOf" = some f) (hfn : Tryd.pinned.checked.prog.funcs[f]? = some fn) :
    Rows.fnExactFormsOfCard.stood.looks = Tryd.pinned.checked.prog.looks [] ∧ ∀ (j : Nat) t, fn.params[j]? = some t → Tryd.pinned.checked.prog.wantsStandIn t = false := by
  obtain rfl : f = 6 := Option.some.inj ((show Tryd.prog.funcNamed "loop.example/g00748/laws.FnExactFormsOf" = some 6 by kernel_rfl).symm.trans hf) |>.symm
  obtain rfl : fn = Tryd.f6 := (Option.some.inj (Tryd.func6.symm.trans hfn)).symm
  refine ⟨by kernel_rfl, fun j t ht => ?_⟩
  rw [Tryd.params6] at ht
  have hm := Array.mem_of_getElem? ht
  simp at hm
  rcases hm with rfl | rfl | rfl
  · exact (show Tryd.prog.wantsStandIn 3 = false by kernel_rfl)
  · exact (show Tryd.prog.wantsStandIn 49 = false by kernel_rfl)
  · exact (show Tryd.prog.wantsStandIn 3 = false by kernel_rfl)

theorem card : Rows.FnExactFormsOfCardSaid :=
  Claim7.holds_tied_plain_at .later [] _ _ _ _ said (fun _ h => by cases h) (by kernel_rfl) (fun _ h => by cases h) fnExactFormsOf_row_tie rfl ⟨rfl, rfl⟩ (by kernel_rfl) rfl plain (by kernel_rfl)
end Go.Proofs.YtibadnfagoehmaaDoor.fnExactFormsOf

namespace Go.Proofs.YtibadnfagoehmaaDoor
theorem fnExactFormsOf_holds : Rows.FnExactFormsOfCardSaid := fnExactFormsOf.card
end Go.Proofs.YtibadnfagoehmaaDoor
