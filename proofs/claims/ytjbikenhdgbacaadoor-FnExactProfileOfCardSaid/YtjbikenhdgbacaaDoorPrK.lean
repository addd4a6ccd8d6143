/- The program's sets for a register of a profile. -/
import Derived.Test.YtjbikenhdgbacaaDoorPrJ
import Derived.Test.YtjbikenhdgbacaaDoorPrC
import Derived.Test.YtjbikenhdgbacaaDoorPlC
namespace Go.Proofs.YtjbikenhdgbacaaDoor
open Go.RowKit

set_option maxHeartbeats 400000 in
theorem slices_Index (v : Value) (zs : List Int) (n : Int) (w : World) (h : Ints .i64 w v zs) (hl : zs.length ≤ 1048576) : Calls Tryd.prog 169 #[v, .int .i64 n] w fun e w' => ∃ r, e = .returned (.int .i64 r) ∧ decide (0 ≤ r) = hasB zs n ∧ w = w' := by
  rcases h with ⟨rfl, a, c, rfl⟩ | ⟨b, off, c, rfl, hcell⟩
  · go_enter Tryd.func169, Tryd.ntmps169
    go_wp2
    go_loop [8] (fun i => i = .int .i64 0) (fun _ => 0)
    case atStart => rfl
    case round =>
      subst hrel
      go_wp2
      go_ret
      exact ⟨_, rfl, rfl, rfl⟩
  · generalize hm : zs.length = m at *
    have HM := Lib.hid hm
    clear hm
    go_enter Tryd.func169, Tryd.ntmps169
    go_wp2
    go_loop [8] (fun i => ∃ j : Nat, j ≤ m ∧ i = .int .i64 j ∧ Hid (hasB (zs.take j) n = false)) (fun i => m - (intOf i).toNat)
    case atStart => exact ⟨0, Nat.zero_le _, rfl, Lib.hid rfl⟩
    case round =>
      obtain ⟨j, hj, rfl, HJ⟩ := hrel
      by_cases hlt : j < m
      · have c1 := hcell j hlt
        have e1 : (0 : Int) ≤ (j : Int) := by omega
        have e2 : (j : Int) < (m : Int) := by omega
        have HT := Lib.hid (hasB_take zs j n (by have := HM.out; omega))
        generalize zs.getD j 0 = z at *
        clear hcell
        by_cases hz : z = n
        · have ez : (n == z) = true := by simp [hz]
          have HE : Hid (hasB zs n = true) := Lib.hid (by
            have h1 : hasB (zs.take (j + 1)) n = true := by rw [HT.out, hz]; simp
            rw [hasB_iff] at h1 ⊢
            exact List.mem_of_mem_take h1)
          have HD : Hid (decide ((0 : Int) ≤ (j : Int)) = hasB zs n) := Lib.hid (by rw [HE.out]; exact decide_eq_true e1)
          clear hz
          go_wp2
          go_ret
          exact ⟨_, rfl, HD.out, rfl⟩
        · have ez : (n == z) = false := by
            have : ¬ n = z := fun h => hz h.symm
            simp [this]
          have HN : Hid (hasB (zs.take (j + 1)) n = false) := Lib.hid (by
            rw [HT.out, HJ.out]
            simp [hz])
          clear hz
          go_wp2
          go_round
          case rel => exact ⟨j + 1, by omega, by go_num, HN⟩
          case measure => simp [intOf]; omega
      · have HE : Hid (hasB zs n = false) := Lib.hid (by
          have h := HJ.out
          rw [List.take_of_length_le (by have := HM.out; omega)] at h
          exact h)
        go_wp2
        go_ret
        exact ⟨_, rfl, by rw [HE.out]; rfl, rfl⟩

theorem slices_Contains (v : Value) (zs : List Int) (n : Int) (w : World) (h : Ints .i64 w v zs) (hl : zs.length ≤ 1048576) : Calls Tryd.prog 160 #[v, .int .i64 n] w fun e w' => e = .returned (.bool (hasB zs n)) ∧ w = w' := by
  have HI := Lib.hid (fun w h => slices_Index v zs n w h hl)
  have HV := Lib.hid h
  clear h
  generalize hasB zs n = q at *
  go_enter Tryd.func160, Tryd.ntmps160
  go_wp2_with fail
  refine (HI.out _ HV.out).mono ?_
  rintro e w1 ⟨r, rfl, hr, rfl⟩
  have HR := Lib.hid hr
  clear hr
  go_wp2
  go_ret
  exact ⟨ret_bool HR.out, rfl⟩

theorem PlacesAt.move {w w' : World} {C mb : Nat} (h : PlacesAt w C mb) (hk : ∀ i, C ≤ i → i < w.heap.size → w'.heap[i]? = w.heap[i]?) : PlacesAt w' C mb := by
  obtain ⟨blk, h1, h2, hC, es, h3, h4⟩ := h
  exact ⟨blk, fun k hk10 => ⟨(h1 k hk10).1, (hk _ (h1 k hk10).1 (Array.getElem?_eq_some_iff.1 (h1 k hk10).2).1).trans (h1 k hk10).2⟩, h2, hC, es, (hk _ hC (Array.getElem?_eq_some_iff.1 h3).1).trans h3, h4⟩
theorem PlacesAt.keep {w w' : World} {C mb : Nat} (h : PlacesAt w C mb) (b : Below w.heap.size w w') : PlacesAt w' C mb := h.move fun i _ hi => b.block i hi
theorem PlacesAt.only {w w' : World} {C mb b : Nat} (h : PlacesAt w C mb) (o : Only b w w') (hb : b < C) : PlacesAt w' C mb := h.move fun i hi hl => o.2 i (by omega) hl
theorem PlacesAt.low {w : World} {C C' mb : Nat} (h : PlacesAt w C mb) (hC : C' ≤ C) : PlacesAt w C' mb := by
  obtain ⟨blk, h1, h2, h3, h4⟩ := h
  exact ⟨blk, fun k hk => ⟨Nat.le_trans hC (h1 k hk).1, (h1 k hk).2⟩, h2, Nat.le_trans hC h3, h4⟩

/-- The number of a profile's register among the places; 10 of none. -/
def plNo (n a : Int) : Nat := if n = 1 ∧ a = 0 then 0 else if n = 2 ∧ a = 0 then 1 else if n = 2 ∧ a = 2 then 2 else if n = 3 ∧ a = 0 then 3 else if n = 3 ∧ a = 1 then 4 else if n = 4 ∧ a = 0 then 5 else if n = 4 ∧ a = 1 then 6 else if n = 4 ∧ a = 2 then 7 else if n = 5 ∧ a = 0 then 8 else if n = 5 ∧ a = 1 then 9 else 10
theorem plNo_spec {n a : Int} (hn : proB n = true) (a0 : 0 ≤ a) (a3 : a ≤ 3) : (plNo n a < 10 ∧ plKey (plNo n a) = (n, a) ∧ plList (plNo n a) = prSets n a) ∨ ((∀ k, k < 10 → plKey k ≠ (n, a)) ∧ prSets n a = []) := by
  rcases pro_cases hn with rfl | rfl | rfl | rfl | rfl <;> rcases (show a = 0 ∨ a = 1 ∨ a = 2 ∨ a = 3 by omega) with rfl | rfl | rfl | rfl <;> decide +kernel
theorem plList_few : ∀ k, (plList k).length ≤ 6 := by
  intro k
  by_cases h : k < 10
  · exact (show ∀ k, k < 10 → (plList k).length ≤ 6 by decide +kernel) k h
  · have : plList k = [] := by
      unfold plList
      rw [List.getD_eq_getElem?_getD, List.getElem?_eq_none (by simp [plLists]; omega)]
      rfl
    rw [this]
    decide
theorem own_row {w : World} {C b k : Nat} (hC : C ≤ b) (h : w.heap[b]? = some (plC k)) : Own .i64 3 w C (plSl b k) (plList k) := by
  refine ⟨by simp, .inr ⟨b, (plList k).length, _, rfl, hC, h, Nat.le_refl _, ?_, by simp, List.take_of_length_le (by simp)⟩⟩
  have := plList_few k
  unfold maxLen
  omega

/-- The value of a register's sets: a row of the map's own, or nil. -/
theorem PlacesAt.look {w : World} {C mb : Nat} (h : PlacesAt w C mb) {n a : Int} (hn : proB n = true) (a0 : 0 ≤ a) (a3 : a ≤ 3) : ∃ s l c, (∀ q, (Instr.lookup 106 (.map (some mb)) (.agg #[.int .i64 n, .int .i64 a]) false).run Tryd.prog (w.drewN q) = .ok (.slice s l c) (w.drewN q)) ∧ Own .i64 3 w C (.slice s l c) (prSets n a) := by
  obtain ⟨blk, h1, h2, hC, es, h3, h4, h5⟩ := h
  have hl := fun q => lookup_place (w := w.drewN q) n a h3
  rcases plNo_spec hn a0 a3 with ⟨k1, k2, k3⟩ | ⟨k1, k2⟩
  · obtain ⟨i, hi⟩ := (h4 _ k1).1 rfl
    rw [k2] at hi
    rw [hi] at hl
    refine ⟨_, _, _, hl, ?_⟩
    rw [← k3]
    exact own_row (h1 _ k1).1 (h1 _ k1).2
  · rw [h5 n a k1] at hl
    refine ⟨_, _, _, hl, ?_⟩
    rw [k2]
    exact Own.nil _ _ _ _

/-- A guide with its map, made or not yet. -/
def GuOK (w : World) (g : Nat) (n : Int) (C : Nat) : Prop := ∃ m, GuAt w g n m ∧ (m = .map none ∨ ∃ mb, m = .map (some mb) ∧ PlacesAt w C mb)
theorem GuOK.keep {w w' : World} {g C : Nat} {n : Int} (h : GuOK w g n C) (b : Below w.heap.size w w') : GuOK w' g n C := by
  obtain ⟨m, h1, h2⟩ := h
  refine ⟨m, h1.keep b, h2.imp id ?_⟩
  rintro ⟨mb, h3, h4⟩
  exact ⟨mb, h3, h4.keep b⟩
theorem GuOK.only {w w' : World} {g C b : Nat} {n : Int} (h : GuOK w g n C) (o : Only b w w') (hb : b < C) (hg : g ≠ b) : GuOK w' g n C := by
  obtain ⟨m, h1, h2⟩ := h
  refine ⟨m, (o.2 g hg h1.lt).trans h1, h2.imp id ?_⟩
  rintro ⟨mb, h3, h4⟩
  exact ⟨mb, h3, h4.only o hb⟩
theorem GuAt.put {w : World} {g : Nat} {n : Int} {m : Value} (h : GuAt w g n m) (m' : Value) : GuAt (w.setCell ⟨g, 9, none⟩ m') g n m' := heap_setCell_same _ _ 9 _ _ m' h

def SfDone (n a : Int) (g C : Nat) (w : World) (e : Ending) (w' : World) : Prop := ∃ s l c mb, e = .returned (.slice s l c) ∧ GuAt w' g n (.map (some mb)) ∧ PlacesAt w' C mb ∧ Own .i64 3 w' C (.slice s l c) (prSets n a) ∧ Only g w w'

set_option maxHeartbeats 1000000 in
theorem impl_setsFor (n : Int) (a : Int) (g C : Nat) (w : World) (h : GuOK w g n C) (hg : g < C) (hC : C ≤ w.heap.size) (hn : proB n = true) (a0 : 0 ≤ a) (a3 : a ≤ 3) : Calls Tryd.prog 161 #[.pointer (some ⟨g, 0, none⟩), .int .i64 a] w (SfDone n a g C w) := by
  obtain ⟨m, hm, h2⟩ := h
  have q1 : ∀ (x y : Operand) (m : Option Nat) (w : World), (eqGuard .eql 106 x y (.map m) (.map none)).run Tryd.prog w = .ok () w := fun _ _ _ _ => by kernel_rfl
  have q2 : ∀ (w : World), (binOp .eql 106 (.map none) (.map none)).run Tryd.prog w = .ok (.bool true) w := fun _ => by kernel_rfl
  have q3 : ∀ (mb : Nat) (w : World), (binOp .eql 106 (.map (some mb)) (.map none)).run Tryd.prog w = .ok (.bool false) w := fun _ _ => by kernel_rfl
  rcases h2 with rfl | ⟨mb, rfl, hp⟩
  · have HS := Lib.hid (fun w => impl_setsOfPlaces w)
    have HM := Lib.hid hm
    have ⟨c0, c1, c2, c3, c4, c5, c6, c7, c8, c9⟩ := row10_cells hm
    clear c1 c2 c3 c4 c5 c6 c7 c8 hm
    go_enter Tryd.func161, Tryd.ntmps161
    go_wp2_with fail
    refine (HS.out _).mono ?_
    rintro e w1 ⟨mb, rfl, hp, b1⟩
    have HM1 := Lib.hid (HM.out.keep b1)
    have ⟨d0, d1, d2, d3, d4, d5, d6, d7, d8, d9⟩ := row10_cells HM1.out
    have ⟨_, _, _, _, _, _, _, _, _, f9⟩ := row10_thaw HM1.out
    have HM2 := Lib.hid (HM1.out.put (.map (some mb)))
    have hgl : g < w1.heap.size := HM1.out.lt
    have O2 : Hid (Only g w (w1.setCell ⟨g, 9, none⟩ (.map (some mb)))) := Lib.hid ((only_below HM.out.lt b1).trans (Only.set g 9 w1 _))
    have HP2 : Hid (PlacesAt (w1.setCell ⟨g, 9, none⟩ (.map (some mb))) C mb) := Lib.hid ((hp.low hC).only (Only.set g 9 w1 _) hg)
    obtain ⟨s, l, c, hl, ho⟩ := HP2.out.look hn a0 a3
    have HL := Lib.hid (fun q => show SfDone n a g C w (.returned (.slice s l c)) ((w1.setCell ⟨g, 9, none⟩ (.map (some mb))).drewN q) from ⟨s, l, c, mb, rfl, HM2.out, HP2.out.move (fun _ _ _ => rfl), ho, O2.out.drewN q⟩)
    clear d1 d2 d3 d4 d5 d6 d7 d8 b1 hp ho c0 c9
    have ⟨x0, x1, x2, x3, x4, x5, x6, x7, x8, x9⟩ := row10_cells HM2.out
    clear x1 x2 x3 x4 x5 x6 x7 x8
    go_wp2
    generalize w1.setCell ⟨g, 9, none⟩ (.map (some mb)) = W2 at *
    go_quiet (fail)
    go_wp2
    go_ret
    exact HL.out _
  · obtain ⟨s, l, c, hl, ho⟩ := hp.look hn a0 a3
    have HL := Lib.hid (fun q => show SfDone n a g C w (.returned (.slice s l c)) (w.drewN q) from ⟨s, l, c, mb, rfl, hm, hp.move (fun _ _ _ => rfl), ho, (Only.refl _ _).drewN q⟩)
    have ⟨c0, c1, c2, c3, c4, c5, c6, c7, c8, c9⟩ := row10_cells hm
    clear c1 c2 c3 c4 c5 c6 c7 c8 hp ho hm
    go_enter Tryd.func161, Tryd.ntmps161
    go_wp2_with fail
    go_quiet (fail)
    go_wp2
    go_ret
    exact HL.out _

/-- A set is no set 0. -/
theorem prSets_pos (n a : Int) : hasB (prSets n a) 0 = false := by
  unfold prSets prSet0 prSet1 prSet2
  repeat' split
  all_goals rfl
theorem allow7_bad {n a b c p m : Int} (h : fsC b c ≠ 0) (hb : 1 ≤ b) (hb3 : b ≤ 3) : allowB n ⟨7, a, b, c, p, m⟩ = false := by
  have hf : findNo b c = 0 := by
    unfold fsC at h
    rw [if_pos (by simp [inB]; omega)] at h
    by_cases h0 : findNo b c = 0
    · exact h0
    · rw [if_neg h0] at h
      exact absurd rfl h
  have := prSets_pos n a
  unfold hasB at this
  simp only [allowB, hf]
  exact this
theorem allow7_ok {n a b c p m : Int} : allowB n ⟨7, a, b, c, p, m⟩ = hasB (prSets n a) (findNo b c) := by simp only [allowB, hasB]; rfl

/-- What the guide's methods that may make its map leave. -/
def GaDone (q : Bool) (g : Nat) (n : Int) (C : Nat) (w : World) (e : Ending) (w' : World) : Prop := e = .returned (.bool q) ∧ GuOK w' g n C ∧ Only g w w'

set_option maxHeartbeats 1000000 in
theorem impl_allowsName (n : Int) (g C : Nat) (a b c p m : Int) (w : World) (h : GuOK w g n C) (hg : g < C) (hC : C ≤ w.heap.size) (ht : TabSets w) (hn : proB n = true) (a0 : 0 ≤ a) (a3 : a ≤ 3) (b0 : 1 ≤ b) (b3 : b ≤ 3) :
    Calls Tryd.prog 147 #[.pointer (some ⟨g, 0, none⟩), tokV ⟨7, a, b, c, p, m⟩] w (GaDone (allowB n ⟨7, a, b, c, p, m⟩) g n C w) := by
  have HF := Lib.hid (fun w ht => impl_FindSet b c w ht)
  have HT := Lib.hid ht
  have B0 := Lib.hid (below_one w (.cells #[.int .i64 7, .int .i64 a, .int .i64 b, .int .i64 c, .int .i64 p, .int .i64 m] 38))
  have HT0 := Lib.hid (HT.out.keep B0.out)
  have HG0 := Lib.hid (h.keep B0.out)
  have hgl : g < w.heap.size := by omega
  clear ht
  unfold tokV
  by_cases hf : fsC b c = 0
  · have HE := Lib.hid (allow7_ok (n := n) (a := a) (b := b) (c := c) (p := p) (m := m))
    have HS := Lib.hid (fun w h hC => impl_setsFor n a g C w h hg hC hn a0 a3)
    have HCn := Lib.hid (fun v x w h => slices_Contains v (prSets n a) x w h (prSets_few n a))
    rw [fsV_ok b c hf] at HF
    clear hf hn
    generalize allowB n ⟨7, a, b, c, p, m⟩ = q at *
    go_enter Tryd.func147, Tryd.ntmps147
    go_wp2_with fail
    refine (HF.out _ HT0.out).mono ?_
    rintro e w1 ⟨rfl, rfl⟩
    have hC0 : C ≤ (w.alloc (.cells #[.int .i64 7, .int .i64 a, .int .i64 b, .int .i64 c, .int .i64 p, .int .i64 m] 38)).heap.size := by simp; omega
    go_wp2_with fail
    refine (HS.out _ HG0.out hC0).mono ?_
    rintro e w2 ⟨s, l, cc, mb, rfl, hG, hP, hO, o2⟩
    have HD : Hid (GuOK w2 g n C ∧ Only g w w2) := Lib.hid ⟨⟨_, hG, .inr ⟨mb, rfl, hP⟩⟩, (only_below hgl B0.out).trans o2⟩
    have HO := Lib.hid hO.ints
    clear hG hP hO o2
    go_wp2_with fail
    refine (HCn.out _ _ _ HO.out).mono ?_
    rintro e w3 ⟨rfl, rfl⟩
    go_wp2
    go_ret
    exact ⟨ret_bool HE.out.symm, HD.out⟩
  · have HE := Lib.hid (allow7_bad (n := n) (a := a) (p := p) (m := m) hf b0 b3)
    have ef : (fsC b c == 0) = false := by simp [hf]
    rw [fsV_bad b c _ rfl hf] at HF
    generalize fsC b c = f at *
    generalize allowB n ⟨7, a, b, c, p, m⟩ = q at *
    go_enter Tryd.func147, Tryd.ntmps147
    go_wp2_with fail
    refine (HF.out _ HT0.out).mono ?_
    rintro e w1 ⟨rfl, rfl⟩
    go_wp2
    go_ret
    exact ⟨ret_bool HE.out.symm, HG0.out, only_below hgl B0.out⟩

end Go.Proofs.YtjbikenhdgbacaaDoor
