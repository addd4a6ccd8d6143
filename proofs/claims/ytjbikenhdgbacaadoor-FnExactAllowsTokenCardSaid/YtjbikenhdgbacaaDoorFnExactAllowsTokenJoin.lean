/- The tied card of 'FnExactAllowsToken': from the walk to the given statement. The listed package-level variables start as the program's text lays them (the given tie). Joined of: PrK, ByteI, TokH, PrL, PrD, SetsLaid, MaLaid, FnExactAllowsTokenWalk, FnExactAllowsTokenCard. -/
import Derived.Test.YtjbikenhdgbacaaDoorPrJ
import Derived.Test.YtjbikenhdgbacaaDoorPrC
import Derived.Test.YtjbikenhdgbacaaDoorPlC
import Derived.Test.YtjbikenhdgbacaaDoorTokB
import Derived.Test.YtjbikenhdgbacaaDoorTokD
import Derived.Test.YtjbikenhdgbacaaDoorEscI
import Derived.Laws.EntriesVeiled
import Derived.Test.YtjbikenhdgbacaaDoorSetsT
import Derived.Test.YtjbikenhdgbacaaDoorVars
import Derived.Lib.SmallJoins
import Derived.Test.YtjbikenhdgbacaaDoorMaB
import Derived.Test.YtjbikenhdgbacaaDoorTokG
import Derived.Test.YtjbikenhdgbacaaDoorCards
import Derived.Test.YtjbikenhdgbacaaDoorTie
import Derived.Lib.Hide
import Derived.Test.YtjbikenhdgbacaaDoorIntStruct

namespace Go.Proofs.YtjbikenhdgbacaaDoor
open Go.RowKit

set_option maxHeartbeats 400000 in
theorem slices_Index (v : Value) (zs : List Int) (n : Int) (w : World) (h : Ints .i64 w v zs) (hl : zs.length ≤ 1048576) : Calls Tryd.prog 169 #[v, .int .i64 n] w fun e w' => ∃ r, e = .returned (.int .i64 r) ∧ decide (0 ≤ r) = hasB zs n ∧ w = w' := by
  rcases h with ⟨rfl, a, c, rfl⟩ | ⟨b, off, c, rfl, hcell⟩
  · go_enter Tryd.func169, Tryd.ntmps169
    go_wp2
    go_loop [8] (fun i => i = .int .i64 0) (fun _ => 0)
    case atStart => rfl
    case round =>
      subst hrel
      go_wp2
      go_ret
      exact ⟨_, rfl, rfl, rfl⟩
  · generalize hm : zs.length = m at *
    have HM := Lib.hid hm
    clear hm
    go_enter Tryd.func169, Tryd.ntmps169
    go_wp2
    go_loop [8] (fun i => ∃ j : Nat, j ≤ m ∧ i = .int .i64 j ∧ Hid (hasB (zs.take j) n = false)) (fun i => m - (intOf i).toNat)
    case atStart => exact ⟨0, Nat.zero_le _, rfl, Lib.hid rfl⟩
    case round =>
      obtain ⟨j, hj, rfl, HJ⟩ := hrel
      by_cases hlt : j < m
      · have c1 := hcell j hlt
        have e1 : (0 : Int) ≤ (j : Int) := by omega
        have e2 : (j : Int) < (m : Int) := by omega
        have HT := Lib.hid (hasB_take zs j n (by have := HM.out; omega))
        generalize zs.getD j 0 = z at *
        clear hcell
        by_cases hz : z = n
        · have ez : (n == z) = true := by simp [hz]
          have HE : Hid (hasB zs n = true) := Lib.hid (by
            have h1 : hasB (zs.take (j + 1)) n = true := by rw [HT.out, hz]; simp
            rw [hasB_iff] at h1 ⊢
            exact List.mem_of_mem_take h1)
          have HD : Hid (decide ((0 : Int) ≤ (j : Int)) = hasB zs n) := Lib.hid (by rw [HE.out]; exact decide_eq_true e1)
          clear hz
          go_wp2
          go_ret
          exact ⟨_, rfl, HD.out, rfl⟩
        · have ez : (n == z) = false := by
            have : ¬ n = z := fun h => hz h.symm
            simp [this]
          have HN : Hid (hasB (zs.take (j + 1)) n = false) := Lib.hid (by
            rw [HT.out, HJ.out]
            simp [hz])
          clear hz
          go_wp2
          go_round
          case rel => exact ⟨j + 1, by omega, by go_num, HN⟩
          case measure => simp [intOf]; omega
      · have HE : Hid (hasB zs n = false) := Lib.hid (by
          have h := HJ.out
          rw [List.take_of_length_le (by have := HM.out; omega)] at h
          exact h)
        go_wp2
        go_ret
        exact ⟨_, rfl, by rw [HE.out]; rfl, rfl⟩

theorem slices_Contains (v : Value) (zs : List Int) (n : Int) (w : World) (h : Ints .i64 w v zs) (hl : zs.length ≤ 1048576) : Calls Tryd.prog 160 #[v, .int .i64 n] w fun e w' => e = .returned (.bool (hasB zs n)) ∧ w = w' := by
  have HI := Lib.hid (fun w h => slices_Index v zs n w h hl)
  have HV := Lib.hid h
  clear h
  generalize hasB zs n = q at *
  go_enter Tryd.func160, Tryd.ntmps160
  go_wp2_with fail
  refine (HI.out _ HV.out).mono ?_
  rintro e w1 ⟨r, rfl, hr, rfl⟩
  have HR := Lib.hid hr
  clear hr
  go_wp2
  go_ret
  exact ⟨ret_bool HR.out, rfl⟩

theorem PlacesAt.move {w w' : World} {C mb : Nat} (h : PlacesAt w C mb) (hk : ∀ i, C ≤ i → i < w.heap.size → w'.heap[i]? = w.heap[i]?) : PlacesAt w' C mb := by
  obtain ⟨blk, h1, h2, hC, es, h3, h4⟩ := h
  exact ⟨blk, fun k hk10 => ⟨(h1 k hk10).1, (hk _ (h1 k hk10).1 (Array.getElem?_eq_some_iff.1 (h1 k hk10).2).1).trans (h1 k hk10).2⟩, h2, hC, es, (hk _ hC (Array.getElem?_eq_some_iff.1 h3).1).trans h3, h4⟩
theorem PlacesAt.keep {w w' : World} {C mb : Nat} (h : PlacesAt w C mb) (b : Below w.heap.size w w') : PlacesAt w' C mb := h.move fun i _ hi => b.block i hi
theorem PlacesAt.only {w w' : World} {C mb b : Nat} (h : PlacesAt w C mb) (o : Only b w w') (hb : b < C) : PlacesAt w' C mb := h.move fun i hi hl => o.2 i (by omega) hl
theorem PlacesAt.low {w : World} {C C' mb : Nat} (h : PlacesAt w C mb) (hC : C' ≤ C) : PlacesAt w C' mb := by
  obtain ⟨blk, h1, h2, h3, h4⟩ := h
  exact ⟨blk, fun k hk => ⟨Nat.le_trans hC (h1 k hk).1, (h1 k hk).2⟩, h2, Nat.le_trans hC h3, h4⟩

/-- The number of a profile's register among the places; 10 of none. -/
def plNo (n a : Int) : Nat := if n = 1 ∧ a = 0 then 0 else if n = 2 ∧ a = 0 then 1 else if n = 2 ∧ a = 2 then 2 else if n = 3 ∧ a = 0 then 3 else if n = 3 ∧ a = 1 then 4 else if n = 4 ∧ a = 0 then 5 else if n = 4 ∧ a = 1 then 6 else if n = 4 ∧ a = 2 then 7 else if n = 5 ∧ a = 0 then 8 else if n = 5 ∧ a = 1 then 9 else 10
theorem plNo_spec {n a : Int} (hn : proB n = true) (a0 : 0 ≤ a) (a3 : a ≤ 3) : (plNo n a < 10 ∧ plKey (plNo n a) = (n, a) ∧ plList (plNo n a) = prSets n a) ∨ ((∀ k, k < 10 → plKey k ≠ (n, a)) ∧ prSets n a = []) := by
  rcases pro_cases hn with rfl | rfl | rfl | rfl | rfl <;> rcases (show a = 0 ∨ a = 1 ∨ a = 2 ∨ a = 3 by omega) with rfl | rfl | rfl | rfl <;> decide +kernel
theorem plList_few : ∀ k, (plList k).length ≤ 6 := by
  intro k
  by_cases h : k < 10
  · exact (show ∀ k, k < 10 → (plList k).length ≤ 6 by decide +kernel) k h
  · have : plList k = [] := by
      unfold plList
      rw [List.getD_eq_getElem?_getD, List.getElem?_eq_none (by simp [plLists]; omega)]
      rfl
    rw [this]
    decide
theorem own_row {w : World} {C b k : Nat} (hC : C ≤ b) (h : w.heap[b]? = some (plC k)) : Own .i64 3 w C (plSl b k) (plList k) := by
  refine ⟨by simp, .inr ⟨b, (plList k).length, _, rfl, hC, h, Nat.le_refl _, ?_, by simp, List.take_of_length_le (by simp)⟩⟩
  have := plList_few k
  unfold maxLen
  omega

/-- The value of a register's sets: a row of the map's own, or nil. -/
theorem PlacesAt.look {w : World} {C mb : Nat} (h : PlacesAt w C mb) {n a : Int} (hn : proB n = true) (a0 : 0 ≤ a) (a3 : a ≤ 3) : ∃ s l c, (∀ q, (Instr.lookup 106 (.map (some mb)) (.agg #[.int .i64 n, .int .i64 a]) false).run Tryd.prog (w.drewN q) = .ok (.slice s l c) (w.drewN q)) ∧ Own .i64 3 w C (.slice s l c) (prSets n a) := by
  obtain ⟨blk, h1, h2, hC, es, h3, h4, h5⟩ := h
  have hl := fun q => lookup_place (w := w.drewN q) n a h3
  rcases plNo_spec hn a0 a3 with ⟨k1, k2, k3⟩ | ⟨k1, k2⟩
  · obtain ⟨i, hi⟩ := (h4 _ k1).1 rfl
    rw [k2] at hi
    rw [hi] at hl
    refine ⟨_, _, _, hl, ?_⟩
    rw [← k3]
    exact own_row (h1 _ k1).1 (h1 _ k1).2
  · rw [h5 n a k1] at hl
    refine ⟨_, _, _, hl, ?_⟩
    rw [k2]
    exact Own.nil _ _ _ _

/-- A guide with its map, made or not yet. -/
def GuOK (w : World) (g : Nat) (n : Int) (C : Nat) : Prop := ∃ m, GuAt w g n m ∧ (m = .map none ∨ ∃ mb, m = .map (some mb) ∧ PlacesAt w C mb)
theorem GuOK.keep {w w' : World} {g C : Nat} {n : Int} (h : GuOK w g n C) (b : Below w.heap.size w w') : GuOK w' g n C := by
  obtain ⟨m, h1, h2⟩ := h
  refine ⟨m, h1.keep b, h2.imp id ?_⟩
  rintro ⟨mb, h3, h4⟩
  exact ⟨mb, h3, h4.keep b⟩
theorem GuOK.only {w w' : World} {g C b : Nat} {n : Int} (h : GuOK w g n C) (o : Only b w w') (hb : b < C) (hg : g ≠ b) : GuOK w' g n C := by
  obtain ⟨m, h1, h2⟩ := h
  refine ⟨m, (o.2 g hg h1.lt).trans h1, h2.imp id ?_⟩
  rintro ⟨mb, h3, h4⟩
  exact ⟨mb, h3, h4.only o hb⟩
theorem GuAt.put {w : World} {g : Nat} {n : Int} {m : Value} (h : GuAt w g n m) (m' : Value) : GuAt (w.setCell ⟨g, 9, none⟩ m') g n m' := heap_setCell_same _ _ 9 _ _ m' h

def SfDone (n a : Int) (g C : Nat) (w : World) (e : Ending) (w' : World) : Prop := ∃ s l c mb, e = .returned (.slice s l c) ∧ GuAt w' g n (.map (some mb)) ∧ PlacesAt w' C mb ∧ Own .i64 3 w' C (.slice s l c) (prSets n a) ∧ Only g w w'

set_option maxHeartbeats 1000000 in
theorem impl_setsFor (n : Int) (a : Int) (g C : Nat) (w : World) (h : GuOK w g n C) (hg : g < C) (hC : C ≤ w.heap.size) (hn : proB n = true) (a0 : 0 ≤ a) (a3 : a ≤ 3) : Calls Tryd.prog 161 #[.pointer (some ⟨g, 0, none⟩), .int .i64 a] w (SfDone n a g C w) := by
  obtain ⟨m, hm, h2⟩ := h
  have q1 : ∀ (x y : Operand) (m : Option Nat) (w : World), (eqGuard .eql 106 x y (.map m) (.map none)).run Tryd.prog w = .ok () w := fun _ _ _ _ => by kernel_rfl
  have q2 : ∀ (w : World), (binOp .eql 106 (.map none) (.map none)).run Tryd.prog w = .ok (.bool true) w := fun _ => by kernel_rfl
  have q3 : ∀ (mb : Nat) (w : World), (binOp .eql 106 (.map (some mb)) (.map none)).run Tryd.prog w = .ok (.bool false) w := fun _ _ => by kernel_rfl
  rcases h2 with rfl | ⟨mb, rfl, hp⟩
  · have HS := Lib.hid (fun w => impl_setsOfPlaces w)
    have HM := Lib.hid hm
    have ⟨c0, c1, c2, c3, c4, c5, c6, c7, c8, c9⟩ := row10_cells hm
    clear c1 c2 c3 c4 c5 c6 c7 c8 hm
    go_enter Tryd.func161, Tryd.ntmps161
    go_wp2_with fail
    refine (HS.out _).mono ?_
    rintro e w1 ⟨mb, rfl, hp, b1⟩
    have HM1 := Lib.hid (HM.out.keep b1)
    have ⟨d0, d1, d2, d3, d4, d5, d6, d7, d8, d9⟩ := row10_cells HM1.out
    have ⟨_, _, _, _, _, _, _, _, _, f9⟩ := row10_thaw HM1.out
    have HM2 := Lib.hid (HM1.out.put (.map (some mb)))
    have hgl : g < w1.heap.size := HM1.out.lt
    have O2 : Hid (Only g w (w1.setCell ⟨g, 9, none⟩ (.map (some mb)))) := Lib.hid ((only_below HM.out.lt b1).trans (Only.set g 9 w1 _))
    have HP2 : Hid (PlacesAt (w1.setCell ⟨g, 9, none⟩ (.map (some mb))) C mb) := Lib.hid ((hp.low hC).only (Only.set g 9 w1 _) hg)
    obtain ⟨s, l, c, hl, ho⟩ := HP2.out.look hn a0 a3
    have HL := Lib.hid (fun q => show SfDone n a g C w (.returned (.slice s l c)) ((w1.setCell ⟨g, 9, none⟩ (.map (some mb))).drewN q) from ⟨s, l, c, mb, rfl, HM2.out, HP2.out.move (fun _ _ _ => rfl), ho, O2.out.drewN q⟩)
    clear d1 d2 d3 d4 d5 d6 d7 d8 b1 hp ho c0 c9
    have ⟨x0, x1, x2, x3, x4, x5, x6, x7, x8, x9⟩ := row10_cells HM2.out
    clear x1 x2 x3 x4 x5 x6 x7 x8
    go_wp2
    generalize w1.setCell ⟨g, 9, none⟩ (.map (some mb)) = W2 at *
    go_quiet (fail)
    go_wp2
    go_ret
    exact HL.out _
  · obtain ⟨s, l, c, hl, ho⟩ := hp.look hn a0 a3
    have HL := Lib.hid (fun q => show SfDone n a g C w (.returned (.slice s l c)) (w.drewN q) from ⟨s, l, c, mb, rfl, hm, hp.move (fun _ _ _ => rfl), ho, (Only.refl _ _).drewN q⟩)
    have ⟨c0, c1, c2, c3, c4, c5, c6, c7, c8, c9⟩ := row10_cells hm
    clear c1 c2 c3 c4 c5 c6 c7 c8 hp ho hm
    go_enter Tryd.func161, Tryd.ntmps161
    go_wp2_with fail
    go_quiet (fail)
    go_wp2
    go_ret
    exact HL.out _

/-- A set is no set 0. -/
theorem prSets_pos (n a : Int) : hasB (prSets n a) 0 = false := by
  unfold prSets prSet0 prSet1 prSet2
  repeat' split
  all_goals rfl
theorem allow7_bad {n a b c p m : Int} (h : fsC b c ≠ 0) (hb : 1 ≤ b) (hb3 : b ≤ 3) : allowB n ⟨7, a, b, c, p, m⟩ = false := by
  have hf : findNo b c = 0 := by
    unfold fsC at h
    rw [if_pos (by simp [inB]; omega)] at h
    by_cases h0 : findNo b c = 0
    · exact h0
    · rw [if_neg h0] at h
      exact absurd rfl h
  have := prSets_pos n a
  unfold hasB at this
  simp only [allowB, hf]
  exact this
theorem allow7_ok {n a b c p m : Int} : allowB n ⟨7, a, b, c, p, m⟩ = hasB (prSets n a) (findNo b c) := by simp only [allowB, hasB]; rfl

/-- What the guide's methods that may make its map leave. -/
def GaDone (q : Bool) (g : Nat) (n : Int) (C : Nat) (w : World) (e : Ending) (w' : World) : Prop := e = .returned (.bool q) ∧ GuOK w' g n C ∧ Only g w w'

set_option maxHeartbeats 1000000 in
theorem impl_allowsName (n : Int) (g C : Nat) (a b c p m : Int) (w : World) (h : GuOK w g n C) (hg : g < C) (hC : C ≤ w.heap.size) (ht : TabSets w) (hn : proB n = true) (a0 : 0 ≤ a) (a3 : a ≤ 3) (b0 : 1 ≤ b) (b3 : b ≤ 3) :
    Calls Tryd.prog 147 #[.pointer (some ⟨g, 0, none⟩), tokV ⟨7, a, b, c, p, m⟩] w (GaDone (allowB n ⟨7, a, b, c, p, m⟩) g n C w) := by
  have HF := Lib.hid (fun w ht => impl_FindSet b c w ht)
  have HT := Lib.hid ht
  have B0 := Lib.hid (below_one w (.cells #[.int .i64 7, .int .i64 a, .int .i64 b, .int .i64 c, .int .i64 p, .int .i64 m] 38))
  have HT0 := Lib.hid (HT.out.keep B0.out)
  have HG0 := Lib.hid (h.keep B0.out)
  have hgl : g < w.heap.size := by omega
  clear ht
  unfold tokV
  by_cases hf : fsC b c = 0
  · have HE := Lib.hid (allow7_ok (n := n) (a := a) (b := b) (c := c) (p := p) (m := m))
    have HS := Lib.hid (fun w h hC => impl_setsFor n a g C w h hg hC hn a0 a3)
    have HCn := Lib.hid (fun v x w h => slices_Contains v (prSets n a) x w h (prSets_few n a))
    rw [fsV_ok b c hf] at HF
    clear hf hn
    generalize allowB n ⟨7, a, b, c, p, m⟩ = q at *
    go_enter Tryd.func147, Tryd.ntmps147
    go_wp2_with fail
    refine (HF.out _ HT0.out).mono ?_
    rintro e w1 ⟨rfl, rfl⟩
    have hC0 : C ≤ (w.alloc (.cells #[.int .i64 7, .int .i64 a, .int .i64 b, .int .i64 c, .int .i64 p, .int .i64 m] 38)).heap.size := by simp; omega
    go_wp2_with fail
    refine (HS.out _ HG0.out hC0).mono ?_
    rintro e w2 ⟨s, l, cc, mb, rfl, hG, hP, hO, o2⟩
    have HD : Hid (GuOK w2 g n C ∧ Only g w w2) := Lib.hid ⟨⟨_, hG, .inr ⟨mb, rfl, hP⟩⟩, (only_below hgl B0.out).trans o2⟩
    have HO := Lib.hid hO.ints
    clear hG hP hO o2
    go_wp2_with fail
    refine (HCn.out _ _ _ HO.out).mono ?_
    rintro e w3 ⟨rfl, rfl⟩
    go_wp2
    go_ret
    exact ⟨ret_bool HE.out.symm, HD.out⟩
  · have HE := Lib.hid (allow7_bad (n := n) (a := a) (p := p) (m := m) hf b0 b3)
    have ef : (fsC b c == 0) = false := by simp [hf]
    rw [fsV_bad b c _ rfl hf] at HF
    generalize fsC b c = f at *
    generalize allowB n ⟨7, a, b, c, p, m⟩ = q at *
    go_enter Tryd.func147, Tryd.ntmps147
    go_wp2_with fail
    refine (HF.out _ HT0.out).mono ?_
    rintro e w1 ⟨rfl, rfl⟩
    go_wp2
    go_ret
    exact ⟨ret_bool HE.out.symm, HG0.out, only_below hgl B0.out⟩

end Go.Proofs.YtjbikenhdgbacaaDoor

namespace Go.Proofs.YtjbikenhdgbacaaDoor
open Go.RowKit

/-- The token, without its place, of a byte other than ESC. -/
def byteTok (b : Int) : Tok :=
  if b = 15 then ⟨5, 0, 0, 0, 0, 0⟩ else if b = 14 then ⟨5, 1, 0, 0, 0, 0⟩ else if b = 142 then ⟨6, 2, 0, 0, 0, 0⟩ else if b = 143 then ⟨6, 3, 0, 0, 0, 0⟩
  else if b = 32 then ⟨2, 0, 0, 0, 0, 0⟩ else if 33 ≤ b ∧ b ≤ 126 then ⟨3, b, 0, 0, 0, 0⟩ else if 160 ≤ b then ⟨4, b - 128, 0, 0, 0, 0⟩ else ⟨1, b, 0, 0, 0, 0⟩

set_option maxHeartbeats 2000000 in
theorem impl_byteToken (b : Int) (w : World) (h0 : 0 ≤ b) (h1 : b ≤ 65536) : Calls Tryd.prog 103 #[.int .i64 b] w (TokDone (byteTok b) w) := by
  by_cases c1 : b = 15
  · subst c1
    go_enter Tryd.func103, Tryd.ntmps103
    go_wp2
    exact tok_ret (y := ⟨5, 0, 0, 0, 0, 0⟩) rfl rfl rfl (heap_alloc_new _ _) Tryd.underlying38 rfl (by kernel_rfl) rfl (below_one _ _)
  by_cases c2 : b = 14
  · subst c2
    clear c1
    go_enter Tryd.func103, Tryd.ntmps103
    go_wp2
    exact tok_ret (y := ⟨5, 1, 0, 0, 0, 0⟩) rfl rfl rfl (heap_alloc_new _ _) Tryd.underlying38 rfl (by kernel_rfl) rfl (below_one _ _)
  by_cases c3 : b = 142
  · subst c3
    clear c1 c2
    go_enter Tryd.func103, Tryd.ntmps103
    go_wp2
    exact tok_ret (y := ⟨6, 2, 0, 0, 0, 0⟩) rfl rfl rfl (heap_alloc_new _ _) Tryd.underlying38 rfl (by kernel_rfl) rfl (below_one _ _)
  by_cases c4 : b = 143
  · subst c4
    clear c1 c2 c3
    go_enter Tryd.func103, Tryd.ntmps103
    go_wp2
    exact tok_ret (y := ⟨6, 3, 0, 0, 0, 0⟩) rfl rfl rfl (heap_alloc_new _ _) Tryd.underlying38 rfl (by kernel_rfl) rfl (below_one _ _)
  by_cases c5 : b = 32
  · subst c5
    clear c1 c2 c3 c4
    go_enter Tryd.func103, Tryd.ntmps103
    go_wp2
    exact tok_ret (y := ⟨2, 0, 0, 0, 0, 0⟩) rfl rfl rfl (heap_alloc_new _ _) Tryd.underlying38 rfl (by kernel_rfl) rfl (below_one _ _)
  have e1 : (b == 15) = false := by rw [beq_eq_false_iff_ne]; exact c1
  have e2 : (b == 14) = false := by rw [beq_eq_false_iff_ne]; exact c2
  have e3 : (b == 142) = false := by rw [beq_eq_false_iff_ne]; exact c3
  have e4 : (b == 143) = false := by rw [beq_eq_false_iff_ne]; exact c4
  have e5 : (b == 32) = false := by rw [beq_eq_false_iff_ne]; exact c5
  by_cases c6 : 33 ≤ b
  · by_cases c7 : b ≤ 126
    · have HE : Hid (byteTok b = ⟨3, b, 0, 0, 0, 0⟩) := Lib.hid (by rw [byteTok, if_neg c1, if_neg c2, if_neg c3, if_neg c4, if_neg c5, if_pos ⟨c6, c7⟩])
      clear c1 c2 c3 c4 c5
      go_enter Tryd.func103, Tryd.ntmps103
      go_wp2
      exact tok_ret HE.out rfl rfl (heap_alloc_new _ _) Tryd.underlying38 rfl (by kernel_rfl) rfl (below_one _ _)
    · have c8 : 126 < b := by omega
      by_cases c9 : 160 ≤ b
      · have HE : Hid (byteTok b = ⟨4, b - 128, 0, 0, 0, 0⟩) := Lib.hid (by rw [byteTok, if_neg c1, if_neg c2, if_neg c3, if_neg c4, if_neg c5, if_neg (by omega), if_pos c9])
        have u1 : IntKind.i64.wrap (b - 128) = b - 128 := IntWalk.i64_in _ (by omega)
        clear c1 c2 c3 c4 c5 c7
        go_enter Tryd.func103, Tryd.ntmps103
        go_wp2
        exact tok_ret HE.out rfl rfl (heap_alloc_new _ _) Tryd.underlying38 rfl (by kernel_rfl) rfl (below_one _ _)
      · have HE : Hid (byteTok b = ⟨1, b, 0, 0, 0, 0⟩) := Lib.hid (by rw [byteTok, if_neg c1, if_neg c2, if_neg c3, if_neg c4, if_neg c5, if_neg (by omega), if_neg c9])
        have c10 : b < 160 := by omega
        clear c1 c2 c3 c4 c5 c7 c9
        go_enter Tryd.func103, Tryd.ntmps103
        go_wp2
        exact tok_ret HE.out rfl rfl (heap_alloc_new _ _) Tryd.underlying38 rfl (by kernel_rfl) rfl (below_one _ _)
  · have HE : Hid (byteTok b = ⟨1, b, 0, 0, 0, 0⟩) := Lib.hid (by rw [byteTok, if_neg c1, if_neg c2, if_neg c3, if_neg c4, if_neg c5, if_neg (by omega), if_neg (by omega)])
    have c10 : b < 33 := by omega
    clear c1 c2 c3 c4 c5 c6
    go_enter Tryd.func103, Tryd.ntmps103
    go_wp2
    exact tok_ret HE.out rfl rfl (heap_alloc_new _ _) Tryd.underlying38 rfl (by kernel_rfl) rfl (below_one _ _)

end Go.Proofs.YtjbikenhdgbacaaDoor

namespace Go.Proofs.YtjbikenhdgbacaaDoor
open Go.RowKit

theorem tokField0 (y : Tok) (w : World) : (Instr.field 38 (.agg #[.int .i64 y.k, .int .i64 y.a, .int .i64 y.b, .int .i64 y.c, .int .i64 y.p, .int .i64 y.n]) 0).run Tryd.prog w = .ok (.int .i64 y.k) w := by kernel_rfl

def ctlB (a : Int) : Bool := decide (0 ≤ a) && decide (a < 160) && decide (a ≠ 27) && decide ((byteTok a).k = 1)
theorem ctlB_iff (a : Int) : ctlB a = true ↔ ((0 ≤ a ∧ a ≤ 13) ∨ (16 ≤ a ∧ a ≤ 31 ∧ a ≠ 27) ∨ a = 127 ∨ (128 ≤ a ∧ a ≤ 159 ∧ a ≠ 142 ∧ a ≠ 143)) := by
  simp only [ctlB, Bool.and_eq_true, decide_eq_true_eq]
  unfold byteTok
  repeat' split
  all_goals dsimp only
  all_goals omega

set_option maxHeartbeats 1000000 in
theorem impl_isControl (a : Int) (w : World) : Calls Tryd.prog 154 #[.int .i64 a] w fun e w' => e = .returned (.bool (ctlB a)) ∧ Below w.heap.size w w' := by
  by_cases h0 : a < 0
  · have HE : Hid (ctlB a = false) := Lib.hid (by simp [ctlB]; omega)
    go_enter Tryd.func154, Tryd.ntmps154
    go_wp2
    go_ret
    exact ⟨ret_bool HE.out.symm, Below.refl _ _⟩
  have h0' : 0 ≤ a := by omega
  by_cases h1 : 160 ≤ a
  · have HE : Hid (ctlB a = false) := Lib.hid (by simp [ctlB]; omega)
    clear h0
    go_enter Tryd.func154, Tryd.ntmps154
    go_wp2
    go_ret
    exact ⟨ret_bool HE.out.symm, Below.refl _ _⟩
  have h1' : a < 160 := by omega
  by_cases h2 : a = 27
  · subst h2
    clear h0 h1 h0' h1'
    go_enter Tryd.func154, Tryd.ntmps154
    go_wp2
    go_ret
    exact ⟨ret_bool (by decide), Below.refl _ _⟩
  have HE : Hid (ctlB a = ((byteTok a).k == 1)) := Lib.hid (by
    have q0 : decide (0 ≤ a) = true := by simpa using h0'
    have q1 : decide (a < 160) = true := by simpa using h1'
    have q2 : decide (a ≠ 27) = true := by simpa using h2
    rw [ctlB, q0, q1, q2]
    rfl)
  have e2 : (a != 27) = true := by simpa using h2
  have HF := Lib.hid (tokField0 (byteTok a))
  clear h0 h1 h2
  generalize hy : byteTok a = y at *
  have HY := Lib.hid hy
  clear hy
  have fy := HF.out
  go_enter Tryd.func154, Tryd.ntmps154
  go_wp2_with fail
  refine (impl_byteToken a w h0' (by omega)).mono ?_
  rintro e w1 ⟨rfl, b1⟩
  rw [HY.out]
  unfold tokV
  go_wp2
  go_ret
  exact ⟨ret_bool HE.out.symm, b1⟩

def valB (k a : Int) : Bool :=
  if k = 1 then ctlB a else if k = 3 then inB a 33 126 else if k = 4 then inB a 32 127 else if k = 5 then inB a 0 3 else if k = 6 then decide (a = 2 ∨ a = 3)
  else if k = 2 ∨ k = 8 ∨ k = 9 then decide (a = 0) else false

set_option maxHeartbeats 2000000 in
theorem impl_tokenValueOK (k a : Int) (w : World) : Calls Tryd.prog 137 #[.int .i64 k, .int .i64 a] w fun e w' => e = .returned (.bool (valB k a)) ∧ Below w.heap.size w w' := by
  by_cases k1 : k = 1
  · subst k1
    go_enter Tryd.func137, Tryd.ntmps137
    go_wp2_with fail
    refine (impl_isControl a w).mono ?_
    rintro e w1 ⟨rfl, b1⟩
    go_wp2
    go_ret
    exact ⟨rfl, b1⟩
  by_cases k3 : k = 3
  · subst k3
    clear k1
    go_enter Tryd.func137, Tryd.ntmps137
    go_wp2_with fail
    refine (impl_isCode94 a w).mono ?_
    rintro e w1 ⟨rfl, rfl⟩
    go_wp2
    go_ret
    exact ⟨rfl, Below.refl _ _⟩
  by_cases k4 : k = 4
  · subst k4
    clear k1 k3
    have HE : Hid (valB 4 a = (decide (32 ≤ a) && decide (a ≤ 127))) := Lib.hid rfl
    rw [HE.out]
    by_cases h1 : 32 ≤ a
    · by_cases h2 : a ≤ 127
      all_goals
        go_enter Tryd.func137, Tryd.ntmps137
        go_wp2
        go_ret
        exact ⟨ret_bool (by simp [h1, h2]), Below.refl _ _⟩
    · have HF := Lib.hid (show decide (32 ≤ a) = false by simpa using h1)
      go_enter Tryd.func137, Tryd.ntmps137
      go_wp2
      go_ret
      exact ⟨ret_bool (by rw [HF.out]; rfl), Below.refl _ _⟩
  by_cases k5 : k = 5
  · subst k5
    clear k1 k3 k4
    have HE : Hid (valB 5 a = (decide (0 ≤ a) && decide (a ≤ 3))) := Lib.hid rfl
    rw [HE.out]
    by_cases h1 : 0 ≤ a
    · by_cases h2 : a ≤ 3
      all_goals
        go_enter Tryd.func137, Tryd.ntmps137
        go_wp2
        go_ret
        exact ⟨ret_bool (by simp [h1, h2]), Below.refl _ _⟩
    · have HF := Lib.hid (show decide (0 ≤ a) = false by simpa using h1)
      go_enter Tryd.func137, Tryd.ntmps137
      go_wp2
      go_ret
      exact ⟨ret_bool (by rw [HF.out]; rfl), Below.refl _ _⟩
  by_cases k6 : k = 6
  · subst k6
    clear k1 k3 k4 k5
    have HE : Hid (valB 6 a = decide (a = 2 ∨ a = 3)) := Lib.hid rfl
    rw [HE.out]
    by_cases h1 : a = 2
    · subst h1
      go_enter Tryd.func137, Tryd.ntmps137
      go_wp2
      go_ret
      exact ⟨ret_bool (by decide), Below.refl _ _⟩
    · have e1 : (a == 2) = false := by simpa using h1
      have HX : Hid ((a == 3) = decide (a = 2 ∨ a = 3)) := Lib.hid (by simp [h1]; rfl)
      clear h1
      go_enter Tryd.func137, Tryd.ntmps137
      go_wp2
      go_ret
      exact ⟨ret_bool HX.out, Below.refl _ _⟩
  by_cases k2 : k = 2 ∨ k = 8 ∨ k = 9
  · have HE : Hid ((a == 0) = valB k a) := Lib.hid (by
      rw [valB, if_neg k1, if_neg k3, if_neg k4, if_neg k5, if_neg k6, if_pos k2]
      rfl)
    clear k1 k3 k4 k5 k6
    rcases k2 with rfl | rfl | rfl
    all_goals
      go_enter Tryd.func137, Tryd.ntmps137
      go_wp2
      go_ret
      exact ⟨ret_bool HE.out, Below.refl _ _⟩
  · have HE : Hid (false = valB k a) := Lib.hid (by rw [valB, if_neg k1, if_neg k3, if_neg k4, if_neg k5, if_neg k6, if_neg k2])
    have e1 : (k == 1) = false := by rw [beq_eq_false_iff_ne]; exact k1
    have e3 : (k == 3) = false := by rw [beq_eq_false_iff_ne]; exact k3
    have e4 : (k == 4) = false := by rw [beq_eq_false_iff_ne]; exact k4
    have e5 : (k == 5) = false := by rw [beq_eq_false_iff_ne]; exact k5
    have e6 : (k == 6) = false := by rw [beq_eq_false_iff_ne]; exact k6
    have e2 : (k == 2) = false := by rw [beq_eq_false_iff_ne]; omega
    have e8 : (k == 8) = false := by rw [beq_eq_false_iff_ne]; omega
    have e9 : (k == 9) = false := by rw [beq_eq_false_iff_ne]; omega
    clear k1 k2 k3 k4 k5 k6
    go_enter Tryd.func137, Tryd.ntmps137
    go_wp2
    go_ret
    exact ⟨ret_bool HE.out, Below.refl _ _⟩

def fldB (x : Tok) : Bool := if x.k = 7 then inB x.b 1 3 && (regB x.b x.a && (decide (64 ≤ x.c) && decide (x.c ≤ 126))) else valB x.k x.a && (decide (x.b = 0) && decide (x.c = 0))

set_option maxHeartbeats 2000000 in
set_option maxRecDepth 100000 in
theorem impl_tokenFieldsOK (x : Tok) (w : World) : Calls Tryd.prog 110 #[tokV x] w fun e w' => e = .returned (.bool (fldB x)) ∧ Below w.heap.size w w' := by
  obtain ⟨k, a, b, c, p, n⟩ := x
  have b0 := below_one w (.cells #[.int .i64 k, .int .i64 a, .int .i64 b, .int .i64 c, .int .i64 p, .int .i64 n] 38)
  have hX := TokAt.new w ⟨k, a, b, c, p, n⟩
  unfold tokV
  by_cases k7 : k = 7
  · have HE : Hid (fldB ⟨k, a, b, c, p, n⟩ = (inB b 1 3 && (regB b a && (decide (64 ≤ c) && decide (c ≤ 126))))) := Lib.hid (by rw [fldB, if_pos k7])
    rw [HE.out]
    subst k7
    clear hX HE
    have HK := Lib.hid (impl_isKind b)
    have HR := Lib.hid (impl_isRegisterFor b a)
    generalize inB b 1 3 = kb at *
    generalize regB b a = rb at *
    cases kb
    · go_enter Tryd.func110, Tryd.ntmps110
      go_wp2_with fail
      refine (HK.out _).mono ?_
      rintro e w1 ⟨rfl, rfl⟩
      go_wp2
      go_ret
      exact ⟨rfl, b0⟩
    cases rb
    · go_enter Tryd.func110, Tryd.ntmps110
      go_wp2_with fail
      refine (HK.out _).mono ?_
      rintro e w1 ⟨rfl, rfl⟩
      go_wp2_with fail
      refine (HR.out _).mono ?_
      rintro e w1 ⟨rfl, rfl⟩
      go_wp2
      go_ret
      exact ⟨rfl, b0⟩
    by_cases c1 : 64 ≤ c
    · have HD : Hid (decide (c ≤ 126) = (true && (true && (decide (64 ≤ c) && decide (c ≤ 126))))) := Lib.hid (by simp [c1])
      rw [← HD.out]
      go_enter Tryd.func110, Tryd.ntmps110
      go_wp2_with fail
      refine (HK.out _).mono ?_
      rintro e w1 ⟨rfl, rfl⟩
      go_wp2_with fail
      refine (HR.out _).mono ?_
      rintro e w1 ⟨rfl, rfl⟩
      go_wp2
      go_ret
      exact ⟨rfl, b0⟩
    · have HD : Hid (false = (true && (true && (decide (64 ≤ c) && decide (c ≤ 126))))) := Lib.hid (by simp [c1])
      rw [← HD.out]
      go_enter Tryd.func110, Tryd.ntmps110
      go_wp2_with fail
      refine (HK.out _).mono ?_
      rintro e w1 ⟨rfl, rfl⟩
      go_wp2_with fail
      refine (HR.out _).mono ?_
      rintro e w1 ⟨rfl, rfl⟩
      go_wp2
      go_ret
      exact ⟨rfl, b0⟩
  · have HE : Hid (fldB ⟨k, a, b, c, p, n⟩ = (valB k a && (decide (b = 0) && decide (c = 0)))) := Lib.hid (by rw [fldB, if_neg k7])
    have e7 : (k == 7) = false := by rw [beq_eq_false_iff_ne]; exact k7
    rw [HE.out]
    clear k7
    go_enter Tryd.func110, Tryd.ntmps110
    go_wp2_with fail
    refine (impl_tokenValueOK k a _).mono ?_
    rintro e w1 ⟨rfl, b1⟩
    have B1 : Below w.heap.size w w1 := b0.trans (b1.mono b0.size)
    have ⟨y0, y1, y2, y3, y4, y5⟩ := (hX.keep b1).cells
    clear hX b0 b1
    cases hv : valB k a
    · have HV := Lib.hid hv
      go_wp2
      go_ret
      exact ⟨ret_bool (by rw [HV.out]; rfl), B1⟩
    · by_cases hb : b = 0
      · subst hb
        go_wp2
        go_ret
        exact ⟨ret_bool rfl, B1⟩
      · have eb : (b == 0) = false := by rw [beq_eq_false_iff_ne]; exact hb
        go_wp2
        go_ret
        exact ⟨ret_bool (by simp [hb]), B1⟩

def lenB (x : Tok) : Bool :=
  if x.k = 5 ∧ 2 ≤ x.a then decide (x.n = 2) else if x.k = 6 then decide (x.n = 1 ∨ x.n = 2) else if x.k = 7 then decide (x.n = 3 ∨ x.n = 4) else if x.k = 8 ∨ x.k = 9 then decide (1 ≤ x.n) && decide (x.n ≤ 65536) else decide (x.n = 1)

set_option maxHeartbeats 2000000 in
set_option maxRecDepth 100000 in
theorem impl_tokenLengthOK (x : Tok) (w : World) : Calls Tryd.prog 111 #[tokV x] w fun e w' => e = .returned (.bool (lenB x)) ∧ Below w.heap.size w w' := by
  obtain ⟨k, a, b, c, p, n⟩ := x
  have b0 := Lib.hid (below_one w (.cells #[.int .i64 k, .int .i64 a, .int .i64 b, .int .i64 c, .int .i64 p, .int .i64 n] 38))
  unfold tokV
  by_cases k5 : k = 5
  · by_cases a2 : 2 ≤ a
    · have HE : Hid ((n == 2) = lenB ⟨k, a, b, c, p, n⟩) := Lib.hid (by rw [lenB, if_pos ⟨k5, a2⟩]; rfl)
      subst k5
      go_enter Tryd.func111, Tryd.ntmps111
      go_wp2
      go_ret
      exact ⟨ret_bool HE.out, b0.out⟩
    · have HE : Hid ((n == 1) = lenB ⟨k, a, b, c, p, n⟩) := Lib.hid (by rw [lenB, if_neg (fun h => a2 h.2), if_neg (by dsimp only; omega), if_neg (by dsimp only; omega), if_neg (by dsimp only; omega)]; rfl)
      subst k5
      go_enter Tryd.func111, Tryd.ntmps111
      go_wp2
      go_ret
      exact ⟨ret_bool HE.out, b0.out⟩
  have e5 : (k == 5) = false := by rw [beq_eq_false_iff_ne]; exact k5
  by_cases k6 : k = 6
  · have HE : Hid (lenB ⟨k, a, b, c, p, n⟩ = decide (n = 1 ∨ n = 2)) := Lib.hid (by rw [lenB, if_neg (fun h => k5 h.1), if_pos k6])
    rw [HE.out]
    subst k6
    clear k5 e5
    by_cases n1 : n = 1
    · subst n1
      go_enter Tryd.func111, Tryd.ntmps111
      go_wp2
      go_ret
      exact ⟨ret_bool (by decide), b0.out⟩
    · have e1 : (n == 1) = false := by rw [beq_eq_false_iff_ne]; exact n1
      go_enter Tryd.func111, Tryd.ntmps111
      go_wp2
      go_ret
      exact ⟨ret_bool (by simp [n1]; rfl), b0.out⟩
  have e6 : (k == 6) = false := by rw [beq_eq_false_iff_ne]; exact k6
  by_cases k7 : k = 7
  · have HE : Hid (lenB ⟨k, a, b, c, p, n⟩ = decide (n = 3 ∨ n = 4)) := Lib.hid (by rw [lenB, if_neg (fun h => k5 h.1), if_neg k6, if_pos k7])
    rw [HE.out]
    subst k7
    clear k5 e5 k6 e6
    by_cases n1 : n = 3
    · subst n1
      go_enter Tryd.func111, Tryd.ntmps111
      go_wp2
      go_ret
      exact ⟨ret_bool (by decide), b0.out⟩
    · have e1 : (n == 3) = false := by rw [beq_eq_false_iff_ne]; exact n1
      go_enter Tryd.func111, Tryd.ntmps111
      go_wp2
      go_ret
      exact ⟨ret_bool (by simp [n1]; rfl), b0.out⟩
  have e7 : (k == 7) = false := by rw [beq_eq_false_iff_ne]; exact k7
  by_cases k8 : k = 8 ∨ k = 9
  · have HE : Hid (lenB ⟨k, a, b, c, p, n⟩ = (decide (1 ≤ n) && decide (n ≤ 65536))) := Lib.hid (by rw [lenB, if_neg (fun h => k5 h.1), if_neg k6, if_neg k7, if_pos k8])
    rw [HE.out]
    clear k5 e5 k6 e6 k7 e7 HE
    by_cases n1 : 1 ≤ n
    · by_cases n2 : n ≤ 65536
      all_goals
        rcases k8 with rfl | rfl
        all_goals
          go_enter Tryd.func111, Tryd.ntmps111
          go_wp2
          go_ret
          exact ⟨ret_bool (by simp [n1, n2]), b0.out⟩
    · have HF := Lib.hid (show decide (1 ≤ n) = false by simpa using n1)
      rcases k8 with rfl | rfl
      all_goals
        go_enter Tryd.func111, Tryd.ntmps111
        go_wp2
        go_ret
        exact ⟨ret_bool (by rw [HF.out]; rfl), b0.out⟩
  · have e8 : (k == 8) = false := by rw [beq_eq_false_iff_ne]; omega
    have e9 : (k == 9) = false := by rw [beq_eq_false_iff_ne]; omega
    have HE : Hid ((n == 1) = lenB ⟨k, a, b, c, p, n⟩) := Lib.hid (by rw [lenB, if_neg (fun h => k5 h.1), if_neg k6, if_neg k7, if_neg k8]; rfl)
    clear k5 k6 k7 k8
    go_enter Tryd.func111, Tryd.ntmps111
    go_wp2
    go_ret
    exact ⟨ret_bool HE.out, b0.out⟩

def tokOKI (x : Tok) : Bool := decide (0 ≤ x.p) && (decide (x.p ≤ 65536) && (fldB x && lenB x))
theorem regB_iff (kd g : Int) : regB kd g = true ↔ (0 ≤ g ∧ g ≤ 3) ∧ ¬ (kd = 2 ∧ g = 0) := by
  unfold regB inB
  rw [Bool.and_eq_true, Bool.and_eq_true, decide_eq_true_eq, decide_eq_true_eq, Bool.not_eq_true', Bool.and_eq_false_iff, decide_eq_false_iff_not, decide_eq_false_iff_not]
  omega
theorem okI1 (a b c p n : Int) : tokOKI ⟨1, a, b, c, p, n⟩ = true ↔ tokOKP ⟨1, a, b, c, p, n⟩ := by
  show (decide (0 ≤ p) && (decide (p ≤ 65536) && ((ctlB a && (decide (b = 0) && decide (c = 0))) && decide (n = 1)))) = true ↔ _
  unfold tokOKP
  simp only [Bool.and_eq_true, decide_eq_true_eq, ctlB_iff, Int.reduceEq, false_and, true_and, or_false]
  omega
theorem okI2 (a b c p n : Int) : tokOKI ⟨2, a, b, c, p, n⟩ = true ↔ tokOKP ⟨2, a, b, c, p, n⟩ := by
  show (decide (0 ≤ p) && (decide (p ≤ 65536) && ((decide (a = 0) && (decide (b = 0) && decide (c = 0))) && decide (n = 1)))) = true ↔ _
  unfold tokOKP
  simp only [Bool.and_eq_true, decide_eq_true_eq, Int.reduceEq, false_and, true_and, false_or, or_false]
  omega
theorem okI3 (a b c p n : Int) : tokOKI ⟨3, a, b, c, p, n⟩ = true ↔ tokOKP ⟨3, a, b, c, p, n⟩ := by
  show (decide (0 ≤ p) && (decide (p ≤ 65536) && ((inB a 33 126 && (decide (b = 0) && decide (c = 0))) && decide (n = 1)))) = true ↔ _
  unfold tokOKP
  simp only [Bool.and_eq_true, decide_eq_true_eq, inB, Int.reduceEq, false_and, true_and, false_or, or_false]
  omega
theorem okI4 (a b c p n : Int) : tokOKI ⟨4, a, b, c, p, n⟩ = true ↔ tokOKP ⟨4, a, b, c, p, n⟩ := by
  show (decide (0 ≤ p) && (decide (p ≤ 65536) && ((inB a 32 127 && (decide (b = 0) && decide (c = 0))) && decide (n = 1)))) = true ↔ _
  unfold tokOKP
  simp only [Bool.and_eq_true, decide_eq_true_eq, inB, Int.reduceEq, false_and, true_and, false_or, or_false]
  omega
theorem okI6 (a b c p n : Int) : tokOKI ⟨6, a, b, c, p, n⟩ = true ↔ tokOKP ⟨6, a, b, c, p, n⟩ := by
  show (decide (0 ≤ p) && (decide (p ≤ 65536) && ((decide (a = 2 ∨ a = 3) && (decide (b = 0) && decide (c = 0))) && decide (n = 1 ∨ n = 2)))) = true ↔ _
  unfold tokOKP
  simp only [Bool.and_eq_true, decide_eq_true_eq, Int.reduceEq, false_and, true_and, false_or, or_false]
  omega
theorem okI7 (a b c p n : Int) : tokOKI ⟨7, a, b, c, p, n⟩ = true ↔ tokOKP ⟨7, a, b, c, p, n⟩ := by
  show (decide (0 ≤ p) && (decide (p ≤ 65536) && ((inB b 1 3 && (regB b a && (decide (64 ≤ c) && decide (c ≤ 126)))) && decide (n = 3 ∨ n = 4)))) = true ↔ _
  unfold tokOKP
  simp only [Bool.and_eq_true, decide_eq_true_eq, inB, regB_iff, Int.reduceEq, false_and, true_and, false_or, or_false]
  omega
theorem okI8 (a b c p n : Int) : tokOKI ⟨8, a, b, c, p, n⟩ = true ↔ tokOKP ⟨8, a, b, c, p, n⟩ := by
  show (decide (0 ≤ p) && (decide (p ≤ 65536) && ((decide (a = 0) && (decide (b = 0) && decide (c = 0))) && (decide (1 ≤ n) && decide (n ≤ 65536))))) = true ↔ _
  unfold tokOKP
  simp only [Bool.and_eq_true, decide_eq_true_eq, Int.reduceEq, false_and, true_and, false_or, or_false]
  omega
theorem okI9 (a b c p n : Int) : tokOKI ⟨9, a, b, c, p, n⟩ = true ↔ tokOKP ⟨9, a, b, c, p, n⟩ := by
  show (decide (0 ≤ p) && (decide (p ≤ 65536) && ((decide (a = 0) && (decide (b = 0) && decide (c = 0))) && (decide (1 ≤ n) && decide (n ≤ 65536))))) = true ↔ _
  unfold tokOKP
  simp only [Bool.and_eq_true, decide_eq_true_eq, Int.reduceEq, false_and, true_and, false_or]
  omega
theorem okI5 (a b c p n : Int) : tokOKI ⟨5, a, b, c, p, n⟩ = true ↔ tokOKP ⟨5, a, b, c, p, n⟩ := by
  by_cases a2 : 2 ≤ a
  · have hl : lenB ⟨5, a, b, c, p, n⟩ = decide (n = 2) := by rw [lenB, if_pos ⟨rfl, a2⟩]
    show (decide (0 ≤ p) && (decide (p ≤ 65536) && ((inB a 0 3 && (decide (b = 0) && decide (c = 0))) && lenB ⟨5, a, b, c, p, n⟩))) = true ↔ _
    rw [hl]
    unfold tokOKP
    simp only [Bool.and_eq_true, decide_eq_true_eq, inB, Int.reduceEq, false_and, true_and, false_or, or_false]
    omega
  · have hl : lenB ⟨5, a, b, c, p, n⟩ = decide (n = 1) := by rw [lenB, if_neg (fun h => a2 h.2)]; rfl
    show (decide (0 ≤ p) && (decide (p ≤ 65536) && ((inB a 0 3 && (decide (b = 0) && decide (c = 0))) && lenB ⟨5, a, b, c, p, n⟩))) = true ↔ _
    rw [hl]
    unfold tokOKP
    simp only [Bool.and_eq_true, decide_eq_true_eq, inB, Int.reduceEq, false_and, true_and, false_or, or_false]
    omega
theorem tokOKI_eq (x : Tok) : tokOKI x = tokOKB x := by
  refine tokOKB_of ?_
  obtain ⟨k, a, b, c, p, n⟩ := x
  by_cases hk : k < 1 ∨ 9 < k
  · have h1 : valB k a = false := by
      rw [valB, if_neg (by omega), if_neg (by omega), if_neg (by omega), if_neg (by omega), if_neg (by omega), if_neg (by omega)]
    have h2 : fldB ⟨k, a, b, c, p, n⟩ = false := by
      rw [fldB, if_neg (by dsimp only; omega)]
      dsimp only
      rw [h1]
      rfl
    unfold tokOKI
    rw [h2]
    unfold tokOKP
    constructor
    · intro h; simp at h
    · intro h; exfalso; dsimp only at h; omega
  · have : k = 1 ∨ k = 2 ∨ k = 3 ∨ k = 4 ∨ k = 5 ∨ k = 6 ∨ k = 7 ∨ k = 8 ∨ k = 9 := by omega
    rcases this with rfl | rfl | rfl | rfl | rfl | rfl | rfl | rfl | rfl
    · exact okI1 a b c p n
    · exact okI2 a b c p n
    · exact okI3 a b c p n
    · exact okI4 a b c p n
    · exact okI5 a b c p n
    · exact okI6 a b c p n
    · exact okI7 a b c p n
    · exact okI8 a b c p n
    · exact okI9 a b c p n

set_option maxHeartbeats 2000000 in
set_option maxRecDepth 100000 in
theorem impl_tokenOK (x : Tok) (w : World) : Calls Tryd.prog 62 #[tokV x] w fun e w' => e = .returned (.bool (tokOKB x)) ∧ Below w.heap.size w w' := by
  have HO := Lib.hid (tokOKI_eq x)
  rw [← HO.out]
  have HF := Lib.hid (impl_tokenFieldsOK x)
  have HL := Lib.hid (impl_tokenLengthOK x)
  have HX := Lib.hid (show tokOKI x = (decide (0 ≤ x.p) && (decide (x.p ≤ 65536) && (fldB x && lenB x))) from rfl)
  rw [HX.out]
  generalize fldB x = fb at *
  generalize lenB x = lb at *
  clear HO HX
  obtain ⟨k, a, b, c, p, n⟩ := x
  have b0 := below_one w (.cells #[.int .i64 k, .int .i64 a, .int .i64 b, .int .i64 c, .int .i64 p, .int .i64 n] 38)
  have hX := TokAt.new w ⟨k, a, b, c, p, n⟩
  unfold tokV at HF HL ⊢
  dsimp only at *
  by_cases p0 : 0 ≤ p
  · by_cases p1 : p ≤ 65536
    · have HD : Hid ((decide (0 ≤ p) && (decide (p ≤ 65536) && (fb && lb))) = (fb && lb)) := Lib.hid (by simp [p0, p1])
      rw [HD.out]
      go_enter Tryd.func62, Tryd.ntmps62
      go_wp2_with fail
      refine (HF.out _).mono ?_
      rintro e w1 ⟨rfl, b1⟩
      have B1 : Below w.heap.size w w1 := b0.trans (b1.mono b0.size)
      have ⟨y0, y1, y2, y3, y4, y5⟩ := (hX.keep b1).cells
      dsimp only at y0 y1 y2 y3 y4 y5
      clear hX b0 b1
      cases fb
      · go_wp2
        go_ret
        exact ⟨rfl, B1⟩
      · go_wp2_with fail
        refine (HL.out _).mono ?_
        rintro e w2 ⟨rfl, b2⟩
        have B2 : Below w.heap.size w w2 := B1.trans (b2.mono B1.size)
        go_wp2
        go_ret
        exact ⟨ret_bool (by simp), B2⟩
    · have HD : Hid ((decide (0 ≤ p) && (decide (p ≤ 65536) && (fb && lb))) = false) := Lib.hid (by simp [p1])
      rw [HD.out]
      clear hX
      go_enter Tryd.func62, Tryd.ntmps62
      go_wp2
      go_ret
      exact ⟨rfl, b0⟩
  · have HD : Hid ((decide (0 ≤ p) && (decide (p ≤ 65536) && (fb && lb))) = false) := Lib.hid (by simp [p0])
    rw [HD.out]
    clear hX
    go_enter Tryd.func62, Tryd.ntmps62
    go_wp2
    go_ret
    exact ⟨rfl, b0⟩

end Go.Proofs.YtjbikenhdgbacaaDoor

namespace Go.Proofs.YtjbikenhdgbacaaDoor
open Go.RowKit

set_option maxHeartbeats 1000000 in
theorem impl_rules (w : World) : Calls Tryd.prog 122 #[] w fun e w' => e = .returned (.agg #[.func (.func 142) #[] #[], .func (.func 143) #[] #[], .func (.func 141) #[] #[], .func (.func 141) #[] #[], .func (.func 144) #[] #[], .func (.func 145) #[] #[], .func (.func 146) #[] #[], .func (.func 147) #[] #[], .func (.func 142) #[] #[], .func (.func 142) #[] #[]]) ∧ Below w.heap.size w w' := by
  go_enter Tryd.func122, Tryd.ntmps122
  go_wp2
  exact bodyPost_ret (results_cell_row rfl _ _ w.heap.size _ _ _ _ rfl (heap_alloc_new _ _) Tryd.underlying140 rfl (by kernel_rfl)) rfl ⟨rfl, below_one _ _⟩

set_option maxHeartbeats 1000000 in
theorem rule1 (n : Int) (g : Nat) (m : Value) (t : Tok) (w : World) (_hg : GuAt w g n m) : Calls Tryd.prog 141 #[.pointer (some ⟨g, 0, none⟩), tokV t] w fun e w' => e = .returned (.bool (true)) ∧ Below w.heap.size w w' := by
  have B0 := Lib.hid (below_one w (.cells #[.int .i64 t.k, .int .i64 t.a, .int .i64 t.b, .int .i64 t.c, .int .i64 t.p, .int .i64 t.n] 38))
  unfold tokV
  go_enter Tryd.func141, Tryd.ntmps141
  go_wp2
  go_ret
  exact ⟨rfl, B0.out⟩

set_option maxHeartbeats 1000000 in
theorem rule2 (n : Int) (g : Nat) (m : Value) (t : Tok) (w : World) (_hg : GuAt w g n m) : Calls Tryd.prog 142 #[.pointer (some ⟨g, 0, none⟩), tokV t] w fun e w' => e = .returned (.bool (false)) ∧ Below w.heap.size w w' := by
  have B0 := Lib.hid (below_one w (.cells #[.int .i64 t.k, .int .i64 t.a, .int .i64 t.b, .int .i64 t.c, .int .i64 t.p, .int .i64 t.n] 38))
  unfold tokV
  go_enter Tryd.func142, Tryd.ntmps142
  go_wp2
  go_ret
  exact ⟨rfl, B0.out⟩

set_option maxHeartbeats 1000000 in
theorem rule3 (n : Int) (g : Nat) (m : Value) (t : Tok) (w : World) (_hg : GuAt w g n m) : Calls Tryd.prog 143 #[.pointer (some ⟨g, 0, none⟩), tokV t] w fun e w' => e = .returned (.bool (decide (t.a < 128))) ∧ Below w.heap.size w w' := by
  have B0 := Lib.hid (below_one w (.cells #[.int .i64 t.k, .int .i64 t.a, .int .i64 t.b, .int .i64 t.c, .int .i64 t.p, .int .i64 t.n] 38))
  unfold tokV
  go_enter Tryd.func143, Tryd.ntmps143
  go_wp2
  go_ret
  exact ⟨rfl, B0.out⟩

set_option maxHeartbeats 1000000 in
theorem rule4 (n : Int) (g : Nat) (m : Value) (t : Tok) (w : World) (hg : GuAt w g n m) : Calls Tryd.prog 144 #[.pointer (some ⟨g, 0, none⟩), tokV t] w fun e w' => e = .returned (.bool (prRight n)) ∧ Below w.heap.size w w' := by
  have B0 := Lib.hid (below_one w (.cells #[.int .i64 t.k, .int .i64 t.a, .int .i64 t.b, .int .i64 t.c, .int .i64 t.p, .int .i64 t.n] 38))
  have ⟨c0, c1, c2, c3, c4, c5, c6, c7, c8, c9⟩ := row10_cells (hg.keep (below_one w (.cells #[.int .i64 t.k, .int .i64 t.a, .int .i64 t.b, .int .i64 t.c, .int .i64 t.p, .int .i64 t.n] 38)))
  clear c0 c1 c2 c3 c5 c6 c7 c8 c9 hg
  unfold tokV
  go_enter Tryd.func144, Tryd.ntmps144
  go_wp2
  go_ret
  exact ⟨rfl, B0.out⟩

set_option maxHeartbeats 1000000 in
theorem rule5 (n : Int) (g : Nat) (m : Value) (t : Tok) (w : World) (hg : GuAt w g n m) : Calls Tryd.prog 145 #[.pointer (some ⟨g, 0, none⟩), tokV t] w fun e w' => e = .returned (.bool (prShifts n && decide (t.a < 2))) ∧ Below w.heap.size w w' := by
  have B0 := Lib.hid (below_one w (.cells #[.int .i64 t.k, .int .i64 t.a, .int .i64 t.b, .int .i64 t.c, .int .i64 t.p, .int .i64 t.n] 38))
  have ⟨c0, c1, c2, c3, c4, c5, c6, c7, c8, c9⟩ := row10_cells (hg.keep (below_one w (.cells #[.int .i64 t.k, .int .i64 t.a, .int .i64 t.b, .int .i64 t.c, .int .i64 t.p, .int .i64 t.n] 38)))
  clear c0 c1 c2 c3 c4 c6 c7 c8 c9 hg
  unfold tokV
  cases h : prShifts n
  · rw [h] at c5
    go_enter Tryd.func145, Tryd.ntmps145
    go_wp2
    go_ret
    exact ⟨rfl, B0.out⟩
  · rw [h] at c5
    have HE : Hid (decide (t.a ≤ 1) = (true && decide (t.a < 2))) := Lib.hid (by rw [Bool.true_and]; exact decide_eq_decide.2 (by omega))
    go_enter Tryd.func145, Tryd.ntmps145
    go_wp2
    go_ret
    exact ⟨ret_bool HE.out, B0.out⟩

set_option maxHeartbeats 1000000 in
theorem rule6 (n : Int) (g : Nat) (m : Value) (t : Tok) (w : World) (hg : GuAt w g n m) : Calls Tryd.prog 146 #[.pointer (some ⟨g, 0, none⟩), tokV t] w fun e w' => e = .returned (.bool (prSingle n && (decide (t.a = 2) && decide (t.n = 2)))) ∧ Below w.heap.size w w' := by
  have B0 := Lib.hid (below_one w (.cells #[.int .i64 t.k, .int .i64 t.a, .int .i64 t.b, .int .i64 t.c, .int .i64 t.p, .int .i64 t.n] 38))
  have ⟨c0, c1, c2, c3, c4, c5, c6, c7, c8, c9⟩ := row10_cells (hg.keep (below_one w (.cells #[.int .i64 t.k, .int .i64 t.a, .int .i64 t.b, .int .i64 t.c, .int .i64 t.p, .int .i64 t.n] 38)))
  clear c0 c1 c2 c3 c4 c5 c7 c8 c9 hg
  unfold tokV
  cases h : prSingle n
  · rw [h] at c6
    go_enter Tryd.func146, Tryd.ntmps146
    go_wp2
    go_ret
    exact ⟨rfl, B0.out⟩
  · rw [h] at c6
    by_cases h2 : t.a = 2
    · have e2 : (t.a == 2) = true := by simp [h2]
      have HE : Hid ((t.n == 2) = (true && (decide (t.a = 2) && decide (t.n = 2)))) := Lib.hid (by rw [decide_eq_true h2]; rfl)
      clear h2
      go_enter Tryd.func146, Tryd.ntmps146
      go_wp2
      go_ret
      exact ⟨ret_bool HE.out, B0.out⟩
    · have e2 : (t.a == 2) = false := by simp [h2]
      have HE : Hid (false = (true && (decide (t.a = 2) && decide (t.n = 2)))) := Lib.hid (by rw [decide_eq_false h2]; rfl)
      go_enter Tryd.func146, Tryd.ntmps146
      go_wp2
      go_ret
      exact ⟨ret_bool HE.out, B0.out⟩


/-- The worlds on the way through 'allows': the guide's map may have been made. -/
def AlW (W0 : World) (g : Nat) (n : Int) (C : Nat) : Type := { w' : World // GuOK w' g n C ∧ Only g W0 w' }
theorem alw_cell {W0 : World} {g tb i : Nat} {n : Int} {C : Nat} {v : Value} (h : W0.cell? ⟨tb, i, none⟩ = some v) (hne : tb ≠ g) (p : AlW W0 g n C) : p.1.cell? ⟨tb, i, none⟩ = some v := by
  have hl := World.block_lt_of_cell? W0 _ h
  have hb := p.2.2.2 tb hne hl
  rw [← h]
  unfold World.cell?
  rw [hb]
theorem alw_below {W0 : World} {g : Nat} {n : Int} {C : Nat} {f : FuncId} {args : Array Value} {v : Value} (hgW : g < W0.heap.size) (p : AlW W0 g n C) (h : Calls Tryd.prog f args p.1 fun e w' => e = .returned v ∧ Below p.1.heap.size p.1 w') : Calls Tryd.prog f args p.1 fun e w'' => e = .returned v ∧ ∃ q : AlW W0 g n C, w'' = q.1 :=
  h.mono fun _ w' ⟨he, hb⟩ => ⟨he, ⟨w', p.2.1.keep hb, p.2.2.trans (only_below (Nat.lt_of_lt_of_le hgW p.2.2.1.size) hb)⟩, rfl⟩
theorem alw_done {W0 : World} {g : Nat} {n : Int} {C : Nat} {f : FuncId} {args : Array Value} {q : Bool} (p : AlW W0 g n C) (h : Calls Tryd.prog f args p.1 (GaDone q g n C p.1)) : Calls Tryd.prog f args p.1 fun e w'' => e = .returned (.bool q) ∧ ∃ q : AlW W0 g n C, w'' = q.1 :=
  h.mono fun _ w' ⟨he, hG, ho⟩ => ⟨he, ⟨w', hG, p.2.2.trans ho⟩, rfl⟩

set_option maxHeartbeats 2000000 in
set_option maxRecDepth 100000 in
/-- The method at a kind whose predicate answers q. -/
theorem impl_allows_1 (k : Int) (hk : ∀ w : World, (Instr.index 140 (.agg #[.func (.func 142) #[] #[], .func (.func 143) #[] #[], .func (.func 141) #[] #[], .func (.func 141) #[] #[], .func (.func 144) #[] #[], .func (.func 145) #[] #[], .func (.func 146) #[] #[], .func (.func 147) #[] #[], .func (.func 142) #[] #[], .func (.func 142) #[] #[]]) (.int .i64 k)).run Tryd.prog w = .ok (.func (.func 141) #[] #[]) w)
    (n : Int) (g C : Nat) (a b c p m : Int) (q : Bool) (w : World) (h : GuOK w g n C) (hg : g < C) (hC : C ≤ w.heap.size)
    (hf : ∀ W, GuOK W g n C → Only g w W → C ≤ W.heap.size → Calls Tryd.prog 141 #[.pointer (some ⟨g, 0, none⟩), tokV ⟨k, a, b, c, p, m⟩] W (GaDone q g n C W)) :
    Calls Tryd.prog 87 #[.pointer (some ⟨g, 0, none⟩), tokV ⟨k, a, b, c, p, m⟩] w (GaDone q g n C w) := by
  have B0 := Lib.hid (below_one w (.cells #[.int .i64 k, .int .i64 a, .int .i64 b, .int .i64 c, .int .i64 p, .int .i64 m] 38))
  have hK : TokAt (w.alloc (.cells #[.int .i64 k, .int .i64 a, .int .i64 b, .int .i64 c, .int .i64 p, .int .i64 m] 38)) w.heap.size ⟨k, a, b, c, p, m⟩ := heap_alloc_new _ _
  have ⟨t0, t1, t2, t3, t4, t5⟩ := hK.cells
  dsimp only at t0 t1 t2 t3 t4 t5
  have HG0 := Lib.hid (h.keep B0.out)
  have hgl : g < w.heap.size := by omega
  have hne : w.heap.size ≠ g := by omega
  have hs0 : (w.alloc (.cells #[.int .i64 k, .int .i64 a, .int .i64 b, .int .i64 c, .int .i64 p, .int .i64 m] 38)).heap.size = w.heap.size + 1 := by simp
  unfold tokV at hf ⊢
  go_enter Tryd.func87, Tryd.ntmps87
  go_wp2_with fail
  generalize w.alloc (.cells #[.int .i64 k, .int .i64 a, .int .i64 b, .int .i64 c, .int .i64 p, .int .i64 m] 38) = W0 at *
  have hgW : g < W0.heap.size := by omega
  have m0 := fun p : AlW W0 g n C => alw_cell t0 hne p
  have m1 := fun p : AlW W0 g n C => alw_cell t1 hne p
  have m2 := fun p : AlW W0 g n C => alw_cell t2 hne p
  have m3 := fun p : AlW W0 g n C => alw_cell t3 hne p
  have m4 := fun p : AlW W0 g n C => alw_cell t4 hne p
  have m5 := fun p : AlW W0 g n C => alw_cell t5 hne p
  have cR := fun p : AlW W0 g n C => alw_below hgW p (impl_rules p.1)
  have cF := fun p : AlW W0 g n C => alw_done p (hf p.1 p.2.1 ((only_below hgl B0.out).trans p.2.2) (Nat.le_trans hC (Nat.le_trans B0.out.size p.2.2.1.size)))
  clear t0 t1 t2 t3 t4 t5 hf hK h
  haveI : Nonempty (AlW W0 g n C) := ⟨⟨W0, HG0.out, Only.refl g W0⟩⟩
  refine wp_region_quiet (C := fun w' => ∃ p : AlW W0 g n C, w' = p.1) (by kernel_rfl) (by kernel_rfl) ⟨⟨_, HG0.out.keep ((Below.refl W0.heap.size W0).drew), (Only.refl g W0).1.drew, (Only.refl g W0).2⟩, rfl⟩ ?_
  repeat (quiet_step (first | exact cR _ | exact cF _))
  refine wpQuiet_nil ?_
  intro w' hw'
  obtain ⟨⟨w9, hG9, hO9⟩, hw''⟩ := hw'
  have hw9 : w' = w9 := hw''
  subst hw9
  have HD : Hid (GuOK w' g n C ∧ Only g w w') := Lib.hid ⟨hG9, (only_below hgl B0.out).trans hO9⟩
  clear m0 m1 m2 m3 m4 m5 cR cF hw'' hG9 hO9
  go_wp2
  go_ret
  exact ⟨rfl, HD.out⟩

set_option maxHeartbeats 2000000 in
set_option maxRecDepth 100000 in
/-- The method at a kind whose predicate answers q. -/
theorem impl_allows_2 (k : Int) (hk : ∀ w : World, (Instr.index 140 (.agg #[.func (.func 142) #[] #[], .func (.func 143) #[] #[], .func (.func 141) #[] #[], .func (.func 141) #[] #[], .func (.func 144) #[] #[], .func (.func 145) #[] #[], .func (.func 146) #[] #[], .func (.func 147) #[] #[], .func (.func 142) #[] #[], .func (.func 142) #[] #[]]) (.int .i64 k)).run Tryd.prog w = .ok (.func (.func 142) #[] #[]) w)
    (n : Int) (g C : Nat) (a b c p m : Int) (q : Bool) (w : World) (h : GuOK w g n C) (hg : g < C) (hC : C ≤ w.heap.size)
    (hf : ∀ W, GuOK W g n C → Only g w W → C ≤ W.heap.size → Calls Tryd.prog 142 #[.pointer (some ⟨g, 0, none⟩), tokV ⟨k, a, b, c, p, m⟩] W (GaDone q g n C W)) :
    Calls Tryd.prog 87 #[.pointer (some ⟨g, 0, none⟩), tokV ⟨k, a, b, c, p, m⟩] w (GaDone q g n C w) := by
  have B0 := Lib.hid (below_one w (.cells #[.int .i64 k, .int .i64 a, .int .i64 b, .int .i64 c, .int .i64 p, .int .i64 m] 38))
  have hK : TokAt (w.alloc (.cells #[.int .i64 k, .int .i64 a, .int .i64 b, .int .i64 c, .int .i64 p, .int .i64 m] 38)) w.heap.size ⟨k, a, b, c, p, m⟩ := heap_alloc_new _ _
  have ⟨t0, t1, t2, t3, t4, t5⟩ := hK.cells
  dsimp only at t0 t1 t2 t3 t4 t5
  have HG0 := Lib.hid (h.keep B0.out)
  have hgl : g < w.heap.size := by omega
  have hne : w.heap.size ≠ g := by omega
  have hs0 : (w.alloc (.cells #[.int .i64 k, .int .i64 a, .int .i64 b, .int .i64 c, .int .i64 p, .int .i64 m] 38)).heap.size = w.heap.size + 1 := by simp
  unfold tokV at hf ⊢
  go_enter Tryd.func87, Tryd.ntmps87
  go_wp2_with fail
  generalize w.alloc (.cells #[.int .i64 k, .int .i64 a, .int .i64 b, .int .i64 c, .int .i64 p, .int .i64 m] 38) = W0 at *
  have hgW : g < W0.heap.size := by omega
  have m0 := fun p : AlW W0 g n C => alw_cell t0 hne p
  have m1 := fun p : AlW W0 g n C => alw_cell t1 hne p
  have m2 := fun p : AlW W0 g n C => alw_cell t2 hne p
  have m3 := fun p : AlW W0 g n C => alw_cell t3 hne p
  have m4 := fun p : AlW W0 g n C => alw_cell t4 hne p
  have m5 := fun p : AlW W0 g n C => alw_cell t5 hne p
  have cR := fun p : AlW W0 g n C => alw_below hgW p (impl_rules p.1)
  have cF := fun p : AlW W0 g n C => alw_done p (hf p.1 p.2.1 ((only_below hgl B0.out).trans p.2.2) (Nat.le_trans hC (Nat.le_trans B0.out.size p.2.2.1.size)))
  clear t0 t1 t2 t3 t4 t5 hf hK h
  haveI : Nonempty (AlW W0 g n C) := ⟨⟨W0, HG0.out, Only.refl g W0⟩⟩
  refine wp_region_quiet (C := fun w' => ∃ p : AlW W0 g n C, w' = p.1) (by kernel_rfl) (by kernel_rfl) ⟨⟨_, HG0.out.keep ((Below.refl W0.heap.size W0).drew), (Only.refl g W0).1.drew, (Only.refl g W0).2⟩, rfl⟩ ?_
  repeat (quiet_step (first | exact cR _ | exact cF _))
  refine wpQuiet_nil ?_
  intro w' hw'
  obtain ⟨⟨w9, hG9, hO9⟩, hw''⟩ := hw'
  have hw9 : w' = w9 := hw''
  subst hw9
  have HD : Hid (GuOK w' g n C ∧ Only g w w') := Lib.hid ⟨hG9, (only_below hgl B0.out).trans hO9⟩
  clear m0 m1 m2 m3 m4 m5 cR cF hw'' hG9 hO9
  go_wp2
  go_ret
  exact ⟨rfl, HD.out⟩

set_option maxHeartbeats 2000000 in
set_option maxRecDepth 100000 in
/-- The method at a kind whose predicate answers q. -/
theorem impl_allows_3 (k : Int) (hk : ∀ w : World, (Instr.index 140 (.agg #[.func (.func 142) #[] #[], .func (.func 143) #[] #[], .func (.func 141) #[] #[], .func (.func 141) #[] #[], .func (.func 144) #[] #[], .func (.func 145) #[] #[], .func (.func 146) #[] #[], .func (.func 147) #[] #[], .func (.func 142) #[] #[], .func (.func 142) #[] #[]]) (.int .i64 k)).run Tryd.prog w = .ok (.func (.func 143) #[] #[]) w)
    (n : Int) (g C : Nat) (a b c p m : Int) (q : Bool) (w : World) (h : GuOK w g n C) (hg : g < C) (hC : C ≤ w.heap.size)
    (hf : ∀ W, GuOK W g n C → Only g w W → C ≤ W.heap.size → Calls Tryd.prog 143 #[.pointer (some ⟨g, 0, none⟩), tokV ⟨k, a, b, c, p, m⟩] W (GaDone q g n C W)) :
    Calls Tryd.prog 87 #[.pointer (some ⟨g, 0, none⟩), tokV ⟨k, a, b, c, p, m⟩] w (GaDone q g n C w) := by
  have B0 := Lib.hid (below_one w (.cells #[.int .i64 k, .int .i64 a, .int .i64 b, .int .i64 c, .int .i64 p, .int .i64 m] 38))
  have hK : TokAt (w.alloc (.cells #[.int .i64 k, .int .i64 a, .int .i64 b, .int .i64 c, .int .i64 p, .int .i64 m] 38)) w.heap.size ⟨k, a, b, c, p, m⟩ := heap_alloc_new _ _
  have ⟨t0, t1, t2, t3, t4, t5⟩ := hK.cells
  dsimp only at t0 t1 t2 t3 t4 t5
  have HG0 := Lib.hid (h.keep B0.out)
  have hgl : g < w.heap.size := by omega
  have hne : w.heap.size ≠ g := by omega
  have hs0 : (w.alloc (.cells #[.int .i64 k, .int .i64 a, .int .i64 b, .int .i64 c, .int .i64 p, .int .i64 m] 38)).heap.size = w.heap.size + 1 := by simp
  unfold tokV at hf ⊢
  go_enter Tryd.func87, Tryd.ntmps87
  go_wp2_with fail
  generalize w.alloc (.cells #[.int .i64 k, .int .i64 a, .int .i64 b, .int .i64 c, .int .i64 p, .int .i64 m] 38) = W0 at *
  have hgW : g < W0.heap.size := by omega
  have m0 := fun p : AlW W0 g n C => alw_cell t0 hne p
  have m1 := fun p : AlW W0 g n C => alw_cell t1 hne p
  have m2 := fun p : AlW W0 g n C => alw_cell t2 hne p
  have m3 := fun p : AlW W0 g n C => alw_cell t3 hne p
  have m4 := fun p : AlW W0 g n C => alw_cell t4 hne p
  have m5 := fun p : AlW W0 g n C => alw_cell t5 hne p
  have cR := fun p : AlW W0 g n C => alw_below hgW p (impl_rules p.1)
  have cF := fun p : AlW W0 g n C => alw_done p (hf p.1 p.2.1 ((only_below hgl B0.out).trans p.2.2) (Nat.le_trans hC (Nat.le_trans B0.out.size p.2.2.1.size)))
  clear t0 t1 t2 t3 t4 t5 hf hK h
  haveI : Nonempty (AlW W0 g n C) := ⟨⟨W0, HG0.out, Only.refl g W0⟩⟩
  refine wp_region_quiet (C := fun w' => ∃ p : AlW W0 g n C, w' = p.1) (by kernel_rfl) (by kernel_rfl) ⟨⟨_, HG0.out.keep ((Below.refl W0.heap.size W0).drew), (Only.refl g W0).1.drew, (Only.refl g W0).2⟩, rfl⟩ ?_
  repeat (quiet_step (first | exact cR _ | exact cF _))
  refine wpQuiet_nil ?_
  intro w' hw'
  obtain ⟨⟨w9, hG9, hO9⟩, hw''⟩ := hw'
  have hw9 : w' = w9 := hw''
  subst hw9
  have HD : Hid (GuOK w' g n C ∧ Only g w w') := Lib.hid ⟨hG9, (only_below hgl B0.out).trans hO9⟩
  clear m0 m1 m2 m3 m4 m5 cR cF hw'' hG9 hO9
  go_wp2
  go_ret
  exact ⟨rfl, HD.out⟩

set_option maxHeartbeats 2000000 in
set_option maxRecDepth 100000 in
/-- The method at a kind whose predicate answers q. -/
theorem impl_allows_4 (k : Int) (hk : ∀ w : World, (Instr.index 140 (.agg #[.func (.func 142) #[] #[], .func (.func 143) #[] #[], .func (.func 141) #[] #[], .func (.func 141) #[] #[], .func (.func 144) #[] #[], .func (.func 145) #[] #[], .func (.func 146) #[] #[], .func (.func 147) #[] #[], .func (.func 142) #[] #[], .func (.func 142) #[] #[]]) (.int .i64 k)).run Tryd.prog w = .ok (.func (.func 144) #[] #[]) w)
    (n : Int) (g C : Nat) (a b c p m : Int) (q : Bool) (w : World) (h : GuOK w g n C) (hg : g < C) (hC : C ≤ w.heap.size)
    (hf : ∀ W, GuOK W g n C → Only g w W → C ≤ W.heap.size → Calls Tryd.prog 144 #[.pointer (some ⟨g, 0, none⟩), tokV ⟨k, a, b, c, p, m⟩] W (GaDone q g n C W)) :
    Calls Tryd.prog 87 #[.pointer (some ⟨g, 0, none⟩), tokV ⟨k, a, b, c, p, m⟩] w (GaDone q g n C w) := by
  have B0 := Lib.hid (below_one w (.cells #[.int .i64 k, .int .i64 a, .int .i64 b, .int .i64 c, .int .i64 p, .int .i64 m] 38))
  have hK : TokAt (w.alloc (.cells #[.int .i64 k, .int .i64 a, .int .i64 b, .int .i64 c, .int .i64 p, .int .i64 m] 38)) w.heap.size ⟨k, a, b, c, p, m⟩ := heap_alloc_new _ _
  have ⟨t0, t1, t2, t3, t4, t5⟩ := hK.cells
  dsimp only at t0 t1 t2 t3 t4 t5
  have HG0 := Lib.hid (h.keep B0.out)
  have hgl : g < w.heap.size := by omega
  have hne : w.heap.size ≠ g := by omega
  have hs0 : (w.alloc (.cells #[.int .i64 k, .int .i64 a, .int .i64 b, .int .i64 c, .int .i64 p, .int .i64 m] 38)).heap.size = w.heap.size + 1 := by simp
  unfold tokV at hf ⊢
  go_enter Tryd.func87, Tryd.ntmps87
  go_wp2_with fail
  generalize w.alloc (.cells #[.int .i64 k, .int .i64 a, .int .i64 b, .int .i64 c, .int .i64 p, .int .i64 m] 38) = W0 at *
  have hgW : g < W0.heap.size := by omega
  have m0 := fun p : AlW W0 g n C => alw_cell t0 hne p
  have m1 := fun p : AlW W0 g n C => alw_cell t1 hne p
  have m2 := fun p : AlW W0 g n C => alw_cell t2 hne p
  have m3 := fun p : AlW W0 g n C => alw_cell t3 hne p
  have m4 := fun p : AlW W0 g n C => alw_cell t4 hne p
  have m5 := fun p : AlW W0 g n C => alw_cell t5 hne p
  have cR := fun p : AlW W0 g n C => alw_below hgW p (impl_rules p.1)
  have cF := fun p : AlW W0 g n C => alw_done p (hf p.1 p.2.1 ((only_below hgl B0.out).trans p.2.2) (Nat.le_trans hC (Nat.le_trans B0.out.size p.2.2.1.size)))
  clear t0 t1 t2 t3 t4 t5 hf hK h
  haveI : Nonempty (AlW W0 g n C) := ⟨⟨W0, HG0.out, Only.refl g W0⟩⟩
  refine wp_region_quiet (C := fun w' => ∃ p : AlW W0 g n C, w' = p.1) (by kernel_rfl) (by kernel_rfl) ⟨⟨_, HG0.out.keep ((Below.refl W0.heap.size W0).drew), (Only.refl g W0).1.drew, (Only.refl g W0).2⟩, rfl⟩ ?_
  repeat (quiet_step (first | exact cR _ | exact cF _))
  refine wpQuiet_nil ?_
  intro w' hw'
  obtain ⟨⟨w9, hG9, hO9⟩, hw''⟩ := hw'
  have hw9 : w' = w9 := hw''
  subst hw9
  have HD : Hid (GuOK w' g n C ∧ Only g w w') := Lib.hid ⟨hG9, (only_below hgl B0.out).trans hO9⟩
  clear m0 m1 m2 m3 m4 m5 cR cF hw'' hG9 hO9
  go_wp2
  go_ret
  exact ⟨rfl, HD.out⟩

set_option maxHeartbeats 2000000 in
set_option maxRecDepth 100000 in
/-- The method at a kind whose predicate answers q. -/
theorem impl_allows_5 (k : Int) (hk : ∀ w : World, (Instr.index 140 (.agg #[.func (.func 142) #[] #[], .func (.func 143) #[] #[], .func (.func 141) #[] #[], .func (.func 141) #[] #[], .func (.func 144) #[] #[], .func (.func 145) #[] #[], .func (.func 146) #[] #[], .func (.func 147) #[] #[], .func (.func 142) #[] #[], .func (.func 142) #[] #[]]) (.int .i64 k)).run Tryd.prog w = .ok (.func (.func 145) #[] #[]) w)
    (n : Int) (g C : Nat) (a b c p m : Int) (q : Bool) (w : World) (h : GuOK w g n C) (hg : g < C) (hC : C ≤ w.heap.size)
    (hf : ∀ W, GuOK W g n C → Only g w W → C ≤ W.heap.size → Calls Tryd.prog 145 #[.pointer (some ⟨g, 0, none⟩), tokV ⟨k, a, b, c, p, m⟩] W (GaDone q g n C W)) :
    Calls Tryd.prog 87 #[.pointer (some ⟨g, 0, none⟩), tokV ⟨k, a, b, c, p, m⟩] w (GaDone q g n C w) := by
  have B0 := Lib.hid (below_one w (.cells #[.int .i64 k, .int .i64 a, .int .i64 b, .int .i64 c, .int .i64 p, .int .i64 m] 38))
  have hK : TokAt (w.alloc (.cells #[.int .i64 k, .int .i64 a, .int .i64 b, .int .i64 c, .int .i64 p, .int .i64 m] 38)) w.heap.size ⟨k, a, b, c, p, m⟩ := heap_alloc_new _ _
  have ⟨t0, t1, t2, t3, t4, t5⟩ := hK.cells
  dsimp only at t0 t1 t2 t3 t4 t5
  have HG0 := Lib.hid (h.keep B0.out)
  have hgl : g < w.heap.size := by omega
  have hne : w.heap.size ≠ g := by omega
  have hs0 : (w.alloc (.cells #[.int .i64 k, .int .i64 a, .int .i64 b, .int .i64 c, .int .i64 p, .int .i64 m] 38)).heap.size = w.heap.size + 1 := by simp
  unfold tokV at hf ⊢
  go_enter Tryd.func87, Tryd.ntmps87
  go_wp2_with fail
  generalize w.alloc (.cells #[.int .i64 k, .int .i64 a, .int .i64 b, .int .i64 c, .int .i64 p, .int .i64 m] 38) = W0 at *
  have hgW : g < W0.heap.size := by omega
  have m0 := fun p : AlW W0 g n C => alw_cell t0 hne p
  have m1 := fun p : AlW W0 g n C => alw_cell t1 hne p
  have m2 := fun p : AlW W0 g n C => alw_cell t2 hne p
  have m3 := fun p : AlW W0 g n C => alw_cell t3 hne p
  have m4 := fun p : AlW W0 g n C => alw_cell t4 hne p
  have m5 := fun p : AlW W0 g n C => alw_cell t5 hne p
  have cR := fun p : AlW W0 g n C => alw_below hgW p (impl_rules p.1)
  have cF := fun p : AlW W0 g n C => alw_done p (hf p.1 p.2.1 ((only_below hgl B0.out).trans p.2.2) (Nat.le_trans hC (Nat.le_trans B0.out.size p.2.2.1.size)))
  clear t0 t1 t2 t3 t4 t5 hf hK h
  haveI : Nonempty (AlW W0 g n C) := ⟨⟨W0, HG0.out, Only.refl g W0⟩⟩
  refine wp_region_quiet (C := fun w' => ∃ p : AlW W0 g n C, w' = p.1) (by kernel_rfl) (by kernel_rfl) ⟨⟨_, HG0.out.keep ((Below.refl W0.heap.size W0).drew), (Only.refl g W0).1.drew, (Only.refl g W0).2⟩, rfl⟩ ?_
  repeat (quiet_step (first | exact cR _ | exact cF _))
  refine wpQuiet_nil ?_
  intro w' hw'
  obtain ⟨⟨w9, hG9, hO9⟩, hw''⟩ := hw'
  have hw9 : w' = w9 := hw''
  subst hw9
  have HD : Hid (GuOK w' g n C ∧ Only g w w') := Lib.hid ⟨hG9, (only_below hgl B0.out).trans hO9⟩
  clear m0 m1 m2 m3 m4 m5 cR cF hw'' hG9 hO9
  go_wp2
  go_ret
  exact ⟨rfl, HD.out⟩

set_option maxHeartbeats 2000000 in
set_option maxRecDepth 100000 in
/-- The method at a kind whose predicate answers q. -/
theorem impl_allows_6 (k : Int) (hk : ∀ w : World, (Instr.index 140 (.agg #[.func (.func 142) #[] #[], .func (.func 143) #[] #[], .func (.func 141) #[] #[], .func (.func 141) #[] #[], .func (.func 144) #[] #[], .func (.func 145) #[] #[], .func (.func 146) #[] #[], .func (.func 147) #[] #[], .func (.func 142) #[] #[], .func (.func 142) #[] #[]]) (.int .i64 k)).run Tryd.prog w = .ok (.func (.func 146) #[] #[]) w)
    (n : Int) (g C : Nat) (a b c p m : Int) (q : Bool) (w : World) (h : GuOK w g n C) (hg : g < C) (hC : C ≤ w.heap.size)
    (hf : ∀ W, GuOK W g n C → Only g w W → C ≤ W.heap.size → Calls Tryd.prog 146 #[.pointer (some ⟨g, 0, none⟩), tokV ⟨k, a, b, c, p, m⟩] W (GaDone q g n C W)) :
    Calls Tryd.prog 87 #[.pointer (some ⟨g, 0, none⟩), tokV ⟨k, a, b, c, p, m⟩] w (GaDone q g n C w) := by
  have B0 := Lib.hid (below_one w (.cells #[.int .i64 k, .int .i64 a, .int .i64 b, .int .i64 c, .int .i64 p, .int .i64 m] 38))
  have hK : TokAt (w.alloc (.cells #[.int .i64 k, .int .i64 a, .int .i64 b, .int .i64 c, .int .i64 p, .int .i64 m] 38)) w.heap.size ⟨k, a, b, c, p, m⟩ := heap_alloc_new _ _
  have ⟨t0, t1, t2, t3, t4, t5⟩ := hK.cells
  dsimp only at t0 t1 t2 t3 t4 t5
  have HG0 := Lib.hid (h.keep B0.out)
  have hgl : g < w.heap.size := by omega
  have hne : w.heap.size ≠ g := by omega
  have hs0 : (w.alloc (.cells #[.int .i64 k, .int .i64 a, .int .i64 b, .int .i64 c, .int .i64 p, .int .i64 m] 38)).heap.size = w.heap.size + 1 := by simp
  unfold tokV at hf ⊢
  go_enter Tryd.func87, Tryd.ntmps87
  go_wp2_with fail
  generalize w.alloc (.cells #[.int .i64 k, .int .i64 a, .int .i64 b, .int .i64 c, .int .i64 p, .int .i64 m] 38) = W0 at *
  have hgW : g < W0.heap.size := by omega
  have m0 := fun p : AlW W0 g n C => alw_cell t0 hne p
  have m1 := fun p : AlW W0 g n C => alw_cell t1 hne p
  have m2 := fun p : AlW W0 g n C => alw_cell t2 hne p
  have m3 := fun p : AlW W0 g n C => alw_cell t3 hne p
  have m4 := fun p : AlW W0 g n C => alw_cell t4 hne p
  have m5 := fun p : AlW W0 g n C => alw_cell t5 hne p
  have cR := fun p : AlW W0 g n C => alw_below hgW p (impl_rules p.1)
  have cF := fun p : AlW W0 g n C => alw_done p (hf p.1 p.2.1 ((only_below hgl B0.out).trans p.2.2) (Nat.le_trans hC (Nat.le_trans B0.out.size p.2.2.1.size)))
  clear t0 t1 t2 t3 t4 t5 hf hK h
  haveI : Nonempty (AlW W0 g n C) := ⟨⟨W0, HG0.out, Only.refl g W0⟩⟩
  refine wp_region_quiet (C := fun w' => ∃ p : AlW W0 g n C, w' = p.1) (by kernel_rfl) (by kernel_rfl) ⟨⟨_, HG0.out.keep ((Below.refl W0.heap.size W0).drew), (Only.refl g W0).1.drew, (Only.refl g W0).2⟩, rfl⟩ ?_
  repeat (quiet_step (first | exact cR _ | exact cF _))
  refine wpQuiet_nil ?_
  intro w' hw'
  obtain ⟨⟨w9, hG9, hO9⟩, hw''⟩ := hw'
  have hw9 : w' = w9 := hw''
  subst hw9
  have HD : Hid (GuOK w' g n C ∧ Only g w w') := Lib.hid ⟨hG9, (only_below hgl B0.out).trans hO9⟩
  clear m0 m1 m2 m3 m4 m5 cR cF hw'' hG9 hO9
  go_wp2
  go_ret
  exact ⟨rfl, HD.out⟩

set_option maxHeartbeats 2000000 in
set_option maxRecDepth 100000 in
/-- The method at a kind whose predicate answers q. -/
theorem impl_allows_N (k : Int) (hk : ∀ w : World, (Instr.index 140 (.agg #[.func (.func 142) #[] #[], .func (.func 143) #[] #[], .func (.func 141) #[] #[], .func (.func 141) #[] #[], .func (.func 144) #[] #[], .func (.func 145) #[] #[], .func (.func 146) #[] #[], .func (.func 147) #[] #[], .func (.func 142) #[] #[], .func (.func 142) #[] #[]]) (.int .i64 k)).run Tryd.prog w = .ok (.func (.func 147) #[] #[]) w)
    (n : Int) (g C : Nat) (a b c p m : Int) (q : Bool) (w : World) (h : GuOK w g n C) (hg : g < C) (hC : C ≤ w.heap.size)
    (hf : ∀ W, GuOK W g n C → Only g w W → C ≤ W.heap.size → Calls Tryd.prog 147 #[.pointer (some ⟨g, 0, none⟩), tokV ⟨k, a, b, c, p, m⟩] W (GaDone q g n C W)) :
    Calls Tryd.prog 87 #[.pointer (some ⟨g, 0, none⟩), tokV ⟨k, a, b, c, p, m⟩] w (GaDone q g n C w) := by
  have B0 := Lib.hid (below_one w (.cells #[.int .i64 k, .int .i64 a, .int .i64 b, .int .i64 c, .int .i64 p, .int .i64 m] 38))
  have hK : TokAt (w.alloc (.cells #[.int .i64 k, .int .i64 a, .int .i64 b, .int .i64 c, .int .i64 p, .int .i64 m] 38)) w.heap.size ⟨k, a, b, c, p, m⟩ := heap_alloc_new _ _
  have ⟨t0, t1, t2, t3, t4, t5⟩ := hK.cells
  dsimp only at t0 t1 t2 t3 t4 t5
  have HG0 := Lib.hid (h.keep B0.out)
  have hgl : g < w.heap.size := by omega
  have hne : w.heap.size ≠ g := by omega
  have hs0 : (w.alloc (.cells #[.int .i64 k, .int .i64 a, .int .i64 b, .int .i64 c, .int .i64 p, .int .i64 m] 38)).heap.size = w.heap.size + 1 := by simp
  unfold tokV at hf ⊢
  go_enter Tryd.func87, Tryd.ntmps87
  go_wp2_with fail
  generalize w.alloc (.cells #[.int .i64 k, .int .i64 a, .int .i64 b, .int .i64 c, .int .i64 p, .int .i64 m] 38) = W0 at *
  have hgW : g < W0.heap.size := by omega
  have m0 := fun p : AlW W0 g n C => alw_cell t0 hne p
  have m1 := fun p : AlW W0 g n C => alw_cell t1 hne p
  have m2 := fun p : AlW W0 g n C => alw_cell t2 hne p
  have m3 := fun p : AlW W0 g n C => alw_cell t3 hne p
  have m4 := fun p : AlW W0 g n C => alw_cell t4 hne p
  have m5 := fun p : AlW W0 g n C => alw_cell t5 hne p
  have cR := fun p : AlW W0 g n C => alw_below hgW p (impl_rules p.1)
  have cF := fun p : AlW W0 g n C => alw_done p (hf p.1 p.2.1 ((only_below hgl B0.out).trans p.2.2) (Nat.le_trans hC (Nat.le_trans B0.out.size p.2.2.1.size)))
  clear t0 t1 t2 t3 t4 t5 hf hK h
  haveI : Nonempty (AlW W0 g n C) := ⟨⟨W0, HG0.out, Only.refl g W0⟩⟩
  refine wp_region_quiet (C := fun w' => ∃ p : AlW W0 g n C, w' = p.1) (by kernel_rfl) (by kernel_rfl) ⟨⟨_, HG0.out.keep ((Below.refl W0.heap.size W0).drew), (Only.refl g W0).1.drew, (Only.refl g W0).2⟩, rfl⟩ ?_
  repeat (quiet_step (first | exact cR _ | exact cF _))
  refine wpQuiet_nil ?_
  intro w' hw'
  obtain ⟨⟨w9, hG9, hO9⟩, hw''⟩ := hw'
  have hw9 : w' = w9 := hw''
  subst hw9
  have HD : Hid (GuOK w' g n C ∧ Only g w w') := Lib.hid ⟨hG9, (only_below hgl B0.out).trans hO9⟩
  clear m0 m1 m2 m3 m4 m5 cR cF hw'' hG9 hO9
  go_wp2
  go_ret
  exact ⟨rfl, HD.out⟩

theorem ga_below {n : Int} {g C : Nat} {q : Bool} {f : FuncId} {args : Array Value} {W : World} (hG : GuOK W g n C) (hgl : g < W.heap.size) (h : Calls Tryd.prog f args W fun e w' => e = .returned (.bool q) ∧ Below W.heap.size W w') : Calls Tryd.prog f args W (GaDone q g n C W) :=
  h.mono fun _ _ ⟨he, hb⟩ => ⟨he, hG.keep hb, only_below hgl hb⟩

theorem impl_allows (n : Int) (t : Tok) (g C : Nat) (w : World) (h : GuOK w g n C) (hg : g < C) (hC : C ≤ w.heap.size) (ht : ∀ W, Only g w W → TabSets W) (hn : proB n = true) (hk : tokOKP t) :
    Calls Tryd.prog 87 #[.pointer (some ⟨g, 0, none⟩), tokV t] w (GaDone (allowB n t) g n C w) := by
  obtain ⟨k, a, b, c, p, m⟩ := t
  obtain ⟨_, hk⟩ := hk
  dsimp only at hk
  have rul : ∀ {W : World} {f : FuncId} {args : Array Value} {q : Bool}, GuOK W g n C → C ≤ W.heap.size → (∀ m, GuAt W g n m → Calls Tryd.prog f args W fun e w' => e = .returned (.bool q) ∧ Below W.heap.size W w') → Calls Tryd.prog f args W (GaDone q g n C W) := by
    intro W f args q hG hCW hc
    obtain ⟨m', hm', h2⟩ := hG
    exact ga_below ⟨m', hm', h2⟩ (by omega) (hc m' hm')
  rcases hk with ⟨rfl, _⟩ | ⟨rfl, _⟩ | ⟨rfl, _⟩ | ⟨rfl, _⟩ | ⟨rfl, _⟩ | ⟨rfl, _⟩ | ⟨rfl, a0, a3, b0, b3, _⟩ | ⟨rfl | rfl, _⟩
  · exact impl_allows_3 1 (fun _ => by kernel_rfl) n g C a b c p m _ w h hg hC fun W hG _ hCW => rul hG hCW fun m' hm' => rule3 n g m' ⟨1, a, b, c, p, m⟩ W hm'
  · exact impl_allows_1 2 (fun _ => by kernel_rfl) n g C a b c p m _ w h hg hC fun W hG _ hCW => rul hG hCW fun m' hm' => rule1 n g m' ⟨2, a, b, c, p, m⟩ W hm'
  · exact impl_allows_1 3 (fun _ => by kernel_rfl) n g C a b c p m _ w h hg hC fun W hG _ hCW => rul hG hCW fun m' hm' => rule1 n g m' ⟨3, a, b, c, p, m⟩ W hm'
  · exact impl_allows_4 4 (fun _ => by kernel_rfl) n g C a b c p m _ w h hg hC fun W hG _ hCW => rul hG hCW fun m' hm' => rule4 n g m' ⟨4, a, b, c, p, m⟩ W hm'
  · exact impl_allows_5 5 (fun _ => by kernel_rfl) n g C a b c p m _ w h hg hC fun W hG _ hCW => rul hG hCW fun m' hm' => rule5 n g m' ⟨5, a, b, c, p, m⟩ W hm'
  · exact impl_allows_6 6 (fun _ => by kernel_rfl) n g C a b c p m _ w h hg hC fun W hG _ hCW => rul hG hCW fun m' hm' => rule6 n g m' ⟨6, a, b, c, p, m⟩ W hm'
  · exact impl_allows_N 7 (fun _ => by kernel_rfl) n g C a b c p m _ w h hg hC fun W hG ho hCW => impl_allowsName n g C a b c p m W hG hg hCW (ht W ho) hn a0 a3 b0 b3
  · exact impl_allows_2 8 (fun _ => by kernel_rfl) n g C a b c p m _ w h hg hC fun W hG _ hCW => rul hG hCW fun m' hm' => rule2 n g m' ⟨8, a, b, c, p, m⟩ W hm'
  · exact impl_allows_2 9 (fun _ => by kernel_rfl) n g C a b c p m _ w h hg hC fun W hG _ hCW => rul hG hCW fun m' hm' => rule2 n g m' ⟨9, a, b, c, p, m⟩ W hm'

/-- AllowsToken: what it answers. -/
def atC (n : Int) (t : Tok) : Int := if proB n = true then (if tokOKB t = true then 0 else 1) else 5
def atB (n : Int) (t : Tok) : Bool := proB n && (tokOKB t && allowB n t)
def AtDone (n : Int) (t : Tok) (w : World) (e : Ending) (w' : World) : Prop := e = .returned (.tuple #[.bool (atB n t), .int .i64 (atC n t)]) ∧ Below w.heap.size w w'
theorem atDone_bad {n : Int} {t : Tok} {w w' : World} {c : Int} (h : atC n t = c) (h0 : c ≠ 0) (hb : Below w.heap.size w w') : AtDone n t w (.returned (.tuple #[.bool false, .int .i64 c])) w' := by
  refine ⟨?_, hb⟩
  have : atB n t = false := by
    unfold atC at h
    unfold atB
    cases h1 : proB n <;> cases h2 : tokOKB t <;> simp_all
  rw [this, h]
theorem atDone_ok {n : Int} {t : Tok} {w w' : World} {b : Bool} (h1 : proB n = true) (h2 : tokOKB t = true) (h3 : allowB n t = b) (hb : Below w.heap.size w w') : AtDone n t w (.returned (.tuple #[.bool b, .int .i64 0])) w' := by
  refine ⟨?_, hb⟩
  rw [atB, atC, h1, h2, h3]
  simp

set_option maxHeartbeats 1000000 in
theorem impl_AllowsToken (n : Int) (t : Tok) (w : World) (ht : TabSets w) : Calls Tryd.prog 42 #[.int .i64 n, tokV t] w (AtDone n t w) := by
  have HN := Lib.hid (fun w => impl_isProfile n w)
  have HO := Lib.hid (fun w => impl_tokenOK t w)
  have HT := Lib.hid ht
  have B0 := Lib.hid (below_one w (.cells #[.int .i64 t.k, .int .i64 t.a, .int .i64 t.b, .int .i64 t.c, .int .i64 t.p, .int .i64 t.n] 38))
  have K0 : Hid (TokAt (w.alloc (.cells #[.int .i64 t.k, .int .i64 t.a, .int .i64 t.b, .int .i64 t.c, .int .i64 t.p, .int .i64 t.n] 38)) w.heap.size t) := Lib.hid (heap_alloc_new _ _)
  clear ht
  unfold tokV at HO ⊢
  cases hn : proB n
  · have HC : Hid (atC n t = 5) := Lib.hid (by simp [atC, hn])
    rw [hn] at HN
    go_enter Tryd.func42, Tryd.ntmps42
    go_wp2_with fail
    refine (HN.out _).mono ?_
    rintro e w1 ⟨rfl, rfl⟩
    go_wp2
    go_ret2
    exact atDone_bad HC.out (by decide) B0.out
  have HN1 := Lib.hid hn
  have HG := Lib.hid (fun w ht => impl_guideOf n w ht hn)
  unfold guV at HG
  rw [hn] at HN
  clear hn
  cases ho : tokOKB t
  · have HC : Hid (atC n t = 1) := Lib.hid (by simp [atC, HN1.out, ho])
    rw [ho] at HO
    go_enter Tryd.func42, Tryd.ntmps42
    go_wp2_with fail
    refine (HN.out _).mono ?_
    rintro e w1 ⟨rfl, rfl⟩
    go_wp2_with fail
    refine (HO.out _).mono ?_
    generalize w.alloc (.cells #[.int .i64 t.k, .int .i64 t.a, .int .i64 t.b, .int .i64 t.c, .int .i64 t.p, .int .i64 t.n] 38) = W0 at *
    rintro e w1 ⟨rfl, b1⟩
    have B1 : Hid (Below w.heap.size w w1) := Lib.hid (B0.out.trans (b1.mono B0.out.size))
    clear b1
    go_wp2
    go_ret2
    exact atDone_bad HC.out (by decide) B1.out
  · have HO1 := Lib.hid ho
    have HA := Lib.hid (fun g C w h hg hC ht => impl_allows n t g C w h hg hC ht HN1.out ((tokOKB_iff t).1 ho))
    unfold GaDone at HA
    unfold tokV at HA
    rw [ho] at HO
    clear ho
    obtain ⟨q, hq⟩ : ∃ q, allowB n t = q := ⟨_, rfl⟩
    rw [hq] at HA
    have HQ := Lib.hid hq
    clear hq
    go_enter Tryd.func42, Tryd.ntmps42
    go_wp2_with fail
    refine (HN.out _).mono ?_
    rintro e w1 ⟨rfl, rfl⟩
    go_wp2_with fail
    refine (HO.out _).mono ?_
    generalize w.alloc (.cells #[.int .i64 t.k, .int .i64 t.a, .int .i64 t.b, .int .i64 t.c, .int .i64 t.p, .int .i64 t.n] 38) = W0 at *
    rintro e w1 ⟨rfl, b1⟩
    have B1 : Hid (Below w.heap.size w w1) := Lib.hid (B0.out.trans (b1.mono B0.out.size))
    have K1 := Lib.hid (K0.out.keep b1)
    clear b1 K0
    go_wp2_with fail
    refine (HG.out _ (HT.out.keep B1.out)).mono ?_
    rintro e w2 ⟨rfl, b2⟩
    have B2 : Hid (Below w.heap.size w w2) := Lib.hid (B1.out.trans (b2.mono B1.out.size))
    have B3 : Hid (Below w.heap.size w (w2.alloc (.cells #[.int .i64 n, .string (prName n), .string (prHead n), .slice none 0 0, .bool (prRight n), .bool (prShifts n), .bool (prSingle n), .bool (prReset n), .bool (prClear n), .map none] 108))) := Lib.hid (B2.out.alloc B2.out.size _)
    have K3 := Lib.hid ((K1.out.keep b2).keep (below_one w2 (.cells #[.int .i64 n, .string (prName n), .string (prHead n), .slice none 0 0, .bool (prRight n), .bool (prShifts n), .bool (prSingle n), .bool (prReset n), .bool (prClear n), .map none] 108)))
    have G3 : Hid (GuOK (w2.alloc (.cells #[.int .i64 n, .string (prName n), .string (prHead n), .slice none 0 0, .bool (prRight n), .bool (prShifts n), .bool (prSingle n), .bool (prReset n), .bool (prClear n), .map none] 108)) w2.heap.size n (w2.heap.size + 1)) := Lib.hid ⟨_, GuAt.new w2 n (.map none), .inl rfl⟩
    have hs3 : w2.heap.size + 1 ≤ (w2.alloc (.cells #[.int .i64 n, .string (prName n), .string (prHead n), .slice none 0 0, .bool (prRight n), .bool (prShifts n), .bool (prSingle n), .bool (prReset n), .bool (prClear n), .map none] 108)).heap.size := by simp
    have hs2 : w.heap.size ≤ w2.heap.size := B2.out.size
    have T3 : Hid (∀ W, Only w2.heap.size (w2.alloc (.cells #[.int .i64 n, .string (prName n), .string (prHead n), .slice none 0 0, .bool (prRight n), .bool (prShifts n), .bool (prSingle n), .bool (prReset n), .bool (prClear n), .map none] 108)) W → TabSets W) := Lib.hid (fun W o => HT.out.keep (B3.out.trans (o.1.mono hs2)))
    clear b2 K1
    have ⟨t0, t1, t2, t3, t4, t5⟩ := K3.out.cells
    go_wp2_with fail
    refine (HA.out _ _ _ G3.out (Nat.lt_succ_self _) hs3 T3.out).mono ?_
    clear t0 t1 t2 t3 t4 t5
    rintro e w4 ⟨rfl, _, o4⟩
    have B4 : Hid (Below w.heap.size w w4) := Lib.hid (B3.out.trans (o4.1.mono hs2))
    clear o4
    go_wp2
    go_ret2
    exact atDone_ok HN1.out HO1.out HQ.out B4.out

end Go.Proofs.YtjbikenhdgbacaaDoor

namespace Go.Proofs.YtjbikenhdgbacaaDoor
open Go.RowKit

set_option maxHeartbeats 2000000 in
theorem spec_AllowsToken (n : Int) (t : Tok) (w : World) : Calls Tryd.prog 41 #[.int .i64 n, tokV t] w (AtDone n t w) := by
  have HN := Lib.hid (fun w => spec_l05No n w)
  have HO := Lib.hid (fun w => spec_l03OK t w)
  have HP := Lib.hid (fun w => spec_l05Profile n w)
  have B0 := Lib.hid (below_one w (.cells #[.int .i64 t.k, .int .i64 t.a, .int .i64 t.b, .int .i64 t.c, .int .i64 t.p, .int .i64 t.n] 38))
  have K0 : Hid (TokAt (w.alloc (.cells #[.int .i64 t.k, .int .i64 t.a, .int .i64 t.b, .int .i64 t.c, .int .i64 t.p, .int .i64 t.n] 38)) w.heap.size t) := Lib.hid (heap_alloc_new _ _)
  unfold PrDone at HP
  unfold prV at HP
  unfold tokV at HO ⊢
  cases hn : proB n
  · have HC : Hid (atC n t = 5) := Lib.hid (by simp [atC, hn])
    rw [hn] at HN
    go_enter Tryd.func41, Tryd.ntmps41
    go_wp2_with fail
    refine (HN.out _).mono ?_
    rintro e w1 ⟨rfl, rfl⟩
    go_wp2
    go_ret2
    exact atDone_bad HC.out (by decide) B0.out
  have HN1 := Lib.hid hn
  rw [hn] at HN
  clear hn
  cases ho : tokOKB t
  · have HC : Hid (atC n t = 1) := Lib.hid (by simp [atC, HN1.out, ho])
    rw [ho] at HO
    go_enter Tryd.func41, Tryd.ntmps41
    go_wp2_with fail
    refine (HN.out _).mono ?_
    rintro e w1 ⟨rfl, rfl⟩
    go_wp2_with fail
    refine (HO.out _).mono ?_
    generalize w.alloc (.cells #[.int .i64 t.k, .int .i64 t.a, .int .i64 t.b, .int .i64 t.c, .int .i64 t.p, .int .i64 t.n] 38) = W0 at *
    rintro e w1 ⟨rfl, b1⟩
    have B1 : Hid (Below w.heap.size w w1) := Lib.hid (B0.out.trans (b1.mono B0.out.size))
    clear b1
    go_wp2
    go_ret2
    exact atDone_bad HC.out (by decide) B1.out
  · have HO1 := Lib.hid ho
    have HA := Lib.hid (fun v w hv => spec_l05Allows n v t w hv ((tokOKB_iff t).1 ho))
    unfold prV tokV at HA
    rw [ho] at HO
    clear ho
    obtain ⟨q, hq⟩ : ∃ q, allowB n t = q := ⟨_, rfl⟩
    rw [hq] at HA
    have HQ := Lib.hid hq
    clear hq
    go_enter Tryd.func41, Tryd.ntmps41
    go_wp2_with fail
    refine (HN.out _).mono ?_
    rintro e w1 ⟨rfl, rfl⟩
    go_wp2_with fail
    refine (HO.out _).mono ?_
    generalize w.alloc (.cells #[.int .i64 t.k, .int .i64 t.a, .int .i64 t.b, .int .i64 t.c, .int .i64 t.p, .int .i64 t.n] 38) = W0 at *
    rintro e w1 ⟨rfl, b1⟩
    have B1 : Hid (Below w.heap.size w w1) := Lib.hid (B0.out.trans (b1.mono B0.out.size))
    have K1 := Lib.hid (K0.out.keep b1)
    clear b1 K0
    have ⟨t0, t1, t2, t3, t4, t5⟩ := K1.out.cells
    go_wp2_with fail
    go_region_with ((first | (go_at_call 78; refine (HP.out _).mono ?_; rintro e w2 ⟨v, rfl, hS2, b2⟩; have b12 : Below w1.heap.size w1 w2 := bel_drew b2; have B2 : Hid (Below w.heap.size w w2) := Lib.hid (B1.out.trans (b12.mono B1.out.size)); have ⟨p0, p1, p2, p3, p4, p5⟩ := (K1.out.keep b12).cells; have HS2 := Lib.hid hS2; clear b2 b12 hS2) | (go_at_call 85; refine (HA.out _ _ HS2.out).mono ?_; rintro e w3 ⟨rfl, b3⟩; have B3 : Hid (Below w.heap.size w w3) := Lib.hid (B2.out.trans (b3.mono B2.out.size)); clear b3)))
    all_goals
      go_wp2
      go_ret2
      exact atDone_ok HN1.out HO1.out HQ.out B3.out

end Go.Proofs.YtjbikenhdgbacaaDoor

namespace Go.Proofs.YtjbikenhdgbacaaDoor
open Go.ChangeShapes Go.WideShapes Go.ChangeAt Go.RowKit

theorem gReg : Tryd.prog.globalNamed "loop.example/g00748/impl.registry" = some 0 := by kernel_rfl
theorem tReg : (Tryd.prog.globals[0]?).map (·.type) = some 98 := by kernel_rfl
def spD {H : Type} (s : Sp) : DataW H := .agg [.lit (.int .i64 s.1), .lit (.int .i64 s.2.1), .lit (.int .i64 s.2.2)]
def setD {H : Type} (k : Nat) : DataW H := .agg [.lit (.string (setName k).data.toList), .lit (.int .i64 (setKind k)), .lit (.int .i64 (setFinal k)), .slice ((setSpans k).map spD) []]
def regD {H : Type} : List (DataW H) := .agg [.lit (.string []), .lit (.int .i64 0), .lit (.int .i64 0), .nil] :: [setD 1, setD 2, setD 3, setD 4, setD 5, setD 6, setD 7, setD 8]
theorem laid_reg {H : Type} : (Rows.laid_loop_example_g00748_impl_registry : DataW H) = .agg regD := by kernel_rfl
theorem regD_at {H : Type} (k : Nat) (h1 : 1 ≤ k) (h8 : k ≤ 8) : (regD (H := H))[k]? = some (setD k) := by
  have : k = 1 ∨ k = 2 ∨ k = 3 ∨ k = 4 ∨ k = 5 ∨ k = 6 ∨ k = 7 ∨ k = 8 := by omega
  rcases this with rfl | rfl | rfl | rfl | rfl | rfl | rfl | rfl <;> rfl

theorem one_of_take {cs : List Value} {i : Nat} {c : Value} (h : (cs.drop i).take 1 = [c]) : cs[i]? = some c := by
  have := congrArg (fun l => l[0]?) h
  simpa [List.getElem?_take, List.getElem?_drop] using this

set_option maxRecDepth 100000 in
/-- A slice of spans, read. -/
theorem spans_of {H : Type} {enc : TypeId × Value → H} {W : World} {held : Bool} {fuel : Nat} {c : Value} {sp : List Sp} {p : List MemPlace} (hne : sp ≠ [])
    (h : DataW.trod enc Tryd.prog W 0 (fun _ => true) held fuel 93 [c] = some (.slice (sp.map spD) [], p)) : SpAt W c sp := by
  rcases Deep.open_slice Tryd.underlying93 h with ⟨_, hx⟩ | ⟨a, len, cap, m, n, D, Pl, hcs, _, hl, _, hm, hx, hel⟩
  · simp at hx
  · simp only [if_true] at hm
    have e1 := congrArg Prod.fst hx
    simp only [DataW.slice.injEq] at e1
    obtain ⟨e2, e3⟩ := e1
    have hlen : len = sp.length := by simpa using (congrArg List.length e2).symm
    subst hlen
    have c3 : Tryd.prog.cellsOf 130 = 3 := by kernel_rfl
    rw [c3] at hel
    have key : ∀ i (hi : i < sp.length), W.cell? (a.add (i * 3)) = some (.int .i64 (sp[i]).1) ∧ W.cell? ((a.add (i * 3)).add 1) = some (.int .i64 (sp[i]).2.1) ∧ W.cell? ((a.add (i * 3)).add 2) = some (.int .i64 (sp[i]).2.2) := by
      intro i hi
      obtain ⟨cs', h1, h2⟩ := hel i (by omega)
      obtain ⟨_, hlen3, hc⟩ := World.cells?_some h1
      have hD : D i = spD (sp[i]) := by
        have := congrArg (fun l => l[i]?) e2
        simp only [List.getElem?_map, List.getElem?_eq_getElem hi, Option.map_some, List.getElem?_range hi, Option.some.injEq] at this
        exact this.symm
      obtain ⟨y0, y1, y2, q, hy, _, t0, t1, t2⟩ := Deep.trod_struct3 Tryd.underlying130 h2
      have c1 : Tryd.prog.cellsOf 3 = 1 := by kernel_rfl
      obtain ⟨n0, f0, rfl, _⟩ := DataW.trod_int Tryd.underlying3 t0
      obtain ⟨n1, f1, rfl, _⟩ := DataW.trod_int Tryd.underlying3 t1
      obtain ⟨n2, f2, rfl, _⟩ := DataW.trod_int Tryd.underlying3 t2
      have hy1 := congrArg Prod.fst hy
      rw [hD] at hy1
      simp only [spD, DataW.agg.injEq, List.cons.injEq, DataW.lit.injEq, Lit.int.injEq, true_and, and_true] at hy1
      obtain ⟨g0, g1, g2⟩ := hy1
      have k0 := one_of_take (c := .int .i64 n0) (i := 0) (by rw [← c1]; exact f0)
      have k1 := one_of_take (c := .int .i64 n1) (i := 1) (by rw [← c1]; exact f1)
      have k2 := one_of_take (c := .int .i64 n2) (i := 2) (by rw [← c1]; exact f2)
      refine ⟨?_, ?_, ?_⟩
      · have := hc 0 (by omega)
        rw [k0, ← g0] at this
        simpa [Addr.add] using this
      · rw [hc 1 (by omega), k1, ← g1]
      · rw [hc 2 (by omega), k2, ← g2]
    simp only [List.cons.injEq, and_true] at hcs
    subst hcs
    have hpos : 0 < sp.length := List.length_pos_iff.2 hne
    obtain ⟨b, off, spot⟩ := a
    have hspot : spot = none := by
      have := World.cell?_spot (key 0 hpos).1
      simpa [Addr.add] using this
    subst hspot
    refine .inr ⟨b, off, cap, rfl, fun i hi => ?_⟩
    have ⟨h1, h2, h3⟩ := key i hi
    rw [add_off, add_off] at h2 h3
    rw [add_off] at h1
    exact ⟨h1, h2, h3⟩

set_option maxRecDepth 100000 in
theorem sets_of_laid {W : World} (h : laidMetH Tryd.prog [("loop.example/g00748/impl.registry", Rows.laid_loop_example_g00748_impl_registry)] W) : TabSets W := by
  rw [MakeChecks.laidMetH_plain _ _ _ (by kernel_rfl)] at h
  obtain ⟨ps, ⟨g0, t0, cs0, f0, p0, q0, hg0, ht0, hv0, hd0, _, _⟩, _, _⟩ := h
  obtain rfl := Option.some.inj (gReg.symm.trans hg0)
  obtain rfl := Option.some.inj (tReg.symm.trans ht0)
  rw [laid_reg] at hd0
  obtain ⟨xs, m, rfl, hx, _, hlen, hel⟩ := DataW.trod_array Tryd.underlying98 hd0
  have hx1 : regD = xs.map (·.1) := by simpa using congrArg Prod.fst hx
  have c4 : Tryd.prog.cellsOf 95 = 4 := by kernel_rfl
  have c1 : Tryd.prog.cellsOf 3 = 1 := by kernel_rfl
  have c1s : Tryd.prog.cellsOf 9 = 1 := by kernel_rfl
  have c1l : Tryd.prog.cellsOf 93 = 1 := by kernel_rfl
  rw [c4] at hel
  intro k h1 h8
  have hk : k < xs.length := by omega
  have e1 := hel k (by omega)
  rw [List.getElem?_eq_getElem hk] at e1
  have e2 : (xs[k]).1 = setD k := by
    have e3 := regD_at (H := Unit) k h1 h8
    rw [hx1, List.getElem?_map, List.getElem?_eq_getElem hk] at e3
    simpa using e3
  obtain ⟨y0, y1, y2, y3, n, hy, _, t0, t1, t2, t3⟩ := Joins.trod_struct4 Tryd.underlying95 e1
  obtain ⟨s0, f0, rfl, _⟩ := DataW.trod_string Tryd.underlying9 t0
  obtain ⟨n1, f1, rfl, _⟩ := DataW.trod_int Tryd.underlying3 t1
  obtain ⟨n2, f2, rfl, _⟩ := DataW.trod_int Tryd.underlying3 t2
  have hy1 := congrArg Prod.fst hy
  rw [e2] at hy1
  simp only [setD, DataW.agg.injEq, List.cons.injEq, DataW.lit.injEq, Lit.int.injEq, Lit.string.injEq, true_and, and_true] at hy1
  obtain ⟨g0, g1, g2, g3⟩ := hy1
  have hs0 : setName (k : Int) = s0 := ByteArray.ext (Array.toList_inj.1 g0)
  have cell : ∀ j, W.cell? ⟨0, j, none⟩ = cs0[j]? := fun j => by simpa using World.var?_cell gReg hv0 j
  have el : ∀ (j : Nat) (c : Value), j < 4 → ((((cs0.toList.drop (k * 4)).take 4).drop j).take 1) = [c] → W.cell? ⟨0, k * 4 + j, none⟩ = some c := by
    intro j c hj h
    have h2 := one_of_take h
    rw [List.getElem?_take_of_lt hj, List.getElem?_drop, Array.getElem?_toList] at h2
    rw [cell, h2]
  have l3 : ∃ c, ((((cs0.toList.drop (k * 4)).take 4).drop 3).take 1) = [c] := by
    rw [c1l] at t3
    rcases Deep.open_slice Tryd.underlying93 t3 with ⟨h, _⟩ | ⟨a, len, cap, _, _, _, _, h, _⟩
    · exact ⟨_, h⟩
    · exact ⟨_, h⟩
  obtain ⟨c, hc⟩ := l3
  refine ⟨?_, ?_, ?_, c, el 3 c (by decide) hc, ?_⟩
  · rw [hs0]
    exact el 0 _ (by decide) (by rw [← c1s]; exact f0)
  · rw [g1]
    exact el 1 _ (by decide) (by rw [← c1]; exact f1)
  · rw [g2]
    exact el 2 _ (by decide) (by rw [← c1]; exact f2)
  · have t4 : DataW.trod (fun _ : TypeId × Value => ()) Tryd.prog W 0 (fun _ => true) false n 93 [c] = some y3 := by
      rw [← hc, ← c1l]; exact t3
    obtain ⟨y3a, y3b⟩ := y3
    simp only at g3
    rw [← g3] at t4
    exact spans_of (by have := (set_few (k : Int)).1; intro h; rw [h] at this; simp at this) t4

theorem sets_readable : ∀ n ∈ ["loop.example/g00748/impl.registry"], ∀ g t, Tryd.prog.globalNamed n = some g → (Tryd.prog.globals[g]?).map (·.type) = some t → Tryd.prog.readableRec t = true ∧ t < Tryd.prog.types.size := by
  intro n hn g t hg ht
  obtain rfl : n = _ := List.mem_singleton.1 hn
  obtain rfl := Option.some.inj (gReg.symm.trans hg)
  obtain rfl := Option.some.inj (tReg.symm.trans ht)
  exact ⟨by kernel_rfl, of_decide_eq_true (by kernel_rfl)⟩

end Go.Proofs.YtjbikenhdgbacaaDoor

namespace Go.Proofs.YtjbikenhdgbacaaDoor
open Go.ChangeShapes Go.WideShapes Go.ChangeAt Go.RowKit

set_option maxRecDepth 100000 in
theorem tabM_of_laid {W : World} (h : laidMetH Tryd.prog [("loop.example/g00748/impl.registry", Rows.laid_loop_example_g00748_impl_registry)] W) : TabM W := by
  refine ⟨sets_of_laid h, ?_⟩
  rw [MakeChecks.laidMetH_plain _ _ _ (by kernel_rfl)] at h
  obtain ⟨ps, ⟨g0, t0, cs0, f0, p0, q0, hg0, ht0, hv0, hd0, _, _⟩, _, _⟩ := h
  obtain rfl := Option.some.inj (gReg.symm.trans hg0)
  obtain rfl := Option.some.inj (tReg.symm.trans ht0)
  rw [laid_reg] at hd0
  obtain ⟨xs, m, rfl, hx, _, hlen, hel⟩ := DataW.trod_array Tryd.underlying98 hd0
  have hx1 : regD = xs.map (·.1) := by simpa using congrArg Prod.fst hx
  have c4 : Tryd.prog.cellsOf 95 = 4 := by kernel_rfl
  have c1 : Tryd.prog.cellsOf 3 = 1 := by kernel_rfl
  rw [c4] at hel
  have hk : 0 < xs.length := by omega
  have e1 := hel 0 (by omega)
  rw [List.getElem?_eq_getElem hk] at e1
  have e2 : (xs[0]).1 = .agg [.lit (.string []), .lit (.int .i64 0), .lit (.int .i64 0), .nil] := by
    have e3 : (regD (H := Unit))[0]? = some (.agg [.lit (.string []), .lit (.int .i64 0), .lit (.int .i64 0), .nil]) := rfl
    rw [hx1, List.getElem?_map, List.getElem?_eq_getElem hk] at e3
    simpa using e3
  obtain ⟨y0, y1, y2, y3, n, hy, _, t0, t1, t2, t3⟩ := Joins.trod_struct4 Tryd.underlying95 e1
  obtain ⟨n1, f1, rfl, _⟩ := DataW.trod_int Tryd.underlying3 t1
  have hy1 := congrArg Prod.fst hy
  rw [e2] at hy1
  simp only [DataW.agg.injEq, List.cons.injEq, DataW.lit.injEq, Lit.int.injEq, true_and, and_true] at hy1
  obtain ⟨_, g1, _⟩ := hy1
  have cell : ∀ j, W.cell? ⟨0, j, none⟩ = cs0[j]? := fun j => by simpa using World.var?_cell gReg hv0 j
  have h2 := one_of_take (by rw [← c1]; exact f1)
  rw [List.getElem?_take_of_lt (by decide), List.getElem?_drop, Array.getElem?_toList] at h2
  rw [cell]
  rw [← g1] at h2
  simpa using h2

end Go.Proofs.YtjbikenhdgbacaaDoor

namespace Go.Proofs.YtjbikenhdgbacaaDoor.fnExactAllowsToken
open Go.RowKit

set_option maxHeartbeats 1000000 in
theorem walk (N : Int) (k a b c p n : Int) (w : World) (_h1 : (Lit.int .i64 N).wf = true) (_hw : ∀ z ∈ [k, a, b, c, p, n], (Lit.int .i64 z).wf = true) (ht : TabM w) : Calls Tryd.prog 8 #[.int .i64 N, .agg #[.int .i64 k, .int .i64 a, .int .i64 b, .int .i64 c, .int .i64 p, .int .i64 n]] w fun e w' => e = .returned (.bool true) ∧ Below w.heap.size w w' := by
  have HT := Lib.hid ht
  have HS := Lib.hid (fun w => spec_AllowsToken N ⟨k, a, b, c, p, n⟩ w)
  have HI := Lib.hid (fun w ht => impl_AllowsToken N ⟨k, a, b, c, p, n⟩ w ht)
  unfold AtDone at HS HI
  generalize atB N ⟨k, a, b, c, p, n⟩ = q at *
  generalize atC N ⟨k, a, b, c, p, n⟩ = f at *
  clear ht
  have B0 := below_one w (.cells #[.int .i64 k, .int .i64 a, .int .i64 b, .int .i64 c, .int .i64 p, .int .i64 n] 49)
  have hblk := heap_alloc_new w (.cells #[.int .i64 k, .int .i64 a, .int .i64 b, .int .i64 c, .int .i64 p, .int .i64 n] 49)
  have HC : Hid (∀ w', Below (w.heap.size + 1) (w.alloc (.cells #[.int .i64 k, .int .i64 a, .int .i64 b, .int .i64 c, .int .i64 p, .int .i64 n] 49)) w' → w'.cell? ⟨w.heap.size, 0, none⟩ = some (.int .i64 k) ∧ w'.cell? ⟨w.heap.size, 1, none⟩ = some (.int .i64 a) ∧ w'.cell? ⟨w.heap.size, 2, none⟩ = some (.int .i64 b) ∧ w'.cell? ⟨w.heap.size, 3, none⟩ = some (.int .i64 c) ∧ w'.cell? ⟨w.heap.size, 4, none⟩ = some (.int .i64 p) ∧ w'.cell? ⟨w.heap.size, 5, none⟩ = some (.int .i64 n)) := Lib.hid (fun w' hb => by
    have h2 := (hb.block w.heap.size (by omega)).trans hblk
    refine ⟨?_, ?_, ?_, ?_, ?_, ?_⟩ <;> (rw [cell_of_row _ _ _ _ _ _ h2]; rfl))
  have hs0 : (w.alloc (.cells #[.int .i64 k, .int .i64 a, .int .i64 b, .int .i64 c, .int .i64 p, .int .i64 n] 49)).heap.size = w.heap.size + 1 := by simp
  clear hblk
  go_enter Tryd.func8, Tryd.ntmps8
  go_wp2_with fail
  refine (laws_toToken ⟨k, a, b, c, p, n⟩ _).mono ?_
  generalize w.alloc (.cells #[.int .i64 k, .int .i64 a, .int .i64 b, .int .i64 c, .int .i64 p, .int .i64 n] 49) = w0 at *
  rintro e w1 ⟨rfl, b1⟩
  rw [hs0] at b1
  have B1 : Below w.heap.size w w1 := B0.trans (b1.mono (by omega))
  have hs1 : w.heap.size + 1 ≤ w1.heap.size := by have := b1.size; omega
  go_wp2_with fail
  refine (HS.out w1).mono ?_
  rintro e w2 ⟨rfl, b2⟩
  have c2 : Below (w.heap.size + 1) w0 w2 := b1.trans (b2.mono hs1)
  have B2 : Below w.heap.size w w2 := B0.trans (c2.mono (by omega))
  have hs2 : w.heap.size + 1 ≤ w2.heap.size := by have := c2.size; omega
  clear b1 b2 B1
  have ⟨y0, y1, y2, y3, y4, y5⟩ := HC.out w2 c2
  go_wp2_with fail
  refine (laws_toToken ⟨k, a, b, c, p, n⟩ w2).mono ?_
  rintro e w3 ⟨rfl, b3⟩
  have B3 : Below w.heap.size w w3 := B2.trans (b3.mono B2.size)
  clear y0 y1 y2 y3 y4 y5 b3
  go_wp2_with fail
  refine (HI.out w3 (HT.out.keep B3).1).mono ?_
  rintro e w4 ⟨rfl, b4⟩
  have B4 : Below w.heap.size w w4 := B3.trans (b4.mono B3.size)
  go_wp2
  go_ret
  exact ⟨rfl, B4⟩

theorem table {W : World} (h : laidMetH Tryd.prog Rows.fnExactAllowsTokenRow.laid W) : TabM W := tabM_of_laid h
theorem readable : ∀ n ∈ Rows.fnExactAllowsTokenSpec.vars, ∀ g t, Tryd.prog.globalNamed n = some g → (Tryd.prog.globals[g]?).map (·.type) = some t → Tryd.prog.readableRec t = true ∧ t < Tryd.prog.types.size := sets_readable

end Go.Proofs.YtjbikenhdgbacaaDoor.fnExactAllowsToken

namespace Go.Proofs.YtjbikenhdgbacaaDoor.fnExactAllowsToken
open Go.ChangeShapes Go.WideShapes Go.ChangeAt Go.RowKit
open Go.ChangeMaps (open_string shut_string)
set_option linter.unusedVariables false

set_option maxRecDepth 100000 in
theorem contract (H : Type) (enc : TypeId × Value → H) (W : World) (base : Nat) (args : Array Value) (ds gs : List (DataW H)) (before : List MemPlace)
    (hval : ∀ (j : Nat) t v, Tryd.f8.params[j]? = some t → args[j]? = some v → Value.okWide Tryd.prog W .any base t v)
    (hW : DataW.Whole enc Tryd.prog Tryd.f8.params.toList Rows.fnExactAllowsTokenSpec.vars false W args.toList ds gs before) (hL : laidMetH Tryd.prog Rows.fnExactAllowsTokenRow.laid W) :
    Calls Tryd.prog 8 args W fun e W' => ∃ v, e = .returned v ∧ Rows.fnExactAllowsTokenSpec.post enc Tryd.prog Tryd.f8 false true false false W args v W' := by
  have HT := Lib.hid (table hL)
  clear hL
  have hW' := hW
  obtain ⟨p, q, hA0, hV0, rfl, hfz, hnd⟩ := hW
  have hV : DataW.TrodVars enc Tryd.prog W (fun _ => true) ["loop.example/g00748/impl.registry"] gs q := hV0
  clear hV0
  have hA : DataW.TrodAll enc Tryd.prog W 0 (fun _ => true) true Tryd.f8.params.toList args.toList ds p := hA0
  rw [Tryd.params8] at hA hval
  obtain ⟨v0, vs0, d0, ds0, p0, q0, hargs, rfl, rfl, h0, r0⟩ := trodAll_cons hA
  obtain ⟨v1, vs1, d1, ds1, p1, q1, rfl, rfl, rfl, h1, r1⟩ := trodAll_cons r0
  obtain ⟨rfl, rfl, rfl⟩ := trodAll_nil r1
  obtain rfl : args = #[v0, v1] := by cases args; simp_all
  have hgs : ∃ d, gs = [d] := by obtain ⟨_, _, _, _, d, _, hgs, _⟩ := trodVars_one hV; exact ⟨d, hgs⟩
  obtain ⟨g1, rfl⟩ := hgs
  obtain ⟨a0, rfl, rfl, rfl, w0⟩ := open_int Tryd.underlying3 (hval 0 3 v0 rfl rfl) h0
  obtain ⟨z1, l1, rfl, rfl, rfl, w1⟩ := open_intStruct Tryd.underlying49 (by kernel_rfl) (by kernel_rfl) (hval 1 49 v1 rfl rfl) h1
  obtain ⟨a1_0, a1_1, a1_2, a1_3, a1_4, a1_5, rfl⟩ := list6 l1
  clear hA0
  refine (walk a0 a1_0 a1_1 a1_2 a1_3 a1_4 a1_5 W w0 w1 HT.out).mono fun e W' ⟨he, bel⟩ => ?_
  subst he
  exact ⟨_, rfl, _, _, _, [], [], q, hW', trodAll_mk1 (shut_bool Tryd.underlying4 _), (trodAll_cons_mk (shut_int Tryd.underlying3 w0) (trodAll_cons_mk (shut_intStruct Tryd.underlying49 (by kernel_rfl) (by kernel_rfl) [a1_0, a1_1, a1_2, a1_3, a1_4, a1_5] rfl w1) trodAll_mk0)), trodVars_below laidOut bel readable hV, bel.frame _, fun h => by cases h⟩

theorem laid_met (os : Os) : laidMetH Tryd.prog Rows.fnExactAllowsTokenRow.laid ((World.doorLaid Tryd.prog 400 os).forCall (fun _ _ => 0) ⟨#[], #[.int .i64 0, .agg #[.int .i64 0, .int .i64 0, .int .i64 0, .int .i64 0, .int .i64 0, .int .i64 0]], []⟩).memory :=
  laidMetH_of_parts3 (fuel := 8) (laidMet_of_run' 8 (by kernel_rfl) (by kernel_rfl)) (by kernel_rfl) (by kernel_rfl)
theorem reads (os : Os) {H : Type} (enc : TypeId × Value → H) : ∃ x, DataW.whole enc Tryd.prog ((World.doorLaid Tryd.prog 400 os).forCall (fun _ _ => 0) ⟨#[], #[.int .i64 0, .agg #[.int .i64 0, .int .i64 0, .int .i64 0, .int .i64 0, .int .i64 0, .int .i64 0]], []⟩).memory Tryd.f8.params.toList Rows.fnExactAllowsTokenSpec.vars false #[.int .i64 0, .agg #[.int .i64 0, .int .i64 0, .int .i64 0, .int .i64 0, .int .i64 0, .int .i64 0]].toList 8 = some x :=
  Option.isSome_iff_exists.1 (by kernel_rfl)

set_option maxRecDepth 100000 in
theorem lifted (os : Os) (started : os.Started) (H : Type) (enc : TypeId × Value → H) (F : Stop.Interp) :
    ReturnsInHanded {} Tryd.checked os 8 .any ((OpenSpec.ofChange Rows.fnExactAllowsTokenSpec).preRow enc Tryd.prog Tryd.f8 Rows.fnExactAllowsTokenRow.domain false Rows.fnExactAllowsTokenRow.laid) (((OpenSpec.ofChange Rows.fnExactAllowsTokenSpec).at F).post enc Tryd.prog Tryd.f8 false true false false) := by
  obtain ⟨x, hx⟩ := reads os enc
  refine returnsInHanded_of_row (C := Tryd.checked) (s := OpenSpec.ofChange Rows.fnExactAllowsTokenSpec) own started (by kernel_rfl) Tryd.func8
    (witness_row_atRef (enc := enc) (C := Tryd.checked) false (World.doorLaid Tryd.prog 400 os) #[.int .i64 0, .agg #[.int .i64 0, .int .i64 0, .int .i64 0, .int .i64 0, .int .i64 0, .int .i64 0]] rfl (by kernel_rfl) (by kernel_rfl) (by kernel_rfl)
      (OpenSpec.preRow_of_cond 8 hx rfl (fun k hk => by cases hk) (by kernel_rfl) (laid_met os))) ?_
  intro W base args ds gs before hval hW _ _ _ hL _ _
  exact contract H enc W base args ds gs before hval hW hL

theorem said : Rows.FnExactAllowsTokenSaid :=
  OpenClaim.holds_of_cond 8 Tryd.f8 rfl rfl rfl rfl rfl rfl rfl ⟨rfl, rfl, rfl, rfl, rfl⟩ rfl rfl rfl rfl rfl (by kernel_rfl) Tryd.func8 (by kernel_rfl)
    (of_decide_eq_true (by kernel_rfl)) (by unfold Func.isWrapper; first | (rw [if_pos (by decide +kernel)]; kernel_rfl) | (rw [if_neg (by decide +kernel)]; exact ⟨rfl, rfl⟩))
    (fun os started H enc _ F => by rw [OpenClaim.pre_eq_preRow]; exact lifted os started H enc F)

theorem plain (f : FuncId) (fn : Func) (hf : Tryd.pinned.checked.prog.funcNamed "loop.example/g00748/laws.FnExactAllowsToken" = some f) (hfn : Tryd.pinned.checked.prog.funcs[f]? = some fn) :
    Rows.fnExactAllowsTokenCard.stood.looks = Tryd.pinned.checked.prog.looks [] ∧ ∀ (j : Nat) t, fn.params[j]? = some t → Tryd.pinned.checked.prog.wantsStandIn t = false := by
  obtain rfl : f = 8 := Option.some.inj ((show Tryd.prog.funcNamed "loop.example/g00748/laws.FnExactAllowsToken" = some 8 by kernel_rfl).symm.trans hf) |>.symm
  obtain rfl : fn = Tryd.f8 := (Option.some.inj (Tryd.func8.symm.trans hfn)).symm
  refine ⟨by kernel_rfl, fun j t ht => ?_⟩
  rw [Tryd.params8] at ht
  have hm := Array.mem_of_getElem? ht
  simp at hm
  rcases hm with rfl | rfl
  · exact (show Tryd.prog.wantsStandIn 3 = false by kernel_rfl)
  · exact (show Tryd.prog.wantsStandIn 49 = false by kernel_rfl)

theorem card : Rows.FnExactAllowsTokenCardSaid :=
  Claim7.holds_tied_plain_at .later [] _ _ _ _ said (fun _ h => by cases h) (by kernel_rfl) (fun _ h => by cases h) fnExactAllowsToken_row_tie rfl ⟨rfl, rfl⟩ (by kernel_rfl) rfl plain (by kernel_rfl)
end Go.Proofs.YtjbikenhdgbacaaDoor.fnExactAllowsToken

namespace Go.Proofs.YtjbikenhdgbacaaDoor
theorem fnExactAllowsToken_holds : Rows.FnExactAllowsTokenCardSaid := fnExactAllowsToken.card
end Go.Proofs.YtjbikenhdgbacaaDoor
