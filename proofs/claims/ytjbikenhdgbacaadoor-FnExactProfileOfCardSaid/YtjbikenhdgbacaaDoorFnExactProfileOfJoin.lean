/- The tied card of 'FnExactProfileOf': from the walk to the given statement. The listed package-level variables start as the program's text lays them (the given tie). Joined of: PrO, PrP, Marks, PrQ, PrR, SetsLaid, MaLaid, FnExactProfileOfWalk, FnExactProfileOfCard. -/
import Derived.Test.YtjbikenhdgbacaaDoorPrK
import Derived.Deep.RegionLaw
import Derived.Deep.AppendLies
import Derived.Laws.AppendOwn
import Derived.Test.YtjbikenhdgbacaaDoorInts
import Derived.Test.YtjbikenhdgbacaaDoorSetsT
import Derived.Test.YtjbikenhdgbacaaDoorVars
import Derived.Lib.SmallJoins
import Derived.Test.YtjbikenhdgbacaaDoorMaB
import Derived.Test.YtjbikenhdgbacaaDoorCards
import Derived.Test.YtjbikenhdgbacaaDoorTie
import Derived.Lib.Hide

namespace Go.Proofs.YtjbikenhdgbacaaDoor
open Go.RowKit

/-- A slice of slices in memory of the call's own. -/
def OwnV (w : World) (B : Nat) (v : Value) (vs : List Value) : Prop := w.ownsRow B 27 1 v vs.length vs
theorem info_list : ∃ i, Tryd.prog.info? 27 = some i ∧ i.zero = some (.slice none 0 0) ∧ i.size = 1 ∧ i.bytes = 24 := info_parts (by kernel_rfl)
theorem OwnV.nil (w : World) (B : Nat) : OwnV w B (.slice none 0 0) [] := World.ownsRow_nil w B _ 1
theorem OwnV.all {w w' : World} {B : Nat} {v : Value} {vs : List Value} (h : OwnV w B v vs) (hb : Below w.heap.size w w') : OwnV w' B v vs := by
  refine ⟨h.1, ?_⟩
  rcases h.2 with h | ⟨g, cap, cur, x1, x2, x3, x4⟩
  · exact .inl h
  · exact .inr ⟨g, cap, cur, x1, x2, (hb.block g (Array.getElem?_eq_some_iff.1 x3).1).trans x3, x4⟩
theorem OwnV.put {w : World} {B b off : Nat} {v u : Value} {vs : List Value} (h : OwnV w B v vs) (hb : b < B) : OwnV (w.setCell ⟨b, off, none⟩ u) B v vs := by
  refine ⟨h.1, ?_⟩
  rcases h.2 with h | ⟨g, cap, cur, x1, x2, x3, x4⟩
  · exact .inl h
  · exact .inr ⟨g, cap, cur, x1, x2, by rw [Below.heap_setCell _ _ _ _ (by simp; omega)]; exact x3, x4⟩
theorem OwnV.form {w : World} {B : Nat} {v : Value} {vs : List Value} (h : OwnV w B v vs) : ∃ a c, v = .slice a vs.length c := by
  rcases h.2 with ⟨h1, h2⟩ | ⟨g, cap, cur, x1, _⟩
  · exact ⟨none, 0, by rw [h1, h2]⟩
  · exact ⟨_, _, x1⟩

/-- 'append(s, x)' of one slice, at a step of a region that draws its order. -/
theorem step_list (w : World) {ops : Array Oper} {o : Oper} {a : Act} {L : Act → World → Prop} {Q : Exit → Act → World → Prop} {E : Prop} (hg : o.guard = none) (s x : Operand)
    (hop : o.op = Op.call { callee := Callee.builtin Builtin.append, args := #[s, x], argTypes := #[53, 53] }) (B : Nat) (v : Value) (vs : List Value) (hs : a.eval s = v) (hown : OwnV w B v vs) (m : Nat) (hm : vs.length = m)
    (b c : Nat) (u : Value) (hx : a.eval x = .slice (some ⟨b, 0, none⟩) 1 c) (hu : u.oneCell' = true)
    (hc : w.heap[b]? = some (.cells #[u] 27)) (hb : m ≤ 1048576) (hB : B ≤ w.heap.size)
    (K : ∀ g cap w', OwnV w' B (.slice (some ⟨g, 0, none⟩) (m + 1) cap) (vs ++ [u]) → w.grownBy w' v.ownBlock → g < w'.heap.size → L (a.put o.dst (.slice (some ⟨g, 0, none⟩) (m + 1) cap)) w') :
    if Region.wanted o (yielded ops a.tmps) = true then Oper.wp Tryd.prog o a w L Q else E := by
  subst hm
  obtain ⟨i, h1, h2, h3, h4⟩ := info_list
  refine step_append_lies w hg s x 53 hop B 27 i (.slice none 0 0) 1 24 Tryd.underlying53 h1 h2 h3 h4 rfl (by decide) v _ _ hs hown ⟨b, 0, none⟩ 1 c [u] hx rfl (World.news_of_block hc) ?_ (by decide) (by unfold maxLen; omega) (by omega) hB _ rfl ?_
  · intro u' hu'
    rw [List.mem_singleton] at hu'
    rw [hu']
    exact hu
  · intro g cap w' h' hg' _ hlt
    refine K g cap w' ?_ hg' hlt
    unfold OwnV
    rw [List.length_append]
    exact h'

theorem plNo_key {n a : Int} (hn : proB n = true) (a0 : 0 ≤ a) (a3 : a ≤ 3) : plNo n a < 10 → plKey (plNo n a) = (n, a) := by
  rcases pro_cases hn with rfl | rfl | rfl | rfl | rfl <;> rcases (show a = 0 ∨ a = 1 ∨ a = 2 ∨ a = 3 by omega) with rfl | rfl | rfl | rfl <;> decide +kernel
theorem PrAt.grown {w w' : World} {g : Nat} {n : Int} {v : Value} {row : Option Nat} (h : PrAt w g n v) (hg : w.grownBy w' row) (hr : some g ≠ row) : PrAt w' g n v := (hg.block g h.lt hr).trans h
theorem PrAt.put {w : World} {g : Nat} {n : Int} {v : Value} (h : PrAt w g n v) (u : Value) : PrAt (w.setCell ⟨g, 2, none⟩ u) g n u := heap_setCell_same _ _ 2 _ _ u h
theorem Only.grown {b : Nat} {w w1 w2 : World} {row : Option Nat} (h : Only b w w1) (g : w1.grownBy w2 row) (hb : b ≤ w.heap.size) (hr : ∀ j, row = some j → w.heap.size ≤ j) : Only b w w2 :=
  ⟨h.1.grown g (Nat.le_trans hb h.1.size) (fun j hj => Nat.le_trans hb (hr j hj)), fun i hi hl => (g.block i (Nat.lt_of_lt_of_le hl h.1.size) (fun he => by have := hr i he.symm; omega)).trans (h.2 i hi hl)⟩
/-- A profile handed back, its lists in memory of the call's own, each in a block of its own. -/
def PoRet (n : Int) (w : World) (v : Value) (f : Nat → Value) (w' : World) : Prop := OwnV w' w.heap.size v ((List.range 4).map f) ∧ (∀ k : Nat, k < 4 → Own .i64 3 w' w.heap.size (f k) (prSets n (k : Int))) ∧ (∀ j k : Nat, j < 4 → k < 4 → j ≠ k → ∀ b, (f j).ownBlock = some b → (f k).ownBlock ≠ some b) ∧ (∀ k : Nat, k < 4 → ∀ b, (f k).ownBlock = some b → v.ownBlock ≠ some b) ∧ Below w.heap.size w w'
def PoDone (n : Int) (w : World) (e : Ending) (w' : World) : Prop := ∃ v f, e = .returned (prV n v) ∧ PoRet n w v f w'
theorem OwnV.low {w : World} {B B' : Nat} {v : Value} {vs : List Value} (h : OwnV w B v vs) (hB : B' ≤ B) : OwnV w B' v vs := by
  refine ⟨h.1, ?_⟩
  rcases h.2 with h | ⟨g, cap, cur, x1, x2, x3⟩
  · exact .inl h
  · exact .inr ⟨g, cap, cur, x1, Nat.le_trans hB x2, x3⟩
theorem Own.move {w w' : World} {B : Nat} {v : Value} {zs : List Int} (h : Own .i64 3 w B v zs) (hk : ∀ i, B ≤ i → i < w.heap.size → w'.heap[i]? = w.heap[i]?) : Own .i64 3 w' B v zs := by
  refine ⟨h.1, ?_⟩
  rcases h.2 with h | ⟨g, cap, cur, x1, x2, x3, x4⟩
  · exact .inl h
  · exact .inr ⟨g, cap, cur, x1, x2, (hk g x2 (Array.getElem?_eq_some_iff.1 x3).1).trans x3, x4⟩
theorem range_snoc (f : Nat → Value) (k : Nat) : (List.range (k + 1)).map f = (List.range k).map f ++ [f k] := by simp [List.range_succ]
/-- The lists of a profile, as the map gives them. -/
def plV (blk : Nat → Nat) (n : Int) (k : Nat) : Value := if plNo n (k : Int) < 10 then plSl (blk (plNo n (k : Int))) (plNo n (k : Int)) else .slice none 0 0
theorem PlacesAt.four {w : World} {C mb : Nat} (h : PlacesAt w C mb) {n : Int} (hn : proB n = true) : ∃ f : Nat → Value, (∀ k, ∃ s l c, f k = .slice s l c) ∧ (∀ k : Nat, k < 4 → ∀ W : World, (∀ i, C ≤ i → i < w.heap.size → W.heap[i]? = w.heap[i]?) → (Instr.lookup 106 (.map (some mb)) (.agg #[.int .i64 n, .int .i64 (k : Int)]) false).run Tryd.prog W = .ok (f k) W) ∧
    (∀ k : Nat, k < 4 → Own .i64 3 w C (f k) (prSets n (k : Int))) ∧ ∀ j k : Nat, j < 4 → k < 4 → j ≠ k → ∀ b, (f j).ownBlock = some b → (f k).ownBlock ≠ some b := by
  obtain ⟨blk, h1, h2, hC, es, h3, h4, h5⟩ := h
  refine ⟨plV blk n, fun k => ?_, fun k hk W hW => ?_, fun k hk => ?_, fun j k hj hk hne b hb hb2 => ?_⟩
  · unfold plV plSl
    split <;> exact ⟨_, _, _, rfl⟩
  · have hl := lookup_place (w := W) n (k : Int) ((hW mb hC (Array.getElem?_eq_some_iff.1 h3).1).trans h3)
    rcases plNo_spec hn (a := (k : Int)) (by omega) (by omega) with ⟨k1, k2, k3⟩ | ⟨k1, k2⟩
    · obtain ⟨i, hi⟩ := (h4 _ k1).1 rfl
      rw [k2] at hi
      rw [hi] at hl
      rw [plV, if_pos k1]
      exact hl
    · rw [h5 n k k1] at hl
      rw [plV, if_neg (fun h10 => k1 _ h10 (plNo_key hn (by omega) (by omega) h10))]
      exact hl
  · rcases plNo_spec hn (a := (k : Int)) (by omega) (by omega) with ⟨k1, k2, k3⟩ | ⟨k1, k2⟩
    · rw [plV, if_pos k1, ← k3]
      exact own_row (h1 _ k1).1 (h1 _ k1).2
    · rw [plV, if_neg (fun h10 => k1 _ h10 (plNo_key hn (by omega) (by omega) h10)), k2]
      exact Own.nil _ _ _ _
  · unfold plV at hb hb2
    split at hb
    · rename_i j1
      split at hb2
      · rename_i k1
        have e1 : blk (plNo n (j : Int)) = b := by simpa [plSl, Value.ownBlock] using hb
        have e2 : blk (plNo n (k : Int)) = b := by simpa [plSl, Value.ownBlock] using hb2
        have e3 := h2 _ _ j1 k1 (e1.trans e2.symm)
        have e4 := plNo_key hn (by omega) (by omega) j1
        have e5 := plNo_key hn (by omega) (by omega) k1
        rw [e3, e5] at e4
        have e6 : (k : Int) = (j : Int) := (Prod.mk.inj e4).2
        omega
      · simp [Value.ownBlock] at hb2
    · simp [Value.ownBlock] at hb

set_option maxHeartbeats 1000000 in
theorem impl_profileOf (n : Int) (w : World) (ht : TabSets w) (hn : proB n = true) : Calls Tryd.prog 80 #[.int .i64 n] w (PoDone n w) := by
  have HP := Lib.hid (fun w ht => impl_profileWithoutSets n w ht hn)
  have HS := Lib.hid (fun w => impl_setsOfPlaces w)
  have B0 := Lib.hid (below_one w (.cells #[.string ⟨#[]⟩, .string ⟨#[]⟩, .slice none 0 0, .bool false, .bool false, .bool false, .bool false, .bool false] 55))
  have HT0 := Lib.hid (ht.keep B0.out)
  have R0 : Hid ((w.alloc (.cells #[.string ⟨#[]⟩, .string ⟨#[]⟩, .slice none 0 0, .bool false, .bool false, .bool false, .bool false, .bool false] 55)).heap[w.heap.size]? = some (.cells #[.string ⟨#[]⟩, .string ⟨#[]⟩, .slice none 0 0, .bool false, .bool false, .bool false, .bool false, .bool false] 55)) := Lib.hid (heap_alloc_new _ _)
  clear ht
  unfold prV at HP
  go_enter Tryd.func80, Tryd.ntmps80
  go_wp2_with fail
  refine (HP.out _ HT0.out).mono ?_
  generalize w.alloc (.cells #[.string ⟨#[]⟩, .string ⟨#[]⟩, .slice none 0 0, .bool false, .bool false, .bool false, .bool false, .bool false] 55) = W0 at *
  rintro e w1 ⟨rfl, b1⟩
  have hlW := (Array.getElem?_eq_some_iff.1 R0.out).1
  have R1 := Lib.hid (((below_one w1 (.cells #[.string (prName n), .string (prHead n), .slice none 0 0, .bool (prRight n), .bool (prShifts n), .bool (prSingle n), .bool (prReset n), .bool (prClear n)] 55)).block _ (by have := b1.size; omega)).trans ((b1.block _ hlW).trans R0.out))
  have B1 : Hid (Below w.heap.size w (w1.alloc (.cells #[.string (prName n), .string (prHead n), .slice none 0 0, .bool (prRight n), .bool (prShifts n), .bool (prSingle n), .bool (prReset n), .bool (prClear n)] 55))) := Lib.hid ((B0.out.trans (b1.mono B0.out.size)).alloc (B0.out.trans (b1.mono B0.out.size)).size _)
  have A1 : Hid (PrAt (w1.alloc (.cells #[.string (prName n), .string (prHead n), .slice none 0 0, .bool (prRight n), .bool (prShifts n), .bool (prSingle n), .bool (prReset n), .bool (prClear n)] 55)) w1.heap.size n (.slice none 0 0)) := Lib.hid (heap_alloc_new _ _)
  have hw1 : w.heap.size < w1.heap.size := by have := b1.size; omega
  clear b1 R0 hlW
  go_wp2_with fail
  refine (HS.out _).mono ?_
  generalize w1.alloc (.cells #[.string (prName n), .string (prHead n), .slice none 0 0, .bool (prRight n), .bool (prShifts n), .bool (prSingle n), .bool (prReset n), .bool (prClear n)] 55) = W1 at *
  rintro e w2 ⟨mb, rfl, hp, b2⟩
  have hlW1 := A1.out.lt
  have R2 := Lib.hid ((b2.block _ (by omega)).trans R1.out)
  have A2 := Lib.hid (A1.out.keep b2)
  have B2 : Hid (Below w.heap.size w w2) := Lib.hid (B1.out.trans (b2.mono B1.out.size))
  have hC2 : W1.heap.size ≤ w2.heap.size := b2.size
  obtain ⟨f, hform, hlook, howns, hdist⟩ := hp.four hn
  have HF := Lib.hid hform
  have HLo := Lib.hid hlook
  have HOw := Lib.hid howns
  have HDi := Lib.hid hdist
  clear b2 hp A1 R1 B1 hform hlook howns hdist
  go_wp2
  go_loopw [9] (fun i wr => ∃ k : Nat, k ≤ 4 ∧ i = .int .i64 k ∧ Hid (∃ sv, PrAt wr w1.heap.size n sv ∧ OwnV wr w2.heap.size sv ((List.range k).map f)) ∧ Hid (Only w1.heap.size w2 wr)) (fun i _ => 4 - (intOf i).toNat)
  case atStart => exact ⟨0, by omega, rfl, Lib.hid ⟨_, A2.out, OwnV.nil _ _⟩, Lib.hid (Only.refl _ _)⟩
  case round =>
    obtain ⟨k, hk, rfl, HA, HOn⟩ := hrel
    by_cases hlt : k < 4
    · obtain ⟨sv, hA, hO⟩ := HA.out
      have hlen0 : ((List.range k).map f).length = k := by simp
      obtain ⟨sa, sc, hsv⟩ := hO.form
      rw [hlen0] at hsv
      subst hsv
      have hown : ∀ j, (Value.slice sa k sc).ownBlock = some j → w2.heap.size ≤ j := fun j hj => (World.ownsRow.lt hO j hj).1
      have ⟨c0, c1, c2, c3, c4, c5, c6, c7⟩ := row8_cells hA
      have ⟨z0, z1, z2, z3, z4, z5, z6, z7⟩ := row8_thaw hA
      obtain ⟨us, ul, uc, hu⟩ := HF.out k
      have hl0 := HLo.out k hlt wr.drew (fun i hi hl => HOn.out.2 i (by omega) hl)
      rw [hu] at hl0
      have HU := Lib.hid hu
      have v2 : (k : Int) < 4 := by omega
      have hszr := HOn.out.1.size
      have A1 : Hid (PrAt (wr.alloc (.cells #[.slice us ul uc] 27)) w1.heap.size n (.slice sa k sc)) := Lib.hid (hA.keep (below_one _ _))
      have A1d : Hid (PrAt (wr.alloc (.cells #[.slice us ul uc] 27)).drew w1.heap.size n (.slice sa k sc)) := A1
      have hO1 : Hid (OwnV (wr.alloc (.cells #[.slice us ul uc] 27)).drew w2.heap.size (.slice sa k sc) ((List.range k).map f)) := Lib.hid (World.ownsRow.drew (hO.all (below_one wr (.cells #[.slice us ul uc] 27))))
      have On1 : Hid (Only w1.heap.size w2 (wr.alloc (.cells #[.slice us ul uc] 27)).drew) := Lib.hid ((HOn.out.trans (only_below (by omega) (below_one _ _))).drewN 1)
      have HLen := Lib.hid hlen0
      have hk4 : k ≤ 1048576 := by omega
      have ⟨_, _, c2a, _, _, _, _, _⟩ := row8_cells A1.out
      clear c0 c1 c3 c4 c5 c6 c7 z0 z1 z3 z4 z5 z6 z7 hlen0 hu
      go_wp2_with fail
      go_region_law ((refine step_list _ (by rfl) _ _ (by rfl) w2.heap.size _ _ (by rfl) hO1.out k HLen.out wr.heap.size 1 (.slice us ul uc) (by rfl) (by rfl) (heap_alloc_new _ _) hk4 (by simp; omega) ?_; intro g2 cap2 w4 o4 g4 lt4; have A4 := A1d.out.grown g4 (fun h => absurd (hown _ h.symm) (by omega)); have ⟨_, _, d2, _, _, _, _, _⟩ := row8_cells A4; have ⟨_, _, q2, _, _, _, _, _⟩ := row8_thaw A4; have hl4 := A4.lt))
      all_goals
        have HO5 : Hid (OwnV (w4.setCell ⟨w1.heap.size, 2, none⟩ (.slice (some ⟨g2, 0, none⟩) (k + 1) cap2)) w2.heap.size (.slice (some ⟨g2, 0, none⟩) (k + 1) cap2) ((List.range (k + 1)).map f)) := Lib.hid (by rw [range_snoc, HU.out]; exact o4.put (by omega))
        have HA5 := Lib.hid (A4.put (.slice (some ⟨g2, 0, none⟩) (k + 1) cap2))
        have On5 : Hid (Only w1.heap.size w2 (w4.setCell ⟨w1.heap.size, 2, none⟩ (.slice (some ⟨g2, 0, none⟩) (k + 1) cap2))) := Lib.hid ((On1.out.grown g4 (by omega) hown).trans (Only.set _ 2 _ _))
        clear o4 g4 A4
        go_wp2
        go_roundw
        case rel => exact ⟨k + 1, by omega, by go_num, Lib.hid ⟨_, HA5.out, HO5.out⟩, On5⟩
        case measure => simp [intOf]; omega
    · obtain rfl : k = 4 := by omega
      obtain ⟨sv, hA, hO⟩ := HA.out
      have hlen0 : ((List.range 4).map f).length = 4 := by simp
      obtain ⟨sa, sc, hsv⟩ := hO.form
      rw [hlen0] at hsv
      subst hsv
      have R3 : Hid (wr.heap[w.heap.size]? = some (.cells #[.string ⟨#[]⟩, .string ⟨#[]⟩, .slice none 0 0, .bool false, .bool false, .bool false, .bool false, .bool false] 55)) := Lib.hid ((HOn.out.2 _ (by omega) (by omega)).trans R2.out)
      have ⟨c0, c1, c2, c3, c4, c5, c6, c7⟩ := row8_cells hA
      have ⟨r0, r1, r2, r3, r4, r5, r6, r7⟩ := row8_cells R3.out
      have ⟨z0, z1, z2, z3, z4, z5, z6, z7⟩ := row8_thaw R3.out
      have hlr : w.heap.size < wr.heap.size := (Array.getElem?_eq_some_iff.1 R3.out).1
      have HD : Hid (PoRet n w (.slice sa 4 sc) f (put8 wr w.heap.size (.string (prName n)) (.string (prHead n)) (.slice sa 4 sc) (.bool (prRight n)) (.bool (prShifts n)) (.bool (prSingle n)) (.bool (prReset n)) (.bool (prClear n)))) := Lib.hid (by
        have hput : ∀ i, w.heap.size < i → (put8 wr w.heap.size (.string (prName n)) (.string (prHead n)) (.slice sa 4 sc) (.bool (prRight n)) (.bool (prShifts n)) (.bool (prSingle n)) (.bool (prReset n)) (.bool (prClear n))).heap[i]? = wr.heap[i]? := fun i hi => by
          unfold put8
          repeat rw [Below.heap_setCell _ _ _ _ (by simp; omega)]
        refine ⟨?_, ?_, HDi.out, ?_, ?_⟩
        · refine (OwnV.low ?_ (show w.heap.size ≤ w2.heap.size by omega))
          refine ⟨hO.1, ?_⟩
          rcases hO.2 with h | ⟨g, cap, cur, x1, x2, x3, x4⟩
          · exact .inl h
          · exact .inr ⟨g, cap, cur, x1, x2, (hput g (by omega)).trans x3, x4⟩
        · intro k hk
          exact ((HOw.out k hk).move (fun i hi hl => (hput i (by omega)).trans (HOn.out.2 i (by omega) hl))).low (by omega)
        · intro k hk b hb hv
          have h1 := (World.ownsRow.lt hO b hv).1
          have h2 := (World.ownsRow.lt (HOw.out k hk) b hb).2
          omega
        · exact put8_below (B2.out.trans (HOn.out.1.mono (by omega))) (Nat.le_refl _) _ _ _ _ _ _ _ _)
      clear hO hA
      go_wp2
      exact bodyPost_ret (results_cell_row rfl _ _ w.heap.size _ _ _ _ rfl (put8_row R3.out (.string (prName n)) (.string (prHead n)) (.slice sa 4 sc) (.bool (prRight n)) (.bool (prShifts n)) (.bool (prSingle n)) (.bool (prReset n)) (.bool (prClear n))) Tryd.underlying55 rfl (by kernel_rfl)) rfl ⟨_, f, rfl, HD.out⟩

end Go.Proofs.YtjbikenhdgbacaaDoor

namespace Go.Proofs.YtjbikenhdgbacaaDoor
open Go.RowKit

/-- A slice that is not nil reads as the numbers zs. -/
def IntsS (w : World) (v : Value) (zs : List Int) : Prop := ∃ b off c, v = .slice (some ⟨b, off, none⟩) zs.length c ∧ ∀ i, i < zs.length → w.cell? ⟨b, off + i, none⟩ = some (.int .i64 (zs.getD i 0))
theorem IntsS.keep {w w' : World} {v : Value} {zs : List Int} (h : IntsS w v zs) (hb : Below w.heap.size w w') : IntsS w' v zs := by
  obtain ⟨b, off, c, rfl, hc⟩ := h
  exact ⟨b, off, c, rfl, fun i hi => cell_since hb (hc i hi)⟩
def SetsAtS (w : World) (v : Value) (n : Int) : Prop := ∃ g c, ∃ u : Nat → Value, v = .slice (some ⟨g, 0, none⟩) 4 c ∧ ∀ k : Nat, k < 4 → w.cell? ⟨g, k, none⟩ = some (u k) ∧ IntsS w (u k) (prSets n (k : Int))
theorem SetsAtS.keep {w w' : World} {v : Value} {n : Int} (h : SetsAtS w v n) (b : Below w.heap.size w w') : SetsAtS w' v n := by
  obtain ⟨g, c, u, rfl, hu⟩ := h
  exact ⟨g, c, u, rfl, fun k hk => ⟨cell_since b (hu k hk).1, (hu k hk).2.keep b⟩⟩
def PrDoneS (n : Int) (w : World) (e : Ending) (w' : World) : Prop := ∃ v, e = .returned (prV n v) ∧ SetsAtS w' v n ∧ Below w.heap.size w w'
theorem profS_ret {fn : Func} {p : Tmp} {a : Act} {w w1 : World} {g : Nat} {n : Int} {v : Value} {nm hd : ByteArray} {b3 b4 b5 b6 b7 : Bool} (h : fn.results = #[.cell p 55])
    (hp : a.tmps.getD p undef = .pointer (some ⟨g, 0, none⟩)) (hg : w1.heap[g]? = some (.cells #[.string nm, .string hd, v, .bool b3, .bool b4, .bool b5, .bool b6, .bool b7] 55))
    (hv : prV n v = .agg #[.string nm, .string hd, v, .bool b3, .bool b4, .bool b5, .bool b6, .bool b7]) (hdef : a.defers = []) (hs : SetsAtS w1 v n) (hb : Below w.heap.size w w1) :
    bodyPost Tryd.prog fn (PrDoneS n w) .ret a w1 :=
  bodyPost_ret (results_cell_row h _ _ g _ _ _ _ hp hg Tryd.underlying55 rfl (by kernel_rfl)) hdef ⟨v, by rw [hv], hs, hb⟩
theorem intsS_row {w : World} {g : Nat} {zs : List Int} {t : TypeId} {fr : Nat × Nat} (c : Nat) (h : w.heap[g]? = some (.cells (zs.map (Value.int .i64)).toArray t fr)) : IntsS w (.slice (some ⟨g, 0, none⟩) zs.length c) zs := by
  refine ⟨g, 0, c, rfl, fun i hi => ?_⟩
  rw [cell_of_row _ _ _ _ _ _ h]
  simp [List.getD, hi]
theorem SetsAtS.of {w : World} {g c : Nat} {n : Int} {v0 v1 v2 v3 : Value} {t : TypeId} {fr : Nat × Nat} (h : w.heap[g]? = some (.cells #[v0, v1, v2, v3] t fr)) (i0 : IntsS w v0 (prSet0 n)) (i1 : IntsS w v1 (prSet1 n)) (i2 : IntsS w v2 (prSet2 n)) (i3 : IntsS w v3 []) : SetsAtS w (.slice (some ⟨g, 0, none⟩) 4 c) n := by
  refine ⟨g, c, fun k => if k = 0 then v0 else if k = 1 then v1 else if k = 2 then v2 else v3, rfl, fun k hk => ?_⟩
  rcases (show k = 0 ∨ k = 1 ∨ k = 2 ∨ k = 3 by omega) with rfl | rfl | rfl | rfl
  · exact ⟨by rw [cell_of_row _ _ _ _ _ _ h]; rfl, i0⟩
  · exact ⟨by rw [cell_of_row _ _ _ _ _ _ h]; rfl, i1⟩
  · exact ⟨by rw [cell_of_row _ _ _ _ _ _ h]; rfl, i2⟩
  · exact ⟨by rw [cell_of_row _ _ _ _ _ _ h]; rfl, i3⟩

set_option maxHeartbeats 2000000 in
theorem spec_l05ProfileS (n : Int) (w : World) : Calls Tryd.prog 78 #[.int .i64 n] w (PrDoneS n w) := by
  rcases (show n = 1 ∨ n = 2 ∨ n = 3 ∨ n = 4 ∨ (n ≠ 1 ∧ n ≠ 2 ∧ n ≠ 3 ∧ n ≠ 4) by omega) with rfl | rfl | rfl | rfl | ⟨h1, h2, h3, h4⟩
  · go_enter Tryd.func78, Tryd.ntmps78
    go_wp2
    exact profS_ret (g := w.heap.size) rfl rfl (at_old _ (at_old _ (at_old _ (at_new _ _ (by simp))))) rfl rfl (SetsAtS.of (at_new _ _ (by simp)) (intsS_row (zs := [1, 2, 6]) _ (at_old _ (at_new _ _ (by simp)))) (intsS_row (zs := []) _ (at_old _ (at_old _ (at_new _ _ (by simp))))) (intsS_row (zs := []) _ (at_old _ (at_old _ (at_new _ _ (by simp))))) (intsS_row (zs := []) _ (at_old _ (at_old _ (at_new _ _ (by simp)))))) (below_alloc (below_alloc (below_alloc (below_one _ _) _ rfl) _ rfl) _ rfl)
  · go_enter Tryd.func78, Tryd.ntmps78
    go_wp2
    exact profS_ret (g := w.heap.size) rfl rfl (at_old _ (at_old _ (at_old _ (at_old _ (at_new _ _ (by simp)))))) rfl rfl (SetsAtS.of (at_new _ _ (by simp)) (intsS_row (zs := [1, 2, 6, 7, 8]) _ (at_old _ (at_old _ (at_new _ _ (by simp))))) (intsS_row (zs := []) _ (at_old _ (at_old _ (at_old _ (at_new _ _ (by simp)))))) (intsS_row (zs := [4, 5]) _ (at_old _ (at_new _ _ (by simp)))) (intsS_row (zs := []) _ (at_old _ (at_old _ (at_old _ (at_new _ _ (by simp))))))) (below_alloc (below_alloc (below_alloc (below_alloc (below_one _ _) _ rfl) _ rfl) _ rfl) _ rfl)
  · go_enter Tryd.func78, Tryd.ntmps78
    go_wp2
    exact profS_ret (g := w.heap.size) rfl rfl (at_old _ (at_old _ (at_old _ (at_old _ (at_new _ _ (by simp)))))) rfl rfl (SetsAtS.of (at_new _ _ (by simp)) (intsS_row (zs := [1]) _ (at_old _ (at_old _ (at_new _ _ (by simp))))) (intsS_row (zs := [7]) _ (at_old _ (at_new _ _ (by simp)))) (intsS_row (zs := []) _ (at_old _ (at_old _ (at_old _ (at_new _ _ (by simp)))))) (intsS_row (zs := []) _ (at_old _ (at_old _ (at_old _ (at_new _ _ (by simp))))))) (below_alloc (below_alloc (below_alloc (below_alloc (below_one _ _) _ rfl) _ rfl) _ rfl) _ rfl)
  · go_enter Tryd.func78, Tryd.ntmps78
    go_wp2
    exact profS_ret (g := w.heap.size) rfl rfl (at_old _ (at_old _ (at_old _ (at_old _ (at_old _ (at_new _ _ (by simp))))))) rfl rfl (SetsAtS.of (at_new _ _ (by simp)) (intsS_row (zs := [1]) _ (at_old _ (at_old _ (at_old _ (at_new _ _ (by simp)))))) (intsS_row (zs := [7, 8]) _ (at_old _ (at_old _ (at_new _ _ (by simp))))) (intsS_row (zs := [3, 6]) _ (at_old _ (at_new _ _ (by simp)))) (intsS_row (zs := []) _ (at_old _ (at_old _ (at_old _ (at_old _ (at_new _ _ (by simp)))))))) (below_alloc (below_alloc (below_alloc (below_alloc (below_alloc (below_one _ _) _ rfl) _ rfl) _ rfl) _ rfl) _ rfl)
  · have e1 : (n == 1) = false := by simp [h1]
    have e2 : (n == 2) = false := by simp [h2]
    have e3 : (n == 3) = false := by simp [h3]
    have e4 : (n == 4) = false := by simp [h4]
    have HV : Hid (∀ v, prV n v = .agg #[.string ⟨#[99, 116]⟩, .string ⟨#[]⟩, v, .bool true, .bool false, .bool false, .bool false, .bool false]) := Lib.hid (fun v => by simp [prV, prName, prHead, prRight, prShifts, prSingle, prReset, prClear, h1, h2, h3, h4])
    have H0 : Hid (prSet0 n = [1, 2, 6, 7, 8]) := Lib.hid (by simp [prSet0, h1, h2, h3, h4])
    have H1 : Hid (prSet1 n = [3, 4, 5, 6, 7, 8]) := Lib.hid (by simp [prSet1, h1, h2, h3, h4])
    have H2 : Hid (prSet2 n = []) := Lib.hid (by simp [prSet2, h2, h4])
    clear h1 h2 h3 h4
    go_enter Tryd.func78, Tryd.ntmps78
    go_wp2
    exact profS_ret (g := w.heap.size) rfl rfl (at_old _ (at_old _ (at_old _ (at_old _ (at_new _ _ (by simp)))))) (HV.out _) rfl (SetsAtS.of (at_new _ _ (by simp)) (by rw [H0.out]; exact (intsS_row (zs := [1, 2, 6, 7, 8]) _ (at_old _ (at_old _ (at_new _ _ (by simp)))))) (by rw [H1.out]; exact (intsS_row (zs := [3, 4, 5, 6, 7, 8]) _ (at_old _ (at_new _ _ (by simp))))) (by rw [H2.out]; exact (intsS_row (zs := []) _ (at_old _ (at_old _ (at_old _ (at_new _ _ (by simp))))))) (intsS_row (zs := []) _ (at_old _ (at_old _ (at_old _ (at_new _ _ (by simp))))))) (below_alloc (below_alloc (below_alloc (below_alloc (below_one _ _) _ rfl) _ rfl) _ rfl) _ rfl)

theorem app_i64w (w : World) {ops : Array Oper} {rest : List Oper} {o : Oper} {a : Act} {Q : Exit → Act → World → Prop} (hg : o.guard = none) (s x : Operand)
    (hop : o.op = Op.call { callee := Callee.builtin Builtin.append, args := #[s, x], argTypes := #[27, 27] }) (B : Nat) (v : Value) (zs : List Int) (hs : a.eval s = v) (hown : Own .i64 3 w B v zs)
    (ad : Addr) (m c : Nat) (news : List Int) (hx : a.eval x = .slice (some ad) m c) (hm : news.length = m)
    (hc : ∀ j u, (news.map (Value.int .i64))[j]? = some u → w.cell? (ad.add j) = some u) (hb : zs.length + m ≤ 1099511627776) (hB : B ≤ w.heap.size)
    (K : ∀ s' l' c' w', Own .i64 3 w' B (.slice s' l' c') (zs ++ news) → w.grownBy w' v.ownBlock → wpList Tryd.prog ops Q rest (a.put o.dst (.slice s' l' c')) w') : wpList Tryd.prog ops Q (o :: rest) a w := by
  obtain ⟨i, h1, h2, h3, h4⟩ := info_i64
  refine wpList_append_own w hg s x 27 hop B 3 i (.int .i64 0) 1 8 Tryd.underlying27 h1 h2 h3 h4 rfl (by decide) v _ _ hs hown ad m c (news.map (Value.int .i64)) hx (by simp [hm]) hc ?_ (by unfold maxLen; omega) (by omega) hB ?_
  · intro u hu
    simp only [List.mem_map] at hu
    obtain ⟨n, _, rfl⟩ := hu
    rfl
  · intro v' w' h' hg' _
    have hl : zs.length + m = (zs ++ news).length := by simp [hm]
    rw [hl] at h'
    have h2 : Own .i64 3 w' B v' (zs ++ news) := by unfold Own; rw [List.map_append]; exact h'
    obtain ⟨a', c', rfl, _⟩ := h2.shape
    exact K _ _ _ w' h2 hg'
/-- 'append(s, x)' of one slice. -/
theorem app_list (w : World) {ops : Array Oper} {rest : List Oper} {o : Oper} {a : Act} {Q : Exit → Act → World → Prop} (hg : o.guard = none) (s x : Operand)
    (hop : o.op = Op.call { callee := Callee.builtin Builtin.append, args := #[s, x], argTypes := #[53, 53] }) (B : Nat) (v : Value) (vs : List Value) (hs : a.eval s = v) (hown : OwnV w B v vs) (m : Nat) (hm : vs.length = m)
    (b c : Nat) (u : Value) (hx : a.eval x = .slice (some ⟨b, 0, none⟩) 1 c) (hu : u.oneCell' = true)
    (hc : w.heap[b]? = some (.cells #[u] 27)) (hb : m ≤ 1048576) (hB : B ≤ w.heap.size)
    (K : ∀ g cap w', OwnV w' B (.slice (some ⟨g, 0, none⟩) (m + 1) cap) (vs ++ [u]) → w.grownBy w' v.ownBlock → (v.ownBlock = some g ∨ g = w.heap.size) → g < w'.heap.size → wpList Tryd.prog ops Q rest (a.put o.dst (.slice (some ⟨g, 0, none⟩) (m + 1) cap)) w') : wpList Tryd.prog ops Q (o :: rest) a w := by
  subst hm
  obtain ⟨i, h1, h2, h3, h4⟩ := info_list
  refine wpList_append_lies w hg s x 53 hop B 27 i (.slice none 0 0) 1 24 Tryd.underlying53 h1 h2 h3 h4 rfl (by decide) v _ _ hs hown ⟨b, 0, none⟩ 1 c [u] hx rfl (World.news_of_block hc) ?_ (by decide) (by unfold maxLen; omega) (by omega) hB _ rfl ?_
  · intro u' hu'
    rw [List.mem_singleton] at hu'
    rw [hu']
    exact hu
  · intro g cap w' h' hg' hor hlt
    refine K g cap w' ?_ hg' hor hlt
    unfold OwnV
    rw [List.length_append]
    exact h'

/-- A profile with a code: the specification's. -/
def zeroPr : Value := .agg #[.string ⟨#[]⟩, .string ⟨#[]⟩, .slice none 0 0, .bool false, .bool false, .bool false, .bool false, .bool false]
def SpRet (n : Int) (w : World) (v : Value) (us : List Value) (w' : World) : Prop := OwnV w' w.heap.size v us ∧ us.length = 4 ∧ (∀ k (h : k < us.length), Ints .i64 w' us[k] (prSets n (k : Int))) ∧ Below w.heap.size w w'
def SpoDone (n : Int) (w : World) (e : Ending) (w' : World) : Prop := (proB n = false ∧ e = .returned (.tuple #[zeroPr, .int .i64 5]) ∧ Below w.heap.size w w') ∨ (proB n = true ∧ ∃ v us, e = .returned (.tuple #[prV n v, .int .i64 0]) ∧ SpRet n w v us w')
theorem OwnV.empty (w : World) (B : Nat) (hB : B ≤ w.heap.size) : OwnV (w.alloc (.cells #[] 27)) B (.slice (some ⟨w.heap.size, 0, none⟩) 0 0) [] :=
  World.ownsRow_lit (base := B) (e := 27) (size := 1) w #[] 0 hB (by decide) (by decide)
theorem Own.empty (w : World) (B : Nat) (hB : B ≤ w.heap.size) : Own .i64 3 (w.alloc (.cells #[] 3)) B (.slice (some ⟨w.heap.size, 0, none⟩) 0 0) [] := Own.lit .i64 3 w B [] hB (by decide)
theorem IntsS.news {w : World} {b off : Nat} {zs : List Int} (hc : ∀ i, i < zs.length → w.cell? ⟨b, off + i, none⟩ = some (.int .i64 (zs.getD i 0))) : ∀ j u, (zs.map (Value.int .i64))[j]? = some u → w.cell? ((⟨b, off, none⟩ : Addr).add j) = some u := by
  intro j u hu
  rw [List.getElem?_map] at hu
  have hj : j < zs.length := by
    rcases Nat.lt_or_ge j zs.length with hj | hj
    · exact hj
    · rw [List.getElem?_eq_none hj] at hu; simp at hu
  rw [List.getElem?_eq_getElem hj] at hu
  simp at hu
  rw [add_off, hc j hj, ← hu]
  simp [List.getD, List.getElem?_eq_getElem hj]

set_option maxHeartbeats 2000000 in
theorem spec_ProfileOf (n : Int) (w : World) : Calls Tryd.prog 34 #[.int .i64 n] w (SpoDone n w) := by
  have HP := Lib.hid (fun w => spec_l05ProfileS n w)
  have HN := Lib.hid (fun w => spec_l05No n w)
  have B0 := Lib.hid (below_one w (.cells #[.string ⟨#[]⟩, .string ⟨#[]⟩, .slice none 0 0, .bool false, .bool false, .bool false, .bool false, .bool false] 55))
  have R0 : Hid ((w.alloc (.cells #[.string ⟨#[]⟩, .string ⟨#[]⟩, .slice none 0 0, .bool false, .bool false, .bool false, .bool false, .bool false] 55)).heap[w.heap.size]? = some (.cells #[.string ⟨#[]⟩, .string ⟨#[]⟩, .slice none 0 0, .bool false, .bool false, .bool false, .bool false, .bool false] 55)) := Lib.hid (heap_alloc_new _ _)
  unfold PrDoneS prV at HP
  cases hn : proB n
  · rw [hn] at HN
    have HN1 := Lib.hid hn
    clear hn
    go_enter Tryd.func34, Tryd.ntmps34
    go_wp2_with fail
    refine (HN.out _).mono ?_
    rintro e w1 ⟨rfl, rfl⟩
    go_wp2
    exact bodyPost_ret (results_row_tmp' rfl _ _ w.heap.size _ _ _ _ rfl R0.out Tryd.underlying55 rfl (by kernel_rfl)) rfl (.inl ⟨HN1.out, rfl, B0.out⟩)
  rw [hn] at HN
  have HN1 := Lib.hid hn
  clear hn
  go_enter Tryd.func34, Tryd.ntmps34
  go_wp2_with fail
  refine (HN.out _).mono ?_
  rintro e w1 ⟨rfl, rfl⟩
  go_wp2_with fail
  refine (HP.out _).mono ?_
  generalize w.alloc (.cells #[.string ⟨#[]⟩, .string ⟨#[]⟩, .slice none 0 0, .bool false, .bool false, .bool false, .bool false, .bool false] 55) = W0 at *
  rintro e w1 ⟨v, rfl, hv, b1⟩
  obtain ⟨gs, cs, u, rfl, hu⟩ := hv
  have hlW := (Array.getElem?_eq_some_iff.1 R0.out).1
  have B1 : Hid (Below w.heap.size w ((w1.alloc (.cells #[.string (prName n), .string (prHead n), .slice (some ⟨gs, 0, none⟩) 4 cs, .bool (prRight n), .bool (prShifts n), .bool (prSingle n), .bool (prReset n), .bool (prClear n)] 55)).alloc (.cells #[] 27))) := Lib.hid (((B0.out.trans (b1.mono B0.out.size)).alloc (B0.out.trans (b1.mono B0.out.size)).size _).alloc (by simp; have := (B0.out.trans (b1.mono B0.out.size)).size; omega) _)
  have R1 := Lib.hid (at_old (.cells #[] 27) (at_old (.cells #[.string (prName n), .string (prHead n), .slice (some ⟨gs, 0, none⟩) 4 cs, .bool (prRight n), .bool (prShifts n), .bool (prSingle n), .bool (prReset n), .bool (prClear n)] 55) ((b1.block _ hlW).trans R0.out)))
  have A1 : Hid (PrAt ((w1.alloc (.cells #[.string (prName n), .string (prHead n), .slice (some ⟨gs, 0, none⟩) 4 cs, .bool (prRight n), .bool (prShifts n), .bool (prSingle n), .bool (prReset n), .bool (prClear n)] 55)).alloc (.cells #[] 27)) w1.heap.size n (.slice (some ⟨gs, 0, none⟩) 4 cs)) := Lib.hid (heap_alloc2_old _ _ _)
  have bb := below_two w1 (.cells #[.string (prName n), .string (prHead n), .slice (some ⟨gs, 0, none⟩) 4 cs, .bool (prRight n), .bool (prShifts n), .bool (prSingle n), .bool (prReset n), .bool (prClear n)] 55) (.cells #[] 27)
  have HU : Hid (∀ k : Nat, k < 4 → ((w1.alloc (.cells #[.string (prName n), .string (prHead n), .slice (some ⟨gs, 0, none⟩) 4 cs, .bool (prRight n), .bool (prShifts n), .bool (prSingle n), .bool (prReset n), .bool (prClear n)] 55)).alloc (.cells #[] 27)).cell? ⟨gs, k, none⟩ = some (u k) ∧ IntsS ((w1.alloc (.cells #[.string (prName n), .string (prHead n), .slice (some ⟨gs, 0, none⟩) 4 cs, .bool (prRight n), .bool (prShifts n), .bool (prSingle n), .bool (prReset n), .bool (prClear n)] 55)).alloc (.cells #[] 27)) (u k) (prSets n (k : Int))) := Lib.hid (fun k hk => ⟨cell_since bb (hu k hk).1, (hu k hk).2.keep bb⟩)
  have HGs : Hid (gs < w1.heap.size + 1) := Lib.hid (by have := World.block_lt_of_cell? w1 _ (hu 0 (by decide)).1; simp at this; omega)
  have HBu : Hid (∀ k : Nat, k < 4 → ∀ b off c, u k = .slice (some ⟨b, off, none⟩) (prSets n (k : Int)).length c → ∀ i, i < (prSets n (k : Int)).length → b < w1.heap.size + 1) := Lib.hid (fun k hk b off c he i hi => by
    obtain ⟨b', off', c', he', hc'⟩ := (hu k hk).2
    rw [he] at he'
    cases he'
    have := World.block_lt_of_cell? w1 _ (hc' i hi)
    simp at this
    omega)
  have hw1 : w.heap.size < w1.heap.size := by have := b1.size; omega
  have O1 : Hid (OwnV ((w1.alloc (.cells #[.string (prName n), .string (prHead n), .slice (some ⟨gs, 0, none⟩) 4 cs, .bool (prRight n), .bool (prShifts n), .bool (prSingle n), .bool (prReset n), .bool (prClear n)] 55)).alloc (.cells #[] 27)) (w1.heap.size + 1) (.slice (some ⟨w1.heap.size + 1, 0, none⟩) 0 0) []) := Lib.hid (by
    have := OwnV.empty (w1.alloc (.cells #[.string (prName n), .string (prHead n), .slice (some ⟨gs, 0, none⟩) 4 cs, .bool (prRight n), .bool (prShifts n), .bool (prSingle n), .bool (prReset n), .bool (prClear n)] 55)) (w1.heap.size + 1) (by simp)
    simpa using this)
  have hs1 : ((w1.alloc (.cells #[.string (prName n), .string (prHead n), .slice (some ⟨gs, 0, none⟩) 4 cs, .bool (prRight n), .bool (prShifts n), .bool (prSingle n), .bool (prReset n), .bool (prClear n)] 55)).alloc (.cells #[] 27)).heap.size = w1.heap.size + 1 + 1 := by simp
  clear b1 R0 hlW bb hu
  go_wp2
  generalize (w1.alloc (.cells #[.string (prName n), .string (prHead n), .slice (some ⟨gs, 0, none⟩) 4 cs, .bool (prRight n), .bool (prShifts n), .bool (prSingle n), .bool (prReset n), .bool (prClear n)] 55)).alloc (.cells #[] 27) = W1 at *
  go_loopw [5, 6] (fun lv i wr => ∃ k : Nat, k ≤ 4 ∧ i = .int .i64 k ∧ Hid (∃ us : List Value, us.length = k ∧ OwnV wr (w1.heap.size + 1) lv us ∧ (∀ j (h : j < us.length), Own .i64 3 wr (w1.heap.size + 1) us[j] (prSets n (j : Int))) ∧ ∀ j (h : j < us.length), ∀ b, us[j].ownBlock = some b → lv.ownBlock ≠ some b) ∧ Hid (Below (w1.heap.size + 1) W1 wr)) (fun _ i _ => 4 - (intOf i).toNat)
  case atStart => exact ⟨0, by omega, rfl, Lib.hid ⟨[], rfl, O1.out, fun j h => absurd h (Nat.not_lt_zero _), fun j h => absurd h (Nat.not_lt_zero _)⟩, Lib.hid (Below.refl _ _)⟩
  case round =>
    obtain ⟨k, hk, rfl, HA, HB⟩ := hrel
    obtain ⟨us, hul, hO, hOs, hds⟩ := HA.out
    obtain ⟨sa, sc, hsv⟩ := hO.form
    rw [hul] at hsv
    subst hsv
    by_cases hlt : k < 4
    · have hszr := HB.out.size
      obtain ⟨hcu, bu, offu, cu, hue, hcells⟩ := HU.out k hlt
      have hA := A1.out
      have Ar : Hid (PrAt wr w1.heap.size n (.slice (some ⟨gs, 0, none⟩) 4 cs)) := Lib.hid ((HB.out.block _ (by omega)).trans A1.out)
      have hA2 := Lib.hid (Ar.out.keep (below_one wr (.cells #[] 3)))
      have ⟨_, _, c2, _, _, _, _, _⟩ := row8_cells hA2.out
      have gsl : gs < w1.heap.size + 1 := HGs.out
      have hbu : ∀ i, i < (prSets n (k : Int)).length → bu < w1.heap.size + 1 := fun i hi => HBu.out k hlt bu offu cu hue i hi
      have cg : (wr.alloc (.cells #[] 3)).cell? ⟨gs, k, none⟩ = some (.slice (some ⟨bu, offu, none⟩) (prSets n (k : Int)).length cu) := cell_since (below_one _ _) (by rw [HB.out.cell gsl, hcu, hue])
      have cb : ∀ j x, ((prSets n (k : Int)).map (Value.int .i64))[j]? = some x → (wr.alloc (.cells #[] 3)).cell? ((⟨bu, offu, none⟩ : Addr).add j) = some x := IntsS.news (fun i hi => cell_since (below_one _ _) (by rw [HB.out.cell (hbu i hi)]; exact hcells i hi))
      have Hcb := Lib.hid cb
      have hlen := prSets_few n (k : Int)
      have v1 : (0 : Int) ≤ (k : Int) := by omega
      have v2 : (k : Int) < 4 := by omega
      have hlv : ∀ b, (Value.slice sa k sc).ownBlock = some b → w1.heap.size + 1 ≤ b ∧ b < wr.heap.size := fun b hb => World.ownsRow.lt hO b hb
      have HE := Lib.hid (Own.empty wr wr.heap.size (Nat.le_refl _))
      have H1 := Lib.hid hO
      have H2 := Lib.hid hOs
      have H3 := Lib.hid hds
      have H4 := Lib.hid hul
      clear hO hOs hds hul hue hcells cb hcu hbu hA
      generalize hz : prSets n (k : Int) = zs at *
      have HZ := Lib.hid hz
      clear hz
      go_wp2_with (at_builtin; refine app_i64w _ rfl _ _ rfl wr.heap.size _ [] rfl HE.out ⟨bu, offu, none⟩ zs.length cu zs rfl rfl Hcb.out (by simp; omega) (by simp) ?_)
      intro s3 l3 c3 w3 o3 g3
      have o3' : Own .i64 3 w3 wr.heap.size (.slice s3 l3 c3) zs := by simpa using o3
      have hjj : ∀ j, (Value.slice (some ⟨wr.heap.size, 0, none⟩) 0 0).ownBlock = some j → w1.heap.size + 1 ≤ j := by
        intro j hj
        have hj' : wr.heap.size = j := by simpa [Value.ownBlock] using hj
        omega
      have b3 : Below (w1.heap.size + 1) W1 w3 := (HB.out.alloc (by omega) _).grown g3 (by simp; omega) hjj
      have hs3 : wr.heap.size < w3.heap.size := by have := g3.size; simp at this; omega
      have n3 : ∀ b, (Value.slice s3 l3 c3).ownBlock = some b → wr.heap.size ≤ b ∧ b < w3.heap.size := fun b hb => World.ownsRow.lt o3' b hb
      have lv3 : Hid (OwnV (w3.alloc (.cells #[.slice s3 l3 c3] 27)) (w1.heap.size + 1) (.slice sa k sc) us) := Lib.hid (OwnV.all (World.ownsRow.kept (H1.out.all (below_one wr (.cells #[] 3))) g3 (by
        cases hob : (Value.slice sa k sc).ownBlock with
        | none => exact .inl rfl
        | some b =>
          refine .inr (fun h => ?_)
          have h' : b = wr.heap.size := by simpa [Value.ownBlock] using h
          have := (hlv _ hob).2
          omega)) (below_one _ _))
      have us3 : Hid (∀ j (h : j < us.length), Own .i64 3 (w3.alloc (.cells #[.slice s3 l3 c3] 27)) (w1.heap.size + 1) us[j] (prSets n (j : Int)) ∧ ∀ b, us[j].ownBlock = some b → b < wr.heap.size) := Lib.hid (fun j h => by
        have hj := H2.out j h
        have hlt2 : ∀ b, us[j].ownBlock = some b → b < wr.heap.size := fun b hb => (World.ownsRow.lt hj b hb).2
        refine ⟨Own.all (Own.kept (hj.all (below_one wr (.cells #[] 3))) g3 ?_) (below_one _ _), hlt2⟩
        cases hob : us[j].ownBlock with
        | none => exact .inl rfl
        | some b =>
          refine .inr (fun h => ?_)
          have h' : b = wr.heap.size := by simpa [Value.ownBlock] using h
          have := hlt2 _ hob
          omega)
      have o3a : Hid (Own .i64 3 (w3.alloc (.cells #[.slice s3 l3 c3] 27)) (w1.heap.size + 1) (.slice s3 l3 c3) zs) := Lib.hid ((o3'.all (below_one _ _)).low (by omega))
      have HB3 := Lib.hid b3
      clear o3 o3' g3 b3
      go_wp2_with (at_builtin; refine app_list _ rfl _ _ rfl (w1.heap.size + 1) _ us rfl lv3.out k H4.out w3.heap.size 1 (.slice s3 l3 c3) rfl rfl (heap_alloc_new _ _) (by omega) (by simp; omega) ?_)
      intro g5 c5 w5 o5 g5' hor5 lt5
      have HB5 : Hid (Below (w1.heap.size + 1) W1 w5) := Lib.hid ((HB3.out.alloc (by omega) _).grown g5' (by simp; omega) (fun j hj => (hlv j hj).1))
      have HI : Hid (∃ us' : List Value, us'.length = k + 1 ∧ OwnV w5 (w1.heap.size + 1) (.slice (some ⟨g5, 0, none⟩) (k + 1) c5) us' ∧ (∀ j (h : j < us'.length), Own .i64 3 w5 (w1.heap.size + 1) us'[j] (prSets n (j : Int))) ∧ ∀ j (h : j < us'.length), ∀ b, us'[j].ownBlock = some b → (Value.slice (some ⟨g5, 0, none⟩) (k + 1) c5).ownBlock ≠ some b) := Lib.hid (by
        refine ⟨us ++ [.slice s3 l3 c3], by simp [H4.out], o5, fun j h => ?_, fun j h b hb => ?_⟩
        · by_cases hj : j < us.length
          · rw [List.getElem_append_left hj]
            refine Own.kept (us3.out j hj).1 g5' ?_
            cases hob : us[j].ownBlock with
            | none => exact .inl rfl
            | some b => exact .inr (fun h => H3.out j hj b hob h.symm)
          · have hj2 : j = us.length := by simp at h; omega
            subst hj2
            rw [List.getElem_append_right (Nat.le_refl _)]
            simp only [Nat.sub_self, List.getElem_cons_zero]
            rw [H4.out, HZ.out]
            refine Own.kept o3a.out g5' ?_
            cases hob : (Value.slice s3 l3 c3).ownBlock with
            | none => exact .inl rfl
            | some b => exact .inr (fun h => by have h1 := (n3 b hob).1; have h2 := (hlv b h.symm).2; omega)
        · have hlow : (j < us.length ∧ b < wr.heap.size ∧ (Value.slice sa k sc).ownBlock ≠ some b) ∨ (wr.heap.size ≤ b ∧ b < w3.heap.size) := by
            by_cases hj : j < us.length
            · rw [List.getElem_append_left hj] at hb
              exact .inl ⟨hj, (us3.out j hj).2 b hb, H3.out j hj b hb⟩
            · have hj2 : j = us.length := by simp at h; omega
              subst hj2
              rw [List.getElem_append_right (Nat.le_refl _)] at hb
              simp only [Nat.sub_self, List.getElem_cons_zero] at hb
              exact .inr (n3 b hb)
          intro he
          have he2 : g5 = b := by simpa [Value.ownBlock] using he
          rcases hor5 with hor | hor
          · rcases hlow with ⟨_, _, h3⟩ | ⟨h2, _⟩
            · exact h3 (by rw [hor, he2])
            · have := (hlv g5 hor).2
              omega
          · have hor' : g5 = w3.heap.size + 1 := by simpa using hor
            rcases hlow with ⟨_, h2, _⟩ | ⟨_, h3⟩ <;> omega)
      clear o5 g5' hor5 us3 lv3 o3a
      go_wp2
      go_roundw
      case rel => exact ⟨k + 1, by omega, by go_num, HI, HB5⟩
      case measure => simp [intOf]; omega
    · obtain rfl : k = 4 := by omega
      have R3 : Hid (wr.heap[w.heap.size]? = some (.cells #[.string ⟨#[]⟩, .string ⟨#[]⟩, .slice none 0 0, .bool false, .bool false, .bool false, .bool false, .bool false] 55)) := Lib.hid ((HB.out.block _ (by omega)).trans R1.out)
      have Ar : Hid (PrAt wr w1.heap.size n (.slice (some ⟨gs, 0, none⟩) 4 cs)) := Lib.hid ((HB.out.block _ (by omega)).trans A1.out)
      have A5 := Lib.hid (Ar.out.put (.slice sa 4 sc))
      have hlA : w1.heap.size < wr.heap.size := Ar.out.lt
      have hlR : w.heap.size < wr.heap.size := by omega
      have R5 : Hid ((wr.setCell ⟨w1.heap.size, 2, none⟩ (.slice sa 4 sc)).heap[w.heap.size]? = some (.cells #[.string ⟨#[]⟩, .string ⟨#[]⟩, .slice none 0 0, .bool false, .bool false, .bool false, .bool false, .bool false] 55)) := Lib.hid (by rw [Below.heap_setCell _ _ _ _ (by simp; omega)]; exact R3.out)
      have HD : Hid (SpRet n w (.slice sa 4 sc) us (put8 (wr.setCell ⟨w1.heap.size, 2, none⟩ (.slice sa 4 sc)) w.heap.size (.string (prName n)) (.string (prHead n)) (.slice sa 4 sc) (.bool (prRight n)) (.bool (prShifts n)) (.bool (prSingle n)) (.bool (prReset n)) (.bool (prClear n)))) := Lib.hid (by
        have hput : ∀ i, w1.heap.size < i → (put8 (wr.setCell ⟨w1.heap.size, 2, none⟩ (.slice sa 4 sc)) w.heap.size (.string (prName n)) (.string (prHead n)) (.slice sa 4 sc) (.bool (prRight n)) (.bool (prShifts n)) (.bool (prSingle n)) (.bool (prReset n)) (.bool (prClear n))).heap[i]? = wr.heap[i]? := fun i hi => by
          unfold put8
          repeat rw [Below.heap_setCell _ _ _ _ (by simp; omega)]
        refine ⟨?_, hul, fun k h => ?_, ?_⟩
        · refine OwnV.low ?_ (show w.heap.size ≤ w1.heap.size + 1 by omega)
          refine ⟨hO.1, ?_⟩
          rcases hO.2 with h | ⟨g, cap, cur, x1, x2, x3, x4⟩
          · exact .inl h
          · exact .inr ⟨g, cap, cur, x1, x2, (hput g (by omega)).trans x3, x4⟩
        · exact (Own.move (hOs k h) (fun i hi hl => hput i (by omega))).ints
        · exact put8_below ((B1.out.trans (HB.out.mono (by omega))).setCell (show w.heap.size ≤ w1.heap.size by omega) _) (Nat.le_refl _) _ _ _ _ _ _ _ _)
      have ⟨c0, c1, c2, c3, c4, c5, c6, c7⟩ := row8_cells Ar.out
      have ⟨q0, q1, q2, q3, q4, q5, q6, q7⟩ := row8_thaw Ar.out
      have ⟨r0, r1, r2, r3, r4, r5, r6, r7⟩ := row8_cells R3.out
      have ⟨z0, z1, z2, z3, z4, z5, z6, z7⟩ := row8_thaw R3.out
      have hne : w.heap.size ≠ w1.heap.size := by omega
      clear hO hOs hds
      go_wp2
      exact bodyPost_ret (results_row_tmp' rfl _ _ w.heap.size _ _ _ _ rfl (put8_row R5.out (.string (prName n)) (.string (prHead n)) (.slice sa 4 sc) (.bool (prRight n)) (.bool (prShifts n)) (.bool (prSingle n)) (.bool (prReset n)) (.bool (prClear n))) Tryd.underlying55 rfl (by kernel_rfl)) rfl (.inr ⟨HN1.out, _, us, rfl, HD.out⟩)

end Go.Proofs.YtjbikenhdgbacaaDoor

namespace Go.Proofs.YtjbikenhdgbacaaDoor
open Go.RowKit

/-- The numbers k, k + 1, .. -/
def marks (k : Int) (n : Nat) : List Int := (List.range n).map fun i : Nat => k + (i : Int)
theorem marks_length (k : Int) (n : Nat) : (marks k n).length = n := by simp [marks]
theorem marks_at (k : Int) (n i : Nat) (h : i < n) : (marks k n).getD i 0 = k + i := by
  simp [marks, List.getD, h]

/-- Behind j steps: j marks, then what was there. -/
def markTo (zs : List Int) (k : Int) (j : Nat) : List Int := marks k j ++ zs.drop j
theorem markTo_zero (zs : List Int) (k : Int) : markTo zs k 0 = zs := by simp [markTo, marks]
theorem markTo_length (zs : List Int) (k : Int) (j : Nat) (h : j ≤ zs.length) : (markTo zs k j).length = zs.length := by simp [markTo, marks_length]; omega
theorem markTo_succ (zs : List Int) (k : Int) (j : Nat) (h : j < zs.length) : (markTo zs k j).set j (k + j) = markTo zs k (j + 1) := by
  unfold markTo
  have hl : (marks k j).length = j := marks_length k j
  have e : marks k (j + 1) = marks k j ++ [k + (j : Int)] := by simp [marks, List.range_succ]
  rw [List.set_append_right _ _ (by omega), hl, Nat.sub_self, List.drop_eq_getElem_cons h, e, List.set_cons_zero, List.append_assoc]
  rfl
theorem markTo_full (zs : List Int) (k : Int) : markTo zs k zs.length = marks k zs.length := by simp [markTo]

set_option maxHeartbeats 400000 in
theorem laws_markIntS (v : Value) (zs : List Int) (k : Int) (B : Nat) (w : World) (h : Own .i64 3 w B v zs) (hl : zs.length ≤ 1048576) (hk : 0 ≤ k) (hk2 : k ≤ 1099511627776) : Calls Tryd.prog 119 #[v, .int .i64 k] w fun e w' => e = .returned (.int .i64 (k + zs.length)) ∧ Own .i64 3 w' B v (marks k zs.length) ∧ Below B w w' := by
  obtain ⟨a, c, rfl, h1, h2, h3, h4⟩ := h.shape
  cases a with
  | none =>
    obtain ⟨rfl, rfl⟩ := h3 rfl
    clear h3 h4
    go_enter Tryd.func119, Tryd.ntmps119
    go_wp2
    go_loop [1, 5] (fun q i => q = .int .i64 k ∧ i = .int .i64 0) (fun _ _ => 0)
    case atStart => exact ⟨rfl, rfl⟩
    case round =>
      obtain ⟨rfl, rfl⟩ := hrel
      go_wp2
      go_ret
      exact ⟨ret_int (by simp), by simpa [marks] using h, Below.refl _ _⟩
  | some x =>
    obtain ⟨g, off, spot⟩ := x
    obtain ⟨rfl, rfl, hB⟩ := h4 _ rfl
    clear h3 h4
    generalize hn : zs.length = n at *
    have HN := Lib.hid hn
    clear hn
    go_enter Tryd.func119, Tryd.ntmps119
    go_wp2
    go_loopw [1, 5] (fun q i wr => ∃ j : Nat, j ≤ n ∧ q = .int .i64 (k + j) ∧ i = .int .i64 j ∧ Own .i64 3 wr B (.slice (some ⟨g, 0, none⟩) n c) (markTo zs k j) ∧ Below B w wr) (fun _ i _ => n - (intOf i).toNat)
    case atStart => exact ⟨0, Nat.zero_le _, by simp, rfl, by rw [markTo_zero]; exact h, Below.refl _ _⟩
    case round =>
      clear h
      obtain ⟨j, hj, rfl, rfl, ho, hb⟩ := hrel
      by_cases hlt : j < n
      · have hf := ho.frozen j
        have hold := ho.cell j (by rw [markTo_length _ _ _ (by have := HN.out; omega), HN.out]; exact hlt)
        have ho2 := ho.store j (k + j)
        rw [markTo_succ zs k j (by have := HN.out; omega)] at ho2
        have hb2 : Below B w (wr.setCell ⟨g, j, none⟩ (.int .i64 (k + j))) := hb.setCell hB _
        have e1 : (0 : Int) ≤ (j : Int) := by omega
        have e2 : (j : Int) < (n : Int) := by omega
        clear ho
        go_wp2
        go_roundw
        case rel => exact ⟨j + 1, by omega, by go_num, by go_num, ho2, hb2⟩
        case measure => simp [intOf]; omega
      · have hjn : j = n := by omega
        subst hjn
        go_wp2
        go_ret
        have := HN.out
        refine ⟨rfl, ?_, hb⟩
        rw [← HN.out, markTo_full, HN.out] at ho
        exact ho

set_option maxHeartbeats 400000 in
theorem laws_heldIntS (v : Value) (k : Int) (n : Nat) (w : World) (h : Ints .i64 w v (marks k n)) (hl : n ≤ 1048576) (hk : 0 ≤ k) (hk2 : k ≤ 1099511627776) : Calls Tryd.prog 120 #[v, .int .i64 k] w fun e w' => e = .returned (.int .i64 (k + n)) ∧ w = w' := by
  rcases h with ⟨h0, a, c, rfl⟩ | ⟨b, off, c, rfl, hcell⟩
  · have hn : n = 0 := by have := marks_length k n; rw [h0] at this; simpa using this.symm
    subst hn
    clear h0
    go_enter Tryd.func120, Tryd.ntmps120
    go_wp2
    go_loop [1, 5] (fun q i => q = .int .i64 k ∧ i = .int .i64 0) (fun _ _ => 0)
    case atStart => exact ⟨rfl, rfl⟩
    case round =>
      obtain ⟨rfl, rfl⟩ := hrel
      go_wp2
      go_ret
      exact ⟨ret_int (by simp), rfl⟩
  · rw [marks_length] at hcell ⊢
    go_enter Tryd.func120, Tryd.ntmps120
    go_wp2
    go_loop [1, 5] (fun q i => ∃ j : Nat, j ≤ n ∧ q = .int .i64 (k + j) ∧ i = .int .i64 j) (fun _ i => n - (intOf i).toNat)
    case atStart => exact ⟨0, Nat.zero_le _, by simp, rfl⟩
    case round =>
      obtain ⟨j, hj, rfl, rfl⟩ := hrel
      by_cases hlt : j < n
      · have c1 := hcell j hlt
        rw [marks_at k n j hlt] at c1
        have e1 : (0 : Int) ≤ (j : Int) := by omega
        have e2 : (j : Int) < (n : Int) := by omega
        clear hcell
        go_wp2
        go_round
        case rel => exact ⟨j + 1, by omega, by go_num, by go_num⟩
        case measure => simp [intOf]; omega
      · have hjn : j = n := by omega
        subst hjn
        go_wp2
        go_ret
        exact ⟨rfl, rfl⟩

end Go.Proofs.YtjbikenhdgbacaaDoor

namespace Go.Proofs.YtjbikenhdgbacaaDoor
open Go.RowKit

def PofDone (n : Int) (w : World) (e : Ending) (w' : World) : Prop := (proB n = false ∧ e = .returned (.tuple #[zeroPr, .int .i64 5]) ∧ Below w.heap.size w w') ∨ (proB n = true ∧ ∃ a c f, e = .returned (.tuple #[prV n (.slice a 4 c), .int .i64 0]) ∧ PoRet n w (.slice a 4 c) f w')

set_option maxHeartbeats 1000000 in
theorem impl_ProfileOf (n : Int) (w : World) (ht : TabSets w) : Calls Tryd.prog 35 #[.int .i64 n] w (PofDone n w) := by
  have HN := Lib.hid (fun w => impl_isProfile n w)
  have B0 := Lib.hid (below_one w (.cells #[.string ⟨#[]⟩, .string ⟨#[]⟩, .slice none 0 0, .bool false, .bool false, .bool false, .bool false, .bool false] 55))
  have HT0 := Lib.hid (ht.keep B0.out)
  have R0 : Hid ((w.alloc (.cells #[.string ⟨#[]⟩, .string ⟨#[]⟩, .slice none 0 0, .bool false, .bool false, .bool false, .bool false, .bool false] 55)).heap[w.heap.size]? = some (.cells #[.string ⟨#[]⟩, .string ⟨#[]⟩, .slice none 0 0, .bool false, .bool false, .bool false, .bool false, .bool false] 55)) := Lib.hid (heap_alloc_new _ _)
  have hs0 : (w.alloc (.cells #[.string ⟨#[]⟩, .string ⟨#[]⟩, .slice none 0 0, .bool false, .bool false, .bool false, .bool false, .bool false] 55)).heap.size = w.heap.size + 1 := by simp
  clear ht
  cases hn : proB n
  · rw [hn] at HN
    have HN1 := Lib.hid hn
    clear hn
    go_enter Tryd.func35, Tryd.ntmps35
    go_wp2_with fail
    refine (HN.out _).mono ?_
    rintro e w1 ⟨rfl, rfl⟩
    go_wp2
    exact bodyPost_ret (results_row_tmp' rfl _ _ w.heap.size _ _ _ _ rfl R0.out Tryd.underlying55 rfl (by kernel_rfl)) rfl (.inl ⟨HN1.out, rfl, B0.out⟩)
  rw [hn] at HN
  have HN1 := Lib.hid hn
  have HP := Lib.hid (fun w ht => impl_profileOf n w ht hn)
  unfold PoDone prV at HP
  clear hn
  go_enter Tryd.func35, Tryd.ntmps35
  go_wp2_with fail
  refine (HN.out _).mono ?_
  rintro e w1 ⟨rfl, rfl⟩
  go_wp2_with fail
  refine (HP.out _ HT0.out).mono ?_
  generalize w.alloc (.cells #[.string ⟨#[]⟩, .string ⟨#[]⟩, .slice none 0 0, .bool false, .bool false, .bool false, .bool false, .bool false] 55) = W0 at *
  rintro e w1 ⟨v, f, rfl, hO, hL, hd1, hd2, b1⟩
  obtain ⟨sa, sc, hsv⟩ := hO.form
  have hlen : ((List.range 4).map f).length = 4 := by simp
  rw [hlen] at hsv
  subst hsv
  have hlW := (Array.getElem?_eq_some_iff.1 R0.out).1
  have R1 := Lib.hid ((b1.block _ hlW).trans R0.out)
  have ⟨r0, r1, r2, r3, r4, r5, r6, r7⟩ := row8_cells R1.out
  have ⟨z0, z1, z2, z3, z4, z5, z6, z7⟩ := row8_thaw R1.out
  have hl1 : w.heap.size < w1.heap.size := (Array.getElem?_eq_some_iff.1 R1.out).1
  have HD : Hid (PoRet n w (.slice sa 4 sc) f (put8 w1 w.heap.size (.string (prName n)) (.string (prHead n)) (.slice sa 4 sc) (.bool (prRight n)) (.bool (prShifts n)) (.bool (prSingle n)) (.bool (prReset n)) (.bool (prClear n)))) := Lib.hid (by
    have hput : ∀ i, w.heap.size < i → (put8 w1 w.heap.size (.string (prName n)) (.string (prHead n)) (.slice sa 4 sc) (.bool (prRight n)) (.bool (prShifts n)) (.bool (prSingle n)) (.bool (prReset n)) (.bool (prClear n))).heap[i]? = w1.heap[i]? := fun i hi => by
      unfold put8
      repeat rw [Below.heap_setCell _ _ _ _ (by simp; omega)]
    refine ⟨?_, ?_, hd1, hd2, ?_⟩
    · refine OwnV.low ?_ (show w.heap.size ≤ W0.heap.size by omega)
      refine ⟨hO.1, ?_⟩
      rcases hO.2 with h | ⟨g, cap, cur, x1, x2, x3, x4⟩
      · exact .inl h
      · exact .inr ⟨g, cap, cur, x1, x2, (hput g (by omega)).trans x3, x4⟩
    · intro k hk
      exact ((hL k hk).move (fun i hi _ => hput i (by omega))).low (by omega)
    · exact put8_below (B0.out.trans (b1.mono B0.out.size)) (Nat.le_refl _) _ _ _ _ _ _ _ _)
  clear hO hL hd1 hd2 b1
  go_wp2
  exact bodyPost_ret (results_row_tmp' rfl _ _ w.heap.size _ _ _ _ rfl (put8_row R1.out (.string (prName n)) (.string (prHead n)) (.slice sa 4 sc) (.bool (prRight n)) (.bool (prShifts n)) (.bool (prSingle n)) (.bool (prReset n)) (.bool (prClear n))) Tryd.underlying55 rfl (by kernel_rfl)) rfl (.inr ⟨HN1.out, _, _, f, rfl, HD.out⟩)

theorem OwnV.cell {w : World} {B g n cap : Nat} {vs : List Value} (h : OwnV w B (.slice (some ⟨g, 0, none⟩) n cap) vs) (j : Nat) (hj : j < vs.length) : w.cell? ⟨g, j, none⟩ = some vs[j] := by
  obtain ⟨a, c, hv⟩ := h.form
  injection hv with _ h2
  subst h2
  have := World.ownsRow.cellAt h j (by omega)
  rw [this, List.getElem?_eq_getElem hj]

theorem OwnV.at {w : World} {B g n cap : Nat} {f : Nat → Value} (h : OwnV w B (.slice (some ⟨g, 0, none⟩) n cap) ((List.range n).map f)) (j : Nat) (hj : j < n) : w.cell? ⟨g, j, none⟩ = some (f j) := by
  rw [h.cell j (by simp; exact hj)]
  simp
theorem OwnV.addr {w : World} {B n cap : Nat} {a : Option Addr} {f : Nat → Value} (h : OwnV w B (.slice a n cap) ((List.range n).map f)) (hn : n ≠ 0) : ∃ g, a = some ⟨g, 0, none⟩ := by
  rcases h.2 with ⟨_, hh⟩ | ⟨g, cap, cur, x1, _⟩
  · simp at hh; exact absurd hh hn
  · injection x1 with h; exact ⟨g, h⟩
theorem Ints.shap {k : IntKind} {w : World} {v : Value} {zs : List Int} (h : Ints k w v zs) : ∃ s l c, v = .slice s l c := by
  rcases h with ⟨_, a, c, rfl⟩ | ⟨b, off, c, rfl, _⟩
  · exact ⟨_, _, _, rfl⟩
  · exact ⟨_, _, _, rfl⟩

set_option maxHeartbeats 1000000 in
theorem laws_eqIntSS (a a' : Option Addr) (c c' n : Nat) (f f' : Nat → Value) (z : Nat → List Int) (B B' : Nat) (w : World) (hv : OwnV w B (.slice a n c) ((List.range n).map f)) (hu : OwnV w B' (.slice a' n c') ((List.range n).map f'))
    (h1 : ∀ k, k < n → Ints .i64 w (f k) (z k)) (h2 : ∀ k, k < n → Ints .i64 w (f' k) (z k)) (hz : ∀ k, (z k).length ≤ 1048576) (hn4 : n ≤ 4) : Calls Tryd.prog 81 #[.slice a n c, .slice a' n c'] w fun e w' => e = .returned (.bool true) ∧ ∃ n, w' = w.drewN n := by
  have e0 : ((n : Int) != (n : Int)) = false := by simp
  by_cases h0 : n = 0
  · subst h0
    clear hv hu h1 h2
    go_enter Tryd.func81, Tryd.ntmps81
    go_wp2
    go_loop [5] (fun i => i = .int .i64 0) (fun _ => 0)
    case atStart => rfl
    case round =>
      subst hrel
      go_wp2
      go_ret
      exact ⟨rfl, 0, rfl⟩
  · obtain ⟨g, rfl⟩ := hv.addr h0
    obtain ⟨g', rfl⟩ := hu.addr h0
    have HV := Lib.hid hv
    have HU := Lib.hid hu
    have HF := Lib.hid (fun (k : Nat) (h : k < n) => And.intro (h1 k h).shap (h2 k h).shap)
    have HQ : Hid (∀ k, k < n → ∀ q, Calls Tryd.prog 118 #[f k, f' k] (w.drewN q) fun e w' => e = .returned (.bool true) ∧ ∃ m, w' = (w.drewN q).drewN m) := Lib.hid (fun k h q => (laws_eqIntS (f k) (f' k) (z k) (z k) (w.drewN q) (h1 k h) (h2 k h) (by have := hz k; omega) (by have := hz k; omega)).mono (fun e w' hh => ⟨hh.1.trans (by rw [decide_eq_true rfl]), hh.2⟩))
    clear hv hu h1 h2 hz
    go_enter Tryd.func81, Tryd.ntmps81
    go_wp2
    go_loopw [5] (fun i wr => ∃ k q : Nat, k ≤ n ∧ i = .int .i64 k ∧ wr = w.drewN q) (fun i _ => n - (intOf i).toNat)
    case atStart => exact ⟨0, 0, Nat.zero_le _, rfl, rfl⟩
    case round =>
      obtain ⟨k, q, hk, rfl, rfl⟩ := hrel
      by_cases hlt : k < n
      · have c1 : w.cell? ⟨g, k, none⟩ = some (f k) := HV.out.at k hlt
        have c2 : w.cell? ⟨g', k, none⟩ = some (f' k) := HU.out.at k hlt
        have v1 : (0 : Int) ≤ (k : Int) := by omega
        have v2 : (k : Int) < (n : Int) := by omega
        have hq := HQ.out k hlt
        obtain ⟨⟨s1, l1, k1, e1⟩, ⟨s2, l2, k2, e2⟩⟩ := HF.out k hlt
        rw [e1] at c1 hq
        rw [e2] at c2 hq
        clear e1 e2
        have hq2 : ∀ m, Calls Tryd.prog 118 #[.slice s1 l1 k1, .slice s2 l2 k2] ((w.drewN q).drewN m) fun e w' => e = .returned (.bool true) ∧ ∃ m', w' = ((w.drewN q).drewN m).drewN m' := fun m => by rw [World.drewN_drewN]; exact hq _
        have d1 : (w.drewN q).cell? ⟨g, k, none⟩ = some (.slice s1 l1 k1) := c1
        have d2 : (w.drewN q).cell? ⟨g', k, none⟩ = some (.slice s2 l2 k2) := c2
        clear hq c1 c2
        obtain ⟨W, hW⟩ : ∃ W, w.drewN q = W := ⟨_, rfl⟩
        rw [hW] at hq2 d1 d2 ⊢
        have HW := Lib.hid hW
        have HQk := Lib.hid hq2
        clear hW hq2
        go_wp2_with fail
        go_quiet ((go_at_call 118; exact Calls.quiet_of (HQk.out _)))
        go_wp2
        go_roundw
        case rel => exact ⟨k + 1, _, by omega, by go_num, by rw [← HW.out, World.drewN_drewN]⟩
        case measure => simp [intOf]; omega
      · go_wp2
        go_ret
        exact ⟨rfl, _, rfl⟩

set_option maxHeartbeats 400000 in
/-- Marking a list: its own block alone changes. -/
theorem laws_markIntS2 (v : Value) (zs : List Int) (k : Int) (B : Nat) (w : World) (h : Own .i64 3 w B v zs) (hl : zs.length ≤ 1048576) (hk : 0 ≤ k) (hk2 : k ≤ 1099511627776) : Calls Tryd.prog 119 #[v, .int .i64 k] w fun e w' => e = .returned (.int .i64 (k + zs.length)) ∧ Own .i64 3 w' B v (marks k zs.length) ∧ Below B w w' ∧ ∀ i, v.ownBlock ≠ some i → i < w.heap.size → w'.heap[i]? = w.heap[i]? := by
  obtain ⟨a, c, rfl, h1, h2, h3, h4⟩ := h.shape
  cases a with
  | none =>
    obtain ⟨rfl, rfl⟩ := h3 rfl
    clear h3 h4
    go_enter Tryd.func119, Tryd.ntmps119
    go_wp2
    go_loop [1, 5] (fun q i => q = .int .i64 k ∧ i = .int .i64 0) (fun _ _ => 0)
    case atStart => exact ⟨rfl, rfl⟩
    case round =>
      obtain ⟨rfl, rfl⟩ := hrel
      go_wp2
      go_ret
      exact ⟨ret_int (by simp), by simpa [marks] using h, Below.refl _ _, fun _ _ _ => rfl⟩
  | some x =>
    obtain ⟨g, off, spot⟩ := x
    obtain ⟨rfl, rfl, hB⟩ := h4 _ rfl
    clear h3 h4
    generalize hn : zs.length = n at *
    have HN := Lib.hid hn
    clear hn
    go_enter Tryd.func119, Tryd.ntmps119
    go_wp2
    go_loopw [1, 5] (fun q i wr => ∃ j : Nat, j ≤ n ∧ q = .int .i64 (k + j) ∧ i = .int .i64 j ∧ Own .i64 3 wr B (.slice (some ⟨g, 0, none⟩) n c) (markTo zs k j) ∧ Below B w wr ∧ Hid (∀ i, i ≠ g → i < w.heap.size → wr.heap[i]? = w.heap[i]?)) (fun _ i _ => n - (intOf i).toNat)
    case atStart => exact ⟨0, Nat.zero_le _, by simp, rfl, by rw [markTo_zero]; exact h, Below.refl _ _, Lib.hid (fun _ _ _ => rfl)⟩
    case round =>
      clear h
      obtain ⟨j, hj, rfl, rfl, ho, hb, HO⟩ := hrel
      by_cases hlt : j < n
      · have hf := ho.frozen j
        have hold := ho.cell j (by rw [markTo_length _ _ _ (by have := HN.out; omega), HN.out]; exact hlt)
        have ho2 := ho.store j (k + j)
        rw [markTo_succ zs k j (by have := HN.out; omega)] at ho2
        have hb2 : Below B w (wr.setCell ⟨g, j, none⟩ (.int .i64 (k + j))) := hb.setCell hB _
        have HO2 : Hid (∀ i, i ≠ g → i < w.heap.size → (wr.setCell ⟨g, j, none⟩ (.int .i64 (k + j))).heap[i]? = w.heap[i]?) := Lib.hid (fun i hi hl => by rw [Below.heap_setCell _ _ _ _ (by simpa using hi)]; exact HO.out i hi hl)
        have e1 : (0 : Int) ≤ (j : Int) := by omega
        have e2 : (j : Int) < (n : Int) := by omega
        clear ho
        go_wp2
        go_roundw
        case rel => exact ⟨j + 1, by omega, by go_num, by go_num, ho2, hb2, HO2⟩
        case measure => simp [intOf]; omega
      · have hjn : j = n := by omega
        subst hjn
        go_wp2
        go_ret
        have := HN.out
        refine ⟨rfl, ?_, hb, fun i hi hl => HO.out i (fun he => hi (by rw [he]; rfl)) hl⟩
        rw [← HN.out, markTo_full, HN.out] at ho
        exact ho

/-- How many numbers stand ahead of list k. -/
def offs (z : Nat → List Int) : Nat → Nat
  | 0 => 0
  | k + 1 => offs z k + (z k).length
theorem offs_le {z : Nat → List Int} (hz : ∀ k, (z k).length ≤ 6) : ∀ k, offs z k ≤ 6 * k
  | 0 => Nat.le_refl _
  | k + 1 => by have := offs_le hz k; have := hz k; simp only [offs]; omega

/-- Lists each in a block of its own, apart from the row that holds them. -/
def Apart (n : Nat) (v : Value) (f : Nat → Value) : Prop := (∀ j k : Nat, j < n → k < n → j ≠ k → ∀ b, (f j).ownBlock = some b → (f k).ownBlock ≠ some b) ∧ (∀ k : Nat, k < n → ∀ b, (f k).ownBlock = some b → v.ownBlock ≠ some b)
theorem OwnV.stay {w w' : World} {B : Nat} {v : Value} {vs : List Value} (h : OwnV w B v vs) (hk : ∀ i, v.ownBlock = some i → i < w.heap.size → w'.heap[i]? = w.heap[i]?) : OwnV w' B v vs := by
  refine ⟨h.1, ?_⟩
  rcases h.2 with h | ⟨g, cap, cur, x1, x2, x3, x4⟩
  · exact .inl h
  · exact .inr ⟨g, cap, cur, x1, x2, (hk g (by rw [x1]; rfl) (Array.getElem?_eq_some_iff.1 x3).1).trans x3, x4⟩
theorem Own.stay {w w' : World} {B : Nat} {v : Value} {zs : List Int} (h : Own .i64 3 w B v zs) (hk : ∀ i, v.ownBlock = some i → i < w.heap.size → w'.heap[i]? = w.heap[i]?) : Own .i64 3 w' B v zs := by
  refine ⟨h.1, ?_⟩
  rcases h.2 with h | ⟨g, cap, cur, x1, x2, x3, x4⟩
  · exact .inl h
  · exact .inr ⟨g, cap, cur, x1, x2, (hk g (by rw [x1]; rfl) (Array.getElem?_eq_some_iff.1 x3).1).trans x3, x4⟩

set_option maxHeartbeats 1000000 in
theorem laws_markIntSS (a : Option Addr) (c n : Nat) (f : Nat → Value) (z : Nat → List Int) (B : Nat) (w : World) (hv : OwnV w B (.slice a n c) ((List.range n).map f)) (h1 : ∀ k, k < n → Own .i64 3 w B (f k) (z k)) (hap : Apart n (.slice a n c) f) (hz : ∀ k, (z k).length ≤ 6) (hn4 : n ≤ 4) (_hBw : B ≤ w.heap.size) :
    Calls Tryd.prog 82 #[.slice a n c, .int .i64 1] w fun e w' => e = .returned (.int .i64 (1 + (offs z n : Int))) ∧ OwnV w' B (.slice a n c) ((List.range n).map f) ∧ (∀ k, k < n → Own .i64 3 w' B (f k) (marks (1 + (offs z k : Int)) (z k).length)) ∧ Below B w w' ∧ ∀ i, (∀ k, k < n → (f k).ownBlock ≠ some i) → i < w.heap.size → w'.heap[i]? = w.heap[i]? := by
  by_cases h0 : n = 0
  · subst h0
    have HV := Lib.hid hv
    clear hv h1
    go_enter Tryd.func82, Tryd.ntmps82
    go_wp2
    go_loop [1, 5] (fun q i => q = .int .i64 1 ∧ i = .int .i64 0) (fun _ _ => 0)
    case atStart => exact ⟨rfl, rfl⟩
    case round =>
      obtain ⟨rfl, rfl⟩ := hrel
      go_wp2
      go_ret
      exact ⟨rfl, HV.out, Below.refl _ _, fun _ _ => rfl⟩
  · obtain ⟨g, rfl⟩ := hv.addr h0
    have HV := Lib.hid hv
    have H1 := Lib.hid h1
    have HAp := Lib.hid hap
    have HZ := Lib.hid hz
    clear hv h1 hap hz
    go_enter Tryd.func82, Tryd.ntmps82
    go_wp2
    go_loopw [1, 5] (fun q i wr => ∃ j : Nat, j ≤ n ∧ q = .int .i64 (1 + (offs z j : Int)) ∧ i = .int .i64 j ∧ Hid (OwnV wr B (.slice (some ⟨g, 0, none⟩) n c) ((List.range n).map f) ∧ (∀ k, k < n → Own .i64 3 wr B (f k) (if k < j then marks (1 + (offs z k : Int)) (z k).length else z k)) ∧ Below B w wr ∧ ∀ i, (∀ k, k < n → (f k).ownBlock ≠ some i) → i < w.heap.size → wr.heap[i]? = w.heap[i]?)) (fun _ i _ => n - (intOf i).toNat)
    case atStart => exact ⟨0, Nat.zero_le _, rfl, rfl, Lib.hid ⟨HV.out, fun k hk => by rw [if_neg (Nat.not_lt_zero _)]; exact H1.out k hk, Below.refl _ _, fun _ _ _ => rfl⟩⟩
    case round =>
      obtain ⟨j, hj, rfl, rfl, HR⟩ := hrel
      by_cases hlt : j < n
      · obtain ⟨r1, r2, r3, r4⟩ := HR.out
        have c1 := r1.at j hlt
        have hoj := r2 j hlt
        rw [if_neg (Nat.lt_irrefl j)] at hoj
        have hoff := offs_le HZ.out j
        have hM := Lib.hid (laws_markIntS2 (f j) (z j) (1 + (offs z j : Int)) B wr hoj (by have := HZ.out j; omega) (by omega) (by omega))
        have v1 : (0 : Int) ≤ (j : Int) := by omega
        have v2 : (j : Int) < (n : Int) := by omega
        clear r1 r2 r3 r4 hoj
        go_wp2_with fail
        refine hM.out.mono ?_
        rintro e w2 ⟨rfl, o2, b2, hk2⟩
        have HR2 : Hid (OwnV w2 B (.slice (some ⟨g, 0, none⟩) n c) ((List.range n).map f) ∧ (∀ k, k < n → Own .i64 3 w2 B (f k) (if k < j + 1 then marks (1 + (offs z k : Int)) (z k).length else z k)) ∧ Below B w w2 ∧ ∀ i, (∀ k, k < n → (f k).ownBlock ≠ some i) → i < w.heap.size → w2.heap[i]? = w.heap[i]?) := Lib.hid (by
          obtain ⟨r1, r2, r3, r4⟩ := HR.out
          refine ⟨r1.stay (fun i hi hl => hk2 i (fun he => HAp.out.2 j hlt i he hi) hl), fun k hk => ?_, r3.trans b2, fun i hi hl => (hk2 i (hi j hlt) (Nat.lt_of_lt_of_le hl r3.size)).trans (r4 i hi hl)⟩
          by_cases hkj : k = j
          · subst hkj
            rw [if_pos (Nat.lt_succ_self _)]
            exact o2
          · have := (r2 k hk).stay (w' := w2) (fun i hi hl => hk2 i (fun he => HAp.out.1 j k hlt hk (fun h => hkj h.symm) i he hi) hl)
            by_cases hlt2 : k < j
            · rw [if_pos hlt2] at this
              rw [if_pos (by omega)]
              exact this
            · rw [if_neg hlt2] at this
              rw [if_neg (by omega)]
              exact this)
        clear o2 b2 hk2 c1 hM
        go_wp2
        go_roundw
        case rel => exact ⟨j + 1, by omega, by rw [show offs z (j + 1) = offs z j + (z j).length from rfl]; go_num, by go_num, HR2⟩
        case measure => simp [intOf]; omega
      · have hjn : j = n := by omega
        subst hjn
        go_wp2
        go_ret
        exact ⟨rfl, HR.out.1, fun k hk => by have := HR.out.2.1 k hk; rw [if_pos hk] at this; exact this, HR.out.2.2⟩

set_option maxHeartbeats 1000000 in
theorem laws_heldIntSS (a : Option Addr) (c n : Nat) (f : Nat → Value) (z : Nat → List Int) (B : Nat) (w : World) (hv : OwnV w B (.slice a n c) ((List.range n).map f)) (h1 : ∀ k, k < n → Ints .i64 w (f k) (marks (1 + (offs z k : Int)) (z k).length)) (hz : ∀ k, (z k).length ≤ 6) (hn4 : n ≤ 4) :
    Calls Tryd.prog 83 #[.slice a n c, .int .i64 1] w fun e w' => e = .returned (.int .i64 (1 + (offs z n : Int))) ∧ w = w' := by
  by_cases h0 : n = 0
  · subst h0
    clear hv h1
    go_enter Tryd.func83, Tryd.ntmps83
    go_wp2
    go_loop [1, 5] (fun q i => q = .int .i64 1 ∧ i = .int .i64 0) (fun _ _ => 0)
    case atStart => exact ⟨rfl, rfl⟩
    case round =>
      obtain ⟨rfl, rfl⟩ := hrel
      go_wp2
      go_ret
      exact ⟨rfl, rfl⟩
  · obtain ⟨g, rfl⟩ := hv.addr h0
    have HV := Lib.hid hv
    have HZ := Lib.hid hz
    have HH := Lib.hid (fun (j : Nat) (h : j < n) => laws_heldIntS (f j) (1 + (offs z j : Int)) (z j).length w (h1 j h) (by have := hz j; omega) (by omega) (by have := offs_le hz j; omega))
    clear hv h1 hz
    go_enter Tryd.func83, Tryd.ntmps83
    go_wp2
    go_loop [1, 5] (fun q i => ∃ j : Nat, j ≤ n ∧ q = .int .i64 (1 + (offs z j : Int)) ∧ i = .int .i64 j) (fun _ i => n - (intOf i).toNat)
    case atStart => exact ⟨0, Nat.zero_le _, rfl, rfl⟩
    case round =>
      obtain ⟨j, hj, rfl, rfl⟩ := hrel
      by_cases hlt : j < n
      · have c1 := HV.out.at j hlt
        have hoff := offs_le HZ.out j
        have hM := Lib.hid (HH.out j hlt)
        have hzj := HZ.out j
        have v1 : (0 : Int) ≤ (j : Int) := by omega
        have v2 : (j : Int) < (n : Int) := by omega
        have v3 : (0 : Int) ≤ 1 + (offs z j : Int) + ((z j).length : Int) := by omega
        go_wp2_with fail
        refine hM.out.mono ?_
        rintro e w2 ⟨rfl, rfl⟩
        clear c1 hM
        go_wp2
        go_round
        case rel => exact ⟨j + 1, by omega, by rw [show offs z (j + 1) = offs z j + (z j).length from rfl]; go_num, by go_num⟩
        case measure => simp [intOf]; omega
      · have hjn : j = n := by omega
        subst hjn
        go_wp2
        go_ret
        exact ⟨rfl, rfl⟩

end Go.Proofs.YtjbikenhdgbacaaDoor

namespace Go.Proofs.YtjbikenhdgbacaaDoor
open Go.RowKit

set_option maxHeartbeats 1000000 in
theorem laws_eqProfile (nm hd : ByteArray) (b3 b4 b5 b6 b7 : Bool) (a a' : Option Addr) (c c' N : Nat) (f f' : Nat → Value) (z : Nat → List Int) (B B' : Nat) (w : World) (hv : OwnV w B (.slice a N c) ((List.range N).map f)) (hu : OwnV w B' (.slice a' N c') ((List.range N).map f'))
    (h1 : ∀ k, k < N → Ints .i64 w (f k) (z k)) (h2 : ∀ k, k < N → Ints .i64 w (f' k) (z k)) (hz : ∀ k, (z k).length ≤ 1048576) (hn4 : N ≤ 4) : Calls Tryd.prog 36 #[.agg #[.string nm, .string hd, .slice a N c, .bool b3, .bool b4, .bool b5, .bool b6, .bool b7], .agg #[.string nm, .string hd, .slice a' N c', .bool b3, .bool b4, .bool b5, .bool b6, .bool b7]] w fun e w' => e = .returned (.bool true) ∧ Below w.heap.size w w' := by
  have B0 := Lib.hid (below_two w (.cells #[.string nm, .string hd, .slice a N c, .bool b3, .bool b4, .bool b5, .bool b6, .bool b7] 55) (.cells #[.string nm, .string hd, .slice a' N c', .bool b3, .bool b4, .bool b5, .bool b6, .bool b7] 55))
  have HQ := Lib.hid (laws_eqIntSS a a' c c' N f f' z B B' ((w.alloc (.cells #[.string nm, .string hd, .slice a N c, .bool b3, .bool b4, .bool b5, .bool b6, .bool b7] 55)).alloc (.cells #[.string nm, .string hd, .slice a' N c', .bool b3, .bool b4, .bool b5, .bool b6, .bool b7] 55)) (hv.all B0.out) (hu.all B0.out) (fun k hk => (h1 k hk).keep B0.out) (fun k hk => (h2 k hk).keep B0.out) hz hn4)
  have A0 : Hid (((w.alloc (.cells #[.string nm, .string hd, .slice a N c, .bool b3, .bool b4, .bool b5, .bool b6, .bool b7] 55)).alloc (.cells #[.string nm, .string hd, .slice a' N c', .bool b3, .bool b4, .bool b5, .bool b6, .bool b7] 55)).heap[w.heap.size]? = some (.cells #[.string nm, .string hd, .slice a N c, .bool b3, .bool b4, .bool b5, .bool b6, .bool b7] 55)) := Lib.hid (heap_alloc2_old _ _ _)
  have A1 : Hid (((w.alloc (.cells #[.string nm, .string hd, .slice a N c, .bool b3, .bool b4, .bool b5, .bool b6, .bool b7] 55)).alloc (.cells #[.string nm, .string hd, .slice a' N c', .bool b3, .bool b4, .bool b5, .bool b6, .bool b7] 55)).heap[w.heap.size + 1]? = some (.cells #[.string nm, .string hd, .slice a' N c', .bool b3, .bool b4, .bool b5, .bool b6, .bool b7] 55)) := Lib.hid (heap_alloc2_new _ _ _)
  clear hv hu h1 h2 hz
  have s1 : (nm.toList != nm.toList) = false := by simp
  have s2 : (hd.toList != hd.toList) = false := by simp
  go_enter Tryd.func36, Tryd.ntmps36
  go_wp2_with fail
  refine HQ.out.mono ?_
  generalize (w.alloc (.cells #[.string nm, .string hd, .slice a N c, .bool b3, .bool b4, .bool b5, .bool b6, .bool b7] 55)).alloc (.cells #[.string nm, .string hd, .slice a' N c', .bool b3, .bool b4, .bool b5, .bool b6, .bool b7] 55) = W0 at *
  rintro e w1 ⟨rfl, q, rfl⟩
  have ⟨x0, x1, x2, x3, x4, x5, x6, x7⟩ := row8_cells A0.out
  have ⟨y0, y1, y2, y3, y4, y5, y6, y7⟩ := row8_cells A1.out
  have B9 : Hid (Below w.heap.size w (W0.drewN q)) := Lib.hid (below_drewN B0.out q)
  have f3 : (b3 != b3) = false := by simp
  have f4 : (b4 != b4) = false := by simp
  have f5 : (b5 != b5) = false := by simp
  have f6 : (b6 != b6) = false := by simp
  have f7 : (b7 != b7) = false := by simp
  go_wp2
  go_ret
  exact ⟨rfl, B9.out⟩

set_option maxHeartbeats 1000000 in
theorem laws_markProfile (nm hd : ByteArray) (b3 b4 b5 b6 b7 : Bool) (a : Option Addr) (c N : Nat) (f : Nat → Value) (z : Nat → List Int) (B : Nat) (w : World) (hv : OwnV w B (.slice a N c) ((List.range N).map f)) (h1 : ∀ k, k < N → Own .i64 3 w B (f k) (z k)) (hap : Apart N (.slice a N c) f) (hz : ∀ k, (z k).length ≤ 6) (hn4 : N ≤ 4) (hBw : B ≤ w.heap.size) :
    Calls Tryd.prog 37 #[.agg #[.string nm, .string hd, .slice a N c, .bool b3, .bool b4, .bool b5, .bool b6, .bool b7], .int .i64 1] w fun e w' => e = .returned (.int .i64 (1 + (offs z N : Int))) ∧ OwnV w' B (.slice a N c) ((List.range N).map f) ∧ (∀ k, k < N → Own .i64 3 w' B (f k) (marks (1 + (offs z k : Int)) (z k).length)) ∧ Below B w w' ∧ ∀ i, (∀ k, k < N → (f k).ownBlock ≠ some i) → i < w.heap.size → w'.heap[i]? = w.heap[i]? := by
  have B0 := Lib.hid (below_one w (.cells #[.string nm, .string hd, .slice a N c, .bool b3, .bool b4, .bool b5, .bool b6, .bool b7] 55))
  have HQ := Lib.hid (laws_markIntSS a c N f z B (w.alloc (.cells #[.string nm, .string hd, .slice a N c, .bool b3, .bool b4, .bool b5, .bool b6, .bool b7] 55)) (hv.all B0.out) (fun k hk => (h1 k hk).all B0.out) hap hz hn4 (by simp; omega))
  clear hv h1 hap hz
  go_enter Tryd.func37, Tryd.ntmps37
  go_wp2_with fail
  refine HQ.out.mono ?_
  generalize w.alloc (.cells #[.string nm, .string hd, .slice a N c, .bool b3, .bool b4, .bool b5, .bool b6, .bool b7] 55) = W0 at *
  rintro e w1 ⟨rfl, o1, o2, b1, k1⟩
  have HD : Hid (OwnV w1 B (.slice a N c) ((List.range N).map f) ∧ (∀ k, k < N → Own .i64 3 w1 B (f k) (marks (1 + (offs z k : Int)) (z k).length)) ∧ Below B w w1 ∧ ∀ i, (∀ k, k < N → (f k).ownBlock ≠ some i) → i < w.heap.size → w1.heap[i]? = w.heap[i]?) := Lib.hid ⟨o1, o2, (B0.out.mono hBw).trans b1, fun i hi hl => (k1 i hi (Nat.lt_of_lt_of_le hl B0.out.size)).trans (B0.out.block i hl)⟩
  clear o1 o2 b1 k1
  go_wp2
  go_ret
  exact ⟨rfl, HD.out⟩

set_option maxHeartbeats 1000000 in
theorem laws_heldProfile (nm hd : ByteArray) (b3 b4 b5 b6 b7 : Bool) (a : Option Addr) (c N : Nat) (f : Nat → Value) (z : Nat → List Int) (B : Nat) (w : World) (hv : OwnV w B (.slice a N c) ((List.range N).map f)) (h1 : ∀ k, k < N → Own .i64 3 w B (f k) (marks (1 + (offs z k : Int)) (z k).length)) (hz : ∀ k, (z k).length ≤ 6) (hn4 : N ≤ 4) :
    Calls Tryd.prog 38 #[.agg #[.string nm, .string hd, .slice a N c, .bool b3, .bool b4, .bool b5, .bool b6, .bool b7], .int .i64 1] w fun e w' => e = .returned (.int .i64 (1 + (offs z N : Int))) ∧ Below w.heap.size w w' := by
  have B0 := Lib.hid (below_one w (.cells #[.string nm, .string hd, .slice a N c, .bool b3, .bool b4, .bool b5, .bool b6, .bool b7] 55))
  have HQ := Lib.hid (laws_heldIntSS a c N f z B (w.alloc (.cells #[.string nm, .string hd, .slice a N c, .bool b3, .bool b4, .bool b5, .bool b6, .bool b7] 55)) (hv.all B0.out) (fun k hk => ((h1 k hk).all B0.out).ints) hz hn4)
  clear hv h1 hz
  have v3 : (0 : Int) ≤ 1 + (offs z N : Int) := by omega
  go_enter Tryd.func38, Tryd.ntmps38
  go_wp2_with fail
  refine HQ.out.mono ?_
  rintro e w1 ⟨rfl, rfl⟩
  go_wp2
  go_ret
  exact ⟨rfl, B0.out⟩

/-- ProfileOf: what both sides answer. -/
def poC (n : Int) : Int := if proB n = true then 0 else 5
def poN (n : Int) : Nat := if proB n = true then 4 else 0
def poNm (n : Int) : ByteArray := if proB n = true then prName n else ⟨#[]⟩
def poHd (n : Int) : ByteArray := if proB n = true then prHead n else ⟨#[]⟩
def po3 (n : Int) : Bool := proB n && prRight n
def po4 (n : Int) : Bool := proB n && prShifts n
def po5 (n : Int) : Bool := proB n && prSingle n
def po6 (n : Int) : Bool := proB n && prReset n
def po7 (n : Int) : Bool := proB n && prClear n
theorem poN_le (n : Int) : poN n ≤ 4 := by
  unfold poN
  split <;> decide
theorem po_yes {n : Int} (h : proB n = true) : poC n = 0 ∧ poN n = 4 ∧ poNm n = prName n ∧ poHd n = prHead n ∧ po3 n = prRight n ∧ po4 n = prShifts n ∧ po5 n = prSingle n ∧ po6 n = prReset n ∧ po7 n = prClear n := by simp [poC, poN, poNm, poHd, po3, po4, po5, po6, po7, h]
theorem po_no {n : Int} (h : proB n = false) : poC n = 5 ∧ poN n = 0 ∧ poNm n = ⟨#[]⟩ ∧ poHd n = ⟨#[]⟩ ∧ po3 n = false ∧ po4 n = false ∧ po5 n = false ∧ po6 n = false ∧ po7 n = false := by simp [poC, poN, poNm, poHd, po3, po4, po5, po6, po7, h]
theorem prSets_six (n a : Int) : (prSets n a).length ≤ 6 := by
  unfold prSets prSet0 prSet1 prSet2
  repeat' split
  all_goals decide

theorem spec_po (n : Int) (w : World) : Calls Tryd.prog 34 #[.int .i64 n] w fun e w' => ∃ a c f, e = .returned (.tuple #[.agg #[.string (poNm n), .string (poHd n), .slice a (poN n) c, .bool (po3 n), .bool (po4 n), .bool (po5 n), .bool (po6 n), .bool (po7 n)], .int .i64 (poC n)]) ∧ OwnV w' w.heap.size (.slice a (poN n) c) ((List.range (poN n)).map f) ∧ (∀ k : Nat, k < poN n → Ints .i64 w' (f k) (prSets n (k : Int))) ∧ Below w.heap.size w w' := by
  refine (spec_ProfileOf n w).mono ?_
  rintro e w' (⟨hn, rfl, b⟩ | ⟨hn, v, us, rfl, o1, hl, o2, b⟩)
  · obtain ⟨e0, e1, e2, e3, e4, e5, e6, e7, e8⟩ := po_no hn
    refine ⟨none, 0, fun _ => undef, ?_, ?_, fun k hk => ?_, b⟩
    · rw [e0, e1, e2, e3, e4, e5, e6, e7, e8]; rfl
    · rw [e1]; exact OwnV.nil _ _
    · rw [e1] at hk; exact absurd hk (Nat.not_lt_zero _)
  · obtain ⟨e0, e1, e2, e3, e4, e5, e6, e7, e8⟩ := po_yes hn
    obtain ⟨a, c, hv⟩ := o1.form
    rw [hl] at hv
    subst hv
    have hus : us = (List.range 4).map (fun k => us.getD k undef) := by
      apply List.ext_getElem
      · simp [hl]
      · intro i h1 h2
        simp [List.getD, h1]
    refine ⟨a, c, fun k => us.getD k undef, ?_, ?_, fun k hk => ?_, b⟩
    · rw [e0, e1, e2, e3, e4, e5, e6, e7, e8]; rfl
    · rw [e1, ← hus]; exact o1
    · rw [e1] at hk
      have h4 : k < us.length := by omega
      have := o2 k h4
      simpa [List.getD, h4] using this

theorem impl_po (n : Int) (w : World) (ht : TabSets w) : Calls Tryd.prog 35 #[.int .i64 n] w fun e w' => ∃ a c f, e = .returned (.tuple #[.agg #[.string (poNm n), .string (poHd n), .slice a (poN n) c, .bool (po3 n), .bool (po4 n), .bool (po5 n), .bool (po6 n), .bool (po7 n)], .int .i64 (poC n)]) ∧ OwnV w' w.heap.size (.slice a (poN n) c) ((List.range (poN n)).map f) ∧ (∀ k : Nat, k < poN n → Own .i64 3 w' w.heap.size (f k) (prSets n (k : Int))) ∧ Apart (poN n) (.slice a (poN n) c) f ∧ Below w.heap.size w w' := by
  refine (impl_ProfileOf n w ht).mono ?_
  rintro e w' (⟨hn, rfl, b⟩ | ⟨hn, a, c, f, rfl, o1, o2, d1, d2, b⟩)
  · obtain ⟨e0, e1, e2, e3, e4, e5, e6, e7, e8⟩ := po_no hn
    refine ⟨none, 0, fun _ => undef, ?_, ?_, fun k hk => ?_, ⟨fun j k hj => ?_, fun k hk => ?_⟩, b⟩
    · rw [e0, e1, e2, e3, e4, e5, e6, e7, e8]; rfl
    · rw [e1]; exact OwnV.nil _ _
    · rw [e1] at hk; exact absurd hk (Nat.not_lt_zero _)
    · rw [e1] at hj; exact absurd hj (Nat.not_lt_zero _)
    · rw [e1] at hk; exact absurd hk (Nat.not_lt_zero _)
  · obtain ⟨e0, e1, e2, e3, e4, e5, e6, e7, e8⟩ := po_yes hn
    refine ⟨a, c, f, ?_, ?_, ?_, ?_, b⟩
    · rw [e0, e1, e2, e3, e4, e5, e6, e7, e8]; rfl
    · rw [e1]; exact o1
    · rw [e1]; exact o2
    · rw [e1]; exact ⟨d1, d2⟩

end Go.Proofs.YtjbikenhdgbacaaDoor

namespace Go.Proofs.YtjbikenhdgbacaaDoor
open Go.ChangeShapes Go.WideShapes Go.ChangeAt Go.RowKit

theorem gReg : Tryd.prog.globalNamed "loop.example/g00748/impl.registry" = some 0 := by kernel_rfl
theorem tReg : (Tryd.prog.globals[0]?).map (·.type) = some 98 := by kernel_rfl
def spD {H : Type} (s : Sp) : DataW H := .agg [.lit (.int .i64 s.1), .lit (.int .i64 s.2.1), .lit (.int .i64 s.2.2)]
def setD {H : Type} (k : Nat) : DataW H := .agg [.lit (.string (setName k).data.toList), .lit (.int .i64 (setKind k)), .lit (.int .i64 (setFinal k)), .slice ((setSpans k).map spD) []]
def regD {H : Type} : List (DataW H) := .agg [.lit (.string []), .lit (.int .i64 0), .lit (.int .i64 0), .nil] :: [setD 1, setD 2, setD 3, setD 4, setD 5, setD 6, setD 7, setD 8]
theorem laid_reg {H : Type} : (Rows.laid_loop_example_g00748_impl_registry : DataW H) = .agg regD := by kernel_rfl
theorem regD_at {H : Type} (k : Nat) (h1 : 1 ≤ k) (h8 : k ≤ 8) : (regD (H := H))[k]? = some (setD k) := by
  have : k = 1 ∨ k = 2 ∨ k = 3 ∨ k = 4 ∨ k = 5 ∨ k = 6 ∨ k = 7 ∨ k = 8 := by omega
  rcases this with rfl | rfl | rfl | rfl | rfl | rfl | rfl | rfl <;> rfl

theorem one_of_take {cs : List Value} {i : Nat} {c : Value} (h : (cs.drop i).take 1 = [c]) : cs[i]? = some c := by
  have := congrArg (fun l => l[0]?) h
  simpa [List.getElem?_take, List.getElem?_drop] using this

set_option maxRecDepth 100000 in
/-- A slice of spans, read. -/
theorem spans_of {H : Type} {enc : TypeId × Value → H} {W : World} {held : Bool} {fuel : Nat} {c : Value} {sp : List Sp} {p : List MemPlace} (hne : sp ≠ [])
    (h : DataW.trod enc Tryd.prog W 0 (fun _ => true) held fuel 93 [c] = some (.slice (sp.map spD) [], p)) : SpAt W c sp := by
  rcases Deep.open_slice Tryd.underlying93 h with ⟨_, hx⟩ | ⟨a, len, cap, m, n, D, Pl, hcs, _, hl, _, hm, hx, hel⟩
  · simp at hx
  · simp only [if_true] at hm
    have e1 := congrArg Prod.fst hx
    simp only [DataW.slice.injEq] at e1
    obtain ⟨e2, e3⟩ := e1
    have hlen : len = sp.length := by simpa using (congrArg List.length e2).symm
    subst hlen
    have c3 : Tryd.prog.cellsOf 130 = 3 := by kernel_rfl
    rw [c3] at hel
    have key : ∀ i (hi : i < sp.length), W.cell? (a.add (i * 3)) = some (.int .i64 (sp[i]).1) ∧ W.cell? ((a.add (i * 3)).add 1) = some (.int .i64 (sp[i]).2.1) ∧ W.cell? ((a.add (i * 3)).add 2) = some (.int .i64 (sp[i]).2.2) := by
      intro i hi
      obtain ⟨cs', h1, h2⟩ := hel i (by omega)
      obtain ⟨_, hlen3, hc⟩ := World.cells?_some h1
      have hD : D i = spD (sp[i]) := by
        have := congrArg (fun l => l[i]?) e2
        simp only [List.getElem?_map, List.getElem?_eq_getElem hi, Option.map_some, List.getElem?_range hi, Option.some.injEq] at this
        exact this.symm
      obtain ⟨y0, y1, y2, q, hy, _, t0, t1, t2⟩ := Deep.trod_struct3 Tryd.underlying130 h2
      have c1 : Tryd.prog.cellsOf 3 = 1 := by kernel_rfl
      obtain ⟨n0, f0, rfl, _⟩ := DataW.trod_int Tryd.underlying3 t0
      obtain ⟨n1, f1, rfl, _⟩ := DataW.trod_int Tryd.underlying3 t1
      obtain ⟨n2, f2, rfl, _⟩ := DataW.trod_int Tryd.underlying3 t2
      have hy1 := congrArg Prod.fst hy
      rw [hD] at hy1
      simp only [spD, DataW.agg.injEq, List.cons.injEq, DataW.lit.injEq, Lit.int.injEq, true_and, and_true] at hy1
      obtain ⟨g0, g1, g2⟩ := hy1
      have k0 := one_of_take (c := .int .i64 n0) (i := 0) (by rw [← c1]; exact f0)
      have k1 := one_of_take (c := .int .i64 n1) (i := 1) (by rw [← c1]; exact f1)
      have k2 := one_of_take (c := .int .i64 n2) (i := 2) (by rw [← c1]; exact f2)
      refine ⟨?_, ?_, ?_⟩
      · have := hc 0 (by omega)
        rw [k0, ← g0] at this
        simpa [Addr.add] using this
      · rw [hc 1 (by omega), k1, ← g1]
      · rw [hc 2 (by omega), k2, ← g2]
    simp only [List.cons.injEq, and_true] at hcs
    subst hcs
    have hpos : 0 < sp.length := List.length_pos_iff.2 hne
    obtain ⟨b, off, spot⟩ := a
    have hspot : spot = none := by
      have := World.cell?_spot (key 0 hpos).1
      simpa [Addr.add] using this
    subst hspot
    refine .inr ⟨b, off, cap, rfl, fun i hi => ?_⟩
    have ⟨h1, h2, h3⟩ := key i hi
    rw [add_off, add_off] at h2 h3
    rw [add_off] at h1
    exact ⟨h1, h2, h3⟩

set_option maxRecDepth 100000 in
theorem sets_of_laid {W : World} (h : laidMetH Tryd.prog [("loop.example/g00748/impl.registry", Rows.laid_loop_example_g00748_impl_registry)] W) : TabSets W := by
  rw [MakeChecks.laidMetH_plain _ _ _ (by kernel_rfl)] at h
  obtain ⟨ps, ⟨g0, t0, cs0, f0, p0, q0, hg0, ht0, hv0, hd0, _, _⟩, _, _⟩ := h
  obtain rfl := Option.some.inj (gReg.symm.trans hg0)
  obtain rfl := Option.some.inj (tReg.symm.trans ht0)
  rw [laid_reg] at hd0
  obtain ⟨xs, m, rfl, hx, _, hlen, hel⟩ := DataW.trod_array Tryd.underlying98 hd0
  have hx1 : regD = xs.map (·.1) := by simpa using congrArg Prod.fst hx
  have c4 : Tryd.prog.cellsOf 95 = 4 := by kernel_rfl
  have c1 : Tryd.prog.cellsOf 3 = 1 := by kernel_rfl
  have c1s : Tryd.prog.cellsOf 9 = 1 := by kernel_rfl
  have c1l : Tryd.prog.cellsOf 93 = 1 := by kernel_rfl
  rw [c4] at hel
  intro k h1 h8
  have hk : k < xs.length := by omega
  have e1 := hel k (by omega)
  rw [List.getElem?_eq_getElem hk] at e1
  have e2 : (xs[k]).1 = setD k := by
    have e3 := regD_at (H := Unit) k h1 h8
    rw [hx1, List.getElem?_map, List.getElem?_eq_getElem hk] at e3
    simpa using e3
  obtain ⟨y0, y1, y2, y3, n, hy, _, t0, t1, t2, t3⟩ := Joins.trod_struct4 Tryd.underlying95 e1
  obtain ⟨s0, f0, rfl, _⟩ := DataW.trod_string Tryd.underlying9 t0
  obtain ⟨n1, f1, rfl, _⟩ := DataW.trod_int Tryd.underlying3 t1
  obtain ⟨n2, f2, rfl, _⟩ := DataW.trod_int Tryd.underlying3 t2
  have hy1 := congrArg Prod.fst hy
  rw [e2] at hy1
  simp only [setD, DataW.agg.injEq, List.cons.injEq, DataW.lit.injEq, Lit.int.injEq, Lit.string.injEq, true_and, and_true] at hy1
  obtain ⟨g0, g1, g2, g3⟩ := hy1
  have hs0 : setName (k : Int) = s0 := ByteArray.ext (Array.toList_inj.1 g0)
  have cell : ∀ j, W.cell? ⟨0, j, none⟩ = cs0[j]? := fun j => by simpa using World.var?_cell gReg hv0 j
  have el : ∀ (j : Nat) (c : Value), j < 4 → ((((cs0.toList.drop (k * 4)).take 4).drop j).take 1) = [c] → W.cell? ⟨0, k * 4 + j, none⟩ = some c := by
    intro j c hj h
    have h2 := one_of_take h
    rw [List.getElem?_take_of_lt hj, List.getElem?_drop, Array.getElem?_toList] at h2
    rw [cell, h2]
  have l3 : ∃ c, ((((cs0.toList.drop (k * 4)).take 4).drop 3).take 1) = [c] := by
    rw [c1l] at t3
    rcases Deep.open_slice Tryd.underlying93 t3 with ⟨h, _⟩ | ⟨a, len, cap, _, _, _, _, h, _⟩
    · exact ⟨_, h⟩
    · exact ⟨_, h⟩
  obtain ⟨c, hc⟩ := l3
  refine ⟨?_, ?_, ?_, c, el 3 c (by decide) hc, ?_⟩
  · rw [hs0]
    exact el 0 _ (by decide) (by rw [← c1s]; exact f0)
  · rw [g1]
    exact el 1 _ (by decide) (by rw [← c1]; exact f1)
  · rw [g2]
    exact el 2 _ (by decide) (by rw [← c1]; exact f2)
  · have t4 : DataW.trod (fun _ : TypeId × Value => ()) Tryd.prog W 0 (fun _ => true) false n 93 [c] = some y3 := by
      rw [← hc, ← c1l]; exact t3
    obtain ⟨y3a, y3b⟩ := y3
    simp only at g3
    rw [← g3] at t4
    exact spans_of (by have := (set_few (k : Int)).1; intro h; rw [h] at this; simp at this) t4

theorem sets_readable : ∀ n ∈ ["loop.example/g00748/impl.registry"], ∀ g t, Tryd.prog.globalNamed n = some g → (Tryd.prog.globals[g]?).map (·.type) = some t → Tryd.prog.readableRec t = true ∧ t < Tryd.prog.types.size := by
  intro n hn g t hg ht
  obtain rfl : n = _ := List.mem_singleton.1 hn
  obtain rfl := Option.some.inj (gReg.symm.trans hg)
  obtain rfl := Option.some.inj (tReg.symm.trans ht)
  exact ⟨by kernel_rfl, of_decide_eq_true (by kernel_rfl)⟩

end Go.Proofs.YtjbikenhdgbacaaDoor

namespace Go.Proofs.YtjbikenhdgbacaaDoor
open Go.ChangeShapes Go.WideShapes Go.ChangeAt Go.RowKit

set_option maxRecDepth 100000 in
theorem tabM_of_laid {W : World} (h : laidMetH Tryd.prog [("loop.example/g00748/impl.registry", Rows.laid_loop_example_g00748_impl_registry)] W) : TabM W := by
  refine ⟨sets_of_laid h, ?_⟩
  rw [MakeChecks.laidMetH_plain _ _ _ (by kernel_rfl)] at h
  obtain ⟨ps, ⟨g0, t0, cs0, f0, p0, q0, hg0, ht0, hv0, hd0, _, _⟩, _, _⟩ := h
  obtain rfl := Option.some.inj (gReg.symm.trans hg0)
  obtain rfl := Option.some.inj (tReg.symm.trans ht0)
  rw [laid_reg] at hd0
  obtain ⟨xs, m, rfl, hx, _, hlen, hel⟩ := DataW.trod_array Tryd.underlying98 hd0
  have hx1 : regD = xs.map (·.1) := by simpa using congrArg Prod.fst hx
  have c4 : Tryd.prog.cellsOf 95 = 4 := by kernel_rfl
  have c1 : Tryd.prog.cellsOf 3 = 1 := by kernel_rfl
  rw [c4] at hel
  have hk : 0 < xs.length := by omega
  have e1 := hel 0 (by omega)
  rw [List.getElem?_eq_getElem hk] at e1
  have e2 : (xs[0]).1 = .agg [.lit (.string []), .lit (.int .i64 0), .lit (.int .i64 0), .nil] := by
    have e3 : (regD (H := Unit))[0]? = some (.agg [.lit (.string []), .lit (.int .i64 0), .lit (.int .i64 0), .nil]) := rfl
    rw [hx1, List.getElem?_map, List.getElem?_eq_getElem hk] at e3
    simpa using e3
  obtain ⟨y0, y1, y2, y3, n, hy, _, t0, t1, t2, t3⟩ := Joins.trod_struct4 Tryd.underlying95 e1
  obtain ⟨n1, f1, rfl, _⟩ := DataW.trod_int Tryd.underlying3 t1
  have hy1 := congrArg Prod.fst hy
  rw [e2] at hy1
  simp only [DataW.agg.injEq, List.cons.injEq, DataW.lit.injEq, Lit.int.injEq, true_and, and_true] at hy1
  obtain ⟨_, g1, _⟩ := hy1
  have cell : ∀ j, W.cell? ⟨0, j, none⟩ = cs0[j]? := fun j => by simpa using World.var?_cell gReg hv0 j
  have h2 := one_of_take (by rw [← c1]; exact f1)
  rw [List.getElem?_take_of_lt (by decide), List.getElem?_drop, Array.getElem?_toList] at h2
  rw [cell]
  rw [← g1] at h2
  simpa using h2

end Go.Proofs.YtjbikenhdgbacaaDoor

namespace Go.Proofs.YtjbikenhdgbacaaDoor.fnExactProfileOf
open Go.RowKit

theorem blk_keep {w w' : World} {g : Nat} {o : Obj} (h : w.heap[g]? = some o) (b : Below w.heap.size w w') : w'.heap[g]? = some o := (b.block g (Array.getElem?_eq_some_iff.1 h).1).trans h

set_option maxHeartbeats 4000000 in
theorem walk (n : Int) (w : World) (_hn : (Lit.int .i64 n).wf = true) (ht : TabM w) : Calls Tryd.prog 6 #[.int .i64 n] w fun e w' => e = .returned (.bool true) ∧ Below w.heap.size w w' := by
  have HT := Lib.hid ht
  have HS := Lib.hid (fun w => spec_po n w)
  have HI := Lib.hid (fun w ht => impl_po n w ht)
  have hz6 : ∀ k : Nat, (prSets n (k : Int)).length ≤ 6 := fun k => prSets_six n k
  have HZ6 := Lib.hid hz6
  have hN4 := poN_le n
  clear ht hz6
  generalize poN n = N at *
  generalize poC n = pc at *
  generalize poNm n = nm at *
  generalize poHd n = hd at *
  generalize po3 n = b3 at *
  generalize po4 n = b4 at *
  generalize po5 n = b5 at *
  generalize po6 n = b6 at *
  generalize po7 n = b7 at *
  obtain ⟨z, hzz⟩ : ∃ z : Nat → List Int, z = fun k : Nat => prSets n (k : Int) := ⟨_, rfl⟩
  have HS' : Hid (∀ w : World, Calls Tryd.prog 34 #[.int .i64 n] w fun e w' => ∃ a c f, e = .returned (.tuple #[.agg #[.string nm, .string hd, .slice a N c, .bool b3, .bool b4, .bool b5, .bool b6, .bool b7], .int .i64 pc]) ∧ OwnV w' w.heap.size (.slice a N c) ((List.range N).map f) ∧ (∀ k : Nat, k < N → Ints .i64 w' (f k) (z k)) ∧ Below w.heap.size w w') := Lib.hid (fun w => by rw [hzz]; exact HS.out w)
  have HI' : Hid (∀ w : World, TabSets w → Calls Tryd.prog 35 #[.int .i64 n] w fun e w' => ∃ a c f, e = .returned (.tuple #[.agg #[.string nm, .string hd, .slice a N c, .bool b3, .bool b4, .bool b5, .bool b6, .bool b7], .int .i64 pc]) ∧ OwnV w' w.heap.size (.slice a N c) ((List.range N).map f) ∧ (∀ k : Nat, k < N → Own .i64 3 w' w.heap.size (f k) (z k)) ∧ Apart N (.slice a N c) f ∧ Below w.heap.size w w') := Lib.hid (fun w ht => by rw [hzz]; exact HI.out w ht)
  have HZ : Hid (∀ k, (z k).length ≤ 6) := Lib.hid (fun k => by rw [hzz]; exact HZ6.out k)
  have HZ2 : Hid (∀ k, (z k).length ≤ 1048576) := Lib.hid (fun k => by have := HZ.out k; omega)
  clear HS HI HZ6 hzz
  go_enter Tryd.func6, Tryd.ntmps6
  go_wp2_with fail
  refine (HS'.out _).mono ?_
  rintro e w1 ⟨a, c, f, rfl, o1, i1, b1⟩
  have P1 : Hid ((w1.alloc (.cells #[.string nm, .string hd, .slice a N c, .bool b3, .bool b4, .bool b5, .bool b6, .bool b7] 55)).heap[w1.heap.size]? = some (.cells #[.string nm, .string hd, .slice a N c, .bool b3, .bool b4, .bool b5, .bool b6, .bool b7] 55)) := Lib.hid (heap_alloc_new _ _)
  have O1 := Lib.hid (o1.all (below_one w1 (.cells #[.string nm, .string hd, .slice a N c, .bool b3, .bool b4, .bool b5, .bool b6, .bool b7] 55)))
  have I1 : Hid (∀ k : Nat, k < N → Ints .i64 (w1.alloc (.cells #[.string nm, .string hd, .slice a N c, .bool b3, .bool b4, .bool b5, .bool b6, .bool b7] 55)) (f k) (z k)) := Lib.hid (fun k hk => (i1 k hk).keep (below_one w1 (.cells #[.string nm, .string hd, .slice a N c, .bool b3, .bool b4, .bool b5, .bool b6, .bool b7] 55)))
  have B1 : Hid (Below w.heap.size w (w1.alloc (.cells #[.string nm, .string hd, .slice a N c, .bool b3, .bool b4, .bool b5, .bool b6, .bool b7] 55))) := Lib.hid (b1.alloc b1.size _)
  clear o1 i1 b1
  go_wp2_with fail
  refine (HI'.out _ (HT.out.keep B1.out).1).mono ?_
  generalize w1.alloc (.cells #[.string nm, .string hd, .slice a N c, .bool b3, .bool b4, .bool b5, .bool b6, .bool b7] 55) = W1 at *
  rintro e w2 ⟨a2, c2, f2, rfl, o2, i2, d2, b2⟩
  have P2 : Hid ((w2.alloc (.cells #[.string nm, .string hd, .slice a2 N c2, .bool b3, .bool b4, .bool b5, .bool b6, .bool b7] 55)).heap[w2.heap.size]? = some (.cells #[.string nm, .string hd, .slice a2 N c2, .bool b3, .bool b4, .bool b5, .bool b6, .bool b7] 55)) := Lib.hid (heap_alloc_new _ _)
  have b2' : Below W1.heap.size W1 (w2.alloc (.cells #[.string nm, .string hd, .slice a2 N c2, .bool b3, .bool b4, .bool b5, .bool b6, .bool b7] 55)) := b2.alloc b2.size _
  have P1b := Lib.hid (blk_keep P1.out b2')
  have O1b := Lib.hid (O1.out.all b2')
  have I1b : Hid (∀ k : Nat, k < N → Ints .i64 (w2.alloc (.cells #[.string nm, .string hd, .slice a2 N c2, .bool b3, .bool b4, .bool b5, .bool b6, .bool b7] 55)) (f k) (z k)) := Lib.hid (fun k hk => (I1.out k hk).keep b2')
  have O2 := Lib.hid (o2.all (below_one w2 (.cells #[.string nm, .string hd, .slice a2 N c2, .bool b3, .bool b4, .bool b5, .bool b6, .bool b7] 55)))
  have I2 : Hid (∀ k : Nat, k < N → Own .i64 3 (w2.alloc (.cells #[.string nm, .string hd, .slice a2 N c2, .bool b3, .bool b4, .bool b5, .bool b6, .bool b7] 55)) W1.heap.size (f2 k) (z k)) := Lib.hid (fun k hk => (i2 k hk).all (below_one w2 (.cells #[.string nm, .string hd, .slice a2 N c2, .bool b3, .bool b4, .bool b5, .bool b6, .bool b7] 55)))
  have D2 := Lib.hid d2
  have L2 : Hid (∀ k : Nat, k < N → (f2 k).ownBlock ≠ some w2.heap.size) := Lib.hid (fun k hk he => Nat.lt_irrefl _ (World.ownsRow.lt (i2 k hk) _ he).2)
  have BW : Hid (Below W1.heap.size W1 (w2.alloc (.cells #[.string nm, .string hd, .slice a2 N c2, .bool b3, .bool b4, .bool b5, .bool b6, .bool b7] 55))) := Lib.hid b2'
  have hP1 : w1.heap.size < W1.heap.size := (Array.getElem?_eq_some_iff.1 P1.out).1
  have hW2 : W1.heap.size ≤ w2.heap.size := b2.size
  clear o2 i2 d2 b2 b2' 
  have ⟨x0, x1, x2, x3, x4, x5, x6, x7⟩ := row8_cells P1b.out
  have ⟨y0, y1, y2, y3, y4, y5, y6, y7⟩ := row8_cells P2.out
  have HE := Lib.hid (laws_eqProfile nm hd b3 b4 b5 b6 b7 a2 a c2 c N f2 f z _ _ _ O2.out O1b.out (fun k hk => (I2.out k hk).ints) I1b.out HZ2.out hN4)
  go_wp2_with fail
  refine HE.out.mono ?_
  clear x0 x1 x2 x3 x4 x5 x6 x7 y0 y1 y2 y3 y4 y5 y6 y7
  generalize w2.alloc (.cells #[.string nm, .string hd, .slice a2 N c2, .bool b3, .bool b4, .bool b5, .bool b6, .bool b7] 55) = W2 at *
  rintro e w3 ⟨rfl, b3'⟩
  have P1c := Lib.hid (blk_keep P1b.out b3')
  have P2c := Lib.hid (blk_keep P2.out b3')
  have O2c := Lib.hid (O2.out.all b3')
  have I2c : Hid (∀ k : Nat, k < N → Own .i64 3 w3 W1.heap.size (f2 k) (z k)) := Lib.hid (fun k hk => (I2.out k hk).all b3')
  have BW3 : Hid (Below W1.heap.size W1 w3) := Lib.hid (BW.out.trans (b3'.mono BW.out.size))
  have hs3 : W1.heap.size ≤ w3.heap.size := BW3.out.size
  have hl2 : w2.heap.size < w3.heap.size := (Array.getElem?_eq_some_iff.1 P2c.out).1
  clear b3' P1b P2 O1b I1b O2 I2 HE BW
  have ⟨y0, y1, y2, y3, y4, y5, y6, y7⟩ := row8_cells P2c.out
  have HM := Lib.hid (laws_markProfile nm hd b3 b4 b5 b6 b7 a2 c2 N f2 z W1.heap.size w3 O2c.out I2c.out D2.out HZ.out hN4 hs3)
  go_wp2_with fail
  refine HM.out.mono ?_
  clear y0 y1 y2 y3 y4 y5 y6 y7
  rintro e w4 ⟨rfl, o4, i4, b4', k4⟩
  have P1d : Hid (w4.heap[w1.heap.size]? = some (.cells #[.string nm, .string hd, .slice a N c, .bool b3, .bool b4, .bool b5, .bool b6, .bool b7] 55)) := Lib.hid ((b4'.block _ hP1).trans P1c.out)
  have P2d : Hid (w4.heap[w2.heap.size]? = some (.cells #[.string nm, .string hd, .slice a2 N c2, .bool b3, .bool b4, .bool b5, .bool b6, .bool b7] 55)) := Lib.hid ((k4 _ L2.out hl2).trans P2c.out)
  have BW4 : Hid (Below W1.heap.size W1 w4) := Lib.hid (BW3.out.trans b4')
  have O4 := Lib.hid o4
  have I4 := Lib.hid i4
  clear o4 i4 b4' k4 P1c P2c O2c I2c HM BW3 hs3 hl2
  have v3 : (0 : Int) ≤ 1 + (offs z N : Int) := by omega
  have ⟨y0, y1, y2, y3, y4, y5, y6, y7⟩ := row8_cells P2d.out
  have HH := Lib.hid (laws_heldProfile nm hd b3 b4 b5 b6 b7 a2 c2 N f2 z W1.heap.size w4 O4.out I4.out HZ.out hN4)
  go_wp2_with fail
  refine HH.out.mono ?_
  clear y0 y1 y2 y3 y4 y5 y6 y7
  rintro e w5 ⟨rfl, b5'⟩
  have P1e := Lib.hid (blk_keep P1d.out b5')
  have P2e := Lib.hid (blk_keep P2d.out b5')
  have O5 := Lib.hid (O4.out.all b5')
  have I5 : Hid (∀ k, k < N → Own .i64 3 w5 W1.heap.size (f2 k) (marks (1 + (offs z k : Int)) (z k).length)) := Lib.hid (fun k hk => (I4.out k hk).all b5')
  have BW5 : Hid (Below W1.heap.size W1 w5) := Lib.hid (BW4.out.trans (b5'.mono BW4.out.size))
  have B5 : Hid (Below w.heap.size w w5) := Lib.hid (B1.out.trans (BW5.out.mono B1.out.size))
  clear b5' P1d P2d O4 I4 HH BW4
  go_wp2_with fail
  refine (HI'.out _ (HT.out.keep B5.out).1).mono ?_
  rintro e w6 ⟨a6, c6, f6, rfl, o6, i6, d6, b6'⟩
  have b6a : Below w5.heap.size w5 (w6.alloc (.cells #[.string nm, .string hd, .slice a6 N c6, .bool b3, .bool b4, .bool b5, .bool b6, .bool b7] 55)) := b6'.alloc b6'.size _
  have P6 : Hid ((w6.alloc (.cells #[.string nm, .string hd, .slice a6 N c6, .bool b3, .bool b4, .bool b5, .bool b6, .bool b7] 55)).heap[w6.heap.size]? = some (.cells #[.string nm, .string hd, .slice a6 N c6, .bool b3, .bool b4, .bool b5, .bool b6, .bool b7] 55)) := Lib.hid (heap_alloc_new _ _)
  have P1f := Lib.hid (blk_keep P1e.out b6a)
  have P2f := Lib.hid (blk_keep P2e.out b6a)
  have O6 := Lib.hid (o6.all (below_one w6 (.cells #[.string nm, .string hd, .slice a6 N c6, .bool b3, .bool b4, .bool b5, .bool b6, .bool b7] 55)))
  have I6 : Hid (∀ k : Nat, k < N → Ints .i64 (w6.alloc (.cells #[.string nm, .string hd, .slice a6 N c6, .bool b3, .bool b4, .bool b5, .bool b6, .bool b7] 55)) (f6 k) (z k)) := Lib.hid (fun k hk => ((i6 k hk).all (below_one w6 (.cells #[.string nm, .string hd, .slice a6 N c6, .bool b3, .bool b4, .bool b5, .bool b6, .bool b7] 55))).ints)
  have O5b := Lib.hid (O5.out.all b6a)
  have I5b : Hid (∀ k, k < N → Own .i64 3 (w6.alloc (.cells #[.string nm, .string hd, .slice a6 N c6, .bool b3, .bool b4, .bool b5, .bool b6, .bool b7] 55)) W1.heap.size (f2 k) (marks (1 + (offs z k : Int)) (z k).length)) := Lib.hid (fun k hk => (I5.out k hk).all b6a)
  have BW6 : Hid (Below W1.heap.size W1 (w6.alloc (.cells #[.string nm, .string hd, .slice a6 N c6, .bool b3, .bool b4, .bool b5, .bool b6, .bool b7] 55))) := Lib.hid (BW5.out.trans (b6a.mono BW5.out.size))
  have O1z := Lib.hid (O1.out.all BW6.out)
  have I1z : Hid (∀ k : Nat, k < N → Ints .i64 (w6.alloc (.cells #[.string nm, .string hd, .slice a6 N c6, .bool b3, .bool b4, .bool b5, .bool b6, .bool b7] 55)) (f k) (z k)) := Lib.hid (fun k hk => (I1.out k hk).keep BW6.out)
  clear o6 i6 d6 b6' b6a P1e P2e O5 I5 BW5 B5
  have ⟨x0, x1, x2, x3, x4, x5, x6, x7⟩ := row8_cells P1f.out
  have ⟨y0, y1, y2, y3, y4, y5, y6, y7⟩ := row8_cells P6.out
  have HE := Lib.hid (laws_eqProfile nm hd b3 b4 b5 b6 b7 a6 a c6 c N f6 f z _ _ _ O6.out O1z.out I6.out I1z.out HZ2.out hN4)
  go_wp2_with fail
  refine HE.out.mono ?_
  clear x0 x1 x2 x3 x4 x5 x6 x7 y0 y1 y2 y3 y4 y5 y6 y7
  generalize w6.alloc (.cells #[.string nm, .string hd, .slice a6 N c6, .bool b3, .bool b4, .bool b5, .bool b6, .bool b7] 55) = W6 at *
  rintro e w7 ⟨rfl, b7'⟩
  have P2g := Lib.hid (blk_keep P2f.out b7')
  have O7 := Lib.hid (O5b.out.all b7')
  have I7 : Hid (∀ k, k < N → Own .i64 3 w7 W1.heap.size (f2 k) (marks (1 + (offs z k : Int)) (z k).length)) := Lib.hid (fun k hk => (I5b.out k hk).all b7')
  have BW7 : Hid (Below W1.heap.size W1 w7) := Lib.hid (BW6.out.trans (b7'.mono BW6.out.size))
  clear b7' P1f P2f O5b I5b HE BW6 O6 I6 O1z I1z P6
  have ⟨y0, y1, y2, y3, y4, y5, y6, y7⟩ := row8_cells P2g.out
  have HH := Lib.hid (laws_heldProfile nm hd b3 b4 b5 b6 b7 a2 c2 N f2 z W1.heap.size w7 O7.out I7.out HZ.out hN4)
  go_wp2_with fail
  refine HH.out.mono ?_
  clear y0 y1 y2 y3 y4 y5 y6 y7
  rintro e w8 ⟨rfl, b8'⟩
  have B8 : Hid (Below w.heap.size w w8) := Lib.hid (B1.out.trans ((BW7.out.trans (b8'.mono BW7.out.size)).mono B1.out.size))
  clear b8'
  go_wp2
  go_ret
  exact ⟨rfl, B8.out⟩

theorem table {W : World} (h : laidMetH Tryd.prog Rows.fnExactProfileOfRow.laid W) : TabM W := tabM_of_laid h
theorem readable : ∀ n ∈ Rows.fnExactProfileOfSpec.vars, ∀ g t, Tryd.prog.globalNamed n = some g → (Tryd.prog.globals[g]?).map (·.type) = some t → Tryd.prog.readableRec t = true ∧ t < Tryd.prog.types.size := sets_readable

end Go.Proofs.YtjbikenhdgbacaaDoor.fnExactProfileOf

namespace Go.Proofs.YtjbikenhdgbacaaDoor.fnExactProfileOf
open Go.ChangeShapes Go.WideShapes Go.ChangeAt Go.RowKit
open Go.ChangeMaps (open_string shut_string)
set_option linter.unusedVariables false

set_option maxRecDepth 100000 in
theorem contract (H : Type) (enc : TypeId × Value → H) (W : World) (base : Nat) (args : Array Value) (ds gs : List (DataW H)) (before : List MemPlace)
    (hval : ∀ (j : Nat) t v, Tryd.f6.params[j]? = some t → args[j]? = some v → Value.okWide Tryd.prog W .any base t v)
    (hW : DataW.Whole enc Tryd.prog Tryd.f6.params.toList Rows.fnExactProfileOfSpec.vars false W args.toList ds gs before) (hL : laidMetH Tryd.prog Rows.fnExactProfileOfRow.laid W) :
    Calls Tryd.prog 6 args W fun e W' => ∃ v, e = .returned v ∧ Rows.fnExactProfileOfSpec.post enc Tryd.prog Tryd.f6 false true false false W args v W' := by
  have HT := Lib.hid (table hL)
  clear hL
  have hW' := hW
  obtain ⟨p, q, hA0, hV0, rfl, hfz, hnd⟩ := hW
  have hV : DataW.TrodVars enc Tryd.prog W (fun _ => true) ["loop.example/g00748/impl.registry"] gs q := hV0
  clear hV0
  have hA : DataW.TrodAll enc Tryd.prog W 0 (fun _ => true) true Tryd.f6.params.toList args.toList ds p := hA0
  rw [Tryd.params6] at hA hval
  obtain ⟨v0, vs0, d0, ds0, p0, q0, hargs, rfl, rfl, h0, r0⟩ := trodAll_cons hA
  obtain ⟨rfl, rfl, rfl⟩ := trodAll_nil r0
  obtain rfl : args = #[v0] := by cases args; simp_all
  have hgs : ∃ d, gs = [d] := by obtain ⟨_, _, _, _, d, _, hgs, _⟩ := trodVars_one hV; exact ⟨d, hgs⟩
  obtain ⟨g1, rfl⟩ := hgs
  obtain ⟨a0, rfl, rfl, rfl, w0⟩ := open_int Tryd.underlying3 (hval 0 3 v0 rfl rfl) h0
  clear hA0
  refine (walk a0 W w0 HT.out).mono fun e W' ⟨he, bel⟩ => ?_
  subst he
  exact ⟨_, rfl, _, _, _, [], [], q, hW', trodAll_mk1 (shut_bool Tryd.underlying4 _), (trodAll_cons_mk (shut_int Tryd.underlying3 w0) trodAll_mk0), trodVars_below laidOut bel readable hV, bel.frame _, fun h => by cases h⟩

theorem laid_met (os : Os) : laidMetH Tryd.prog Rows.fnExactProfileOfRow.laid ((World.doorLaid Tryd.prog 400 os).forCall (fun _ _ => 0) ⟨#[], #[.int .i64 0], []⟩).memory :=
  laidMetH_of_parts3 (fuel := 8) (laidMet_of_run' 8 (by kernel_rfl) (by kernel_rfl)) (by kernel_rfl) (by kernel_rfl)
theorem reads (os : Os) {H : Type} (enc : TypeId × Value → H) : ∃ x, DataW.whole enc Tryd.prog ((World.doorLaid Tryd.prog 400 os).forCall (fun _ _ => 0) ⟨#[], #[.int .i64 0], []⟩).memory Tryd.f6.params.toList Rows.fnExactProfileOfSpec.vars false #[.int .i64 0].toList 8 = some x :=
  Option.isSome_iff_exists.1 (by kernel_rfl)

set_option maxRecDepth 100000 in
theorem lifted (os : Os) (started : os.Started) (H : Type) (enc : TypeId × Value → H) (F : Stop.Interp) :
    ReturnsInHanded {} Tryd.checked os 6 .any ((OpenSpec.ofChange Rows.fnExactProfileOfSpec).preRow enc Tryd.prog Tryd.f6 Rows.fnExactProfileOfRow.domain false Rows.fnExactProfileOfRow.laid) (((OpenSpec.ofChange Rows.fnExactProfileOfSpec).at F).post enc Tryd.prog Tryd.f6 false true false false) := by
  obtain ⟨x, hx⟩ := reads os enc
  refine returnsInHanded_of_row (C := Tryd.checked) (s := OpenSpec.ofChange Rows.fnExactProfileOfSpec) own started (by kernel_rfl) Tryd.func6
    (witness_row_atRef (enc := enc) (C := Tryd.checked) false (World.doorLaid Tryd.prog 400 os) #[.int .i64 0] rfl (by kernel_rfl) (by kernel_rfl) (by kernel_rfl)
      (OpenSpec.preRow_of_cond 8 hx rfl (fun k hk => by cases hk) (by kernel_rfl) (laid_met os))) ?_
  intro W base args ds gs before hval hW _ _ _ hL _ _
  exact contract H enc W base args ds gs before hval hW hL

theorem said : Rows.FnExactProfileOfSaid :=
  OpenClaim.holds_of_cond 6 Tryd.f6 rfl rfl rfl rfl rfl rfl rfl ⟨rfl, rfl, rfl, rfl, rfl⟩ rfl rfl rfl rfl rfl (by kernel_rfl) Tryd.func6 (by kernel_rfl)
    (of_decide_eq_true (by kernel_rfl)) (by unfold Func.isWrapper; first | (rw [if_pos (by decide +kernel)]; kernel_rfl) | (rw [if_neg (by decide +kernel)]; exact ⟨rfl, rfl⟩))
    (fun os started H enc _ F => by rw [OpenClaim.pre_eq_preRow]; exact lifted os started H enc F)

theorem plain (f : FuncId) (fn : Func) (hf : Tryd.pinned.checked.prog.funcNamed "loop.example/g00748/laws.FnExactProfileOf" = some f) (hfn : Tryd.pinned.checked.prog.funcs[f]? = some fn) :
    Rows.fnExactProfileOfCard.stood.looks = Tryd.pinned.checked.prog.looks [] ∧ ∀ (j : Nat) t, fn.params[j]? = some t → Tryd.pinned.checked.prog.wantsStandIn t = false := by
  obtain rfl : f = 6 := Option.some.inj ((show Tryd.prog.funcNamed "loop.example/g00748/laws.FnExactProfileOf" = some 6 by kernel_rfl).symm.trans hf) |>.symm
  obtain rfl : fn = Tryd.f6 := (Option.some.inj (Tryd.func6.symm.trans hfn)).symm
  refine ⟨by kernel_rfl, fun j t ht => ?_⟩
  rw [Tryd.params6] at ht
  have hm := Array.mem_of_getElem? ht
  simp at hm
  subst hm
  exact (show Tryd.prog.wantsStandIn 3 = false by kernel_rfl)

theorem card : Rows.FnExactProfileOfCardSaid :=
  Claim7.holds_tied_plain_at .later [] _ _ _ _ said (fun _ h => by cases h) (by kernel_rfl) (fun _ h => by cases h) fnExactProfileOf_row_tie rfl ⟨rfl, rfl⟩ (by kernel_rfl) rfl plain (by kernel_rfl)
end Go.Proofs.YtjbikenhdgbacaaDoor.fnExactProfileOf

namespace Go.Proofs.YtjbikenhdgbacaaDoor
theorem fnExactProfileOf_holds : Rows.FnExactProfileOfCardSaid := fnExactProfileOf.card
end Go.Proofs.YtjbikenhdgbacaaDoor
