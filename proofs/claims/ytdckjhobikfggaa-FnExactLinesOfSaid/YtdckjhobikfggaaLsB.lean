/- The specification's LinesOf. -/
import Derived.Test.YtdckjhobikfggaaLsA
namespace Go.Proofs.Ytdckjhobikfggaa
open Go.RowKit

theorem runL_full {zs : List Int} {k : Nat} (hk : k ≤ zs.length) (h : ¬ k < zs.length) : runL ([], []) (zs.take k) = runL ([], []) zs := by rw [List.take_of_length_le (by omega)]
theorem stepL_ten {p : List (List Int) × List Int} {r : Int} (h : r = 10) : (stepL p r).1 = p.1 ++ [p.2 ++ [r]] ∧ (stepL p r).2 = [] := by unfold stepL; rw [if_pos h]; exact ⟨rfl, rfl⟩
theorem stepL_other {p : List (List Int) × List Int} {r : Int} (h : ¬ r = 10) : (stepL p r).1 = p.1 ∧ (stepL p r).2 = p.2 ++ [r] := by unfold stepL; rw [if_neg h]; exact ⟨rfl, rfl⟩

/-- What the loop keeps: the lists behind the row, and the line under way apart from them. -/
def LnIn (w wr : World) (ov lv : Value) (L : List (List Int)) (l : List Int) : Prop :=
  Below w.heap.size w wr ∧ Own .i64 3 wr w.heap.size lv l ∧ ∃ f, Lns wr w.heap.size ov L f ∧ ∀ k, k < L.length → ∀ b, (f k).ownBlock = some b → lv.ownBlock ≠ some b

theorem LnIn.base {w wr : World} {ov lv : Value} {L : List (List Int)} {l : List Int} (h : LnIn w wr ov lv L l) : (∃ a c, ov = .slice a L.length c) ∧ ∃ a c, lv = .slice a l.length c := by
  obtain ⟨_, o, f, hL, _⟩ := h
  obtain ⟨a, c, h1⟩ := hL.1.form
  obtain ⟨a', c', h2, _⟩ := o.shape
  exact ⟨⟨a, c, by rw [h1]; simp⟩, a', c', h2⟩
/-- A number appended to the line. -/
theorem LnIn.app {w wr w4 : World} {ov lv : Value} {L : List (List Int)} {l : List Int} {r : Int} {o : Obj} {g m cap : Nat} (h : LnIn w wr ov lv L l) (o4 : Own .i64 3 w4 w.heap.size (.slice (some ⟨g, 0, none⟩) m cap) (l ++ [r])) (g4 : (wr.alloc o).grownBy w4 lv.ownBlock)
    (hg : lv.ownBlock = some g ∨ g = (wr.alloc o).heap.size) : LnIn w w4 ov (.slice (some ⟨g, 0, none⟩) m cap) L (l ++ [r]) := by
  obtain ⟨hb, ho, f, hL, hx⟩ := h
  have hB := hb.size
  have ho' := ho.alloc o
  have hL' := hL.all ((Below.refl wr.heap.size wr).alloc (Nat.le_refl _) o)
  refine ⟨(hb.alloc hB o).grown g4 (by simp; omega) (fun j hj => (World.ownsRow.lt ho j hj).1), o4, f, hL'.kept g4 ?_ (fun k hk => ?_), fun k hk b hbk => ?_⟩
  · cases hov : ov.ownBlock with
    | none => exact .inl rfl
    | some b => exact .inr fun he => own_row ho hL.1 he.symm hov
  · cases hfk : (f k).ownBlock with
    | none => exact .inl rfl
    | some b => exact .inr fun he => hx k hk b hfk he.symm
  · intro he
    have e : g = b := Option.some.inj he
    subst e
    rcases hg with hg | hg
    · exact hx k hk g hbk hg
    · have := (World.ownsRow.lt (hL.2.1 k hk) g hbk).2
      rw [hg] at this
      simp at this
      omega
/-- The line pushed, a new one begun. -/
theorem LnIn.push {w wr w4 : World} {ov lv : Value} {L : List (List Int)} {l : List Int} {o : Obj} {g cap : Nat} {us : List Value} (h : LnIn w wr ov lv L l) (f : Nat → Value) (hL : Lns wr w.heap.size ov L f) (hx : ∀ k, k < L.length → ∀ b, (f k).ownBlock = some b → lv.ownBlock ≠ some b)
    (e : us = (List.range L.length).map f) (o4 : OwnV w4 w.heap.size (.slice (some ⟨g, 0, none⟩) (L.length + 1) cap) (us ++ [lv])) (g4 : (wr.alloc o).grownBy w4 ov.ownBlock) :
    Below w.heap.size w w4 ∧ Lns w4 w.heap.size (.slice (some ⟨g, 0, none⟩) (L.length + 1) cap) (L ++ [l]) (fun k => if k < L.length then f k else lv) := by
  subst e
  obtain ⟨hb, ho, _⟩ := h
  have hB := hb.size
  have b1 := (Below.refl wr.heap.size wr).alloc (Nat.le_refl _) o
  exact ⟨(hb.alloc hB o).grown g4 (by simp; omega) (fun j hj => (World.ownsRow.lt hL.1 j hj).1), (hL.all b1).push (ho.alloc o) hx o4 g4⟩
theorem LnIn.next {w w4 : World} {ov : Value} {L : List (List Int)} {f : Nat → Value} (hb : Below w.heap.size w w4) (hL : Lns w4 w.heap.size ov L f) : LnIn w (w4.alloc (.cells #[] 3)) ov (.slice (some ⟨w4.heap.size, 0, none⟩) 0 0) L [] := by
  refine ⟨hb.alloc hb.size _, Own.lit .i64 3 w4 w.heap.size [] hb.size (by decide), f, hL.all ((Below.refl _ _).alloc (Nat.le_refl _) _), fun k hk b hbk he => ?_⟩
  have e : w4.heap.size = b := Option.some.inj he
  have := (World.ownsRow.lt (hL.2.1 k hk) b hbk).2
  omega

set_option maxHeartbeats 2000000 in
set_option maxRecDepth 100000 in
theorem spec_LinesOf (v : Value) (zs : List Int) (w : World) (h : Ints .i64 w v zs) (hl : zs.length ≤ 1048576) : Calls Try.prog 10 #[v] w (LnDone zs w) := by
  have HA := Lib.hid (fun w h => spec_l01All v zs w h hl)
  have HI := Lib.hid h
  have hform0 : ∃ a c, v = .slice a zs.length c := by
    rcases h with ⟨rfl, a, c, rfl⟩ | ⟨b, off, c, rfl, _⟩
    · exact ⟨a, c, rfl⟩
    · exact ⟨_, c, rfl⟩
  obtain ⟨a0, c0, hform⟩ := hform0
  clear h
  subst hform
  by_cases hlong : 4096 < zs.length
  · have HZ : Hid (linesZ zs = []) := Lib.hid (by rw [linesZ, if_neg (fun h => by omega)])
    have HC : Hid (linesC zs = 2) := Lib.hid (by rw [linesC, if_neg (by omega)])
    have hl2 : (4096 : Int) < (zs.length : Int) := by omega
    clear hlong HA
    go_enter Try.func10, Try.ntmps10
    go_wp2
    go_ret2
    exact LnDone.mk HZ.out HC.out rfl (Lns.empty w w.heap.size (Nat.le_refl _) (fun _ => undef)) ((Below.refl _ _).alloc (Nat.le_refl _) _)
  have hl2 : ¬ (4096 : Int) < (zs.length : Int) := by omega
  have hlong' : zs.length ≤ 4096 := by omega
  cases hok : okAll zs
  · have HZ : Hid (linesZ zs = []) := Lib.hid (by rw [linesZ, if_neg (fun h => by rw [hok] at h; cases h.2)])
    have HC : Hid (linesC zs = 4) := Lib.hid (by rw [linesC, if_pos hlong', if_neg (by rw [hok]; decide)])
    rw [hok] at HA
    clear hlong hlong' hok
    go_enter Try.func10, Try.ntmps10
    go_wp2_with fail
    refine (HA.out _ HI.out).mono ?_
    rintro e w1 ⟨rfl, rfl⟩
    go_wp2
    go_ret2
    exact LnDone.mk HZ.out HC.out rfl (Lns.empty w w.heap.size (Nat.le_refl _) (fun _ => undef)) ((Below.refl _ _).alloc (Nat.le_refl _) _)
  · have HZ : Hid (linesZ zs = endL (runL ([], []) zs)) := Lib.hid (by rw [linesZ, if_pos ⟨hlong', hok⟩])
    have HC : Hid (linesC zs = 0) := Lib.hid (by rw [linesC, if_pos hlong', if_pos hok])
    rw [hok] at HA
    have hn := runL_num zs ([], [])
    clear hlong hok
    have N0 : Hid (LnIn w ((w.alloc (.cells #[] 22)).alloc (.cells #[] 3)) (.slice (some ⟨w.heap.size, 0, none⟩) 0 0) (.slice (some ⟨w.heap.size + 1, 0, none⟩) 0 0) [] []) := Lib.hid (by
      refine ⟨((Below.refl _ _).alloc (Nat.le_refl _) _).alloc (by simp) _, ?_, fun _ => undef, ?_, fun k hk => absurd hk (by simp)⟩
      · have h := Own.lit .i64 3 (w.alloc (.cells #[] 22)) w.heap.size [] (by simp) (by simp)
        rw [show (w.alloc (.cells #[] 22)).heap.size = w.heap.size + 1 by simp] at h
        exact h
      · exact (Lns.empty w w.heap.size (Nat.le_refl _) _).all ((Below.refl _ _).alloc (Nat.le_refl _) _))
    go_enter Try.func10, Try.ntmps10
    go_wp2_with fail
    refine (HA.out _ HI.out).mono ?_
    rintro e w1 ⟨rfl, rfl⟩
    go_wp2
    generalize (w.alloc (.cells #[] 22)).alloc (.cells #[] 3) = W0 at *
    go_loopw [4, 5, 6] (fun ov lv i wr => ∃ k : Nat, k ≤ zs.length ∧ i = .int .i64 k ∧ Hid (LnIn w wr ov lv (runL ([], []) (zs.take k)).1 (runL ([], []) (zs.take k)).2)) (fun _ _ i _ => zs.length - (intOf i).toNat)
    case atStart => exact ⟨0, Nat.zero_le _, rfl, N0⟩
    case round =>
      obtain ⟨k, hk, rfl, HR⟩ := hrel
      clear N0
      by_cases hlt : k < zs.length
      · have hst : runL ([], []) (zs.take (k + 1)) = stepL (runL ([], []) (zs.take k)) (zs.getD k 0) := runL_take hlt
        have hcnt := runL_cnt (zs.take k) ([], [])
        have HPk : Hid (∀ W, Below w.heap.size w W → ∃ b off, a0 = some ⟨b, off, none⟩ ∧ W.cell? ⟨b, off + k, none⟩ = some (.int .i64 (zs.getD k 0))) := Lib.hid (fun W hW => by
          rcases HI.out.keep hW with ⟨rfl, _⟩ | ⟨b, off, c, hv, hc⟩
          · exact absurd hlt (by simp)
          · injection hv with h1
            exact ⟨b, off, h1, hc k hlt⟩)
        have hl1 : (runL ([], []) (zs.take k)).2.length ≤ 4096 ∧ (runL ([], []) (zs.take k)).1.length ≤ 4096 := by
          rw [List.length_take, Nat.min_eq_left (by omega)] at hcnt
          simp only [List.length_nil] at hcnt
          omega
        have v1 : (0 : Int) ≤ (k : Int) := by omega
        have v2 : (k : Int) < (zs.length : Int) := by omega
        generalize runL ([], []) (zs.take k) = p at *
        generalize zs.getD k 0 = r at *
        have HST := Lib.hid hst
        obtain ⟨L, l⟩ := p
        dsimp only at *
        obtain ⟨⟨oa, oc, rfl⟩, la, lc, rfl⟩ := HR.out.base
        obtain ⟨b, off, rfl, c1⟩ := HPk.out wr HR.out.1
        have OA := Lib.hid (HR.out.2.1.alloc (.cells #[.int .i64 r] 3))
        have hB := HR.out.1.size
        have hA1 : Hid ((wr.alloc (.cells #[.int .i64 r] 3)).heap[wr.heap.size]? = some (.cells #[.int .i64 r] 3)) := Lib.hid (heap_alloc_new _ _)
        have LK : Hid (∀ w4 g m cap, Own .i64 3 w4 w.heap.size (.slice (some ⟨g, 0, none⟩) m cap) (l ++ [r]) → (wr.alloc (.cells #[.int .i64 r] 3)).grownBy w4 (Value.slice la l.length lc).ownBlock → ((Value.slice la l.length lc).ownBlock = some g ∨ g = (wr.alloc (.cells #[.int .i64 r] 3)).heap.size) → LnIn w w4 (.slice oa L.length oc) (.slice (some ⟨g, 0, none⟩) m cap) L (l ++ [r])) := Lib.hid (fun w4 g m cap o4 g4 hg => HR.out.app o4 g4 hg)
        clear hst HR
        go_wp2_with (at_builtin; refine app_one _ rfl _ _ rfl w.heap.size _ l rfl OA.out l.length rfl wr.heap.size 1 r rfl hA1.out (by omega) (by simp; omega) ?_)
        intro g cap w4 o4 g4 hg4
        have LN := Lib.hid (LK.out w4 g (l.length + 1) cap o4 g4 (by rw [World.size_alloc]; exact hg4))
        clear o4 g4 hg4 OA hA1 LK c1
        obtain ⟨_, _, e1, c2⟩ := HPk.out w4 LN.out.1
        injection e1 with e1
        injection e1 with e1 e2
        subst e1 e2
        by_cases hr : r = 10
        · have er : (r == 10) = true := by simpa using hr
          obtain ⟨hs1, hs2⟩ := stepL_ten (p := (L, l)) hr
          dsimp only at hs1 hs2
          obtain ⟨f, hLf, hxf⟩ := LN.out.2.2
          have OV := Lib.hid (hLf.1.all ((Below.refl w4.heap.size w4).alloc (Nat.le_refl _) (.cells #[.slice (some ⟨g, 0, none⟩) (l.length + 1) cap] 22)))
          have hB4 := LN.out.1.size
          have hA4 : Hid ((w4.alloc (.cells #[.slice (some ⟨g, 0, none⟩) (l.length + 1) cap] 22)).heap[w4.heap.size]? = some (.cells #[.slice (some ⟨g, 0, none⟩) (l.length + 1) cap] 22)) := Lib.hid (heap_alloc_new _ _)
          have LP : Hid (∀ w6 g' cap', OwnV w6 w.heap.size (.slice (some ⟨g', 0, none⟩) (L.length + 1) cap') ((List.range L.length).map f ++ [.slice (some ⟨g, 0, none⟩) (l.length + 1) cap]) → (w4.alloc (.cells #[.slice (some ⟨g, 0, none⟩) (l.length + 1) cap] 22)).grownBy w6 (Value.slice oa L.length oc).ownBlock → LnIn w (w6.alloc (.cells #[] 3)) (.slice (some ⟨g', 0, none⟩) (L.length + 1) cap') (.slice (some ⟨w6.heap.size, 0, none⟩) 0 0) (L ++ [l ++ [r]]) []) := Lib.hid (fun w6 g' cap' o6 g6 => by
            obtain ⟨k1, k2⟩ := LN.out.push f hLf hxf rfl o6 g6
            exact LnIn.next k1 k2)
          clear hLf hxf LN
          go_wp2_with (at_builtin; refine app_list _ rfl _ _ rfl w.heap.size _ _ rfl OV.out L.length (by simp) w4.heap.size 1 _ rfl rfl hA4.out (by omega) (by simp; omega) ?_)
          intro g' cap' w6 o6 g6 hg6
          have LN6 := Lib.hid (LP.out w6 g' cap' o6 g6)
          clear o6 g6 hg6 OV hA4 LP c2
          go_wp2
          go_roundw
          case rel => exact ⟨k + 1, by omega, by go_num, Lib.hid (by rw [HST.out, hs1, hs2]; exact LN6.out)⟩
          case measure => simp [intOf]; omega
        · have er : (r == 10) = false := by simpa using hr
          obtain ⟨hs1, hs2⟩ := stepL_other (p := (L, l)) hr
          dsimp only at hs1 hs2
          go_wp2
          go_roundw
          case rel => exact ⟨k + 1, by omega, by go_num, Lib.hid (by rw [HST.out, hs1, hs2]; exact LN.out)⟩
          case measure => simp [intOf]; omega
      · have HF := runL_full hk hlt
        rw [HF] at HR
        have hcnt := runL_cnt zs ([], [])
        simp only [List.length_nil] at hcnt
        have v2 : ¬ (k : Int) < (zs.length : Int) := by omega
        clear HF hn
        generalize hp : runL ([], []) zs = p at *
        obtain ⟨L, l⟩ := p
        have HP := Lib.hid hp
        clear hp
        dsimp only at *
        obtain ⟨⟨oa, oc, rfl⟩, la, lc, rfl⟩ := HR.out.base
        by_cases h0 : l = []
        · have HE : Hid (endL (L, l) = L) := Lib.hid (by rw [endL, if_pos h0])
          subst h0
          obtain ⟨f, hLf, _⟩ := HR.out.2.2
          have HB := Lib.hid HR.out.1
          have HLf := Lib.hid hLf
          clear hLf HR
          go_wp2
          go_ret2
          exact LnDone.mk (HZ.out.trans HE.out) HC.out rfl HLf.out HB.out
        · have HE : Hid (endL (L, l) = L ++ [l]) := Lib.hid (by rw [endL, if_neg h0])
          have h1 : 0 < l.length := List.length_pos_iff.2 h0
          have v3 : (0 : Int) < (l.length : Int) := by omega
          obtain ⟨f, hLf, hxf⟩ := HR.out.2.2
          have OV := Lib.hid (hLf.1.all ((Below.refl wr.heap.size wr).alloc (Nat.le_refl _) (.cells #[.slice la l.length lc] 22)))
          have hB4 := HR.out.1.size
          have hA4 : Hid ((wr.alloc (.cells #[.slice la l.length lc] 22)).heap[wr.heap.size]? = some (.cells #[.slice la l.length lc] 22)) := Lib.hid (heap_alloc_new _ _)
          have LP : Hid (∀ w6 g' cap', OwnV w6 w.heap.size (.slice (some ⟨g', 0, none⟩) (L.length + 1) cap') ((List.range L.length).map f ++ [.slice la l.length lc]) → (wr.alloc (.cells #[.slice la l.length lc] 22)).grownBy w6 (Value.slice oa L.length oc).ownBlock → Below w.heap.size w w6 ∧ Lns w6 w.heap.size (.slice (some ⟨g', 0, none⟩) (L ++ [l]).length cap') (L ++ [l]) (fun k => if k < L.length then f k else .slice la l.length lc)) := Lib.hid (fun w6 g' cap' o6 g6 => by
            have := HR.out.push f hLf hxf rfl o6 g6
            rw [List.length_append]
            exact this)
          clear hLf hxf HR h0
          go_wp2_with (at_builtin; refine app_list _ rfl _ _ rfl w.heap.size _ _ rfl OV.out L.length (by simp) wr.heap.size 1 _ rfl rfl hA4.out (by omega) (by simp; omega) ?_)
          intro g' cap' w6 o6 g6 hg6
          have LN6 := Lib.hid (LP.out w6 g' cap' o6 g6)
          clear o6 g6 hg6 OV hA4 LP
          go_wp2
          go_ret2
          exact LnDone.mk (HZ.out.trans HE.out) HC.out (by rw [List.length_append]; rfl) (by have := LN6.out.2; rw [List.length_append] at this; exact this) LN6.out.1

end Go.Proofs.Ytdckjhobikfggaa
