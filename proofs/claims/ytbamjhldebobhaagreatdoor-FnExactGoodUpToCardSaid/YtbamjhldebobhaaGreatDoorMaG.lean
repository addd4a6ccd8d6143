/- The program's step of a token. -/
import Derived.Test.YtbamjhldebobhaaGreatDoorMaF
import Derived.Test.YtbamjhldebobhaaGreatDoorTokH
namespace Go.Proofs.YtbamjhldebobhaaGreatDoor
open Go.RowKit Go.Sort

/-- A space in a state: a code of a set of 96, or a character of its own. -/
def spaceP (x : St) : Stp := if x.d = 0 ∧ setKind (setAt x false) = 2 ∧ setAt x false ≠ 0 then graphic x 32 false else if pendB x = true then ⟨x, -1, 13⟩ else ⟨x, 32, 0⟩
theorem space_eq {x : St} (hx : stOKB x = true) (t : Tok) (ht : t.k = 2) : stepT x t = spaceP x := by
  obtain ⟨h1, h2, h3⟩ := stOK_parts hx
  have hs := (head_parts h2).2
  have hl := lead_range h3
  have hr := setAt_range h1 false
  unfold stepT
  rw [if_neg (by omega), if_neg (by omega)]
  unfold spaceP
  have hw : ∀ n, 0 ≤ stGet x n → (wideB x n = true ↔ setKind (stGet x n) = 2 ∧ stGet x n ≠ 0) := by
    intro n hn
    unfold wideB
    rw [Bool.and_eq_true, decide_eq_true_eq, decide_eq_true_eq]
    constructor
    · intro ⟨a, b⟩; exact ⟨b, by omega⟩
    · intro ⟨a, b⟩; exact ⟨by omega, a⟩
  by_cases hp : pendB x = true
  · rw [if_pos hp]
    by_cases hd : x.d = 0
    · have hs2 : 0 < x.s := by
        unfold pendB at hp
        rw [Bool.or_eq_true, decide_eq_true_eq, decide_eq_true_eq] at hp
        omega
      have he : setAt x false = stGet x x.s := by unfold setAt sideOf; rw [if_pos hs2]
      rw [he] at hr ⊢
      have := hw x.s hr.1
      by_cases hc : wideB x x.s = true
      · rw [if_pos ⟨ht, hd, hc⟩, if_pos ⟨hd, this.1 hc⟩]
      · rw [if_neg (fun h => hc h.2.2), if_neg (fun h => hc (this.2 h.2)), if_pos hp]
    · rw [if_neg (fun h => hd h.2.1), if_neg (fun h => hd h.1), if_pos hp]
  · rw [if_neg hp]
    have ⟨s0, d0⟩ := calm_parts hx (by simpa using hp)
    have he : setAt x false = stGet x x.l := by unfold setAt sideOf; rw [if_neg (by omega), if_neg (by decide)]
    rw [he] at hr ⊢
    have := hw x.l hr.1
    unfold calm
    rw [if_neg (by omega), if_pos ht]
    by_cases hc : wideB x x.l = true
    · rw [if_pos hc, if_pos ⟨d0, this.1 hc⟩]
    · rw [if_neg hc, if_neg (fun h => hc (this.2 h.2)), if_neg hp]

theorem mvDone_same {x : St} {p : Stp} {b : Nat} {w w' : World} {r : Int} (h : p = ⟨x, r, 0⟩) (hr : 0 ≤ r) (hm : MAt w b x) (hb : Below w.heap.size w w') : MvDone p b w (.returned (.tuple #[.int .i64 r, .bool true, .int .i64 0])) w' :=
  ⟨by rw [mv_some h hr], by rw [h]; exact hm.keep hb, only_below hm.lt hb⟩
theorem MvDone.from {p : Stp} {b : Nat} {w w1 w2 : World} {e : Ending} (h : MvDone p b w1 e w2) (hb : b < w.heap.size) (hw : Below w.heap.size w w1) : MvDone p b w e w2 :=
  ⟨h.1, h.2.1, (only_below hb hw).trans h.2.2⟩

set_option maxHeartbeats 1000000 in
set_option maxRecDepth 100000 in
theorem impl_space (x : St) (b : Nat) (w : World) (h : MAt w b x) (ht : TabM w) (hx : stOKB x = true) : Calls Tryz.prog 188 #[.pointer (some ⟨b, 0, none⟩)] w (MvDone (spaceP x) b w) := by
  obtain ⟨h1, h2, h3⟩ := stOK_parts hx
  have HF := Lib.hid (fun w h => impl_setFor x b 0 w h h2)
  rw [show ((0 : Int) == 128) = false from rfl] at HF
  obtain ⟨k, hk, k8⟩ := setAt_nat h1 false
  rw [hk] at HF
  have HG := Lib.hid (fun w h ht => impl_take x b false 32 w h ht hx (by decide) (by decide))
  rw [show sideNo false = 0 from rfl] at HG
  have HP := Lib.hid (fun w h => impl_pending x b w h)
  rw [pend_eq hx] at HP
  have HM := Lib.hid h
  have HT := Lib.hid ht
  have hb : b < w.heap.size := h.lt
  have HS : Hid (spaceP x = if x.d = 0 ∧ setKind (k : Int) = 2 ∧ (k : Int) ≠ 0 then graphic x 32 false else if pendB x = true then ⟨x, -1, 13⟩ else ⟨x, 32, 0⟩) := Lib.hid (by rw [spaceP, hk])
  have ⟨y0, y1, y2, y3, y4, y5, y6⟩ := h.cells
  have u1 : (0 : Int) ≤ (k : Int) := by omega
  have u2 : (k : Int) < 9 := by omega
  clear h ht hx h1 h2 h3 hk
  unfold MvDone mvV at HG
  by_cases z : x.d = 0
  · have ez : (x.d == 0) = true := by simpa using z
    have hk2 : (kind0 (k : Int) == 2) = true ↔ (setKind (k : Int) = 2 ∧ (k : Int) ≠ 0) := by
      unfold kind0
      by_cases k0 : (k : Int) = 0
      · rw [if_pos k0]; simp [k0]
      · rw [if_neg k0]
        exact ⟨fun h => ⟨by simpa using h, k0⟩, fun h => by simpa using h.1⟩
    cases h2 : (kind0 (k : Int) == 2)
    · have hn : ¬ (x.d = 0 ∧ setKind (k : Int) = 2 ∧ (k : Int) ≠ 0) := fun h => by rw [hk2.2 h.2] at h2; cases h2
      clear hk2
      cases hp : pendB x
      · have HE : Hid (spaceP x = ⟨x, 32, 0⟩) := Lib.hid (by rw [HS.out, if_neg hn, if_neg (by rw [hp]; decide)])
        rw [hp] at HP
        clear hn z HS
        go_enter Tryz.func188, Tryz.ntmps188
        go_wp2_with fail
        refine (HF.out w HM.out).mono ?_
        rintro e w1 ⟨rfl, b1⟩
        have c1 := (HT.out.keep b1).kind k k8
        generalize kind0 (k : Int) = kd at *
        clear y0 y1 y2 y3 y4 y5 y6
        go_wp2_with fail
        refine (HP.out w1 (HM.out.keep b1)).mono ?_
        rintro e w2 ⟨rfl, rfl⟩
        go_wp2
        go_ret3
        exact mvDone_same HE.out (by decide) HM.out b1
      · have HE : Hid (spaceP x = ⟨x, -1, 13⟩) := Lib.hid (by rw [HS.out, if_neg hn, if_pos hp])
        rw [hp] at HP
        clear hn z HS
        go_enter Tryz.func188, Tryz.ntmps188
        go_wp2_with fail
        refine (HF.out w HM.out).mono ?_
        rintro e w1 ⟨rfl, b1⟩
        have c1 := (HT.out.keep b1).kind k k8
        generalize kind0 (k : Int) = kd at *
        clear y0 y1 y2 y3 y4 y5 y6
        go_wp2_with fail
        refine (HP.out w1 (HM.out.keep b1)).mono ?_
        rintro e w2 ⟨rfl, rfl⟩
        go_wp2
        go_ret3
        exact mvDone_none HE.out HM.out b1
    · have HE : Hid (spaceP x = graphic x 32 false) := Lib.hid (by rw [HS.out, if_pos ⟨z, hk2.1 h2⟩])
      clear hk2 z HS
      generalize graphic x 32 false = g at *
      have HV : Hid (mvV g = .tuple #[.int .i64 (toldR g), .bool (toldB g), .int .i64 g.c]) := Lib.hid rfl
      generalize toldR g = tr at *
      generalize toldB g = tb at *
      go_enter Tryz.func188, Tryz.ntmps188
      go_wp2_with fail
      refine (HF.out w HM.out).mono ?_
      rintro e w1 ⟨rfl, b1⟩
      have c1 := (HT.out.keep b1).kind k k8
      generalize kind0 (k : Int) = kd at *
      clear y0 y1 y2 y3 y4 y5 y6
      go_wp2_with fail
      refine (HG.out w1 (HM.out.keep b1) (HT.out.keep b1)).mono ?_
      rintro e w2 ⟨rfl, m2, o2⟩
      go_wp2
      go_ret3
      refine MvDone.from ⟨?_, ?_, o2⟩ hb b1
      · rw [HE.out, HV.out]; rfl
      · rw [HE.out]; exact m2
  · have ez : (x.d == 0) = false := by rw [beq_eq_false_iff_ne]; exact z
    have hn : ¬ (x.d = 0 ∧ setKind (k : Int) = 2 ∧ (k : Int) ≠ 0) := fun h => z h.1
    cases hp : pendB x
    · have HE : Hid (spaceP x = ⟨x, 32, 0⟩) := Lib.hid (by rw [HS.out, if_neg hn, if_neg (by rw [hp]; decide)])
      rw [hp] at HP
      clear hn z HS
      go_enter Tryz.func188, Tryz.ntmps188
      go_wp2_with fail
      refine (HP.out w HM.out).mono ?_
      rintro e w2 ⟨rfl, rfl⟩
      go_wp2
      go_ret3
      exact mvDone_same HE.out (by decide) HM.out (Below.refl _ _)
    · have HE : Hid (spaceP x = ⟨x, -1, 13⟩) := Lib.hid (by rw [HS.out, if_neg hn, if_pos hp])
      rw [hp] at HP
      clear hn z HS
      go_enter Tryz.func188, Tryz.ntmps188
      go_wp2_with fail
      refine (HP.out w HM.out).mono ?_
      rintro e w2 ⟨rfl, rfl⟩
      go_wp2
      go_ret3
      exact mvDone_none HE.out HM.out (Below.refl _ _)

theorem impl_control (a : Int) (w : World) : Calls Tryz.prog 189 #[.int .i64 a] w fun e w' => e = .returned (if 127 < a then .tuple #[.int .i64 0, .bool false, .int .i64 10] else .tuple #[.int .i64 a, .bool true, .int .i64 0]) ∧ w = w' := by
  by_cases h : 127 < a
  · rw [if_pos h]
    go_enter Tryz.func189, Tryz.ntmps189
    go_wp2
    go_ret3
    exact ⟨rfl, rfl⟩
  · rw [if_neg h]
    go_enter Tryz.func189, Tryz.ntmps189
    go_wp2
    go_ret3
    exact ⟨rfl, rfl⟩

/-- A token changes the machine, and a code is told. -/
def ChDone (p : Stp) (g : Nat) (w : World) (e : Ending) (w' : World) : Prop := e = .returned (.int .i64 p.c) ∧ MAt w' g p.y ∧ Only g w w'
theorem chDone_none {x : St} {p : Stp} {g : Nat} {w w' : World} {c : Int} (h : p = ⟨x, -1, c⟩) (hm : MAt w g x) (hb : Below w.heap.size w w') : ChDone p g w (.returned (.int .i64 c)) w' :=
  ⟨by rw [h], by rw [h]; exact hm.keep hb, only_below hm.lt hb⟩
theorem ChDone.drew {p : Stp} {g : Nat} {w w' : World} {e : Ending} (h : ChDone p g w e w') : ChDone p g w e w'.drew := ⟨h.1, h.2.1, h.2.2.drewN 1⟩
theorem chDone_set {x y : St} {p : Stp} {g j : Nat} {v : Int} {w : World} {o : Obj} (h : p = ⟨y, -1, 0⟩) (hm : MAt w g x) (hy : MAt (w.setCell ⟨g, j, none⟩ (.int .i64 v)) g y) : ChDone p g w (.returned (.int .i64 0)) ((w.setCell ⟨g, j, none⟩ (.int .i64 v)).alloc o) :=
  ⟨by rw [h], by rw [h]; exact hy.keep (below_one _ _), (Only.set g j w _).alloc hm.lt o⟩

set_option maxHeartbeats 1000000 in
set_option maxRecDepth 100000 in
theorem impl_change5 (x : St) (g : Nat) (a b c p n : Int) (w : World) (h : MAt w g x) : Calls Tryz.prog 190 #[.pointer (some ⟨g, 0, none⟩), tokV ⟨5, a, b, c, p, n⟩] w (ChDone (calm x ⟨5, a, b, c, p, n⟩) g w) := by
  have HE : Hid (calm x ⟨5, a, b, c, p, n⟩ = ⟨⟨x.g0, x.g1, x.g2, x.g3, a, x.s, x.d⟩, -1, 0⟩) := Lib.hid rfl
  have B0 := Lib.hid (below_one w (.cells #[.int .i64 5, .int .i64 a, .int .i64 b, .int .i64 c, .int .i64 p, .int .i64 n] 102))
  have HM := Lib.hid h
  have HM0 := Lib.hid (h.keep B0.out)
  have hg : g < w.heap.size := h.lt
  clear h
  unfold tokV
  have ⟨y0, y1, y2, y3, y4, y5, y6⟩ := HM0.out.cells
  have ⟨q0, q1, q2, q3, q4, q5, q6⟩ := HM0.out.thaw
  have ⟨m0, m1, m2, m3, m4, m5, m6⟩ := HM.out.cells
  have ⟨n0, n1, n2, n3, n4, n5, n6⟩ := HM.out.thaw
  go_enter Tryz.func190, Tryz.ntmps190
  go_wp2
  go_ret
  exact chDone_set HE.out HM.out (heap_setCell_same _ _ 4 _ _ (.int .i64 a) HM.out)

set_option maxHeartbeats 1000000 in
set_option maxRecDepth 100000 in
theorem impl_change6 (x : St) (g : Nat) (a b c p n : Int) (w : World) (h : MAt w g x) : Calls Tryz.prog 190 #[.pointer (some ⟨g, 0, none⟩), tokV ⟨6, a, b, c, p, n⟩] w (ChDone (calm x ⟨6, a, b, c, p, n⟩) g w) := by
  have HE : Hid (calm x ⟨6, a, b, c, p, n⟩ = ⟨⟨x.g0, x.g1, x.g2, x.g3, x.l, a, x.d⟩, -1, 0⟩) := Lib.hid rfl
  have B0 := Lib.hid (below_one w (.cells #[.int .i64 6, .int .i64 a, .int .i64 b, .int .i64 c, .int .i64 p, .int .i64 n] 102))
  have HM := Lib.hid h
  have HM0 := Lib.hid (h.keep B0.out)
  have hg : g < w.heap.size := h.lt
  clear h
  unfold tokV
  have ⟨y0, y1, y2, y3, y4, y5, y6⟩ := HM0.out.cells
  have ⟨q0, q1, q2, q3, q4, q5, q6⟩ := HM0.out.thaw
  have ⟨m0, m1, m2, m3, m4, m5, m6⟩ := HM.out.cells
  have ⟨n0, n1, n2, n3, n4, n5, n6⟩ := HM.out.thaw
  go_enter Tryz.func190, Tryz.ntmps190
  go_wp2
  go_ret
  exact chDone_set HE.out HM.out (heap_setCell_same _ _ 5 _ _ (.int .i64 a) HM.out)

set_option maxHeartbeats 1000000 in
set_option maxRecDepth 100000 in
theorem impl_change8 (x : St) (g : Nat) (a b c p n : Int) (w : World) (h : MAt w g x) : Calls Tryz.prog 190 #[.pointer (some ⟨g, 0, none⟩), tokV ⟨8, a, b, c, p, n⟩] w (ChDone (calm x ⟨8, a, b, c, p, n⟩) g w) := by
  have HE : Hid (calm x ⟨8, a, b, c, p, n⟩ = ⟨x, -1, 13⟩) := Lib.hid rfl
  have B0 := Lib.hid (below_one w (.cells #[.int .i64 8, .int .i64 a, .int .i64 b, .int .i64 c, .int .i64 p, .int .i64 n] 102))
  have HM := Lib.hid h
  have HM0 := Lib.hid (h.keep B0.out)
  have hg : g < w.heap.size := h.lt
  clear h
  unfold tokV
  go_enter Tryz.func190, Tryz.ntmps190
  go_wp2
  go_ret
  exact chDone_none HE.out HM.out B0.out

set_option maxHeartbeats 1000000 in
set_option maxRecDepth 100000 in
theorem impl_change9 (x : St) (g : Nat) (a b c p n : Int) (w : World) (h : MAt w g x) : Calls Tryz.prog 190 #[.pointer (some ⟨g, 0, none⟩), tokV ⟨9, a, b, c, p, n⟩] w (ChDone (calm x ⟨9, a, b, c, p, n⟩) g w) := by
  have HE : Hid (calm x ⟨9, a, b, c, p, n⟩ = ⟨x, -1, 10⟩) := Lib.hid rfl
  have B0 := Lib.hid (below_one w (.cells #[.int .i64 9, .int .i64 a, .int .i64 b, .int .i64 c, .int .i64 p, .int .i64 n] 102))
  have HM := Lib.hid h
  have HM0 := Lib.hid (h.keep B0.out)
  have hg : g < w.heap.size := h.lt
  clear h
  unfold tokV
  go_enter Tryz.func190, Tryz.ntmps190
  go_wp2
  go_ret
  exact chDone_none HE.out HM.out B0.out

set_option maxHeartbeats 1000000 in
set_option maxRecDepth 100000 in
theorem impl_change7 (x : St) (g : Nat) (a b c p n : Int) (w : World) (h : MAt w g x) (ht : TabM w) (a0 : 0 ≤ a) (a3 : a ≤ 3) (b1 : 1 ≤ b) (b3 : b ≤ 3) : Calls Tryz.prog 190 #[.pointer (some ⟨g, 0, none⟩), tokV ⟨7, a, b, c, p, n⟩] w (ChDone (calm x ⟨7, a, b, c, p, n⟩) g w) := by
  have HF := Lib.hid (fun w ht => impl_FindSet b c w ht)
  have hb : inB b 1 3 = true := inB_of b1 b3
  have B0 := Lib.hid (below_one w (.cells #[.int .i64 7, .int .i64 a, .int .i64 b, .int .i64 c, .int .i64 p, .int .i64 n] 102))
  have HM := Lib.hid h
  have HM0 := Lib.hid (h.keep B0.out)
  have hg : g < w.heap.size := h.lt
  clear h
  unfold tokV
  have HT := Lib.hid (ht.keep B0.out)
  clear ht
  by_cases hf : findNo b c = 0
  · have HE : Hid (calm x ⟨7, a, b, c, p, n⟩ = ⟨x, -1, 10⟩) := Lib.hid (by rw [calm, if_neg (by simp), if_neg (by simp), if_neg (by simp), if_neg (by simp), if_pos rfl, if_pos hf])
    have hc : fsC b c = 5 := by unfold fsC; rw [if_pos hb, if_pos hf]
    rw [fsV_bad _ _ _ hc (by decide)] at HF
    clear hf hb hc a0 a3 b1 b3
    go_enter Tryz.func190, Tryz.ntmps190
    go_wp2_with fail
    refine (HF.out _ HT.out.1).mono ?_
    rintro e w2 ⟨rfl, rfl⟩
    go_wp2
    go_ret
    exact chDone_none HE.out HM.out B0.out
  have HE : Hid (calm x ⟨7, a, b, c, p, n⟩ = ⟨stPut x a (findNo b c), -1, 0⟩) := Lib.hid (by rw [calm, if_neg (by simp), if_neg (by simp), if_neg (by simp), if_neg (by simp), if_pos rfl, if_neg hf])
  have hc : fsC b c = 0 := by unfold fsC; rw [if_pos hb, if_neg hf]
  rw [fsV_ok _ _ hc] at HF
  have : a = 0 ∨ a = 1 ∨ a = 2 ∨ a = 3 := by omega
  clear hf hb hc a0 a3 b1 b3
  have ⟨y0, y1, y2, y3, y4, y5, y6⟩ := HM0.out.cells
  have ⟨q0, q1, q2, q3, q4, q5, q6⟩ := HM0.out.thaw
  have ⟨m0, m1, m2, m3, m4, m5, m6⟩ := HM.out.cells
  have ⟨n0, n1, n2, n3, n4, n5, n6⟩ := HM.out.thaw
  rcases this with rfl | rfl | rfl | rfl
  · have HP2 : Hid (stPut x 0 (findNo b c) = ⟨findNo b c, x.g1, x.g2, x.g3, x.l, x.s, x.d⟩) := Lib.hid rfl
    generalize findNo b c = f at *
    go_enter Tryz.func190, Tryz.ntmps190
    go_wp2_with fail
    refine (HF.out _ HT.out.1).mono ?_
    rintro e w2 ⟨rfl, rfl⟩
    go_wp2
    go_region
    all_goals go_wp2
    all_goals go_ret
    all_goals exact (chDone_set (y := ⟨f, x.g1, x.g2, x.g3, x.l, x.s, x.d⟩) (HE.out.trans (by rw [HP2.out])) HM.out (heap_setCell_same _ _ 0 _ _ (.int .i64 f) HM.out)).drew
  · have HP2 : Hid (stPut x 1 (findNo b c) = ⟨x.g0, findNo b c, x.g2, x.g3, x.l, x.s, x.d⟩) := Lib.hid rfl
    generalize findNo b c = f at *
    go_enter Tryz.func190, Tryz.ntmps190
    go_wp2_with fail
    refine (HF.out _ HT.out.1).mono ?_
    rintro e w2 ⟨rfl, rfl⟩
    go_wp2
    go_region
    all_goals go_wp2
    all_goals go_ret
    all_goals exact (chDone_set (y := ⟨x.g0, f, x.g2, x.g3, x.l, x.s, x.d⟩) (HE.out.trans (by rw [HP2.out])) HM.out (heap_setCell_same _ _ 1 _ _ (.int .i64 f) HM.out)).drew
  · have HP2 : Hid (stPut x 2 (findNo b c) = ⟨x.g0, x.g1, findNo b c, x.g3, x.l, x.s, x.d⟩) := Lib.hid rfl
    generalize findNo b c = f at *
    go_enter Tryz.func190, Tryz.ntmps190
    go_wp2_with fail
    refine (HF.out _ HT.out.1).mono ?_
    rintro e w2 ⟨rfl, rfl⟩
    go_wp2
    go_region
    all_goals go_wp2
    all_goals go_ret
    all_goals exact (chDone_set (y := ⟨x.g0, x.g1, f, x.g3, x.l, x.s, x.d⟩) (HE.out.trans (by rw [HP2.out])) HM.out (heap_setCell_same _ _ 2 _ _ (.int .i64 f) HM.out)).drew
  · have HP2 : Hid (stPut x 3 (findNo b c) = ⟨x.g0, x.g1, x.g2, findNo b c, x.l, x.s, x.d⟩) := Lib.hid rfl
    generalize findNo b c = f at *
    go_enter Tryz.func190, Tryz.ntmps190
    go_wp2_with fail
    refine (HF.out _ HT.out.1).mono ?_
    rintro e w2 ⟨rfl, rfl⟩
    go_wp2
    go_region
    all_goals go_wp2
    all_goals go_ret
    all_goals exact (chDone_set (y := ⟨x.g0, x.g1, x.g2, f, x.l, x.s, x.d⟩) (HE.out.trans (by rw [HP2.out])) HM.out (heap_setCell_same _ _ 3 _ _ (.int .i64 f) HM.out)).drew


theorem impl_change (x : St) (t : Tok) (g : Nat) (w : World) (h : MAt w g x) (ht : TabM w) (hk : tokLP t) (h5 : 5 ≤ t.k) : Calls Tryz.prog 190 #[.pointer (some ⟨g, 0, none⟩), tokV t] w (ChDone (calm x t) g w) := by
  obtain ⟨k, a, b, c, p, n⟩ := t
  have hk9 : k = 5 ∨ k = 6 ∨ k = 7 ∨ k = 8 ∨ k = 9 := by unfold tokLP at hk; dsimp only at hk h5; omega
  rcases hk9 with rfl | rfl | rfl | rfl | rfl
  · exact impl_change5 x g a b c p n w h
  · exact impl_change6 x g a b c p n w h
  · have h4 : 0 ≤ a ∧ a ≤ 3 ∧ 1 ≤ b ∧ b ≤ 3 := by unfold tokLP at hk; dsimp only at hk; omega
    exact impl_change7 x g a b c p n w h ht h4.1 h4.2.1 h4.2.2.1 h4.2.2.2
  · exact impl_change8 x g a b c p n w h
  · exact impl_change9 x g a b c p n w h


end Go.Proofs.YtbamjhldebobhaaGreatDoor
