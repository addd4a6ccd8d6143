/- The program's bytes of coded sets. -/
import Derived.Test.YtbamjhldebobhaaDoorMaD
import Derived.Test.YtbamjhldebobhaaDoorSetsJ
namespace Go.Proofs.YtbamjhldebobhaaDoor
open Go.RowKit Go.Sort

/-- What the machine's methods tell of a step. -/
def toldR (p : Stp) : Int := if 0 ≤ p.r then p.r else 0
def toldB (p : Stp) : Bool := decide (0 ≤ p.r)
def mvV (p : Stp) : Value := .tuple #[.int .i64 (toldR p), .bool (toldB p), .int .i64 p.c]
def MvDone (p : Stp) (b : Nat) (w : World) (e : Ending) (w' : World) : Prop := e = .returned (mvV p) ∧ MAt w' b p.y ∧ Only b w w'
theorem mv_none {p : Stp} {y : St} {c : Int} (h : p = ⟨y, -1, c⟩) : mvV p = .tuple #[.int .i64 0, .bool false, .int .i64 c] := by rw [h]; rfl
theorem mv_some {p : Stp} {y : St} {r c : Int} (h : p = ⟨y, r, c⟩) (hr : 0 ≤ r) : mvV p = .tuple #[.int .i64 r, .bool true, .int .i64 c] := by
  rw [h]; unfold mvV toldR toldB; dsimp only; rw [if_pos hr, decide_eq_true hr]
theorem only_below {b : Nat} {w w' : World} (hb : b < w.heap.size) (h : Below w.heap.size w w') : Only b w w' := ⟨h.mono (by omega), fun g _ hg => h.block g hg⟩
theorem mvDone_none {x : St} {p : Stp} {b : Nat} {w w' : World} {c : Int} (h : p = ⟨x, -1, c⟩) (hm : MAt w b x) (hb : Below w.heap.size w w') : MvDone p b w (.returned (.tuple #[.int .i64 0, .bool false, .int .i64 c])) w' :=
  ⟨by rw [mv_none h], by rw [h]; exact hm.keep hb, only_below hm.lt hb⟩

theorem mvDone_gone {x : St} {p : Stp} {b : Nat} {w w' : World} {rr : Int} (h : p = ⟨⟨x.g0, x.g1, x.g2, x.g3, x.l, 0, 0⟩, rr, 0⟩) (hr : 0 ≤ rr) (hm : MAt w b x) (hb : Below w.heap.size w w') : MvDone p b w (.returned (.tuple #[.int .i64 rr, .bool true, .int .i64 0])) ((w'.setCell ⟨b, 5, none⟩ (.int .i64 0)).setCell ⟨b, 6, none⟩ (.int .i64 0)) :=
  ⟨by rw [mv_some h hr], by rw [h]; exact heap_setCell_same _ _ 6 _ _ (.int .i64 0) (heap_setCell_same _ _ 5 _ _ (.int .i64 0) (hm.keep hb)), ((only_below hm.lt hb).trans (Only.set b 5 _ _)).trans (Only.set b 6 _ _)⟩
theorem mvDone_lead {x : St} {p : Stp} {b : Nat} {w w' : World} {v : Int} (h : p = ⟨⟨x.g0, x.g1, x.g2, x.g3, x.l, x.s, v⟩, -1, 0⟩) (hm : MAt w b x) (hb : Below w.heap.size w w') : MvDone p b w (.returned (.tuple #[.int .i64 0, .bool false, .int .i64 0])) (w'.setCell ⟨b, 6, none⟩ (.int .i64 v)) :=
  ⟨by rw [mv_none h], by rw [h]; exact heap_setCell_same _ _ 6 _ _ (.int .i64 v) (hm.keep hb), (only_below hm.lt hb).trans (Only.set b 6 _ _)⟩

/-- The lead's half. -/
theorem half_lead {x : St} (h : leadOK x = true) (h0 : x.d ≠ 0) : halfN x.d = sideNo (decide (128 < x.d)) := by
  unfold leadOK at h
  rw [Bool.or_eq_true, decide_eq_true_eq, Bool.and_eq_true, Bool.and_eq_true] at h
  rcases h with h | ⟨h1, h2, _⟩
  · exact absurd h h0
  have ⟨a, b⟩ := inB_true h1
  have ⟨c, d⟩ := inB_true h2
  rw [Int.tmod_eq_emod_of_nonneg (by omega)] at a b
  unfold halfN sideNo
  by_cases h3 : 128 < x.d
  · rw [if_pos (by omega), if_pos (by simpa using h3)]
  · rw [if_neg (by omega), if_neg (by simpa using h3)]

/-- RuneFor's code, where the set is one and the code no negative number. -/
theorem rf_told {q A : Int} (hq : setB q = true) (hA : 0 ≤ A) (x : St) : (rfC q A = 0 → gLast x q A = ⟨⟨x.g0, x.g1, x.g2, x.g3, x.l, 0, 0⟩, rfR q A, 0⟩ ∧ 0 ≤ rfR q A) ∧ (rfC q A ≠ 0 → gLast x q A = ⟨x, -1, 12⟩) := by
  have hk : codeOKB q A = kindB (setKind q) A := by unfold codeOKB; rw [hq, decide_eq_true hA]; rfl
  constructor
  · intro h
    have hr : rfR q A = runeS (setSpans q) A := by rw [rfR, if_pos h]
    unfold rfC at h
    rw [if_pos hq, hk] at h
    split at h
    · split at h
      · cases h
      · next h1 h2 =>
        rw [hr]
        exact ⟨by rw [gLast, if_pos ⟨h1, by omega⟩], by omega⟩
    · cases h
  · intro h
    unfold rfC at h
    rw [if_pos hq, hk] at h
    unfold gLast
    split
    · next h1 => rw [if_pos h1.1, if_neg (by omega)] at h; exact absurd rfl h
    · rfl

set_option maxHeartbeats 1000000 in
set_option maxRecDepth 100000 in
theorem impl_take (x : St) (b : Nat) (r : Bool) (a : Int) (w : World) (h : MAt w b x) (ht : TabM w) (hx : stOKB x = true) (a0 : 0 ≤ a) (a1 : a ≤ 255) : Calls Tryd.prog 54 #[.pointer (some ⟨b, 0, none⟩), .int .i64 (sideNo r), .int .i64 a] w (MvDone (graphic x a r) b w) := by
  obtain ⟨h1, h2, h3⟩ := stOK_parts hx
  have ⟨d0, d1⟩ := lead_range h3
  have HL := Lib.hid (half_lead h3)
  have hs : (sideNo r == 128) = r := by cases r <;> rfl
  have HF := Lib.hid (fun w h => impl_setFor x b (sideNo r) w h h2)
  rw [hs] at HF
  obtain ⟨k, hk, k8⟩ := setAt_nat h1 r
  rw [hk] at HF
  have HG : Hid (graphic x a r = if (k : Int) = 0 then ⟨x, -1, 17⟩
    else if setKind k = 3 then
      if 0 < x.d ∧ decide (128 < x.d) ≠ r then ⟨x, -1, 13⟩ else if inB a 33 126 = false then ⟨x, -1, 12⟩ else if x.d = 0 then ⟨⟨x.g0, x.g1, x.g2, x.g3, x.l, x.s, a + sideNo r⟩, -1, 0⟩
      else gLast x k (a + (x.d - sideNo r) * 256)
    else gLast x k a) := Lib.hid (by
      have hk' : stGet x (sideOf x r) = (k : Int) := hk
      rw [graphic, hk'])
  have HM := Lib.hid h
  have HT := Lib.hid ht
  have hb : b < w.heap.size := h.lt
  clear h ht hx h1 h2 h3 hk hs
  by_cases k0 : k = 0
  · subst k0
    have HE : Hid (graphic x a r = ⟨x, -1, 17⟩) := Lib.hid (by rw [HG.out, if_pos (show ((0 : Nat) : Int) = 0 from rfl)])
    go_enter Tryd.func54, Tryd.ntmps54
    go_wp2_with fail
    refine (HF.out w HM.out).mono ?_
    rintro e w1 ⟨rfl, b1⟩
    go_wp2
    go_ret3
    exact mvDone_none HE.out HM.out b1
  have kz : ¬ (k : Int) = 0 := by omega
  have ek : ((k : Int) == 0) = false := by rw [beq_eq_false_iff_ne]; exact kz
  have hsb : setB (k : Int) = true := by simp [setB, inB]; omega
  have u1 : (0 : Int) ≤ (k : Int) := by omega
  have u2 : (k : Int) < 9 := by omega
  by_cases k3 : setKind (k : Int) = 3
  · have HK : Hid (kind0 (k : Int) = 3) := Lib.hid (by rw [kind0, if_neg kz, k3])
    have HC := Lib.hid (fun w => impl_isCode94 a w)
    have hv : sideNo r = 0 ∨ sideNo r = 128 := by cases r <;> simp [sideNo]
    by_cases z : x.d = 0
    · have HW : Hid (¬ (0 < x.d ∧ decide (128 < x.d) ≠ r)) := Lib.hid (fun h => by omega)
      have ez : (x.d != 0) = false := by simp [z]
      have ez2 : (x.d == 0) = true := by simpa using z
      cases hin : inB a 33 126
      · have HE : Hid (graphic x a r = ⟨x, -1, 12⟩) := Lib.hid (by rw [HG.out, if_neg kz, if_pos k3, if_neg HW.out, if_pos hin])
        rw [hin] at HC
        clear HG HL z k3 kz hsb
        go_enter Tryd.func54, Tryd.ntmps54
        go_wp2_with fail
        refine (HF.out w HM.out).mono ?_
        rintro e w1 ⟨rfl, b1⟩
        have c1 := (HT.out.keep b1).kind k k8
        rw [HK.out] at c1
        have HM1 := Lib.hid (HM.out.keep b1)
        have ⟨y0, y1, y2, y3, y4, y5, y6⟩ := HM1.out.cells
        go_wp2_with fail
        refine (HC.out w1).mono ?_
        rintro e w2 ⟨rfl, rfl⟩
        go_wp2
        go_ret3
        exact mvDone_none HE.out HM.out b1
      · have HE : Hid (graphic x a r = ⟨⟨x.g0, x.g1, x.g2, x.g3, x.l, x.s, sideNo r + a⟩, -1, 0⟩) := Lib.hid (by rw [HG.out, if_neg kz, if_pos k3, if_neg HW.out, if_neg (by rw [hin]; decide), if_pos z, Int.add_comm])
        have uw : IntKind.i64.wrap (sideNo r + a) = sideNo r + a := IntWalk.i64_in _ (by omega)
        rw [hin] at HC
        clear HG HL z k3 kz hsb hv
        go_enter Tryd.func54, Tryd.ntmps54
        go_wp2_with fail
        refine (HF.out w HM.out).mono ?_
        rintro e w1 ⟨rfl, b1⟩
        have c1 := (HT.out.keep b1).kind k k8
        rw [HK.out] at c1
        have HM1 := Lib.hid (HM.out.keep b1)
        have ⟨y0, y1, y2, y3, y4, y5, y6⟩ := HM1.out.cells
        go_wp2_with fail
        refine (HC.out w1).mono ?_
        rintro e w2 ⟨rfl, rfl⟩
        have ⟨q0, q1, q2, q3, q4, q5, q6⟩ := HM1.out.thaw
        have hl2 : b < w1.heap.size := HM1.out.lt
        go_wp2
        go_ret3
        exact mvDone_lead HE.out HM.out b1
    · have hpos : 0 < x.d := by omega
      have ez : (x.d != 0) = true := by simpa using z
      have ez2 : (x.d == 0) = false := by rw [beq_eq_false_iff_ne]; exact z
      have HH := Lib.hid (fun w => impl_halfOf x.d w)
      rw [HL.out z] at HH
      cases hd : (sideNo (decide (128 < x.d)) != sideNo r)
      · have hd2 : decide (128 < x.d) = r := by
          cases h : decide (128 < x.d) <;> cases r <;> rw [h] at hd <;> first | rfl | (revert hd; decide)
        have HW : Hid (¬ (0 < x.d ∧ decide (128 < x.d) ≠ r)) := Lib.hid (fun h => h.2 hd2)
        have hdr : 128 ≤ x.d ∨ sideNo r = 0 := by
          cases r
          · exact .inr rfl
          · have := of_decide_eq_true hd2; exact .inl (by omega)
        generalize sideNo (decide (128 < x.d)) = hf at *
        cases hin : inB a 33 126
        · have HE : Hid (graphic x a r = ⟨x, -1, 12⟩) := Lib.hid (by rw [HG.out, if_neg kz, if_pos k3, if_neg HW.out, if_pos hin])
          rw [hin] at HC
          clear HG HL z k3 kz hsb hd2
          go_enter Tryd.func54, Tryd.ntmps54
          go_wp2_with fail
          refine (HF.out w HM.out).mono ?_
          rintro e w1 ⟨rfl, b1⟩
          have c1 := (HT.out.keep b1).kind k k8
          rw [HK.out] at c1
          have HM1 := Lib.hid (HM.out.keep b1)
          have ⟨y0, y1, y2, y3, y4, y5, y6⟩ := HM1.out.cells
          go_wp2_with fail
          refine (HH.out w1).mono ?_
          rintro e w2 ⟨rfl, rfl⟩
          go_wp2_with fail
          refine (HC.out w1).mono ?_
          rintro e w2 ⟨rfl, rfl⟩
          go_wp2
          go_ret3
          exact mvDone_none HE.out HM.out b1
        · have HE : Hid (graphic x a r = gLast x k ((x.d - sideNo r) * 256 + a)) := Lib.hid (by rw [HG.out, if_neg kz, if_pos k3, if_neg HW.out, if_neg (by rw [hin]; decide), if_neg z, Int.add_comm])
          have hA : 0 ≤ (x.d - sideNo r) * 256 + a := by omega
          have HR := Lib.hid (rf_told hsb hA x)
          have HU := Lib.hid (fun w ht => impl_RuneFor (k : Int) ((x.d - sideNo r) * 256 + a) w ht (by omega) (by omega))
          have uw1 : IntKind.i64.wrap (x.d - sideNo r) = x.d - sideNo r := IntWalk.i64_in _ (by omega)
          have uw2 : IntKind.i64.wrap ((x.d - sideNo r) * 256) = (x.d - sideNo r) * 256 := IntWalk.i64_in _ (by omega)
          have uw3 : IntKind.i64.wrap ((x.d - sideNo r) * 256 + a) = (x.d - sideNo r) * 256 + a := IntWalk.i64_in _ (by omega)
          rw [hin] at HC
          unfold rfV at HU
          clear HG HL z k3 kz hsb hd2
          generalize rfR (k : Int) ((x.d - sideNo r) * 256 + a) = rr at *
          generalize rfC (k : Int) ((x.d - sideNo r) * 256 + a) = rc at *
          go_enter Tryd.func54, Tryd.ntmps54
          go_wp2_with fail
          refine (HF.out w HM.out).mono ?_
          rintro e w1 ⟨rfl, b1⟩
          have c1 := (HT.out.keep b1).kind k k8
          rw [HK.out] at c1
          have HM1 := Lib.hid (HM.out.keep b1)
          have ⟨y0, y1, y2, y3, y4, y5, y6⟩ := HM1.out.cells
          go_wp2_with fail
          refine (HH.out w1).mono ?_
          rintro e w2 ⟨rfl, rfl⟩
          go_wp2_with fail
          refine (HC.out w1).mono ?_
          rintro e w2 ⟨rfl, rfl⟩
          go_wp2_with fail
          refine (HU.out w1 (HT.out.keep b1).1).mono ?_
          rintro e w2 ⟨rfl, b2⟩
          have B2 : Below w.heap.size w w2 := b1.trans (b2.mono b1.size)
          clear y0 y1 y2 y3 y4 y5 y6 c1
          by_cases hc : rc = 0
          · have ⟨hE, hr⟩ := HR.out.1 hc
            have HE2 : Hid (graphic x a r = ⟨⟨x.g0, x.g1, x.g2, x.g3, x.l, 0, 0⟩, rr, 0⟩) := Lib.hid (HE.out.trans hE)
            have HM2 := Lib.hid (HM.out.keep B2)
            have ⟨y0, y1, y2, y3, y4, y5, y6⟩ := HM2.out.cells
            have ⟨q0, q1, q2, q3, q4, q5, q6⟩ := HM2.out.thaw
            have hl2 : b < w2.heap.size := HM2.out.lt
            clear hE
            go_wp2
            go_ret3
            exact mvDone_gone HE2.out hr HM.out B2
          · have HE2 : Hid (graphic x a r = ⟨x, -1, 12⟩) := Lib.hid (HE.out.trans (HR.out.2 hc))
            have ec : (rc != 0) = true := by simpa using hc
            go_wp2
            go_ret3
            exact mvDone_none HE2.out HM.out B2
      · have hd2 : decide (128 < x.d) ≠ r := fun h => by rw [h] at hd; simp at hd
        have HE : Hid (graphic x a r = ⟨x, -1, 13⟩) := Lib.hid (by rw [HG.out, if_neg kz, if_pos k3, if_pos ⟨hpos, hd2⟩])
        generalize sideNo (decide (128 < x.d)) = hf at *
        clear HG HL z k3 kz hsb hd2
        go_enter Tryd.func54, Tryd.ntmps54
        go_wp2_with fail
        refine (HF.out w HM.out).mono ?_
        rintro e w1 ⟨rfl, b1⟩
        have c1 := (HT.out.keep b1).kind k k8
        rw [HK.out] at c1
        have HM1 := Lib.hid (HM.out.keep b1)
        have ⟨y0, y1, y2, y3, y4, y5, y6⟩ := HM1.out.cells
        go_wp2_with fail
        refine (HH.out w1).mono ?_
        rintro e w2 ⟨rfl, rfl⟩
        go_wp2
        go_ret3
        exact mvDone_none HE.out HM.out b1
  · have HE : Hid (graphic x a r = gLast x k a) := Lib.hid (by rw [HG.out, if_neg kz, if_neg k3])
    have HR := Lib.hid (rf_told hsb a0 x)
    have HU := Lib.hid (fun w ht => impl_RuneFor (k : Int) a w ht (by omega) (by omega))
    have e3 : (setKind (k : Int) == 3) = false := by rw [beq_eq_false_iff_ne]; exact k3
    have HK : Hid (kind0 (k : Int) = setKind k) := Lib.hid (by rw [kind0, if_neg kz])
    clear k3 kz hsb HG
    unfold rfV at HU
    generalize rfR (k : Int) a = rr at *
    generalize rfC (k : Int) a = rc at *
    go_enter Tryd.func54, Tryd.ntmps54
    go_wp2_with fail
    refine (HF.out w HM.out).mono ?_
    rintro e w1 ⟨rfl, b1⟩
    have c1 := (HT.out.keep b1).kind k k8
    rw [HK.out] at c1
    generalize setKind (k : Int) = kd at *
    go_wp2_with fail
    refine (HU.out w1 (HT.out.keep b1).1).mono ?_
    rintro e w2 ⟨rfl, b2⟩
    have B2 : Below w.heap.size w w2 := b1.trans (b2.mono b1.size)
    by_cases hc : rc = 0
    · have ⟨hE, hr⟩ := HR.out.1 hc
      have HE2 : Hid (graphic x a r = ⟨⟨x.g0, x.g1, x.g2, x.g3, x.l, 0, 0⟩, rr, 0⟩) := Lib.hid (HE.out.trans hE)
      have HM2 := Lib.hid (HM.out.keep B2)
      have ⟨y0, y1, y2, y3, y4, y5, y6⟩ := HM2.out.cells
      have ⟨q0, q1, q2, q3, q4, q5, q6⟩ := HM2.out.thaw
      have hl2 : b < w2.heap.size := HM2.out.lt
      clear hE c1
      go_wp2
      go_ret3
      exact mvDone_gone HE2.out hr HM.out B2
    · have HE2 : Hid (graphic x a r = ⟨x, -1, 12⟩) := Lib.hid (HE.out.trans (HR.out.2 hc))
      have ec : (rc != 0) = true := by simpa using hc
      go_wp2
      go_ret3
      exact mvDone_none HE2.out HM.out B2

end Go.Proofs.YtbamjhldebobhaaDoor
