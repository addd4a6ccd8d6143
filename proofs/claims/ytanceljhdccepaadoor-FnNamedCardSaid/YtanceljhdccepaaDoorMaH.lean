/- The program's step of a token, and StepState. -/
import Derived.Test.YtanceljhdccepaaDoorMaG
import Derived.Test.YtanceljhdccepaaDoorStH
namespace Go.Proofs.YtanceljhdccepaaDoor
open Go.RowKit Go.Sort

set_option maxHeartbeats 1000000 in
set_option maxRecDepth 100000 in
theorem impl_step3 (x : St) (g : Nat) (a b c p n : Int) (w : World) (h : MAt w g x) (ht : TabM w) (hx : stOKB x = true) (a0 : 0 ≤ a) (a1 : a ≤ 255) : Calls Tryd.prog 46 #[.pointer (some ⟨g, 0, none⟩), tokV ⟨3, a, b, c, p, n⟩] w (MvDone (stepT x ⟨3, a, b, c, p, n⟩) g w) := by
  have B0 := Lib.hid (below_one w (.cells #[.int .i64 3, .int .i64 a, .int .i64 b, .int .i64 c, .int .i64 p, .int .i64 n] 38))
  have HM := Lib.hid h
  have HM0 := Lib.hid (h.keep B0.out)
  have HT0 := Lib.hid (ht.keep B0.out)
  have hg : g < w.heap.size := h.lt
  have HG := Lib.hid (fun w h ht => impl_take x g false a w h ht hx a0 a1)
  rw [show sideNo false = 0 from rfl] at HG
  have HE : Hid (stepT x ⟨3, a, b, c, p, n⟩ = graphic x a false) := Lib.hid rfl
  unfold MvDone mvV at HG
  generalize graphic x a false = q at *
  have HV : Hid (mvV q = .tuple #[.int .i64 (toldR q), .bool (toldB q), .int .i64 q.c]) := Lib.hid rfl
  generalize toldR q = tr at *
  generalize toldB q = tb at *
  clear h ht hx
  unfold tokV
  go_enter Tryd.func46, Tryd.ntmps46
  go_wp2_with fail
  refine (HG.out _ HM0.out HT0.out).mono ?_
  rintro e w2 ⟨rfl, m2, o2⟩
  go_wp2
  go_ret3
  refine MvDone.from ⟨?_, ?_, o2⟩ hg B0.out
  · rw [HE.out, HV.out]; rfl
  · rw [HE.out]; exact m2

set_option maxHeartbeats 1000000 in
set_option maxRecDepth 100000 in
theorem impl_step4 (x : St) (g : Nat) (a b c p n : Int) (w : World) (h : MAt w g x) (ht : TabM w) (hx : stOKB x = true) (a0 : 0 ≤ a) (a1 : a ≤ 255) : Calls Tryd.prog 46 #[.pointer (some ⟨g, 0, none⟩), tokV ⟨4, a, b, c, p, n⟩] w (MvDone (stepT x ⟨4, a, b, c, p, n⟩) g w) := by
  have B0 := Lib.hid (below_one w (.cells #[.int .i64 4, .int .i64 a, .int .i64 b, .int .i64 c, .int .i64 p, .int .i64 n] 38))
  have HM := Lib.hid h
  have HM0 := Lib.hid (h.keep B0.out)
  have HT0 := Lib.hid (ht.keep B0.out)
  have hg : g < w.heap.size := h.lt
  have HG := Lib.hid (fun w h ht => impl_take x g true a w h ht hx a0 a1)
  rw [show sideNo true = 128 from rfl] at HG
  have HE : Hid (stepT x ⟨4, a, b, c, p, n⟩ = graphic x a true) := Lib.hid rfl
  unfold MvDone mvV at HG
  generalize graphic x a true = q at *
  have HV : Hid (mvV q = .tuple #[.int .i64 (toldR q), .bool (toldB q), .int .i64 q.c]) := Lib.hid rfl
  generalize toldR q = tr at *
  generalize toldB q = tb at *
  clear h ht hx
  unfold tokV
  go_enter Tryd.func46, Tryd.ntmps46
  go_wp2_with fail
  refine (HG.out _ HM0.out HT0.out).mono ?_
  rintro e w2 ⟨rfl, m2, o2⟩
  go_wp2
  go_ret3
  refine MvDone.from ⟨?_, ?_, o2⟩ hg B0.out
  · rw [HE.out, HV.out]; rfl
  · rw [HE.out]; exact m2

set_option maxHeartbeats 1000000 in
set_option maxRecDepth 100000 in
theorem impl_step2 (x : St) (g : Nat) (a b c p n : Int) (w : World) (h : MAt w g x) (ht : TabM w) (hx : stOKB x = true) : Calls Tryd.prog 46 #[.pointer (some ⟨g, 0, none⟩), tokV ⟨2, a, b, c, p, n⟩] w (MvDone (stepT x ⟨2, a, b, c, p, n⟩) g w) := by
  have B0 := Lib.hid (below_one w (.cells #[.int .i64 2, .int .i64 a, .int .i64 b, .int .i64 c, .int .i64 p, .int .i64 n] 38))
  have HM := Lib.hid h
  have HM0 := Lib.hid (h.keep B0.out)
  have HT0 := Lib.hid (ht.keep B0.out)
  have hg : g < w.heap.size := h.lt
  have HG := Lib.hid (fun w h ht => impl_space x g w h ht hx)
  have HE : Hid (stepT x ⟨2, a, b, c, p, n⟩ = spaceP x) := Lib.hid (space_eq hx _ rfl)
  unfold MvDone mvV at HG
  generalize spaceP x = q at *
  have HV : Hid (mvV q = .tuple #[.int .i64 (toldR q), .bool (toldB q), .int .i64 q.c]) := Lib.hid rfl
  generalize toldR q = tr at *
  generalize toldB q = tb at *
  clear h ht hx
  unfold tokV
  go_enter Tryd.func46, Tryd.ntmps46
  go_wp2_with fail
  refine (HG.out _ HM0.out HT0.out).mono ?_
  rintro e w2 ⟨rfl, m2, o2⟩
  go_wp2
  go_ret3
  refine MvDone.from ⟨?_, ?_, o2⟩ hg B0.out
  · rw [HE.out, HV.out]; rfl
  · rw [HE.out]; exact m2

set_option maxHeartbeats 1000000 in
set_option maxRecDepth 100000 in
theorem impl_stepP (x : St) (g : Nat) (k a b c p n : Int) (w : World) (h : MAt w g x) (ht : TabM w) (hx : stOKB x = true) (hp : pendB x = true) (h2 : k ≠ 2) (h3 : k ≠ 3) (h4 : k ≠ 4) : Calls Tryd.prog 46 #[.pointer (some ⟨g, 0, none⟩), tokV ⟨k, a, b, c, p, n⟩] w (MvDone (stepT x ⟨k, a, b, c, p, n⟩) g w) := by
  have B0 := Lib.hid (below_one w (.cells #[.int .i64 k, .int .i64 a, .int .i64 b, .int .i64 c, .int .i64 p, .int .i64 n] 38))
  have HM := Lib.hid h
  have HM0 := Lib.hid (h.keep B0.out)
  have HT0 := Lib.hid (ht.keep B0.out)
  have hg : g < w.heap.size := h.lt
  have HP := Lib.hid (fun w h => impl_pending x g w h)
  rw [pend_eq hx, hp] at HP
  have HE : Hid (stepT x ⟨k, a, b, c, p, n⟩ = ⟨x, -1, 13⟩) := Lib.hid (by rw [stepT, if_neg h3, if_neg h4, if_pos hp, if_neg (fun h => h2 h.1)])
  have e2 : (k == 2) = false := by rw [beq_eq_false_iff_ne]; exact h2
  have e3 : (k == 3) = false := by rw [beq_eq_false_iff_ne]; exact h3
  have e4 : (k == 4) = false := by rw [beq_eq_false_iff_ne]; exact h4
  clear hp h2 h3 h4
  clear h ht hx
  unfold tokV
  go_enter Tryd.func46, Tryd.ntmps46
  go_wp2_with fail
  refine (HP.out _ HM0.out).mono ?_
  rintro e w2 ⟨rfl, rfl⟩
  go_wp2
  go_ret3
  exact mvDone_none HE.out HM.out B0.out

set_option maxHeartbeats 1000000 in
set_option maxRecDepth 100000 in
theorem impl_step1 (x : St) (g : Nat) (a b c p n : Int) (w : World) (h : MAt w g x) (ht : TabM w) (hx : stOKB x = true) (hp : pendB x = false) (ha : 0 ≤ a) : Calls Tryd.prog 46 #[.pointer (some ⟨g, 0, none⟩), tokV ⟨1, a, b, c, p, n⟩] w (MvDone (stepT x ⟨1, a, b, c, p, n⟩) g w) := by
  have B0 := Lib.hid (below_one w (.cells #[.int .i64 1, .int .i64 a, .int .i64 b, .int .i64 c, .int .i64 p, .int .i64 n] 38))
  have HM := Lib.hid h
  have HM0 := Lib.hid (h.keep B0.out)
  have HT0 := Lib.hid (ht.keep B0.out)
  have hg : g < w.heap.size := h.lt
  have HP := Lib.hid (fun w h => impl_pending x g w h)
  rw [pend_eq hx, hp] at HP
  have HC := Lib.hid (fun w => impl_control a w)
  clear h ht hx
  unfold tokV
  by_cases h1 : 127 < a
  · have HE : Hid (stepT x ⟨1, a, b, c, p, n⟩ = ⟨x, -1, 10⟩) := Lib.hid (by rw [stepT, if_neg (by simp), if_neg (by simp), if_neg (by rw [hp]; decide), calm, if_pos rfl, if_pos h1])
    rw [if_pos h1] at HC
    clear hp h1
    go_enter Tryd.func46, Tryd.ntmps46
    go_wp2_with fail
    refine (HP.out _ HM0.out).mono ?_
    rintro e w2 ⟨rfl, rfl⟩
    go_wp2_with fail
    refine (HC.out _).mono ?_
    rintro e w2 ⟨rfl, rfl⟩
    go_wp2
    go_ret3
    exact mvDone_none HE.out HM.out B0.out
  · have HE : Hid (stepT x ⟨1, a, b, c, p, n⟩ = ⟨x, a, 0⟩) := Lib.hid (by rw [stepT, if_neg (by simp), if_neg (by simp), if_neg (by rw [hp]; decide), calm, if_pos rfl, if_neg h1])
    rw [if_neg h1] at HC
    clear hp h1
    go_enter Tryd.func46, Tryd.ntmps46
    go_wp2_with fail
    refine (HP.out _ HM0.out).mono ?_
    rintro e w2 ⟨rfl, rfl⟩
    go_wp2_with fail
    refine (HC.out _).mono ?_
    rintro e w2 ⟨rfl, rfl⟩
    go_wp2
    go_ret3
    exact mvDone_same HE.out ha HM.out B0.out

/-- What changes the machine tells no character. -/
theorem calm_none {x : St} {t : Tok} (h : 5 ≤ t.k) : (calm x t).r = -1 := by
  unfold calm
  rw [if_neg (by omega), if_neg (by omega)]
  repeat' split
  all_goals rfl
theorem MvDone.ofCh {q : Stp} {g : Nat} {w w' : World} {c : Int} (hr : q.r = -1) (hc : c = q.c) (hm : MAt w' g q.y) (ho : Only g w w') : MvDone q g w (.returned (.tuple #[.int .i64 0, .bool false, .int .i64 c])) w' :=
  ⟨by rw [hc]; unfold mvV toldR toldB; rw [hr]; rfl, hm, ho⟩

set_option maxHeartbeats 1000000 in
set_option maxRecDepth 100000 in
theorem impl_step5 (x : St) (g : Nat) (k a b c p n : Int) (w : World) (h : MAt w g x) (ht : TabM w) (hx : stOKB x = true) (hp : pendB x = false) (hk : tokOKP ⟨k, a, b, c, p, n⟩) (h5 : 5 ≤ k) : Calls Tryd.prog 46 #[.pointer (some ⟨g, 0, none⟩), tokV ⟨k, a, b, c, p, n⟩] w (MvDone (stepT x ⟨k, a, b, c, p, n⟩) g w) := by
  have B0 := Lib.hid (below_one w (.cells #[.int .i64 k, .int .i64 a, .int .i64 b, .int .i64 c, .int .i64 p, .int .i64 n] 38))
  have HM := Lib.hid h
  have HM0 := Lib.hid (h.keep B0.out)
  have HT0 := Lib.hid (ht.keep B0.out)
  have hg : g < w.heap.size := h.lt
  have HP := Lib.hid (fun w h => impl_pending x g w h)
  rw [pend_eq hx, hp] at HP
  have HC := Lib.hid (fun w h ht => impl_change x ⟨k, a, b, c, p, n⟩ g w h ht hk h5)
  have HE : Hid (stepT x ⟨k, a, b, c, p, n⟩ = calm x ⟨k, a, b, c, p, n⟩) := Lib.hid (by rw [stepT, if_neg (show ¬ k = 3 by omega), if_neg (show ¬ k = 4 by omega), if_neg (by rw [hp]; decide)])
  have HN := Lib.hid (calm_none (x := x) (t := ⟨k, a, b, c, p, n⟩) h5)
  unfold ChDone tokV at HC
  generalize calm x ⟨k, a, b, c, p, n⟩ = q at *
  have e1 : (k == 1) = false := by rw [beq_eq_false_iff_ne]; omega
  have e2 : (k == 2) = false := by rw [beq_eq_false_iff_ne]; omega
  have e3 : (k == 3) = false := by rw [beq_eq_false_iff_ne]; omega
  have e4 : (k == 4) = false := by rw [beq_eq_false_iff_ne]; omega
  clear hp hk h5
  clear h ht hx
  unfold tokV
  go_enter Tryd.func46, Tryd.ntmps46
  go_wp2_with fail
  refine (HP.out _ HM0.out).mono ?_
  rintro e w2 ⟨rfl, rfl⟩
  go_wp2_with fail
  refine (HC.out _ HM0.out HT0.out).mono ?_
  rintro e w2 ⟨rfl, m2, o2⟩
  go_wp2
  go_ret3
  rw [HE.out]
  exact MvDone.ofCh HN.out rfl m2 ((only_below hg B0.out).trans o2)

theorem impl_step (x : St) (t : Tok) (g : Nat) (w : World) (h : MAt w g x) (ht : TabM w) (hx : stOKB x = true) (hk : tokOKP t) : Calls Tryd.prog 46 #[.pointer (some ⟨g, 0, none⟩), tokV t] w (MvDone (stepT x t) g w) := by
  obtain ⟨k, a, b, c, p, n⟩ := t
  have hk9 : 1 ≤ k ∧ k ≤ 9 := by unfold tokOKP at hk; dsimp only at hk; omega
  by_cases h3 : k = 3
  · subst h3
    have ha : 0 ≤ a ∧ a ≤ 255 := by unfold tokOKP at hk; dsimp only at hk; omega
    exact impl_step3 x g a b c p n w h ht hx ha.1 ha.2
  by_cases h4 : k = 4
  · subst h4
    have ha : 0 ≤ a ∧ a ≤ 255 := by unfold tokOKP at hk; dsimp only at hk; omega
    exact impl_step4 x g a b c p n w h ht hx ha.1 ha.2
  by_cases h2 : k = 2
  · subst h2
    exact impl_step2 x g a b c p n w h ht hx
  cases hp : pendB x
  · by_cases h1 : k = 1
    · subst h1
      have ha : 0 ≤ a := by unfold tokOKP at hk; dsimp only at hk; omega
      exact impl_step1 x g a b c p n w h ht hx hp ha
    · exact impl_step5 x g k a b c p n w h ht hx hp hk (by omega)
  · exact impl_stepP x g k a b c p n w h ht hx hp h2 h3 h4

end Go.Proofs.YtanceljhdccepaaDoor
