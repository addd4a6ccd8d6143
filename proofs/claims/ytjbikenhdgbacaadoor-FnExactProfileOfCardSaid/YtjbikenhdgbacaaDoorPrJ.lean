/- The program's AtRest and LineEnd. -/
import Derived.Test.YtjbikenhdgbacaaDoorPrI
import Derived.Test.YtjbikenhdgbacaaDoorMaF
import Derived.Test.YtjbikenhdgbacaaDoorStL
namespace Go.Proofs.YtjbikenhdgbacaaDoor
open Go.RowKit

theorem GuAt.new (w : World) (n : Int) (m : Value) : GuAt (w.alloc (.cells #[.int .i64 n, .string (prName n), .string (prHead n), .slice none 0 0, .bool (prRight n), .bool (prShifts n), .bool (prSingle n), .bool (prReset n), .bool (prClear n), m] 108)) w.heap.size n m := heap_alloc_new _ _

set_option maxHeartbeats 1000000 in
theorem impl_AtRest (n : Int) (x : St) (w : World) (ht : TabM w) (hw : Wide64 x) : Calls Tryd.prog 45 #[.int .i64 n, stV x] w (ArDone n x w) := by
  have HN := Lib.hid (fun w => impl_isProfile n w)
  have HF := Lib.hid (fun w => impl_machineOf x w)
  have HO := Lib.hid (fun b w h ht => impl_ok x b w h ht hw.1 hw.2)
  have HT := Lib.hid ht
  have B0 := Lib.hid (below_one w (.cells #[.int .i64 x.g0, .int .i64 x.g1, .int .i64 x.g2, .int .i64 x.g3, .int .i64 x.l, .int .i64 x.s, .int .i64 x.d] 24))
  clear ht hw
  unfold StDone stV at HF
  unfold stV
  cases hn : proB n
  · have HC : Hid (arC n x = 5) := Lib.hid (by simp [arC, hn])
    rw [hn] at HN
    go_enter Tryd.func45, Tryd.ntmps45
    go_wp2_with fail
    refine (HN.out _).mono ?_
    rintro e w1 ⟨rfl, rfl⟩
    go_wp2
    go_ret2
    exact arDone_bad HC.out (by decide) B0.out
  have HN1 := Lib.hid hn
  have HG := Lib.hid (fun w ht => impl_guideOf n w ht hn)
  unfold guV at HG
  rw [hn] at HN
  clear hn
  cases ho : stOKB x
  · have HC : Hid (arC n x = 1) := Lib.hid (by simp [arC, HN1.out, ho])
    rw [ho] at HO
    go_enter Tryd.func45, Tryd.ntmps45
    go_wp2_with fail
    refine (HN.out _).mono ?_
    rintro e w1 ⟨rfl, rfl⟩
    go_wp2_with fail
    refine (HF.out _).mono ?_
    generalize w.alloc (.cells #[.int .i64 x.g0, .int .i64 x.g1, .int .i64 x.g2, .int .i64 x.g3, .int .i64 x.l, .int .i64 x.s, .int .i64 x.d] 24) = W0 at *
    rintro e w1 ⟨rfl, b1⟩
    have B1 : Hid (Below w.heap.size w w1) := Lib.hid (B0.out.trans (b1.mono B0.out.size))
    have B2 : Hid (Below w.heap.size w (w1.alloc (.cells #[.int .i64 x.g0, .int .i64 x.g1, .int .i64 x.g2, .int .i64 x.g3, .int .i64 x.l, .int .i64 x.s, .int .i64 x.d] 80))) := Lib.hid (B1.out.alloc B1.out.size _)
    have HM := Lib.hid (MAt.new w1 x)
    have HT2 := Lib.hid (HT.out.keep B2.out)
    clear b1
    go_wp2_with fail
    refine (HO.out w1.heap.size _ HM.out HT2.out).mono ?_
    generalize w1.alloc (.cells #[.int .i64 x.g0, .int .i64 x.g1, .int .i64 x.g2, .int .i64 x.g3, .int .i64 x.l, .int .i64 x.s, .int .i64 x.d] 80) = W1 at *
    rintro e W2 ⟨rfl, b2⟩
    have B3 : Hid (Below w.heap.size w W2) := Lib.hid (B2.out.trans (b2.mono B2.out.size))
    clear b2
    go_wp2
    go_ret2
    exact arDone_bad HC.out (by decide) B3.out
  · have HO1 := Lib.hid ho
    have HR := Lib.hid (fun g b w hg hm => impl_atRest n x (.map none) g b w hg hm ho)
    rw [ho] at HO
    clear ho
    obtain ⟨q, hq⟩ : ∃ q, restB n x = q := ⟨_, rfl⟩
    rw [hq] at HR
    have HQ := Lib.hid hq
    clear hq
    go_enter Tryd.func45, Tryd.ntmps45
    go_wp2_with fail
    refine (HN.out _).mono ?_
    rintro e w1 ⟨rfl, rfl⟩
    go_wp2_with fail
    refine (HF.out _).mono ?_
    generalize w.alloc (.cells #[.int .i64 x.g0, .int .i64 x.g1, .int .i64 x.g2, .int .i64 x.g3, .int .i64 x.l, .int .i64 x.s, .int .i64 x.d] 24) = W0 at *
    rintro e w1 ⟨rfl, b1⟩
    have B1 : Hid (Below w.heap.size w w1) := Lib.hid (B0.out.trans (b1.mono B0.out.size))
    have B2 : Hid (Below w.heap.size w (w1.alloc (.cells #[.int .i64 x.g0, .int .i64 x.g1, .int .i64 x.g2, .int .i64 x.g3, .int .i64 x.l, .int .i64 x.s, .int .i64 x.d] 80))) := Lib.hid (B1.out.alloc B1.out.size _)
    have HM := Lib.hid (MAt.new w1 x)
    have HT2 := Lib.hid (HT.out.keep B2.out)
    clear b1
    go_wp2_with fail
    refine (HO.out w1.heap.size _ HM.out HT2.out).mono ?_
    generalize w1.alloc (.cells #[.int .i64 x.g0, .int .i64 x.g1, .int .i64 x.g2, .int .i64 x.g3, .int .i64 x.l, .int .i64 x.s, .int .i64 x.d] 80) = W1 at *
    rintro e W2 ⟨rfl, b2⟩
    have B3 : Hid (Below w.heap.size w W2) := Lib.hid (B2.out.trans (b2.mono B2.out.size))
    have HM3 := Lib.hid (HM.out.keep b2)
    have HT3 := Lib.hid (HT2.out.keep b2)
    clear b2 B2 HM HT2
    go_wp2_with fail
    refine (HG.out _ HT3.out.1).mono ?_
    rintro e W3 ⟨rfl, b3⟩
    have B4 : Hid (Below w.heap.size w W3) := Lib.hid (B3.out.trans (b3.mono B3.out.size))
    have B5 : Hid (Below w.heap.size w (W3.alloc (.cells #[.int .i64 n, .string (prName n), .string (prHead n), .slice none 0 0, .bool (prRight n), .bool (prShifts n), .bool (prSingle n), .bool (prReset n), .bool (prClear n), .map none] 108))) := Lib.hid (B4.out.alloc B4.out.size _)
    have HM4 := Lib.hid ((HM3.out.keep b3).keep (below_one W3 (.cells #[.int .i64 n, .string (prName n), .string (prHead n), .slice none 0 0, .bool (prRight n), .bool (prShifts n), .bool (prSingle n), .bool (prReset n), .bool (prClear n), .map none] 108)))
    have HG4 := Lib.hid (GuAt.new W3 n (.map none))
    clear b3 B3 HM3 HT3
    go_wp2_with fail
    refine (HR.out _ _ _ HG4.out HM4.out).mono ?_
    rintro e W4 ⟨rfl, rfl⟩
    go_wp2
    go_ret2
    exact arDone_ok HN1.out HO1.out HQ.out B5.out

/-- What endLine leaves: the code, the machine. -/
def elC (n : Int) (x : St) : Int := if restB n x = true then 0 else 14
def elX (n : Int) (x : St) : St := if restB n x = true then lineX n x else x
def ElDone (n : Int) (x : St) (b : Nat) (w : World) (e : Ending) (w' : World) : Prop := e = .returned (.int .i64 (elC n x)) ∧ MAt w' b (elX n x) ∧ Only b w w'
theorem elDone {n : Int} {x y : St} {b : Nat} {w w' : World} {c : Int} (hc : elC n x = c) (hy : elX n x = y) (hm : MAt w' b y) (ho : Only b w w') : ElDone n x b w (.returned (.int .i64 c)) w' := ⟨by rw [hc], by rw [hy]; exact hm, ho⟩
theorem putM_row {w : World} {g : Nat} {x : St} (h : MAt w g x) (y : St) : MAt (putSt w g y) g y := by
  have k0 : (w.setCell ⟨g, 0, none⟩ (.int .i64 y.g0)).heap[g]? = some (.cells #[.int .i64 y.g0, .int .i64 x.g1, .int .i64 x.g2, .int .i64 x.g3, .int .i64 x.l, .int .i64 x.s, .int .i64 x.d] 80) := heap_setCell_same _ g 0 _ _ (.int .i64 y.g0) h
  have k1 : ((w.setCell ⟨g, 0, none⟩ (.int .i64 y.g0)).setCell ⟨g, 1, none⟩ (.int .i64 y.g1)).heap[g]? = some (.cells #[.int .i64 y.g0, .int .i64 y.g1, .int .i64 x.g2, .int .i64 x.g3, .int .i64 x.l, .int .i64 x.s, .int .i64 x.d] 80) := heap_setCell_same _ g 1 _ _ (.int .i64 y.g1) k0
  have k2 : (((w.setCell ⟨g, 0, none⟩ (.int .i64 y.g0)).setCell ⟨g, 1, none⟩ (.int .i64 y.g1)).setCell ⟨g, 2, none⟩ (.int .i64 y.g2)).heap[g]? = some (.cells #[.int .i64 y.g0, .int .i64 y.g1, .int .i64 y.g2, .int .i64 x.g3, .int .i64 x.l, .int .i64 x.s, .int .i64 x.d] 80) := heap_setCell_same _ g 2 _ _ (.int .i64 y.g2) k1
  have k3 : ((((w.setCell ⟨g, 0, none⟩ (.int .i64 y.g0)).setCell ⟨g, 1, none⟩ (.int .i64 y.g1)).setCell ⟨g, 2, none⟩ (.int .i64 y.g2)).setCell ⟨g, 3, none⟩ (.int .i64 y.g3)).heap[g]? = some (.cells #[.int .i64 y.g0, .int .i64 y.g1, .int .i64 y.g2, .int .i64 y.g3, .int .i64 x.l, .int .i64 x.s, .int .i64 x.d] 80) := heap_setCell_same _ g 3 _ _ (.int .i64 y.g3) k2
  have k4 : (((((w.setCell ⟨g, 0, none⟩ (.int .i64 y.g0)).setCell ⟨g, 1, none⟩ (.int .i64 y.g1)).setCell ⟨g, 2, none⟩ (.int .i64 y.g2)).setCell ⟨g, 3, none⟩ (.int .i64 y.g3)).setCell ⟨g, 4, none⟩ (.int .i64 y.l)).heap[g]? = some (.cells #[.int .i64 y.g0, .int .i64 y.g1, .int .i64 y.g2, .int .i64 y.g3, .int .i64 y.l, .int .i64 x.s, .int .i64 x.d] 80) := heap_setCell_same _ g 4 _ _ (.int .i64 y.l) k3
  have k5 : ((((((w.setCell ⟨g, 0, none⟩ (.int .i64 y.g0)).setCell ⟨g, 1, none⟩ (.int .i64 y.g1)).setCell ⟨g, 2, none⟩ (.int .i64 y.g2)).setCell ⟨g, 3, none⟩ (.int .i64 y.g3)).setCell ⟨g, 4, none⟩ (.int .i64 y.l)).setCell ⟨g, 5, none⟩ (.int .i64 y.s)).heap[g]? = some (.cells #[.int .i64 y.g0, .int .i64 y.g1, .int .i64 y.g2, .int .i64 y.g3, .int .i64 y.l, .int .i64 y.s, .int .i64 x.d] 80) := heap_setCell_same _ g 5 _ _ (.int .i64 y.s) k4
  have k6 : (((((((w.setCell ⟨g, 0, none⟩ (.int .i64 y.g0)).setCell ⟨g, 1, none⟩ (.int .i64 y.g1)).setCell ⟨g, 2, none⟩ (.int .i64 y.g2)).setCell ⟨g, 3, none⟩ (.int .i64 y.g3)).setCell ⟨g, 4, none⟩ (.int .i64 y.l)).setCell ⟨g, 5, none⟩ (.int .i64 y.s)).setCell ⟨g, 6, none⟩ (.int .i64 y.d)).heap[g]? = some (.cells #[.int .i64 y.g0, .int .i64 y.g1, .int .i64 y.g2, .int .i64 y.g3, .int .i64 y.l, .int .i64 y.s, .int .i64 y.d] 80) := heap_setCell_same _ g 6 _ _ (.int .i64 y.d) k5
  exact k6
theorem only_putSt (b : Nat) (w : World) (y : St) : Only b w (putSt w b y) := ((((((Only.set b 0 w _).trans (Only.set b 1 _ _)).trans (Only.set b 2 _ _)).trans (Only.set b 3 _ _)).trans (Only.set b 4 _ _)).trans (Only.set b 5 _ _)).trans (Only.set b 6 _ _)

set_option maxHeartbeats 1000000 in
theorem impl_endLine (n : Int) (x : St) (m : Value) (g b : Nat) (w : World) (hg : GuAt w g n m) (hm : MAt w b x) (hx : stOKB x = true) : Calls Tryd.prog 91 #[.pointer (some ⟨g, 0, none⟩), .pointer (some ⟨b, 0, none⟩)] w (ElDone n x b w) := by
  have HR := Lib.hid (fun w hg hm => impl_atRest n x m g b w hg hm hx)
  have HG := Lib.hid hg
  have HM := Lib.hid hm
  have HS := Lib.hid (fun w => impl_startOf n w)
  have HF := Lib.hid (fun y w => impl_machineOf y w)
  unfold StDone stV at HS HF
  have ⟨c0, c1, c2, c3, c4, c5, c6, c7, c8, c9⟩ := row10_cells hg
  clear c1 c2 c3 c4 c5 c6 c7 c9 hg hm hx
  cases hr : restB n x
  · have HC : Hid (elC n x = 14) := Lib.hid (by simp [elC, hr])
    have HX : Hid (elX n x = x) := Lib.hid (by simp [elX, hr])
    rw [hr] at HR
    clear hr
    go_enter Tryd.func91, Tryd.ntmps91
    go_wp2_with fail
    refine (HR.out _ HG.out HM.out).mono ?_
    rintro e w1 ⟨rfl, rfl⟩
    go_wp2
    go_ret
    exact elDone HC.out HX.out HM.out (Only.refl _ _)
  · have HC : Hid (elC n x = 0) := Lib.hid (by simp [elC, hr])
    cases hc : prClear n
    · have HX : Hid (elX n x = x) := Lib.hid (by simp [elX, hr, lineX, hc])
      rw [hr] at HR
      rw [hc] at c8
      clear hr hc
      go_enter Tryd.func91, Tryd.ntmps91
      go_wp2_with fail
      refine (HR.out _ HG.out HM.out).mono ?_
      rintro e w1 ⟨rfl, rfl⟩
      go_wp2
      go_ret
      exact elDone HC.out HX.out HM.out (Only.refl _ _)
    · have HX : Hid (elX n x = startP n) := Lib.hid (by simp [elX, hr, lineX, hc])
      rw [hr] at HR
      rw [hc] at c8
      clear hr hc
      generalize startP n = y at *
      go_enter Tryd.func91, Tryd.ntmps91
      go_wp2_with fail
      refine (HR.out _ HG.out HM.out).mono ?_
      rintro e w1 ⟨rfl, rfl⟩
      go_wp2_with fail
      refine (HS.out _).mono ?_
      rintro e w1 ⟨rfl, b1⟩
      go_wp2_with fail
      refine (HF.out y _).mono ?_
      rintro e w2 ⟨rfl, b2⟩
      have O2 : Hid (Only b w w2) := Lib.hid (only_below HM.out.lt (b1.trans (b2.mono b1.size)))
      have HM2 := Lib.hid (HM.out.keep (b1.trans (b2.mono b1.size)))
      clear b1 b2 c0 c8
      have ⟨r0, r1, r2, r3, r4, r5, r6⟩ := HM2.out.cells
      have ⟨z0, z1, z2, z3, z4, z5, z6⟩ := HM2.out.thaw
      have hl : b < w2.heap.size := HM2.out.lt
      go_wp2
      go_ret
      exact elDone HC.out HX.out (putM_row HM2.out y) (O2.out.trans (only_putSt b w2 y))

theorem elC_le {n : Int} {x : St} (h1 : proB n = true) (h2 : stOKB x = true) : leC n x = elC n x ∧ leX n x = elX n x := by
  unfold leX leC elC elX
  rw [h1, h2]
  cases restB n x <;> simp

set_option maxHeartbeats 2000000 in
theorem impl_LineEnd (n : Int) (x : St) (w : World) (ht : TabM w) (hw : Wide64 x) : Calls Tryd.prog 47 #[.int .i64 n, stV x] w (LeDone n x w) := by
  have HN := Lib.hid (fun w => impl_isProfile n w)
  have HF := Lib.hid (fun w => impl_machineOf x w)
  have HO := Lib.hid (fun b w h ht => impl_ok x b w h ht hw.1 hw.2)
  have HST := Lib.hid (fun y b w h => impl_state y b w h)
  have HT := Lib.hid ht
  have B0 := Lib.hid (below_two w (.cells #[.int .i64 x.g0, .int .i64 x.g1, .int .i64 x.g2, .int .i64 x.g3, .int .i64 x.l, .int .i64 x.s, .int .i64 x.d] 24) (.cells #[.int .i64 0, .int .i64 0, .int .i64 0, .int .i64 0, .int .i64 0, .int .i64 0, .int .i64 0] 24))
  have Z0 : Hid (StAt ((w.alloc (.cells #[.int .i64 x.g0, .int .i64 x.g1, .int .i64 x.g2, .int .i64 x.g3, .int .i64 x.l, .int .i64 x.s, .int .i64 x.d] 24)).alloc (.cells #[.int .i64 0, .int .i64 0, .int .i64 0, .int .i64 0, .int .i64 0, .int .i64 0, .int .i64 0] 24)) (w.heap.size + 1) zeroSt) := Lib.hid (heap_alloc2_new _ _ _)
  clear ht hw
  unfold StDone stV at HF HST
  unfold stV
  cases hn : proB n
  · have HC : Hid (leC n x = 5) := Lib.hid (by simp [leC, hn])
    have HE := Lib.hid (leX_bad HC.out (by decide) (by decide))
    rw [hn] at HN
    go_enter Tryd.func47, Tryd.ntmps47
    go_wp2_with fail
    refine (HN.out _).mono ?_
    rintro e w1 ⟨rfl, rfl⟩
    go_wp2
    exact st_ret2 (y := zeroSt) rfl rfl rfl Z0.out Tryd.underlying24 rfl (by kernel_rfl) rfl ⟨by rw [HC.out, HE.out], B0.out⟩
  have HN1 := Lib.hid hn
  have HG := Lib.hid (fun w ht => impl_guideOf n w ht hn)
  unfold guV at HG
  rw [hn] at HN
  clear hn
  cases ho : stOKB x
  · have HC : Hid (leC n x = 1) := Lib.hid (by simp [leC, HN1.out, ho])
    have HE := Lib.hid (leX_bad HC.out (by decide) (by decide))
    rw [ho] at HO
    go_enter Tryd.func47, Tryd.ntmps47
    go_wp2_with fail
    refine (HN.out _).mono ?_
    rintro e w1 ⟨rfl, rfl⟩
    go_wp2_with fail
    refine (HF.out _).mono ?_
    generalize (w.alloc (.cells #[.int .i64 x.g0, .int .i64 x.g1, .int .i64 x.g2, .int .i64 x.g3, .int .i64 x.l, .int .i64 x.s, .int .i64 x.d] 24)).alloc (.cells #[.int .i64 0, .int .i64 0, .int .i64 0, .int .i64 0, .int .i64 0, .int .i64 0, .int .i64 0] 24) = W0 at *
    rintro e w1 ⟨rfl, b1⟩
    have B1 : Hid (Below w.heap.size w w1) := Lib.hid (B0.out.trans (b1.mono B0.out.size))
    have B2 : Hid (Below w.heap.size w (w1.alloc (.cells #[.int .i64 x.g0, .int .i64 x.g1, .int .i64 x.g2, .int .i64 x.g3, .int .i64 x.l, .int .i64 x.s, .int .i64 x.d] 80))) := Lib.hid (B1.out.alloc B1.out.size _)
    have Z2 := Lib.hid ((Z0.out.keep b1).keep (below_one w1 (.cells #[.int .i64 x.g0, .int .i64 x.g1, .int .i64 x.g2, .int .i64 x.g3, .int .i64 x.l, .int .i64 x.s, .int .i64 x.d] 80)))
    have HM := Lib.hid (MAt.new w1 x)
    have HT2 := Lib.hid (HT.out.keep B2.out)
    clear b1
    go_wp2_with fail
    refine (HO.out w1.heap.size _ HM.out HT2.out).mono ?_
    generalize w1.alloc (.cells #[.int .i64 x.g0, .int .i64 x.g1, .int .i64 x.g2, .int .i64 x.g3, .int .i64 x.l, .int .i64 x.s, .int .i64 x.d] 80) = W1 at *
    rintro e W2 ⟨rfl, b2⟩
    have B3 : Hid (Below w.heap.size w W2) := Lib.hid (B2.out.trans (b2.mono B2.out.size))
    have Z3 := Lib.hid (Z2.out.keep b2)
    clear b2
    have ⟨r0, r1, r2, r3, r4, r5, r6⟩ := Z3.out.cells
    have ⟨z0, z1, z2, z3, z4, z5, z6⟩ := Z3.out.thaw
    simp only [zeroSt] at r0 r1 r2 r3 r4 r5 r6
    have hl : w.heap.size + 1 < W2.heap.size := Z3.out.lt
    go_wp2
    exact st_ret2 (y := zeroSt) rfl rfl rfl (Z3.out.put zeroSt) Tryd.underlying24 rfl (by kernel_rfl) rfl ⟨by rw [HC.out, HE.out], below_putSt B3.out (Nat.le_succ _) zeroSt⟩
  · have ⟨hc, hx⟩ := elC_le HN1.out ho
    have HC := Lib.hid hc
    have HE := Lib.hid hx
    have HL := Lib.hid (fun g b w hg hm => impl_endLine n x (.map none) g b w hg hm ho)
    unfold ElDone at HL
    rw [ho] at HO
    clear ho hc hx
    generalize elC n x = c at *
    generalize elX n x = y at *
    go_enter Tryd.func47, Tryd.ntmps47
    go_wp2_with fail
    refine (HN.out _).mono ?_
    rintro e w1 ⟨rfl, rfl⟩
    go_wp2_with fail
    refine (HF.out _).mono ?_
    generalize (w.alloc (.cells #[.int .i64 x.g0, .int .i64 x.g1, .int .i64 x.g2, .int .i64 x.g3, .int .i64 x.l, .int .i64 x.s, .int .i64 x.d] 24)).alloc (.cells #[.int .i64 0, .int .i64 0, .int .i64 0, .int .i64 0, .int .i64 0, .int .i64 0, .int .i64 0] 24) = W0 at *
    rintro e w1 ⟨rfl, b1⟩
    have B1 : Hid (Below w.heap.size w w1) := Lib.hid (B0.out.trans (b1.mono B0.out.size))
    have B2 : Hid (Below w.heap.size w (w1.alloc (.cells #[.int .i64 x.g0, .int .i64 x.g1, .int .i64 x.g2, .int .i64 x.g3, .int .i64 x.l, .int .i64 x.s, .int .i64 x.d] 80))) := Lib.hid (B1.out.alloc B1.out.size _)
    have Z2 := Lib.hid ((Z0.out.keep b1).keep (below_one w1 (.cells #[.int .i64 x.g0, .int .i64 x.g1, .int .i64 x.g2, .int .i64 x.g3, .int .i64 x.l, .int .i64 x.s, .int .i64 x.d] 80)))
    have hz1 : w.heap.size + 1 < w1.heap.size := (Z0.out.keep b1).lt
    have HM := Lib.hid (MAt.new w1 x)
    have HT2 := Lib.hid (HT.out.keep B2.out)
    clear b1 Z0
    go_wp2_with fail
    refine (HO.out w1.heap.size _ HM.out HT2.out).mono ?_
    generalize w1.alloc (.cells #[.int .i64 x.g0, .int .i64 x.g1, .int .i64 x.g2, .int .i64 x.g3, .int .i64 x.l, .int .i64 x.s, .int .i64 x.d] 80) = W1 at *
    rintro e W2 ⟨rfl, b2⟩
    have B3 : Hid (Below w.heap.size w W2) := Lib.hid (B2.out.trans (b2.mono B2.out.size))
    have Z3 := Lib.hid (Z2.out.keep b2)
    have HM3 := Lib.hid (HM.out.keep b2)
    have HT3 := Lib.hid (HT2.out.keep b2)
    clear b2 B2 HM HT2 Z2
    go_wp2_with fail
    refine (HG.out _ HT3.out.1).mono ?_
    rintro e W3 ⟨rfl, b3⟩
    have B4 : Hid (Below w.heap.size w W3) := Lib.hid (B3.out.trans (b3.mono B3.out.size))
    have B5 : Hid (Below w.heap.size w (W3.alloc (.cells #[.int .i64 n, .string (prName n), .string (prHead n), .slice none 0 0, .bool (prRight n), .bool (prShifts n), .bool (prSingle n), .bool (prReset n), .bool (prClear n), .map none] 108))) := Lib.hid (B4.out.alloc B4.out.size _)
    have HM4 := Lib.hid ((HM3.out.keep b3).keep (below_one W3 (.cells #[.int .i64 n, .string (prName n), .string (prHead n), .slice none 0 0, .bool (prRight n), .bool (prShifts n), .bool (prSingle n), .bool (prReset n), .bool (prClear n), .map none] 108)))
    have Z4 := Lib.hid ((Z3.out.keep b3).keep (below_one W3 (.cells #[.int .i64 n, .string (prName n), .string (prHead n), .slice none 0 0, .bool (prRight n), .bool (prShifts n), .bool (prSingle n), .bool (prReset n), .bool (prClear n), .map none] 108)))
    have HG4 := Lib.hid (GuAt.new W3 n (.map none))
    clear b3 B3 HM3 HT3 Z3
    go_wp2_with fail
    refine (HL.out _ _ _ HG4.out HM4.out).mono ?_
    generalize W3.alloc (.cells #[.int .i64 n, .string (prName n), .string (prHead n), .slice none 0 0, .bool (prRight n), .bool (prShifts n), .bool (prSingle n), .bool (prReset n), .bool (prClear n), .map none] 108) = W4 at *
    rintro e W5 ⟨rfl, HM5, o5⟩
    have B6 : Hid (Below w.heap.size w W5) := Lib.hid (B5.out.trans (o5.1.mono (by omega)))
    have Z5 : Hid (StAt W5 (w.heap.size + 1) zeroSt) := Lib.hid ((o5.2 _ (by omega) Z4.out.lt).trans Z4.out)
    have HM5 := Lib.hid HM5
    clear o5 Z4
    go_wp2_with fail
    refine (HST.out y _ _ HM5.out).mono ?_
    rintro e W6 ⟨rfl, b6⟩
    have B7 : Hid (Below w.heap.size w W6) := Lib.hid (B6.out.trans (b6.mono B6.out.size))
    have Z6 := Lib.hid (Z5.out.keep b6)
    clear b6
    have ⟨r0, r1, r2, r3, r4, r5, r6⟩ := Z6.out.cells
    have ⟨z0, z1, z2, z3, z4, z5, z6⟩ := Z6.out.thaw
    simp only [zeroSt] at r0 r1 r2 r3 r4 r5 r6
    have hl : w.heap.size + 1 < W6.heap.size := Z6.out.lt
    go_wp2
    exact st_ret2 (y := y) rfl rfl rfl (Z6.out.put y) Tryd.underlying24 rfl (by kernel_rfl) rfl ⟨by rw [HC.out, HE.out], below_putSt B7.out (Nat.le_succ _) y⟩

end Go.Proofs.YtjbikenhdgbacaaDoor
