/- The specification's StartState, StateOK, RegisterOf, Pending. -/
import Derived.Test.YtbamjhldebobhaaDoorStC
namespace Go.Proofs.YtbamjhldebobhaaDoor
open Go.RowKit

set_option maxHeartbeats 1000000 in
theorem spec_l04Start (w : World) : Calls Tryd.prog 43 #[] w (StDone startSt w) := by
  go_enter Tryd.func43, Tryd.ntmps43
  go_wp2
  exact st_ret (y := startSt) rfl rfl rfl (heap_alloc_new _ _) Tryd.underlying24 rfl (by kernel_rfl) rfl (below_one _ _)

def peB (x : St) : Bool := stOKB x && pendB x

set_option maxHeartbeats 1000000 in
theorem spec_Pending (x : St) (w : World) : Calls Tryd.prog 14 #[stV x] w fun e w' => e = .returned (.bool (peB x)) ∧ Below w.heap.size w w' := by
  have HO := Lib.hid (spec_l04OK x)
  have HP := Lib.hid (spec_l04Pending x)
  have B0 := below_one w (.cells #[.int .i64 x.g0, .int .i64 x.g1, .int .i64 x.g2, .int .i64 x.g3, .int .i64 x.l, .int .i64 x.s, .int .i64 x.d] 24)
  have hX := StAt.new w x
  have HE : Hid (peB x = (stOKB x && pendB x)) := Lib.hid rfl
  rw [HE.out]
  unfold stV at HO HP ⊢
  generalize stOKB x = ok at *
  generalize pendB x = pe at *
  clear HE
  cases ok
  · clear hX
    go_enter Tryd.func14, Tryd.ntmps14
    go_wp2_with fail
    refine (HO.out _).mono ?_
    rintro e w1 ⟨rfl, b1⟩
    have B1 : Below w.heap.size w w1 := B0.trans (b1.mono B0.size)
    go_wp2
    go_ret
    exact ⟨rfl, B1⟩
  · go_enter Tryd.func14, Tryd.ntmps14
    go_wp2_with fail
    refine (HO.out _).mono ?_
    rintro e w1 ⟨rfl, b1⟩
    have B1 : Below w.heap.size w w1 := B0.trans (b1.mono B0.size)
    have ⟨y0, y1, y2, y3, y4, y5, y6⟩ := (hX.keep b1).cells
    clear hX B0 b1
    go_wp2_with fail
    refine (HP.out _).mono ?_
    rintro e w2 ⟨rfl, b2⟩
    have B2 : Below w.heap.size w w2 := B1.trans (b2.mono B1.size)
    go_wp2
    go_ret
    exact ⟨ret_bool (by simp), B2⟩

/-- RegisterOf: the code and the set. -/
def rgoC (x : St) (n : Int) : Int := if stOKB x = true then (if inB n 0 3 = true then 0 else 4) else 1
def rgoV (x : St) (n : Int) : Value := .tuple #[.int .i64 (if rgoC x n = 0 then stGet x n else 0), .int .i64 (rgoC x n)]
theorem rgoV_bad {x : St} {n c : Int} (h : rgoC x n = c) (h0 : c ≠ 0) : rgoV x n = .tuple #[.int .i64 0, .int .i64 c] := by simp [rgoV, h, h0]
theorem rgoV_ok {x : St} {n : Int} (h : rgoC x n = 0) : rgoV x n = .tuple #[.int .i64 (stGet x n), .int .i64 0] := by simp [rgoV, h]

set_option maxHeartbeats 1000000 in
theorem spec_RegisterOf (x : St) (n : Int) (w : World) : Calls Tryd.prog 19 #[stV x, .int .i64 n] w fun e w' => e = .returned (rgoV x n) ∧ Below w.heap.size w w' := by
  have HO := Lib.hid (spec_l04OK x)
  have HG := Lib.hid (fun w h0 h3 => spec_l04Get x n w h0 h3)
  have B0 := below_one w (.cells #[.int .i64 x.g0, .int .i64 x.g1, .int .i64 x.g2, .int .i64 x.g3, .int .i64 x.l, .int .i64 x.s, .int .i64 x.d] 24)
  have hX := StAt.new w x
  unfold stV at HO HG ⊢
  cases ho : stOKB x
  · have HE := Lib.hid (rgoV_bad (x := x) (n := n) (c := 1) (by simp [rgoC, ho]) (by decide))
    rw [ho] at HO
    clear hX
    go_enter Tryd.func19, Tryd.ntmps19
    go_wp2_with fail
    refine (HO.out _).mono ?_
    rintro e w1 ⟨rfl, b1⟩
    have B1 : Below w.heap.size w w1 := B0.trans (b1.mono B0.size)
    go_wp2
    go_ret2
    exact ⟨ret_val HE.out.symm, B1⟩
  · rw [ho] at HO
    cases hn : inB n 0 3
    · have HE := Lib.hid (rgoV_bad (x := x) (n := n) (c := 4) (by simp [rgoC, ho, hn]) (by decide))
      clear hX
      go_enter Tryd.func19, Tryd.ntmps19
      go_wp2_with fail
      refine (HO.out _).mono ?_
      rintro e w1 ⟨rfl, b1⟩
      have B1 : Below w.heap.size w w1 := B0.trans (b1.mono B0.size)
      go_wp2_with fail
      refine (spec_l01In n 0 3 w1).mono ?_
      rintro e w2 ⟨rfl, rfl⟩
      rw [hn]
      go_wp2
      go_ret2
      exact ⟨ret_val HE.out.symm, B1⟩
    · have HE := Lib.hid (rgoV_ok (x := x) (n := n) (by simp [rgoC, ho, hn]))
      have ⟨n0, n3⟩ := inB_true hn
      go_enter Tryd.func19, Tryd.ntmps19
      go_wp2_with fail
      refine (HO.out _).mono ?_
      rintro e w1 ⟨rfl, b1⟩
      have B1 : Below w.heap.size w w1 := B0.trans (b1.mono B0.size)
      have ⟨y0, y1, y2, y3, y4, y5, y6⟩ := (hX.keep b1).cells
      clear hX B0 b1
      go_wp2_with fail
      refine (spec_l01In n 0 3 w1).mono ?_
      rintro e w2 ⟨rfl, rfl⟩
      rw [hn]
      go_wp2_with fail
      refine (HG.out _ n0 n3).mono ?_
      rintro e w2 ⟨rfl, b2⟩
      have B2 : Below w.heap.size w w2 := B1.trans (b2.mono B1.size)
      go_wp2
      go_ret2
      exact ⟨ret_val HE.out.symm, B2⟩

end Go.Proofs.YtbamjhldebobhaaDoor
