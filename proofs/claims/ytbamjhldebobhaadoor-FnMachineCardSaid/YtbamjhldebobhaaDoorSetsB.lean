/- The registry: contracts of the specification's functions over sets. -/
import Derived.Test.YtbamjhldebobhaaDoorSetsA
import Derived.Test.YtbamjhldebobhaaDoorInts
import Derived.IntWalk
namespace Go.Proofs.YtbamjhldebobhaaDoor
open Go.RowKit

theorem setField0 : ∀ (a b c d : Value) (w : World), (Instr.field 73 (.agg #[a, b, c, d]) 0).run Tryd.prog w = .ok a w := fun _ _ _ _ _ => by kernel_rfl
theorem setField1 : ∀ (a b c d : Value) (w : World), (Instr.field 73 (.agg #[a, b, c, d]) 1).run Tryd.prog w = .ok b w := fun _ _ _ _ _ => by kernel_rfl
theorem setField2 : ∀ (a b c d : Value) (w : World), (Instr.field 73 (.agg #[a, b, c, d]) 2).run Tryd.prog w = .ok c w := fun _ _ _ _ _ => by kernel_rfl
theorem setField3 : ∀ (a b c d : Value) (w : World), (Instr.field 73 (.agg #[a, b, c, d]) 3).run Tryd.prog w = .ok d w := fun _ _ _ _ _ => by kernel_rfl

/-- A code of a kind. -/
def kindB (kind code : Int) : Bool := if kind = 1 then inB code 33 126 else if kind = 2 then inB code 32 127 else inB (code / 256) 33 126 && inB (code % 256) 33 126

/-- A code of a set. -/
def codeOKB (n code : Int) : Bool := setB n && decide (0 ≤ code) && kindB (setKind n) code

set_option maxHeartbeats 1000000 in
theorem spec_l02Code (kind code : Int) (w : World) (h0 : 0 ≤ code) (h1 : code ≤ 9223372036854775807) : Calls Tryd.prog 79 #[.int .i64 kind, .int .i64 code] w fun e w' => e = .returned (.bool (kindB kind code)) ∧ w = w' := by
  by_cases k1 : kind = 1
  · subst k1
    go_enter Tryd.func79, Tryd.ntmps79
    go_wp2_with fail
    refine (spec_l01In code 33 126 w).mono ?_
    rintro e w1 ⟨rfl, rfl⟩
    go_wp2
    go_ret
    exact ⟨rfl, rfl⟩
  by_cases k2 : kind = 2
  · subst k2
    go_enter Tryd.func79, Tryd.ntmps79
    go_wp2_with fail
    refine (spec_l01In code 32 127 w).mono ?_
    rintro e w1 ⟨rfl, rfl⟩
    go_wp2
    go_ret
    exact ⟨rfl, rfl⟩
  have e1 : (kind == 1) = false := by simpa using k1
  have e2 : (kind == 2) = false := by simpa using k2
  have HK : Hid (kindB kind code = (inB (code / 256) 33 126 && inB (code % 256) 33 126)) := Lib.hid (by simp [kindB, k1, k2])
  have q1 : code.tdiv 256 = code / 256 := Int.tdiv_eq_ediv_of_nonneg h0
  have q2 : code.tmod 256 = code % 256 := Int.tmod_eq_emod_of_nonneg h0
  rw [HK.out]
  clear k1 k2
  cases hb : inB (code / 256) 33 126
  · go_enter Tryd.func79, Tryd.ntmps79
    go_wp2_with fail
    refine (spec_l01In (code / 256) 33 126 w).mono ?_
    rintro e w1 ⟨rfl, rfl⟩
    rw [hb]
    go_wp2
    go_ret
    exact ⟨rfl, rfl⟩
  · go_enter Tryd.func79, Tryd.ntmps79
    go_wp2_with fail
    refine (spec_l01In (code / 256) 33 126 w).mono ?_
    rintro e w1 ⟨rfl, rfl⟩
    rw [hb]
    go_wp2_with fail
    refine (spec_l01In (code % 256) 33 126 w).mono ?_
    rintro e w1 ⟨rfl, rfl⟩
    go_wp2
    go_ret
    exact ⟨by simp, rfl⟩

theorem SetDone.cells {n : Int} {w : World} {g : Nat} (h : w.heap[g]? = some (setO n)) (k : Nat) (hk : k < (setSpans n).length) :
    w.cell? ⟨g, k * 3, none⟩ = some (.int .i64 ((setSpans n)[k]).1) ∧ w.cell? ⟨g, k * 3 + 1, none⟩ = some (.int .i64 ((setSpans n)[k]).2.1) ∧ w.cell? ⟨g, k * 3 + 2, none⟩ = some (.int .i64 ((setSpans n)[k]).2.2) := by
  have ⟨h1, h2, h3⟩ := spCells_at (setSpans n) k hk
  unfold setO at h
  exact ⟨by rw [cell_of_row w g _ _ _ _ h]; simpa using h1, by rw [cell_of_row w g _ _ _ _ h]; simpa using h2, by rw [cell_of_row w g _ _ _ _ h]; simpa using h3⟩

set_option maxHeartbeats 1000000 in
set_option maxRecDepth 100000 in
theorem spec_l02Rune (n code : Int) (w : World) : Calls Tryd.prog 80 #[.int .i64 n, .int .i64 code] w fun e w' => e = .returned (.int .i64 (runeS (setSpans n) code)) ∧ Below w.heap.size w w' := by
  go_enter Tryd.func80, Tryd.ntmps80
  go_wp2_with fail
  refine (spec_l02Set n w).mono ?_
  rintro e w1 ⟨g, rfl, hg, hblk, b1⟩
  have HC := Lib.hid (SetDone.cells hblk)
  have ⟨f1, f2⟩ := set_few n
  have HS := Lib.hid (set_small n)
  clear hblk
  unfold setV
  generalize hsp : setSpans n = sp at *
  have HSP := Lib.hid hsp
  clear hsp
  have F3 := setField3
  go_wp2
  go_loopw [6] (fun i wr => ∃ k q : Nat, k ≤ sp.length ∧ i = .int .i64 k ∧ Hid (runeS sp code = runeS (sp.drop k) code) ∧ wr = w1.drewN q) (fun i _ => sp.length - (intOf i).toNat)
  case atStart => exact ⟨0, 0, Nat.zero_le _, rfl, Lib.hid rfl, rfl⟩
  case round =>
    obtain ⟨k, q, hk, rfl, HR, rfl⟩ := hrel
    by_cases hlt : k < sp.length
    · have ⟨c0, c1, c2⟩ := HC.out k hlt
      have hsm := HS.out _ (List.getElem_mem hlt)
      have HD := Lib.hid (runeS_drop sp code k hlt)
      generalize sp[k] = s at *
      obtain ⟨sc, sr, sn⟩ := s
      obtain ⟨⟨a1, a2⟩, ⟨a3, a4⟩, a5, a6⟩ := hsm
      have d0 : (w1.drewN q).cell? ⟨g, k * 3, none⟩ = some (.int .i64 sc) := c0
      have d1 : (w1.drewN q).cell? ⟨g, k * 3 + 1, none⟩ = some (.int .i64 sr) := c1
      have d2 : (w1.drewN q).cell? ⟨g, k * 3 + 2, none⟩ = some (.int .i64 sn) := c2
      have b2 := Lib.hid (below_drewN b1 q)
      simp only at a1 a2 a3 a4 a5 a6
      clear c0 c1 c2
      generalize hW : w1.drewN q = W at *
      have HW := Lib.hid hW
      clear hW
      have u1 : (0 : Int) ≤ (k : Int) := by omega
      have u2 : (k : Int) < (sp.length : Int) := by omega
      have u3 : IntKind.i64.wrap (sc + sn) = sc + sn := IntWalk.i64_in _ (by omega)
      have u4 : IntKind.i64.wrap (sc + sn - 1) = sc + sn - 1 := IntWalk.i64_in _ (by omega)
      go_wp2
      go_quiet ((go_at_call 41; exact Calls.quiet_of_same ((spec_l01In _ _ _ _).mono fun _ _ ⟨he, hw⟩ => ⟨he, hw.symm⟩)))
      cases hin : inB code sc (sc + sn - 1)
      · go_wp2
        go_roundw
        case rel => exact ⟨k + 1, _, by omega, by go_num, Lib.hid (by rw [HR.out, HD.out, hin]; simp), by rw [← HW.out]; exact World.drewN_drewN ..⟩
        case measure => simp [intOf]; omega
      · have ⟨i1, i2⟩ := inB_true hin
        have u5 : IntKind.i64.wrap (sr + code) = sr + code := IntWalk.i64_in _ (by omega)
        have u6 : IntKind.i64.wrap (sr + code - sc) = sr + code - sc := IntWalk.i64_in _ (by omega)
        have HE : Hid (runeS (setSpans n) code = sr + code - sc) := Lib.hid (by rw [HSP.out, HR.out, HD.out, hin]; simp)
        go_wp2
        go_quiet (fail)
        go_wp2
        go_ret
        exact ⟨ret_int HE.out.symm, below_drewN (below_drewN b2.out _) _⟩
    · go_wp2
      go_ret
      have hkn : sp.length ≤ k := by omega
      refine ⟨ret_int ?_, below_drewN b1 q⟩
      rw [HSP.out, HR.out, List.drop_eq_nil_of_le hkn]
      rfl

end Go.Proofs.YtbamjhldebobhaaDoor
