/- The registry: contracts of the specification's functions over sets, continued. -/
import Derived.Test.YtbamjhldebobhaaGreatDoorSetsB
namespace Go.Proofs.YtbamjhldebobhaaGreatDoor
open Go.RowKit

set_option maxHeartbeats 1000000 in
set_option maxRecDepth 100000 in
theorem spec_l02For (n code : Int) (w : World) : Calls Tryz.prog 130 #[.int .i64 n, .int .i64 code] w fun e w' => e = .returned (.int .i64 (codeS (setSpans n) code)) ∧ Below w.heap.size w w' := by
  go_enter Tryz.func130, Tryz.ntmps130
  go_wp2_with fail
  refine (spec_l02Set n w).mono ?_
  rintro e w1 ⟨g, rfl, hg, hblk, b1⟩
  have HC := Lib.hid (SetDone.cells hblk)
  have ⟨f1, f2⟩ := set_few n
  have HS := Lib.hid (set_small n)
  clear hblk
  unfold setV
  generalize hsp : setSpans n = sp at *
  have HSP := Lib.hid hsp
  clear hsp
  have F3 := setField3
  go_wp2
  go_loopw [6] (fun i wr => ∃ k q : Nat, k ≤ sp.length ∧ i = .int .i64 k ∧ Hid (codeS sp code = codeS (sp.drop k) code) ∧ wr = w1.drewN q) (fun i _ => sp.length - (intOf i).toNat)
  case atStart => exact ⟨0, 0, Nat.zero_le _, rfl, Lib.hid rfl, rfl⟩
  case round =>
    obtain ⟨k, q, hk, rfl, HR, rfl⟩ := hrel
    by_cases hlt : k < sp.length
    · have ⟨c0, c1, c2⟩ := HC.out k hlt
      have hsm := HS.out _ (List.getElem_mem hlt)
      have HD := Lib.hid (codeS_drop sp code k hlt)
      generalize sp[k] = s at *
      obtain ⟨sc, sr, sn⟩ := s
      obtain ⟨⟨a1, a2⟩, ⟨a3, a4⟩, a5, a6⟩ := hsm
      have d0 : (w1.drewN q).cell? ⟨g, k * 3, none⟩ = some (.int .i64 sc) := c0
      have d1 : (w1.drewN q).cell? ⟨g, k * 3 + 1, none⟩ = some (.int .i64 sr) := c1
      have d2 : (w1.drewN q).cell? ⟨g, k * 3 + 2, none⟩ = some (.int .i64 sn) := c2
      have b2 := Lib.hid (below_drewN b1 q)
      simp only at a1 a2 a3 a4 a5 a6
      clear c0 c1 c2
      generalize hW : w1.drewN q = W at *
      have HW := Lib.hid hW
      clear hW
      have u1 : (0 : Int) ≤ (k : Int) := by omega
      have u2 : (k : Int) < (sp.length : Int) := by omega
      have u3 : IntKind.i64.wrap (sr + sn) = sr + sn := IntWalk.i64_in _ (by omega)
      have u4 : IntKind.i64.wrap (sr + sn - 1) = sr + sn - 1 := IntWalk.i64_in _ (by omega)
      go_wp2
      go_quiet ((go_at_call 58; exact Calls.quiet_of_same ((spec_l01In _ _ _ _).mono fun _ _ ⟨he, hw⟩ => ⟨he, hw.symm⟩)))
      cases hin : inB code sr (sr + sn - 1)
      · go_wp2
        go_roundw
        case rel => exact ⟨k + 1, _, by omega, by go_num, Lib.hid (by rw [HR.out, HD.out, hin]; simp), by rw [← HW.out]; exact World.drewN_drewN ..⟩
        case measure => simp [intOf]; omega
      · have ⟨i1, i2⟩ := inB_true hin
        have u5 : IntKind.i64.wrap (sc + code) = sc + code := IntWalk.i64_in _ (by omega)
        have u6 : IntKind.i64.wrap (sc + code - sr) = sc + code - sr := IntWalk.i64_in _ (by omega)
        have HE : Hid (codeS (setSpans n) code = sc + code - sr) := Lib.hid (by rw [HSP.out, HR.out, HD.out, hin]; simp)
        go_wp2
        go_quiet (fail)
        go_wp2
        go_ret
        exact ⟨ret_int HE.out.symm, below_drewN (below_drewN b2.out _) _⟩
    · go_wp2
      go_ret
      have hkn : sp.length ≤ k := by omega
      refine ⟨ret_int ?_, below_drewN b1 q⟩
      rw [HSP.out, HR.out, List.drop_eq_nil_of_le hkn]
      rfl

end Go.Proofs.YtbamjhldebobhaaGreatDoor
