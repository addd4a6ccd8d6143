/- The program's own table of sets, as its text lays it: contracts of isSet, isCode, CodeOK, FindSet of the program. -/
import Derived.Test.YtbamjhldebobhaaDoorSetsF
import Derived.Test.YtbamjhldebobhaaDoorSpanA
namespace Go.Proofs.YtbamjhldebobhaaDoor
open Go.RowKit

/-- The table's cells. -/
def TabSets (w : World) : Prop := ∀ k : Nat, 1 ≤ k → k ≤ 8 →
  w.cell? ⟨0, k * 4, none⟩ = some (.string (setName k)) ∧ w.cell? ⟨0, k * 4 + 1, none⟩ = some (.int .i64 (setKind k)) ∧ w.cell? ⟨0, k * 4 + 2, none⟩ = some (.int .i64 (setFinal k)) ∧
  ∃ v, w.cell? ⟨0, k * 4 + 3, none⟩ = some v ∧ SpAt w v (setSpans k)
theorem TabSets.keep {w w' : World} (h : TabSets w) (hb : Below w.heap.size w w') : TabSets w' := by
  intro k h1 h8
  obtain ⟨c0, c1, c2, v, c3, hs⟩ := h k h1 h8
  exact ⟨by rw [hb.cell (World.block_lt_of_cell? w _ c0)]; exact c0, by rw [hb.cell (World.block_lt_of_cell? w _ c1)]; exact c1, by rw [hb.cell (World.block_lt_of_cell? w _ c2)]; exact c2, v, by rw [hb.cell (World.block_lt_of_cell? w _ c3)]; exact c3, hs.keep hb⟩

theorem setB_nat {n : Int} (h : setB n = true) : ∃ k : Nat, n = (k : Int) ∧ 1 ≤ k ∧ k ≤ 8 := by
  have ⟨a, b⟩ := inB_true h
  exact ⟨n.toNat, by omega, by omega, by omega⟩

theorem impl_isSet (n : Int) (w : World) : Calls Tryd.prog 65 #[.int .i64 n] w fun e w' => e = .returned (.bool (setB n)) ∧ w = w' := by
  by_cases h1 : 1 ≤ n
  · by_cases h2 : n ≤ 8
    · have HE : Hid (setB n = true) := Lib.hid (by simp [setB, inB, h1, h2])
      go_enter Tryd.func65, Tryd.ntmps65
      go_wp2
      go_ret
      exact ⟨ret_bool HE.out.symm, rfl⟩
    · have HE : Hid (setB n = false) := Lib.hid (by simp [setB, inB, h2])
      go_enter Tryd.func65, Tryd.ntmps65
      go_wp2
      go_ret
      exact ⟨ret_bool HE.out.symm, rfl⟩
  · have HE : Hid (setB n = false) := Lib.hid (by simp [setB, inB, h1])
    go_enter Tryd.func65, Tryd.ntmps65
    go_wp2
    go_ret
    exact ⟨ret_bool HE.out.symm, rfl⟩

theorem impl_isCode94 (n : Int) (w : World) : Calls Tryd.prog 71 #[.int .i64 n] w fun e w' => e = .returned (.bool (inB n 33 126)) ∧ w = w' := by
  by_cases h1 : 33 ≤ n
  · by_cases h2 : n ≤ 126
    · have HE : Hid (inB n 33 126 = true) := Lib.hid (by simp [inB, h1, h2])
      go_enter Tryd.func71, Tryd.ntmps71
      go_wp2
      go_ret
      exact ⟨ret_bool HE.out.symm, rfl⟩
    · have HE : Hid (inB n 33 126 = false) := Lib.hid (by simp [inB, h2])
      go_enter Tryd.func71, Tryd.ntmps71
      go_wp2
      go_ret
      exact ⟨ret_bool HE.out.symm, rfl⟩
  · have HE : Hid (inB n 33 126 = false) := Lib.hid (by simp [inB, h1])
    go_enter Tryd.func71, Tryd.ntmps71
    go_wp2
    go_ret
    exact ⟨ret_bool HE.out.symm, rfl⟩

/-- A code of a kind, of any number. -/
def isCodeB (kind code : Int) : Bool := decide (0 ≤ code) && kindB kind code
theorem inB_false_of {n a b : Int} (h : ¬ (a ≤ n ∧ n ≤ b)) : inB n a b = false := by
  cases hh : inB n a b
  · rfl
  · exact absurd (inB_true hh) h

set_option maxHeartbeats 1000000 in
theorem impl_isCode (kind code : Int) (w : World) (hk : kind = 1 ∨ kind = 2 ∨ kind = 3) (hl : -9223372036854775808 ≤ code) (hu : code ≤ 9223372036854775807) :
    Calls Tryd.prog 83 #[.int .i64 kind, .int .i64 code] w fun e w' => e = .returned (.bool (isCodeB kind code)) ∧ w = w' := by
  rcases hk with rfl | rfl | rfl
  · have HE : Hid (isCodeB 1 code = inB code 33 126) := Lib.hid (by
      unfold isCodeB kindB
      cases h : inB code 33 126
      · simp
      · have := inB_true h
        simp; omega)
    go_enter Tryd.func83, Tryd.ntmps83
    go_wp2_with fail
    refine (impl_isCode94 code w).mono ?_
    rintro e w1 ⟨rfl, rfl⟩
    go_wp2
    go_ret
    exact ⟨ret_bool HE.out.symm, rfl⟩
  · by_cases h1 : 32 ≤ code
    · by_cases h2 : code ≤ 127
      · have HE : Hid (isCodeB 2 code = true) := Lib.hid (by simp [isCodeB, kindB, inB, h1, h2]; omega)
        go_enter Tryd.func83, Tryd.ntmps83
        go_wp2
        go_ret
        exact ⟨ret_bool HE.out.symm, rfl⟩
      · have HE : Hid (isCodeB 2 code = false) := Lib.hid (by simp [isCodeB, kindB, inB, h2])
        go_enter Tryd.func83, Tryd.ntmps83
        go_wp2
        go_ret
        exact ⟨ret_bool HE.out.symm, rfl⟩
    · have HE : Hid (isCodeB 2 code = false) := Lib.hid (by simp [isCodeB, kindB, inB, h1])
      go_enter Tryd.func83, Tryd.ntmps83
      go_wp2
      go_ret
      exact ⟨ret_bool HE.out.symm, rfl⟩
  · by_cases h0 : 0 ≤ code
    · have HK : Hid (isCodeB 3 code = (inB (code / 256) 33 126 && inB (code % 256) 33 126)) := Lib.hid (by simp [isCodeB, kindB, h0])
      have q1 : code.tdiv 256 = code / 256 := Int.tdiv_eq_ediv_of_nonneg h0
      have q2 : code.tmod 256 = code % 256 := Int.tmod_eq_emod_of_nonneg h0
      rw [HK.out]
      cases hb : inB (code / 256) 33 126
      · go_enter Tryd.func83, Tryd.ntmps83
        go_wp2_with fail
        refine (impl_isCode94 (code / 256) w).mono ?_
        rintro e w1 ⟨rfl, rfl⟩
        rw [hb]
        go_wp2
        go_ret
        exact ⟨rfl, rfl⟩
      · go_enter Tryd.func83, Tryd.ntmps83
        go_wp2_with fail
        refine (impl_isCode94 (code / 256) w).mono ?_
        rintro e w1 ⟨rfl, rfl⟩
        rw [hb]
        go_wp2_with fail
        refine (impl_isCode94 (code % 256) w).mono ?_
        rintro e w1 ⟨rfl, rfl⟩
        go_wp2
        go_ret
        exact ⟨by simp, rfl⟩
    · have HE : Hid (isCodeB 3 code = false) := Lib.hid (by simp [isCodeB, h0])
      have q0 : code.tdiv 256 ≤ 0 := by
        have h2 : (-code).tdiv 256 = -(code.tdiv 256) := Int.neg_tdiv ..
        have := Int.tdiv_nonneg (a := -code) (b := 256) (by omega) (by decide)
        omega
      have q3 : IntKind.i64.wrap (code.tdiv 256) = code.tdiv 256 := IntWalk.i64_in _ (by
        have h2 : (-code).tdiv 256 = -(code.tdiv 256) := Int.neg_tdiv ..
        have h3 : (-code).tdiv 256 = (-code) / 256 := Int.tdiv_eq_ediv_of_nonneg (by omega)
        omega)
      generalize hq : code.tdiv 256 = q at *
      have hb : inB q 33 126 = false := inB_false_of (by omega)
      go_enter Tryd.func83, Tryd.ntmps83
      go_wp2_with fail
      refine (impl_isCode94 q w).mono ?_
      rintro e w1 ⟨rfl, rfl⟩
      rw [hb]
      go_wp2
      go_ret
      exact ⟨ret_bool HE.out.symm, rfl⟩

theorem setKind_cases (n : Int) : setKind n = 1 ∨ setKind n = 2 ∨ setKind n = 3 := by
  unfold setKind
  repeat' split
  all_goals simp

theorem inB13 {kind : Int} (h1 : kind ≠ 1) (h2 : kind ≠ 2) (h3 : kind ≠ 3) : inB kind 1 3 = false := inB_false_of (by omega)

set_option maxHeartbeats 1000000 in
theorem impl_isKind (kind : Int) (w : World) : Calls Tryd.prog 77 #[.int .i64 kind] w fun e w' => e = .returned (.bool (inB kind 1 3)) ∧ w = w' := by
  by_cases h1 : kind = 1
  · subst h1
    go_enter Tryd.func77, Tryd.ntmps77
    go_wp2
    go_ret
    exact ⟨rfl, rfl⟩
  · by_cases h2 : kind = 2
    · subst h2
      go_enter Tryd.func77, Tryd.ntmps77
      go_wp2
      go_ret
      exact ⟨rfl, rfl⟩
    · by_cases h3 : kind = 3
      · subst h3
        go_enter Tryd.func77, Tryd.ntmps77
        go_wp2
        go_ret
        exact ⟨rfl, rfl⟩
      · have HE := Lib.hid (inB13 h1 h2 h3)
        have e1 : (kind == 1) = false := by simpa using h1
        have e2 : (kind == 2) = false := by simpa using h2
        have e3 : (kind == 3) = false := by simpa using h3
        clear h1 h2 h3
        go_enter Tryd.func77, Tryd.ntmps77
        go_wp2
        go_ret
        exact ⟨ret_bool HE.out.symm, rfl⟩

set_option maxHeartbeats 1000000 in
theorem impl_FindSet (kind final : Int) (w : World) (ht : TabSets w) : Calls Tryd.prog 75 #[.int .i64 kind, .int .i64 final] w fun e w' => e = .returned (fsV kind final) ∧ w = w' := by
  have HT := Lib.hid ht
  clear ht
  cases hk : inB kind 1 3
  · have HE := Lib.hid (fsV_bad kind final 9 (by simp [fsC, hk]) (by decide))
    go_enter Tryd.func75, Tryd.ntmps75
    go_wp2_with fail
    refine (impl_isKind kind w).mono ?_
    rintro e w1 ⟨rfl, rfl⟩
    rw [hk]
    go_wp2
    go_ret2
    exact ⟨ret_val HE.out.symm, rfl⟩
  · have HI := Lib.hid hk
    have HF : Hid (∀ c, findNo kind final = c → c = 0 → fsV kind final = .tuple #[.int .i64 0, .int .i64 5]) := Lib.hid (fun c h1 h2 => fsV_bad kind final 5 (by simp [fsC, HI.out, h1, h2]) (by decide))
    have HG : Hid (findNo kind final ≠ 0 → fsV kind final = .tuple #[.int .i64 (findNo kind final), .int .i64 0]) := Lib.hid (fun h => fsV_ok kind final (by simp [fsC, HI.out, h]))
    clear hk
    go_enter Tryd.func75, Tryd.ntmps75
    go_wp2_with fail
    refine (impl_isKind kind w).mono ?_
    rintro e w1 ⟨rfl, rfl⟩
    rw [HI.out]
    go_wp2
    go_loopw [6] (fun i wr => ∃ k f : Nat, k + f = 9 ∧ 1 ≤ k ∧ i = .int .i64 k ∧ Hid (findNo kind final = firstNo (fun k => decide (setKind k = kind) && decide (setFinal k = final)) f (k : Int)) ∧ Hid (w = wr)) (fun i _ => 9 - (intOf i).toNat)
    case atStart => exact ⟨1, 8, rfl, by omega, rfl, Lib.hid rfl, Lib.hid rfl⟩
    case round =>
      obtain ⟨k, f, hk, hk1, rfl, HR, HW⟩ := hrel
      by_cases hlt : k ≤ 8
      · obtain ⟨f, rfl⟩ : ∃ f', f = f' + 1 := ⟨f - 1, by omega⟩
        obtain ⟨_, c1, c2, _⟩ := HT.out k hk1 hlt
        have HU := Lib.hid (show firstNo (fun k => decide (setKind k = kind) && decide (setFinal k = final)) (f + 1) (k : Int) = if (decide (setKind (k : Int) = kind) && decide (setFinal (k : Int) = final)) = true then (k : Int) else firstNo (fun k => decide (setKind k = kind) && decide (setFinal k = final)) f ((k : Int) + 1) from rfl)
        rw [HW.out] at c1 c2
        have u1 : (0 : Int) ≤ (k : Int) := by omega
        have u2 : (k : Int) < 9 := by omega
        have u3 : (k : Int) ≤ 8 := by omega
        generalize setKind (k : Int) = a at *
        generalize setFinal (k : Int) = c at *
        by_cases h1 : a = kind
        · by_cases h2 : c = final
          · have HE : Hid (findNo kind final = (k : Int)) := Lib.hid (by rw [HR.out, HU.out]; simp [h1, h2])
            have z1 : (a == kind) = true := by simpa using h1
            have z2 : (c == final) = true := by simpa using h2
            clear h1 h2
            go_wp2
            go_ret2
            refine ⟨ret_val ?_, HW.out⟩
            rw [HG.out (by rw [HE.out]; omega), HE.out]
            rfl
          · have HX : Hid (findNo kind final = firstNo (fun k => decide (setKind k = kind) && decide (setFinal k = final)) f ((k + 1 : Nat) : Int)) := Lib.hid (by rw [HR.out, HU.out]; simp [h2])
            have z1 : (a == kind) = true := by simpa using h1
            have z2 : (c == final) = false := by simpa using h2
            clear h1 h2
            go_wp2
            go_roundw
            case rel => exact ⟨k + 1, f, by omega, by omega, by go_num, HX, HW⟩
            case measure => simp [intOf]; omega
        · have HX : Hid (findNo kind final = firstNo (fun k => decide (setKind k = kind) && decide (setFinal k = final)) f ((k + 1 : Nat) : Int)) := Lib.hid (by rw [HR.out, HU.out]; simp [h1])
          have z1 : (a == kind) = false := by simpa using h1
          clear h1
          go_wp2
          go_roundw
          case rel => exact ⟨k + 1, f, by omega, by omega, by go_num, HX, HW⟩
          case measure => simp [intOf]; omega
      · have hf : f = 0 := by omega
        subst hf
        have HE : Hid (findNo kind final = 0) := Lib.hid (by rw [HR.out]; rfl)
        go_wp2
        go_ret2
        exact ⟨ret_val (HF.out _ HE.out rfl).symm, HW.out⟩

end Go.Proofs.YtbamjhldebobhaaDoor
